/- Several texts joined (pack.py): Lr Ro. -/
import Derived.Test.YtfcjdinlcehpmaaGreatDoorPW00
import Derived.Deep.AppendSrc
import Derived.Deep.Upon
import Derived.Test.YtfcjdinlcehpmaaGreatDoorProg
import Derived.WalkKit
import Derived.BigQuiet
namespace Go.Gl
set_option linter.unusedVariables false
open Go.RowKit
structure Lr(w:World)(e:TypeId)(A:Option Addr)(n c:Nat)(G:List Nat)(xs:List Value):Prop where
 len:xs.length=n
 le:n≤c
 max:c≤maxLen
 zero:c=0→G=[]
 blk:0<c→∃g off cur,A=some ⟨g,off,none⟩∧G=[g]∧Blk w g e cur∧off+c≤cur.size∧(cur.toList.drop off).take n=xs
section
variable {w w':World}{e:TypeId}{A:Option Addr}{n c:Nat}{G F:List Nat}{xs:List Value}
theorem Lr.nil(w:World)(e:TypeId):Lr w e none 0 0 [] []:=⟨rfl,Nat.le_refl _,Nat.zero_le _,fun _=>rfl,fun h=>absurd h (by decide)⟩
theorem Lr.fr(h:Lr w e A n c G xs)(hf:Fr F w w')(hd:∀g,g∈G→g∉F):Lr w' e A n c G xs:=
 ⟨h.len,h.le,h.max,h.zero,fun hc=>by
  obtain⟨g,off,cur,h1,h2,h3,h4,h5⟩:=h.blk hc
  exact⟨g,off,cur,h1,h2,h3.fr hf (hd g (by simp [h2])),h4,h5⟩⟩
theorem Lr.fr0(h:Lr w e A n c G xs)(hf:Fr [] w w'):Lr w' e A n c G xs:=h.fr hf (fun _ _=>by simp)
theorem Lr.alloc(h:Lr w e A n c G xs)(o:Obj):Lr (w.alloc o) e A n c G xs:=h.fr0 ((Fr.refl _ _).alloc o)
theorem Lr.lt(h:Lr w e A n c G xs):∀g,g∈G→g<w.heap.size:=by
 intro g hg
 rcases Nat.eq_zero_or_pos c with h0 | h0
 ·rw [h.zero h0]at hg;cases hg
 ·obtain⟨g',off,cur,h1,h2,h3,_⟩:=h.blk h0
  rw [h2]at hg
  simp at hg
  exact hg ▸ h3.lt
theorem Lr.apart(h:Lr w e A n c G xs){g:Nat}{t:TypeId}{cs:Array Value}(hb:Blk w g t cs)(hne:e≠t):g∉G:=by
 intro hg
 rcases Nat.eq_zero_or_pos c with h0 | h0
 ·rw [h.zero h0]at hg;cases hg
 ·obtain⟨g',off,cur,h1,h2,h3,_⟩:=h.blk h0
  rw [h2]at hg
  simp at hg
  exact Blk.apart h3 hb hne hg.symm
theorem Lr.pos(h:Lr w e A n c G xs)(hn:0<n):∃g off,A=some ⟨g,off,none⟩∧G=[g]∧g<w.heap.size∧(∀k,k<n→w.cell? ⟨g,off+k,none⟩=xs[k]?)∧(∀k,w.frozen? ⟨g,k,none⟩=false)∧∃cur,Blk w g e cur∧off+c≤cur.size:=by
 obtain⟨g,off,cur,h1,h2,h3,h4,h5⟩:=h.blk (by have:=h.le;omega)
 refine⟨g,off,h1,h2,h3.lt,fun k hk=>?_,fun k=>h3.frozen k,cur,h3,h4⟩
 rw [h3.cell,← h5,List.getElem?_take_of_lt hk,List.getElem?_drop,Array.getElem?_toList]
theorem Lr.read(h:Lr w e A n c G xs):0<n→∃ad,A=some ad∧∀j u,xs[j]?=some u→w.cell? (ad.add j)=some u:=fun hn=>by
 obtain⟨g,off,h1,_,h2,h3,_⟩:=h.pos hn
 refine⟨_,h1,fun j u hu=>?_⟩
 have hj:j<n:=by rw [← h.len];exact(List.getElem?_eq_some_iff.1 hu).1
 rw [show(⟨g,off,none⟩:Addr).add j=⟨g,off+j,none⟩ from Go.WideShapes.add_plain _ _ _,h3 j hj,hu]
theorem Lr.cut(h:Lr w e A n c G xs)(k:Nat)(hk:k≤n):Lr w e (if c=k then A else A.map (·.add k)) (n-k) (c-k) (if c=k then [] else G) (xs.drop k):=by
 refine⟨by simp [h.len],by have:=h.le;omega,by have:=h.max;omega,fun h0=>by rw [if_pos (by have:=h.le;omega)],fun hc=>?_⟩
 rw [if_neg (by omega),if_neg (by omega)]
 obtain⟨g,off,cur,h1,h2,h3,h4,h5⟩:=h.blk (by omega)
 refine⟨g,off+k,cur,?_,h2,h3,by omega,?_⟩
 ·rw [h1];simp [Go.WideShapes.add_plain]
 ·rw [← h5,← List.drop_drop,List.drop_take]
theorem Lr.keep(h:Lr w e A n c G xs)(k:Nat)(hk:k≤n):Lr w e A k c G (xs.take k):=by
 refine⟨by simp [h.len];omega,by have:=h.le;omega,h.max,h.zero,fun hc=>?_⟩
 obtain⟨g,off,cur,h1,h2,h3,h4,h5⟩:=h.blk hc
 refine⟨g,off,cur,h1,h2,h3,h4,?_⟩
 rw [← h5,List.take_take]
 congr 1;omega
theorem Lr.put{g off k:Nat}(h:Lr w e (some ⟨g,off,none⟩) n c G xs)(hk:k<n)(u:Value):Lr (w.setCell ⟨g,off+k,none⟩ u) e (some ⟨g,off,none⟩) n c G (xs.set k u):=by
 refine⟨by simp [h.len],h.le,h.max,h.zero,fun hc=>?_⟩
 obtain⟨g',off',cur,h1,h2,h3,h4,h5⟩:=h.blk hc
 have hle:=h.le
 injection h1 with h1
 injection h1 with h1 h1'
 subst h1 h1'
 refine⟨_,_,_,rfl,h2,h3.put (off+k) u,by simp;omega,?_⟩
 rw [← h5]
 apply List.ext_getElem?
 intro j
 rw [List.getElem?_take,List.getElem?_drop,Array.getElem?_toList,Array.getElem?_setIfInBounds,List.getElem?_set,List.getElem?_take,List.getElem?_drop,Array.getElem?_toList]
 by_cases hj:k=j
 ·subst hj
  have h1:off+k<cur.size:=by omega
  simp [hk,h1]
  omega
 ·simp [hj]
end
section
variable {P:Program}{w:World}
theorem run_append_lr(t ty e:TypeId)(i:TypeInfo)(z:Value)(bytes:Nat)(ht:P.underlying t=some (.slice e))(hi:P.info? e=some i)(hz:i.zero=some z)(hsize:i.size=1)(hby:i.bytes=bytes)(hzs:z.cells.size=1)
  {A:Option Addr} {n c:Nat} {G:List Nat} {xs:List Value} (h:Lr w e A n c G xs) {X:Option Addr} {m cx:Nat} {news:List Value} (hl:news.length=m)
  (hx:0<m→∃ad,X=some ad∧∀j u,news[j]?=some u→w.cell? (ad.add j)=some u) (h1:∀u∈news,u.oneCell'=true) (h63:n+m≤maxLen) (hb:(n+m)*bytes≤140737488355328) :
  ∃A' c' G' w',(Builtin.append_ #[t,t] ty #[.slice A n c,.slice X m cx]).run P w=.ok (.slice A' (n+m) c') w'∧Lr w' e A' (n+m) c' G' (xs++news)∧Fr G w w'∧(∀g,g∈G'→g∈G∨(g=w.heap.size∧0<m)):=by
 subst hby
 rcases Nat.eq_zero_or_pos m with h0 | hm
 ·subst h0
  obtain rfl:news=[]:=List.eq_nil_of_length_eq_zero hl
  refine⟨A,c,G,w,?_,by simpa using h,Fr.refl _ _,fun g hg=>.inl hg⟩
  cases X with
  | none=>exact run_append_nothing w t t ty e i ht hi A n c h.le _ (Src.ofNil w ht cx)
  | some a=>exact run_append_nothing w t t ty e i ht hi A n c h.le _ (Src.ofSlice w ht a 0 cx [] (by simp) (fun j u hu=>by simp at hu) (fun _ hu=>by cases hu))
 ·obtain⟨ad,rfl,hn⟩:=hx hm
  have hle:=h.le
  by_cases hr:n+m≤c
  ·obtain⟨g,off,cur,rfl,rfl,hb,hsz,htk⟩:=h.blk (by omega)
   have hf:=run_firstCells_some (P:=P) w i.size m ad m cx news (by rw [hsize];omega) hn
   have hst:=run_storeCells_at P g (off+n) e news 0 cur w hb (by omega) h1
   simp only [Nat.add_zero]at hst
   rw [hsize]at hf
   refine⟨some ⟨g,off,none⟩,c,[g],w.setRow g (cur.toList.take (off+n)++news++cur.toList.drop (off+n+news.length)).toArray,?_,⟨by simp [h.len,hl],hr,h.max,fun h=>absurd h (by omega),fun _=>⟨g,off,_,rfl,rfl,Blk.setRow hb _,?_,?_⟩⟩,Fr.setRow (by simp) _,fun x hx=>.inl hx⟩
   ·simp [Builtin.append_,run_underlying ht,sizeOf,typeInfo,hi,Builtin.lenOf,hr,hsize,hf,Addr.add_lit,hst]
   ·simp;omega
   ·have e1:(cur.toList.take (off+n)).length=off+n:=by simp;omega
    rw [List.append_assoc,List.drop_append_of_le_length (by omega),List.take_append,List.take_of_length_le (by simp;omega)]
    have e2:((cur.toList.take (off+n)).drop off)=xs:=by
     rw [← htk,List.drop_take];congr 1;omega
    rw [e2,h.len,show n+m-n=m by omega,List.take_append_of_le_length (by omega),List.take_of_length_le (by omega)]
  ·have hsmall:n+m≤9223372036854775807:=by simp only [maxLen]at h63;omega
   have hge:=grownCap_ge w (n+m) c e
   have hcm:grownCap w (n+m) c e≤maxLen:=grownCap_le_maxLen w (n+m) c e h63
   have hold:(Builtin.firstCells i.size n (.slice A n c)).run P w.drew=.ok xs.toArray w.drew:=by
    rcases Nat.eq_zero_or_pos n with hn0 | hn0
    ·subst hn0
     obtain rfl:xs=[]:=List.eq_nil_of_length_eq_zero h.len
     cases A with
     | none=>exact run_firstCells_none w.drew i.size 0 0 c
     | some a=>exact run_firstCells_some w.drew i.size 0 a 0 c [] (by simp) (fun j u hu=>by simp at hu)
    ·obtain⟨a,rfl,ha⟩:=h.read hn0
     exact run_firstCells_some w.drew i.size n a n c xs (by rw [hsize,h.len];omega) (by simpa using ha)
   have hr:=run_append_grow_src (P:=P) w t t ty e i z ht hi hz A n c xs hold (.slice (some ad) m cx) m news (Src.ofSlice w ht ad m cx news (by rw [hsize];omega) hn h1) (by omega) (by omega) (growslice_fits (by omega) hb)
   refine⟨_,_,[w.heap.size],_,hr,⟨by simp [h.len,hl],hge,hcm,fun h=>absurd h (by omega),fun _=>⟨w.heap.size,0,_,rfl,rfl,Blk.new w.drew _ _,?_,?_⟩⟩,((Fr.refl _ _).drew).alloc _,fun x hx=>.inr ⟨by simpa using hx,hm⟩⟩
   ·simp [size_zeroCells,hzs,h.len,hl];omega
   ·simp only [Array.toList_append,List.drop_zero]
    rw [List.take_append_of_le_length (by simp [h.len,hl]),List.take_of_length_le (by simp [h.len,hl])]
theorem wpList_append_lr{ops:Array Oper}{rest:List Oper}{o:Oper}{a:Act}{Q:Exit→Act→World→Prop}(hgd:o.guard=none)(s x:Operand)(t:TypeId)
  (ho:o.op=.call { callee:=.builtin .append,args:=#[s,x],argTypes:=#[t,t] })
  (e:TypeId) (i:TypeInfo) (z:Value) (bytes:Nat) (ht:P.underlying t=some (.slice e)) (hi:P.info? e=some i) (hz:i.zero=some z) (hsize:i.size=1) (hby:i.bytes=bytes) (hzs:z.cells.size=1)
  {A:Option Addr} {n c:Nat} {G:List Nat} {xs:List Value} (hs:a.eval s=.slice A n c) (h:Lr w e A n c G xs) {X:Option Addr} {m cx:Nat} {news:List Value} (hxv:a.eval x=.slice X m cx) (hl:news.length=m)
  (hx:0<m→∃ad,X=some ad∧∀j u,news[j]?=some u→w.cell? (ad.add j)=some u) (h1:∀u∈news,u.oneCell'=true) (h63:n+m≤maxLen) (hb:(n+m)*bytes≤140737488355328)
  (hK:∀A' c' G' w',Hid (Lr w' e A' (n+m) c' G' (xs++news))→Hid (Fr G w w')→Hid (∀g,g∈G'→g∈G∨(g=w.heap.size∧0<m))→wpList P ops Q rest (a.put o.dst (.slice A' (n+m) c')) w'):wpList P ops Q (o::rest) a w:=by
 refine wpList_plain hgd fun K hK'=>?_
 obtain⟨A',c',G',w',hrun,r1,r2,r3⟩:=run_append_lr (P:=P) t o.type e i z bytes ht hi hz hsize hby hzs h hl hx h1 h63 hb (cx:=cx)
 unfold Oper.wp
 simp [execOp,ho,resolve,invoke,builtin,hs,hxv,hrun,Result.andThen]
 exact hK' _ _ (hK A' c' G' w' r1 r2 r3)
theorem step_append_lr{ops:Array Oper}{o:Oper}{a:Act}{K:Act→World→Prop}{Q:Exit→Act→World→Prop}{E:Prop}(hgd:o.guard=none)(s x:Operand)(t:TypeId)
  (ho:o.op=.call { callee:=.builtin .append,args:=#[s,x],argTypes:=#[t,t] })
  (e:TypeId) (i:TypeInfo) (z:Value) (bytes:Nat) (ht:P.underlying t=some (.slice e)) (hi:P.info? e=some i) (hz:i.zero=some z) (hsize:i.size=1) (hby:i.bytes=bytes) (hzs:z.cells.size=1)
  {A:Option Addr} {n c:Nat} {G:List Nat} {xs:List Value} (hs:a.eval s=.slice A n c) (h:Lr w e A n c G xs) {X:Option Addr} {m cx:Nat} {news:List Value} (hxv:a.eval x=.slice X m cx) (hl:news.length=m)
  (hx:0<m→∃ad,X=some ad∧∀j u,news[j]?=some u→w.cell? (ad.add j)=some u) (h1:∀u∈news,u.oneCell'=true) (h63:n+m≤maxLen) (hb:(n+m)*bytes≤140737488355328)
  (hK:∀A' c' G' w',Hid (Lr w' e A' (n+m) c' G' (xs++news))→Hid (Fr G w w')→Hid (∀g,g∈G'→g∈G∨(g=w.heap.size∧0<m))→K (a.put o.dst (.slice A' (n+m) c')) w') :
  if Region.wanted o (yielded ops a.tmps)=true then Oper.wp P o a w K Q else E:=by
 have hw:Region.wanted o (yielded ops a.tmps)=true:=by simp [Region.wanted,hgd]
 rw [if_pos hw]
 obtain⟨A',c',G',w',hrun,r1,r2,r3⟩:=run_append_lr (P:=P) t o.type e i z bytes ht hi hz hsize hby hzs h hl hx h1 h63 hb (cx:=cx)
 unfold Oper.wp
 simp [execOp,ho,resolve,invoke,builtin,hs,hxv,hrun,Result.andThen]
 exact hK A' c' G' w' r1 r2 r3
end
def zv(l:List Int):List Value:=l.map (Value.int .i64)
theorem zv_app(a b:List Int):zv (a++b)=zv a++zv b:=by simp [zv]
theorem zv_take(l:List Int)(k:Nat):zv (l.take k)=(zv l).take k:=by simp [zv,List.map_take]
theorem zv_drop(l:List Int)(k:Nat):zv (l.drop k)=(zv l).drop k:=by simp [zv,List.map_drop]
theorem zv_one(l:List Int):∀u∈zv l,u.oneCell'=true:=by
 intro u hu
 obtain⟨x,_,rfl⟩:=List.mem_map.1 hu
 rfl
theorem one_of(w:World)(v:Value)(t:TypeId){b:Nat}(hb:w.heap.size=b)(w':World)(hf:Fr [] (w.alloc (.cells #[v] t)) w'):∃ad,some (⟨b,0,none⟩:Addr)=some ad∧∀j u,[v][j]?=some u→w'.cell? (ad.add j)=some u:=by
 subst hb
 refine⟨_,rfl,fun j u hj=>?_⟩
 have hb:=(Blk.new w t #[v]).fr hf (by simp)
 match j,hj with
 | 0,hj=>
  simp only [List.getElem?_cons_zero,Option.some.injEq]at hj
  subst hj
  exact hb.cell 0
def rowF(n:Nat)(f:Nat→Value):Array Value:=((List.range n).map f).toArray
def putF{α:Type}(f:Nat→α)(k:Nat)(v:α):Nat→α:=fun j=>if j=k then v else f j
theorem putF_at{α:Type}(f:Nat→α)(k:Nat)(v:α):putF f k v k=v:=by simp [putF]
theorem putF_ne{α:Type}(f:Nat→α){k j:Nat}(v:α)(h:j≠k):putF f k v j=f j:=by simp [putF,h]
theorem rowF_size(n:Nat)(f:Nat→Value):(rowF n f).size=n:=by simp [rowF]
theorem rowF_at{n:Nat}{f:Nat→Value}{k:Nat}(h:k<n):(rowF n f)[k]?=some (f k):=by simp [rowF,h]
theorem rowF_ext{n:Nat}{f:Nat→Value}{cs:Array Value}(hs:cs.size=n)(h:∀k,k<n→cs[k]?=some (f k)):cs=rowF n f:=by
 apply Array.ext
 ·rw [hs,rowF_size]
 ·intro i h1 h2
  have a1:=h i (by omega)
  have a2:=rowF_at (f:=f) (show i<n by omega)
  rw [Array.getElem?_eq_getElem h1]at a1
  rw [Array.getElem?_eq_getElem h2]at a2
  exact Option.some.inj (a1.trans a2.symm)
theorem rowF_set(n:Nat)(f:Nat→Value)(k:Nat)(v:Value):(rowF n f).setIfInBounds k v=rowF n (putF f k v):=by
 refine rowF_ext (by simp [rowF_size]) fun j hj=>?_
 rw [Array.getElem?_setIfInBounds]
 unfold putF
 by_cases h:k=j
 ·subst h
  rw [if_pos rfl,if_pos (by rw [rowF_size];exact hj),if_pos rfl]
 ·rw [if_neg h,if_neg (Ne.symm h),rowF_at hj]
theorem rowF_const(n:Nat)(v:Value):rowF n (fun _=>v)=(List.replicate n v).toArray:=by
 unfold rowF
 congr 1
 apply List.ext_getElem <;> simp
structure Ls(ti ts:TypeId)(w:World)(tb n:Nat)(V:Nat→Value)(G:Nat→List Nat)(O:Nat→List Int):Prop where
 tab:Blk w tb ts (rowF n V)
 own:∀i,i<n→∃A c,V i=.slice A (O i).length c∧Lr w ti A (O i).length c (G i) (zv (O i))
 apart:∀i j,i<n→j<n→i≠j→∀g,g∈G i→g∉G j
section
variable {ti ts:TypeId}{w w':World}{tb n:Nat}{V:Nat→Value}{G:Nat→List Nat}{O:Nat→List Int}{F:List Nat}
theorem Ls.fr(h:Ls ti ts w tb n V G O)(hf:Fr F w w')(h1:tb∉F)(h2:∀i,i<n→∀g,g∈G i→g∉F):Ls ti ts w' tb n V G O:=
 ⟨h.tab.fr hf h1,fun i hi=>by
  obtain⟨A,c,e1,e2⟩:=h.own i hi
  exact⟨A,c,e1,e2.fr hf (h2 i hi)⟩,h.apart⟩
theorem Ls.cw(h:Ls ti ts w tb n V G O){k:Nat}(hk:k<n):w.cell? ⟨tb,k,none⟩=some (V k):=by rw [h.tab.cell,rowF_at hk]
theorem Ls.far(h:Ls ti ts w tb n V G O)(hne:ti≠ts){k:Nat}(hk:k<n):tb∉G k:=by
 obtain⟨A,c,e1,e2⟩:=h.own k hk
 exact e2.apart h.tab hne
theorem Ls.lt(h:Ls ti ts w tb n V G O){k:Nat}(hk:k<n):∀g,g∈G k→g<w.heap.size:=by
 obtain⟨A,c,e1,e2⟩:=h.own k hk
 exact e2.lt
theorem Ls.put(h:Ls ti ts w tb n V G O)(hne:ti≠ts){k:Nat}(hk:k<n){A:Option Addr}{c:Nat}{G1:List Nat}{l:List Int}(hf:Fr (G k) w w')(hl:Lr w' ti A l.length c G1 (zv l))(hg:∀g,g∈G1→g∈G k∨w.heap.size≤g) :
  Ls ti ts (w'.setCell ⟨tb,k,none⟩ (.slice A l.length c)) tb n (putF V k (.slice A l.length c)) (putF G k G1) (putF O k l):=by
 have hF:Fr [tb] w' (w'.setCell ⟨tb,k,none⟩ (.slice A l.length c)):=(Fr.refl _ _).setCell (p:=⟨tb,k,none⟩) (.inl (by simp)) _
 have ht:=h.tab.fr hf (h.far hne hk)
 refine⟨by have:=ht.put k (.slice A l.length c);rw [rowF_set]at this;exact this,fun i hi=>?_,fun i j hi hj hij g hgi hgj=>?_⟩
 ·by_cases hik:i=k
  ·subst hik
   rw [putF_at,putF_at,putF_at]
   refine⟨A,c,rfl,hl.fr hF fun g hg1=>?_⟩
   have:=hl.apart ht hne
   intro h0
   simp at h0
   subst h0
   exact this hg1
  ·rw [putF_ne _ _ hik,putF_ne _ _ hik,putF_ne _ _ hik]
   obtain⟨A',c',e1,e2⟩:=h.own i hi
   refine⟨A',c',e1,(e2.fr hf (h.apart i k hi hk hik)).fr hF fun g hg1=>?_⟩
   have:=e2.apart h.tab hne
   intro h0
   simp at h0
   subst h0
   exact this hg1
 ·by_cases hik:i=k
  ·subst hik
   rw [putF_at]at hgi
   rw [putF_ne _ _ (fun h=>hij h.symm)]at hgj
   rcases hg g hgi with h1 | h1
   ·exact h.apart i j hi hj hij g h1 hgj
   ·have:=h.lt hj g hgj;omega
  ·rw [putF_ne _ _ hik]at hgi
   by_cases hjk:j=k
   ·subst hjk
    rw [putF_at]at hgj
    rcases hg g hgj with h1 | h1
    ·exact h.apart i j hi hj hij g hgi h1
    ·have:=h.lt hi g hgi;omega
   ·rw [putF_ne _ _ hjk]at hgj
    exact h.apart i j hi hj hij g hgi hgj
end
end Go.Gl
namespace Go.Proofs.YtfcjdinlcehpmaaGreatDoor
set_option linter.unusedVariables false
open Go.RowKit Go.Gl
theorem Tryz.info_ref:(Tryz.prog.info? 45).map (fun i=>(i.zero,i.size,i.bytes))=some (some (.int .u64 0),1,8):=by kernel_rfl
def refV(l:List Int):List Value:=l.map (Value.int .u64)
theorem refV_len(l:List Int):(refV l).length=l.length:=by simp [refV]
theorem refV_app(a b:List Int):refV (a++b)=refV a++refV b:=by simp [refV]
theorem refV_take(l:List Int)(k:Nat):refV (l.take k)=(refV l).take k:=by simp [refV,List.map_take]
theorem refV_set(l:List Int)(k:Nat)(r:Int):refV (l.set k r)=(refV l).set k (.int .u64 r):=by simp [refV,List.map_set]
theorem refV_get(l:List Int){k:Nat}(h:k<l.length):(refV l)[k]?=some (.int .u64 (l.getD k 0)):=by simp [refV,h]
theorem refSl{w:World}{e:TypeId}{A:Option Addr}{n c:Nat}{G:List Nat}{l:List Int}(h:Lr w e A n c G (refV l)):Sl w A n (fun k=>.int .u64 (l.getD k 0)):=fun hn=>by
 obtain⟨g,off,h1,_,h2,h3,_⟩:=h.pos hn
 refine⟨g,off,h1,h2,fun k hk=>?_⟩
 rw [h3 k hk,refV_get _ (by have:=h.len;rw [refV_len]at this;omega)]
theorem lrNone(w:World)(e:TypeId)(A:Option Addr):Lr w e A 0 0 [] []:=⟨rfl,Nat.le_refl _,Nat.zero_le _,fun _=>rfl,fun h=>absurd h (by decide)⟩
structure Hk(lay:Value→Array Value)(t:TypeId)(w:World)(s:Nat)(A:Option Addr)(c:Nat)(G:List Nat)(l:List Int):Prop where
 st:Blk w s t (lay (.slice A l.length c))
 row:Lr w 45 A l.length c G (refV l)
def layH(B:Nat)(v:Value):Array Value:=#[v,.int .i64 (B:Int)]
def layR12(B:Nat)(v:Value):Array Value:=#[.int .i64 (B:Int),v]
section
variable {lay:Value→Array Value}{t:TypeId}{w w':World}{s c B:Nat}{A:Option Addr}{F G:List Nat}{l:List Int}
theorem Hk.fr(h:Hk lay t w s A c G l)(hf:Fr F w w')(h1:s∉F)(h2:∀g,g∈G→g∉F):Hk lay t w' s A c G l:=⟨h.st.fr hf h1,h.row.fr hf h2⟩
theorem Hk.far(h:Hk lay t w s A c G l)(ht:45≠t):s∉G:=h.row.apart h.st ht
theorem Hk.put(h:Hk lay t w s A c G l)(ht:45≠t){ci:Nat}(hl:∀a b,(lay a).setIfInBounds ci b=lay b){l':List Int}{A':Option Addr}{c':Nat}{G':List Nat}(hf:Fr G w w')(hr:Lr w' 45 A' l'.length c' G' (refV l')) :
  Hk lay t (w'.setCell ⟨s,ci,none⟩ (.slice A' l'.length c')) s A' c' G' l':=by
 have h1:=h.st.fr hf (h.far ht)
 refine⟨by have:=h1.put ci (.slice A' l'.length c');rwa [hl]at this,hr.fr (F:=[s]) ((Fr.refl _ _).setCell (p:=⟨s,ci,none⟩) (.inl (by simp)) _) fun g hg h0=>?_⟩
 simp at h0
 subst h0
 exact hr.apart h1 ht hg
theorem Hk.put_fr(hf:Fr G w w')(ci:Nat)(v:Value):Fr (s::G) w (w'.setCell ⟨s,ci,none⟩ v):=
 (hf.mono (G:=s::G) (fun x hx=>.inl (by simp [hx]))).setCell (p:=⟨s,ci,none⟩) (.inl (by simp)) v
end
abbrev HkP(w:World)(s:Nat)(F:List Nat)(B:Nat)(l:List Int):Prop:=∃A c G,Hk (layH B) 121 w s A c G l∧F=s::G
section
variable {w w':World}{s c B:Nat}{A:Option Addr}{F F' G:List Nat}{l:List Int}
theorem HkP.fr(h:HkP w s F B l)(hf:Fr F' w w')(hd:∀g,g∈F→g∉F'):HkP w' s F B l:=by
 obtain⟨A,c,G,h,rfl⟩:=h
 exact⟨A,c,G,h.fr hf (hd s (by simp)) (fun g hg=>hd g (by simp [hg])),rfl⟩
theorem HkP.fr0(h:HkP w s F B l)(hf:Fr [] w w'):HkP w' s F B l:=h.fr hf (fun _ _=>by simp)
theorem HkP.drewN(h:HkP w s F B l)(k:Nat):HkP (w.drewN k) s F B l:=h.fr0 ((Fr.refl _ _).drewN k)
theorem HkP.lt(h:HkP w s F B l):∀g,g∈F→g<w.heap.size:=by
 obtain⟨A,c,G,h,rfl⟩:=h
 intro g hg
 rcases List.mem_cons.1 hg with rfl | hg
 ·exact h.st.lt
 ·exact h.row.lt g hg
theorem HkP.at_(h:HkP w s F B l):∃A c,w.cell? ⟨s,0,none⟩=some (.slice A l.length c)∧w.cell? ⟨s,1,none⟩=some (.int .i64 (B:Int))∧(∀k,w.frozen? ⟨s,k,none⟩=false)∧l.length≤maxLen:=by
 obtain⟨A,c,G,h,rfl⟩:=h
 exact⟨A,c,by rw [h.st.cell];rfl,by rw [h.st.cell];rfl,fun k=>h.st.frozen k,Nat.le_trans h.row.le h.row.max⟩
end
def hkIn(l:List Int)(i:Int):Prop:=0≤i∧i<(l.length:Int)
instance (l:List Int) (i:Int):Decidable (hkIn l i):=by unfold hkIn;infer_instance
def hkAt(l:List Int)(i:Int):Int:=if hkIn l i then l.getD i.toNat 0 else 0
def hkAtE(l:List Int)(i:Int):Int:=if hkIn l i then 0 else 10
def hkSet(l:List Int)(i r:Int):List Int:=if hkIn l i then l.set i.toNat r else l
def hkPush(B:Nat)(l:List Int)(r:Int):List Int:=if l.length<B then l++[r] else l
def hkPushE(B:Nat)(l:List Int):Int:=if l.length<B then 0 else 15
def hkPop(l:List Int):List Int:=l.take (l.length-1)
def hkPopV(l:List Int):Int:=l.getD (l.length-1) 0
def hkPopE(l:List Int):Int:=if l.length=0 then 14 else 0
theorem hkPush_len{B:Nat}{l:List Int}(h:l.length≤B)(r:Int):(hkPush B l r).length≤B:=by
 unfold hkPush
 split
 ·simp;omega
 ·exact h
theorem hkPop_len{B:Nat}{l:List Int}(h:l.length≤B):(hkPop l).length≤B:=by unfold hkPop;simp;omega
theorem hkIn_ways(l:List Int)(i:Int):(i<0∧¬ hkIn l i)∨(¬ i<0∧(l.length:Int)≤i∧¬ hkIn l i)∨∃k:Nat,i=(k:Int)∧k<l.length∧hkIn l (k:Int):=by
 unfold hkIn
 by_cases h1:i<0
 ·exact .inl ⟨h1,by omega⟩
 by_cases h2:(l.length:Int)≤i
 ·exact .inr (.inl ⟨h1,h2,by omega⟩)
 ·obtain⟨k,rfl⟩:=Int.eq_ofNat_of_zero_le (show 0≤i by omega)
  exact .inr (.inr ⟨k,rfl,by omega,by omega⟩)
def HkNew(Q:World→Nat→List Nat→Prop)(w:World)(e:Ending)(w':World):Prop:=∃s F,e=.returned (.tuple #[.pointer (some ⟨s,0,none⟩),.int .i64 0])∧Q w' s F∧Fr [] w w'∧∀x,x∈F→w.heap.size≤x
theorem hnew_ok(B:Nat)(h1:1≤B)(h2:B≤64)(w:World):Calls Tryz.prog 30 #[.int .i64 (B:Int)] w (HkNew (fun w' s F=>HkP w' s F B []) w):=by
 have g1:¬ ((B:Int)<1):=by omega
 have g2:¬ ((B:Int)>64):=by omega
 go_enter Tryz.func30,Tryz.ntmps30
 go_wp2
 go_ret2
 exact⟨_,_,rfl,⟨none,0,[],⟨Blk.new _ _ _,Lr.nil _ _⟩,rfl⟩,(Fr.refl _ _).alloc _,fun x hx=>by simp at hx;omega⟩
section
variable {w:World}{s B:Nat}{F:List Nat}{l:List Int}
theorem hlen_any(h:HkP w s F B l):Calls Tryz.prog 14 #[.pointer (some ⟨s,0,none⟩)] w fun e w'=>e=.returned (.int .i64 (l.length:Int))∧w=w':=by
 obtain⟨A,c,c0,_,_,_⟩:=h.at_
 clear h
 go_enter Tryz.func14,Tryz.ntmps14
 go_wp2
 go_ret
 exact⟨rfl,rfl⟩
theorem hroom_any(h:HkP w s F B l)(hl:l.length≤B)(hB:B≤64):Calls Tryz.prog 80 #[.pointer (some ⟨s,0,none⟩)] w fun e w'=>e=.returned (.int .i64 ((B:Int)-(l.length:Int)))∧∃k,w'=w.drewN k:=by
 obtain⟨A,c,c0,c1,_,_⟩:=h.at_
 have e1:IntKind.i64.wrap ((B:Int)-(l.length:Int))=(B:Int)-(l.length:Int):=IntWalk.i64_in _ ⟨by omega,by omega⟩
 clear h
 go_enter Tryz.func80,Tryz.ntmps80
 go_wp2_with fail
 go_quiet (fail)
 go_wp2
 go_ret
 exact⟨rfl,_,rfl⟩
theorem hask_any(h:HkP w s F B l)(i:Int):Calls Tryz.prog 38 #[.pointer (some ⟨s,0,none⟩),.int .i64 i] w fun e w'=>e=.returned (.int .i64 (hkAtE l i))∧w=w':=by
 obtain⟨A,c,c0,_,_,_⟩:=h.at_
 clear h
 unfold hkAtE
 rcases hkIn_ways l i with⟨h1,h2⟩ | ⟨h1,h3,h2⟩ | ⟨k,rfl,h3,h2⟩
 ·rw [if_neg h2]
  clear h2
  go_enter Tryz.func38,Tryz.ntmps38
  go_wp2
  go_ret
  exact⟨rfl,rfl⟩
 ·rw [if_neg h2]
  clear h2
  go_enter Tryz.func38,Tryz.ntmps38
  go_wp2
  go_ret
  exact⟨rfl,rfl⟩
 ·rw [if_pos h2]
  clear h2
  have h4:(k:Int)<(l.length:Int):=by omega
  go_enter Tryz.func38,Tryz.ntmps38
  go_wp2
  go_ret
  exact⟨rfl,rfl⟩
theorem hat_any(h:HkP w s F B l)(i:Int):Calls Tryz.prog 18 #[.pointer (some ⟨s,0,none⟩),.int .i64 i] w fun e w'=>e=.returned (.tuple #[.int .u64 (hkAt l i),.int .i64 (hkAtE l i)])∧w=w':=by
 have HA:=hide (hask_any h i)
 by_cases hi:hkIn l i
 ·have hi':=hi
  unfold hkIn at hi'
  obtain⟨k,rfl⟩:=Int.eq_ofNat_of_zero_le hi'.1
  have hk:k<l.length:=by omega
  have hk':(k:Int)<(l.length:Int):=by omega
  obtain⟨A,c,G,h,rfl⟩:=h
  obtain⟨g,off,rfl,_,_,hx,_,_⟩:=h.row.pos (by omega)
  have c0:w.cell? ⟨s,0,none⟩=some (.slice (some ⟨g,off,none⟩) l.length c):=by rw [h.st.cell];rfl
  have c1:w.cell? ⟨g,off+k,none⟩=some (.int .u64 (l.getD k 0)):=by rw [hx k hk,refV_get l hk]
  have e1:hkAt l (k:Int)=l.getD k 0:=by unfold hkAt;rw [if_pos hi];rfl
  have e2:hkAtE l (k:Int)=0:=by unfold hkAtE;rw [if_pos hi]
  rw [e1]
  rw [e2]at HA ⊢
  clear h hx hi hi' e1 e2
  generalize l.getD k 0=x at *
  generalize l.length=n at *
  go_enter Tryz.func18,Tryz.ntmps18
  go_wp2_with fail
  refine HA.out.mono ?_
  rintro e w' ⟨rfl,rfl⟩
  go_wp2_with fail
  go_ret2
  exact⟨rfl,rfl⟩
 ·have e1:hkAt l i=0:=by unfold hkAt;rw [if_neg hi]
  have e2:hkAtE l i=10:=by unfold hkAtE;rw [if_neg hi]
  rw [e1]
  rw [e2]at HA ⊢
  clear h hi e1 e2
  go_enter Tryz.func18,Tryz.ntmps18
  go_wp2_with fail
  refine HA.out.mono ?_
  rintro e w' ⟨rfl,rfl⟩
  go_wp2_with fail
  go_ret2
  exact⟨rfl,rfl⟩
end
def HkPost(w:World)(F:List Nat)(Q:World→List Nat→Prop)(v:Value)(e:Ending)(w':World):Prop:=
 ∃F',e=.returned v∧Q w' F'∧Fr F w w'∧∀x,x∈F'→x∈F∨w.heap.size≤x
section
variable {w:World}{s B:Nat}{F:List Nat}{l:List Int}
theorem hpop_any(h:HkP w s F B l)(hl:l.length≤B)(hB:B≤64):Calls Tryz.prog 84 #[.pointer (some ⟨s,0,none⟩)] w (HkPost w F (fun w' F'=>HkP w' s F' B (hkPop l)) (.tuple #[.int .u64 (hkPopV l),.int .i64 (hkPopE l)])):=by
 have HH:=hide h
 obtain⟨A,c,G,h,rfl⟩:=h
 rcases Nat.eq_zero_or_pos l.length with h0 | h0
 ·obtain rfl:l=[]:=List.eq_nil_of_length_eq_zero h0
  have c0:w.cell? ⟨s,0,none⟩=some (.slice A 0 c):=by rw [h.st.cell];rfl
  clear h
  go_enter Tryz.func84,Tryz.ntmps84
  go_wp2
  go_ret2
  exact⟨_,rfl,HH.out,Fr.refl _ _,fun x hx=>.inl hx⟩
 ·obtain⟨k,hk⟩:∃k,l.length=k+1:=⟨l.length-1,by omega⟩
  obtain⟨g,off,rfl,rfl,_,hx,_,_⟩:=h.row.pos (by omega)
  have c0:w.cell? ⟨s,0,none⟩=some (.slice (some ⟨g,off,none⟩) (k+1) c):=by rw [h.st.cell,← hk];rfl
  have c1:w.cell? ⟨g,off+k,none⟩=some (.int .u64 (l.getD k 0)):=by rw [hx k (by omega),refV_get l (by omega)]
  have z0:=h.st.frozen 0
  have hkc:k+1≤c:=by have:=h.row.le;omega
  have hcm:=h.row.max
  unfold maxLen at hcm
  have e1:hkPop l=l.take k:=by unfold hkPop;rw [hk];rfl
  have e2:hkPopV l=l.getD k 0:=by unfold hkPopV;rw [hk];rfl
  have e3:hkPopE l=0:=by unfold hkPopE;rw [if_neg (by omega)]
  have hlen:(l.take k).length=k:=by rw [List.length_take];omega
  have HQ:Hid (HkP (w.setCell ⟨s,0,none⟩ (.slice (some ⟨g,off,none⟩) k c)) s (s::[g]) B (l.take k)):=by
   have h1:=h.row.keep k (by omega)
   rw [← refV_take]at h1
   have h2:=h.put (by decide) (ci:=0) (fun _ _=>rfl) (l':=l.take k) (Fr.refl _ _) (by rw [hlen];exact h1)
   rw [hlen]at h2
   exact⟨_,c,[g],h2,rfl⟩
  rw [e1,e2,e3]
  clear h hx e1 e2 e3 hlen hk HH h0 hl hB
  generalize l.getD k 0=x at *
  generalize l.take k=l' at *
  go_enter Tryz.func84,Tryz.ntmps84
  go_wp2
  go_ret2
  exact⟨_,rfl,HQ.out,(Fr.refl _ _).setCell (p:=⟨s,0,none⟩) (.inl (by simp)) _,fun x hx=>.inl hx⟩
theorem hpush_any(h:HkP w s F B l)(hl:l.length≤B)(hB:B≤64)(r:Int):Calls Tryz.prog 63 #[.pointer (some ⟨s,0,none⟩),.int .u64 r] w (HkPost w F (fun w' F'=>HkP w' s F' B (hkPush B l r)) (.int .i64 (hkPushE B l))):=by
 obtain⟨i0,hi,hz0,hz1,hz2⟩:=info_parts Tryz.info_ref
 have HR:=hide (hroom_any h hl hB)
 have HH:=hide h
 by_cases hlt:l.length<B
 ·have e1:hkPush B l r=l++[r]:=by unfold hkPush;rw [if_pos hlt]
  have e2:hkPushE B l=0:=by unfold hkPushE;rw [if_pos hlt]
  obtain⟨D,hD,hD0⟩:∃D:Nat,(B:Int)-(l.length:Int)=(D:Int)∧D≠0:=⟨B-l.length,by omega,by omega⟩
  have hn:((D:Int)==0)=false:=by simpa using hD0
  rw [hD]at HR
  rw [e1,e2]
  clear e1 e2 hD hD0
  obtain⟨A,c,G,h,rfl⟩:=h
  have HL:=hide h
  have HN:Hid (([Value.int .u64 r]).length=1∧(∀u∈[Value.int .u64 r],u.oneCell'=true)∧l.length+1≤maxLen∧(l.length+1)*8≤140737488355328):=⟨rfl,by simp [Value.oneCell'],by unfold maxLen;omega,by omega⟩
  clear h hl hB hlt
  go_enter Tryz.func63,Tryz.ntmps63
  go_wp2_with fail
  refine HR.out.mono ?_
  rintro e w1 ⟨rfl,q,hq⟩
  have HL1:Hid (Hk (layH B) 121 w1 s A c G l):=hq ▸ HL.out.fr ((Fr.refl [] w).drewN q) (by simp) (fun _ _=>by simp)
  have HF1:Hid (Fr [] w w1):=hq ▸ (Fr.refl [] w).drewN q
  clear hq HR
  have c0:w1.cell? ⟨s,0,none⟩=some (.slice A l.length c):=by rw [HL1.out.st.cell];rfl
  have N0:s<w1.heap.size:=HL1.out.st.lt
  have HFZ:Hid (∀w2 w',Fr [] w1 w2→Fr G w2 w'→w'.cell? ⟨s,0,none⟩=some (.slice A l.length c)∧w'.frozen? ⟨s,0,none⟩=false):=fun w2 w' hf0 hf=>by
   have hb:=(HL1.out.st.fr hf0 (by simp)).fr hf (HL1.out.far (by decide))
   exact⟨by rw [hb.cell];rfl,hb.frozen 0⟩
  have HL2:Hid (Hk (layH B) 121 (w1.alloc (.cells #[.int .u64 r] 45)) s A c G l):=HL1.out.fr ((Fr.refl [] w1).alloc _) (by simp) (fun _ _=>by simp)
  obtain⟨n,hn0⟩:∃n,n=l.length:=⟨_,rfl⟩
  have hlen:(l++[r]).length=n+1:=by simp [hn0]
  rw [← hn0]at c0 HN HFZ
  have HLR:Hid (Lr (w1.alloc (.cells #[.int .u64 r] 45)) 45 A n c G (refV l)):=by rw [hn0];exact HL2.out.row
  have HLN:=hide hlen
  clear hn0 hlen
  go_wp2_with (first | (at_builtin;refine wpList_append_lr rfl _ _ 30 rfl 45 i0 (.int .u64 0) 8 Tryz.underlying30 hi hz0 hz1 hz2 rfl rfl HLR.out rfl HN.out.1 (fun _=>one_of w1 _ 45 rfl _ (Fr.refl _ _)) HN.out.2.1 HN.out.2.2.1 HN.out.2.2.2 ?_;intro A' c' G' w' HLn HFn HGn;have d0:=(HFZ.out _ _ ((Fr.refl _ _).alloc _) HFn.out).1;have dz:=(HFZ.out _ _ ((Fr.refl _ _).alloc _) HFn.out).2))
  have HQ:Hid (HkP (w'.setCell ⟨s,0,none⟩ (.slice A' (n+1) c')) s (s::G') B (l++[r])):=by
   have h2:=HL2.out.put (by decide) (ci:=0) (fun _ _=>rfl) (l':=l++[r]) (A':=A') (c':=c') (G':=G') HFn.out (by rw [HLN.out,refV_app];exact HLn.out)
   rw [HLN.out]at h2
   exact⟨_,c',G',h2,rfl⟩
  have HF2:Hid (Fr (s::G) w (w'.setCell ⟨s,0,none⟩ (.slice A' (n+1) c'))):=((HF1.out.alloc (.cells #[.int .u64 r] 45)).mono (G:=s::G) (fun _ h=>by cases h)).trans_same (Hk.put_fr HFn.out 0 _)
  go_ret
  refine⟨_,rfl,HQ.out,HF2.out,fun x hx=>?_⟩
  rcases List.mem_cons.1 hx with rfl | hx
  ·exact .inl (by simp)
  ·rcases HGn.out x hx with h1 | ⟨h1,_⟩
   ·exact .inl (by simp [h1])
   ·have:=HF1.out.size
    right
    rw [h1]
    simp
    omega
 ·have e1:hkPush B l r=l:=by unfold hkPush;rw [if_neg hlt]
  have e2:hkPushE B l=15:=by unfold hkPushE;rw [if_neg hlt]
  have hn:(B:Int)-(l.length:Int)=0:=by omega
  rw [e1,e2]
  rw [hn]at HR
  clear e1 e2 h hn
  go_enter Tryz.func63,Tryz.ntmps63
  go_wp2_with fail
  refine HR.out.mono ?_
  rintro e w1 ⟨rfl,q,rfl⟩
  go_wp2_with fail
  go_ret
  exact⟨F,rfl,HH.out.drewN q,(Fr.refl _ _).drewN q,fun x hx=>.inl hx⟩
end
def ClonePost(w:World)(l:List Int)(e:Ending)(w':World):Prop:=∃A c G,e=.returned (.slice A l.length c)∧Lr w' 45 A l.length c G (refV l)∧Fr [] w w'∧∀g,g∈G→w.heap.size≤g
abbrev HkR(w:World)(s:Nat)(F:List Nat)(B:Nat)(l:List Int):Prop:=∃A c G,Hk (layR12 B) 177 w s A c G l∧F=s::G
section
variable {w w':World}{s c B:Nat}{A:Option Addr}{F F' G:List Nat}{l:List Int}
theorem HkR.fr(h:HkR w s F B l)(hf:Fr F' w w')(hd:∀g,g∈F→g∉F'):HkR w' s F B l:=by
 obtain⟨A,c,G,h,rfl⟩:=h
 exact⟨A,c,G,h.fr hf (hd s (by simp)) (fun g hg=>hd g (by simp [hg])),rfl⟩
theorem HkR.fr0(h:HkR w s F B l)(hf:Fr [] w w'):HkR w' s F B l:=h.fr hf (fun _ _=>by simp)
theorem HkR.drewN(h:HkR w s F B l)(k:Nat):HkR (w.drewN k) s F B l:=h.fr0 ((Fr.refl _ _).drewN k)
theorem HkR.lt(h:HkR w s F B l):∀g,g∈F→g<w.heap.size:=by
 obtain⟨A,c,G,h,rfl⟩:=h
 intro g hg
 rcases List.mem_cons.1 hg with rfl | hg
 ·exact h.st.lt
 ·exact h.row.lt g hg
theorem HkR.sl(h:HkR w s F B l):∃A c,w.cell? ⟨s,1,none⟩=some (.slice A l.length c)∧w.cell? ⟨s,0,none⟩=some (.int .i64 (B:Int))∧Sl w A l.length (fun k=>.int .u64 (l.getD k 0)):=by
 obtain⟨A,c,G,h,rfl⟩:=h
 exact⟨A,c,by rw [h.st.cell];rfl,by rw [h.st.cell];rfl,refSl h.row⟩
end
theorem r12new_ok(B:Nat)(h1:1≤B)(h2:B≤64)(w:World):Calls Tryz.prog 37 #[.int .i64 (B:Int)] w (HkNew (fun w' s F=>HkR w' s F B []) w):=by
 have g1:¬ ((B:Int)<1):=by omega
 have g2:¬ ((B:Int)>64):=by omega
 go_enter Tryz.func37,Tryz.ntmps37
 go_wp2
 go_ret2
 exact⟨_,_,rfl,⟨none,0,[],⟨Blk.new _ _ _,Lr.nil _ _⟩,rfl⟩,(Fr.refl _ _).alloc _,fun x hx=>by simp at hx;omega⟩
section
variable {w:World}{s B:Nat}{F:List Nat}{l:List Int}
theorem r12at_any(h:HkR w s F B l)(i:Int):Calls Tryz.prog 75 #[.pointer (some ⟨s,0,none⟩),.int .i64 i] w fun e w'=>e=.returned (.tuple #[.int .u64 (hkAt l i),.int .i64 (hkAtE l i)])∧w=w':=by
 obtain⟨A,c,G,h,rfl⟩:=h
 have c0:w.cell? ⟨s,1,none⟩=some (.slice A l.length c):=by rw [h.st.cell];rfl
 unfold hkAt hkAtE
 rcases hkIn_ways l i with⟨h1,h2⟩ | ⟨h1,h3,h2⟩ | ⟨k,rfl,h3,h2⟩
 ·rw [if_neg h2,if_neg h2]
  clear h2 h
  go_enter Tryz.func75,Tryz.ntmps75
  go_wp2
  go_ret2
  exact⟨rfl,rfl⟩
 ·rw [if_neg h2,if_neg h2]
  clear h2 h
  go_enter Tryz.func75,Tryz.ntmps75
  go_wp2
  go_ret2
  exact⟨rfl,rfl⟩
 ·rw [if_pos h2,if_pos h2]
  clear h2
  have h4:(k:Int)<(l.length:Int):=by omega
  obtain⟨g,off,rfl,_,_,hx,_,_⟩:=h.row.pos (by omega)
  have c1:w.cell? ⟨g,off+k,none⟩=some (.int .u64 (l.getD k 0)):=by rw [hx k h3,refV_get l h3]
  rw [Int.toNat_natCast]
  clear h hx
  generalize l.getD k 0=x at *
  generalize l.length=n at *
  go_enter Tryz.func75,Tryz.ntmps75
  go_wp2
  go_ret2
  exact⟨rfl,rfl⟩
set_option maxRecDepth 100000 in
theorem r12pop_any(h:HkR w s F B l)(hl:l.length≤B)(hB:B≤64):Calls Tryz.prog 76 #[.pointer (some ⟨s,0,none⟩)] w (HkPost w F (fun w' F'=>HkR w' s F' B (hkPop l)) (.tuple #[.int .u64 (hkPopV l),.int .i64 (hkPopE l)])):=by
 have HH:=hide h
 obtain⟨A,c,G,h,rfl⟩:=h
 rcases Nat.eq_zero_or_pos l.length with h0 | h0
 ·obtain rfl:l=[]:=List.eq_nil_of_length_eq_zero h0
  have c0:w.cell? ⟨s,1,none⟩=some (.slice A 0 c):=by rw [h.st.cell];rfl
  clear h
  go_enter Tryz.func76,Tryz.ntmps76
  go_wp2
  go_ret2
  exact⟨_,rfl,HH.out,Fr.refl _ _,fun x hx=>.inl hx⟩
 ·obtain⟨k,hk⟩:∃k,l.length=k+1:=⟨l.length-1,by omega⟩
  obtain⟨g,off,rfl,rfl,_,hx,_,_⟩:=h.row.pos (by omega)
  have c0:w.cell? ⟨s,1,none⟩=some (.slice (some ⟨g,off,none⟩) (k+1) c):=by rw [h.st.cell,← hk];rfl
  have c1:w.cell? ⟨g,off+k,none⟩=some (.int .u64 (l.getD k 0)):=by rw [hx k (by omega),refV_get l (by omega)]
  have z0:=h.st.frozen 1
  have hkc:k+1≤c:=by have:=h.row.le;omega
  have hcm:=h.row.max
  unfold maxLen at hcm
  have e1:hkPop l=l.take k:=by unfold hkPop;rw [hk];rfl
  have e2:hkPopV l=l.getD k 0:=by unfold hkPopV;rw [hk];rfl
  have e3:hkPopE l=0:=by unfold hkPopE;rw [if_neg (by omega)]
  have hlen:(l.take k).length=k:=by rw [List.length_take];omega
  have HQ:Hid (HkR (w.setCell ⟨s,1,none⟩ (.slice (some ⟨g,off,none⟩) k c)) s (s::[g]) B (l.take k)):=by
   have h1:=h.row.keep k (by omega)
   rw [← refV_take]at h1
   have h2:=h.put (by decide) (ci:=1) (fun _ _=>rfl) (l':=l.take k) (Fr.refl _ _) (by rw [hlen];exact h1)
   rw [hlen]at h2
   exact⟨_,c,[g],h2,rfl⟩
  rw [e1,e2,e3]
  clear h hx e1 e2 e3 hlen hk HH h0 hl hB
  generalize l.getD k 0=x at *
  generalize l.take k=l' at *
  go_enter Tryz.func76,Tryz.ntmps76
  go_wp2
  go_ret2
  exact⟨_,rfl,HQ.out,(Fr.refl _ _).setCell (p:=⟨s,1,none⟩) (.inl (by simp)) _,fun x hx=>.inl hx⟩
set_option maxRecDepth 100000 in
theorem r12push_any(h:HkR w s F B l)(hl:l.length≤B)(hB:B≤64)(r:Int):Calls Tryz.prog 73 #[.pointer (some ⟨s,0,none⟩),.int .u64 r] w (HkPost w F (fun w' F'=>HkR w' s F' B (hkPush B l r)) (.int .i64 (hkPushE B l))):=by
 obtain⟨i0,hi,hz0,hz1,hz2⟩:=info_parts Tryz.info_ref
 have HH:=hide h
 obtain⟨A,c,G,h,rfl⟩:=h
 have c0:w.cell? ⟨s,1,none⟩=some (.slice A l.length c):=by rw [h.st.cell];rfl
 have c1:w.cell? ⟨s,0,none⟩=some (.int .i64 (B:Int)):=by rw [h.st.cell];rfl
 by_cases hlt:l.length<B
 ·have e1:hkPush B l r=l++[r]:=by unfold hkPush;rw [if_pos hlt]
  have e2:hkPushE B l=0:=by unfold hkPushE;rw [if_pos hlt]
  have hn:¬ ((l.length:Int)≥(B:Int)):=by omega
  rw [e1,e2]
  clear e1 e2
  have HL:=hide h
  have HN:Hid (([Value.int .u64 r]).length=1∧(∀u∈[Value.int .u64 r],u.oneCell'=true)∧l.length+1≤maxLen∧(l.length+1)*8≤140737488355328):=⟨rfl,by simp [Value.oneCell'],by unfold maxLen;omega,by omega⟩
  obtain⟨n,hn0⟩:∃n,n=l.length:=⟨_,rfl⟩
  have hlen:(l++[r]).length=n+1:=by simp [hn0]
  rw [← hn0]at c0 HN hn
  have HN0:=hide hn0
  have HLN:=hide hlen
  clear h hl hB hlt hn0 hlen
  go_enter Tryz.func73,Tryz.ntmps73
  go_wp2_with fail
  go_quiet (fail)
  have HL1:Hid (Hk (layR12 B) 177 (w.drewN nq) s A c G l):=HL.out.fr ((Fr.refl [] w).drewN nq) (by simp) (fun _ _=>by simp)
  have HF1:Hid (Fr [] w (w.drewN nq)):=(Fr.refl [] w).drewN nq
  clear c0 c1
  generalize w.drewN nq=w1 at *
  have c0:w1.cell? ⟨s,1,none⟩=some (.slice A n c):=by rw [HL1.out.st.cell,HN0.out];rfl
  have N0:s<w1.heap.size:=HL1.out.st.lt
  have HFZ:Hid (∀w2 w',Fr [] w1 w2→Fr G w2 w'→w'.cell? ⟨s,1,none⟩=some (.slice A n c)∧w'.frozen? ⟨s,1,none⟩=false):=fun w2 w' hf0 hf=>by
   have hb:=(HL1.out.st.fr hf0 (by simp)).fr hf (HL1.out.far (by decide))
   exact⟨by rw [hb.cell,HN0.out];rfl,hb.frozen 1⟩
  have HL2:Hid (Hk (layR12 B) 177 (w1.alloc (.cells #[.int .u64 r] 45)) s A c G l):=HL1.out.fr ((Fr.refl [] w1).alloc _) (by simp) (fun _ _=>by simp)
  have HLR:Hid (Lr (w1.alloc (.cells #[.int .u64 r] 45)) 45 A n c G (refV l)):=by rw [HN0.out];exact HL2.out.row
  go_wp2_with (first | (at_builtin;refine wpList_append_lr rfl _ _ 30 rfl 45 i0 (.int .u64 0) 8 Tryz.underlying30 hi hz0 hz1 hz2 rfl rfl HLR.out rfl HN.out.1 (fun _=>one_of w1 _ 45 rfl _ (Fr.refl _ _)) HN.out.2.1 HN.out.2.2.1 HN.out.2.2.2 ?_;intro A' c' G' w' HLn HFn HGn;have d0:=(HFZ.out _ _ ((Fr.refl _ _).alloc _) HFn.out).1;have dz:=(HFZ.out _ _ ((Fr.refl _ _).alloc _) HFn.out).2))
  have HQ:Hid (HkR (w'.setCell ⟨s,1,none⟩ (.slice A' (n+1) c')) s (s::G') B (l++[r])):=by
   have h2:=HL2.out.put (by decide) (ci:=1) (fun _ _=>rfl) (l':=l++[r]) (A':=A') (c':=c') (G':=G') HFn.out (by rw [HLN.out,refV_app];exact HLn.out)
   rw [HLN.out]at h2
   exact⟨_,c',G',h2,rfl⟩
  have HF2:Hid (Fr (s::G) w (w'.setCell ⟨s,1,none⟩ (.slice A' (n+1) c'))):=((HF1.out.alloc (.cells #[.int .u64 r] 45)).mono (G:=s::G) (fun _ h=>by cases h)).trans_same (Hk.put_fr HFn.out 1 _)
  go_ret
  refine⟨_,rfl,HQ.out,HF2.out,fun x hx=>?_⟩
  rcases List.mem_cons.1 hx with rfl | hx
  ·exact .inl (by simp)
  ·rcases HGn.out x hx with h1 | ⟨h1,_⟩
   ·exact .inl (by simp [h1])
   ·have:=HF1.out.size
    right
    rw [h1]
    simp
    omega
 ·have e1:hkPush B l r=l:=by unfold hkPush;rw [if_neg hlt]
  have e2:hkPushE B l=15:=by unfold hkPushE;rw [if_neg hlt]
  have hn:(l.length:Int)≥(B:Int):=by omega
  rw [e1,e2]
  clear e1 e2 h
  go_enter Tryz.func73,Tryz.ntmps73
  go_wp2_with fail
  go_quiet (fail)
  go_wp2_with fail
  go_ret
  exact⟨_,rfl,HH.out.drewN nq,(Fr.refl _ _).drewN nq,fun x hx=>.inl hx⟩
end
end Go.Proofs.YtfcjdinlcehpmaaGreatDoor
