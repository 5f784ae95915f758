/- Several texts joined (pack.py): Kit Bn Tz Nm. -/
import Derived.Below
import Derived.OwnWalk
import Derived.Deep.Draws
import Derived.Deep.QuietTactic
import Derived.BigQuiet
import Derived.Laws.Rows
import Derived.StillTailTactics
import Derived.Laws.CopyOwn
import Derived.Lib.SliceRun
import Derived.Laws.BitsAllLaws
import Derived.Laws.Bits128
import Derived.Lib.TrailingZeros
import Derived.Test.YtfcjdinlcehpmaaGreatDoorProg
import Derived.WalkKit
namespace Go.Gl
set_option linter.unusedVariables false
open Go.RowKit
structure Fr(F:List Nat)(w w':World):Prop where
 os:w'.os=w.os
 tape:w'.tape=w.tape
 output:w'.output=w.output
 size:w.heap.size≤w'.heap.size
 block:∀k,k<w.heap.size→k∉F→w'.heap[k]?=w.heap[k]?
section
variable {F G:List Nat}{a b c w w':World}
theorem Fr.refl(F:List Nat)(w:World):Fr F w w:=⟨rfl,rfl,rfl,Nat.le_refl _,fun _ _ _=>rfl⟩
theorem Fr.trans(h:Fr F a b)(k:Fr G b c)(hG:∀x,x∈G→x∈F∨a.heap.size≤x):Fr F a c:=
 ⟨k.os.trans h.os,k.tape.trans h.tape,k.output.trans h.output,Nat.le_trans h.size k.size,fun i hi hF=>by
  have hs:=h.size
  refine(k.block i (by omega) fun hg=>?_).trans (h.block i hi hF)
  rcases hG i hg with hx | hx
  ·exact hF hx
  ·omega⟩
theorem Fr.trans_nil(h:Fr F a b)(k:Fr [] b c):Fr F a c:=h.trans k (fun _ hx=>by cases hx)
theorem Fr.trans_same(h:Fr F a b)(k:Fr F b c):Fr F a c:=h.trans k (fun _ hx=>.inl hx)
theorem Fr.mono(h:Fr F a b)(hF:∀x,x∈F→x∈G∨a.heap.size≤x):Fr G a b:=
 ⟨h.os,h.tape,h.output,h.size,fun i hi hG=>h.block i hi fun hf=>by
  rcases hF i hf with hx | hx
  ·exact hG hx
  ·omega⟩
theorem Fr.drew(h:Fr F a b):Fr F a b.drew:=⟨h.os,h.tape,h.output,h.size,h.block⟩
theorem Fr.drewN(h:Fr F a b)(n:Nat):Fr F a (b.drewN n):=⟨h.os,h.tape,h.output,h.size,h.block⟩
theorem Fr.from_drewN{n:Nat}(h:Fr F (a.drewN n) b):Fr F a b:=⟨h.os,h.tape,h.output,h.size,h.block⟩
theorem Fr.alloc(h:Fr F a b)(o:Obj):Fr F a (b.alloc o):=
 h.trans_nil ⟨rfl,rfl,rfl,by simp,fun k hk _=>Below.heap_alloc _ _ _ hk⟩
theorem Fr.setCell(h:Fr F a b){p:Addr}(hp:p.block∈F∨a.heap.size≤p.block)(u:Value):Fr F a (b.setCell p u):=
 h.trans (G:=[p.block]) ⟨rfl,rfl,rfl,by simp [World.setCell],fun k _ hk=>Below.heap_setCell _ _ _ _ (by simpa using hk)⟩
  (fun x hx=>by rw [List.mem_singleton]at hx;subst hx;exact hp)
theorem Fr.grown{row:Option Nat}(h:Fr F a b)(hg:b.grownBy c row)(hr:∀k,row=some k→k∈F∨a.heap.size≤k):Fr F a c:=
 h.trans (G:=row.toList) ⟨hg.os,hg.tape,hg.output,hg.size,fun k hk hn=>hg.block k hk (fun e=>hn (by rw [← e];simp))⟩
  (fun x hx=>hr x (by simpa using hx))
theorem Fr.below(h:Fr F a b){B:Nat}(hB:B≤a.heap.size)(hF:∀x,x∈F→B≤x):Below B a b:=
 ⟨h.os,h.tape,h.output,h.size,fun k hk=>h.block k (by omega) (fun hx=>by have:=hF k hx;omega)⟩
theorem Fr.below_nil(h:Fr [] a b):Below a.heap.size a b:=h.below (Nat.le_refl _) (fun _ hx=>by cases hx)
theorem Fr.cell(h:Fr F a b){p:Addr}(hp:p.block<a.heap.size)(hF:p.block∉F):b.cell? p=a.cell? p:=World.cell?_of_block (w:=a) (h.block p.block hp hF)
end
def Blk(w:World)(g:Nat)(t:TypeId)(cs:Array Value):Prop:=w.heap[g]?=some (.cells cs t (0,0))
section
variable {w w':World}{g:Nat}{t:TypeId}{cs:Array Value}{F:List Nat}
theorem Blk.lt(h:Blk w g t cs):g<w.heap.size:=by
 rcases Nat.lt_or_ge g w.heap.size with hlt | hge
 ·exact hlt
 ·unfold Blk at h;rw [Array.getElem?_eq_none hge]at h;cases h
theorem Blk.cell(h:Blk w g t cs)(i:Nat):w.cell? ⟨g,i,none⟩=cs[i]?:=cell_of_row w g i cs t (0,0) h
theorem Blk.frozen(h:Blk w g t cs)(i:Nat):w.frozen? ⟨g,i,none⟩=false:=by
 unfold Blk at h
 simp [World.frozen?,h]
theorem Blk.new(w:World)(t:TypeId)(cs:Array Value):Blk (w.alloc (.cells cs t)) w.heap.size t cs:=heap_alloc_new w _
theorem Blk.new_at{w:World}{n:Nat}(t:TypeId)(cs:Array Value)(h:w.heap.size=n):Blk (w.alloc (.cells cs t)) n t cs:=h ▸ Blk.new w t cs
theorem Blk.drewN(h:Blk w g t cs)(n:Nat):Blk (w.drewN n) g t cs:=h
theorem Blk.drew(h:Blk w g t cs):Blk w.drew g t cs:=h
theorem Blk.alloc(h:Blk w g t cs)(o:Obj):Blk (w.alloc o) g t cs:=(Below.heap_alloc w o g h.lt).trans h
theorem Blk.put(h:Blk w g t cs)(i:Nat)(u:Value):Blk (w.setCell ⟨g,i,none⟩ u) g t (cs.setIfInBounds i u):=by
 unfold Blk at h ⊢
 simp [World.setCell,Array.getElem?_modify,h]
theorem Blk.far(h:Blk w g t cs){p:Addr}(hp:g≠p.block)(u:Value):Blk (w.setCell p u) g t cs:=(Below.heap_setCell w p u g hp).trans h
theorem Blk.fr(h:Blk w g t cs)(hf:Fr F w w')(hg:g∉F):Blk w' g t cs:=(hf.block g h.lt hg).trans h
theorem Blk.apart{g':Nat}{t':TypeId}{cs':Array Value}(h:Blk w g t cs)(h':Blk w g' t' cs')(hne:t≠t'):g≠g':=by
 rintro rfl
 unfold Blk at h h'
 rw [h]at h'
 injection h' with h'
 injection h' with _ ht
 exact hne ht
end
theorem own_full{w:World}{base g n size:Nat}{e:TypeId}{xs:List Value}(h:w.ownsRow base e size (.slice (some ⟨g,0,none⟩) n n) n xs):Blk w g e xs.toArray:=by
 rcases h.2 with⟨h1,_⟩ | ⟨g',cap,cur,hv,_,hh,_,_,hs,hx⟩
 ·cases h1
 ·injection hv with h1 h2 h3
  injection h1 with h1
  injection h1 with h1 _ _
  subst h1 h3
  unfold Blk
  rw [hh]
  have:cur.toList=xs:=by rw [← hx,List.take_of_length_le (by simp [hs])]
  rw [← this,Array.toArray_toList]
theorem made_one(v:Value)(h:v.cells=#[v])(n:Nat):(madeCells v.cells n).toList=List.replicate n v:=by
 rw [h]
 apply List.ext_getElem
 ·simp [madeCells]
 ·intro i h1 h2
  simp [madeCells,Nat.mod_one]
theorem own_grown{F:List Nat}{w b b0 c:World}{e:TypeId}{size n:Nat}{v:Value}{xs:List Value}(h:Fr F w b)(ho:b0.ownsRow w.heap.size e size v n xs)(hg:b.grownBy c v.ownBlock):Fr F w c:=
 h.grown hg fun k hk=>by
  rcases ho.2 with⟨rfl,_⟩ | ⟨g,cap,cur,rfl,hb,_⟩
  ·cases hk
  ·injection hk with hk
   subst hk
   exact .inr hb
theorem own_blk{w:World}{base n:Nat}{e:TypeId}{v:Value}{xs:List Value}(h:w.ownsRow base e 1 v n xs) :
  (v=.slice none 0 0∧n=0∧xs=[])∨∃g cap cur,v=.slice (some ⟨g,0,none⟩) n cap∧base≤g∧Blk w g e cur∧n≤cap∧cap≤maxLen∧cur.size=cap∧cur.toList.take n=xs∧xs.length=n:=by
 obtain⟨hl,h⟩:=h
 rcases h with⟨h1,h2⟩ | ⟨g,cap,cur,h1,h2,h3,h4,h5,h6,h7⟩
 ·subst h2
  exact .inl ⟨h1,rfl,List.eq_nil_of_length_eq_zero (by simpa using hl)⟩
 ·exact .inr ⟨g,cap,cur,h1,h2,h3,h4,h5,by simpa using h6,by simpa using h7,by simpa using hl⟩
theorem own_fr{F:List Nat}{w w':World}{base n size:Nat}{e:TypeId}{v:Value}{xs:List Value}(h:w.ownsRow base e size v n xs)(hf:Fr F w w')(hg:∀g,v.ownBlock=some g→g∉F):w'.ownsRow base e size v n xs:=by
 obtain⟨hl,h⟩:=h
 refine⟨hl,?_⟩
 rcases h with h | ⟨g,cap,cur,h1,h2,h3,h4⟩
 ·exact .inl h
 ·refine .inr ⟨g,cap,cur,h1,h2,?_,h4⟩
  subst h1
  exact Blk.fr (t:=e) h3 hf (hg g rfl)
def Sl(w:World)(A:Option Addr)(n:Nat)(f:Nat→Value):Prop:=
 0<n→∃b off,A=some ⟨b,off,none⟩∧b<w.heap.size∧∀k,k<n→w.cell? ⟨b,off+k,none⟩=some (f k)
theorem Sl.own{w:World}{base n:Nat}{e:TypeId}{v:Value}{xs:List Value}(h:w.ownsRow base e 1 v n xs):∃A c,v=.slice A n c∧Sl w A n (fun k=>xs.getD k undef):=by
 rcases own_blk h with⟨rfl,rfl,rfl⟩ | ⟨g,cap,cur,rfl,_,hb,h1,_,h2,h3,h4⟩
 ·exact⟨none,0,rfl,fun h=>absurd h (by decide)⟩
 ·refine⟨_,_,rfl,fun _=>⟨g,0,rfl,hb.lt,fun k hk=>?_⟩⟩
  rw [hb.cell,Nat.zero_add]
  subst h3
  have hlt:k<cur.size:=by omega
  simp [hk,hlt]
theorem grown_fr{w c:World}{row:Option Nat}(hg:w.grownBy c row):Fr row.toList w c:=(Fr.refl _ _).grown hg fun k hk=>.inl (by simp [hk])
theorem lt_of_cell{w:World}{p:Addr}{v:Value}(h:w.cell? p=some v):p.block<w.heap.size:=by
 rcases Nat.lt_or_ge p.block w.heap.size with hl | hl
 ·exact hl
 ·simp [World.cell?,Array.getElem?_eq_none hl]at h
structure Cls(C:World→Prop) where
 w:World
 ok:C w
theorem wp_region_cls{P:Program}{id:Nat}{Q:Exit→Act→World→Prop}{a:Act}{w:World}{l:List Oper}(C:World→Prop)(hm:P.follows .mixedOrders=true)(hB:Region.lexB .any l.toArray=true)(h0:C w.drew)
  (h:wpQuiet P l.toArray (fun w'=>∃u:Cls C,w'=u.w) (fun a'=>∀w',(∃u:Cls C,w'=u.w)→Q .normal a' w') l a):(Code.region id l.toArray true).wp P Q a w:=
 wp_region_quiet (C:=fun w'=>∃u:Cls C,w'=u.w) hm hB ⟨⟨w.drew,h0⟩,rfl⟩ (by simpa using h)
instance Cls.there {F:List Nat} {w:World}:Nonempty (Cls (Fr F w)):=⟨⟨w,Fr.refl _ _⟩⟩
theorem Cls.call{P:Program}{f:FuncId}{args:Array Value}{C:World→Prop}{v:Value}{u:Cls C}(h:Calls P f args u.w fun e w'=>e=.returned v∧C w'):Calls P f args u.w fun e w''=>e=.returned v∧∃u':Cls C,w''=u'.w:=
 h.mono fun _ w' ⟨he,hc⟩=>⟨he,⟨w',hc⟩,rfl⟩
theorem Cls.grow{P:Program}{f:FuncId}{args:Array Value}{w:World}{v:Value}{u:Cls (Fr [] w)}(h:Calls P f args u.w fun e w'=>e=.returned v∧Fr [] u.w w'):Calls P f args u.w fun e w''=>e=.returned v∧∃u':Cls (Fr [] w),w''=u'.w:=
 Cls.call (h.mono fun _ _ ⟨he,hf⟩=>⟨he,u.ok.trans_same hf⟩)
def Stable(C:World→Prop):Prop:=∀w w',C w→Fr [] w w'→C w'
theorem Cls.cell{w:World}{F:List Nat}{p:Addr}{v:Value}(u:Cls (Fr F w))(h:w.cell? p=some v)(hF:p.block∉F):u.w.cell? p=some v:=(u.ok.cell (lt_of_cell h) hF).trans h
theorem hide{p:Prop}(h:p):Hid p:=h
theorem ret_int{k:IntKind}{a b:Int}(h:a=b):Ending.returned (.int k a)=.returned (.int k b):=by rw [h]
theorem ret_bool{a b:Bool}(h:a=b):Ending.returned (.bool a)=.returned (.bool b):=by rw [h]
theorem ret_ii{k k':IntKind}{a b c d:Int}(h:a=b)(h':c=d):Ending.returned (.tuple #[.int k a,.int k' c])=.returned (.tuple #[.int k b,.int k' d]):=by rw [h,h']
theorem call_right{P:Program}{f:FuncId}{args:Array Value}{w:World}{v:Value}(h:Calls P f args w fun e w'=>e=.returned v∧w=w'):Calls P f args w fun e w'=>e=.returned v∧w'=w:=
 h.mono fun _ _ ⟨he,hm⟩=>⟨he,hm.symm⟩
theorem region_tail{P:Program}{id:Nat}{Q:Exit→Act→World→Prop}{a:Act}{w:World}{l:List Oper}(n:Nat)(hm:P.follows .mixedOrders=true)(hB:Region.lexTailB .any l.toArray n=true)
  (h:wpStill P l.toArray w.drew (fun a'=>wpList P l.toArray Q (l.drop n) a' w.drew) (l.take n) a):(Code.region id l.toArray true).wp P Q a w:=wp_region_still_tail n hm hB h
theorem quiet_left{P:Program}{f:FuncId}{args:Array Value}{w:World}{n:Nat}{v:Value}
  (h:Calls P f args (w.drewN n) fun e w'=>e=.returned v∧w.drewN n=w'):Calls P f args (w.drewN n) fun e w''=>e=.returned v∧∃m,w''=w.drewN m:=
 h.mono fun _ _ ⟨he,hm⟩=>⟨he,n,hm.symm⟩
theorem quiet_add_left{P:Program}{f:FuncId}{args:Array Value}{w:World}{a n:Nat}{v:Value}
  (h:Calls P f args (w.drewN (a+n)) fun e w'=>e=.returned v∧w.drewN (a+n)=w') :
  Calls P f args (w.drewN (a+n)) fun e w''=>e=.returned v∧∃m,w''=w.drewN (a+m):=
 h.mono fun _ _ ⟨he,hm⟩=>⟨he,n,hm.symm⟩
theorem Fr.setRow{F:List Nat}{w:World}{g:Nat}(hg:g∈F)(cs:Array Value):Fr F w (w.setRow g cs):=
 ⟨rfl,rfl,rfl,by simp [World.setRow],fun k _ hk=>setRow_other w g k cs (fun e=>hk (e ▸ hg))⟩
theorem Blk.setRow{w:World}{g:Nat}{t:TypeId}{cs:Array Value}(h:Blk w g t cs)(cs':Array Value):Blk (w.setRow g cs') g t cs':=setRow_heap w g cs cs' t _ h
theorem run_clear_blk{P:Program}{w:World}{t e ty:TypeId}{z:Value}(ht:P.underlying t=some (.slice e))(hv:∀w,(zeroValue e).run P w=.ok z w)(hz:z.cells=#[z])(h1:z.oneCell'=true)
  (dp:Option Addr) (n c g off:Nat) (cur:Array Value) (tt:TypeId) (hg:Blk w g tt cur) (hpos:0<n→dp=some ⟨g,off,none⟩) (hfit:off+n≤cur.size) :
  ∃w',(Builtin.clear_ #[t] ty #[.slice dp n c]).run P w=.ok (.tuple #[]) w'∧Blk w' g tt (splice cur.toList off (List.replicate n z)).toArray∧Fr [g] w w':=by
 by_cases h0:n=0
 ·subst h0
  refine⟨w,?_,by simpa [splice] using hg,Fr.refl _ _⟩
  cases dp <;> simp [Builtin.clear_,run_underlying ht]
 ·obtain rfl:=hpos (by omega)
  have hzc:(Builtin.zeroCells z.cells n).toList=List.replicate n z:=by
   rw [hz]
   simp [Builtin.zeroCells]
   apply List.ext_getElem
   ·simp
   ·intro i h1 h2
    simp [Nat.mod_one]
  have hst:=run_storeCells_at P g off tt (List.replicate n z) 0 cur w hg (by simp;omega) (by intro v hv';rw [List.eq_of_mem_replicate hv'];exact h1)
  simp only [Nat.add_zero]at hst
  obtain⟨m,rfl⟩:∃m,n=m+1:=⟨n-1,by omega⟩
  refine⟨w.setRow g (splice cur.toList off (List.replicate (m+1) z)).toArray,?_,hg.setRow _,Fr.setRow (by simp) _⟩
  simp [Builtin.clear_,run_underlying ht,hv,hzc,hst,splice]
theorem wpList_clear_blk{P:Program}{w:World}{ops:Array Oper}{rest:List Oper}{o:Oper}{a:Act}{Q:Exit→Act→World→Prop}(hgd:o.guard=none)(d:Operand)(dT:TypeId)
  (ho:o.op=.call { callee:=.builtin .clear,args:=#[d],argTypes:=#[dT] }) (e:TypeId) {z:Value} (ht:P.underlying dT=some (.slice e)) (hv:∀w,(zeroValue e).run P w=.ok z w) (hz:z.cells=#[z]) (h1:z.oneCell'=true)
  (dp:Option Addr) (n c:Nat) (hd:a.eval d=.slice dp n c) (g off:Nat) (cur:Array Value) (tt:TypeId) (hg:Blk w g tt cur) (hpos:0<n→dp=some ⟨g,off,none⟩) (hfit:off+n≤cur.size)
  (h:∀w',Hid (Blk w' g tt (splice cur.toList off (List.replicate n z)).toArray)→Hid (Fr [g] w w')→wpList P ops Q rest (a.put o.dst (.tuple #[])) w') :
  wpList P ops Q (o::rest) a w:=by
 refine wpList_plain hgd fun K hK=>?_
 obtain⟨w',hrun,hb,hf⟩:=run_clear_blk (ty:=o.type) ht hv hz h1 dp n c g off cur tt hg hpos hfit
 unfold Oper.wp
 simp [execOp,ho,resolve,invoke,builtin,hd,hrun,Result.andThen]
 exact hK _ _ (h w' hb hf)
def memV(n:Nat)(f:Nat→Nat):Array Value:=((List.range n).map fun k=>Value.int .u64 (f k:Int)).toArray
def upd(f:Nat→Nat)(k x:Nat):Nat→Nat:=fun j=>if j=k then x else f j
def updRow(f:Nat→Nat)(off m:Nat)(g:Nat→Nat):Nat→Nat:=fun j=>if off≤j∧j<off+m then g (j-off) else f j
theorem memV_size(n:Nat)(f:Nat→Nat):(memV n f).size=n:=by simp [memV]
theorem memV_get(n:Nat)(f:Nat→Nat)(k:Nat):(memV n f)[k]?=if k<n then some (.int .u64 (f k:Int)) else none:=by
 unfold memV
 by_cases h:k<n
 ·simp [h]
 ·simp [h]
theorem memV_at{n:Nat}{f:Nat→Nat}{k:Nat}(h:k<n):(memV n f)[k]?=some (.int .u64 (f k:Int)):=by rw [memV_get,if_pos h]
theorem memV_ext{n:Nat}{f:Nat→Nat}{cs:Array Value}(hs:cs.size=n)(h:∀k,k<n→cs[k]?=some (.int .u64 (f k:Int))):cs=memV n f:=by
 apply Array.ext
 ·rw [hs,memV_size]
 ·intro i h1 h2
  have a1:=h i (by omega)
  have a2:=memV_at (f:=f) (show i<n by omega)
  rw [Array.getElem?_eq_getElem h1]at a1
  rw [Array.getElem?_eq_getElem h2]at a2
  exact Option.some.inj (a1.trans a2.symm)
theorem memV_set(n:Nat)(f:Nat→Nat)(k x:Nat):(memV n f).setIfInBounds k (.int .u64 (x:Int))=memV n (upd f k x):=by
 refine memV_ext (by simp [memV_size]) fun j hj=>?_
 rw [Array.getElem?_setIfInBounds]
 unfold upd
 by_cases h:k=j
 ·subst h
  rw [if_pos rfl,if_pos (by rw [memV_size];exact hj),if_pos rfl]
 ·rw [if_neg h,if_neg (Ne.symm h),memV_at hj]
theorem memV_splice{n:Nat}{f:Nat→Nat}{off m:Nat}{cs:List Value}{g:Nat→Nat}(hl:cs.length=m)(hm:off+m≤n)(hc:∀j,j<m→cs[j]?=some (.int .u64 (g j:Int))) :
  (splice (memV n f).toList off cs).toArray=memV n (updRow f off m g):=by
 have hs:(memV n f).toList.length=n:=by simp [memV_size]
 refine memV_ext (by simp [length_splice _ _ _ (show off+cs.length≤(memV n f).toList.length by omega),memV_size]) fun j hj=>?_
 rw [List.getElem?_toArray]
 unfold splice updRow
 by_cases h1:j<off
 ·rw [if_neg (by omega),List.getElem?_append_left (by rw [List.length_take];omega),List.getElem?_take_of_lt h1,Array.getElem?_toList,memV_at hj]
 ·have e1:((memV n f).toList.take off).length=off:=by rw [List.length_take];omega
  rw [List.getElem?_append_right (by omega),e1]
  by_cases h2:j<off+m
  ·rw [if_pos (by omega),List.getElem?_append_left (by omega),hc _ (by omega)]
  ·rw [if_neg (by omega),List.getElem?_append_right (by omega),List.getElem?_drop,Array.getElem?_toList,show off+cs.length+(j-off-cs.length)=j by omega,memV_at hj]
def cnt(p:Nat→Bool)(a:Nat):Nat→Nat
 | 0=>0
 | n+1=>cnt p a n+(if p (a+n) then 1 else 0)
def pc(x:Nat):Nat:=cnt x.testBit 0 64
def rep(c:Nat):Nat→Nat
 | 0=>0
 | n+1=>c+256*rep c n
def mapb(g:Nat→Nat):Nat→Nat→Nat
 | 0,_=>0
 | n+1,x=>g (x % 256)+256*mapb g n (x / 256)
def g1(a:Nat):Nat:=(a / 2 &&& 85)+(a &&& 85)
def g2(a:Nat):Nat:=(a / 4 &&& 51)+(a &&& 51)
def g3(a:Nat):Nat:=(a / 16+a) % 16
def pcb(a:Nat):Nat:=cnt a.testBit 0 8
theorem i64_and63(n:Int):bits .and .i64 n 63=n % 64:=by
 have h127:(BitVec.ofInt 64 63).toNat=2 ^ 6-1:=by decide
 have key:(BitVec.ofInt 64 n &&& BitVec.ofInt 64 63).toNat=(n % ((2 ^ 64:Nat):Int)).toNat % 2 ^ 6:=by
  rw [BitVec.toNat_and,BitVec.toNat_ofInt,h127,Nat.and_two_pow_sub_one_eq_mod]
 show IntKind.i64.wrap ((BitVec.ofInt 64 n &&& BitVec.ofInt 64 63).toNat:Nat)=n % 64
 rw [key,IntKind.wrap_i64]
 omega
theorem pow_lt64{k:Nat}(h:k<64):2 ^ k<18446744073709551616:=Nat.pow_lt_pow_of_lt (a:=2) (n:=k) (m:=64) (by decide) h
def hi(s:Nat):Nat:=18446744073709551615*2 ^ s % 18446744073709551616
def lo(s:Nat):Nat:=18446744073709551615 / 2 ^ s
def IsMask(a f t:Int)(m:Nat):Prop:=m<18446744073709551616∧∀j:Nat,j<64→m.testBit j=decide (f≤a*64+j∧a*64+j<t)
def wbit(ws:List Nat)(i:Nat):Bool:=(ws.getD (i / 64) 0).testBit (i % 64)
def Words(ws:List Nat):Prop:=∀k,ws.getD k 0<18446744073709551616
theorem words_set{ws:List Nat}(h:Words ws){k x:Nat}(hx:x<18446744073709551616):Words (ws.set k x):=by
 intro j
 have hj:=h j
 simp only [List.getD_eq_getElem?_getD,List.getElem?_set]at hj ⊢
 split
 ·split <;> simp [hx]
 ·exact hj
theorem wbit_set{ws:List Nat}{k x:Nat}(hk:k<ws.length)(i:Nat):wbit (ws.set k x) i=if i / 64=k then x.testBit (i % 64) else wbit ws i:=by
 unfold wbit
 simp only [List.getD_eq_getElem?_getD,List.getElem?_set]
 by_cases h:k=i / 64
 ·subst h;simp [hk]
 ·rw [if_neg h,if_neg (fun e=>h e.symm)]
theorem and_pow_ne{x i:Nat}:((x &&& 2 ^ i) !=0)=x.testBit i:=by
 rw [Nat.testBit,Nat.and_comm,Nat.shiftRight_eq_div_pow]
 rw [Nat.and_comm,nat_bit]
 have h2:x / 2 ^ i % 2=0∨x / 2 ^ i % 2=1:=by omega
 have hp:0<2 ^ i:=Nat.two_pow_pos _
 have e:1 &&& (x / 2 ^ i)=x / 2 ^ i % 2:=by rw [Nat.and_comm];exact Nat.and_two_pow_sub_one_eq_mod _ 1
 rw [e]
 rcases h2 with h2 | h2
 ·simp [h2]
 ·rw [h2];simp
theorem xor_pow_bit(x i j:Nat):(x ^^^ 2 ^ i).testBit j=if i=j then !(x.testBit j) else x.testBit j:=by
 rw [Nat.testBit_xor,Nat.testBit_two_pow]
 by_cases h:i=j <;> simp [h]
theorem ctz_low(x:Nat)(h0:0<x)(h:x<18446744073709551616):Lib.ctz 64 x<64∧x.testBit (Lib.ctz 64 x)=true∧∀j,j<Lib.ctz 64 x→x.testBit j=false:=by
 obtain⟨m,hm,hk⟩:=Lib.ctzFrom_spec 64 x h0 h
 have hc:Lib.ctz 64 x=Lib.ctzFrom 64 x:=by unfold Lib.ctz;rw [if_neg (by omega)]
 rw [hc]
 generalize Lib.ctzFrom 64 x=k at *
 refine⟨hk,?_,fun j hj=>?_⟩
 ·rw [hm,Nat.mul_comm,Nat.testBit_mul_two_pow];simp
 ·rw [hm,Nat.mul_comm,Nat.testBit_mul_two_pow];simp;omega
end Go.Gl
namespace Go.Proofs.YtfcjdinlcehpmaaGreatDoor
set_option linter.unusedVariables false
open Go.RowKit Go.Gl
def Tab(w:World):Prop:=∀k:Nat,k<64→w.cell? ⟨0,k,none⟩=some (.int .u8 (Lib.deBruijn64tab.getD k 0:Nat))
theorem tz_index(x:Nat)(hx:x<18446744073709551616)(h0:0<x):∃i:Nat,i<64∧Lib.deBruijn64tab.getD i 0=Lib.ctz 64 x ∧
  IntKind.u64.wrap (bits BinOp.and IntKind.u64 (↑x) (IntKind.u64.wrap (-↑x))*285870213051353865) / 288230376151711744=(i:Int):=by
 obtain⟨m,hm,hk⟩:=Lib.ctzFrom_spec 64 x h0 hx
 have hc:Lib.ctz 64 x=Lib.ctzFrom 64 x:=by unfold Lib.ctz;rw [if_neg (by omega)]
 rw [hc]
 generalize Lib.ctzFrom 64 x=k at *
 obtain⟨d1,d2⟩:=Lib.deBruijn64_at k hk
 refine⟨_,d1,d2,?_⟩
 have e1:IntKind.u64.wrap (-(x:Int))=((18446744073709551616-x:Nat):Int):=by rw [IntKind.wrap_u64];omega
 have e2:x &&& (18446744073709551616-x)=2 ^ k:=by
  have h:=Lib.and_neg 64 k m (by rw [← hm];exact hx)
  rw [← hm]at h
  exact h
 rw [e1,u64_and_nat _ _ hx (by omega),e2,IntKind.wrap_u64]
 rfl
theorem tz_any(x:Nat)(hx:x<18446744073709551616)(h0:0<x)(w:World)(hT:Tab w) :
  Calls Tryz.prog 47 #[.int .u64 (x:Int)] w fun e w'=>e=.returned (.int .i64 ((Lib.ctz 64 x:Nat):Int))∧w=w':=by
 obtain⟨i,hi,ht,he⟩:=tz_index x hx h0
 have hcell:=hT i hi
 rw [ht]at hcell
 have hlt:Lib.ctz 64 x<64:=(ctz_low x h0 hx).1
 clear hT ht
 generalize hX:IntKind.u64.wrap (bits BinOp.and IntKind.u64 (↑x) (IntKind.u64.wrap (-↑x))*285870213051353865) / 288230376151711744=X at he
 subst he
 have hb:0≤IntKind.u64.wrap (bits BinOp.and IntKind.u64 (↑x) (IntKind.u64.wrap (-↑x))*285870213051353865) / 288230376151711744∧IntKind.u64.wrap (bits BinOp.and IntKind.u64 (↑x) (IntKind.u64.wrap (-↑x))*285870213051353865) / 288230376151711744<64:=by rw [hX];omega
 have hc:w.cell? ⟨0,(IntKind.u64.wrap (bits BinOp.and IntKind.u64 (↑x) (IntKind.u64.wrap (-↑x))*285870213051353865) / 288230376151711744).toNat,none⟩=some (.int .u8 ((Lib.ctz 64 x:Nat):Int)):=by
  rw [hX,Int.toNat_natCast];exact hcell
 clear hX hcell
 generalize Lib.ctz 64 x=c at *
 go_enter Tryz.func47,Tryz.ntmps47
 go_wp2
 go_ret
 exact⟨rfl,rfl⟩
theorem Tab.lt{w:World}(h:Tab w):0<w.heap.size:=lt_of_cell (h 0 (by decide))
theorem Tab.fr{w w':World}{F:List Nat}(h:Tab w)(hf:Fr F w w')(h0:0∉F):Tab w':=fun k hk=>(hf.cell (p:=⟨0,k,none⟩) h.lt h0).trans (h k hk)
theorem Tab.alloc{w:World}(h:Tab w)(o:Obj):Tab (w.alloc o):=h.fr (F:=[]) ((Fr.refl _ _).alloc o) (by simp)
theorem Tryz.info_int:(Tryz.prog.info? 3).map (fun i=>(i.zero,i.size,i.bytes))=some (some (.int .i64 0),1,8):=by kernel_rfl
def nums(l:List Nat):List Value:=l.map fun (x:Nat)=>.int .i64 (x:Int)
theorem nums_app(a b:List Nat):nums (a++b)=nums a++nums b:=by simp [nums]
theorem one_at(w:World)(v:Value)(t:TypeId):∀(j:Nat) u,[v][j]?=some u→(w.alloc (.cells #[v] t)).cell? (Addr.add ⟨w.heap.size,0,none⟩ j)=some u:=by
 intro j u hj
 match j,hj with
 | 0,hj=>
  simp only [List.getElem?_cons_zero,Option.some.injEq]at hj
  subst hj
  have:=(Blk.new w t #[v]).cell 0
  exact this
def ints(l:List Nat):List Int:=l.map fun (x:Nat)=>(x:Int)
end Go.Proofs.YtfcjdinlcehpmaaGreatDoor
