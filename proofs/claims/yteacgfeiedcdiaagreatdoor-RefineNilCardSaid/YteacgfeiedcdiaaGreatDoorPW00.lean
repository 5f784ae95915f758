/- Several texts joined (pack.py): Kit Lr. -/
import Derived.Below
import Derived.OwnWalk
import Derived.Deep.Draws
import Derived.Deep.QuietTactic
import Derived.BigQuiet
import Derived.Laws.Rows
import Derived.StillTailTactics
import Derived.Laws.CopyOwn
import Derived.Lib.SliceRun
import Derived.Deep.AppendSrc
import Derived.Deep.Upon
namespace Go.Gl
set_option linter.unusedVariables false
open Go.RowKit
structure Fr(F:List Nat)(w w':World):Prop where
 os:w'.os=w.os
 tape:w'.tape=w.tape
 output:w'.output=w.output
 size:w.heap.size≤w'.heap.size
 block:∀k,k<w.heap.size→k∉F→w'.heap[k]?=w.heap[k]?
section
variable {F G:List Nat}{a b c w w':World}
theorem Fr.refl(F:List Nat)(w:World):Fr F w w:=⟨rfl,rfl,rfl,Nat.le_refl _,fun _ _ _=>rfl⟩
theorem Fr.trans(h:Fr F a b)(k:Fr G b c)(hG:∀x,x∈G→x∈F∨a.heap.size≤x):Fr F a c:=
 ⟨k.os.trans h.os,k.tape.trans h.tape,k.output.trans h.output,Nat.le_trans h.size k.size,fun i hi hF=>by
  have hs:=h.size
  refine(k.block i (by omega) fun hg=>?_).trans (h.block i hi hF)
  rcases hG i hg with hx | hx
  ·exact hF hx
  ·omega⟩
theorem Fr.trans_nil(h:Fr F a b)(k:Fr [] b c):Fr F a c:=h.trans k (fun _ hx=>by cases hx)
theorem Fr.trans_same(h:Fr F a b)(k:Fr F b c):Fr F a c:=h.trans k (fun _ hx=>.inl hx)
theorem Fr.mono(h:Fr F a b)(hF:∀x,x∈F→x∈G∨a.heap.size≤x):Fr G a b:=
 ⟨h.os,h.tape,h.output,h.size,fun i hi hG=>h.block i hi fun hf=>by
  rcases hF i hf with hx | hx
  ·exact hG hx
  ·omega⟩
theorem Fr.drew(h:Fr F a b):Fr F a b.drew:=⟨h.os,h.tape,h.output,h.size,h.block⟩
theorem Fr.drewN(h:Fr F a b)(n:Nat):Fr F a (b.drewN n):=⟨h.os,h.tape,h.output,h.size,h.block⟩
theorem Fr.from_drew(h:Fr F a.drew b):Fr F a b:=⟨h.os,h.tape,h.output,h.size,h.block⟩
theorem Fr.alloc(h:Fr F a b)(o:Obj):Fr F a (b.alloc o):=
 h.trans_nil ⟨rfl,rfl,rfl,by simp,fun k hk _=>Below.heap_alloc _ _ _ hk⟩
theorem Fr.setCell(h:Fr F a b){p:Addr}(hp:p.block∈F∨a.heap.size≤p.block)(u:Value):Fr F a (b.setCell p u):=
 h.trans (G:=[p.block]) ⟨rfl,rfl,rfl,by simp [World.setCell],fun k _ hk=>Below.heap_setCell _ _ _ _ (by simpa using hk)⟩
  (fun x hx=>by rw [List.mem_singleton]at hx;subst hx;exact hp)
theorem Fr.grown{row:Option Nat}(h:Fr F a b)(hg:b.grownBy c row)(hr:∀k,row=some k→k∈F∨a.heap.size≤k):Fr F a c:=
 h.trans (G:=row.toList) ⟨hg.os,hg.tape,hg.output,hg.size,fun k hk hn=>hg.block k hk (fun e=>hn (by rw [← e];simp))⟩
  (fun x hx=>hr x (by simpa using hx))
theorem Fr.below(h:Fr F a b){B:Nat}(hB:B≤a.heap.size)(hF:∀x,x∈F→B≤x):Below B a b:=
 ⟨h.os,h.tape,h.output,h.size,fun k hk=>h.block k (by omega) (fun hx=>by have:=hF k hx;omega)⟩
theorem Fr.below_nil(h:Fr [] a b):Below a.heap.size a b:=h.below (Nat.le_refl _) (fun _ hx=>by cases hx)
theorem Fr.of_below(h:Below a.heap.size a b):Fr F a b:=⟨h.os,h.tape,h.output,h.size,fun k hk _=>h.block k hk⟩
theorem Fr.cell(h:Fr F a b){p:Addr}(hp:p.block<a.heap.size)(hF:p.block∉F):b.cell? p=a.cell? p:=World.cell?_of_block (w:=a) (h.block p.block hp hF)
theorem Fr.frozen(h:Fr F a b){p:Addr}(hp:p.block<a.heap.size)(hF:p.block∉F):b.frozen? p=a.frozen? p:=World.frozen?_of_block (w:=a) (h.block p.block hp hF)
end
def Blk(w:World)(g:Nat)(t:TypeId)(cs:Array Value):Prop:=w.heap[g]?=some (.cells cs t (0,0))
section
variable {w w':World}{g:Nat}{t:TypeId}{cs:Array Value}{F:List Nat}
theorem Blk.lt(h:Blk w g t cs):g<w.heap.size:=by
 rcases Nat.lt_or_ge g w.heap.size with hlt | hge
 ·exact hlt
 ·unfold Blk at h;rw [Array.getElem?_eq_none hge]at h;cases h
theorem Blk.cell(h:Blk w g t cs)(i:Nat):w.cell? ⟨g,i,none⟩=cs[i]?:=cell_of_row w g i cs t (0,0) h
theorem Blk.frozen(h:Blk w g t cs)(i:Nat):w.frozen? ⟨g,i,none⟩=false:=by
 unfold Blk at h
 simp [World.frozen?,h]
theorem Blk.new(w:World)(t:TypeId)(cs:Array Value):Blk (w.alloc (.cells cs t)) w.heap.size t cs:=heap_alloc_new w _
theorem Blk.new_at{w:World}{n:Nat}(t:TypeId)(cs:Array Value)(h:w.heap.size=n):Blk (w.alloc (.cells cs t)) n t cs:=h ▸ Blk.new w t cs
theorem Blk.drewN(h:Blk w g t cs)(n:Nat):Blk (w.drewN n) g t cs:=h
theorem Blk.drew(h:Blk w g t cs):Blk w.drew g t cs:=h
theorem Blk.alloc(h:Blk w g t cs)(o:Obj):Blk (w.alloc o) g t cs:=(Below.heap_alloc w o g h.lt).trans h
theorem Blk.put(h:Blk w g t cs)(i:Nat)(u:Value):Blk (w.setCell ⟨g,i,none⟩ u) g t (cs.setIfInBounds i u):=by
 unfold Blk at h ⊢
 simp [World.setCell,Array.getElem?_modify,h]
theorem Blk.far(h:Blk w g t cs){p:Addr}(hp:g≠p.block)(u:Value):Blk (w.setCell p u) g t cs:=(Below.heap_setCell w p u g hp).trans h
theorem Blk.fr(h:Blk w g t cs)(hf:Fr F w w')(hg:g∉F):Blk w' g t cs:=(hf.block g h.lt hg).trans h
theorem Blk.apart{g':Nat}{t':TypeId}{cs':Array Value}(h:Blk w g t cs)(h':Blk w g' t' cs')(hne:t≠t'):g≠g':=by
 rintro rfl
 unfold Blk at h h'
 rw [h]at h'
 injection h' with h'
 injection h' with _ ht
 exact hne ht
theorem Blk.same{t':TypeId}{cs':Array Value}(h:Blk w g t cs)(h':Blk w g t' cs'):cs=cs':=by
 unfold Blk at h h'
 rw [h]at h'
 injection h' with h'
 injection h' with hc
end
theorem own_full{w:World}{base g n size:Nat}{e:TypeId}{xs:List Value}(h:w.ownsRow base e size (.slice (some ⟨g,0,none⟩) n n) n xs):Blk w g e xs.toArray:=by
 rcases h.2 with⟨h1,_⟩ | ⟨g',cap,cur,hv,_,hh,_,_,hs,hx⟩
 ·cases h1
 ·injection hv with h1 h2 h3
  injection h1 with h1
  injection h1 with h1 _ _
  subst h1 h3
  unfold Blk
  rw [hh]
  have:cur.toList=xs:=by rw [← hx,List.take_of_length_le (by simp [hs])]
  rw [← this,Array.toArray_toList]
theorem made_one(v:Value)(h:v.cells=#[v])(n:Nat):(madeCells v.cells n).toList=List.replicate n v:=by
 rw [h]
 apply List.ext_getElem
 ·simp [madeCells]
 ·intro i h1 h2
  simp [madeCells,Nat.mod_one]
theorem own_grown{F:List Nat}{w b b0 c:World}{e:TypeId}{size n:Nat}{v:Value}{xs:List Value}(h:Fr F w b)(ho:b0.ownsRow w.heap.size e size v n xs)(hg:b.grownBy c v.ownBlock):Fr F w c:=
 h.grown hg fun k hk=>by
  rcases ho.2 with⟨rfl,_⟩ | ⟨g,cap,cur,rfl,hb,_⟩
  ·cases hk
  ·injection hk with hk
   subst hk
   exact .inr hb
theorem own_blk{w:World}{base n:Nat}{e:TypeId}{v:Value}{xs:List Value}(h:w.ownsRow base e 1 v n xs) :
  (v=.slice none 0 0∧n=0∧xs=[])∨∃g cap cur,v=.slice (some ⟨g,0,none⟩) n cap∧base≤g∧Blk w g e cur∧n≤cap∧cap≤maxLen∧cur.size=cap∧cur.toList.take n=xs∧xs.length=n:=by
 obtain⟨hl,h⟩:=h
 rcases h with⟨h1,h2⟩ | ⟨g,cap,cur,h1,h2,h3,h4,h5,h6,h7⟩
 ·subst h2
  exact .inl ⟨h1,rfl,List.eq_nil_of_length_eq_zero (by simpa using hl)⟩
 ·exact .inr ⟨g,cap,cur,h1,h2,h3,h4,h5,by simpa using h6,by simpa using h7,by simpa using hl⟩
theorem own_fr{F:List Nat}{w w':World}{base n size:Nat}{e:TypeId}{v:Value}{xs:List Value}(h:w.ownsRow base e size v n xs)(hf:Fr F w w')(hg:∀g,v.ownBlock=some g→g∉F):w'.ownsRow base e size v n xs:=by
 obtain⟨hl,h⟩:=h
 refine⟨hl,?_⟩
 rcases h with h | ⟨g,cap,cur,h1,h2,h3,h4⟩
 ·exact .inl h
 ·refine .inr ⟨g,cap,cur,h1,h2,?_,h4⟩
  subst h1
  exact Blk.fr (t:=e) h3 hf (hg g rfl)
def Sl(w:World)(A:Option Addr)(n:Nat)(f:Nat→Value):Prop:=
 0<n→∃b off,A=some ⟨b,off,none⟩∧b<w.heap.size∧∀k,k<n→w.cell? ⟨b,off+k,none⟩=some (f k)
theorem Sl.below{W w w':World}{A:Option Addr}{n:Nat}{f:Nat→Value}(h:Sl w A n f)(hb:Below w.heap.size w w'):Sl w' A n f:=fun hn=>by
 obtain⟨b,off,h1,h2,h3⟩:=h hn
 exact⟨b,off,h1,Nat.lt_of_lt_of_le h2 hb.size,fun k hk=>(hb.cell (p:=⟨b,off+k,none⟩) h2).trans (h3 k hk)⟩
theorem Sl.fr{F:List Nat}{w w':World}{A:Option Addr}{n:Nat}{f:Nat→Value}(h:Sl w A n f)(hf:Fr F w w')(hF:∀x,x∈F→w.heap.size≤x):Sl w' A n f:=
 h.below (W:=w) (hf.below (Nat.le_refl _) hF)
theorem Sl.own{w:World}{base n:Nat}{e:TypeId}{v:Value}{xs:List Value}(h:w.ownsRow base e 1 v n xs):∃A c,v=.slice A n c∧Sl w A n (fun k=>xs.getD k undef):=by
 rcases own_blk h with⟨rfl,rfl,rfl⟩ | ⟨g,cap,cur,rfl,_,hb,h1,_,h2,h3,h4⟩
 ·exact⟨none,0,rfl,fun h=>absurd h (by decide)⟩
 ·refine⟨_,_,rfl,fun _=>⟨g,0,rfl,hb.lt,fun k hk=>?_⟩⟩
  rw [hb.cell,Nat.zero_add]
  subst h3
  have hlt:k<cur.size:=by omega
  simp [hk,hlt]
theorem own_ne{w:World}{base n size:Nat}{e:TypeId}{v:Value}{xs:List Value}(h:w.ownsRow base e size v n xs){g:Nat}{t:TypeId}{cs:Array Value}(hb:Blk w g t cs)(hne:e≠t):∀x,v.ownBlock=some x→x≠g:=by
 rcases h.2 with⟨rfl,_⟩ | ⟨g',cap,cur,rfl,_,hh,_⟩
 ·intro x hx;cases hx
 ·intro x hx
  injection hx with hx
  subst hx
  exact Blk.apart (t:=e) hh hb hne
theorem own_far{w:World}{base n size:Nat}{e:TypeId}{v:Value}{xs:List Value}(h:w.ownsRow base e size v n xs){g:Nat}(hg:g<base):g∉v.ownBlock.toList:=by
 rcases h.2 with⟨rfl,_⟩ | ⟨g',cap,cur,rfl,hb,_⟩
 ·simp [Value.ownBlock]
 ·simp [Value.ownBlock];omega
theorem grown_fr{w c:World}{row:Option Nat}(hg:w.grownBy c row):Fr row.toList w c:=(Fr.refl _ _).grown hg fun k hk=>.inl (by simp [hk])
theorem lt_of_cell{w:World}{p:Addr}{v:Value}(h:w.cell? p=some v):p.block<w.heap.size:=by
 rcases Nat.lt_or_ge p.block w.heap.size with hl | hl
 ·exact hl
 ·simp [World.cell?,Array.getElem?_eq_none hl]at h
structure Cls(C:World→Prop) where
 w:World
 ok:C w
theorem wp_region_cls{P:Program}{id:Nat}{Q:Exit→Act→World→Prop}{a:Act}{w:World}{l:List Oper}(C:World→Prop)(hm:P.follows .mixedOrders=true)(hB:Region.lexB .any l.toArray=true)(h0:C w.drew)
  (h:wpQuiet P l.toArray (fun w'=>∃u:Cls C,w'=u.w) (fun a'=>∀w',(∃u:Cls C,w'=u.w)→Q .normal a' w') l a):(Code.region id l.toArray true).wp P Q a w:=
 wp_region_quiet (C:=fun w'=>∃u:Cls C,w'=u.w) hm hB ⟨⟨w.drew,h0⟩,rfl⟩ (by simpa using h)
instance Cls.there {F:List Nat} {w:World}:Nonempty (Cls (Fr F w)):=⟨⟨w,Fr.refl _ _⟩⟩
theorem Cls.call{P:Program}{f:FuncId}{args:Array Value}{C:World→Prop}{v:Value}{u:Cls C}(h:Calls P f args u.w fun e w'=>e=.returned v∧C w'):Calls P f args u.w fun e w''=>e=.returned v∧∃u':Cls C,w''=u'.w:=
 h.mono fun _ w' ⟨he,hc⟩=>⟨he,⟨w',hc⟩,rfl⟩
theorem Cls.grow{P:Program}{f:FuncId}{args:Array Value}{w:World}{v:Value}{u:Cls (Fr [] w)}(h:Calls P f args u.w fun e w'=>e=.returned v∧Fr [] u.w w'):Calls P f args u.w fun e w''=>e=.returned v∧∃u':Cls (Fr [] w),w''=u'.w:=
 Cls.call (h.mono fun _ _ ⟨he,hf⟩=>⟨he,u.ok.trans_same hf⟩)
def Stable(C:World→Prop):Prop:=∀w w',C w→Fr [] w w'→C w'
theorem Cls.grows{P:Program}{f:FuncId}{args:Array Value}{C:World→Prop}(hs:Stable C){v:Value}{u:Cls C}(h:Calls P f args u.w fun e w'=>e=.returned v∧Fr [] u.w w'):Calls P f args u.w fun e w''=>e=.returned v∧∃u':Cls C,w''=u'.w:=
 Cls.call (h.mono fun _ _ ⟨he,hf⟩=>⟨he,hs _ _ u.ok hf⟩)
theorem Cls.drew{C:World→Prop}(hs:Stable C)(u:Cls C):C u.w.drew:=hs _ _ u.ok (Fr.refl _ _).drew
theorem Cls.cell{w:World}{F:List Nat}{p:Addr}{v:Value}(u:Cls (Fr F w))(h:w.cell? p=some v)(hF:p.block∉F):u.w.cell? p=some v:=(u.ok.cell (lt_of_cell h) hF).trans h
theorem hide{p:Prop}(h:p):Hid p:=h
theorem ret_int{k:IntKind}{a b:Int}(h:a=b):Ending.returned (.int k a)=.returned (.int k b):=by rw [h]
theorem ret_bool{a b:Bool}(h:a=b):Ending.returned (.bool a)=.returned (.bool b):=by rw [h]
theorem ret_ii{k k':IntKind}{a b c d:Int}(h:a=b)(h':c=d):Ending.returned (.tuple #[.int k a,.int k' c])=.returned (.tuple #[.int k b,.int k' d]):=by rw [h,h']
theorem call_right{P:Program}{f:FuncId}{args:Array Value}{w:World}{v:Value}(h:Calls P f args w fun e w'=>e=.returned v∧w=w'):Calls P f args w fun e w'=>e=.returned v∧w'=w:=
 h.mono fun _ _ ⟨he,hm⟩=>⟨he,hm.symm⟩
theorem region_tail{P:Program}{id:Nat}{Q:Exit→Act→World→Prop}{a:Act}{w:World}{l:List Oper}(n:Nat)(hm:P.follows .mixedOrders=true)(hB:Region.lexTailB .any l.toArray n=true)
  (h:wpStill P l.toArray w.drew (fun a'=>wpList P l.toArray Q (l.drop n) a' w.drew) (l.take n) a):(Code.region id l.toArray true).wp P Q a w:=wp_region_still_tail n hm hB h
theorem quiet_left{P:Program}{f:FuncId}{args:Array Value}{w:World}{n:Nat}{v:Value}
  (h:Calls P f args (w.drewN n) fun e w'=>e=.returned v∧w.drewN n=w'):Calls P f args (w.drewN n) fun e w''=>e=.returned v∧∃m,w''=w.drewN m:=
 h.mono fun _ _ ⟨he,hm⟩=>⟨he,n,hm.symm⟩
theorem quiet_add_left{P:Program}{f:FuncId}{args:Array Value}{w:World}{a n:Nat}{v:Value}
  (h:Calls P f args (w.drewN (a+n)) fun e w'=>e=.returned v∧w.drewN (a+n)=w') :
  Calls P f args (w.drewN (a+n)) fun e w''=>e=.returned v∧∃m,w''=w.drewN (a+m):=
 h.mono fun _ _ ⟨he,hm⟩=>⟨he,n,hm.symm⟩
theorem Fr.setRow{F:List Nat}{w:World}{g:Nat}(hg:g∈F)(cs:Array Value):Fr F w (w.setRow g cs):=
 ⟨rfl,rfl,rfl,by simp [World.setRow],fun k _ hk=>setRow_other w g k cs (fun e=>hk (e ▸ hg))⟩
theorem Blk.setRow{w:World}{g:Nat}{t:TypeId}{cs:Array Value}(h:Blk w g t cs)(cs':Array Value):Blk (w.setRow g cs') g t cs':=setRow_heap w g cs cs' t _ h
theorem run_clear_blk{P:Program}{w:World}{t e ty:TypeId}{z:Value}(ht:P.underlying t=some (.slice e))(hv:∀w,(zeroValue e).run P w=.ok z w)(hz:z.cells=#[z])(h1:z.oneCell'=true)
  (dp:Option Addr) (n c g off:Nat) (cur:Array Value) (tt:TypeId) (hg:Blk w g tt cur) (hpos:0<n→dp=some ⟨g,off,none⟩) (hfit:off+n≤cur.size) :
  ∃w',(Builtin.clear_ #[t] ty #[.slice dp n c]).run P w=.ok (.tuple #[]) w'∧Blk w' g tt (splice cur.toList off (List.replicate n z)).toArray∧Fr [g] w w':=by
 by_cases h0:n=0
 ·subst h0
  refine⟨w,?_,by simpa [splice] using hg,Fr.refl _ _⟩
  cases dp <;> simp [Builtin.clear_,run_underlying ht]
 ·obtain rfl:=hpos (by omega)
  have hzc:(Builtin.zeroCells z.cells n).toList=List.replicate n z:=by
   rw [hz]
   simp [Builtin.zeroCells]
   apply List.ext_getElem
   ·simp
   ·intro i h1 h2
    simp [Nat.mod_one]
  have hst:=run_storeCells_at P g off tt (List.replicate n z) 0 cur w hg (by simp;omega) (by intro v hv';rw [List.eq_of_mem_replicate hv'];exact h1)
  simp only [Nat.add_zero]at hst
  obtain⟨m,rfl⟩:∃m,n=m+1:=⟨n-1,by omega⟩
  refine⟨w.setRow g (splice cur.toList off (List.replicate (m+1) z)).toArray,?_,hg.setRow _,Fr.setRow (by simp) _⟩
  simp [Builtin.clear_,run_underlying ht,hv,hzc,hst,splice]
theorem wpList_clear_blk{P:Program}{w:World}{ops:Array Oper}{rest:List Oper}{o:Oper}{a:Act}{Q:Exit→Act→World→Prop}(hgd:o.guard=none)(d:Operand)(dT:TypeId)
  (ho:o.op=.call { callee:=.builtin .clear,args:=#[d],argTypes:=#[dT] }) (e:TypeId) {z:Value} (ht:P.underlying dT=some (.slice e)) (hv:∀w,(zeroValue e).run P w=.ok z w) (hz:z.cells=#[z]) (h1:z.oneCell'=true)
  (dp:Option Addr) (n c:Nat) (hd:a.eval d=.slice dp n c) (g off:Nat) (cur:Array Value) (tt:TypeId) (hg:Blk w g tt cur) (hpos:0<n→dp=some ⟨g,off,none⟩) (hfit:off+n≤cur.size)
  (h:∀w',Hid (Blk w' g tt (splice cur.toList off (List.replicate n z)).toArray)→Hid (Fr [g] w w')→wpList P ops Q rest (a.put o.dst (.tuple #[])) w') :
  wpList P ops Q (o::rest) a w:=by
 refine wpList_plain hgd fun K hK=>?_
 obtain⟨w',hrun,hb,hf⟩:=run_clear_blk (ty:=o.type) ht hv hz h1 dp n c g off cur tt hg hpos hfit
 unfold Oper.wp
 simp [execOp,ho,resolve,invoke,builtin,hd,hrun,Result.andThen]
 exact hK _ _ (h w' hb hf)
def memV(n:Nat)(f:Nat→Nat):Array Value:=((List.range n).map fun k=>Value.int .u64 (f k:Int)).toArray
def upd(f:Nat→Nat)(k x:Nat):Nat→Nat:=fun j=>if j=k then x else f j
def updRow(f:Nat→Nat)(off m:Nat)(g:Nat→Nat):Nat→Nat:=fun j=>if off≤j∧j<off+m then g (j-off) else f j
theorem memV_size(n:Nat)(f:Nat→Nat):(memV n f).size=n:=by simp [memV]
theorem memV_get(n:Nat)(f:Nat→Nat)(k:Nat):(memV n f)[k]?=if k<n then some (.int .u64 (f k:Int)) else none:=by
 unfold memV
 by_cases h:k<n
 ·simp [h]
 ·simp [h]
theorem memV_at{n:Nat}{f:Nat→Nat}{k:Nat}(h:k<n):(memV n f)[k]?=some (.int .u64 (f k:Int)):=by rw [memV_get,if_pos h]
theorem memV_ext{n:Nat}{f:Nat→Nat}{cs:Array Value}(hs:cs.size=n)(h:∀k,k<n→cs[k]?=some (.int .u64 (f k:Int))):cs=memV n f:=by
 apply Array.ext
 ·rw [hs,memV_size]
 ·intro i h1 h2
  have a1:=h i (by omega)
  have a2:=memV_at (f:=f) (show i<n by omega)
  rw [Array.getElem?_eq_getElem h1]at a1
  rw [Array.getElem?_eq_getElem h2]at a2
  exact Option.some.inj (a1.trans a2.symm)
theorem memV_set(n:Nat)(f:Nat→Nat)(k x:Nat):(memV n f).setIfInBounds k (.int .u64 (x:Int))=memV n (upd f k x):=by
 refine memV_ext (by simp [memV_size]) fun j hj=>?_
 rw [Array.getElem?_setIfInBounds]
 unfold upd
 by_cases h:k=j
 ·subst h
  rw [if_pos rfl,if_pos (by rw [memV_size];exact hj),if_pos rfl]
 ·rw [if_neg h,if_neg (Ne.symm h),memV_at hj]
theorem memV_splice{n:Nat}{f:Nat→Nat}{off m:Nat}{cs:List Value}{g:Nat→Nat}(hl:cs.length=m)(hm:off+m≤n)(hc:∀j,j<m→cs[j]?=some (.int .u64 (g j:Int))) :
  (splice (memV n f).toList off cs).toArray=memV n (updRow f off m g):=by
 have hs:(memV n f).toList.length=n:=by simp [memV_size]
 refine memV_ext (by simp [length_splice _ _ _ (show off+cs.length≤(memV n f).toList.length by omega),memV_size]) fun j hj=>?_
 rw [List.getElem?_toArray]
 unfold splice updRow
 by_cases h1:j<off
 ·rw [if_neg (by omega),List.getElem?_append_left (by rw [List.length_take];omega),List.getElem?_take_of_lt h1,Array.getElem?_toList,memV_at hj]
 ·have e1:((memV n f).toList.take off).length=off:=by rw [List.length_take];omega
  rw [List.getElem?_append_right (by omega),e1]
  by_cases h2:j<off+m
  ·rw [if_pos (by omega),List.getElem?_append_left (by omega),hc _ (by omega)]
  ·rw [if_neg (by omega),List.getElem?_append_right (by omega),List.getElem?_drop,Array.getElem?_toList,show off+cs.length+(j-off-cs.length)=j by omega,memV_at hj]
structure Lr(w:World)(e:TypeId)(A:Option Addr)(n c:Nat)(G:List Nat)(xs:List Value):Prop where
 len:xs.length=n
 le:n≤c
 max:c≤maxLen
 zero:c=0→G=[]
 blk:0<c→∃g off cur,A=some ⟨g,off,none⟩∧G=[g]∧Blk w g e cur∧off+c≤cur.size∧(cur.toList.drop off).take n=xs
section
variable {w w':World}{e:TypeId}{A:Option Addr}{n c:Nat}{G F:List Nat}{xs:List Value}
theorem Lr.nil(w:World)(e:TypeId):Lr w e none 0 0 [] []:=⟨rfl,Nat.le_refl _,Nat.zero_le _,fun _=>rfl,fun h=>absurd h (by decide)⟩
theorem Lr.fr(h:Lr w e A n c G xs)(hf:Fr F w w')(hd:∀g,g∈G→g∉F):Lr w' e A n c G xs:=
 ⟨h.len,h.le,h.max,h.zero,fun hc=>by
  obtain⟨g,off,cur,h1,h2,h3,h4,h5⟩:=h.blk hc
  exact⟨g,off,cur,h1,h2,h3.fr hf (hd g (by simp [h2])),h4,h5⟩⟩
theorem Lr.fr0(h:Lr w e A n c G xs)(hf:Fr [] w w'):Lr w' e A n c G xs:=h.fr hf (fun _ _=>by simp)
theorem Lr.drew(h:Lr w e A n c G xs):Lr w.drew e A n c G xs:=h.fr0 ((Fr.refl _ _).drew)
theorem Lr.drewN(h:Lr w e A n c G xs)(k:Nat):Lr (w.drewN k) e A n c G xs:=h.fr0 ((Fr.refl _ _).drewN k)
theorem Lr.alloc(h:Lr w e A n c G xs)(o:Obj):Lr (w.alloc o) e A n c G xs:=h.fr0 ((Fr.refl _ _).alloc o)
theorem Lr.form(h:Lr w e A n c G xs):(A=none∧c=0)∨∃a,A=some a:=by
 rcases Nat.eq_zero_or_pos c with h0 | h0
 ·cases A with
  | none=>exact .inl ⟨rfl,h0⟩
  | some a=>exact .inr ⟨a,rfl⟩
 ·obtain⟨g,off,cur,h1,_⟩:=h.blk h0
  exact .inr ⟨_,h1⟩
theorem Lr.lt(h:Lr w e A n c G xs):∀g,g∈G→g<w.heap.size:=by
 intro g hg
 rcases Nat.eq_zero_or_pos c with h0 | h0
 ·rw [h.zero h0]at hg;cases hg
 ·obtain⟨g',off,cur,h1,h2,h3,_⟩:=h.blk h0
  rw [h2]at hg
  simp at hg
  exact hg ▸ h3.lt
theorem Lr.apart(h:Lr w e A n c G xs){g:Nat}{t:TypeId}{cs:Array Value}(hb:Blk w g t cs)(hne:e≠t):g∉G:=by
 intro hg
 rcases Nat.eq_zero_or_pos c with h0 | h0
 ·rw [h.zero h0]at hg;cases hg
 ·obtain⟨g',off,cur,h1,h2,h3,_⟩:=h.blk h0
  rw [h2]at hg
  simp at hg
  exact Blk.apart h3 hb hne hg.symm
theorem Lr.pos(h:Lr w e A n c G xs)(hn:0<n):∃g off,A=some ⟨g,off,none⟩∧G=[g]∧g<w.heap.size∧(∀k,k<n→w.cell? ⟨g,off+k,none⟩=xs[k]?)∧(∀k,w.frozen? ⟨g,k,none⟩=false)∧∃cur,Blk w g e cur∧off+c≤cur.size:=by
 obtain⟨g,off,cur,h1,h2,h3,h4,h5⟩:=h.blk (by have:=h.le;omega)
 refine⟨g,off,h1,h2,h3.lt,fun k hk=>?_,fun k=>h3.frozen k,cur,h3,h4⟩
 rw [h3.cell,← h5,List.getElem?_take_of_lt hk,List.getElem?_drop,Array.getElem?_toList]
theorem Lr.sl(h:Lr w e A n c G xs):Sl w A n (fun k=>xs.getD k undef):=fun hn=>by
 obtain⟨g,off,h1,_,h2,h3,_⟩:=h.pos hn
 refine⟨g,off,h1,h2,fun k hk=>?_⟩
 rw [h3 k hk]
 have:k<xs.length:=by rw [h.len];exact hk
 simp [this]
theorem Lr.read(h:Lr w e A n c G xs):0<n→∃ad,A=some ad∧∀j u,xs[j]?=some u→w.cell? (ad.add j)=some u:=fun hn=>by
 obtain⟨g,off,h1,_,h2,h3,_⟩:=h.pos hn
 refine⟨_,h1,fun j u hu=>?_⟩
 have hj:j<n:=by rw [← h.len];exact(List.getElem?_eq_some_iff.1 hu).1
 rw [show(⟨g,off,none⟩:Addr).add j=⟨g,off+j,none⟩ from Go.WideShapes.add_plain _ _ _,h3 j hj,hu]
theorem Lr.keep(h:Lr w e A n c G xs)(k:Nat)(hk:k≤n):Lr w e A k c G (xs.take k):=by
 refine⟨by simp [h.len];omega,by have:=h.le;omega,h.max,h.zero,fun hc=>?_⟩
 obtain⟨g,off,cur,h1,h2,h3,h4,h5⟩:=h.blk hc
 refine⟨g,off,cur,h1,h2,h3,h4,?_⟩
 rw [← h5,List.take_take]
 congr 1;omega
theorem Lr.put{g off k:Nat}(h:Lr w e (some ⟨g,off,none⟩) n c G xs)(hk:k<n)(u:Value):Lr (w.setCell ⟨g,off+k,none⟩ u) e (some ⟨g,off,none⟩) n c G (xs.set k u):=by
 refine⟨by simp [h.len],h.le,h.max,h.zero,fun hc=>?_⟩
 obtain⟨g',off',cur,h1,h2,h3,h4,h5⟩:=h.blk hc
 have hle:=h.le
 injection h1 with h1
 injection h1 with h1 h1'
 subst h1 h1'
 refine⟨_,_,_,rfl,h2,h3.put (off+k) u,by simp;omega,?_⟩
 rw [← h5]
 apply List.ext_getElem?
 intro j
 rw [List.getElem?_take,List.getElem?_drop,Array.getElem?_toList,Array.getElem?_setIfInBounds,List.getElem?_set,List.getElem?_take,List.getElem?_drop,Array.getElem?_toList]
 by_cases hj:k=j
 ·subst hj
  have h1:off+k<cur.size:=by omega
  simp [hk,h1]
  omega
 ·simp [hj]
theorem Lr.of_own{base:Nat}{v:Value}(h:w.ownsRow base e 1 v n xs):∃A c G,v=.slice A n c∧Lr w e A n c G xs∧∀g,g∈G→base≤g:=by
 rcases own_blk h with⟨rfl,rfl,rfl⟩ | ⟨g,cap,cur,rfl,hb,h1,h2,h3,h4,h5,h6⟩
 ·exact⟨none,0,[],rfl,Lr.nil _ _,fun _ h=>by cases h⟩
 ·rcases Nat.eq_zero_or_pos cap with h0 | h0
  ·refine⟨_,cap,[],rfl,⟨h6,h2,h3,fun _=>rfl,fun h=>absurd h (by omega)⟩,fun _ h=>by cases h⟩
  ·exact⟨_,cap,[g],rfl,⟨h6,h2,h3,fun h=>absurd h (by omega),fun _=>⟨g,0,cur,rfl,rfl,h1,by omega,by simpa using h5⟩⟩,fun x hx=>by simp at hx;omega⟩
end
section
variable {P:Program}{w:World}
theorem run_append_lr(t ty e:TypeId)(i:TypeInfo)(z:Value)(bytes:Nat)(ht:P.underlying t=some (.slice e))(hi:P.info? e=some i)(hz:i.zero=some z)(hsize:i.size=1)(hby:i.bytes=bytes)(hzs:z.cells.size=1)
  {A:Option Addr} {n c:Nat} {G:List Nat} {xs:List Value} (h:Lr w e A n c G xs) {X:Option Addr} {m cx:Nat} {news:List Value} (hl:news.length=m)
  (hx:0<m→∃ad,X=some ad∧∀j u,news[j]?=some u→w.cell? (ad.add j)=some u) (h1:∀u∈news,u.oneCell'=true) (h63:n+m≤maxLen) (hb:(n+m)*bytes≤140737488355328) :
  ∃A' c' G' w',(Builtin.append_ #[t,t] ty #[.slice A n c,.slice X m cx]).run P w=.ok (.slice A' (n+m) c') w'∧Lr w' e A' (n+m) c' G' (xs++news)∧Fr G w w'∧(∀g,g∈G'→g∈G∨(g=w.heap.size∧0<m)):=by
 subst hby
 rcases Nat.eq_zero_or_pos m with h0 | hm
 ·subst h0
  obtain rfl:news=[]:=List.eq_nil_of_length_eq_zero hl
  refine⟨A,c,G,w,?_,by simpa using h,Fr.refl _ _,fun g hg=>.inl hg⟩
  cases X with
  | none=>exact run_append_nothing w t t ty e i ht hi A n c h.le _ (Src.ofNil w ht cx)
  | some a=>exact run_append_nothing w t t ty e i ht hi A n c h.le _ (Src.ofSlice w ht a 0 cx [] (by simp) (fun j u hu=>by simp at hu) (fun _ hu=>by cases hu))
 ·obtain⟨ad,rfl,hn⟩:=hx hm
  have hle:=h.le
  by_cases hr:n+m≤c
  ·obtain⟨g,off,cur,rfl,rfl,hb,hsz,htk⟩:=h.blk (by omega)
   have hf:=run_firstCells_some (P:=P) w i.size m ad m cx news (by rw [hsize];omega) hn
   have hst:=run_storeCells_at P g (off+n) e news 0 cur w hb (by omega) h1
   simp only [Nat.add_zero]at hst
   rw [hsize]at hf
   refine⟨some ⟨g,off,none⟩,c,[g],w.setRow g (cur.toList.take (off+n)++news++cur.toList.drop (off+n+news.length)).toArray,?_,⟨by simp [h.len,hl],hr,h.max,fun h=>absurd h (by omega),fun _=>⟨g,off,_,rfl,rfl,Blk.setRow hb _,?_,?_⟩⟩,Fr.setRow (by simp) _,fun x hx=>.inl hx⟩
   ·simp [Builtin.append_,run_underlying ht,sizeOf,typeInfo,hi,Builtin.lenOf,hr,hsize,hf,Addr.add_lit,hst]
   ·simp;omega
   ·have e1:(cur.toList.take (off+n)).length=off+n:=by simp;omega
    rw [List.append_assoc,List.drop_append_of_le_length (by omega),List.take_append,List.take_of_length_le (by simp;omega)]
    have e2:((cur.toList.take (off+n)).drop off)=xs:=by
     rw [← htk,List.drop_take];congr 1;omega
    rw [e2,h.len,show n+m-n=m by omega,List.take_append_of_le_length (by omega),List.take_of_length_le (by omega)]
  ·have hsmall:n+m≤9223372036854775807:=by simp only [maxLen]at h63;omega
   have hge:=grownCap_ge w (n+m) c e
   have hcm:grownCap w (n+m) c e≤maxLen:=grownCap_le_maxLen w (n+m) c e h63
   have hold:(Builtin.firstCells i.size n (.slice A n c)).run P w.drew=.ok xs.toArray w.drew:=by
    rcases Nat.eq_zero_or_pos n with hn0 | hn0
    ·subst hn0
     obtain rfl:xs=[]:=List.eq_nil_of_length_eq_zero h.len
     cases A with
     | none=>exact run_firstCells_none w.drew i.size 0 0 c
     | some a=>exact run_firstCells_some w.drew i.size 0 a 0 c [] (by simp) (fun j u hu=>by simp at hu)
    ·obtain⟨a,rfl,ha⟩:=h.read hn0
     exact run_firstCells_some w.drew i.size n a n c xs (by rw [hsize,h.len];omega) (by simpa using ha)
   have hr:=run_append_grow_src (P:=P) w t t ty e i z ht hi hz A n c xs hold (.slice (some ad) m cx) m news (Src.ofSlice w ht ad m cx news (by rw [hsize];omega) hn h1) (by omega) (by omega) (growslice_fits (by omega) hb)
   refine⟨_,_,[w.heap.size],_,hr,⟨by simp [h.len,hl],hge,hcm,fun h=>absurd h (by omega),fun _=>⟨w.heap.size,0,_,rfl,rfl,Blk.new w.drew _ _,?_,?_⟩⟩,((Fr.refl _ _).drew).alloc _,fun x hx=>.inr ⟨by simpa using hx,hm⟩⟩
   ·simp [size_zeroCells,hzs,h.len,hl];omega
   ·simp only [Array.toList_append,List.drop_zero]
    rw [List.take_append_of_le_length (by simp [h.len,hl]),List.take_of_length_le (by simp [h.len,hl])]
theorem wpList_append_lr{ops:Array Oper}{rest:List Oper}{o:Oper}{a:Act}{Q:Exit→Act→World→Prop}(hgd:o.guard=none)(s x:Operand)(t:TypeId)
  (ho:o.op=.call { callee:=.builtin .append,args:=#[s,x],argTypes:=#[t,t] })
  (e:TypeId) (i:TypeInfo) (z:Value) (bytes:Nat) (ht:P.underlying t=some (.slice e)) (hi:P.info? e=some i) (hz:i.zero=some z) (hsize:i.size=1) (hby:i.bytes=bytes) (hzs:z.cells.size=1)
  {A:Option Addr} {n c:Nat} {G:List Nat} {xs:List Value} (hs:a.eval s=.slice A n c) (h:Lr w e A n c G xs) {X:Option Addr} {m cx:Nat} {news:List Value} (hxv:a.eval x=.slice X m cx) (hl:news.length=m)
  (hx:0<m→∃ad,X=some ad∧∀j u,news[j]?=some u→w.cell? (ad.add j)=some u) (h1:∀u∈news,u.oneCell'=true) (h63:n+m≤maxLen) (hb:(n+m)*bytes≤140737488355328)
  (hK:∀A' c' G' w',Hid (Lr w' e A' (n+m) c' G' (xs++news))→Hid (Fr G w w')→Hid (∀g,g∈G'→g∈G∨(g=w.heap.size∧0<m))→wpList P ops Q rest (a.put o.dst (.slice A' (n+m) c')) w'):wpList P ops Q (o::rest) a w:=by
 refine wpList_plain hgd fun K hK'=>?_
 obtain⟨A',c',G',w',hrun,r1,r2,r3⟩:=run_append_lr (P:=P) t o.type e i z bytes ht hi hz hsize hby hzs h hl hx h1 h63 hb (cx:=cx)
 unfold Oper.wp
 simp [execOp,ho,resolve,invoke,builtin,hs,hxv,hrun,Result.andThen]
 exact hK' _ _ (hK A' c' G' w' r1 r2 r3)
theorem wp_append_lr{o:Oper}{a:Act}{K:Act→World→Prop}{Q:Exit→Act→World→Prop}(s x:Operand)(t:TypeId)
  (ho:o.op=.call { callee:=.builtin .append,args:=#[s,x],argTypes:=#[t,t] })
  (e:TypeId) (i:TypeInfo) (z:Value) (bytes:Nat) (ht:P.underlying t=some (.slice e)) (hi:P.info? e=some i) (hz:i.zero=some z) (hsize:i.size=1) (hby:i.bytes=bytes) (hzs:z.cells.size=1)
  {A:Option Addr} {n c:Nat} {G:List Nat} {xs:List Value} (hs:a.eval s=.slice A n c) (h:Lr w e A n c G xs) {X:Option Addr} {m cx:Nat} {news:List Value} (hxv:a.eval x=.slice X m cx) (hl:news.length=m)
  (hx:0<m→∃ad,X=some ad∧∀j u,news[j]?=some u→w.cell? (ad.add j)=some u) (h1:∀u∈news,u.oneCell'=true) (h63:n+m≤maxLen) (hb:(n+m)*bytes≤140737488355328)
  (hK:∀A' c' G' w',Hid (Lr w' e A' (n+m) c' G' (xs++news))→Hid (Fr G w w')→Hid (∀g,g∈G'→g∈G∨(g=w.heap.size∧0<m))→K (a.put o.dst (.slice A' (n+m) c')) w'):Oper.wp P o a w K Q:=by
 obtain⟨A',c',G',w',hrun,r1,r2,r3⟩:=run_append_lr (P:=P) t o.type e i z bytes ht hi hz hsize hby hzs h hl hx h1 h63 hb (cx:=cx)
 unfold Oper.wp
 simp [execOp,ho,resolve,invoke,builtin,hs,hxv,hrun,Result.andThen]
 exact hK A' c' G' w' r1 r2 r3
end
def zv(l:List Int):List Value:=l.map (Value.int .i64)
theorem zv_len(l:List Int):(zv l).length=l.length:=by simp [zv]
theorem zv_app(a b:List Int):zv (a++b)=zv a++zv b:=by simp [zv]
theorem zv_one(l:List Int):∀u∈zv l,u.oneCell'=true:=by
 intro u hu
 obtain⟨x,_,rfl⟩:=List.mem_map.1 hu
 rfl
theorem zv_get(l:List Int){k:Nat}(h:k<l.length):(zv l)[k]?=some (.int .i64 (l.getD k 0)):=by simp [zv,h]
theorem Lr.slz{w:World}{e:TypeId}{A:Option Addr}{n c:Nat}{G:List Nat}{l:List Int}(h:Lr w e A n c G (zv l)):Sl w A n (fun k=>.int .i64 (l.getD k 0)):=fun hn=>by
 obtain⟨g,off,h1,_,h2,h3,_⟩:=h.pos hn
 refine⟨g,off,h1,h2,fun k hk=>?_⟩
 rw [h3 k hk,zv_get _ (by have:=h.len;rw [zv_len]at this;omega)]
theorem one_of(w:World)(v:Value)(t:TypeId){b:Nat}(hb:w.heap.size=b)(w':World)(hf:Fr [] (w.alloc (.cells #[v] t)) w'):∃ad,some (⟨b,0,none⟩:Addr)=some ad∧∀j u,[v][j]?=some u→w'.cell? (ad.add j)=some u:=by
 subst hb
 refine⟨_,rfl,fun j u hj=>?_⟩
 have hb:=(Blk.new w t #[v]).fr hf (by simp)
 match j,hj with
 | 0,hj=>
  simp only [List.getElem?_cons_zero,Option.some.injEq]at hj
  subst hj
  exact hb.cell 0
def rowF(n:Nat)(f:Nat→Value):Array Value:=((List.range n).map f).toArray
def putF{α:Type}(f:Nat→α)(k:Nat)(v:α):Nat→α:=fun j=>if j=k then v else f j
theorem putF_at{α:Type}(f:Nat→α)(k:Nat)(v:α):putF f k v k=v:=by simp [putF]
theorem putF_ne{α:Type}(f:Nat→α){k j:Nat}(v:α)(h:j≠k):putF f k v j=f j:=by simp [putF,h]
theorem rowF_size(n:Nat)(f:Nat→Value):(rowF n f).size=n:=by simp [rowF]
theorem rowF_at{n:Nat}{f:Nat→Value}{k:Nat}(h:k<n):(rowF n f)[k]?=some (f k):=by simp [rowF,h]
theorem rowF_ext{n:Nat}{f:Nat→Value}{cs:Array Value}(hs:cs.size=n)(h:∀k,k<n→cs[k]?=some (f k)):cs=rowF n f:=by
 apply Array.ext
 ·rw [hs,rowF_size]
 ·intro i h1 h2
  have a1:=h i (by omega)
  have a2:=rowF_at (f:=f) (show i<n by omega)
  rw [Array.getElem?_eq_getElem h1]at a1
  rw [Array.getElem?_eq_getElem h2]at a2
  exact Option.some.inj (a1.trans a2.symm)
theorem rowF_set(n:Nat)(f:Nat→Value)(k:Nat)(v:Value):(rowF n f).setIfInBounds k v=rowF n (putF f k v):=by
 refine rowF_ext (by simp [rowF_size]) fun j hj=>?_
 rw [Array.getElem?_setIfInBounds]
 unfold putF
 by_cases h:k=j
 ·subst h
  rw [if_pos rfl,if_pos (by rw [rowF_size];exact hj),if_pos rfl]
 ·rw [if_neg h,if_neg (Ne.symm h),rowF_at hj]
theorem rowF_const(n:Nat)(v:Value):rowF n (fun _=>v)=(List.replicate n v).toArray:=by
 unfold rowF
 congr 1
 apply List.ext_getElem <;> simp
structure Ls(ti ts:TypeId)(w:World)(tb n:Nat)(V:Nat→Value)(G:Nat→List Nat)(O:Nat→List Int):Prop where
 tab:Blk w tb ts (rowF n V)
 own:∀i,i<n→∃A c,V i=.slice A (O i).length c∧Lr w ti A (O i).length c (G i) (zv (O i))
 apart:∀i j,i<n→j<n→i≠j→∀g,g∈G i→g∉G j
section
variable {ti ts:TypeId}{w w':World}{tb n:Nat}{V:Nat→Value}{G:Nat→List Nat}{O:Nat→List Int}{F:List Nat}
theorem Ls.fr(h:Ls ti ts w tb n V G O)(hf:Fr F w w')(h1:tb∉F)(h2:∀i,i<n→∀g,g∈G i→g∉F):Ls ti ts w' tb n V G O:=
 ⟨h.tab.fr hf h1,fun i hi=>by
  obtain⟨A,c,e1,e2⟩:=h.own i hi
  exact⟨A,c,e1,e2.fr hf (h2 i hi)⟩,h.apart⟩
theorem Ls.fr0(h:Ls ti ts w tb n V G O)(hf:Fr [] w w'):Ls ti ts w' tb n V G O:=h.fr hf (by simp) (fun _ _ _ _=>by simp)
theorem Ls.cw(h:Ls ti ts w tb n V G O){k:Nat}(hk:k<n):w.cell? ⟨tb,k,none⟩=some (V k):=by rw [h.tab.cell,rowF_at hk]
theorem Ls.far(h:Ls ti ts w tb n V G O)(hne:ti≠ts){k:Nat}(hk:k<n):tb∉G k:=by
 obtain⟨A,c,e1,e2⟩:=h.own k hk
 exact e2.apart h.tab hne
theorem Ls.lt(h:Ls ti ts w tb n V G O){k:Nat}(hk:k<n):∀g,g∈G k→g<w.heap.size:=by
 obtain⟨A,c,e1,e2⟩:=h.own k hk
 exact e2.lt
theorem Ls.put(h:Ls ti ts w tb n V G O)(hne:ti≠ts){k:Nat}(hk:k<n){A:Option Addr}{c:Nat}{G1:List Nat}{l:List Int}(hf:Fr (G k) w w')(hl:Lr w' ti A l.length c G1 (zv l))(hg:∀g,g∈G1→g∈G k∨w.heap.size≤g) :
  Ls ti ts (w'.setCell ⟨tb,k,none⟩ (.slice A l.length c)) tb n (putF V k (.slice A l.length c)) (putF G k G1) (putF O k l):=by
 have hF:Fr [tb] w' (w'.setCell ⟨tb,k,none⟩ (.slice A l.length c)):=(Fr.refl _ _).setCell (p:=⟨tb,k,none⟩) (.inl (by simp)) _
 have ht:=h.tab.fr hf (h.far hne hk)
 refine⟨by have:=ht.put k (.slice A l.length c);rw [rowF_set]at this;exact this,fun i hi=>?_,fun i j hi hj hij g hgi hgj=>?_⟩
 ·by_cases hik:i=k
  ·subst hik
   rw [putF_at,putF_at,putF_at]
   refine⟨A,c,rfl,hl.fr hF fun g hg1=>?_⟩
   have:=hl.apart ht hne
   intro h0
   simp at h0
   subst h0
   exact this hg1
  ·rw [putF_ne _ _ hik,putF_ne _ _ hik,putF_ne _ _ hik]
   obtain⟨A',c',e1,e2⟩:=h.own i hi
   refine⟨A',c',e1,(e2.fr hf (h.apart i k hi hk hik)).fr hF fun g hg1=>?_⟩
   have:=e2.apart h.tab hne
   intro h0
   simp at h0
   subst h0
   exact this hg1
 ·by_cases hik:i=k
  ·subst hik
   rw [putF_at]at hgi
   rw [putF_ne _ _ (fun h=>hij h.symm)]at hgj
   rcases hg g hgi with h1 | h1
   ·exact h.apart i j hi hj hij g h1 hgj
   ·have:=h.lt hj g hgj;omega
  ·rw [putF_ne _ _ hik]at hgi
   by_cases hjk:j=k
   ·subst hjk
    rw [putF_at]at hgj
    rcases hg g hgj with h1 | h1
    ·exact h.apart i j hi hj hij g hgi h1
    ·have:=h.lt hi g hgi;omega
   ·rw [putF_ne _ _ hjk]at hgj
    exact h.apart i j hi hj hij g hgi hgj
end
end Go.Gl
