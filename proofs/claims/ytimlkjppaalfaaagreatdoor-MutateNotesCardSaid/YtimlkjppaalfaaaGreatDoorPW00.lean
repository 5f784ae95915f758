/- Several texts joined (pack.py): Kit Hd. -/
import Derived.Below
import Derived.OwnWalk
import Derived.Deep.Draws
import Derived.Deep.QuietTactic
import Derived.BigQuiet
import Derived.Laws.Rows
import Derived.StillTailTactics
import Derived.Laws.CopyOwn
import Derived.Lib.SliceRun
import Derived.IntWalk
import Derived.Laws.BitsAllLaws
set_option linter.unusedVariables false
open Int renaming eq_ofNat_of_zero_le->Da,toNat_natCast->Db
open Nat renaming lt_of_lt_of_le->Dc,le_refl->Dd
namespace Go.Gl
open Go.RowKit
structure Fr(F:List Nat)(w w':World):Prop where
 os:w'.os=w.os
 tape:w'.tape=w.tape
 output:w'.output=w.output
 size:w.heap.size<=w'.heap.size
 block:∀k,k<w.heap.size->k∉F->w'.heap[k]?=w.heap[k]?
section
variable {F G:List Nat}{a b c w w':World}
theorem Fr.refl(F:List Nat)(w:World):Fr F w w:=⟨rfl,rfl,rfl,Dd _,λ_ _ _=>rfl⟩
theorem Fr.trans(h:Fr F a b)(k:Fr G b c)(hG:∀x,x∈G->x∈F\/a.heap.size<=x):Fr F a c:=
 ⟨k.os.trans h.os,k.tape.trans h.tape,k.output.trans h.output,Nat.le_trans h.size k.size,λi hi hF=>by
  have hs:=h.size;refine(k.block i (by omega) λhg=>?_).trans (h.block i hi hF);rcases hG i hg with hx|hx
  ·exact hF hx
  ·omega⟩
theorem Fr.aO(h:Fr F a b)(k:Fr [] b c):Fr F a c:=h.trans k (λ_ hx=>by cases hx)
theorem Fr.ae(h:Fr F a b)(k:Fr F b c):Fr F a c:=h.trans k (λ_ hx=>.inl hx)
theorem Fr.mono(h:Fr F a b)(hF:∀x,x∈F->x∈G\/a.heap.size<=x):Fr G a b:=
 ⟨h.os,h.tape,h.output,h.size,λi hi hG=>h.block i hi λhf=>by
  rcases hF i hf with hx|hx
  ·exact hG hx
  ·omega⟩
theorem Fr.drew(h:Fr F a b):Fr F a b.drew:=⟨h.os,h.tape,h.output,h.size,h.block⟩
theorem Fr.drewN(h:Fr F a b)(n:Nat):Fr F a (b.drewN n):=⟨h.os,h.tape,h.output,h.size,h.block⟩
theorem Fr.kJ{n:Nat}(h:Fr F (a.drewN n) b):Fr F a b:=⟨h.os,h.tape,h.output,h.size,h.block⟩
theorem Fr.fg(h:Fr F a.drew b):Fr F a b:=⟨h.os,h.tape,h.output,h.size,h.block⟩
theorem Fr.alloc(h:Fr F a b)(o:Obj):Fr F a (b.alloc o):=
 h.aO ⟨rfl,rfl,rfl,by simp,λk hk _=>Below.heap_alloc _ _ _ hk⟩
theorem Fr.setCell(h:Fr F a b){p:Addr}(hp:p.block∈F\/a.heap.size<=p.block)(u:Value):Fr F a (b.setCell p u):=
 h.trans (G:=[p.block]) ⟨rfl,rfl,rfl,by simp[World.setCell],λk _ hk=>Below.heap_setCell _ _ _ _ (by simpa using hk)⟩
  (λx hx=>by rw[List.mem_singleton]at hx;subst hx;exact hp)
theorem Fr.grown{row:Option Nat}(h:Fr F a b)(hg:b.grownBy c row)(hr:∀k,row=some k->k∈F\/a.heap.size<=k):Fr F a c:=
 h.trans (G:=row.toList) ⟨hg.os,hg.tape,hg.output,hg.size,λk hk hn=>hg.block k hk (λe=>hn (by rw[<- e];simp))⟩
  (λx hx=>hr x (by simpa using hx))
theorem Fr.below(h:Fr F a b){B:Nat}(hB:B<=a.heap.size)(hF:∀x,x∈F->B<=x):Below B a b:=
 ⟨h.os,h.tape,h.output,h.size,λk hk=>h.block k (by omega) (λhx=>by have:=hF k hx;omega)⟩
theorem Fr.ua(h:Fr [] a b):Below a.heap.size a b:=h.below (Dd _) (λ_ hx=>by cases hx)
theorem Fr.cell(h:Fr F a b){p:Addr}(hp:p.block<a.heap.size)(hF:p.block∉F):b.cell? p=a.cell? p:=World.cell?_of_block (w:=a) (h.block p.block hp hF)
end
def Blk(w:World)(g:Nat)(t:TypeId)(cs:Array Value):Prop:=w.heap[g]?=some (.cells cs t (0,0))
section
variable {w w':World}{g:Nat}{t:TypeId}{cs:Array Value}{F:List Nat}
theorem Blk.lt(h:Blk w g t cs):g<w.heap.size:=by
 rcases Nat.lt_or_ge g w.heap.size with hlt|hge
 ·exact hlt
 ·unfold Blk at h;rw[Array.getElem?_eq_none hge]at h;cases h
theorem Blk.cell(h:Blk w g t cs)(i:Nat):w.cell? ⟨g,i,none⟩=cs[i]?:=cell_of_row w g i cs t (0,0) h
theorem Blk.frozen(h:Blk w g t cs)(i:Nat):w.frozen? ⟨g,i,none⟩=false:=by
 unfold Blk at h;simp[World.frozen?,h]
theorem Blk.new(w:World)(t:TypeId)(cs:Array Value):Blk (w.alloc (.cells cs t)) w.heap.size t cs:=heap_alloc_new w _
theorem Blk.aX{w:World}{n:Nat}(t:TypeId)(cs:Array Value)(h:w.heap.size=n):Blk (w.alloc (.cells cs t)) n t cs:=h ▸ Blk.new w t cs
theorem Blk.drewN(h:Blk w g t cs)(n:Nat):Blk (w.drewN n) g t cs:=h
theorem Blk.drew(h:Blk w g t cs):Blk w.drew g t cs:=h
theorem Blk.alloc(h:Blk w g t cs)(o:Obj):Blk (w.alloc o) g t cs:=(Below.heap_alloc w o g h.lt).trans h
theorem Blk.put(h:Blk w g t cs)(i:Nat)(u:Value):Blk (w.setCell ⟨g,i,none⟩ u) g t (cs.setIfInBounds i u):=by
 unfold Blk at h ⊢;simp[World.setCell,Array.getElem?_modify,h]
theorem Blk.far(h:Blk w g t cs){p:Addr}(hp:g≠p.block)(u:Value):Blk (w.setCell p u) g t cs:=(Below.heap_setCell w p u g hp).trans h
theorem Blk.fr(h:Blk w g t cs)(hf:Fr F w w')(hg:g∉F):Blk w' g t cs:=(hf.block g h.lt hg).trans h
theorem Blk.apart{g':Nat}{t':TypeId}{cs':Array Value}(h:Blk w g t cs)(h':Blk w g' t' cs')(hne:t≠t'):g≠g':=by
 rintro rfl;unfold Blk at h h';rw[h]at h';injection h' with h';injection h' with _ ht;exact hne ht
end
theorem gh{w:World}{base g n size:Nat}{e:TypeId}{xs:List Value}(h:w.ownsRow base e size (.slice (some ⟨g,0,none⟩) n n) n xs):Blk w g e xs.toArray:=by
 rcases h.2 with⟨h1,_⟩|⟨g',cap,cur,hv,_,hh,_,_,hs,hx⟩
 ·cases h1
 ·injection hv with h1 h2 h3;injection h1 with h1;injection h1 with h1 _ _;subst h1 h3;unfold Blk;rw[hh];have:cur.toList=xs:=by rw[<- hx,List.take_of_length_le (by simp[hs])]
  rw[<- this,Array.toArray_toList]
theorem cU(v:Value)(h:v.cells=#[v])(n:Nat):(madeCells v.cells n).toList=List.replicate n v:=by
 rw[h];apply List.ext_getElem
 ·simp[madeCells]
 ·intro i h1 h2;simp[madeCells,Nat.mod_one]
theorem jQ{F:List Nat}{w b b0 c:World}{e:TypeId}{size n:Nat}{v:Value}{xs:List Value}(h:Fr F w b)(ho:b0.ownsRow w.heap.size e size v n xs)(hg:b.grownBy c v.ownBlock):Fr F w c:=
 h.grown hg λk hk=>by
  rcases ho.2 with⟨rfl,_⟩|⟨g,cap,cur,rfl,hb,_⟩
  ·cases hk
  ·injection hk with hk;subst hk;exact .inr hb
theorem nO{w:World}{base n:Nat}{e:TypeId}{v:Value}{xs:List Value}(h:w.ownsRow base e 1 v n xs) :
  (v=.slice none 0 0/\n=0/\xs=[])\/∃g cap cur,v=.slice (some ⟨g,0,none⟩) n cap/\base<=g/\Blk w g e cur/\n<=cap/\cap<=maxLen/\cur.size=cap/\cur.toList.take n=xs/\xs.length=n:=by
 obtain⟨hl,h⟩:=h;rcases h with⟨h1,h2⟩|⟨g,cap,cur,h1,h2,h3,h4,h5,h6,h7⟩
 ·subst h2;exact .inl ⟨h1,rfl,List.eq_nil_of_length_eq_zero (by simpa using hl)⟩
 ·exact .inr ⟨g,cap,cur,h1,h2,h3,h4,h5,by simpa using h6,by simpa using h7,by simpa using hl⟩
theorem dS{F:List Nat}{w w':World}{base n size:Nat}{e:TypeId}{v:Value}{xs:List Value}(h:w.ownsRow base e size v n xs)(hf:Fr F w w')(hg:∀g,v.ownBlock=some g->g∉F):w'.ownsRow base e size v n xs:=by
 obtain⟨hl,h⟩:=h;refine⟨hl,?_⟩;rcases h with h|⟨g,cap,cur,h1,h2,h3,h4⟩
 ·exact .inl h
 ·refine .inr ⟨g,cap,cur,h1,h2,?_,h4⟩;subst h1;exact Blk.fr (t:=e) h3 hf (hg g rfl)
def Sl(w:World)(A:Option Addr)(n:Nat)(f:Nat->Value):Prop:=
 0<n->∃b off,A=some ⟨b,off,none⟩/\b<w.heap.size/\∀k,k<n->w.cell? ⟨b,off+k,none⟩=some (f k)
theorem Sl.below{W w w':World}{A:Option Addr}{n:Nat}{f:Nat->Value}(h:Sl w A n f)(hb:Below w.heap.size w w'):Sl w' A n f:=λhn=>by
 obtain⟨b,off,h1,h2,h3⟩:=h hn;exact⟨b,off,h1,Dc h2 hb.size,λk hk=>(hb.cell (p:=⟨b,off+k,none⟩) h2).trans (h3 k hk)⟩
theorem Sl.fr{F:List Nat}{w w':World}{A:Option Addr}{n:Nat}{f:Nat->Value}(h:Sl w A n f)(hf:Fr F w w')(hF:∀x,x∈F->w.heap.size<=x):Sl w' A n f:=
 h.below (W:=w) (hf.below (Dd _) hF)
theorem Sl.own{w:World}{base n:Nat}{e:TypeId}{v:Value}{xs:List Value}(h:w.ownsRow base e 1 v n xs):∃A c,v=.slice A n c/\Sl w A n (λk=>xs.getD k undef):=by
 rcases nO h with⟨rfl,rfl,rfl⟩|⟨g,cap,cur,rfl,_,hb,h1,_,h2,h3,h4⟩
 ·exact⟨none,0,rfl,λh=>absurd h (by decide)⟩
 ·refine⟨_,_,rfl,λ_=>⟨g,0,rfl,hb.lt,λk hk=>?_⟩⟩;rw[hb.cell,Nat.zero_add];subst h3;have hlt:k<cur.size:=by omega
  simp[hk,hlt]
theorem vX{w:World}{base n size:Nat}{e:TypeId}{v:Value}{xs:List Value}(h:w.ownsRow base e size v n xs){g:Nat}{t:TypeId}{cs:Array Value}(hb:Blk w g t cs)(hne:e≠t):∀x,v.ownBlock=some x->x≠g:=by
 rcases h.2 with⟨rfl,_⟩|⟨g',cap,cur,rfl,_,hh,_⟩
 ·intro x hx;cases hx
 ·intro x hx;injection hx with hx;subst hx;exact Blk.apart (t:=e) hh hb hne
theorem tC{w:World}{base n size:Nat}{e:TypeId}{v:Value}{xs:List Value}(h:w.ownsRow base e size v n xs){g:Nat}(hg:g<base):g∉v.ownBlock.toList:=by
 rcases h.2 with⟨rfl,_⟩|⟨g',cap,cur,rfl,hb,_⟩
 ·simp[Value.ownBlock]
 ·simp[Value.ownBlock];omega
theorem gY{w c:World}{row:Option Nat}(hg:w.grownBy c row):Fr row.toList w c:=(Fr.refl _ _).grown hg λk hk=>.inl (by simp[hk])
theorem af{w:World}{p:Addr}{v:Value}(h:w.cell? p=some v):p.block<w.heap.size:=by
 rcases Nat.lt_or_ge p.block w.heap.size with hl|hl
 ·exact hl
 ·simp[World.cell?,Array.getElem?_eq_none hl]at h
structure Cls(C:World->Prop) where
 w:World
 ok:C w
theorem bV{P:Program}{id:Nat}{Q:Exit->Act->World->Prop}{a:Act}{w:World}{l:List Oper}(C:World->Prop)(hm:P.follows .mixedOrders=true)(hB:Region.lexB .any l.toArray=true)(h0:C w.drew)
  (h:wpQuiet P l.toArray (λw'=>∃u:Cls C,w'=u.w) (λa'=>∀w',(∃u:Cls C,w'=u.w)->Q .normal a' w') l a):(Code.region id l.toArray true).wp P Q a w:=
 wp_region_quiet (C:=λw'=>∃u:Cls C,w'=u.w) hm hB ⟨⟨w.drew,h0⟩,rfl⟩ (by simpa using h)
instance Cls.there {F:List Nat}{w:World}:Nonempty (Cls (Fr F w)):=⟨⟨w,Fr.refl _ _⟩⟩
theorem Cls.call{P:Program}{f:FuncId}{args:Array Value}{C:World->Prop}{v:Value}{u:Cls C}(h:Calls P f args u.w λe w'=>e=.returned v/\C w'):Calls P f args u.w λe w''=>e=.returned v/\∃u':Cls C,w''=u'.w:=
 h.mono λ_ w' ⟨he,hc⟩=>⟨he,⟨w',hc⟩,rfl⟩
theorem Cls.grow{P:Program}{f:FuncId}{args:Array Value}{w:World}{v:Value}{u:Cls (Fr [] w)}(h:Calls P f args u.w λe w'=>e=.returned v/\Fr [] u.w w'):Calls P f args u.w λe w''=>e=.returned v/\∃u':Cls (Fr [] w),w''=u'.w:=
 Cls.call (h.mono λ_ _ ⟨he,hf⟩=>⟨he,u.ok.ae hf⟩)
def kK(C:World->Prop):Prop:=∀w w',C w->Fr [] w w'->C w'
theorem Cls.drew{C:World->Prop}(hs:kK C)(u:Cls C):C u.w.drew:=hs _ _ u.ok (Fr.refl _ _).drew
theorem Cls.cell{w:World}{F:List Nat}{p:Addr}{v:Value}(u:Cls (Fr F w))(h:w.cell? p=some v)(hF:p.block∉F):u.w.cell? p=some v:=(u.ok.cell (af h) hF).trans h
theorem aa{p:Prop}(h:p):Hid p:=h
theorem bo{k:IntKind}{a b:Int}(h:a=b):Ending.returned (.int k a)=.returned (.int k b):=by rw[h]
theorem bd{a b:Bool}(h:a=b):Ending.returned (.bool a)=.returned (.bool b):=by rw[h]
theorem kL{k k':IntKind}{a b c d:Int}(h:a=b)(h':c=d):Ending.returned (.tuple #[.int k a,.int k' c])=.returned (.tuple #[.int k b,.int k' d]):=by rw[h,h']
theorem iS{P:Program}{f:FuncId}{args:Array Value}{w:World}{v:Value}(h:Calls P f args w λe w'=>e=.returned v/\w=w'):Calls P f args w λe w'=>e=.returned v/\w'=w:=
 h.mono λ_ _ ⟨he,hm⟩=>⟨he,hm.symm⟩
theorem bF{P:Program}{id:Nat}{Q:Exit->Act->World->Prop}{a:Act}{w:World}{l:List Oper}(n:Nat)(hm:P.follows .mixedOrders=true)(hB:Region.lexTailB .any l.toArray n=true)
  (h:wpStill P l.toArray w.drew (λa'=>wpList P l.toArray Q (l.drop n) a' w.drew) (l.take n) a):(Code.region id l.toArray true).wp P Q a w:=wp_region_still_tail n hm hB h
theorem aC{P:Program}{f:FuncId}{args:Array Value}{w:World}{n:Nat}{v:Value}
  (h:Calls P f args (w.drewN n) λe w'=>e=.returned v/\w.drewN n=w'):Calls P f args (w.drewN n) λe w''=>e=.returned v/\∃m,w''=w.drewN m:=
 h.mono λ_ _ ⟨he,hm⟩=>⟨he,n,hm.symm⟩
theorem aP{P:Program}{f:FuncId}{args:Array Value}{w:World}{a n:Nat}{v:Value}
  (h:Calls P f args (w.drewN (a+n)) λe w'=>e=.returned v/\w.drewN (a+n)=w') :
  Calls P f args (w.drewN (a+n)) λe w''=>e=.returned v/\∃m,w''=w.drewN (a+m):=
 h.mono λ_ _ ⟨he,hm⟩=>⟨he,n,hm.symm⟩
theorem Fr.setRow{F:List Nat}{w:World}{g:Nat}(hg:g∈F)(cs:Array Value):Fr F w (w.setRow g cs):=
 ⟨rfl,rfl,rfl,by simp[World.setRow],λk _ hk=>setRow_other w g k cs (λe=>hk (e ▸ hg))⟩
theorem Blk.setRow{w:World}{g:Nat}{t:TypeId}{cs:Array Value}(h:Blk w g t cs)(cs':Array Value):Blk (w.setRow g cs') g t cs':=setRow_heap w g cs cs' t _ h
theorem lZ{P:Program}{w:World}{t e ty:TypeId}{z:Value}(ht:P.underlying t=some (.slice e))(hv:∀w,(zeroValue e).run P w=.ok z w)(hz:z.cells=#[z])(h1:z.oneCell'=true)
  (dp:Option Addr) (n c g off:Nat) (cur:Array Value) (tt:TypeId) (hg:Blk w g tt cur) (hpos:0<n->dp=some ⟨g,off,none⟩) (hfit:off+n<=cur.size) :
  ∃w',(Builtin.clear_ #[t] ty #[.slice dp n c]).run P w=.ok (.tuple #[]) w'/\Blk w' g tt (splice cur.toList off (List.replicate n z)).toArray/\Fr [g] w w':=by
 by_cases h0:n=0
 ·subst h0;refine⟨w,?_,by simpa[splice] using hg,Fr.refl _ _⟩;cases dp <;> simp[Builtin.clear_,run_underlying ht]
 ·obtain rfl:=hpos (by omega);have hzc:(Builtin.zeroCells z.cells n).toList=List.replicate n z:=by
   rw[hz];simp[Builtin.zeroCells];apply List.ext_getElem
   ·simp
   ·intro i h1 h2;simp[Nat.mod_one]
  have hst:=run_storeCells_at P g off tt (List.replicate n z) 0 cur w hg (by simp;omega) (by intro v hv';rw[List.eq_of_mem_replicate hv'];exact h1);simp only[Nat.add_zero]at hst;obtain⟨m,rfl⟩:∃m,n=m+1:=⟨n-1,by omega⟩;refine⟨w.setRow g (splice cur.toList off (List.replicate (m+1) z)).toArray,?_,hg.setRow _,Fr.setRow (by simp) _⟩;simp[Builtin.clear_,run_underlying ht,hv,hzc,hst,splice]
theorem gi{P:Program}{w:World}{ops:Array Oper}{rest:List Oper}{o:Oper}{a:Act}{Q:Exit->Act->World->Prop}(hgd:o.guard=none)(d:Operand)(dT:TypeId)
  (ho:o.op=.call { callee:=.builtin .clear,args:=#[d],argTypes:=#[dT] }) (e:TypeId) {z:Value} (ht:P.underlying dT=some (.slice e)) (hv:∀w,(zeroValue e).run P w=.ok z w) (hz:z.cells=#[z]) (h1:z.oneCell'=true)
  (dp:Option Addr) (n c:Nat) (hd:a.eval d=.slice dp n c) (g off:Nat) (cur:Array Value) (tt:TypeId) (hg:Blk w g tt cur) (hpos:0<n->dp=some ⟨g,off,none⟩) (hfit:off+n<=cur.size)
  (h:∀w',Hid (Blk w' g tt (splice cur.toList off (List.replicate n z)).toArray)->Hid (Fr [g] w w')->wpList P ops Q rest (a.put o.dst (.tuple #[])) w') :
  wpList P ops Q (o::rest) a w:=by
 refine wpList_plain hgd λK hK=>?_;obtain⟨w',hrun,hb,hf⟩:=lZ (ty:=o.type) ht hv hz h1 dp n c g off cur tt hg hpos hfit;unfold Oper.wp;simp[execOp,ho,resolve,invoke,builtin,hd,hrun,Result.andThen];exact hK _ _ (h w' hb hf)
def gW(n:Nat)(f:Nat->Nat):Array Value:=((List.range n).map λk=>Value.int .u64 (f k:Int)).toArray
def upd(f:Nat->Nat)(k x:Nat):Nat->Nat:=λj=>if j=k then x else f j
def aB(f:Nat->Nat)(off m:Nat)(g:Nat->Nat):Nat->Nat:=λj=>if off<=j/\j<off+m then g (j-off) else f j
theorem fh(n:Nat)(f:Nat->Nat):(gW n f).size=n:=by simp[gW]
theorem vY(n:Nat)(f:Nat->Nat)(k:Nat):(gW n f)[k]?=if k<n then some (.int .u64 (f k:Int)) else none:=by
 unfold gW;by_cases h:k<n
 ·simp[h]
 ·simp[h]
theorem jo{n:Nat}{f:Nat->Nat}{k:Nat}(h:k<n):(gW n f)[k]?=some (.int .u64 (f k:Int)):=by rw[vY,if_pos h]
theorem pq{n:Nat}{f:Nat->Nat}{cs:Array Value}(hs:cs.size=n)(h:∀k,k<n->cs[k]?=some (.int .u64 (f k:Int))):cs=gW n f:=by
 apply Array.ext
 ·rw[hs,fh]
 ·intro i h1 h2;have a1:=h i (by omega);have a2:=jo (f:=f) (show i<n by omega);rw[Array.getElem?_eq_getElem h1]at a1;rw[Array.getElem?_eq_getElem h2]at a2;exact Option.some.inj (a1.trans a2.symm)
theorem vZ(n:Nat)(f:Nat->Nat)(k x:Nat):(gW n f).setIfInBounds k (.int .u64 (x:Int))=gW n (upd f k x):=by
 refine pq (by simp[fh]) λj hj=>?_;rw[Array.getElem?_setIfInBounds];unfold upd;by_cases h:k=j
 ·subst h;rw[if_pos rfl,if_pos (by rw[fh];exact hj),if_pos rfl]
 ·rw[if_neg h,if_neg (Ne.symm h),jo hj]
theorem pr{n:Nat}{f:Nat->Nat}{off m:Nat}{cs:List Value}{g:Nat->Nat}(hl:cs.length=m)(hm:off+m<=n)(hc:∀j,j<m->cs[j]?=some (.int .u64 (g j:Int))) :
  (splice (gW n f).toList off cs).toArray=gW n (aB f off m g):=by
 have hs:(gW n f).toList.length=n:=by simp[fh]
 refine pq (by simp[length_splice _ _ _ (show off+cs.length<=(gW n f).toList.length by omega),fh]) λj hj=>?_;rw[List.getElem?_toArray];unfold splice aB;by_cases h1:j<off
 ·rw[if_neg (by omega),List.getElem?_append_left (by rw[List.length_take];omega),List.getElem?_take_of_lt h1,Array.getElem?_toList,jo hj]
 ·have e1:((gW n f).toList.take off).length=off:=by rw[List.length_take];omega
  rw[List.getElem?_append_right (by omega),e1];by_cases h2:j<off+m
  ·rw[if_pos (by omega),List.getElem?_append_left (by omega),hc _ (by omega)]
  ·rw[if_neg (by omega),List.getElem?_append_right (by omega),List.getElem?_drop,Array.getElem?_toList,show off+cs.length+(j-off-cs.length)=j by omega,jo hj]
open Go.RowKit Go.IntWalk
structure Hd where
 (kind size aQ age to:Int)
def Hd.val(h:Hd):Value:=.agg #[.int .i64 h.kind,.int .i64 h.size,.int .i64 h.aQ,.int .i64 h.age,.int .i64 h.to]
def Hd.cells(h:Hd):Array Value:=#[.int .i64 h.kind,.int .i64 h.size,.int .i64 h.aQ,.int .i64 h.age,.int .i64 h.to]
def Hd.zero:Hd:=⟨0,0,0,0,0⟩
def inB(n lo hi:Int):Bool:=decide (lo<=n)&&decide (n<=hi)
theorem gG{n lo hi:Int}:inB n lo hi=true↔lo<=n/\n<=hi:=by unfold inB;simp
theorem qV{n lo hi:Int}:inB n lo hi=false↔¬ (lo<=n/\n<=hi):=by rw[<- gG];simp
structure Hd.bW(h:Hd):Prop where
 ways:(h.kind=0/\h.size=0/\h.aQ=0/\h.age=0/\h.to=0) \/
  (h.kind=1/\(1<=h.size/\h.size<=1048576)/\(0<=h.aQ/\h.aQ<h.size)/\(0<=h.age/\h.age<=7)/\h.to=0) \/
  (h.kind=2/\(1<=h.size/\h.size<=1048576)/\h.aQ=0/\h.age=0/\h.to=0) \/
  (h.kind=3/\(1<=h.size/\h.size<=1048576)/\h.aQ=0/\h.age=0/\(0<=h.to/\h.to<4194304))
open Classical in
noncomputable def Hd.aZ (h:Hd):Bool:=decide h.bW
theorem Hd.bO{h:Hd}:h.aZ=true↔h.bW:=by unfold Hd.aZ;simp
theorem Hd.ub{h:Hd}:h.aZ=false↔¬ h.bW:=by rw[<- Hd.bO];simp
def Hd.word(h:Hd):Int:=h.kind+4*h.size+8388608*(h.aQ+h.to)+17592186044416*h.age
def Hd.split(w:Int):Hd:=
 ⟨w % 4,w / 4 % 2097152,if w % 4=1 then w / 8388608 % 2097152 else 0,if w % 4=1 then w / 17592186044416 % 8 else 0,if w % 4=3 then w / 8388608 % 4194304 else 0⟩
theorem Hd.bW.back{h:Hd}(r:h.bW):Hd.split h.word=h:=by
 obtain⟨k,s,p,a,t⟩:=h;have:=r.ways;simp only at this;unfold Hd.split Hd.word;simp only[Hd.mk.injEq];rcases this with⟨_,_,_,_,_⟩|⟨_,_,_,_,_⟩|⟨_,_,_,_,_⟩|⟨_,_,_,_,_⟩;all_goals
  have e:(k+4*s+8388608*(p+t)+17592186044416*a) % 4=k:=by omega
  rw[e];refine⟨rfl,by omega,?_,?_,?_⟩ <;> split <;> omega
noncomputable def Hd.of (w:Int):Hd:=if (Hd.split w).aZ=true/\(Hd.split w).word=w then Hd.split w else Hd.zero
noncomputable def Hd.eM (w:Int):Int:=if (Hd.split w).aZ=true/\(Hd.split w).word=w then 0 else 30
noncomputable def Hd.ans (h:Hd):Int:=if h.aZ=true then h.word else 0
noncomputable def Hd.err (h:Hd):Int:=if h.aZ=true then 0 else 3
theorem Hd.bW.of{h:Hd}(r:h.bW):Hd.of h.word=h/\Hd.eM h.word=0:=by
 unfold Hd.of Hd.eM;have e:=r.back;have hc:(Hd.split h.word).aZ=true/\(Hd.split h.word).word=h.word:=by rw[e];exact⟨Hd.bO.2 r,rfl⟩
 rw[if_pos hc,if_pos hc];exact⟨e,rfl⟩
theorem Hd.yP(w:Int):(Hd.eM w=0/\(Hd.of w).bW/\(Hd.of w).word=w)\/(Hd.eM w=30/\Hd.of w=Hd.zero):=by
 unfold Hd.of Hd.eM;by_cases hc:(Hd.split w).aZ=true/\(Hd.split w).word=w
 ·rw[if_pos hc,if_pos hc];exact .inl ⟨rfl,Hd.bO.1 hc.1,hc.2⟩
 ·rw[if_neg hc,if_neg hc];exact .inr ⟨rfl,rfl⟩
structure kz(w:World)(b:Nat)(h:Hd):Prop where
 c0:w.cell? ⟨b,0,none⟩=some (.int .i64 h.kind)
 c1:w.cell? ⟨b,1,none⟩=some (.int .i64 h.size)
 c2:w.cell? ⟨b,2,none⟩=some (.int .i64 h.aQ)
 c3:w.cell? ⟨b,3,none⟩=some (.int .i64 h.age)
 c4:w.cell? ⟨b,4,none⟩=some (.int .i64 h.to)
theorem kz.of{w:World}{b:Nat}{t:TypeId}{h:Hd}(hb:Blk w b t h.cells):kz w b h:=⟨hb.cell 0,hb.cell 1,hb.cell 2,hb.cell 3,hb.cell 4⟩
theorem kz.fr{w w':World}{b:Nat}{h:Hd}{F:List Nat}(hb:kz w b h)(hf:Fr F w w')(hF:b∉F):kz w' b h:=
 ⟨(hf.cell (af hb.c0) hF).trans hb.c0,(hf.cell (af hb.c1) hF).trans hb.c1,(hf.cell (af hb.c2) hF).trans hb.c2,(hf.cell (af hb.c3) hF).trans hb.c3,(hf.cell (af hb.c4) hF).trans hb.c4⟩
theorem Hd.cE{w:World}{b:Nat}{t:TypeId}(h:Blk w b t Hd.zero.cells) :
  (w.cell? ⟨b,0,none⟩=some (.int .i64 0)/\w.cell? ⟨b,1,none⟩=some (.int .i64 0)/\w.cell? ⟨b,2,none⟩=some (.int .i64 0)/\w.cell? ⟨b,3,none⟩=some (.int .i64 0)/\w.cell? ⟨b,4,none⟩=some (.int .i64 0)) /\
  w.frozen? ⟨b,0,none⟩=false/\w.frozen? ⟨b,1,none⟩=false/\w.frozen? ⟨b,2,none⟩=false/\w.frozen? ⟨b,3,none⟩=false/\w.frozen? ⟨b,4,none⟩=false:=
 ⟨⟨h.cell 0,h.cell 1,h.cell 2,h.cell 3,h.cell 4⟩,h.frozen 0,h.frozen 1,h.frozen 2,h.frozen 3,h.frozen 4⟩
theorem uc(x s k:Nat)(hx:x<18446744073709551616)(hk:k<63) :
  wrap64 (bits BinOp.and IntKind.u64 ((x:Int) / 2 ^ s) (IntKind.u64.wrap (IntKind.u64.wrap (2 ^ k)-1)))=((x / 2 ^ s % 2 ^ k:Nat):Int):=by
 have hp:2 ^ k<9223372036854775808:=Nat.pow_lt_pow_of_lt (a:=2) (n:=k) (m:=63) (by decide) hk;have hp0:0<2 ^ k:=Nat.two_pow_pos _;have e0:(2:Int) ^ k=((2 ^ k:Nat):Int):=(Int.natCast_pow 2 _).symm;have e2:(x:Int) / 2 ^ s=((x / 2 ^ s:Nat):Int):=by push_cast;rfl
 have e1:IntKind.u64.wrap (IntKind.u64.wrap (2 ^ k)-1)=((2 ^ k-1:Nat):Int):=by
  rw[e0,IntKind.wrap_u64,IntKind.wrap_u64];generalize 2 ^ k=p at *;omega
 have h1:x / 2 ^ s<18446744073709551616:=Nat.lt_of_le_of_lt (Nat.div_le_self _ _) hx;rw[e1,e2,u64_and_nat _ _ h1 (by omega),Nat.and_two_pow_sub_one_eq_mod];have h2:x / 2 ^ s % 2 ^ k<2 ^ k:=Nat.mod_lt _ hp0;exact IntWalk.wrap64_in _ ⟨by omega,by omega⟩
theorem AR{x y i:Nat}(hx:x<2 ^ i):x ||| 2 ^ i*y=x+2 ^ i*y:=by
 rw[Nat.or_comm,Nat.add_comm,Nat.two_pow_add_eq_or_of_lt hx]
theorem qW(i:Nat){x y:Nat}(hx:x<2 ^ i)(hi:2 ^ i<=18446744073709551616)(hy:2 ^ i*y<18446744073709551616) :
  bits .or .u64 (x:Int) ((2 ^ i*y:Nat):Int)=((x+2 ^ i*y:Nat):Int):=by
 rw[u64_or_nat _ _ (by omega) hy,AR hx]
theorem gH(i:Nat){x y M:Int}(hM:M=((2 ^ i:Nat):Int))(x0:0<=x)(x1:x<M)(hm:M<=18446744073709551616)(y0:0<=y)(y1:y*M<18446744073709551616) :
  bits .or .u64 x (y*M)=x+y*M:=by
 obtain⟨X,rfl⟩:=Da x0;obtain⟨Y,rfl⟩:=Da y0;subst hM;have e:(Y:Int)*((2 ^ i:Nat):Int)=((2 ^ i*Y:Nat):Int):=by rw[Int.natCast_mul,Int.mul_comm]
 rw[e]at y1 ⊢;rw[qW i (by omega) (by omega) (by omega),Int.natCast_add]
theorem gZ{x:Int}(x0:0<=x)(hx:x<18446744073709551616):bits .or .u64 x 0=x:=by
 obtain⟨X,rfl⟩:=Da x0;have:=u64_or_nat X 0 (by omega) (by decide);simpa using this
theorem Hd.bW.join{k s p a t:Int}(r:(Hd.mk k s p a t).bW) :
  bits .or .u64 (bits .or .u64 (bits .or .u64 (bits .or .u64 k (s*4)) (p*8388608)) (a*17592186044416)) (t*8388608)=(Hd.mk k s p a t).word:=by
 have hw:=r.ways;simp only at hw;have hb:(0<=k/\k<=3)/\(0<=s/\s<=1048576)/\(0<=p/\p<1048576)/\(0<=a/\a<=7)/\(0<=t/\t<4194304)/\((p=0/\a=0)\/t=0):=by omega
 obtain⟨⟨k0,k1⟩,⟨s0,s1⟩,⟨p0,p1⟩,⟨a0,a1⟩,⟨t0,t1⟩,ht⟩:=hb;unfold Hd.word;simp only;rw[gH 2 (M:=4) (by decide) k0 (by omega) (by decide) s0 (by omega)];rcases ht with⟨rfl,rfl⟩|rfl
 ·rw[Int.zero_mul,Int.zero_mul,gZ (x:=k+s*4) (by omega) (by omega),gZ (x:=k+s*4) (by omega) (by omega),gH 23 (M:=8388608) (by decide) (by omega) (by omega) (by decide) t0 (by omega)];omega
 ·rw[gH 23 (M:=8388608) (by decide) (by omega) (by omega) (by decide) p0 (by omega),gH 44 (M:=17592186044416) (by decide) (by omega) (by omega) (by decide) a0 (by omega),Int.zero_mul,gZ (by omega) (by omega)];omega
theorem we{b:Bool}(h:¬ b=true):b=false:=by simpa using h
theorem Hd.ways(h:Hd) :
  (h.kind=0/\h.size=0/\h.aQ=0/\h.age=0/\h.to=0/\Hid (h.aZ=true))\/(h.kind=0/\¬ h.size=0/\Hid (h.aZ=false))\/(h.kind=0/\h.size=0/\¬ h.aQ=0/\Hid (h.aZ=false))\/(h.kind=0/\h.size=0/\h.aQ=0/\¬ h.age=0/\Hid (h.aZ=false))\/(h.kind=0/\h.size=0/\h.aQ=0/\h.age=0/\¬ h.to=0/\Hid (h.aZ=false)) \/
  (h.kind=1/\inB h.size 1 1048576=true/\inB h.aQ 0 (h.size-1)=true/\inB h.age 0 7=true/\h.to=0/\Hid (h.aZ=true))\/(h.kind=1/\inB h.size 1 1048576=false/\Hid (h.aZ=false))\/(h.kind=1/\inB h.size 1 1048576=true/\inB h.aQ 0 (h.size-1)=false/\Hid (h.aZ=false))\/(h.kind=1/\inB h.size 1 1048576=true/\inB h.aQ 0 (h.size-1)=true/\inB h.age 0 7=false/\Hid (h.aZ=false))\/(h.kind=1/\inB h.size 1 1048576=true/\inB h.aQ 0 (h.size-1)=true/\inB h.age 0 7=true/\¬ h.to=0/\Hid (h.aZ=false)) \/
  (h.kind=2/\inB h.size 1 1048576=true/\h.aQ=0/\h.age=0/\h.to=0/\Hid (h.aZ=true))\/(h.kind=2/\inB h.size 1 1048576=false/\Hid (h.aZ=false))\/(h.kind=2/\inB h.size 1 1048576=true/\¬ h.aQ=0/\Hid (h.aZ=false))\/(h.kind=2/\inB h.size 1 1048576=true/\h.aQ=0/\¬ h.age=0/\Hid (h.aZ=false))\/(h.kind=2/\inB h.size 1 1048576=true/\h.aQ=0/\h.age=0/\¬ h.to=0/\Hid (h.aZ=false)) \/
  (h.kind=3/\inB h.size 1 1048576=true/\inB h.to 0 4194303=true/\h.aQ=0/\h.age=0/\Hid (h.aZ=true))\/(h.kind=3/\inB h.size 1 1048576=false/\Hid (h.aZ=false))\/(h.kind=3/\inB h.size 1 1048576=true/\inB h.to 0 4194303=false/\Hid (h.aZ=false))\/(h.kind=3/\inB h.size 1 1048576=true/\inB h.to 0 4194303=true/\¬ h.aQ=0/\Hid (h.aZ=false))\/(h.kind=3/\inB h.size 1 1048576=true/\inB h.to 0 4194303=true/\h.aQ=0/\¬ h.age=0/\Hid (h.aZ=false)) \/
  (¬ h.kind=0/\¬ h.kind=1/\¬ h.kind=2/\¬ h.kind=3/\Hid (h.aZ=false)):=by
 unfold Hid;have H:h.bW↔_:=⟨λr=>r.ways,λr=>⟨r⟩⟩;simp only[Hd.bO,Hd.ub];by_cases k0:h.kind=0
 ·simp only[k0,true_and,not_true,false_and,or_false,show ¬ (0:Int)=1 by decide,show ¬ (0:Int)=2 by decide,show ¬ (0:Int)=3 by decide]at H ⊢;rw[H];clear H;omega
 ·by_cases k1:h.kind=1
  ·simp only[k1,true_and,not_true,false_and,or_false,false_or,show ¬ (1:Int)=0 by decide,show ¬ (1:Int)=2 by decide,show ¬ (1:Int)=3 by decide,gG,qV]at H ⊢;rw[H];clear H;omega
  ·by_cases k2:h.kind=2
   ·simp only[k2,true_and,not_true,false_and,or_false,false_or,show ¬ (2:Int)=0 by decide,show ¬ (2:Int)=1 by decide,show ¬ (2:Int)=3 by decide,gG,qV]at H ⊢;rw[H];clear H;omega
   ·by_cases k3:h.kind=3
    ·simp only[k3,true_and,not_true,false_and,false_or,show ¬ (3:Int)=0 by decide,show ¬ (3:Int)=1 by decide,show ¬ (3:Int)=2 by decide,gG,qV]at H ⊢;rw[H];clear H;omega
    ·simp only[k0,k1,k2,k3,false_and,or_false,false_or,not_false_eq_true,true_and]at H ⊢;exact λh=>H.1 h
theorem Hd.pt(w:Int):(Hd.eM w=30/\Hd.of w=Hd.zero)\/(Hd.eM w=0/\Hd.of w=Hd.zero)\/(Hd.eM w=0/\¬ (Hd.of w).kind=0/\(Hd.of w).bW):=by
 rcases Hd.yP w with⟨h1,r,h2⟩|⟨h1,h2⟩
 ·by_cases hk:(Hd.of w).kind=0
  ·refine .inr (.inl ⟨h1,?_⟩);have hw:=r.ways;generalize Hd.of w=h at *;obtain⟨k,s,p,a,t⟩:=h;simp only at hk hw;unfold Hd.zero;rw[Hd.mk.injEq];omega
  ·exact .inr (.inr ⟨h1,hk,r⟩)
 ·exact .inl ⟨h1,h2⟩
noncomputable def atH (n:Nat) (f:Nat->Nat) (i:Int):Hd:=if 0<=i/\i<(n:Int) then Hd.of (f i.toNat) else Hd.zero
noncomputable def atE (n:Nat) (f:Nat->Nat) (i:Int):Int:=if 0<=i/\i<(n:Int) then (if (Hd.of (f i.toNat)).kind=0 then 30 else 0) else 2
theorem kM{n:Nat}{f:Nat->Nat}{k:Nat}(hk:k<n):atH n f (k:Int)=Hd.of (f k)/\atE n f (k:Int)=if (Hd.of (f k)).kind=0 then 30 else 0:=by
 unfold atH atE;rw[if_pos (by omega),if_pos (by omega),Db];exact⟨rfl,rfl⟩
theorem tD(n:Nat)(f:Nat->Nat)(i:Int) :
  (∃k:Nat,i=(k:Int)/\k<n/\Hd.eM (f k)=30/\Hd.of (f k)=Hd.zero/\atH n f i=Hd.zero/\atE n f i=30) \/
  (∃k:Nat,i=(k:Int)/\k<n/\Hd.eM (f k)=0/\Hd.of (f k)=Hd.zero/\atH n f i=Hd.zero/\atE n f i=30) \/
  (∃k:Nat,i=(k:Int)/\k<n/\Hd.eM (f k)=0/\¬ (Hd.of (f k)).kind=0/\(Hd.of (f k)).bW/\atH n f i=Hd.of (f k)/\atE n f i=0) \/
  (¬ (0<=i/\i<(n:Int))/\atH n f i=Hd.zero/\atE n f i=2):=by
 by_cases hi:0<=i/\i<(n:Int)
 ·obtain⟨k,rfl⟩:=Da hi.1;have hk:k<n:=by omega
  obtain⟨e1,e2⟩:=kM (f:=f) hk;rcases Hd.pt (f k)with⟨h1,h2⟩|⟨h1,h2⟩|⟨h1,h2,h3⟩
  ·exact .inl ⟨k,rfl,hk,h1,h2,by rw[e1,h2],by rw[e2,h2];rfl⟩
  ·exact .inr (.inl ⟨k,rfl,hk,h1,h2,by rw[e1,h2],by rw[e2,h2];rfl⟩)
  ·exact .inr (.inr (.inl ⟨k,rfl,hk,h1,h2,h3,e1,by rw[e2,if_neg h2]⟩))
 ·exact .inr (.inr (.inr ⟨hi,by unfold atH;rw[if_neg hi],by unfold atE;rw[if_neg hi]⟩))
theorem gI(n:Nat)(f:Nat->Nat)(i:Int) :
  (atE n f i=2/\¬ (0<=i/\i<(n:Int))/\atH n f i=Hd.zero)\/(atE n f i=30/\(0<=i/\i<(n:Int))/\atH n f i=Hd.zero)\/(atE n f i=0/\(0<=i/\i<(n:Int))/\¬ (atH n f i).kind=0/\(atH n f i).bW):=by
 rcases tD n f i with⟨k,rfl,hk,h1,h2,h3,h4⟩|⟨k,rfl,hk,h1,h2,h3,h4⟩|⟨k,rfl,hk,h1,h2,h3,h4,h5⟩|⟨hi,h1,h2⟩
 ·exact .inr (.inl ⟨h4,by omega,h3⟩)
 ·exact .inr (.inl ⟨h4,by omega,h3⟩)
 ·exact .inr (.inr ⟨h5,by omega,by rw[h4];exact h2,by rw[h4];exact h3⟩)
 ·exact .inl ⟨h2,hi,h1⟩
def gj(n:Nat)(a b:Int):Int:=if 0<=a/\a<=b/\b<=(n:Int) then 0 else 2
theorem gl(n:Nat)(a b:Int):(∃A B:Nat,a=(A:Int)/\b=(B:Int)/\A<=B/\B<=n/\gj n a b=0)\/(a<0/\gj n a b=2)\/(0<=a/\b<a/\gj n a b=2)\/(0<=a/\a<=b/\(n:Int)<b/\gj n a b=2):=by
 unfold gj;by_cases h:0<=a/\a<=b/\b<=(n:Int)
 ·rw[if_pos h];exact .inl ⟨a.toNat,b.toNat,by omega,by omega,by omega,by omega,rfl⟩
 ·rw[if_neg h];omega
def bY(f:Nat->Nat)(a b:Nat):Prop:=((Hd.of (f a)).kind=1\/(Hd.of (f a)).kind=2)/\(Hd.of (f a)).size<=(b:Int)-(a:Int)
open Classical in
noncomputable def dt (f:Nat->Nat) (b:Nat):Nat->Nat->Option (List Int)
|0,a=>if a<b then none else some []
|k+1,a=>if a<b then (if bY f a b then (dt f b k (a+(Hd.of (f a)).size.toNat)).map ((a:Int)::·) else none) else some []
theorem cF{f:Nat->Nat}{b k a:Nat}(h:¬ a<b):dt f b k a=some []:=by
 cases k <;> simp[dt,h]
theorem jp{f:Nat->Nat}{b k a:Nat}(h:a<b)(hs:¬ bY f a b):dt f b k a=none:=by
 cases k <;> simp[dt,h,hs]
theorem tE{f:Nat->Nat}{b k a s:Nat}(h:a<b)(hs:bY f a b)(e:(Hd.of (f a)).size=(s:Int)):dt f b (k+1) a=(dt f b k (a+s)).map ((a:Int)::·):=by
 simp only[dt,if_pos h,if_pos hs,e,Db]
noncomputable def cM (f:Nat->Nat) (a b:Nat):Option (List Int):=dt f b (b-a) a
noncomputable def bJ (n:Nat) (f:Nat->Nat) (a b:Int):List Int:=if gj n a b=0 then (cM f a.toNat b.toNat).getD [] else []
noncomputable def co (n:Nat) (f:Nat->Nat) (a b:Int):Int:=if gj n a b=0 then (match cM f a.toNat b.toNat with|some _=>0|none=>30) else 2
theorem kN{n:Nat}{f:Nat->Nat}{a b:Int}(h:gj n a b=2):bJ n f a b=[]/\co n f a b=2:=by
 unfold bJ co;rw[h];exact⟨rfl,rfl⟩
theorem kh{n:Nat}{f:Nat->Nat}{A B:Nat}{l:List Int}(h:gj n A B=0)(hs:cM f A B=some l):bJ n f A B=l/\co n f A B=0:=by
 unfold bJ co;rw[h,Db,Db,hs];exact⟨rfl,rfl⟩
theorem pu{n:Nat}{f:Nat->Nat}{A B:Nat}(h:gj n A B=0)(hs:cM f A B=none):bJ n f A B=[]/\co n f A B=30:=by
 unfold bJ co;rw[h,Db,Db,hs];exact⟨rfl,rfl⟩
structure hJ(f:Nat->Nat)(O:Option (List Int))(b A:Nat)(acc:List Int):Prop where
 le:A<=b
 len:acc.length<=A
 eq:∃k,b-A<=k/\O=(dt f b k A).map (acc++·)
theorem hJ.start(f:Nat->Nat){a b:Nat}(h:a<=b):hJ f (cM f a b) b a []:=⟨h,Nat.zero_le _,b-a,Dd _,by simp[cM]⟩
theorem hJ.done{f:Nat->Nat}{O:Option (List Int)}{b A:Nat}{acc:List Int}(g:hJ f O b A acc)(h:¬ A<b):O=some acc:=by
 obtain⟨k,_,e⟩:=g.eq;rw[e,cF h];simp
theorem hJ.broken{f:Nat->Nat}{O:Option (List Int)}{b A:Nat}{acc:List Int}(g:hJ f O b A acc)(h:A<b)(hs:¬ bY f A b):O=none:=by
 obtain⟨k,_,e⟩:=g.eq;rw[e,jp h hs];rfl
theorem hJ.next{f:Nat->Nat}{O:Option (List Int)}{b A s:Nat}{acc:List Int}(g:hJ f O b A acc)(h:A<b)(hs:bY f A b)(e:(Hd.of (f A)).size=(s:Int))(hs1:1<=s):hJ f O b (A+s) (acc++[(A:Int)]):=by
 obtain⟨k,hk,eq⟩:=g.eq;have:=hs.2;refine⟨by omega,by have:=g.len;simp;omega,?_⟩
 match k,hk with
|0,hk=>omega
|k+1,hk=>
  refine⟨k,by omega,?_⟩;rw[eq,tE h hs e,Option.map_map]
  congr 1
  funext l
  simp
def refs(a p:Nat):List Int:=(List.range p).map λ(j:Nat)=>(a:Int)+1+(j:Int)
theorem ek(a p:Nat):(refs a p).length=p:=by simp[refs]
theorem tF{a p j:Nat}(h:j<p):(refs a p).getD j 0=(a:Int)+1+(j:Int):=by simp[refs,h]
def fm(n:Nat)(f:Nat->Nat)(i:Int):Prop:=(atH n f i).kind=1/\(atH n f i).size<=(n:Int)-i
open Classical in
noncomputable def bc (n:Nat) (f:Nat->Nat) (i:Int):List Int:=if atE n f i=0/\fm n f i then refs i.toNat (atH n f i).aQ.toNat else []
open Classical in
noncomputable def du (n:Nat) (f:Nat->Nat) (i:Int):Int:=if atE n f i=0 then (if fm n f i then 0 else 30) else atE n f i
theorem kO{n:Nat}{f:Nat->Nat}{i:Int}(h:¬ atE n f i=0):bc n f i=[]/\du n f i=atE n f i:=by
 unfold bc du;rw[if_neg (λx=>h x.1),if_neg h];exact⟨rfl,rfl⟩
theorem my{n:Nat}{f:Nat->Nat}{i:Int}(h:atE n f i=0)(h2:¬ fm n f i):bc n f i=[]/\du n f i=30:=by
 unfold bc du;rw[if_neg (λx=>h2 x.2),if_pos h,if_neg h2];exact⟨rfl,rfl⟩
theorem iT{n:Nat}{f:Nat->Nat}{i:Int}(h:atE n f i=0)(h2:fm n f i):bc n f i=refs i.toNat (atH n f i).aQ.toNat/\du n f i=0:=by
 unfold bc du;rw[if_pos ⟨h,h2⟩,if_pos h,if_pos h2];exact⟨rfl,rfl⟩
def hU(size aQ:Int):Hd:=⟨1,size,aQ,0,0⟩
def el(size:Int):Hd:=⟨2,size,0,0,0⟩
theorem iU{size aQ:Int}:(hU size aQ).bW↔(1<=size/\size<=1048576)/\0<=aQ/\aQ<size:=by
 refine⟨λr=>?_,λh=>⟨?_⟩⟩
 ·have:=r.ways;unfold hU at this;simp only at this;omega
 ·unfold hU;exact .inr (.inl ⟨rfl,h.1,h.2,(by simp only;omega),rfl⟩)
def aY(s p:Nat):Nat:=1+4*s+8388608*p
theorem mB(s p:Nat):(hU (s:Int) (p:Int)).word=((aY s p:Nat):Int):=by unfold hU Hd.word aY;simp only;omega
theorem nP{s p:Nat}(h:1<=s/\s<=1048576)(hp:p<s):Hd.of ((aY s p:Nat):Int)=hU s p:=by
 have:=(iU (size:=(s:Int)) (aQ:=(p:Int)).2 (by omega)).of.1;rw[mB]at this;exact this
def iV(n:Nat)(i:Int)(size:Int):Prop:=0<=i/\0<=size/\i+size<=(n:Int)
open Classical in
noncomputable def kP (n:Nat) (i size aQ:Int):Int:=if (hU size aQ).bW then (if iV n i size then 0 else 2) else 3
open Classical in
noncomputable def kQ (n:Nat) (f:Nat->Nat) (i size aQ:Int):Nat->Nat:=
 if (hU size aQ).bW/\iV n i size then upd (aB f i.toNat size.toNat (λ_=>0)) i.toNat (aY size.toNat aQ.toNat) else f
theorem ud(n:Nat)(f:Nat->Nat)(i size aQ:Int) :
  (¬ (hU size aQ).bW/\kP n i size aQ=3/\kQ n f i size aQ=f) \/
  ((hU size aQ).bW/\¬ iV n i size/\kP n i size aQ=2/\kQ n f i size aQ=f) \/
  (∃I S P:Nat,i=(I:Int)/\size=(S:Int)/\aQ=(P:Int)/\(1<=S/\S<=1048576)/\P<S/\I+S<=n/\(hU size aQ).bW/\(hU size aQ).word=((aY S P:Nat):Int)/\kP n i size aQ=0/\kQ n f i size aQ=upd (aB f I S (λ_=>0)) I (aY S P)):=by
 unfold kP kQ;by_cases h1:(hU size aQ).bW
 ·by_cases h2:iV n i size
  ·refine .inr (.inr ⟨i.toNat,size.toNat,aQ.toNat,?_⟩);have h3:=iU.1 h1;have h4:=h2;unfold iV at h4;have a1:i=(i.toNat:Int):=by omega
   have a2:size=(size.toNat:Int):=by omega
   have a3:aQ=(aQ.toNat:Int):=by omega
   refine⟨a1,a2,a3,by omega,by omega,by omega,h1,?_,by rw[if_pos h1,if_pos h2],by rw[if_pos ⟨h1,h2⟩]⟩;rw[<- mB,<- a2,<- a3]
  ·exact .inr (.inl ⟨h1,h2,by rw[if_pos h1,if_neg h2],by rw[if_neg (λx=>h2 x.2)]⟩)
 ·exact .inl ⟨h1,by rw[if_neg h1],by rw[if_neg (λx=>h1 x.1)]⟩
theorem yQ{S P:Nat}(h:S<=1048576)(hp:P<S):aY S P<18446744073709551616:=by unfold aY;omega
theorem yR{n A B:Nat}(h1:A<=B)(h2:B<=n):gj n (A:Int) (B:Int)=0:=by
 unfold gj;rw[if_pos (by omega)]
theorem wg{f:Nat->Nat}{b:Nat}:∀ {k a:Nat}{l:List Int},dt f b k a=some l->l.length<=k:=by
 intro k
 induction k with
|zero=>
  intro a l h;by_cases hab:a<b
  ·simp[dt,hab]at h
  ·rw[cF hab]at h;injection h with h;subst h;simp
|succ k ih=>
  intro a l h;by_cases hab:a<b
  ·by_cases hs:bY f a b
   ·simp only[dt,if_pos hab,if_pos hs]at h;cases hr:dt f b k (a+(Hd.of (f a)).size.toNat)with
   |none=>rw[hr]at h;cases h
   |some l'=>
     rw[hr]at h;injection h with h;subst h;have:=ih hr;simp;omega
   ·rw[jp hab hs]at h;cases h
  ·rw[cF hab]at h;injection h with h;subst h;simp
theorem kR(n:Nat)(f:Nat->Nat)(a b:Int):(bJ n f a b).length<=n:=by
 unfold bJ;by_cases h:gj n a b=0
 ·rw[if_pos h];cases hr:cM f a.toNat b.toNat with
 |none=>simp
 |some l=>
   have:=wg hr;have hb:b<=(n:Int):=by
    rcases gl n a b with⟨_,_,h1,h2,h3,h4,_⟩|h1|h1|h1 <;> omega
   simp;omega
 ·rw[if_neg h];simp
theorem iW(n:Nat)(f:Nat->Nat)(i:Int):(bc n f i).length<=1048576:=by
 by_cases h:atE n f i=0
 ·by_cases h2:fm n f i
  ·rw[(iT h h2).1,ek];rcases gI n f i with⟨h3,_⟩|⟨h3,_⟩|⟨_,_,_,r⟩
   ·omega
   ·omega
   ·have:=r.ways;omega
  ·rw[(my h h2).1];simp
 ·rw[(kO h).1];simp
theorem yS{n I S P:Nat}(f:Nat->Nat)(hS:1<=S/\S<=1048576)(hP:P<S)(hn:I+S<=n):kP n I S P=0/\kQ n f I S P=upd (aB f I S (λ_=>0)) I (aY S P):=by
 have r:(hU (S:Int) (P:Int)).bW:=iU.2 (by omega);have m:iV n (I:Int) (S:Int):=by unfold iV;omega
 unfold kP kQ;rw[if_pos r,if_pos m,if_pos ⟨r,m⟩];exact⟨rfl,rfl⟩
def iX(l:List Int):List Value:=l.map (Value.int .i64)
theorem wj(a b:List Int):iX (a++b)=iX a++iX b:=by simp[iX]
def kS(n:Nat)(f:Nat->Int):Array Value:=((List.range n).map λ(k:Nat)=>Value.int .i64 (f k)).toArray
def yT(f:Nat->Int)(k:Nat)(x:Int):Nat->Int:=λj=>if j=k then x else f j
theorem jR(n:Nat)(f:Nat->Int):(kS n f).size=n:=by simp[kS]
theorem nQ{n:Nat}{f:Nat->Int}{k:Nat}(h:k<n):(kS n f)[k]?=some (.int .i64 (f k)):=by
 unfold kS;simp[h]
theorem kT{n:Nat}{f:Nat->Int}{cs:Array Value}(hs:cs.size=n)(h:∀k,k<n->cs[k]?=some (.int .i64 (f k))):cs=kS n f:=by
 apply Array.ext
 ·rw[hs,jR]
 ·intro i h1 h2;have a1:=h i (by omega);have a2:=nQ (f:=f) (show i<n by omega);rw[Array.getElem?_eq_getElem h1]at a1;rw[Array.getElem?_eq_getElem h2]at a2;exact Option.some.inj (a1.trans a2.symm)
theorem wk(n:Nat)(f:Nat->Int)(k:Nat)(x:Int):(kS n f).setIfInBounds k (.int .i64 x)=kS n (yT f k x):=by
 refine kT (by simp[jR]) λj hj=>?_;rw[Array.getElem?_setIfInBounds];unfold yT;by_cases h:k=j
 ·subst h;rw[if_pos rfl,if_pos (by rw[jR];exact hj),if_pos rfl]
 ·rw[if_neg h,if_neg (Ne.symm h),nQ hj]
theorem ue(n:Nat):(List.replicate n (Value.int .i64 0)).toArray=kS n (λ_=>0):=kT (by simp) λk hk=>by simp[hk]
theorem uf{l:List Int}{g:Nat->Int}(h:∀j,j<l.length->g j=l.getD j 0):kS l.length g=(iX l).toArray:=by
 refine(kT (by simp[iX]) λk hk=>?_).symm;rw[h k hk];simp[iX,hk]
theorem Fr.jq{F:List Nat}{a b:World}(h:Fr F a b){g:Nat}(hg:g∈F\/a.heap.size<=g)(u0 u1 u2 u3 u4:Value) :
  Fr F a (((((b.setCell ⟨g,0,none⟩ u0).setCell ⟨g,1,none⟩ u1).setCell ⟨g,2,none⟩ u2).setCell ⟨g,3,none⟩ u3).setCell ⟨g,4,none⟩ u4):=
 ((((h.setCell (p:=⟨g,0,none⟩) hg u0).setCell (p:=⟨g,1,none⟩) hg u1).setCell (p:=⟨g,2,none⟩) hg u2).setCell (p:=⟨g,3,none⟩) hg u3).setCell (p:=⟨g,4,none⟩) hg u4
def Own(base:Nat)(w:World)(A:Option Addr)(l:List Int):Prop:=
 0<l.length->∃b off,A=some ⟨b,off,none⟩/\base<=b/\b<w.heap.size/\∀k,k<l.length->w.cell? ⟨b,off+k,none⟩=some (.int .i64 (l.getD k 0))
theorem Own.nil(base:Nat)(w:World)(A:Option Addr):Own base w A []:=λh=>absurd h (by decide)
theorem Own.fr{F:List Nat}{base:Nat}{w w':World}{A:Option Addr}{l:List Int}(h:Own base w A l)(hf:Fr F w w')(hF:∀x,x∈F->x<base\/w.heap.size<=x):Own base w' A l:=λhn=>by
 obtain⟨b,off,h1,h2,h3,h4⟩:=h hn;refine⟨b,off,h1,h2,Dc h3 hf.size,λk hk=>(hf.cell (p:=⟨b,off+k,none⟩) h3 (λhx=>?_)).trans (h4 k hk)⟩;have:=hF _ hx;simp only at this;omega
theorem Own.low{base base':Nat}{w:World}{A:Option Addr}{l:List Int}(h:Own base w A l)(hb:base'<=base):Own base' w A l:=λhn=>by
 obtain⟨b,off,h1,h2,h3⟩:=h hn;exact⟨b,off,h1,by omega,h3⟩
theorem Own.row{w:World}{base:Nat}{e:TypeId}{v:Value}{l:List Int}(h:w.ownsRow base e 1 v l.length (iX l)):∃A c,v=.slice A l.length c/\Own base w A l:=by
 rcases nO h with⟨rfl,h0,_⟩|⟨g,cap,cur,rfl,hb0,hb,h1,_,h2,h3,h4⟩
 ·obtain rfl:l=[]:=List.eq_nil_of_length_eq_zero h0;exact⟨none,0,rfl,Own.nil _ _ _⟩
 ·refine⟨_,_,rfl,λ_=>⟨g,0,rfl,hb0,hb.lt,λk hk=>?_⟩⟩;rw[hb.cell,Nat.zero_add,<- Array.getElem?_toList];have e1:(cur.toList.take l.length)[k]?=(iX l)[k]?:=by rw[h3]
  rw[List.getElem?_take_of_lt hk]at e1;rw[e1];simp[iX,hk]
theorem Own.blk{w:World}{base g:Nat}{e:TypeId}{l:List Int}(h:Blk w g e (iX l).toArray)(hb:base<=g):Own base w (some ⟨g,0,none⟩) l:=λ_=>
 ⟨g,0,rfl,hb,h.lt,λk hk=>by
  rw[h.cell,Nat.zero_add];simp[iX,hk]⟩
end Go.Gl
