/- Several texts joined (pack.py): Va R2b R2n Wb. -/
import Derived.Test.YtfcjdinlcehpmaaGreatDoorPW03
import Derived.Test.YtfcjdinlcehpmaaGreatDoorPW01
import Derived.Test.YtfcjdinlcehpmaaGreatDoorPW05
import Derived.Test.YtfcjdinlcehpmaaGreatDoorPW06
import Derived.Test.YtfcjdinlcehpmaaGreatDoorPW07
import Derived.Test.YtfcjdinlcehpmaaGreatDoorPW04
import Derived.Test.YtfcjdinlcehpmaaGreatDoorPW02
import Derived.WalkKit
import Derived.BigQuiet
import Derived.Deep.CutRange
import Derived.Deep.RegionWith
import Derived.Deep.RegionHeld3
namespace Go.Proofs.YtfcjdinlcehpmaaGreatDoor
set_option linter.unusedVariables false
open Go.RowKit Go.Gl
structure HS where
 g:Geo
 W:Nat
 R:Nat
 n:Nat
 f:Nat→Nat
 s:Nat→Int
 t:Nat→Int
 T:Nat
 bx:Nat→Int
 be:Nat→Int
 st:Nat→List Int
namespace HS
variable (h:HS)
def leftL(r:Int):Nat→List Int
 | 0=>[]
 | k+1=>leftL r k++(if h.bx k<h.be k∧h.g.regionOf (h.bx k)=r then [h.bx k] else [])
def minL:List Int→Int
 | []=>0
 | x::l=>l.foldl min x
def endOf(k:Nat):Int:=if h.leftL (k:Int) h.T=[] then h.t k else minL (h.leftL (k:Int) h.T)
def stateOf(r:Int):Int:=if 0≤r∧r<(h.R:Int) then h.s r.toNat else 0
noncomputable def objE (r:Int):Int:=if r=0 then 12 else if atE h.n h.f (r-1)≠0 then atE h.n h.f (r-1) else if (atH h.n h.f (r-1)).kind=1 then 0 else 30
noncomputable def objV (r:Int):Hd:=if h.objE r=0 then atH h.n h.f (r-1) else Hd.zero
def Cont(k:Nat)(sp:Int):Prop:=∀i:Nat,1≤i→(i:Int)<sp→h.stateOf ((k:Int)+(i:Int))=5
open Classical in
noncomputable def bigE (k:Nat):Int:=if h.objE (((k*h.W:Nat):Int)+1)≠0 then h.objE (((k*h.W:Nat):Int)+1) else if h.Cont k (h.g.spanOf (h.objV (((k*h.W:Nat):Int)+1)).size) then 0 else 30
noncomputable def rowE (r:Int):Int:=
 if ¬ (0≤r∧r<(h.R:Int)) then 2
 else if h.s r.toNat=1∨h.s r.toNat=2∨h.s r.toNat=3 then startsE h.n h.f ((r.toNat*h.W:Nat):Int) (h.endOf r.toNat)
 else if h.s r.toNat=4 then h.bigE r.toNat else 0
noncomputable def rowL (r:Int):List Int:=
 if ¬ (0≤r∧r<(h.R:Int)) then []
 else if h.s r.toNat=1∨h.s r.toNat=2∨h.s r.toNat=3 then startsL h.n h.f ((r.toNat*h.W:Nat):Int) (h.endOf r.toNat)
 else if h.s r.toNat=4 then (if h.bigE r.toNat=0 then [((r.toNat*h.W:Nat):Int)] else []) else []
noncomputable def isObj (a:Int):Bool:=decide (h.objE (a+1)=0)
noncomputable def objsK (k:Nat):List Int:=(h.rowL (k:Int)).filter h.isObj
noncomputable def objL:List Int:=(List.range h.R).flatMap h.objsK
noncomputable def refsAt (a:Int):List Int:=(fieldsL h.n h.f a).map fun (i:Int)=>(h.f i.toNat:Int)
def Known(l:List Int)(o:List Int):Prop:=∀r,r∈l→r=0∨r-1∈o
structure Sound:Prop where
 rows:∀k,k<h.R→h.rowE (k:Int)=0
 refs:∀a,a∈h.objL→Known (h.refsAt a) h.objL
 stk:∀i,i<h.T→Known (h.st i) h.objL
open Classical in
noncomputable def checkE:Int:=if h.Sound then 0 else 30
open Classical in
noncomputable def gs:GS where
 st:=fun i=>if i<h.T then h.st i else []
 done:=fun _=>0
 N:=h.n
 np:=fun r=>if r-1∈h.objL then (atH h.n h.f (r-1)).ptrs.toNat else 0
 nw:=fun r=>if r-1∈h.objL then ((atH h.n h.f (r-1)).size-1-(atH h.n h.f (r-1)).ptrs).toNat else 0
 ref:=fun r j=>if r-1∈h.objL∧0≤j∧j<(atH h.n h.f (r-1)).ptrs then (h.f (r+j).toNat:Int) else 0
 dat:=fun r j=>(h.f (r+(atH h.n h.f (r-1)).ptrs+j).toNat:Int)
structure Ok(s k:Nat):Prop where
 geo:h.g.Ok s k
 rw:h.g.rw=(h.W:Int)
 rg:h.g.regions=(h.R:Int)
 wd:h.g.words=(h.n:Int)
 nn:h.n=h.R*h.W
 fok:∀i,h.f i<18446744073709551616
 sok:∀i,i<h.R→0≤h.s i∧h.s i≤5
 tok:∀i,i<h.R→((i*h.W:Nat):Int)≤h.t i∧h.t i≤((i*h.W+h.W:Nat):Int)
 tm:h.T≤64
 bok:∀i,i<h.T→0≤h.bx i∧h.bx i≤h.be i∧h.be i≤4194304
 rok:∀i,i<h.T→∀r,r∈h.st i→0≤r∧r<18446744073709551616
 rlen:∀i,i<h.T→(h.st i).length≤64
end HS
theorem mul_add_le{k R W:Nat}(h:k<R):k*W+W≤R*W:=by
 have:=Nat.mul_le_mul_right W (show k+1≤R by omega)
 rw [Nat.add_mul,Nat.one_mul]at this
 exact this
namespace HS
variable {h:HS}{s k:Nat}
theorem Ok.nmax(ok:h.Ok s k):h.n≤4194304:=by have:=ok.geo.wmax;have:=ok.wd;omega
theorem Ok.base_le(ok:h.Ok s k){r:Nat}(hr:r<h.R):r*h.W+h.W≤h.n:=by rw [ok.nn];exact mul_add_le hr
theorem Ok.wpos(ok:h.Ok s k):64≤h.W:=by
 have h1:=ok.rw
 have h2:=ok.geo.rw
 have h3:=pw_le (a:=6) (b:=(s:Int)) (by have:=ok.geo.s6;omega)
 have:pw 6=64:=by decide
 omega
theorem objE_0{r:Int}(e:h.objE r=0):r≠0∧(0≤r-1∧r-1<(h.n:Int))∧(atH h.n h.f (r-1)).kind=1∧(atH h.n h.f (r-1)).Right∧atE h.n h.f (r-1)=0∧h.objV r=atH h.n h.f (r-1):=by
 have e0:=e
 unfold objE at e
 split at e
 ·omega
 ·rename_i h0
  split at e
  ·rename_i h1;exact absurd e h1
  ·rename_i h1
   split at e
   ·rename_i h2
    rcases at_out h.n h.f (r-1)with⟨a1,_⟩ | ⟨a1,_⟩ | ⟨a1,a2,a3,a4⟩
    ·omega
    ·omega
    ·exact⟨h0,a2,h2,a4,a1,by unfold objV;rw [if_pos e0]⟩
   ·omega
end HS
set_option linter.unusedVariables false
open Go.RowKit Go.Gl
structure GIn(σ:GS):Prop where
 mem:∀t r,r∈σ.st t→0≤r∧r≤(σ.N:Int)
 ref:∀r j,0≤σ.ref r j∧σ.ref r j≤(σ.N:Int)
section
variable {T:Nat}{σ:GS}
end
namespace HS
variable {h:HS}{s k:Nat}
structure ObjAt(h:HS)(i:Nat)(S P:Nat):Prop where
 lt:i<h.n
 hd:Hd.of (h.f i)=atH h.n h.f (i:Int)
 e:atE h.n h.f (i:Int)=0
 kind:(atH h.n h.f (i:Int)).kind=1
 size:(atH h.n h.f (i:Int)).size=(S:Int)
 ptrs:(atH h.n h.f (i:Int)).ptrs=(P:Int)
 pos:1≤S
 max:S≤1048576
 ps:P<S
 fit:i+S≤h.n
theorem ObjAt.objE{i S P:Nat}(o:ObjAt h i S P):h.objE ((i:Int)+1)=0:=by
 unfold HS.objE
 rw [if_neg (by omega),show((i:Int)+1-1)=(i:Int)by omega,o.e,o.kind]
 rfl
theorem ObjAt.objV{i S P:Nat}(o:ObjAt h i S P):h.objV ((i:Int)+1)=⟨1,S,P,(atH h.n h.f (i:Int)).age,0⟩:=by
 unfold HS.objV
 rw [if_pos o.objE,show((i:Int)+1-1)=(i:Int)by omega]
 obtain⟨_,_,_,h3,_⟩:=objE_0 o.objE
 rw [show((i:Int)+1-1)=(i:Int)by omega]at h3
 have hw:=h3.ways
 have k1:=o.kind
 have k2:=o.size
 have k3:=o.ptrs
 generalize atH h.n h.f (i:Int)=H at *
 obtain⟨a,b,c,d,e⟩:=H
 simp only at *
 rw [Hd.mk.injEq]
 omega
end HS
set_option linter.unusedVariables false
set_option linter.unusedSimpArgs false
set_option maxRecDepth 100000
open Go.RowKit Go.Gl
structure HL where
 hb:Nat
 ab:Nat
 aw:Nat
 tb:Nat
 sb:Nat
 pb:Nat
 mb:Nat
 vo:Value
 vc:Value
 vq:Value
 vs:Value
 vm:Value
 cfg:Cfg
 m:Nat→Int
 rA:Option Addr
 rc:Nat
 rG:List Nat
 S:Nat→Nat
 bb:Nat
 B:Nat
def HL.cells(L:HL)(g:Geo)(T:Nat):Array Value:=
 #[.int .i64 L.cfg.shift,.int .i64 L.cfg.regions,.int .i64 L.cfg.cardShift,.int .i64 L.cfg.threads,.int .i64 L.cfg.roots,.int .i64 L.cfg.refiners,.int .i64 L.cfg.markers,.int .i64 L.cfg.young,.int .i64 L.cfg.tenure,.int .i64 L.cfg.queue,.int .i64 L.cfg.stack,.int .i64 L.cfg.budget,.int .i64 L.cfg.percent,.int .i64 L.cfg.fail,
  .int .i64 g.words,.int .i64 g.rw,.int .i64 g.cw,.int .i64 g.regions,.int .i64 g.cards,.int .i64 g.max,
  .pointer (some ⟨L.ab,0,none⟩),.pointer (some ⟨L.tb,0,none⟩),L.vo,L.vc,L.vq,L.vs,L.vm,.slice L.rA T L.rc,.slice (some ⟨L.bb,0,none⟩) T T]
def stkV(S:Nat→Nat)(T:Nat):List Value:=(List.range T).map fun i=>.pointer (some ⟨S i,0,none⟩)
def bufV(T:Nat)(x y:Nat→Int):Array Value:=(rows2 (fun i=>.int .i64 (x i)) (fun i=>.int .i64 (y i)) T).toArray
structure Hr(w:World)(L:HL)(h:HS)(s k:Nat):Prop where
 st:Blk w L.hb 76 (L.cells h.g h.T)
 ar:∃c,Ar w L.ab L.aw h.n h.f c
 rg:Rg w L.tb L.sb L.pb L.mb h.W h.R h.s h.t L.m
 row:Lr w 63 L.rA h.T L.rc L.rG (stkV L.S h.T)
 stk:∀i,i<h.T→∃F,HkP w (L.S i) F L.B (h.st i)
 buf:Blk w L.bb 209 (bufV h.T h.bx h.be)
 ok:h.Ok s k
 tab:Tab w
section
variable {w w':World}{L:HL}{h:HS}{s k:Nat}{F:List Nat}
theorem HkP.ab{l:List Int}{s k:Nat}(H:HkP w s F k l){b:Nat}{cs:Array Value}(hb:Blk w b 138 cs):∀g,g∈F→g∉[b]:=by
 obtain⟨A,c,G,H,rfl⟩:=H
 intro g hg hx
 simp only [List.mem_singleton]at hx
 subst hx
 rcases List.mem_cons.1 hg with rfl | hg
 ·exact H.st.apart hb (by decide) rfl
 ·exact H.row.apart hb (by decide) hg
theorem Tab.ab(hT:Tab w){b:Nat}{t:TypeId}{A:Option Addr}{n c:Nat}{cs:Array Value}(hb:Blk w b t cs)(h0:cs[0]?=some (.slice A n c)):0∉[b]:=by
 intro hx
 have hx:=List.mem_singleton.1 hx
 have h1:=hT 0 (by decide)
 have h2:=hb.cell 0
 rw [← hx]at h2
 rw [h2,h0]at h1
 cases h1
theorem Hr.fr1(H:Hr w L h s k)(hf:Fr [L.ab] w w')(ha:∃c,Ar w' L.ab L.aw h.n h.f c):Hr w' L h s k:=by
 obtain⟨c,hc⟩:=H.ar
 have ne:∀ {b:Nat} {t:TypeId} {cs:Array Value},Blk w b t cs→t≠138→b∉[L.ab]:=fun hb ht hx=>by
  simp only [List.mem_singleton]at hx
  exact hb.apart hc.set ht hx
 refine⟨H.st.fr hf (ne H.st (by decide)),ha,H.rg.fr hf (ne H.rg.set (by decide)) (ne H.rg.st (by decide)) (ne H.rg.tops (by decide)) (ne H.rg.tams (by decide)),H.row.fr hf (fun g hg hx=>?_),fun i hi=>?_,H.buf.fr hf (ne H.buf (by decide)),H.ok,H.tab.fr hf (H.tab.ab hc.set rfl)⟩
 ·simp only [List.mem_singleton]at hx
  subst hx
  exact H.row.apart hc.set (by decide) hg
 ·obtain⟨F,h1⟩:=H.stk i hi
  exact⟨F,h1.fr hf (h1.ab hc.set)⟩
theorem Hr.fr0(H:Hr w L h s k)(hf:Fr [] w w'):Hr w' L h s k:=by
 obtain⟨c,hc⟩:=H.ar
 exact H.fr1 (hf.mono (fun x hx=>by cases hx)) ⟨c,hc.fr hf (by simp) (by simp)⟩
theorem Hr.geo(H:Hr w L h s k):w.cell? ⟨L.hb,14,none⟩=some (.int .i64 h.g.words)∧w.cell? ⟨L.hb,15,none⟩=some (.int .i64 h.g.rw)∧w.cell? ⟨L.hb,16,none⟩=some (.int .i64 h.g.cw)∧w.cell? ⟨L.hb,17,none⟩=some (.int .i64 h.g.regions)∧w.cell? ⟨L.hb,18,none⟩=some (.int .i64 h.g.cards)∧w.cell? ⟨L.hb,19,none⟩=some (.int .i64 h.g.max):=
 ⟨H.st.cell 14,H.st.cell 15,H.st.cell 16,H.st.cell 17,H.st.cell 18,H.st.cell 19⟩
theorem Hr.cA(H:Hr w L h s k):w.cell? ⟨L.hb,20,none⟩=some (.pointer (some ⟨L.ab,0,none⟩)):=H.st.cell 20
theorem Hr.cR(H:Hr w L h s k):w.cell? ⟨L.hb,27,none⟩=some (.slice L.rA h.T L.rc):=H.st.cell 27
end
theorem Blk.fives{w:World}{g:Nat}{t:TypeId}{a b c d e:Value}(h:Blk w g t #[a,b,c,d,e])(u0 u1 u2 u3 u4:Value) :
  Blk (((((w.setCell ⟨g,0,none⟩ u0).setCell ⟨g,1,none⟩ u1).setCell ⟨g,2,none⟩ u2).setCell ⟨g,3,none⟩ u3).setCell ⟨g,4,none⟩ u4) g t #[u0,u1,u2,u3,u4]:=by
 have:=((((h.put 0 u0).put 1 u1).put 2 u2).put 3 u3).put 4 u4
 simpa using this
def HrP(w:World)(L:HL)(h:HS)(s k:Nat)(v:Value)(e:Ending)(w':World):Prop:=e=.returned v∧Hr w' L h s k∧Fr [L.ab] w w'
theorem address_any{r:Int}(h0:1≤r)(h1:r≤9223372036854775807)(w:World):Calls Tryz.prog 40 #[.int .u64 r] w fun e w'=>e=.returned (.int .i64 (r-1))∧w=w':=by
 have e1:IntKind.u64.wrap (r-1)=r-1:=IntWalk.u64_in _ ⟨by omega,by omega⟩
 have e2:IntKind.i64.wrap (r-1)=r-1:=IntWalk.i64_in _ ⟨by omega,by omega⟩
 go_enter Tryz.func40,Tryz.ntmps40
 go_wp2
 go_ret
 exact⟨rfl,rfl⟩
section
variable {w:World}{L:HL}{h:HS}{s k:Nat}
set_option maxHeartbeats 3200000 in
theorem hobject_any(H:Hr w L h s k){r:Int}(h0:0≤r)(h1:r≤9223372036854775807):Calls Tryz.prog 19 #[.pointer (some ⟨L.hb,0,none⟩),.int .u64 r] w (HrP w L h s k (.tuple #[(h.objV r).val,.int .i64 (h.objE r)])):=by
 have HH:=hide H
 by_cases hr:r=0
 ·subst hr
  have e1:h.objE 0=12:=by unfold HS.objE;rw [if_pos rfl]
  have e2:h.objV 0=Hd.zero:=by unfold HS.objV;rw [if_neg (by rw [e1];decide)]
  rw [e1,e2]
  clear H e1 e2
  go_enter Tryz.func19,Tryz.ntmps19
  go_wp2_with fail
  refine bodyPost_ret (v:=.tuple #[.agg #[.int .i64 0,.int .i64 0,.int .i64 0,.int .i64 0,.int .i64 0],.int .i64 12]) (by simp [results,Tryz.results19,go_sem, *]) rfl ⟨rfl,HH.out.fr0 ((Fr.refl _ _).alloc _),(Fr.refl _ _).alloc _⟩
 ·obtain⟨c,hc⟩:=H.ar
  have c0:=H.cA
  have HX:=hide (fun w'=>address_any (r:=r) (by omega) h1 w')
  have HQ:Hid (L.ab<w.heap.size∧L.aw<w.heap.size∧L.hb<w.heap.size):=⟨hc.set.lt,hc.row.lt,H.st.lt⟩
  have HT:Hid (∀w',Fr [] w w'→Calls Tryz.prog 39 #[.pointer (some ⟨L.ab,0,none⟩),.int .i64 (r-1)] w' (AtPost w' L.ab L.aw h.n h.f (r-1))):=fun w' hf=>pat_any (hc.fr hf (by simp) (by simp)) (r-1)
  have N0:L.hb<w.heap.size:=H.st.lt
  unfold AtPost at HT
  have hr':(r==0)=false:=by simpa using hr
  have hway:(atE h.n h.f (r-1)≠0∧h.objE r=atE h.n h.f (r-1)∧h.objV r=Hd.zero)∨(atE h.n h.f (r-1)=0∧(atH h.n h.f (r-1)).kind≠1∧h.objE r=30∧h.objV r=Hd.zero)∨(atE h.n h.f (r-1)=0∧(atH h.n h.f (r-1)).kind=1∧h.objE r=0∧h.objV r=atH h.n h.f (r-1)):=by
   unfold HS.objV HS.objE
   rw [if_neg hr]
   by_cases e1:atE h.n h.f (r-1)=0
   ·by_cases e2:(atH h.n h.f (r-1)).kind=1
    ·exact .inr (.inr ⟨e1,e2,by simp [e1,e2],by simp [e1,e2]⟩)
    ·exact .inr (.inl ⟨e1,e2,by simp [e1,e2],by simp [e1,e2]⟩)
   ·exact .inl ⟨e1,by simp [e1],by simp [e1]⟩
  clear H hc
  generalize atH h.n h.f (r-1)=g at *
  generalize atE h.n h.f (r-1)=E at *
  generalize h.objV r=V at *
  generalize h.objE r=U at *
  obtain⟨K,sz,p,q,t⟩:=g
  obtain⟨z,hz⟩:∃z:Obj,z=.cells #[.int .i64 0,.int .i64 0,.int .i64 0,.int .i64 0,.int .i64 0] 87:=⟨_,rfl⟩
  have HT1:=hide (HT.out (w.alloc (.cells #[.int .i64 0,.int .i64 0,.int .i64 0,.int .i64 0,.int .i64 0] 87)).drew ((Fr.refl _ _).alloc _).drew)
  have HT2:=hide (HT.out ((w.alloc (.cells #[.int .i64 0,.int .i64 0,.int .i64 0,.int .i64 0,.int .i64 0] 87)).alloc (.cells #[.int .i64 0,.int .i64 0,.int .i64 0,.int .i64 0,.int .i64 0] 87)).drew (((Fr.refl _ _).alloc _).alloc _).drew)
  unfold Hd.val at HT1 HT2
  simp only at hway HT1 HT2
  have HB1:Hid (∀w',Fr [L.ab] (w.alloc (.cells #[.int .i64 0,.int .i64 0,.int .i64 0,.int .i64 0,.int .i64 0] 87)).drew w'→Blk w' w.heap.size 87 Hd.zero.cells):=fun w' hf=>(Blk.drew (Blk.new w 87 Hd.zero.cells)).fr hf (by have:=HQ.out.1;simp;omega)
  have HB2:Hid (∀w',Fr [L.ab] ((w.alloc (.cells #[.int .i64 0,.int .i64 0,.int .i64 0,.int .i64 0,.int .i64 0] 87)).alloc (.cells #[.int .i64 0,.int .i64 0,.int .i64 0,.int .i64 0,.int .i64 0] 87)).drew w'→Blk w' w.heap.size 87 Hd.zero.cells∧Blk w' (w.heap.size+1) 87 Hd.zero.cells):=fun w' hf=>
   ⟨(Blk.drew ((Blk.new w 87 Hd.zero.cells).alloc _)).fr hf (by have:=HQ.out.1;simp;omega),(Blk.drew (Blk.new_at (w:=w.alloc (.cells #[.int .i64 0,.int .i64 0,.int .i64 0,.int .i64 0,.int .i64 0] 87)) 87 Hd.zero.cells (by simp))).fr hf (by have:=HQ.out.1;simp;omega)⟩
  clear hz
  go_enter Tryz.func19,Tryz.ntmps19
  go_wp2_with fail
  go_cut [6,7] from 14 to 33 (fun x y wc=>∃xb,x=.pointer (some ⟨xb,0,none⟩)∧y=.int .i64 E∧Blk wc xb 87 #[.int .i64 K,.int .i64 sz,.int .i64 p,.int .i64 q,.int .i64 t]∧Blk wc w.heap.size 87 Hd.zero.cells∧Hr wc L h s k∧Fr [L.ab] w wc)
  case first=>
   go_region_with (first | (go_at_call 40;refine(HX.out _).mono ?_;rintro e w' ⟨rfl,rfl⟩) | (go_at_call 39;first | ((with_reducible refine Calls.mono HT1.out ?_);rintro e w1 ⟨c1,rfl,ha,hf⟩;have HA:=hide ha;have HFa:=hide hf;clear ha hf) | ((with_reducible refine Calls.mono HT2.out ?_);rintro e w1 ⟨c1,rfl,ha,hf⟩;have HA:=hide ha;have HFb:=hide hf;obtain⟨⟨z0,z1,z2,z3,z4⟩,f0,f1,f2,f3,f4⟩:=Hd.zero_cells (HB2.out _ hf).2;have N2:=(HB2.out _ hf).2.lt;clear ha hf)))
   all_goals
    go_wp2_with fail
    go_meet
   all_goals first | (have _x:=HFa;exact⟨_,rfl,rfl,Blk.new _ _ _,(HB1.out _ HFa.out).alloc _,HH.out.fr1 ((((Fr.refl [L.ab] w).alloc _).drew.trans_same HFa.out).alloc _) ⟨_,HA.out.fr ((Fr.refl [] _).alloc _) (by simp) (by simp)⟩,(((Fr.refl [L.ab] w).alloc _).drew.trans_same HFa.out).alloc _⟩) | (exact⟨_,rfl,rfl,Blk.fives (HB2.out _ HFb.out).2 _ _ _ _ _,(HB2.out _ HFb.out).1.fr (F:=[w.heap.size+1]) ((Fr.refl _ _).five (.inl (by simp)) _ _ _ _ _) (by simp),HH.out.fr1 (((((Fr.refl [L.ab] w).alloc _).alloc _).drew.trans_same HFb.out).five (.inr (by omega)) _ _ _ _ _) ⟨_,HA.out.fr (F:=[w.heap.size+1]) ((Fr.refl _ _).five (.inl (by simp)) _ _ _ _ _) (by have:=HQ.out.1;simp;omega) (by have:=HQ.out.2.1;simp;omega)⟩,((((Fr.refl [L.ab] w).alloc _).alloc _).drew.trans_same HFb.out).five (.inr (by omega)) _ _ _ _ _⟩)
  case rest=>
   obtain⟨xb,rfl,rfl,hx,hz,hH,hF⟩:=hcut
   have x0:wc.cell? ⟨xb,0,none⟩=some (.int .i64 K):=hx.cell 0
   have x1:wc.cell? ⟨xb,1,none⟩=some (.int .i64 sz):=hx.cell 1
   have x2:wc.cell? ⟨xb,2,none⟩=some (.int .i64 p):=hx.cell 2
   have x3:wc.cell? ⟨xb,3,none⟩=some (.int .i64 q):=hx.cell 3
   have x4:wc.cell? ⟨xb,4,none⟩=some (.int .i64 t):=hx.cell 4
   obtain⟨⟨z0,z1,z2,z3,z4⟩,f0,f1,f2,f3,f4⟩:=Hd.zero_cells hz
   have N2:=hz.lt
   have HH2:=hide hH
   have HF2:=hide hF
   have HN2:Hid (∀v0 v1 v2 v3 v4,Hr (((((wc.setCell ⟨w.heap.size,0,none⟩ v0).setCell ⟨w.heap.size,1,none⟩ v1).setCell ⟨w.heap.size,2,none⟩ v2).setCell ⟨w.heap.size,3,none⟩ v3).setCell ⟨w.heap.size,4,none⟩ v4) L h s k∧Fr [L.ab] w (((((wc.setCell ⟨w.heap.size,0,none⟩ v0).setCell ⟨w.heap.size,1,none⟩ v1).setCell ⟨w.heap.size,2,none⟩ v2).setCell ⟨w.heap.size,3,none⟩ v3).setCell ⟨w.heap.size,4,none⟩ v4)):=fun v0 v1 v2 v3 v4=>by
    obtain⟨c9,hc9⟩:=hH.ar
    have hf:=hF.five (.inr (Nat.le_refl _)) v0 v1 v2 v3 v4
    exact⟨HH.out.fr1 hf ⟨c9,hc9.fr (F:=[w.heap.size]) ((Fr.refl _ _).five (.inl (by simp)) _ _ _ _ _) (by have:=HQ.out.1;simp;omega) (by have:=HQ.out.2.1;simp;omega)⟩,hf⟩
   clear hx hz hH hF HB1 HB2 HT1 HT2 HT
   rcases hway with⟨h3,rfl,rfl⟩ | ⟨rfl,h3,rfl,rfl⟩ | ⟨rfl,rfl,rfl,rfl⟩
   ·have h3':(U !=0)=true:=by simpa using h3
    go_wp2_with fail
    refine bodyPost_ret (v:=.tuple #[.agg #[.int .i64 0,.int .i64 0,.int .i64 0,.int .i64 0,.int .i64 0],.int .i64 U]) (by simp [results,Tryz.results19,go_sem, *]) rfl ⟨rfl,HN2.out _ _ _ _ _⟩
   ·have h3':(K !=1)=true:=by simpa using h3
    go_wp2_with fail
    refine bodyPost_ret (v:=.tuple #[.agg #[.int .i64 0,.int .i64 0,.int .i64 0,.int .i64 0,.int .i64 0],.int .i64 30]) (by simp [results,Tryz.results19,go_sem, *]) rfl ⟨rfl,HN2.out _ _ _ _ _⟩
   ·go_wp2_with fail
    refine bodyPost_ret (v:=.tuple #[.agg #[.int .i64 1,.int .i64 sz,.int .i64 p,.int .i64 q,.int .i64 t],.int .i64 0]) (by simp [results,Tryz.results19,go_sem, *]) rfl ⟨rfl,HN2.out _ _ _ _ _⟩
end
structure PT.Ok(g:Geo)(n:Nat)(t:PT):Prop where
 z2:2≤t.sz
 zm:(t.sz:Int)≤g.max
 big:g.bigB t.sz=(t.st==4)
 s1:1≤t.st
 s4:t.st≤4
 rf:RefsOk t.rf n
structure Pl.Right(p:Pl):Prop where
 may:mayB p.c=true
 wd:p.c.geo.words≤4096
 n:p.n≤200
 m:(p.m:Int)≤p.c.threads
 t:∀i,i<p.n→(p.T i).Ok p.c.geo p.n
 hl:∀i,i<p.m→((p.H i).length:Int)≤p.c.roots
 hr:∀i,i<p.m→RefsOk (p.H i) p.n
open Classical in
noncomputable def Pl.rightB (p:Pl):Bool:=decide p.Right
end Go.Proofs.YtfcjdinlcehpmaaGreatDoor
