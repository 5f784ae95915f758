/- Several texts joined (pack.py): Va R2. -/
import Derived.Test.YteacgfeiedcdiaaGreatDoorPW03
import Derived.Test.YteacgfeiedcdiaaGreatDoorPW02
import Derived.Test.YteacgfeiedcdiaaGreatDoorPW04
import Derived.Test.YteacgfeiedcdiaaGreatDoorPW05
import Derived.Test.YteacgfeiedcdiaaGreatDoorPW07
import Derived.Test.YteacgfeiedcdiaaGreatDoorPW08
import Derived.Test.YteacgfeiedcdiaaGreatDoorPW09
import Derived.WalkKit
import Derived.BigQuiet
import Derived.Deep.CutRange
import Derived.Deep.RegionWith
import Derived.Deep.RegionHeld3
namespace Go.Proofs.YteacgfeiedcdiaaGreatDoor
set_option linter.unusedVariables false
open Go.RowKit Go.Gl
structure HS where
 g:Geo
 W:Nat
 R:Nat
 n:Nat
 f:Nat→Nat
 s:Nat→Int
 t:Nat→Int
 T:Nat
 bx:Nat→Int
 be:Nat→Int
 st:Nat→List Int
namespace HS
variable (h:HS)
def leftL(r:Int):Nat→List Int
 | 0=>[]
 | k+1=>leftL r k++(if h.bx k<h.be k∧h.g.regionOf (h.bx k)=r then [h.bx k] else [])
def minL:List Int→Int
 | []=>0
 | x::l=>l.foldl min x
def endOf(k:Nat):Int:=if h.leftL (k:Int) h.T=[] then h.t k else minL (h.leftL (k:Int) h.T)
def stateOf(r:Int):Int:=if 0≤r∧r<(h.R:Int) then h.s r.toNat else 0
noncomputable def objE (r:Int):Int:=if r=0 then 12 else if atE h.n h.f (r-1)≠0 then atE h.n h.f (r-1) else if (atH h.n h.f (r-1)).kind=1 then 0 else 30
noncomputable def objV (r:Int):Hd:=if h.objE r=0 then atH h.n h.f (r-1) else Hd.zero
def Cont(k:Nat)(sp:Int):Prop:=∀i:Nat,1≤i→(i:Int)<sp→h.stateOf ((k:Int)+(i:Int))=5
open Classical in
noncomputable def bigE (k:Nat):Int:=if h.objE (((k*h.W:Nat):Int)+1)≠0 then h.objE (((k*h.W:Nat):Int)+1) else if h.Cont k (h.g.spanOf (h.objV (((k*h.W:Nat):Int)+1)).size) then 0 else 30
noncomputable def rowE (r:Int):Int:=
 if ¬ (0≤r∧r<(h.R:Int)) then 2
 else if h.s r.toNat=1∨h.s r.toNat=2∨h.s r.toNat=3 then startsE h.n h.f ((r.toNat*h.W:Nat):Int) (h.endOf r.toNat)
 else if h.s r.toNat=4 then h.bigE r.toNat else 0
noncomputable def rowL (r:Int):List Int:=
 if ¬ (0≤r∧r<(h.R:Int)) then []
 else if h.s r.toNat=1∨h.s r.toNat=2∨h.s r.toNat=3 then startsL h.n h.f ((r.toNat*h.W:Nat):Int) (h.endOf r.toNat)
 else if h.s r.toNat=4 then (if h.bigE r.toNat=0 then [((r.toNat*h.W:Nat):Int)] else []) else []
noncomputable def isObj (a:Int):Bool:=decide (h.objE (a+1)=0)
noncomputable def objsK (k:Nat):List Int:=(h.rowL (k:Int)).filter h.isObj
noncomputable def objL:List Int:=(List.range h.R).flatMap h.objsK
noncomputable def refsAt (a:Int):List Int:=(fieldsL h.n h.f a).map fun (i:Int)=>(h.f i.toNat:Int)
def Known(l:List Int)(o:List Int):Prop:=∀r,r∈l→r=0∨r-1∈o
structure Sound:Prop where
 rows:∀k,k<h.R→h.rowE (k:Int)=0
 refs:∀a,a∈h.objL→Known (h.refsAt a) h.objL
 stk:∀i,i<h.T→Known (h.st i) h.objL
open Classical in
noncomputable def checkE:Int:=if h.Sound then 0 else 30
open Classical in
noncomputable def gs:GS where
 st:=fun i=>if i<h.T then h.st i else []
 done:=fun _=>0
 N:=h.n
 np:=fun r=>if r-1∈h.objL then (atH h.n h.f (r-1)).ptrs.toNat else 0
 nw:=fun r=>if r-1∈h.objL then ((atH h.n h.f (r-1)).size-1-(atH h.n h.f (r-1)).ptrs).toNat else 0
 ref:=fun r j=>if r-1∈h.objL∧0≤j∧j<(atH h.n h.f (r-1)).ptrs then (h.f (r+j).toNat:Int) else 0
 dat:=fun r j=>(h.f (r+(atH h.n h.f (r-1)).ptrs+j).toNat:Int)
structure Ok(s k:Nat):Prop where
 geo:h.g.Ok s k
 rw:h.g.rw=(h.W:Int)
 rg:h.g.regions=(h.R:Int)
 wd:h.g.words=(h.n:Int)
 nn:h.n=h.R*h.W
 fok:∀i,h.f i<18446744073709551616
 sok:∀i,i<h.R→0≤h.s i∧h.s i≤5
 tok:∀i,i<h.R→((i*h.W:Nat):Int)≤h.t i∧h.t i≤((i*h.W+h.W:Nat):Int)
 tm:h.T≤64
 bok:∀i,i<h.T→0≤h.bx i∧h.bx i≤h.be i∧h.be i≤4194304
 rok:∀i,i<h.T→∀r,r∈h.st i→0≤r∧r<18446744073709551616
 rlen:∀i,i<h.T→(h.st i).length≤64
end HS
theorem mul_add_le{k R W:Nat}(h:k<R):k*W+W≤R*W:=by
 have:=Nat.mul_le_mul_right W (show k+1≤R by omega)
 rw [Nat.add_mul,Nat.one_mul]at this
 exact this
theorem rowF_mem{f:Nat→Nat}{b:Nat}:∀(k a:Nat) {l:List Int},strF f b k a=some l→∀x,x∈l→∃i:Nat,x=(i:Int)∧a≤i∧i<b∧StepOk f i b
 | 0,a,l,h,x,hx=>by
  by_cases h1:a<b
  ·simp [strF,h1]at h
  ·rw [rowF_end h1]at h
   cases h
   cases hx
 | k+1,a,l,h,x,hx=>by
  by_cases h1:a<b
  ·by_cases h2:StepOk f a b
   ·have hz:=Hd.of_cases (f a)
    simp only [strF,if_pos h1,if_pos h2]at h
    cases hr:strF f b k (a+(Hd.of (f a)).size.toNat)with
    | none=>rw [hr]at h;cases h
    | some l'=>
     rw [hr]at h
     simp at h
     subst h
     rcases List.mem_cons.1 hx with rfl | hx
     ·exact⟨a,rfl,Nat.le_refl _,h1,h2⟩
     ·obtain⟨i,e1,e2,e3,e4⟩:=rowF_mem k _ hr x hx
      exact⟨i,e1,by omega,e3,e4⟩
   ·rw [rowF_no h1 h2]at h
    cases h
  ·rw [rowF_end h1]at h
   cases h
   cases hx
theorem starts_mem{n:Nat}{f:Nat→Nat}{a b x:Int}(h:x∈startsL n f a b):∃i:Nat,x=(i:Int)∧a≤x∧x<b∧b≤(n:Int)∧StepOk f i b.toNat:=by
 unfold startsL at h
 split at h
 ·rename_i hb
  have hw:=bnd_ways n a b
  obtain⟨A,B,rfl,rfl,h1,h2,_⟩:∃A B:Nat,a=(A:Int)∧b=(B:Int)∧A≤B∧B≤n∧bndE n a b=0:=by
   rcases hw with h1 | h1 | h1 | h1
   ·exact h1
   ·omega
   ·omega
   ·omega
  rw [Int.toNat_natCast,Int.toNat_natCast]at h
  unfold startsO at h
  cases hr:strF f B (B-A) A with
  | none=>rw [hr]at h;cases h
  | some l=>
   rw [hr]at h
   obtain⟨i,e1,e2,e3,e4⟩:=rowF_mem _ _ hr x h
   exact⟨i,e1,by omega,by omega,by omega,by rw [Int.toNat_natCast];exact e4⟩
 ·cases h
namespace HS
variable {h:HS}{s k:Nat}
theorem Ok.nmax(ok:h.Ok s k):h.n≤4194304:=by have:=ok.geo.wmax;have:=ok.wd;omega
theorem Ok.base_le(ok:h.Ok s k){r:Nat}(hr:r<h.R):r*h.W+h.W≤h.n:=by rw [ok.nn];exact mul_add_le hr
theorem Ok.wpos(ok:h.Ok s k):64≤h.W:=by
 have h1:=ok.rw
 have h2:=ok.geo.rw
 have h3:=pw_le (a:=6) (b:=(s:Int)) (by have:=ok.geo.s6;omega)
 have:pw 6=64:=by decide
 omega
theorem objE_0{r:Int}(e:h.objE r=0):r≠0∧(0≤r-1∧r-1<(h.n:Int))∧(atH h.n h.f (r-1)).kind=1∧(atH h.n h.f (r-1)).Right∧atE h.n h.f (r-1)=0∧h.objV r=atH h.n h.f (r-1):=by
 have e0:=e
 unfold objE at e
 split at e
 ·omega
 ·rename_i h0
  split at e
  ·rename_i h1;exact absurd e h1
  ·rename_i h1
   split at e
   ·rename_i h2
    rcases at_out h.n h.f (r-1)with⟨a1,_⟩ | ⟨a1,_⟩ | ⟨a1,a2,a3,a4⟩
    ·omega
    ·omega
    ·exact⟨h0,a2,h2,a4,a1,by unfold objV;rw [if_pos e0]⟩
   ·omega
theorem objE_ways(h:HS)(r:Int):(h.objE r=12∧r=0)∨(r≠0∧h.objE r=2∧¬ (0≤r-1∧r-1<(h.n:Int)))∨(r≠0∧h.objE r=30)∨(r≠0∧h.objE r=0):=by
 unfold objE
 by_cases h0:r=0
 ·rw [if_pos h0];exact .inl ⟨rfl,h0⟩
 rw [if_neg h0]
 rcases at_out h.n h.f (r-1)with⟨a1,a2,_⟩ | ⟨a1,_⟩ | ⟨a1,a2,a3,a4⟩
 ·rw [a1];exact .inr (.inl ⟨h0,rfl,a2⟩)
 ·rw [a1];exact .inr (.inr (.inl ⟨h0,rfl⟩))
 ·rw [a1]
  simp only [ne_eq,not_true_eq_false,if_false]
  split
  ·exact .inr (.inr (.inr ⟨h0,rfl⟩))
  ·exact .inr (.inr (.inl ⟨h0,rfl⟩))
end HS
set_option linter.unusedVariables false
open Go.RowKit Go.Gl
structure GIn(σ:GS):Prop where
 mem:∀t r,r∈σ.st t→0≤r∧r≤(σ.N:Int)
 ref:∀r j,0≤σ.ref r j∧σ.ref r j≤(σ.N:Int)
section
variable {T:Nat}{σ:GS}
end
namespace HS
variable {h:HS}{s k:Nat}
theorem mem_objL{a:Int}:a∈h.objL↔∃k,k<h.R∧a∈h.rowL (k:Int)∧h.objE (a+1)=0:=by
 unfold objL objsK isObj
 simp only [List.mem_flatMap,List.mem_range,List.mem_filter,decide_eq_true_eq]
theorem stateOf_in{r:Int}(e:h.stateOf r=5):0≤r∧r<(h.R:Int):=by
 unfold stateOf at e
 split at e
 ·assumption
 ·omega
structure ObjAt(h:HS)(i:Nat)(S P:Nat):Prop where
 lt:i<h.n
 hd:Hd.of (h.f i)=atH h.n h.f (i:Int)
 e:atE h.n h.f (i:Int)=0
 kind:(atH h.n h.f (i:Int)).kind=1
 size:(atH h.n h.f (i:Int)).size=(S:Int)
 ptrs:(atH h.n h.f (i:Int)).ptrs=(P:Int)
 pos:1≤S
 max:S≤1048576
 ps:P<S
 fit:i+S≤h.n
theorem objE_at{i:Nat}(e:h.objE ((i:Int)+1)=0):∃S P:Nat,i<h.n∧Hd.of (h.f i)=atH h.n h.f (i:Int)∧atE h.n h.f (i:Int)=0∧(atH h.n h.f (i:Int)).kind=1∧(atH h.n h.f (i:Int)).size=(S:Int)∧(atH h.n h.f (i:Int)).ptrs=(P:Int)∧1≤S∧S≤1048576∧P<S:=by
 obtain⟨_,h1,h2,h3,h4,_⟩:=objE_0 e
 rw [show((i:Int)+1-1)=(i:Int)by omega]at h1 h2 h3 h4
 have hw:=h3.ways
 have hi:i<h.n:=by omega
 have ha:=(at_in (f:=h.f) hi).1
 exact⟨(atH h.n h.f (i:Int)).size.toNat,(atH h.n h.f (i:Int)).ptrs.toNat,hi,ha.symm,h4,h2,by omega,by omega,by omega,by omega,by omega⟩
theorem Ok.objAt(ok:h.Ok s k){a:Int}(ha:a∈h.objL):∃i S P:Nat,a=(i:Int)∧ObjAt h i S P:=by
 obtain⟨r,hr,hl,he⟩:=mem_objL.1 ha
 unfold rowL at hl
 rw [if_neg (by omega),Int.toNat_natCast]at hl
 split at hl
 ·obtain⟨i,rfl,h1,h2,h3,h4⟩:=starts_mem hl
  obtain⟨S,P,k1,k2,k3,k4,k5,k6,k7,k8,k9⟩:=objE_at he
  refine⟨i,S,P,rfl,⟨k1,k2,k3,k4,k5,k6,k7,k8,k9,?_⟩⟩
  have:=h4.2
  rw [k2,k5]at this
  omega
 ·split at hl
  ·split at hl
   ·rename_i hb
    simp only [List.mem_singleton]at hl
    subst hl
    obtain⟨S,P,k1,k2,k3,k4,k5,k6,k7,k8,k9⟩:=objE_at he
    refine⟨r*h.W,S,P,rfl,⟨k1,k2,k3,k4,k5,k6,k7,k8,k9,?_⟩⟩
    unfold bigE at hb
    rw [if_neg (by rw [he];simp)]at hb
    split at hb
    ·rename_i hc
     have hv:h.objV (((r*h.W:Nat):Int)+1)=atH h.n h.f ((r*h.W:Nat):Int):=by
      unfold objV
      rw [if_pos he,show(((r*h.W:Nat):Int)+1-1)=((r*h.W:Nat):Int)by omega]
     rw [hv,k5]at hc
     have hs:h.g.spanOf (S:Int)=(((S-1) / h.W:Nat):Int)+1:=by
      unfold Geo.spanOf
      rw [if_neg (by omega),ok.rw,show(S:Int)-1=((S-1:Nat):Int)by omega,← Int.natCast_ediv]
     rw [hs]at hc
     have hw:=ok.wpos
     have hq:r+(S-1) / h.W<h.R:=by
      rcases Nat.eq_zero_or_pos ((S-1) / h.W)with h0 | h0
      ·omega
      ·have:=stateOf_in (hc ((S-1) / h.W) h0 (by omega))
       omega
     have h1:(S-1) / h.W*h.W+h.W≤(h.R-r)*h.W:=mul_add_le (by omega)
     have h2:(h.R-r)*h.W=h.R*h.W-r*h.W:=Nat.sub_mul _ _ _
     have h3:S-1<(S-1) / h.W*h.W+h.W:=by
      have:=Nat.div_add_mod (S-1) h.W
      have h4:=Nat.mod_lt (S-1) (show 0<h.W by omega)
      rw [Nat.mul_comm]at this
      omega
     have h5:=Nat.mul_le_mul_right h.W (show r≤h.R by omega)
     rw [ok.nn]
     omega
    ·omega
   ·cases hl
  ·cases hl
theorem ObjAt.fields{i S P:Nat}(o:ObjAt h i S P):fieldsL h.n h.f (i:Int)=Go.Gl.refs i P∧fieldsE h.n h.f (i:Int)=0:=by
 have hf:FieldsOk h.n h.f (i:Int):=⟨o.kind,by rw [o.size];have:=o.fit;omega⟩
 have:=fields_yes o.e hf
 rw [o.ptrs,Int.toNat_natCast,Int.toNat_natCast]at this
 exact this
theorem ObjAt.refs{i S P:Nat}(o:ObjAt h i S P):h.refsAt (i:Int)=(List.range P).map fun (j:Nat)=>(h.f (i+1+j):Int):=by
 unfold refsAt
 rw [o.fields.1]
 unfold Go.Gl.refs
 rw [List.map_map]
 apply List.map_congr_left
 intro j _
 show(h.f ((i:Int)+1+(j:Int)).toNat:Int)=_
 rw [show((i:Int)+1+(j:Int)).toNat=i+1+j by omega]
theorem ObjAt.objE{i S P:Nat}(o:ObjAt h i S P):h.objE ((i:Int)+1)=0:=by
 unfold HS.objE
 rw [if_neg (by omega),show((i:Int)+1-1)=(i:Int)by omega,o.e,o.kind]
 rfl
theorem ObjAt.objV{i S P:Nat}(o:ObjAt h i S P):h.objV ((i:Int)+1)=⟨1,S,P,(atH h.n h.f (i:Int)).age,0⟩:=by
 unfold HS.objV
 rw [if_pos o.objE,show((i:Int)+1-1)=(i:Int)by omega]
 obtain⟨_,_,_,h3,_⟩:=objE_0 o.objE
 rw [show((i:Int)+1-1)=(i:Int)by omega]at h3
 have hw:=h3.ways
 have k1:=o.kind
 have k2:=o.size
 have k3:=o.ptrs
 generalize atH h.n h.f (i:Int)=H at *
 obtain⟨a,b,c,d,e⟩:=H
 simp only at *
 rw [Hd.mk.injEq]
 omega
theorem Known.le{l o:List Int}{n:Nat}(hk:Known l o)(ho:∀a,a∈o→0≤a∧a<(n:Int)){r:Int}(hr:r∈l):0≤r∧r≤(n:Int):=by
 rcases hk r hr with rfl | h1
 ·omega
 ·have:=ho _ h1;omega
end HS
set_option linter.unusedVariables false
set_option linter.unusedSimpArgs false
set_option maxRecDepth 100000
open Go.RowKit Go.Gl
structure HL where
 hb:Nat
 ab:Nat
 aw:Nat
 tb:Nat
 sb:Nat
 pb:Nat
 mb:Nat
 vo:Value
 vc:Value
 vq:Value
 vs:Value
 vm:Value
 cfg:Cfg
 m:Nat→Int
 rA:Option Addr
 rc:Nat
 rG:List Nat
 S:Nat→Nat
 bb:Nat
 B:Nat
def HL.cells(L:HL)(g:Geo)(T:Nat):Array Value:=
 #[.int .i64 L.cfg.shift,.int .i64 L.cfg.regions,.int .i64 L.cfg.cardShift,.int .i64 L.cfg.threads,.int .i64 L.cfg.roots,.int .i64 L.cfg.refiners,.int .i64 L.cfg.markers,.int .i64 L.cfg.young,.int .i64 L.cfg.tenure,.int .i64 L.cfg.queue,.int .i64 L.cfg.stack,.int .i64 L.cfg.budget,.int .i64 L.cfg.percent,.int .i64 L.cfg.fail,
  .int .i64 g.words,.int .i64 g.rw,.int .i64 g.cw,.int .i64 g.regions,.int .i64 g.cards,.int .i64 g.max,
  .pointer (some ⟨L.ab,0,none⟩),.pointer (some ⟨L.tb,0,none⟩),L.vo,L.vc,L.vq,L.vs,L.vm,.slice L.rA T L.rc,.slice (some ⟨L.bb,0,none⟩) T T]
def stkV(S:Nat→Nat)(T:Nat):List Value:=(List.range T).map fun i=>.pointer (some ⟨S i,0,none⟩)
theorem stkV_at(S:Nat→Nat){T i:Nat}(h:i<T):(stkV S T)[i]?=some (.pointer (some ⟨S i,0,none⟩)):=by simp [stkV,h]
def bufV(T:Nat)(x y:Nat→Int):Array Value:=(rows2 (fun i=>.int .i64 (x i)) (fun i=>.int .i64 (y i)) T).toArray
structure Hr(w:World)(L:HL)(h:HS)(s k:Nat):Prop where
 st:Blk w L.hb 50 (L.cells h.g h.T)
 ar:∃c,Ar w L.ab L.aw h.n h.f c
 rg:Rg w L.tb L.sb L.pb L.mb h.W h.R h.s h.t L.m
 row:Lr w 88 L.rA h.T L.rc L.rG (stkV L.S h.T)
 stk:∀i,i<h.T→∃F,HkP w (L.S i) F L.B (h.st i)
 buf:Blk w L.bb 214 (bufV h.T h.bx h.be)
 ok:h.Ok s k
 tab:Tab w
section
variable {w w':World}{L:HL}{h:HS}{s k:Nat}{F:List Nat}
theorem HkP.ab{l:List Int}{s k:Nat}(H:HkP w s F k l){b:Nat}{cs:Array Value}(hb:Blk w b 120 cs):∀g,g∈F→g∉[b]:=by
 obtain⟨A,c,G,H,rfl⟩:=H
 intro g hg hx
 simp only [List.mem_singleton]at hx
 subst hx
 rcases List.mem_cons.1 hg with rfl | hg
 ·exact H.st.apart hb (by decide) rfl
 ·exact H.row.apart hb (by decide) hg
theorem Tab.ab(hT:Tab w){b:Nat}{t:TypeId}{A:Option Addr}{n c:Nat}{cs:Array Value}(hb:Blk w b t cs)(h0:cs[0]?=some (.slice A n c)):0∉[b]:=by
 intro hx
 have hx:=List.mem_singleton.1 hx
 have h1:=hT 0 (by decide)
 have h2:=hb.cell 0
 rw [← hx]at h2
 rw [h2,h0]at h1
 cases h1
theorem Hr.fr1(H:Hr w L h s k)(hf:Fr [L.ab] w w')(ha:∃c,Ar w' L.ab L.aw h.n h.f c):Hr w' L h s k:=by
 obtain⟨c,hc⟩:=H.ar
 have ne:∀ {b:Nat} {t:TypeId} {cs:Array Value},Blk w b t cs→t≠120→b∉[L.ab]:=fun hb ht hx=>by
  simp only [List.mem_singleton]at hx
  exact hb.apart hc.set ht hx
 refine⟨H.st.fr hf (ne H.st (by decide)),ha,H.rg.fr hf (ne H.rg.set (by decide)) (ne H.rg.st (by decide)) (ne H.rg.tops (by decide)) (ne H.rg.tams (by decide)),H.row.fr hf (fun g hg hx=>?_),fun i hi=>?_,H.buf.fr hf (ne H.buf (by decide)),H.ok,H.tab.fr hf (H.tab.ab hc.set rfl)⟩
 ·simp only [List.mem_singleton]at hx
  subst hx
  exact H.row.apart hc.set (by decide) hg
 ·obtain⟨F,h1⟩:=H.stk i hi
  exact⟨F,h1.fr hf (h1.ab hc.set)⟩
theorem Hr.fr0(H:Hr w L h s k)(hf:Fr [] w w'):Hr w' L h s k:=by
 obtain⟨c,hc⟩:=H.ar
 exact H.fr1 (hf.mono (fun x hx=>by cases hx)) ⟨c,hc.fr hf (by simp) (by simp)⟩
theorem Hr.geo(H:Hr w L h s k):w.cell? ⟨L.hb,14,none⟩=some (.int .i64 h.g.words)∧w.cell? ⟨L.hb,15,none⟩=some (.int .i64 h.g.rw)∧w.cell? ⟨L.hb,16,none⟩=some (.int .i64 h.g.cw)∧w.cell? ⟨L.hb,17,none⟩=some (.int .i64 h.g.regions)∧w.cell? ⟨L.hb,18,none⟩=some (.int .i64 h.g.cards)∧w.cell? ⟨L.hb,19,none⟩=some (.int .i64 h.g.max):=
 ⟨H.st.cell 14,H.st.cell 15,H.st.cell 16,H.st.cell 17,H.st.cell 18,H.st.cell 19⟩
theorem Hr.cA(H:Hr w L h s k):w.cell? ⟨L.hb,20,none⟩=some (.pointer (some ⟨L.ab,0,none⟩)):=H.st.cell 20
theorem Hr.cT(H:Hr w L h s k):w.cell? ⟨L.hb,21,none⟩=some (.pointer (some ⟨L.tb,0,none⟩)):=H.st.cell 21
theorem Hr.cR(H:Hr w L h s k):w.cell? ⟨L.hb,27,none⟩=some (.slice L.rA h.T L.rc):=H.st.cell 27
theorem Hr.cB(H:Hr w L h s k):w.cell? ⟨L.hb,28,none⟩=some (.slice (some ⟨L.bb,0,none⟩) h.T h.T):=H.st.cell 28
end
theorem Blk.fives{w:World}{g:Nat}{t:TypeId}{a b c d e:Value}(h:Blk w g t #[a,b,c,d,e])(u0 u1 u2 u3 u4:Value) :
  Blk (((((w.setCell ⟨g,0,none⟩ u0).setCell ⟨g,1,none⟩ u1).setCell ⟨g,2,none⟩ u2).setCell ⟨g,3,none⟩ u3).setCell ⟨g,4,none⟩ u4) g t #[u0,u1,u2,u3,u4]:=by
 have:=((((h.put 0 u0).put 1 u1).put 2 u2).put 3 u3).put 4 u4
 simpa using this
def HrP(w:World)(L:HL)(h:HS)(s k:Nat)(v:Value)(e:Ending)(w':World):Prop:=e=.returned v∧Hr w' L h s k∧Fr [L.ab] w w'
theorem reference_any{i:Nat}(hi:i≤4194304)(w:World):Calls Tryz.prog 115 #[.int .i64 (i:Int)] w fun e w'=>e=.returned (.int .u64 ((i:Int)+1))∧w=w':=by
 have e1:IntKind.u64.wrap (i:Int)=(i:Int):=IntWalk.u64_in _ ⟨by omega,by omega⟩
 have e2:IntKind.u64.wrap ((i:Int)+1)=(i:Int)+1:=IntWalk.u64_in _ ⟨by omega,by omega⟩
 go_enter Tryz.func115,Tryz.ntmps115
 go_wp2
 go_ret
 exact⟨rfl,rfl⟩
theorem address_any{r:Int}(h0:1≤r)(h1:r≤9223372036854775807)(w:World):Calls Tryz.prog 121 #[.int .u64 r] w fun e w'=>e=.returned (.int .i64 (r-1))∧w=w':=by
 have e1:IntKind.u64.wrap (r-1)=r-1:=IntWalk.u64_in _ ⟨by omega,by omega⟩
 have e2:IntKind.i64.wrap (r-1)=r-1:=IntWalk.i64_in _ ⟨by omega,by omega⟩
 go_enter Tryz.func121,Tryz.ntmps121
 go_wp2
 go_ret
 exact⟨rfl,rfl⟩
section
variable {w:World}{L:HL}{h:HS}{s k:Nat}
theorem hword_at(H:Hr w L h s k){i:Nat}(hi:i<h.n):Calls Tryz.prog 122 #[.pointer (some ⟨L.hb,0,none⟩),.int .i64 (i:Int)] w (HrP w L h s k (.int .u64 (h.f i:Int))):=by
 have HH:=hide H
 obtain⟨c,hc⟩:=H.ar
 have c0:=H.cA
 have HL:=hide (load_at hc rfl hi rfl)
 clear H hc
 generalize h.f i=x at *
 go_enter Tryz.func122,Tryz.ntmps122
 go_wp2_with fail
 refine HL.out.mono ?_
 rintro e w1 ⟨rfl,ha,hf⟩
 have HA:=hide ha
 have HF:=hide hf
 clear ha hf
 go_wp2_with fail
 go_ret
 exact⟨rfl,HH.out.fr1 HF.out ⟨_,HA.out⟩,HF.out⟩
set_option maxHeartbeats 3200000 in
theorem hobject_any(H:Hr w L h s k){r:Int}(h0:0≤r)(h1:r≤9223372036854775807):Calls Tryz.prog 114 #[.pointer (some ⟨L.hb,0,none⟩),.int .u64 r] w (HrP w L h s k (.tuple #[(h.objV r).val,.int .i64 (h.objE r)])):=by
 have HH:=hide H
 by_cases hr:r=0
 ·subst hr
  have e1:h.objE 0=12:=by unfold HS.objE;rw [if_pos rfl]
  have e2:h.objV 0=Hd.zero:=by unfold HS.objV;rw [if_neg (by rw [e1];decide)]
  rw [e1,e2]
  clear H e1 e2
  go_enter Tryz.func114,Tryz.ntmps114
  go_wp2_with fail
  refine bodyPost_ret (v:=.tuple #[.agg #[.int .i64 0,.int .i64 0,.int .i64 0,.int .i64 0,.int .i64 0],.int .i64 12]) (by simp [results,Tryz.results114,go_sem, *]) rfl ⟨rfl,HH.out.fr0 ((Fr.refl _ _).alloc _),(Fr.refl _ _).alloc _⟩
 ·obtain⟨c,hc⟩:=H.ar
  have c0:=H.cA
  have HX:=hide (fun w'=>address_any (r:=r) (by omega) h1 w')
  have HQ:Hid (L.ab<w.heap.size∧L.aw<w.heap.size∧L.hb<w.heap.size):=⟨hc.set.lt,hc.row.lt,H.st.lt⟩
  have HT:Hid (∀w',Fr [] w w'→Calls Tryz.prog 146 #[.pointer (some ⟨L.ab,0,none⟩),.int .i64 (r-1)] w' (AtPost w' L.ab L.aw h.n h.f (r-1))):=fun w' hf=>pat_any (hc.fr hf (by simp) (by simp)) (r-1)
  have N0:L.hb<w.heap.size:=H.st.lt
  unfold AtPost at HT
  have hr':(r==0)=false:=by simpa using hr
  have hway:(atE h.n h.f (r-1)≠0∧h.objE r=atE h.n h.f (r-1)∧h.objV r=Hd.zero)∨(atE h.n h.f (r-1)=0∧(atH h.n h.f (r-1)).kind≠1∧h.objE r=30∧h.objV r=Hd.zero)∨(atE h.n h.f (r-1)=0∧(atH h.n h.f (r-1)).kind=1∧h.objE r=0∧h.objV r=atH h.n h.f (r-1)):=by
   unfold HS.objV HS.objE
   rw [if_neg hr]
   by_cases e1:atE h.n h.f (r-1)=0
   ·by_cases e2:(atH h.n h.f (r-1)).kind=1
    ·exact .inr (.inr ⟨e1,e2,by simp [e1,e2],by simp [e1,e2]⟩)
    ·exact .inr (.inl ⟨e1,e2,by simp [e1,e2],by simp [e1,e2]⟩)
   ·exact .inl ⟨e1,by simp [e1],by simp [e1]⟩
  clear H hc
  generalize atH h.n h.f (r-1)=g at *
  generalize atE h.n h.f (r-1)=E at *
  generalize h.objV r=V at *
  generalize h.objE r=U at *
  obtain⟨K,sz,p,q,t⟩:=g
  obtain⟨z,hz⟩:∃z:Obj,z=.cells #[.int .i64 0,.int .i64 0,.int .i64 0,.int .i64 0,.int .i64 0] 157:=⟨_,rfl⟩
  have HT1:=hide (HT.out (w.alloc (.cells #[.int .i64 0,.int .i64 0,.int .i64 0,.int .i64 0,.int .i64 0] 157)).drew ((Fr.refl _ _).alloc _).drew)
  have HT2:=hide (HT.out ((w.alloc (.cells #[.int .i64 0,.int .i64 0,.int .i64 0,.int .i64 0,.int .i64 0] 157)).alloc (.cells #[.int .i64 0,.int .i64 0,.int .i64 0,.int .i64 0,.int .i64 0] 157)).drew (((Fr.refl _ _).alloc _).alloc _).drew)
  unfold Hd.val at HT1 HT2
  simp only at hway HT1 HT2
  have HB1:Hid (∀w',Fr [L.ab] (w.alloc (.cells #[.int .i64 0,.int .i64 0,.int .i64 0,.int .i64 0,.int .i64 0] 157)).drew w'→Blk w' w.heap.size 157 Hd.zero.cells):=fun w' hf=>(Blk.drew (Blk.new w 157 Hd.zero.cells)).fr hf (by have:=HQ.out.1;simp;omega)
  have HB2:Hid (∀w',Fr [L.ab] ((w.alloc (.cells #[.int .i64 0,.int .i64 0,.int .i64 0,.int .i64 0,.int .i64 0] 157)).alloc (.cells #[.int .i64 0,.int .i64 0,.int .i64 0,.int .i64 0,.int .i64 0] 157)).drew w'→Blk w' w.heap.size 157 Hd.zero.cells∧Blk w' (w.heap.size+1) 157 Hd.zero.cells):=fun w' hf=>
   ⟨(Blk.drew ((Blk.new w 157 Hd.zero.cells).alloc _)).fr hf (by have:=HQ.out.1;simp;omega),(Blk.drew (Blk.new_at (w:=w.alloc (.cells #[.int .i64 0,.int .i64 0,.int .i64 0,.int .i64 0,.int .i64 0] 157)) 157 Hd.zero.cells (by simp))).fr hf (by have:=HQ.out.1;simp;omega)⟩
  clear hz
  go_enter Tryz.func114,Tryz.ntmps114
  go_wp2_with fail
  go_cut [6,7] from 14 to 33 (fun x y wc=>∃xb,x=.pointer (some ⟨xb,0,none⟩)∧y=.int .i64 E∧Blk wc xb 157 #[.int .i64 K,.int .i64 sz,.int .i64 p,.int .i64 q,.int .i64 t]∧Blk wc w.heap.size 157 Hd.zero.cells∧Hr wc L h s k∧Fr [L.ab] w wc)
  case first=>
   go_region_with (first | (go_at_call 121;refine(HX.out _).mono ?_;rintro e w' ⟨rfl,rfl⟩) | (go_at_call 146;first | ((with_reducible refine Calls.mono HT1.out ?_);rintro e w1 ⟨c1,rfl,ha,hf⟩;have HA:=hide ha;have HFa:=hide hf;clear ha hf) | ((with_reducible refine Calls.mono HT2.out ?_);rintro e w1 ⟨c1,rfl,ha,hf⟩;have HA:=hide ha;have HFb:=hide hf;obtain⟨⟨z0,z1,z2,z3,z4⟩,f0,f1,f2,f3,f4⟩:=Hd.zero_cells (HB2.out _ hf).2;have N2:=(HB2.out _ hf).2.lt;clear ha hf)))
   all_goals
    go_wp2_with fail
    go_meet
   all_goals first | (have _x:=HFa;exact⟨_,rfl,rfl,Blk.new _ _ _,(HB1.out _ HFa.out).alloc _,HH.out.fr1 ((((Fr.refl [L.ab] w).alloc _).drew.trans_same HFa.out).alloc _) ⟨_,HA.out.fr ((Fr.refl [] _).alloc _) (by simp) (by simp)⟩,(((Fr.refl [L.ab] w).alloc _).drew.trans_same HFa.out).alloc _⟩) | (exact⟨_,rfl,rfl,Blk.fives (HB2.out _ HFb.out).2 _ _ _ _ _,(HB2.out _ HFb.out).1.fr (F:=[w.heap.size+1]) ((Fr.refl _ _).five (.inl (by simp)) _ _ _ _ _) (by simp),HH.out.fr1 (((((Fr.refl [L.ab] w).alloc _).alloc _).drew.trans_same HFb.out).five (.inr (by omega)) _ _ _ _ _) ⟨_,HA.out.fr (F:=[w.heap.size+1]) ((Fr.refl _ _).five (.inl (by simp)) _ _ _ _ _) (by have:=HQ.out.1;simp;omega) (by have:=HQ.out.2.1;simp;omega)⟩,((((Fr.refl [L.ab] w).alloc _).alloc _).drew.trans_same HFb.out).five (.inr (by omega)) _ _ _ _ _⟩)
  case rest=>
   obtain⟨xb,rfl,rfl,hx,hz,hH,hF⟩:=hcut
   have x0:wc.cell? ⟨xb,0,none⟩=some (.int .i64 K):=hx.cell 0
   have x1:wc.cell? ⟨xb,1,none⟩=some (.int .i64 sz):=hx.cell 1
   have x2:wc.cell? ⟨xb,2,none⟩=some (.int .i64 p):=hx.cell 2
   have x3:wc.cell? ⟨xb,3,none⟩=some (.int .i64 q):=hx.cell 3
   have x4:wc.cell? ⟨xb,4,none⟩=some (.int .i64 t):=hx.cell 4
   obtain⟨⟨z0,z1,z2,z3,z4⟩,f0,f1,f2,f3,f4⟩:=Hd.zero_cells hz
   have N2:=hz.lt
   have HH2:=hide hH
   have HF2:=hide hF
   have HN2:Hid (∀v0 v1 v2 v3 v4,Hr (((((wc.setCell ⟨w.heap.size,0,none⟩ v0).setCell ⟨w.heap.size,1,none⟩ v1).setCell ⟨w.heap.size,2,none⟩ v2).setCell ⟨w.heap.size,3,none⟩ v3).setCell ⟨w.heap.size,4,none⟩ v4) L h s k∧Fr [L.ab] w (((((wc.setCell ⟨w.heap.size,0,none⟩ v0).setCell ⟨w.heap.size,1,none⟩ v1).setCell ⟨w.heap.size,2,none⟩ v2).setCell ⟨w.heap.size,3,none⟩ v3).setCell ⟨w.heap.size,4,none⟩ v4)):=fun v0 v1 v2 v3 v4=>by
    obtain⟨c9,hc9⟩:=hH.ar
    have hf:=hF.five (.inr (Nat.le_refl _)) v0 v1 v2 v3 v4
    exact⟨HH.out.fr1 hf ⟨c9,hc9.fr (F:=[w.heap.size]) ((Fr.refl _ _).five (.inl (by simp)) _ _ _ _ _) (by have:=HQ.out.1;simp;omega) (by have:=HQ.out.2.1;simp;omega)⟩,hf⟩
   clear hx hz hH hF HB1 HB2 HT1 HT2 HT
   rcases hway with⟨h3,rfl,rfl⟩ | ⟨rfl,h3,rfl,rfl⟩ | ⟨rfl,rfl,rfl,rfl⟩
   ·have h3':(U !=0)=true:=by simpa using h3
    go_wp2_with fail
    refine bodyPost_ret (v:=.tuple #[.agg #[.int .i64 0,.int .i64 0,.int .i64 0,.int .i64 0,.int .i64 0],.int .i64 U]) (by simp [results,Tryz.results114,go_sem, *]) rfl ⟨rfl,HN2.out _ _ _ _ _⟩
   ·have h3':(K !=1)=true:=by simpa using h3
    go_wp2_with fail
    refine bodyPost_ret (v:=.tuple #[.agg #[.int .i64 0,.int .i64 0,.int .i64 0,.int .i64 0,.int .i64 0],.int .i64 30]) (by simp [results,Tryz.results114,go_sem, *]) rfl ⟨rfl,HN2.out _ _ _ _ _⟩
   ·go_wp2_with fail
    refine bodyPost_ret (v:=.tuple #[.agg #[.int .i64 1,.int .i64 sz,.int .i64 p,.int .i64 q,.int .i64 t],.int .i64 0]) (by simp [results,Tryz.results114,go_sem, *]) rfl ⟨rfl,HN2.out _ _ _ _ _⟩
end
theorem r2in_any(n lo hi:Int)(w:World):Calls Tryz.prog 124 #[.int .i64 n,.int .i64 lo,.int .i64 hi] w fun e w'=>e=.returned (.bool (wiB n lo hi))∧w=w':=by
 go_enter Tryz.func124,Tryz.ntmps124
 go_wp2
 all_goals
  go_ret
  exact⟨ret_bool (by unfold wiB;first | (simp [*];done) | (simp;omega)),rfl⟩
theorem r2power_any(n:Int)(hn:n≤62)(w:World):Calls Tryz.prog 70 #[.int .i64 n] w fun e w'=>e=.returned (.int .i64 (pw n))∧w=w':=by
 go_enter Tryz.func70,Tryz.ntmps70
 go_wp2
 go_loop [3,4] (fun p i=>∃k:Nat,(k:Int)≤max n 0∧i=.int .i64 k∧p=.int .i64 (pw k)) (fun _ i=>(n-intOf i).toNat)
 case atStart=>exact⟨0,by omega,rfl,rfl⟩
 case round=>
  obtain⟨k,hk,rfl,rfl⟩:=hrel
  by_cases hlt:(k:Int)<n
  ·have HB:=hide (pw_bound (n:=k+1) (m:=62) (by omega) (by omega))
   have HS:=hide (pw_succ (a:=(k:Int)) (by omega))
   have HP:=hide (pw_pos k)
   go_wp2
   go_round
   case rel=>exact⟨k+1,by omega,by go_num,by
    rw [show((k+1:Nat):Int)=(k:Int)+1 from rfl,HS.out]
    have:=HB.out;rw [HS.out]at this
    have:=HP.out
    congr 1
    exact IntWalk.wrap64_in _ ⟨by omega,by omega⟩⟩
   case measure=>simp [intOf];omega
  ·go_wp2
   go_ret
   refine⟨ret_int ?_,rfl⟩
   unfold pw
   congr 2
   omega
theorem r2big_any(g:Geo)(n:Int)(w:World)(h0:0≤g.rw)(h1:g.rw≤4194304):Calls Tryz.prog 30 #[g.val,.int .i64 n] w fun e w'=>e=.returned (.bool (g.bigB n))∧Fr [] w w':=by
 unfold Geo.val Geo.bigB
 go_enter Tryz.func30,Tryz.ntmps30
 go_wp2
 go_ret
 exact⟨rfl,(Fr.refl _ _).alloc _⟩
end Go.Proofs.YteacgfeiedcdiaaGreatDoor
