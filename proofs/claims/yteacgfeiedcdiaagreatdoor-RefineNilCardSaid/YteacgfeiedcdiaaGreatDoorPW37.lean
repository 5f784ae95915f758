/- Several texts joined (pack.py): Vx To Tp Tv RfW Vy Vya Vyb Vyc. -/
import Derived.Test.YteacgfeiedcdiaaGreatDoorPW25
import Derived.Test.YteacgfeiedcdiaaGreatDoorPW30
import Derived.Test.YteacgfeiedcdiaaGreatDoorPW20
import Derived.Test.YteacgfeiedcdiaaGreatDoorPW26
import Derived.Test.YteacgfeiedcdiaaGreatDoorPW36
import Derived.Test.YteacgfeiedcdiaaGreatDoorPW31
namespace Go.Proofs.YteacgfeiedcdiaaGreatDoor
set_option linter.unusedVariables false
set_option linter.unusedSimpArgs false
set_option maxRecDepth 100000
open Go.RowKit Go.Gl
namespace HS
variable (h:HS)
noncomputable def spanAt (r:Nat):Int:=h.g.spanOf (h.objV (((r*h.W:Nat):Int)+1)).size
noncomputable def takStep (t:Int→Bool) (r:Nat):Int→Bool:=if (List.range (h.spanAt r).toNat).any (fun i=>t ((r:Int)+(i:Int))) then fun x=>decide (x=(r:Int))||t x else t
def tak0(l:List Int):Int→Bool:=fun x=>decide (0≤x∧x<(h.R:Int))&&decide (x∈l)
noncomputable def takF (l:List Int):Int→Bool:=(those h.s 4 h.R).foldl h.takStep (h.tak0 l)
def homeAt(a:Int):Int:=h.g.regionOf (adr (h.f a.toNat:Int))
noncomputable def lostAt (σ:RS) (per:Nat) (t:Int→Bool) (a:Int):List Int:=(fieldsL h.n h.f a).filter fun x=>t (h.homeAt x)&&!hasI σ per h.R (h.homeAt x) (h.g.cardOf x)
noncomputable def lostK (σ:RS) (per:Nat) (t:Int→Bool) (r:Nat):List Int:=if t (r:Int)||!(decide (h.s r=3)||decide (h.s r=4)) then [] else (h.rowL (r:Int)).flatMap (h.lostAt σ per t)
open Classical in
noncomputable def lostL (σ:RS) (per:Nat) (l:List Int):List Int:=if h.Sound then (List.range h.R).flatMap (h.lostK σ per (h.takF l)) else []
theorem takF_none{l:List Int}(hn:∀r,r<h.R→h.s r≠4):h.takF l=h.tak0 l:=by
 have e:those h.s 4 h.R=[]:=by
  unfold those
  rw [List.filter_eq_nil_iff]
  intro r hr
  simpa using hn r (by simpa using hr)
 unfold takF
 rw [e];rfl
end HS
def TakAt(w:World)(mb:Nat)(t:Int→Bool):Prop:=
 ∃f,Mp Tryz.prog 3 w mb f∧(∀x v,f x=some v→v=.agg #[])∧∀r:Int,(Lit.int .i64 r).wf=true→(f (.int .i64 r)).isSome=t r
theorem TakAt.fr{w w':World}{mb:Nat}{t:Int→Bool}{F:List Nat}(h:TakAt w mb t)(hf:Fr F w w')(hb:mb∉F):TakAt w' mb t:=by
 obtain⟨f,h1,h2⟩:=h
 exact⟨f,h1.fr hf hb,h2⟩
theorem TakAt.lt{w:World}{mb:Nat}{t:Int→Bool}(h:TakAt w mb t):mb<w.heap.size:=by
 obtain⟨f,h1,h2⟩:=h
 exact h1.lt
theorem TakAt.new(w:World){b:Nat}(hb:w.heap.size=b):TakAt (w.alloc (.map #[] 0)) b (fun _=>false):=by
 subst hb
 exact⟨_,Mp.made w,fun x v e=>(by cases e),fun r _=>rfl⟩
theorem TakAt.look{w:World}{mb:Nat}{t:Int→Bool}(h:TakAt w mb t){r:Int}(hw:(Lit.int .i64 r).wf=true) :
  (Instr.lookup 97 (.map (some mb)) (.int .i64 r) true).run Tryz.prog w=.ok (.tuple #[.agg #[],.bool (t r)]) w:=by
 obtain⟨f,k1,k2,k3⟩:=h
 rw [k1.look2 Tryz.intLawG Tryz.underlying97 (zeroUnit w) (intKeyG r hw),k3 r hw]
 have:(f (.int .i64 r)).getD (.agg #[])=.agg #[]:=by
  cases hf:f (.int .i64 r)with
  | none=>rfl
  | some v=>exact k2 _ _ hf
 rw [this]
theorem TakAt.add{w':World}{mb:Nat}{t:Int→Bool}{f:Value→Option Value}(h2:∀x v,f x=some v→v=.agg #[])(h3:∀r:Int,(Lit.int .i64 r).wf=true→(f (.int .i64 r)).isSome=t r){a:Int}
  (hm:Mp Tryz.prog 3 w' mb (upF f (.int .i64 a) (.agg #[]))):TakAt w' mb (fun x=>decide (x=a)||t x):=by
 refine⟨_,hm,fun x v hx=>?_,fun r hr=>?_⟩
 ·by_cases e:x=.int .i64 a
  ·subst e
   rw [upF_at]at hx
   exact(Option.some.inj hx).symm
  ·rw [upF_ne _ _ e]at hx
   exact h2 x v hx
 ·by_cases e:r=a
  ·subst e
   rw [upF_at]
   simp
  ·rw [upF_ne _ _ (fun e1=>e (by injection e1)),h3 r hr]
   simp [e]
set_option linter.unusedVariables false
set_option linter.unusedSimpArgs false
set_option maxRecDepth 100000
open Go.RowKit Go.Gl HS
theorem getD_mem0{l:List Int}{j:Nat}(h:j<l.length):l.getD j 0∈l:=by
 rw [List.getD_eq_getElem?_getD,List.getElem?_eq_getElem h]
 exact List.getElem_mem h
theorem Laid.sound0{p:Pl}{A:Nat→Nat}{L:HL}{h:HS}{s k:Nat}(l:Laid p A L h)(ok:h.Ok s k)(hr:p.Right):h.Sound:=by
 rw [l.lay.sound ok]
 refine⟨fun i hi j hj=>?_,fun t ht r hm=>?_⟩
 ·have:=(hr.t i hi).rf _ (getD_mem0 hj)
  exact leads_lnk this.1 this.2
 ·rw [l.st t ht]at hm
  split at hm
  ·rename_i hm2
   obtain⟨q,q1,q2⟩:=List.mem_map.1 hm
   have:=hr.hr t hm2 q q1
   have h3:=leads_lnk (A:=A) this.1 this.2
   rw [← q2]
   simpa using h3
  ·cases hm
structure Pl16(p:Pl):Prop where
 n:p.n=2
 m:p.m=0
 s0:(p.T 0).st=3
 r0:(p.T 0).rf=[2]
 d0:(p.T 0).dt.length=1
 s1:(p.T 1).st=1
 r1:(p.T 1).rf=[]
 d1:(p.T 1).dt.length=1
structure At16(p:Pl)(A:Nat→Nat)(L:HL)(h:HS)(s k:Nat):Prop where
 l:Laid p A L h
 ok:h.Ok s k
 hr:p.Right
 R:h.R=4
 W:h.W=64
 cw:h.g.cw=8
 st:h.s 0=3∧h.s 1=1∧h.s 2=0∧h.s 3=0
 tp:h.t 0=3∧h.t 1=66∧h.t 2=128∧h.t 3=192
 A0:A 0=0
 A1:A 1=64
section
variable {p:Pl}{A:Nat→Nat}{L:HL}{h:HS}{s k:Nat}
theorem At16.n(a:At16 p A L h s k):h.n=256:=by have:=a.ok.nn;rw [a.R,a.W]at this;exact this
theorem At16.f1(a:At16 p A L h s k)(q:Pl16 p):h.f 1=65:=by
 have:=a.l.lay.ref 0 (by rw [q.n];decide) 0 (by rw [q.r0];decide)
 rw [a.A0,q.r0]at this
 rw [show 0+1+0=1 from rfl]at this
 rw [this]
 show lnk A 2=65
 unfold lnk
 rw [if_neg (by decide),show(2:Int).toNat-1=1 from rfl,a.A1]
theorem At16.obj0(a:At16 p A L h s k)(q:Pl16 p):ObjAt h 0 3 1:=by
 have:=a.l.lay.objAt (i:=0) (by rw [q.n];decide)
 rw [a.A0,q.r0]at this
 have e:(p.T 0).sz=3:=by unfold PT.sz;rw [q.r0,q.d0];rfl
 rw [e]at this
 exact this
theorem At16.row0(a:At16 p A L h s k)(q:Pl16 p):h.rowL 0=[0]:=by
 have:=(a.l.lay.rows a.ok (r:=0) (by rw [a.R];decide)).1
 rw [show(((0:Nat):Int))=0 from rfl]at this
 rw [this,q.n,a.W]
 have e:rowsOf A 64 2 0=[0]:=by
  show(List.range 2).filter _=[0]
  rw [show List.range 2=[0,1] from rfl]
  simp [a.A0,a.A1]
 rw [e]
 simp [a.A0]
theorem At16.reg(a:At16 p A L h s k)(u:Nat)(hu:u<256):h.g.regionOf (u:Int)=((u / 64:Nat):Int):=by
 unfold Geo.regionOf
 rw [if_pos ⟨by omega,by rw [a.ok.wd,a.n];omega⟩,a.ok.rw,a.W,← Int.natCast_ediv]
theorem At16.card(a:At16 p A L h s k)(u:Nat)(hu:u<256):h.g.cardOf (u:Int)=((u / 8:Nat):Int):=by
 unfold Geo.cardOf
 rw [if_pos ⟨by omega,by rw [a.ok.wd,a.n];omega⟩,a.cw,show(8:Int)=((8:Nat):Int) from rfl,← Int.natCast_ediv]
theorem At16.home1(a:At16 p A L h s k)(q:Pl16 p):h.homeAt 1=1:=by
 unfold HS.homeAt
 rw [show(1:Int).toNat=1 from rfl,a.f1 q,show adr ((65:Nat):Int)=((64:Nat):Int) from by decide,a.reg 64 (by decide)]
 rfl
theorem At16.lost(a:At16 p A L h s k)(q:Pl16 p)(σ:RS)(per:Nat):h.lostL σ per [1]=if hasI σ per 4 1 0=true then [] else [1]:=by
 unfold HS.lostL
 rw [if_pos (a.l.sound0 a.ok a.hr),HS.takF_none h (fun r hr=>by
  rw [a.R]at hr
  obtain⟨s0,s1,s2,s3⟩:=a.st
  have:r=0∨r=1∨r=2∨r=3:=by omega
  rcases this with rfl | rfl | rfl | rfl <;> omega)]
 rw [a.R,show List.range 4=[0,1,2,3] from rfl]
 have t:∀x:Int,h.tak0 [1] x=decide (x=1):=fun x=>by
  unfold HS.tak0
  rw [a.R]
  by_cases e:x=1
  ·subst e;decide
  ·simp [e]
 have k1:h.lostK σ per (h.tak0 [1]) 1=[]:=by unfold HS.lostK;rw [t];simp
 have k2:h.lostK σ per (h.tak0 [1]) 2=[]:=by unfold HS.lostK;rw [a.st.2.2.1];simp
 have k3:h.lostK σ per (h.tak0 [1]) 3=[]:=by unfold HS.lostK;rw [a.st.2.2.2];simp
 have k0:h.lostK σ per (h.tak0 [1]) 0=if hasI σ per 4 1 0=true then [] else [1]:=by
  unfold HS.lostK
  rw [t,a.st.1,if_neg (by decide),show(((0:Nat):Int))=0 from rfl,a.row0 q]
  rw [List.flatMap_cons,List.flatMap_nil,List.append_nil]
  unfold HS.lostAt
  have hf:=(a.obj0 q).fields.1
  rw [show(((0:Nat):Int))=0 from rfl]at hf
  rw [hf,show Go.Gl.refs 0 1=[1] from rfl]
  have hc:=a.card 1 (by decide)
  rw [show(((1:Nat):Int))=1 from rfl,show(((1 / 8:Nat):Int))=0 from rfl]at hc
  simp only [List.filter_cons,List.filter_nil]
  rw [a.home1 q,hc,t,a.R]
  cases hasI σ per 4 1 0 <;> simp
 simp only [List.flatMap_cons,List.flatMap_nil]
 rw [k0,k1,k2,k3]
 simp
end
section
variable {p:Pl}{A:Nat→Nat}{L:HL}{h:HS}{s k:Nat}{O:Nat→Int}
theorem At16.beg0(a:At16 p A L h s k)(hO:O 0=1):h.begP O 8 0=⟨0,8,0,0,0,3,false⟩:=by
 have e:h.endOf 0=3:=by
  unfold HS.endOf
  rw [a.l.lay.left]
  simp [a.tp.1]
 have hr:=a.reg 0 (by decide)
 have hr:h.g.regionOf 0=0:=hr
 unfold HS.begP HS.firstH
 rw [show 0*8 / h.W=0 by simp,a.st.1,if_pos rfl,e,if_pos (by decide),hO,show(1:Int)-1=0 from rfl,if_pos ⟨by decide,by rw [hr];rfl⟩]
 rfl
theorem At16.hd0(a:At16 p A L h s k)(q:Pl16 p):atE h.n h.f 0=0∧(atH h.n h.f 0).kind=1∧(atH h.n h.f 0).size=3∧(atH h.n h.f 0).ptrs=1:=by
 have o:=a.obj0 q
 exact⟨o.e,o.kind,o.size,o.ptrs⟩
theorem At16.ent0(a:At16 p A L h s k)(q:Pl16 p):h.entE ⟨0,8,0,0,0,3,false⟩=0∧h.entS ⟨0,8,0,0,0,3,false⟩=⟨0,8,1,2,3,3,false⟩:=by
 obtain⟨h1,h2,h3,h4⟩:=a.hd0 q
 refine⟨?_,?_⟩
 ·unfold HS.entE
  rw [if_pos ⟨h1,.inl h2⟩]
 ·unfold HS.entS
  show(⟨0,8,max ((0:Int)+1) 0,min ((0:Int)+1+(atH h.n h.f 0).ptrs) 8,(0:Int)+(atH h.n h.f 0).size,3,false⟩:Pla)=_
  rw [h3,h4]
  rfl
theorem At16.ask0(a:At16 p A L h s k)(q:Pl16 p):∀n,h.askE (n+2) ⟨0,8,0,0,0,3,false⟩=0:=fun n=>by
 obtain⟨h1,h2⟩:=a.ent0 q
 unfold HS.askE
 rw [if_pos (by decide),if_pos h1,h2]
 unfold HS.askE
 rw [if_neg (by decide)]
theorem At16.ends0(a:At16 p A L h s k)(q:Pl16 p)(per:Nat)(σ:RS):h.Ends per (⟨0,8,0,0,0,3,false⟩,σ) (addR σ per 4 1 0).2.2:=by
 obtain⟨h1,h2⟩:=a.ent0 q
 have i1:h.itr per 1 (⟨0,8,0,0,0,3,false⟩,σ)=(⟨0,8,1,2,3,3,false⟩,σ):=by
  show h.stp per (⟨0,8,0,0,0,3,false⟩,σ)=_
  unfold HS.stp
  dsimp only
  rw [if_neg (by decide)]
  unfold HS.enter
  rw [if_pos h1,h2]
 have i2:h.itr per 2 (⟨0,8,0,0,0,3,false⟩,σ)=(⟨0,8,2,2,3,3,false⟩,(addR σ per 4 1 0).2.2):=by
  show h.stp per (h.itr per 1 (⟨0,8,0,0,0,3,false⟩,σ))=_
  rw [i1]
  unfold HS.stp
  dsimp only
  rw [if_pos (by decide)]
  have hn:=a.n
  have hw:h.wordAt 1=((65:Nat):Int):=by
   unfold HS.wordAt
   rw [if_pos ⟨by decide,by omega⟩,show(1:Int).toNat=1 from rfl,a.f1 q]
  have hr:=a.reg 64 (by decide)
  have hc:=a.card 1 (by decide)
  rw [show(((1:Nat):Int))=1 from rfl,show(((1 / 8:Nat):Int))=0 from rfl]at hc
  have hx:h.g.crossB 1 ((64:Nat):Int)=true:=by
   unfold Geo.crossB
   rw [a.ok.wd,hn,a.ok.rw,a.W]
   decide
  show((⟨0,8,1+1,2,3,3,false⟩:Pla),h.remS per σ 1)=_
  unfold HS.remS
  rw [hw,show adr ((65:Nat):Int)=((64:Nat):Int) from by decide,if_pos hx,hr,hc,a.R]
  rfl
 refine⟨2,by rw [i2];rfl,fun j hj=>?_,by rw [i2]⟩
 have:j=0∨j=1:=by omega
 rcases this with rfl | rfl
 ·rfl
 ·rw [i1];rfl
end
def clrS(σ:RS)(m:Nat):RS:=⟨fun a b=>if a<m then 0 else σ.way a b,fun a x=>if a<m then false else σ.has a x⟩
theorem clrS_zero(σ:RS):clrS σ 0=σ:=RS.ext (fun a b=>by show(if a<0 then 0 else σ.way a b)=_;rw [if_neg (by omega)]) (fun a x=>by show(if a<0 then false else σ.has a x)=_;rw [if_neg (by omega)])
theorem clrS_succ(σ:RS)(m:Nat):(clrS σ m).clear m=clrS σ (m+1):=by
 refine RS.ext (fun a b=>?_) (fun a x=>?_)
 ·show(if a=m then 0 else if a<m then 0 else σ.way a b)=if a<m+1 then 0 else σ.way a b
  by_cases e:a=m
  ·rw [if_pos e,if_pos (by omega)]
  ·rw [if_neg e]
   by_cases e2:a<m
   ·rw [if_pos e2,if_pos (by omega)]
   ·rw [if_neg e2,if_neg (by omega)]
 ·show(if a=m then false else if a<m then false else σ.has a x)=if a<m+1 then false else σ.has a x
  by_cases e:a=m
  ·rw [if_pos e,if_pos (by omega)]
  ·rw [if_neg e]
   by_cases e2:a<m
   ·rw [if_pos e2,if_pos (by omega)]
   ·rw [if_neg e2,if_neg (by omega)]
theorem clrS_all{σ:RS}{per n:Nat}(ok:SOk per n σ)(c:Nat):clrS σ n=oneS per c fun _=>false:=by
 refine RS.ext (fun a b=>?_) (fun a x=>?_)
 ·show(if a<n then 0 else σ.way a b)=if b=c / per∧false=true then 1 else 0
  rw [if_neg (show ¬ (b=c / per∧false=true) from fun q=>by cases q.2)]
  by_cases e:a<n
  ·rw [if_pos e]
  ·rw [if_neg e]
   by_cases h0:σ.way a b=0
   ·exact h0
   ·exact absurd (ok.rng a b h0).1 e
 ·show(if a<n then false else σ.has a x)=(decide (x=c)&&false)
  rw [Bool.and_false]
  by_cases e:a<n
  ·rw [if_pos e]
  ·rw [if_neg e]
   cases h0:σ.has a x with
   | false=>rfl
   | true=>
    obtain⟨-,k2⟩:=ok.can a x h0
    exact absurd (ok.rng a (x / per) (by omega)).1 e
theorem oneS_list{per c n r:Nat}{H:Nat→Bool}(hc:c<n*per):allOf (oneS per c H) per n r=if H r=true then [(c:Int)] else []:=by
 unfold allOf
 by_cases e:H r=true
 ·rw [if_pos e,part_to (k:=c+1) (by omega) (fun j h1 h2=>oneS_none (by omega)),part_yes (by rw [oneS_cards hc];exact e),part_to (k:=0) (by omega) (fun j h1 h2=>oneS_none (by omega)),part_zero]
  rw [Nat.zero_mul,Nat.zero_add]
  rfl
 ·rw [if_neg e,part_to (k:=0) (by omega) (fun j h1 h2=>?_),part_zero]
  by_cases ej:j=c
  ·subst ej;rw [oneS_cards hc];simpa using e
  ·exact oneS_none ej
theorem had16{σ:RS}{per:Nat}(hp:1≤per):hasI (σ.clear 1) per 4 1 0=false∧hasI (addR (σ.clear 1) per 4 1 0).2.2 per 4 1 0=true:=by
 have h0:(0:Nat)<4*per:=by omega
 have e:=add_first (σ:=σ.clear 1) (per:=per) (n:=4) (h:=1) (c:=0) (by decide) h0 (by rw [Nat.zero_div];decide) (by unfold RS.clear;simp) (fun x _=>by unfold RS.clear;simp)
 rw [show((1:Nat):Int)=1 from rfl,show((0:Nat):Int)=0 from rfl]at e
 have i1:=hasI_at (σ.clear 1) per 4 1 0 h0
 have i2:=hasI_at ((σ.clear 1).put per 1 (0 / per) 1 (plus (σ.clear 1) 1 0)) per 4 1 0 h0
 rw [show((1:Nat):Int)=1 from rfl,show((0:Nat):Int)=0 from rfl]at i1 i2
 rw [e,i1]
 refine⟨?_,?_⟩
 ·unfold hasN RS.clear
  simp
 ·show hasI ((σ.clear 1).put per 1 (0 / per) 1 (plus (σ.clear 1) 1 0)) per 4 1 0=true
  rw [i2]
  unfold hasN
  rw [RS.has_at _ _ _ _ _ _ rfl]
  unfold plus
  simp
def cfg16:Cfg:=⟨6,4,3,1,4,0,0,1,0,0,0,0,0,0⟩
theorem may16:mayB cfg16=true:=by decide +kernel
def pl16:Pl:=⟨cfg16,2,fun i=>if i=0 then ⟨3,[2],[1]⟩ else ⟨1,[],[1]⟩,0,fun _=>[]⟩
theorem pl16_ok:Pl16 pl16:=⟨rfl,rfl,rfl,rfl,rfl,rfl,rfl,rfl⟩
theorem right16:pl16.Right where
 may:=may16
 wd:=by decide +kernel
 n:=by decide
 m:=by decide +kernel
 t:=fun i hi=>by
  have hi:i<2:=hi
  have:i=0∨i=1:=by omega
  rcases this with rfl | rfl
  ·exact⟨by decide,by decide +kernel,by decide +kernel,by decide,by decide,fun r hr=>by
    have hr:r∈[(2:Int)]:=hr
    simp at hr
    subst hr
    decide⟩
  ·exact⟨by decide,by decide +kernel,by decide +kernel,by decide,by decide,fun r hr=>by cases hr⟩
 hl:=fun i hi=>absurd hi (Nat.not_lt_zero _)
 hr:=fun i hi=>absurd hi (Nat.not_lt_zero _)
theorem two64:∀s:Nat,s≤20→2 ^ s=64→s=6:=by decide
theorem two8:∀s:Nat,s≤20→2 ^ s=8→s=3:=by decide
theorem nums16{W0 RR C P T B qm s k:Nat}(o:NwOk cfg16 W0 RR C P T B qm s k):W0=64∧RR=4∧C=8∧P=8∧T=1∧B=4∧qm=0∧s=6∧k=3:=by
 have e1:cfg16.geo.rw=64:=by decide +kernel
 have e2:cfg16.geo.cw=8:=by decide +kernel
 have e3:cfg16.geo.regions=4:=rfl
 have e4:cfg16.threads=1:=rfl
 have e5:cfg16.roots=4:=rfl
 have e6:cfg16.queue=0:=rfl
 have h1:=o.dm.rw
 have h2:=o.dm.cw
 have h3:=o.dm.rg
 have h4:=o.dm.wp
 have h5:=o.th
 have h6:=o.ro
 have h7:=o.qu
 have h8:=o.ok.rw
 have h9:=o.ok.cw
 have h10:=o.ok.s20
 have h11:=o.ok.k20
 rw [e1,pw_nat]at h8
 rw [e2,pw_nat]at h9
 have hW:W0=64:=by omega
 have hC:C=8:=by omega
 subst hW hC
 exact⟨rfl,by omega,rfl,by omega,by omega,by omega,by omega,two64 s (by omega) (by omega),two8 k (by omega) (by omega)⟩
structure Bt16(W w:World)(L:HL)(X:HX)(h:HS)(x:HT)(A:Nat→Nat):Prop where
 hm:HM W w L X h x 6 3 [] (fun _=>False) (fun _=>True)
 a:At16 pl16 A L h 6 3
 o:x.O 0=1
 per:x.per=8
 cw:x.cw=8
 qc:x.qc=[]
 ql:x.ql=fun _=>[]
 qm:x.qm=0
 C:x.C=List.replicate ((4*8+63) / 64) 0
 T:h.T=1
 cfg:L.cfg=cfg16
theorem built16{W w':World}{e:Ending}(hb:BuiltX W pl16 e w'):∃(L:HL) (X:HX) (h:HS) (x:HT) (A:Nat→Nat) (A0:Option Addr) (c:Nat),e=.returned (.tuple #[.agg #[.pointer (some ⟨L.hb,0,none⟩),.slice A0 2 c],.bool true,.bool false])∧Bt16 W w' L X h x A:=by
 obtain⟨W0,RR,C,P,T,B,qm,s,k,ok,hb⟩:=hb
 obtain⟨rfl,rfl,rfl,rfl,rfl,rfl,rfl,rfl,rfl⟩:=nums16 ok
 rcases hb with⟨L,X,h,x,x1,o,σ,A,A0,c,E,e1,e2,e3,e4,e5,e6,e7,e8,e9⟩ | ⟨-,-,i,x,s1,t1,o1,A,i1,i2,i3⟩
 ·obtain⟨a1,a2,a3,a4,a5⟩:=(trk_old_eden (p:=pl16) (x0:=HTn 8 8 4 0 (4*64)) ⟨rfl,rfl⟩ ⟨rfl,rfl⟩).2 _ _ _ _ _ e5
  have hT:(1:Int)=(h.T:Int):=e4.T
  refine⟨L,X,h,x,A,A0,c,e1,⟨e2.toM.sub (fun q hq=>by cases hq),⟨e4,e2.hr.ok,right16,e7,e8,?_,a1,a2,a3,a4⟩,?_,?_,?_,?_,?_,?_,?_,by omega,e9⟩⟩
  ·rw [e4.g];decide +kernel
  all_goals rw [e6,a5]
  ·show obj 8 (fun _=>0) 0 3 0=1
   decide
  all_goals rfl
 ·exact absurd i3 ((trk_old_eden (p:=pl16) (x0:=HTn 8 8 4 0 (4*64)) ⟨rfl,rfl⟩ ⟨rfl,rfl⟩).1 _ _ _ _ _ _ i1 i2)
open Go.RowKit Go.Gl
namespace HS
variable (h:HS)
def takN(t:Int→Bool)(r m:Nat):Int→Bool:=if (List.range m).any (fun i=>t ((r:Int)+(i:Int))) then fun x=>decide (x=(r:Int))||t x else t
theorem takN_zero(t:Int→Bool)(r:Nat):takN t r 0=t:=by simp [takN]
theorem takN_all(t:Int→Bool)(r:Nat):takN t r (h.spanAt r).toNat=h.takStep t r:=rfl
theorem takN_yes{t:Int→Bool}{r m:Nat}(e:takN t r m ((r:Int)+(m:Int))=true):takN t r (m+1)=fun x=>decide (x=(r:Int))||takN t r m x:=by
 unfold takN at e ⊢
 rw [List.range_succ,List.any_append]
 by_cases c:(List.range m).any (fun i=>t ((r:Int)+(i:Int)))=true
 ·simp only [c,Bool.true_or,if_true]
  funext x
  cases decide (x=(r:Int)) <;> simp
 ·rw [if_neg c]at e ⊢
  simp [e]
theorem takN_no{t:Int→Bool}{r m:Nat}(e:takN t r m ((r:Int)+(m:Int))=false):takN t r (m+1)=takN t r m:=by
 unfold takN at e ⊢
 rw [List.range_succ,List.any_append]
 by_cases c:(List.range m).any (fun i=>t ((r:Int)+(i:Int)))=true
 ·simp only [c,Bool.true_or,if_true]
 ·rw [if_neg c]at e ⊢
  simp [e,c]
theorem tak0_nil:h.tak0 []=fun _=>false:=by funext x;simp [tak0]
theorem tak0_in{l:List Int}{a:Int}(ha:0≤a∧a<(h.R:Int)):h.tak0 (l++[a])=fun x=>decide (x=a)||h.tak0 l x:=by
 funext x
 unfold tak0
 by_cases e:x=a
 ·subst e;simp [ha]
 ·simp [e]
theorem tak0_out{l:List Int}{a:Int}(ha:¬ (0≤a∧a<(h.R:Int))):h.tak0 (l++[a])=h.tak0 l:=by
 funext x
 unfold tak0
 by_cases e:x=a
 ·subst e;simp [ha]
 ·simp [e]
theorem foldl_take{l:List Nat}{m:Nat}(hm:m<l.length)(t:Int→Bool):(l.take (m+1)).foldl h.takStep t=h.takStep ((l.take m).foldl h.takStep t) (l.getD m 0):=by
 have e:l.take (m+1)=l.take m++[l.getD m 0]:=by
  rw [List.take_add_one,List.getElem?_eq_getElem hm,List.getD_eq_getElem?_getD,List.getElem?_eq_getElem hm]
  rfl
 rw [e,List.foldl_append]
 rfl
end HS
structure TkAt(W w:World)(L:HL)(h:HS)(s k mb:Nat)(t:Int→Bool):Prop where
 hr:Hr w L h s k
 fr:Fr [L.ab] W w
 kn:TakAt w mb t
 far:W.heap.size≤mb
theorem TakAt.ne{w:World}{mb b:Nat}{t:Int→Bool}{ty:TypeId}{cs:Array Value}(h:TakAt w mb t)(hb:Blk w b ty cs):mb≠b:=by
 obtain⟨f,k1,_⟩:=h
 exact k1.blk_ne hb
theorem TkAt.look{W w w':World}{L:HL}{h:HS}{s k mb:Nat}{t:Int→Bool}(a:TkAt W w L h s k mb t)(hH:Hr w' L h s k)(hf:Fr [L.ab] w w'):TkAt W w' L h s k mb t:=by
 obtain⟨c9,h9⟩:=a.hr.ar
 refine⟨hH,a.fr.trans_same hf,a.kn.fr hf (fun hx=>?_),a.far⟩
 simp only [List.mem_singleton]at hx
 exact a.kn.ne h9.set hx
theorem TkAt.look0{W w w':World}{L:HL}{h:HS}{s k mb:Nat}{t:Int→Bool}(a:TkAt W w L h s k mb t)(hf:Fr [] w w'):TkAt W w' L h s k mb t:=
 a.look (a.hr.fr0 hf) (hf.mono (fun x hx=>by cases hx))
theorem TkAt.new{w:World}{L:HL}{h:HS}{s k:Nat}(H:Hr w L h s k):TkAt w (w.alloc (.map #[] 0)) L h s k w.heap.size (fun _=>false):=
 ⟨H.fr0 ((Fr.refl _ _).alloc _),(Fr.refl _ _).alloc _,TakAt.new w rfl,Nat.le_refl _⟩
theorem TkAt.upd{W w:World}{L:HL}{h:HS}{s k mb:Nat}{t:Int→Bool}(H0:Hr W L h s k)(a:TkAt W w L h s k mb t){x:Int}(hw:(Lit.int .i64 x).wf=true) :
  ∃w',(Instr.mapUpdate 97 (.map (some mb)) (.int .i64 x) (.agg #[])).run Tryz.prog w=.ok () w'∧TkAt W w' L h s k mb (fun y=>decide (y=x)||t y)∧Fr [mb] w w':=by
 obtain⟨f,k1,k2,k3⟩:=a.kn
 obtain⟨w',hrun,hM,hF⟩:=k1.update (val:=.agg #[]) Tryz.intLawG Tryz.underlying97 (intKeyG x hw)
 have hW:=a.far
 have hfw:Fr [L.ab] W w':=a.fr.trans hF (fun y hy=>.inr (by simp at hy;rw [hy];exact hW))
 obtain⟨c9,h9⟩:=a.hr.ar
 have e1:=a.kn.ne h9.set
 have e2:=a.kn.ne h9.row
 exact⟨w',hrun,⟨H0.fr1 hfw ⟨c9,h9.fr hF (by simpa using e1.symm) (by simpa using e2.symm)⟩,hfw,TakAt.add k2 k3 hM,hW⟩,hF⟩
set_option linter.unusedVariables false
set_option linter.unusedSimpArgs false
set_option maxRecDepth 100000
open Go.RowKit Go.Gl
def TakP(w:World)(L:HL)(h:HS)(s k:Nat)(l:List Int)(e:Ending)(w':World):Prop:=
 ∃mb,e=.returned (.map (some mb))∧TkAt w w' L h s k mb (h.takF l)
theorem spanAt_in{h:HS}{s k:Nat}(ok:h.Ok s k)(r:Nat):0≤h.spanAt r∧h.spanAt r≤1048576∧(h.objV (((r*h.W:Nat):Int)+1)).size≤1048576:=by
 unfold HS.spanAt
 by_cases e:h.objE (((r*h.W:Nat):Int)+1)=0
 ·obtain⟨S,P,q,hv,hS1,hS2,hP⟩:=ObjV_of e
  rw [hv]
  simp only
  have hw:=ok.wpos
  unfold Geo.spanOf
  rw [if_neg (by omega),ok.rw,show(S:Int)-1=((S-1:Nat):Int)by omega,← Int.natCast_ediv]
  have:=Nat.div_le_self (S-1) h.W
  generalize (S-1) / h.W=d at *
  omega
 ·have hv:h.objV (((r*h.W:Nat):Int)+1)=Hd.zero:=by unfold HS.objV;rw [if_neg e]
  rw [hv]
  simp [Hd.zero,Geo.spanOf]
set_option maxHeartbeats 3200000 in
theorem htaken_any{w:World}{L:HL}{h:HS}{s k:Nat}(H:Hr w L h s k){l:List Int}{A:Option Addr}{c:Nat}(hl:Sl w A l.length (fun m=>.int .i64 (l.getD m 0)))(hll:l.length≤4611686018427387904)(hlw:∀m,m<l.length→(Lit.int .i64 (l.getD m 0)).wf=true) :
  Calls Tryz.prog 61 #[.pointer (some ⟨L.hb,0,none⟩),.slice A l.length c] w (TakP w L h s k l):=by
 have HH:=hide H
 have HOK:=hide H.ok
 have HGE:Hid (∀w',Hr w' L h s k→_):=fun w' h'=>h'.geo
 have HLB:=lt_of_cell H.geo.1
 have hmm:=@run_makeMap Tryz.prog
 have HSL:=hide hl
 have HLW:=hide hlw
 have HA0:=hide (TkAt.new H)
 obtain⟨n,hn⟩:∃n,n=l.length:=⟨_,rfl⟩
 have HN:=hide hn
 rw [← hn]at hll ⊢
 clear hl hlw H hn
 go_enter Tryz.func61,Tryz.ntmps61
 go_wp2_with fail
 clear hmm
 have HF0:Hid (Fr [] w (w.alloc (.map #[] 0))):=(Fr.refl _ _).alloc _
 have HMB:Hid (w.heap.size≤w.heap.size):=Nat.le_refl _
 generalize (w.alloc (.map #[] 0))=w0 at *
 obtain⟨mb,hmb⟩:∃mb,mb=w.heap.size:=⟨_,rfl⟩
 have HME:=hide hmb
 rw [← hmb]at HA0 ⊢
 clear hmb
 go_loopw [22] (fun i wr=>∃m:Nat,i=.int .i64 m∧m≤n∧TkAt w wr L h s k mb (h.tak0 (l.take m))∧Fr [] w wr) (fun i _=>n-(intOf i).toNat)
 case atStart=>exact⟨0,rfl,Nat.zero_le _,by rw [List.take_zero,HS.tak0_nil];exact HA0.out,HF0.out⟩
 case round=>
  obtain⟨m,rfl,hm,ho,hf⟩:=hrel
  have HO:=hide ho
  have HF:=hide hf
  clear ho hf HA0 HF0
  by_cases hlt:m<n
  ·have hlt1:(m:Int)<(n:Int):=by omega
   have hml:m<l.length:=by have:=HN.out;omega
   obtain⟨b,off,rfl,hb0,hcl⟩:=HSL.out (by omega)
   have x0:wr.cell? ⟨b,off+m,none⟩=some (.int .i64 (l.getD m 0)):=(HF.out.cell (p:=⟨b,off+m,none⟩) hb0 (by simp)).trans (hcl m hml)
   obtain⟨g0,g1,g2,g3,g4,g5⟩:=HO.out.hr.geo
   have HB:=hide (HO.out.hr.base (l.getD m 0) (Fr.refl [] wr))
   have HW:=hide (HLW.out m hml)
   have HTI:=HS.tak0_in (h:=h) (l:=l.take m) (a:=l.getD m 0)
   have HTO:=HS.tak0_out (h:=h) (l:=l.take m) (a:=l.getD m 0)
   rw [← take_getD hml]at HTI HTO
   generalize h.tak0 (l.take m)=t0 at *
   generalize l.getD m 0=a at *
   clear hcl
   by_cases ha:0≤a∧a<(h.R:Int)
   ·rw [if_pos ha,if_pos ha]at HB
    have HT:=hide (HTI ha)
    clear HTI HTO
    go_wp2_with (go_at_call 82;refine HB.out.mono ?_;rintro e w2 ⟨rfl,hf2⟩;have a2:=HO.out.look0 hf2;have HF2:=hide hf2;obtain⟨w3,hrun3,a3,hf3⟩:=a2.upd HH.out HW.out;have HA3:=hide a3;have HF3:=hide hf3;clear a2 a3 hf2 hf3)
    go_roundw
    case rel=>exact⟨m+1,by go_num,by omega,by rw [HT.out];exact HA3.out,(HF.out.trans_same HF2.out).trans HF3.out (fun y hy=>.inr (by simp at hy;rw [hy,HME.out];exact Nat.le_refl _))⟩
    case measure=>simp [intOf];omega
   ·rw [if_neg ha,if_neg ha]at HB
    have HT:=hide (HTO ha)
    clear HTI HTO
    go_wp2_with (go_at_call 82;refine HB.out.mono ?_;rintro e w2 ⟨rfl,hf2⟩;have HF2:=hide hf2;clear hf2)
    go_roundw
    case rel=>exact⟨m+1,by go_num,by omega,by rw [HT.out];exact HO.out.look0 HF2.out,HF.out.trans_same HF2.out⟩
    case measure=>simp [intOf];omega
  ·obtain rfl:m=n:=by omega
   have HTL:Hid (h.tak0 (l.take m)=h.tak0 l):=by show _=_;rw [List.take_of_length_le];have:=HN.out;omega
   rw [HTL.out]at HO
   have cT:=HO.out.hr.cT
   have HRL:=hide (rlist_any HO.out.hr.rg 4)
   have hLM:∀q,q<(those h.s 4 h.R).length→(those h.s 4 h.R).getD q 0<h.R:=fun q hq=>(those_mem.1 (show(those h.s 4 h.R).getD q 0∈those h.s 4 h.R by rw [List.getD_eq_getElem?_getD,List.getElem?_eq_getElem hq];simp)).1
   have HLM:=hide hLM
   have hLL:=those_len h.s 4 h.R
   have hRb:h.R≤65536:=by have:=HOK.out.geo.r65536;have:=HOK.out.rg;omega
   have HTK:Hid (h.takF l=(those h.s 4 h.R).foldl h.takStep (h.tak0 l)):=rfl
   clear hLM
   generalize h.tak0 l=t0 at *
   obtain⟨ls,hls⟩:∃ls,ls=those h.s 4 h.R:=⟨_,rfl⟩
   rw [← hls]at HRL HLM hLL HTK
   clear hls
   have HAB:Hid (L.ab<wr.heap.size∧mb<wr.heap.size):=by
    obtain⟨c9,h9⟩:=HO.out.hr.ar
    exact⟨h9.set.lt,HO.out.kn.lt⟩
   obtain⟨n1,hn1⟩:∃n1,n1=ls.length:=⟨_,rfl⟩
   have HN1:=hide hn1
   unfold ListPost7 at HRL
   rw [← hn1]at HRL hLL
   clear hn1
   go_wp2_with (go_at_call 113;refine HRL.out.mono ?_;rintro e w1 ⟨v,rfl,hown,hf1⟩;obtain⟨A1,c1,G1,rfl,hl1,hG1⟩:=Lr.of_own hown;have HL1:=hide hl1;have HG1:=hide hG1;have HF1:=hide hf1;have HO1:=hide (HO.out.look0 hf1);clear hown hl1 hG1 hf1)
   go_loopw [47] (fun i wr=>∃m:Nat,i=.int .i64 m∧m≤n1∧TkAt w wr L h s k mb ((ls.take m).foldl h.takStep t0)∧Fr [L.ab,mb] w1 wr) (fun i _=>n1-(intOf i).toNat)
   case atStart=>exact⟨0,rfl,Nat.zero_le _,by rw [List.take_zero];exact HO1.out,Fr.refl _ _⟩
   case round=>
    obtain⟨q,rfl,hq,ho2,hf2⟩:=hrel
    have HO2:=hide ho2
    have HF2:=hide hf2
    clear ho2 hf2
    by_cases hlt2:q<n1
    ·have hlt3:(q:Int)<(n1:Int):=by omega
     have hql:q<ls.length:=by have:=HN1.out;omega
     have hrR:=HLM.out q hql
     have HFO:=hide (HS.foldl_take (h:=h) hql t0)
     obtain⟨b,off,rfl,hb0,hcl⟩:=(HL1.out.fr HF2.out (fun g hg hx=>by
      have h1:=HG1.out g hg
      have h2:=HAB.out
      simp at hx
      omega)).sl (by omega)
     have x0:wr.cell? ⟨b,off+q,none⟩=some (.int .i64 ((ls.getD q 0:Nat):Int)):=by
      rw [hcl q hlt2]
      simp [nums,hql]
     generalize (ls.take q).foldl h.takStep t0=t1 at *
     generalize ls.getD q 0=r at *
     clear hcl
     have hbl:=HOK.out.base_le hrR
     have hnm:=HOK.out.nmax
     obtain⟨hsp0,hsp1,hsz⟩:=spanAt_in HOK.out r
     obtain⟨g0,g1,g2,g3,g4,g5⟩:=HO2.out.hr.geo
     have HB:=hide (HO2.out.hr.base (r:Int) (Fr.refl [] wr))
     have hin:(0:Int)≤(r:Int)∧(r:Int)<(h.R:Int):=⟨by omega,by omega⟩
     rw [if_pos hin,if_pos hin,← Int.natCast_mul]at HB
     have HRF:=hide (fun w'=>reference_any (i:=r*h.W) (by omega) w')
     have HOB:Hid (∀w',Hr w' L h s k→Calls Tryz.prog 114 #[.pointer (some ⟨L.hb,0,none⟩),.int .u64 (((r*h.W:Nat):Int)+1)] w' (HrP w' L h s k (.tuple #[(h.objV (((r*h.W:Nat):Int)+1)).val,.int .i64 (h.objE (((r*h.W:Nat):Int)+1))]))):=fun w' h'=>hobject_any h' (by omega) (by omega)
     have HTN:=hide (HS.takN_all h t1 r)
     have hSPE:h.spanAt r=h.g.spanOf (h.objV (((r*h.W:Nat):Int)+1)).size:=rfl
     have HSP:Hid (∀w' w'',Hr w' L h s k→Fr [] w' w''→Calls Tryz.prog 81 #[.agg #[.int .i64 h.g.words,.int .i64 h.g.rw,.int .i64 h.g.cw,.int .i64 h.g.regions,.int .i64 h.g.cards,.int .i64 h.g.max],.int .i64 (h.objV (((r*h.W:Nat):Int)+1)).size] w'' fun e w3=>e=.returned (.int .i64 (h.spanAt r))∧Fr [] w'' w3):=fun w' w'' h' hf=>h'.span _ (by omega) hf
     unfold HrP at HOB
     generalize h.spanAt r=sp at *
     clear hSPE
     generalize h.objE (((r*h.W:Nat):Int)+1)=E at *
     generalize h.objV (((r*h.W:Nat):Int)+1)=V at *
     obtain⟨v0,v1,v2,v3,v4⟩:=V
     unfold Hd.val at HOB
     simp only at HOB HSP hsz
     generalize r*h.W=a at *
     go_wp2_with (first | (go_at_call 82;refine HB.out.mono ?_;rintro e w2 ⟨rfl,hf2⟩;have HO3:=hide (HO2.out.look0 hf2);have HF3:=hide hf2;clear hf2) | (go_at_call 115;refine(HRF.out _).mono ?_;rintro e w' ⟨rfl,rfl⟩) | (go_at_call 114;refine(HOB.out _ HO3.out.hr).mono ?_;rintro e w3 ⟨rfl,hH3,hf3⟩;have HO4:=hide (HO3.out.look hH3 hf3);have HF4:=hide hf3;clear hH3 hf3))
     generalize hw4:w3.alloc (.cells #[.int .i64 v0,.int .i64 v1,.int .i64 v2,.int .i64 v3,.int .i64 v4] 157)=w4
     have HB4:Hid (Blk w4 w3.heap.size 157 #[.int .i64 v0,.int .i64 v1,.int .i64 v2,.int .i64 v3,.int .i64 v4]):=hw4 ▸ Blk.new _ _ _
     have HF5:Hid (Fr [] w3 w4):=hw4 ▸ (Fr.refl _ _).alloc _
     clear hw4
     have HO5:=hide (HO4.out.look0 HF5.out)
     have S2:Hid (Stable (Fr [] w4)):=fun a b h1 h2=>h1.trans_same h2
     have HH2:=hide HO5.out.hr
     clear g0 g1 g2 g3 g4 g5
     have g0:∀u:Cls (Fr [] w4),u.w.cell? ⟨L.hb,14,none⟩=some (.int .i64 h.g.words):=fun u=>u.cell HH2.out.geo.1 (by simp)
     have g1:∀u:Cls (Fr [] w4),u.w.cell? ⟨L.hb,15,none⟩=some (.int .i64 h.g.rw):=fun u=>u.cell HH2.out.geo.2.1 (by simp)
     have g2:∀u:Cls (Fr [] w4),u.w.cell? ⟨L.hb,16,none⟩=some (.int .i64 h.g.cw):=fun u=>u.cell HH2.out.geo.2.2.1 (by simp)
     have g3:∀u:Cls (Fr [] w4),u.w.cell? ⟨L.hb,17,none⟩=some (.int .i64 h.g.regions):=fun u=>u.cell HH2.out.geo.2.2.2.1 (by simp)
     have g4:∀u:Cls (Fr [] w4),u.w.cell? ⟨L.hb,18,none⟩=some (.int .i64 h.g.cards):=fun u=>u.cell HH2.out.geo.2.2.2.2.1 (by simp)
     have g5:∀u:Cls (Fr [] w4),u.w.cell? ⟨L.hb,19,none⟩=some (.int .i64 h.g.max):=fun u=>u.cell HH2.out.geo.2.2.2.2.2 (by simp)
     have x1:∀u:Cls (Fr [] w4),u.w.cell? ⟨w3.heap.size,1,none⟩=some (.int .i64 v1):=fun u=>u.cell (HB4.out.cell 1) (by simp)
     have HSN:Hid (∀u:Cls (Fr [] w4),Calls Tryz.prog 81 #[.agg #[.int .i64 h.g.words,.int .i64 h.g.rw,.int .i64 h.g.cw,.int .i64 h.g.regions,.int .i64 h.g.cards,.int .i64 h.g.max],.int .i64 v1] u.w fun e w3=>e=.returned (.int .i64 sp)∧∃u':Cls (Fr [] w4),w3=u'.w):=fun u=>Cls.grow (HSP.out _ _ HH2.out u.ok)
     refine wp_region_cls (Fr [] w4) (by kernel_rfl) (by kernel_rfl) (Cls.drew S2.out ⟨w4,Fr.refl _ _⟩) ?_
     repeat (go_big_quiet_step ((go_at_call 81;exact HSN.out _)))
     refine wpQuiet_nil ?_
     rintro _ ⟨u1,rfl⟩
     have HO6:=hide (HO5.out.look0 u1.ok)
     have HF6:Hid (Fr [L.ab,mb] w1 u1.w):=(((HF2.out.trans_nil HF3.out).trans_same (HF4.out.mono (fun x hx=>by simp only [List.mem_singleton]at hx;subst hx;simp))).trans_nil HF5.out).trans_nil u1.ok
     clear HB4 HSP HSN g0 g1 g2 g3 g4 g5 x1 HB
     generalize u1.w=w5 at *
     go_wp2_with fail
     go_loopw [74] (fun i wr=>∃j:Nat,i=.int .i64 j∧(j:Int)≤sp∧TkAt w wr L h s k mb (HS.takN t1 r j)∧Fr [L.ab,mb] w1 wr) (fun i _=>sp.toNat-(intOf i).toNat)
     case atStart=>exact⟨0,rfl,hsp0,by rw [HS.takN_zero];exact HO6.out,HF6.out⟩
     case round=>
      obtain⟨j,rfl,hj,ho7,hf7⟩:=hrel
      have HO7:=hide ho7
      have HF7:=hide hf7
      clear ho7 hf7
      by_cases hlt4:(j:Int)<sp
      ·have hw1:IntKind.i64.wrap ((r:Int)+(j:Int))=(r:Int)+(j:Int):=IntWalk.i64_in _ ⟨by omega,by omega⟩
       have hwf:(Lit.int .i64 ((r:Int)+(j:Int))).wf=true:=wf_i64_of ⟨by omega,by omega⟩
       have hwr:(Lit.int .i64 (r:Int)).wf=true:=wf_i64_of ⟨by omega,by omega⟩
       have HW:=hide (And.intro hwf hwr)
       have hlook:=HO7.out.kn.look hwf
       clear hwf hwr
       by_cases e:HS.takN t1 r j ((r:Int)+(j:Int))=true
       ·rw [e]at hlook
        have HTJ:=hide (HS.takN_yes e)
        obtain⟨w8,hrun8,ha8,hf8⟩:=(HO7.out.look0 ((Fr.refl [] wr).alloc (.cells #[] 113))).upd HH.out HW.out.2
        have HO8:=hide ha8
        have HF8:=hide hf8
        clear ha8 hf8 e
        go_wp2_with fail
        go_roundw
        case rel=>exact⟨j+1,by go_num,by omega,by rw [HTJ.out];exact HO8.out,(HF7.out.trans_nil ((Fr.refl [] wr).alloc (.cells #[] 113))).trans_same (HF8.out.mono (fun x hx=>by simp only [List.mem_singleton]at hx;subst hx;simp))⟩
        case measure=>simp [intOf];omega
       ·have e':HS.takN t1 r j ((r:Int)+(j:Int))=false:=by simpa using e
        rw [e']at hlook
        have HTJ:=hide (HS.takN_no e')
        clear e e'
        go_wp2_with fail
        go_roundw
        case rel=>exact⟨j+1,by go_num,by omega,by rw [HTJ.out];exact HO7.out.look0 ((Fr.refl [] wr).alloc (.cells #[] 113)),HF7.out.trans_nil ((Fr.refl [] wr).alloc (.cells #[] 113))⟩
        case measure=>simp [intOf];omega
      ·obtain rfl:(j:Int)=sp:=by omega
       have HTZ:Hid (HS.takN t1 r j=h.takStep t1 r):=by
        have:=HTN.out
        rw [Int.toNat_natCast]at this
        exact this
       rw [HTZ.out]at HO7
       go_wp2_with fail
       go_roundw
       case rel=>exact⟨q+1,by go_num,by omega,by rw [HFO.out];exact HO7.out,HF7.out⟩
       case measure=>simp [intOf];omega
    ·obtain rfl:q=n1:=by omega
     have HO3:Hid (TkAt w wr L h s k mb (h.takF l)):=by
      have:=HO2.out
      rw [List.take_of_length_le (by have:=HN1.out;omega),← HTK.out]at this
      exact this
     go_wp2_with fail
     refine bodyPost_ret (v:=.map (some mb)) (by simp [results,Tryz.results61,go_sem, *]) rfl ?_
     exact⟨mb,rfl,HO3.out⟩
theorem haddr_any(x:Int)(w:World):Calls Tryz.prog 121 #[.int .u64 x] w fun e w'=>e=.returned (.int .i64 (adr x))∧w=w':=by
 go_enter Tryz.func121,Tryz.ntmps121
 go_wp2
 go_ret
 exact⟨ret_int (by unfold adr;rw [IntWalk.i64_left]),rfl⟩
theorem Hr.card{w:World}{L:HL}{h:HS}{s k:Nat}(H:Hr w L h s k)(a:Int){w':World}(hf:Fr [] w w'):Calls Tryz.prog 15 #[.agg #[.int .i64 h.g.words,.int .i64 h.g.rw,.int .i64 h.g.cw,.int .i64 h.g.regions,.int .i64 h.g.cards,.int .i64 h.g.max],.int .i64 a] w' fun e w''=>e=.returned (.int .i64 (h.g.cardOf a))∧Fr [] w' w'':=
 card_any h.g H.ok.geo a w' (H.fr0 hf).tab
theorem fields_mem{h:HS}{s k:Nat}(ok:h.Ok s k){a x:Int}(hx:x∈fieldsL h.n h.f a):∃i:Nat,x=(i:Int)∧i<h.n:=by
 unfold fieldsL at hx
 split at hx
 ·rename_i hc
  obtain⟨c1,c2,c3⟩:=hc
  rcases at_out h.n h.f a with⟨h1,_⟩ | ⟨h1,_⟩ | ⟨h1,h2,h3,h4⟩
  ·omega
  ·omega
  ·have:=h4.ways
   unfold refs at hx
   obtain⟨j,hj,rfl⟩:=List.mem_map.1 hx
   rw [List.mem_range]at hj
   exact⟨a.toNat+1+j,by omega,by omega⟩
 ·cases hx
theorem fields_len{h:HS}(a:Int):(fieldsL h.n h.f a).length≤1048576:=by
 unfold fieldsL
 split
 ·rename_i hc
  obtain⟨c1,c2,c3⟩:=hc
  rcases at_out h.n h.f a with⟨h1,_⟩ | ⟨h1,_⟩ | ⟨h1,h2,h3,h4⟩
  ·omega
  ·omega
  ·have:=h4.ways
   rw [refs_len]
   omega
 ·simp
structure LsI(L:HL)(h:HS)(B sb per:Nat)(σ:RS)(I:World→Prop):Prop where
 vs:L.vs=.pointer (some ⟨sb,0,none⟩)
 keep:∀a b F,I a→Fr F a b→(∀x,x∈F→x=L.ab∨B≤x)→I b
 has:∀a,I a→∀x c:Int,(Lit.int .i64 x).wf=true→Calls Tryz.prog 28 #[.pointer (some ⟨sb,0,none⟩),.int .i64 x,.int .i64 c] a fun e b=>e=.returned (.bool (hasI σ per h.R x c))∧Fr [] a b
structure LsAt(W:World)(I:World→Prop)(w:World)(L:HL)(h:HS)(s k mb:Nat)(t:Int→Bool)(acc:List Int)(A:Option Addr)(c:Nat)(G:List Nat):Prop where
 hr:Hr w L h s k
 kn:TakAt w mb t
 inv:I w
 lr:Lr w 3 A acc.length c G (zv acc)
 far:∀g,g∈G→W.heap.size≤g
 fr:Fr [L.ab] W w
theorem TakAt.off{w:World}{mb:Nat}{t:Int→Bool}{e:TypeId}{A:Option Addr}{n c:Nat}{G:List Nat}{xs:List Value}(h:TakAt w mb t)(hl:Lr w e A n c G xs):mb∉G:=fun hg=>by
 obtain⟨f,k,_⟩:=h
 rcases Nat.eq_zero_or_pos c with hc | hc
 ·rw [hl.zero hc]at hg;cases hg
 ·obtain⟨g,off,cur,_,q2,q3,_⟩:=hl.blk hc
  rw [q2]at hg
  simp at hg
  exact k.blk_ne q3 hg
section
variable {sb per:Nat}{σ:RS}{I:World→Prop}{W w w':World}{L:HL}{h:HS}{s k mb:Nat}{t:Int→Bool}{acc:List Int}{A:Option Addr}{c:Nat}{G:List Nat}
theorem LsAt.look(LI:LsI L h W.heap.size sb per σ I)(a:LsAt W I w L h s k mb t acc A c G)(hH:Hr w' L h s k)(hf:Fr [L.ab] w w'):LsAt W I w' L h s k mb t acc A c G:=by
 obtain⟨c9,h9⟩:=a.hr.ar
 refine⟨hH,a.kn.fr hf (fun hx=>?_),LI.keep _ _ _ a.inv hf (fun x hx=>.inl (by simpa using hx)),a.lr.fr hf (fun g hg hx=>?_),a.far,a.fr.trans_same hf⟩
 ·simp only [List.mem_singleton]at hx
  exact a.kn.ne h9.set hx
 ·simp only [List.mem_singleton]at hx
  subst hx
  exact a.lr.apart h9.set (by decide) hg
theorem LsAt.look0(LI:LsI L h W.heap.size sb per σ I)(a:LsAt W I w L h s k mb t acc A c G)(hf:Fr [] w w'):LsAt W I w' L h s k mb t acc A c G:=
 a.look LI (a.hr.fr0 hf) (hf.mono (fun x hx=>by cases hx))
theorem LsAt.app(H0:Hr W L h s k)(LI:LsI L h W.heap.size sb per σ I)(a:LsAt W I w L h s k mb t acc A c G){A':Option Addr}{c':Nat}{G':List Nat}{x:Int}(hl:Lr w' 3 A' (acc.length+1) c' G' (zv acc++[.int .i64 x]))(hf:Fr G w w')(hG:∀g,g∈G'→g∈G∨w.heap.size≤g):LsAt W I w' L h s k mb t (acc++[x]) A' c' G':=by
 have hfw:Fr [L.ab] W w':=a.fr.trans hf (fun y hy=>.inr (a.far y hy))
 obtain⟨c9,h9⟩:=a.hr.ar
 refine⟨H0.fr1 hfw ⟨c9,h9.fr hf (a.lr.apart h9.set (by decide)) (a.lr.apart h9.row (by decide))⟩,a.kn.fr hf (a.kn.off a.lr),LI.keep _ _ _ a.inv hf (fun y hy=>.inr (a.far y hy)),?_,fun g hg=>?_,hfw⟩
 ·rw [List.length_append,zv_app]
  exact hl
 ·rcases hG g hg with h1 | h1
  ·exact a.far g h1
  ·exact Nat.le_trans a.fr.size h1
end
end Go.Proofs.YteacgfeiedcdiaaGreatDoor
