/- Several texts joined (pack.py): Tw Tq RfP RfA. -/
import Derived.Test.YteacgfeiedcdiaaGreatDoorPW02
import Derived.Test.YteacgfeiedcdiaaGreatDoorPW30
import Derived.Test.YteacgfeiedcdiaaGreatDoorPW29
import Derived.WalkKit
import Derived.BigQuiet
import Derived.StillTailTactics
namespace Go.Proofs.YteacgfeiedcdiaaGreatDoor
set_option linter.unusedVariables false
set_option linter.unusedSimpArgs false
set_option maxRecDepth 100000
open Go.RowKit Go.Gl HS
def Acc(w:World)(L:HL)(c:Int):Prop:=w.cell? ⟨L.ab,1,none⟩=some (.int .i64 c)
def Acc1(w w':World)(L:HL):Prop:=∀c,Acc w L c→Acc w' L c∨Acc w' L (wrap64 (c+1))
def Acc0(w w':World)(L:HL):Prop:=∀c,Acc w L c→Acc w' L c
section
variable {W w w' w'':World}{L:HL}{X:HX}{h:HS}{x:HT}{s k:Nat}{E:Blks}{D:Nat→Prop}{Q:World→Prop}{F:List Nat}
theorem Acc.fr{c:Int}(a:Acc w L c)(hf:Fr F w w')(hF:L.ab∉F):Acc w' L c:=(hf.cell (p:=⟨L.ab,1,none⟩) (lt_of_cell a) hF).trans a
theorem Acc0.of(hf:Fr F w w')(hF:L.ab∉F):Acc0 w w' L:=fun c a=>a.fr hf hF
theorem Acc0.refl(w:World)(L:HL):Acc0 w w L:=fun c a=>a
theorem Acc0.trans(a:Acc0 w w' L)(b:Acc0 w' w'' L):Acc0 w w'' L:=fun c h=>b c (a c h)
theorem Acc1.before(a:Acc0 w w' L)(b:Acc1 w' w'' L):Acc1 w w'' L:=fun c h=>b c (a c h)
theorem Acc1.behind(a:Acc1 w w' L)(b:Acc0 w' w'' L):Acc1 w w'' L:=fun c h=>(a c h).imp (b _) (b _)
theorem Acc0.one(a:Acc0 w w' L):Acc1 w w' L:=fun c h=>.inl (a c h)
theorem HM.acc(H:HM W w L X h x s k E D Q):∃c,Acc w L c:=by
 obtain⟨c,hc⟩:=H.hr.ar
 exact⟨c,hc.set.cell 1⟩
theorem Hr.accs{c:Int}(hc:Ar w L.ab L.aw h.n h.f c):∀d,Acc w L d→d=c:=fun d hd=>by
 have h1:=hc.set.cell 1
 have:some (Value.int .i64 d)=some (.int .i64 c):=hd.symm.trans h1
 injection this with this
 injection this
theorem HM.patA(hS:Lives D Q)(H:HM W w L X h x s k E D Q)(i:Int) :
  Calls Tryz.prog 146 #[.pointer (some ⟨L.ab,0,none⟩),.int .i64 i] w fun e w'=>e=.returned (.tuple #[(atH h.n h.f i).val,.int .i64 (atE h.n h.f i)])∧HM W w' L X h x s k E D Q∧Acc1 w w' L:=by
 obtain⟨c,hc⟩:=H.hr.ar
 refine(pat_anyC hc i).mono ?_
 rintro e w' ⟨c',rfl,ha,hf,h2⟩
 refine⟨rfl,H.looked hS (H.hr.fr1 hf ⟨_,ha⟩) hf,fun d hd=>?_⟩
 have h3:=Hr.accs hc d hd
 have h4:Acc w' L c':=ha.set.cell 1
 rcases h2 with rfl | rfl
 ·rw [h3];exact .inl h4
 ·rw [h3];exact .inr h4
theorem HM.loadA(hS:Lives D Q)(H:HM W w L X h x s k E D Q)(i:Int) :
  Calls Tryz.prog 147 #[.pointer (some ⟨L.ab,0,none⟩),.int .i64 i] w fun e w'=>∃er,e=.returned (.tuple #[.int .u64 (h.wordAt i),.int .i64 er])∧HM W w' L X h x s k E D Q∧Acc1 w w' L:=by
 obtain⟨c,hc⟩:=H.hr.ar
 refine(load_any hc i).mono ?_
 rintro e w' ⟨v,er,c',rfl,ha,hf,h2⟩
 have h4:Acc w' L c':=ha.set.cell 1
 refine⟨er,?_,H.looked hS (H.hr.fr1 hf ⟨_,ha⟩) hf,fun d hd=>?_⟩
 ·unfold HS.wordAt
  rcases h2 with⟨a1,a2,rfl,_⟩ | ⟨a1,rfl,_⟩
  ·rw [if_pos ⟨a1,a2⟩]
  ·rw [if_neg a1];rfl
 ·have h3:=Hr.accs hc d hd
  rcases h2 with⟨_,_,_,_,rfl⟩ | ⟨_,_,_,rfl⟩
  ·rw [h3];exact .inr h4
  ·rw [h3];exact .inl h4
theorem HM.addSet(hS:Lives D Q)(H:HM W w L X h x s k E D Q)(a c:Int) :
  Calls Tryz.prog 89 #[.pointer (some ⟨X.zb,0,none⟩),.int .i64 a,.int .i64 c] w fun e w'=>e=.returned (.tuple #[.bool (addR x.σ x.per h.R a c).1,.int .i64 (addR x.σ x.per h.R a c).2.1])∧HM W w' L X h { x with σ:=(addR x.σ x.per h.R a c).2.2 } s k E D Q∧Acc0 w w' L:=by
 obtain⟨own,⟨tg,FS,H,h1,h2⟩,hE,hD,hQ⟩:=H
 refine(H.se.add a c).mono ?_
 rintro e w' ⟨tg',F,rfl,hq,hf,hF,hu⟩
 obtain⟨own',k1,k2,k3⟩:=H.sets hf hF hu hq
 exact⟨rfl,HM.of hS hE hD hQ k1 h1 h2 hf (fun b hb=>by rw [H.o7 b (hF b hb)];decide) k2 k3,Acc0.of hf fun hx=>by have:=H.o7 _ (hF _ hx);rw [H.o2.1]at this;cases this⟩
theorem HM.clearSet(hS:Lives D Q)(H:HM W w L X h x s k E D Q){a:Nat}(ha:a<h.R) :
  Calls Tryz.prog 10 #[.pointer (some ⟨X.zb,0,none⟩),.int .i64 (a:Int)] w fun e w'=>e=.returned (.int .i64 0)∧HM W w' L X h { x with σ:=x.σ.clear a } s k E D Q∧Acc0 w w' L:=by
 obtain⟨own,⟨tg,FS,H,h1,h2⟩,hE,hD,hQ⟩:=H
 refine(H.se.clear ha).mono ?_
 rintro e w' ⟨tg',F,rfl,hq,hf,hF,hu⟩
 obtain⟨own',k1,k2,k3⟩:=H.sets hf hF hu hq
 exact⟨rfl,HM.of hS hE hD hQ k1 h1 h2 hf (fun b hb=>by rw [H.o7 b (hF b hb)];decide) k2 k3,Acc0.of hf fun hx=>by have:=H.o7 _ (hF _ hx);rw [H.o2.1]at this;cases this⟩
theorem HM.setSok(H:HM W w L X h x s k E D Q):SOk x.per h.R x.σ:=by
 obtain⟨own,⟨tg,FS,H,h1,h2⟩,hE,hD,hQ⟩:=H
 exact H.se.ok
theorem HM.setDim(H:HM W w L X h x s k E D Q):GDims h.g h.W h.R x.cw x.per:=by
 obtain⟨own,⟨tg,FS,H,h1,h2⟩,hE,hD,hQ⟩:=H
 exact H.dim
theorem HM.setHas(H:HM W w L X h x s k E D Q)(a c:Int)(wa:(Lit.int .i64 a).wf=true):Calls Tryz.prog 28 #[.pointer (some ⟨X.zb,0,none⟩),.int .i64 a,.int .i64 c] w fun e w'=>e=.returned (.bool (hasI x.σ x.per h.R a c))∧Fr [] w w':=by
 obtain⟨own,⟨tg,FS,H,h1,h2⟩,hE,hD,hQ⟩:=H
 exact H.se.has a c wa
theorem HM.offsAt(H:HM W w L X h x s k E D Q){c:Nat}(hc:c<h.R*x.per):Calls Tryz.prog 145 #[.pointer (some ⟨X.ob,0,none⟩),.int .i64 (c:Int)] w fun e w'=>e=.returned (.tuple #[.int .i64 (if x.O c=0 then 0 else x.O c-1),.int .i64 (if x.O c=0 then 5 else 0)])∧w=w':=by
 obtain⟨own,⟨tg,FS,H,h1,h2⟩,hE,hD,hQ⟩:=H
 exact ofirst_at H.of hc
end
theorem cnt_one{f:Nat→Bool}{m:Nat}:∀n,(∀j,j<n→j≠m→f j=false)→cnt f 0 n≤1
 | 0,_=>by simp [cnt]
 | n+1,h=>by
  by_cases e:n=m
  ·have:=cnt_none (p:=f) (a:=0) (n:=n) (fun j hj=>h _ (by omega) (by omega))
   rw [cnt_add f 0 n 1,this]
   have:=cnt_le f (0+n) 1
   omega
  ·have h1:=cnt_one (f:=f) (m:=m) n (fun j hj=>h j (by omega))
   rw [cnt_add f 0 n 1]
   have:cnt f (0+n) 1=0:=cnt_none (fun j hj=>by
    have:j=0:=by omega
    subst this
    exact h _ (by omega) (by omega))
   omega
theorem addS_first{σ:RS}{per n h c:Nat}(hw:σ.way h (c / per)=0)(hh:∀x,x / per=c / per→σ.has h x=false):addS σ per n h c=σ.put per h (c / per) 1 (plus σ h c):=by
 unfold addS
 rw [if_neg (by omega),if_pos]
 unfold cntS
 refine Nat.le_trans (cnt_one (m:=c % per) per fun j hj hne=>?_) (by decide)
 have hp:0<per:=by omega
 have e:(c / per*per+j) / per=c / per:=by
  rw [Nat.mul_comm,Nat.mul_add_div hp,Nat.div_eq_of_lt hj];omega
 rw [RS.has_at _ _ _ _ _ _ e]
 unfold plus
 rw [hh _ e]
 simp only [Bool.false_or,decide_eq_false_iff_not]
 intro e2
 have:=Nat.div_add_mod c per
 rw [Nat.mul_comm]at this
 omega
theorem add_first{σ:RS}{per n h c:Nat}(hn:h<n)(hc:c<n*per)(hne:c / per≠h)(hw:σ.way h (c / per)=0)(hh:∀x,x / per=c / per→σ.has h x=false) :
  addR σ per n (h:Int) (c:Int)=(true,0,σ.put per h (c / per) 1 (plus σ h c)):=by
 rw [addR_at hn hc,if_neg hne]
 have:hasN σ per h c=false:=by
  unfold hasN
  rw [hw,hh c rfl]
  rfl
 rw [this,if_neg (by simp),addS_first hw hh]
def oneS(per:Nat)(c:Nat)(H:Nat→Bool):RS:=⟨fun a b=>if b=c / per∧H a=true then 1 else 0,fun a x=>decide (x=c)&&H a⟩
theorem oneS_add{per n c h:Nat}{H:Nat→Bool}(hn:h<n)(hc:c<n*per)(hne:c / per≠h):(addR (oneS per c H) per n (h:Int) (c:Int)).2.2=oneS per c fun a=>decide (a=h)||H a:=by
 by_cases hH:H h=true
 ·rw [addR_at hn hc,if_neg hne]
  have:hasN (oneS per c H) per h c=true:=by unfold hasN oneS;simp [hH]
  rw [if_pos this]
  refine RS.ext (fun a b=>?_) (fun a x=>?_)
  ·show(if b=c / per∧H a=true then 1 else 0)=if b=c / per∧(decide (a=h)||H a)=true then 1 else 0
   by_cases e:a=h
   ·subst e;simp [hH]
   ·simp [e]
  ·show(decide (x=c)&&H a)=(decide (x=c)&&(decide (a=h)||H a))
   by_cases e:a=h
   ·subst e;simp [hH]
   ·simp [e]
 ·have hH':H h=false:=by simpa using hH
  rw [add_first hn hc hne (by unfold oneS;simp [hH']) (fun x hx=>by unfold oneS;simp [hH'])]
  refine RS.ext (fun a b=>?_) (fun a x=>?_)
  ·show(if a=h∧b=c / per then 1 else if b=c / per∧H a=true then 1 else 0)=if b=c / per∧(decide (a=h)||H a)=true then 1 else 0
   by_cases e:a=h
   ·subst e
    by_cases e2:b=c / per <;> simp [e2,hH']
   ·simp [e]
  ·show(if a=h∧x / per=c / per then plus (oneS per c H) h c x else decide (x=c)&&H a)=(decide (x=c)&&(decide (a=h)||H a))
   by_cases e:a=h
   ·subst e
    by_cases e2:x / per=c / per
    ·rw [if_pos ⟨rfl,e2⟩]
     unfold plus oneS
     simp [hH']
    ·rw [if_neg (fun q=>e2 q.2)]
     have:x≠c:=fun q=>e2 (by rw [q])
     simp [this]
   ·rw [if_neg (fun q=>e q.1)]
    simp [e]
section
variable {h:HS}{per:Nat}{p:Pla}{σ τ:RS}
theorem itr_succ(per:Nat)(q:Pla×RS):∀k,h.itr per (k+1) q=h.itr per k (h.stp per q)
 | 0=>rfl
 | k+1=>by
  show h.stp per (h.itr per (k+1) q)=h.stp per (h.itr per k (h.stp per q))
  rw [itr_succ per q k]
def EndsN(h:HS)(per N:Nat)(q:Pla×RS)(σ:RS):Prop:=∃k,k≤N∧(h.itr per k q).1.more=false∧(∀j,j<k→(h.itr per j q).1.more=true)∧(h.itr per k q).2=σ
theorem EndsN.ends{N:Nat}{q:Pla×RS}(e:EndsN h per N q σ):h.Ends per q σ:=by
 obtain⟨k,_,k1,k2,k3⟩:=e
 exact⟨k,k1,k2,k3⟩
theorem EndsN.le{N M:Nat}{q:Pla×RS}(e:EndsN h per N q σ)(hm:N≤M):EndsN h per M q σ:=by
 obtain⟨k,k0,k1⟩:=e
 exact⟨k,by omega,k1⟩
theorem EndsN.done(hm:p.more=false):EndsN h per 0 (p,σ) σ:=⟨0,Nat.le_refl _,hm,fun j hj=>absurd hj (by omega),rfl⟩
theorem EndsN.next{N:Nat}{q:Pla×RS}(hm:q.1.more=true)(e:EndsN h per N (h.stp per q) τ):EndsN h per (N+1) q τ:=by
 obtain⟨k,k0,k1,k2,k3⟩:=e
 refine⟨k+1,by omega,by rw [itr_succ];exact k1,fun j hj=>?_,by rw [itr_succ];exact k3⟩
 cases j with
 | zero=>exact hm
 | succ j=>rw [itr_succ];exact k2 j (by omega)
noncomputable def remL (h:HS) (per:Nat) (σ:RS) (a:Int):Nat→RS
 | 0=>σ
 | n+1=>remL h per (h.remS per σ a) (a+1) n
theorem EndsN.fields{N:Nat}:∀(n:Nat) {p:Pla} {σ τ:RS},p.fd+(n:Int)=p.la→EndsN h per N ({ p with fd:=p.la },remL h per σ p.fd n) τ→EndsN h per (N+n) (p,σ) τ
 | 0,⟨fi,be,fd,la,hd,en,bg⟩,σ,τ,hn,e=>by
  have:fd=la:=by
   have hn:fd+((0:Nat):Int)=la:=hn
   omega
  subst this
  exact e
 | n+1,p,σ,τ,hn,e=>by
  refine EndsN.next (q:=(p,σ)) (by unfold Pla.more;simp;left;omega) ?_
  have hs:h.stp per (p,σ)=({ p with fd:=p.fd+1 },h.remS per σ p.fd):=by
   unfold HS.stp
   rw [if_pos (by show p.fd<p.la;omega)]
  rw [hs]
  exact EndsN.fields n (p:={ p with fd:=p.fd+1 }) (by show p.fd+1+(n:Int)=p.la;omega) e
theorem EndsN.obj{N:Nat}(h1:p.la≤p.fd)(h2:p.hd<p.en)(h3:h.entE p=0)
  (e:EndsN h per N ({ h.entS p with fd:=max (h.entS p).fd (h.entS p).la },remL h per σ (h.entS p).fd ((h.entS p).la-(h.entS p).fd).toNat) τ):EndsN h per (N+((h.entS p).la-(h.entS p).fd).toNat+1) (p,σ) τ:=by
 refine EndsN.next (q:=(p,σ)) (by unfold Pla.more;simp;right;exact h2) ?_
 have hs:h.stp per (p,σ)=(h.entS p,σ):=by
  unfold HS.stp
  rw [if_neg (by show ¬ p.fd<p.la;omega)]
  show(h.enter p,σ)=_
  unfold HS.enter
  rw [if_pos h3]
 rw [hs]
 generalize h.entS p=q at *
 by_cases c:q.fd<q.la
 ·refine EndsN.fields (q.la-q.fd).toNat (by omega) ?_
  rw [show max q.fd q.la=q.la by omega]at e
  exact e
 ·rw [show max q.fd q.la=q.fd by omega,show(q.la-q.fd).toNat=0 by omega]at e
  rw [show(q.la-q.fd).toNat=0 by omega]
  exact e
end
section
variable {h:HS}{p q:Pla}{s k per:Nat}{σ:RS}
def HS.AskOk(h:HS)(p:Pla):Prop:=∀n,h.askE n p=0
theorem askE_congr:∀(n:Nat) {p q:Pla},p.hd=q.hd→p.en=q.en→p.bg=q.bg→h.askE n p=h.askE n q
 | 0,_,_,_,_,_=>rfl
 | n+1,p,q,a,b,c=>by
  unfold HS.askE
  have e:h.entE p=h.entE q:=by unfold HS.entE;rw [a,c]
  rw [a,b,e,askE_congr n (p:=h.entS p) (q:=h.entS q) (by show p.hd+(atH h.n h.f p.hd).size=q.hd+(atH h.n h.f q.hd).size;rw [a]) b c]
theorem ask_more(a:h.AskOk p)(h1:p.hd<p.en):h.entE p=0∧h.AskOk (h.entS p):=by
 have e:h.entE p=0:=by
  have:=a 1
  unfold HS.askE at this
  rw [if_pos h1]at this
  by_cases e:h.entE p=0
  ·exact e
  ·rw [if_neg e]at this;cases this
 refine⟨e,fun n=>?_⟩
 have:=a (n+1)
 unfold HS.askE at this
 rw [if_pos h1,if_pos e]at this
 exact this
theorem more_hd(hm:p.more=true)(h1:¬ p.fd<p.la):p.hd<p.en:=by
 unfold Pla.more at hm
 rw [decide_eq_false h1,Bool.false_or]at hm
 exact of_decide_eq_true hm
theorem ask_stp(a:h.AskOk p)(hm:p.more=true):h.stpE p=0∧h.AskOk (h.stp per (p,σ)).1:=by
 unfold HS.stpE HS.stp
 dsimp only
 by_cases h1:p.fd<p.la
 ·rw [if_pos h1,if_pos h1]
  exact⟨rfl,fun n=>(askE_congr n (p:={ p with fd:=p.fd+1 }) (q:=p) rfl rfl rfl).trans (a n)⟩
 ·rw [if_neg h1,if_neg h1]
  obtain⟨e1,e2⟩:=ask_more a (more_hd hm h1)
  refine⟨e1,?_⟩
  unfold HS.enter
  rw [if_pos e1]
  exact e2
theorem Pla.Ok.stp(o:p.Ok)(ok:h.Ok s k):(h.stp per (p,σ)).1.Ok:=by
 unfold HS.stp
 dsimp only
 by_cases h1:p.fd<p.la
 ·rw [if_pos h1]
  obtain⟨o1,o2,o3,o4,o5,o6⟩:=o
  exact⟨o1,o2,⟨by show 0≤p.fd+1;omega,by show p.fd+1≤16777216;omega⟩,o4,o5,o6⟩
 ·rw [if_neg h1]
  exact o.enter ok
def mPl(fd la hd en:Int):Nat:=(en-hd).toNat*16777217+(la-fd).toNat
def Pla.m(p:Pla):Nat:=mPl p.fd p.la p.hd p.en
theorem entS_m(o:p.Ok)(ok:h.Ok s k)(h1:p.hd<p.en)(e:h.entE p=0):(h.entS p).m<p.m∧p.hd<(h.entS p).hd:=by
 have o2:=(o.enter ok)
 unfold HS.enter at o2
 rw [if_pos e]at o2
 unfold HS.entE at e
 split at e
 ·rename_i c
  obtain⟨i0,i1,i2,i3,i4,i5,i6⟩:=atH_in c.1
  have hs:=i6 (c.2.imp id (·.2))
  have hh:(h.entS p).hd=p.hd+(atH h.n h.f p.hd).size:=rfl
  have he:(h.entS p).en=p.en:=rfl
  have h2:=o2.la
  have h3:=o2.fd
  unfold Pla.m mPl
  rw [hh]at *
  rw [he]
  generalize (h.entS p).la=A at *
  generalize (h.entS p).fd=B at *
  have e1:(p.en-(p.hd+(atH h.n h.f p.hd).size)).toNat+1≤(p.en-p.hd).toNat:=by omega
  have e2:=Nat.mul_le_mul_right 16777217 e1
  omega
 ·cases e
theorem stp_m(o:p.Ok)(ok:h.Ok s k)(a:h.AskOk p)(hm:p.more=true):(h.stp per (p,σ)).1.m<p.m:=by
 unfold HS.stp
 dsimp only
 by_cases h1:p.fd<p.la
 ·rw [if_pos h1]
  show mPl (p.fd+1) p.la p.hd p.en<mPl p.fd p.la p.hd p.en
  unfold mPl
  omega
 ·rw [if_neg h1]
  have h2:=more_hd hm h1
  obtain⟨e,-⟩:=ask_more a h2
  unfold HS.enter
  rw [if_pos e]
  exact(entS_m o ok h2 e).1
theorem itr_keeps(o:p.Ok)(ok:h.Ok s k)(a:h.AskOk p):∀j,(∀i,i<j→(h.itr per i (p,σ)).1.more=true)→(h.itr per j (p,σ)).1.Ok∧h.AskOk (h.itr per j (p,σ)).1
 | 0,_=>⟨o,a⟩
 | j+1,hm=>by
  obtain⟨o1,a1⟩:=itr_keeps o ok a j (fun i hi=>hm i (by omega))
  have h1:=hm j (by omega)
  show(h.stp per (h.itr per j (p,σ))).1.Ok∧h.AskOk (h.stp per (h.itr per j (p,σ))).1
  generalize h.itr per j (p,σ)=q at *
  exact⟨o1.stp (per:=per) (σ:=q.2) ok,(ask_stp (per:=per) (σ:=q.2) a1 h1).2⟩
end
structure Shf(L:HL)(s k:Nat):Prop where
 a:L.cfg.shift=(s:Int)
 b:L.cfg.cardShift=(k:Int)
section
variable {W w w':World}{L:HL}{X:HX}{h:HS}{x:HT}{s k:Nat}{E:Blks}{D:Nat→Prop}{Q:World→Prop}
theorem HM.shc(H:HM W w L X h x s k E D Q)(c:Shf L s k):w.cell? ⟨L.hb,0,none⟩=some (.int .i64 (s:Int))∧w.cell? ⟨L.hb,2,none⟩=some (.int .i64 (k:Int)):=by
 obtain⟨own,⟨tg,FS,H,_⟩,_⟩:=H
 rw [← c.a,← c.b]
 exact⟨H.st.cell 0,H.st.cell 2⟩
theorem HM.crossA(H:HM W w L X h x s k E D Q)(a b:Int):Calls Tryz.prog 148 #[.agg #[.int .i64 h.g.words,.int .i64 h.g.rw,.int .i64 h.g.cw,.int .i64 h.g.regions,.int .i64 h.g.cards,.int .i64 h.g.max],.int .i64 a,.int .i64 b] w fun e w'=>e=.returned (.bool (h.g.crossB a b))∧Fr [] w w':=
 cross_any h.g H.ok.geo a b w H.hr.tab
theorem rfregion_at(H:HM W w L X h x s k E D Q)(c:Shf L s k){a:Nat}(ha:a≤4194304) :
  Calls Tryz.prog 91 #[.pointer (some ⟨L.hb,0,none⟩),.int .i64 (a:Int)] w fun e w'=>e=.returned (.int .i64 ((a / h.W:Nat):Int))∧w=w':=by
 have c0:=(H.shc c).1
 have hs:=H.ok.geo.s20
 have HW:Hid ((a:Int) / pw (s:Int)=((a / h.W:Nat):Int)):=by
  show _=_
  have:=H.ok.geo.rw
  rw [H.ok.rw]at this
  rw [← this,Int.natCast_ediv]
 have eu:IntKind.u64.wrap (s:Int)=(s:Int):=IntWalk.u64_in _ ⟨by omega,by omega⟩
 clear H c
 go_enter Tryz.func91,Tryz.ntmps91
 go_wp2_with fail
 go_ret
 exact⟨ret_int (by rw [pw_pow];exact HW.out),rfl⟩
set_option maxHeartbeats 1600000 in
theorem rfremember_any(hS:Lives D Q)(H:HM W w L X h x s k E D Q)(c:Shf L s k)(a:Int) :
  Calls Tryz.prog 97 #[.pointer (some ⟨L.hb,0,none⟩),.int .i64 a] w fun e w'=>e=.returned (.tuple #[])∧HM W w' L X h { x with σ:=h.remS x.per x.σ a } s k E D Q∧Acc1 w w' L:=by
 have c20:=H.hc.c20
 have HLd:=hide (H.loadA hS a)
 have HC:=hide c
 have HV:Hid (h.remS x.per x.σ a=if h.g.crossB a (adr (h.wordAt a))=true then (addR x.σ x.per h.R (h.g.regionOf (adr (h.wordAt a))) (h.g.cardOf a)).2.2 else x.σ):=rfl
 clear H c
 generalize h.wordAt a=v at *
 obtain⟨t,ht⟩:∃t,IntKind.i64.wrap (IntKind.u64.wrap (v-1))=t:=⟨_,rfl⟩
 have HT0:Hid (adr v=t):=ht
 rw [HT0.out]at HV
 go_enter Tryz.func97,Tryz.ntmps97
 go_wp2_with fail
 refine HLd.out.mono ?_
 rintro e w1 ⟨er,rfl,H1,hA1⟩
 have HA1:=hide hA1
 have HH1:=hide H1
 have q:=H1.hc
 obtain⟨g0,g1,g2,g3,g4,g5⟩:=H1.hr.geo
 have HX:=hide (H1.crossA a t)
 clear hA1 H1 q HLd c20
 by_cases hc:h.g.crossB a t=true
 ·rw [hc,if_pos rfl]at HV
  rw [hc]at HX
  have hcr:=hc
  unfold Geo.crossB at hcr
  simp only [Bool.and_eq_true,decide_eq_true_eq]at hcr
  obtain⟨⟨a0,a1⟩,⟨t0,t1⟩,-⟩:=hcr
  have hok:=HH1.out.ok
  rw [hok.wd]at a1 t1
  have hnm:=hok.nmax
  have hk:=hok.geo.k20
  obtain⟨A,rfl⟩:=Int.eq_ofNat_of_zero_le a0
  obtain⟨t',rfl⟩:=Int.eq_ofNat_of_zero_le t0
  have ek:IntKind.u64.wrap (k:Int)=(k:Int):=IntWalk.u64_in _ ⟨by omega,by omega⟩
  have er':h.g.regionOf (t':Int)=((t' / h.W:Nat):Int):=by
   unfold Geo.regionOf
   rw [if_pos ⟨t0,by rw [hok.wd];exact t1⟩,hok.rw,← Int.natCast_ediv]
  have ec:h.g.cardOf (A:Int)=(A:Int) / 2 ^ k:=by
   unfold Geo.cardOf
   rw [if_pos ⟨a0,by rw [hok.wd];exact a1⟩,hok.geo.cw,pw_pow]
  rw [er',ec]at HV
  clear hc er' ec hok
  go_wp2_with fail
  refine HX.out.mono ?_
  rintro e w2 ⟨rfl,hf2⟩
  have H2:=HH1.out.fr0 hS (hf2.trans_same (Fr.refl _ _).drew)
  have c25:=H2.hc.c25
  have c2:=(H2.shc HC.out).2
  have HH2:=hide H2
  have HA2:=hide (HA1.out.behind (Acc0.of (hf2.trans_same (Fr.refl _ _).drew) (by simp)))
  have HRg:=hide (rfregion_at H2 HC.out (a:=t') (by omega))
  have HAd:=hide (H2.addSet hS ((t' / h.W:Nat):Int) ((A:Int) / 2 ^ k))
  clear H2 hf2 g0 g1 g2 g3 g4 g5 HX HH1 HA1
  generalize ((t' / h.W:Nat):Int)=R' at *
  go_wp2_with fail
  refine region_tail 15 (by kernel_rfl) (by kernel_rfl) ?_
  simp only [List.take_succ_cons,List.take_zero,List.drop_succ_cons,List.drop_zero]
  repeat still_step
  still_call (call_right HRg.out)
  repeat still_step
  refine wpStill_nil ?_
  go_wp2_with fail
  refine HAd.out.mono ?_
  rintro e w4 ⟨rfl,H4,hA4⟩
  have HH4:=hide H4
  have HA4:=hide (HA2.out.behind hA4)
  clear H4 hA4
  go_wp2_with fail
  go_end0
  exact⟨rfl,by rw [HV.out];exact HH4.out,HA4.out⟩
 ·have hc:h.g.crossB a t=false:=by simpa using hc
  rw [hc,if_neg (by simp)]at HV
  rw [hc]at HX
  go_wp2_with fail
  refine HX.out.mono ?_
  rintro e w2 ⟨rfl,hf2⟩
  have HH2:=hide (HH1.out.fr0 hS hf2)
  have HA2:=hide (HA1.out.behind (Acc0.of hf2 (by simp)))
  clear hf2 g0 g1 g2 g3 g4 g5 HX HH1 HA1
  go_wp2_with fail
  go_end0
  exact⟨rfl,by rw [HV.out];exact HH2.out,HA2.out⟩
end
end Go.Proofs.YteacgfeiedcdiaaGreatDoor
