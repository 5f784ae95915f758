/- Several texts joined (pack.py): Ur Zq Zr Zs. -/
import Derived.Test.YtfcjdinlcehpmaaGreatDoorPW37
import Derived.Test.YtfcjdinlcehpmaaGreatDoorPW31
import Derived.Test.YtfcjdinlcehpmaaGreatDoorPW14
import Derived.Test.YtfcjdinlcehpmaaGreatDoorPW38
import Derived.Test.YtfcjdinlcehpmaaGreatDoorPW30
import Derived.Test.YtfcjdinlcehpmaaGreatDoorPW36
import Derived.Deep.CutRange
import Derived.Deep.RegionHeld3
import Derived.Deep.RegionLaw
import Derived.StillTailTactics
import Derived.WalkKit
import Derived.BigQuiet
namespace Go.Proofs.YtfcjdinlcehpmaaGreatDoor
set_option linter.unusedVariables false
set_option linter.unusedSimpArgs false
set_option maxRecDepth 100000
open Go.RowKit Go.Gl HS
theorem livesM(tg:TG)(g T B M:Nat)(σ:GS):Lives (fun b=>(tg b).1≠0) (fun w=>MAt w tg g T B M σ):=
 ⟨fun w w' F h hf hF=>h.fr hf (fun b hb=>Classical.byContradiction fun e=>hF b hb e),fun w h b hb=>h.tok b hb⟩
theorem geo_max{g:Geo}{s k:Nat}(h:g.Ok s k):∃M:Nat,g.max=(M:Int)∧1≤M∧M≤1048576:=by
 have h1:=h.max
 have h2:=h.r2
 have hp:=pw_pos s
 have h3:1*1≤(g.regions-1)*pw s:=Int.mul_le_mul (by omega) (by omega) (by decide) (by omega)
 have h4:1≤g.max∧g.max≤1048576:=by rw [h1];omega
 exact⟨g.max.toNat,by omega,by omega,by omega⟩
def BegP(w:World)(c:Cfg)(e:Ending)(w':World):Prop:=
 (e=.returned (.tuple #[.pointer none,.bool true])∧Fr [] w w') ∨
 ∃(T B M g W0 R C P qm s k:Nat) (tg:TG) (L:HL) (X:HX) (Λ:WL),e=.returned (.tuple #[.pointer (some ⟨Λ.wb,0,none⟩),.bool true])∧c.threads=(T:Int)∧1≤T∧T≤64 ∧
  OvAt w w' L X (HSn c.geo W0 R (R*W0) T) (HTn C P R qm (R*W0)) s k [] (fun b=>(tg b).1≠0) (fun w=>MAt w tg g T B M G0) g T Λ
section
variable {D1 D2:Nat→Prop}{Q1 Q2:World→Prop}
theorem Lives.and(h1:Lives D1 Q1)(h2:Lives D2 Q2):Lives (fun b=>D1 b∨D2 b) (fun w=>Q1 w∧Q2 w):=
 ⟨fun w w' F h hf hF=>⟨h1.stay w w' F h.1 hf (fun b hb hd=>hF b hb (.inl hd)),h2.stay w w' F h.2 hf (fun b hb hd=>hF b hb (.inr hd))⟩,fun w h b hb=>hb.elim (h1.lt w h.1 b) (h2.lt w h.2 b)⟩
theorem Lives.all{P:Nat→Prop}{Di:Nat→Nat→Prop}{Qi:Nat→World→Prop}(h:∀i,P i→Lives (Di i) (Qi i)):Lives (fun b=>∃i,P i∧Di i b) (fun w=>∀i,P i→Qi i w):=
 ⟨fun w w' F q hf hF i hi=>(h i hi).stay w w' F (q i hi) hf (fun b hb hd=>hF b hb ⟨i,hi,hd⟩),fun w q b ⟨i,hi,hd⟩=>(h i hi).lt w (q i hi) b hd⟩
theorem Lives.lr(e:TypeId)(A:Option Addr)(n c:Nat)(G:List Nat)(xs:List Value):Lives (fun b=>b∈G) (fun w=>Lr w e A n c G xs):=⟨fun w w' F h hf hF=>h.fr hf (fun g hg hx=>hF g hx hg),fun w h b hb=>h.lt b hb⟩
end
structure WG where
 g:Nat
 tg:TG
 dA:Option Addr
 dc:Nat
 dG:List Nat
 dl:List Int
 oA:Nat→Option Addr
 on:Nat→Nat
 oc:Nat→Nat
 oG:Nat→List Nat
 ox:Nat→List Value
 nn:Nat→Nat
def gD(DX:Nat→Prop)(Λ:WL)(Γ:WG)(P:Nat→Prop):Nat→Prop:=fun b=>DX b∨(b∈Λ.mG∨(b∈Γ.dG∨((Γ.tg b).1≠0∨∃i,P i∧b∈Γ.oG i)))
def gQ(QX:World→Prop)(Λ:WL)(Γ:WG)(P:Nat→Prop)(T B M:Nat)(σ:GS):World→Prop:=fun w=>QX w∧(Lr w 48 Λ.mA T Λ.mc Λ.mG (ptrs Λ.P T)∧(Lr w 3 Γ.dA Γ.dl.length Γ.dc Γ.dG (zv Γ.dl) ∧
 (MAt w Γ.tg Γ.g T B M σ∧∀i,P i→Lr w 45 (Γ.oA i) (Γ.on i) (Γ.oc i) (Γ.oG i) (Γ.ox i))))
theorem gLives{DX:Nat→Prop}{QX:World→Prop}(hX:Lives DX QX)(Λ:WL)(Γ:WG)(P:Nat→Prop)(T B M:Nat)(σ:GS):Lives (gD DX Λ Γ P) (gQ QX Λ Γ P T B M σ):=
 hX.and ((Lives.lr _ _ _ _ _ _).and ((Lives.lr _ _ _ _ _ _).and ((livesM Γ.tg Γ.g T B M σ).and (Lives.all fun i _=>Lives.lr _ _ _ _ _ _))))
structure Dj(DX:Nat→Prop)(Λ:WL)(Γ:WG)(T:Nat):Prop where
 x:∀b,DX b→b∉Λ.mG∧b∉Γ.dG∧(Γ.tg b).1=0∧∀i,i<T→b∉Γ.oG i
 m:∀b,b∈Λ.mG→b∉Γ.dG∧(Γ.tg b).1=0∧∀i,i<T→b∉Γ.oG i
 d:∀b,b∈Γ.dG→(Γ.tg b).1=0∧∀i,i<T→b∉Γ.oG i
 t:∀b,(Γ.tg b).1≠0→∀i,i<T→b∉Γ.oG i
 o:∀i j,i<T→j<T→i≠j→∀b,b∈Γ.oG i→b∉Γ.oG j
def sumN(f:Nat→Nat):Nat→Nat
 | 0=>0
 | n+1=>sumN f n+f n
theorem sumN_put{f f':Nat→Nat}{t:Nat}(he:∀i,i≠t→f' i=f i):∀n,(t<n→sumN f' n+f t=sumN f n+f' t)∧(n≤t→sumN f' n=sumN f n)
 | 0=>⟨fun h=>by omega,fun _=>rfl⟩
 | n+1=>by
  obtain⟨h1,h2⟩:=sumN_put he n
  refine⟨fun h=>?_,fun h=>?_⟩
  ·simp only [sumN]
   by_cases e:n=t
   ·subst e;rw [h2 (Nat.le_refl _)];omega
   ·have:=h1 (by omega);rw [he n e];omega
  ·simp only [sumN]
   rw [h2 (by omega),he n (by omega)]
theorem sumN_le{f:Nat→Nat}{b:Nat}:∀ {n:Nat},(∀i,i<n→f i≤b)→sumN f n≤n*b
 | 0,_=>by simp [sumN]
 | n+1,h=>by
  have h1:=sumN_le (f:=f) (b:=b) (n:=n) (fun i hi=>h i (by omega))
  have h2:=h n (by omega)
  simp only [sumN]
  rw [Nat.add_mul,Nat.one_mul]
  omega
def OpsAt(W:World)(v:Value)(n:Nat)(f:Nat→Po):Prop:=∃A c,v=.slice A n c∧(0<n→∃b off,A=some ⟨b,off,none⟩∧b<W.heap.size∧∀j,j<n →
 W.cell? ⟨b,off+j*5,none⟩=some (.int .i64 (f j).k)∧W.cell? ⟨b,off+j*5+1,none⟩=some (.int .i64 (f j).a)∧W.cell? ⟨b,off+j*5+2,none⟩=some (.int .i64 (f j).b)∧W.cell? ⟨b,off+j*5+3,none⟩=some (.int .i64 (f j).c)∧W.cell? ⟨b,off+j*5+4,none⟩=some (.int .u64 (f j).v))
structure WP(W:World)(B:Nat)(h:HS)(x:HT)(DX:Nat→Prop)(Λ:WL)(Γ:WG)(M T:Nat)(V:WS)(σ:GS)(A:Nat→Nat)(rv:Nat→Option (Nat×Nat))(Ops:Nat→Nat→Po)(On:Nat→Nat)(Nt:Prop):Prop where
 dj:Dj DX Λ Γ T
 wi:WI B h x V σ A rv M T
 gd:GDim T B M
 vd:V.dl=.slice Γ.dA Γ.dl.length Γ.dc
 vo:∀i,i<T→V.OV i=.slice (Γ.oA i) (Γ.on i) (Γ.oc i)
 ops:∀i,i<T→OpsAt W (V.OP i) (On i) (Ops i)
 ok:∀i j,PoOk (Ops i j)∧0≤(Ops i j).v∧(Ops i j).v<18446744073709551616
 ol:∀i,On i≤60
 nx:∀i,i<T→V.nx i≤On i
 cur:∀i,i<T→(V.mu i).st≠0→(V.mu i).st≠6→V.nx i<On i∧(V.mu i).op=Ops i (V.nx i)
 dn:∀i,i<T→(V.mu i).dn=σ.done i
 dx:∀i,i<T→σ.done i≤V.nx i
 N:σ.N≤sumN V.nx T
 lg:∀i,i<T→Γ.on i≤V.nx i+(if (V.mu i).st=4 then 1 else 0)
 nt:∀i,i<T→Γ.nn i+(if (V.mu i).st=6 then 1 else 0)≤V.nx i
 dl:Γ.dl.length≤4*sumN Γ.nn T
 no:Nt→Notes h x V σ A Γ.dl T
section
variable {W w w':World}{L:HL}{X:HX}{h h':HS}{x x':HT}{s k:Nat}{E:Blks}{D D' DX:Nat→Prop}{Q Q' QX:World→Prop}{Λ:WL}{Γ Γ':WG}{hb g t:Nat}{V V':WS}{σ σ':GS}{A A':Nat→Nat}{rv rv':Nat→Option (Nat×Nat)}{B M T:Nat}{Ops:Nat→Nat→Po}{On:Nat→Nat}{Nt:Prop}
theorem HM.re(hT:Tab W)(H:HM W w L X h x s k E D Q)(hD:∀b,D' b→D b)(hq:Q' w):HM W w L X h x s k E D' Q':=H.live hT (F:=[]) (Fr.refl _ _) (fun b hb=>by cases hb) (fun b hb=>.inl (hD b hb)) hq
theorem WP.next(P:WP W B h x DX Λ Γ M T V σ A rv Ops On Nt)(ht:t<T)(dj:Dj DX Λ Γ' T)(wi:WI B h' x' V' σ' A' rv' M T)(vd:V'.dl=.slice Γ'.dA Γ'.dl.length Γ'.dc)(vo:∀i,i<T→V'.OV i=.slice (Γ'.oA i) (Γ'.on i) (Γ'.oc i))(op:V'.OP=V.OP)
  (hmu:∀i,i≠t→V'.mu i=V.mu i) (hnx:∀i,i≠t→V'.nx i=V.nx i) (hon:∀i,i≠t→Γ'.on i=Γ.on i) (hnn:∀i,i≠t→Γ'.nn i=Γ.nn i) (hdn:∀i,i≠t→σ'.done i=σ.done i)
  (nx:V'.nx t≤On t) (cur:(V'.mu t).st≠0→(V'.mu t).st≠6→V'.nx t<On t∧(V'.mu t).op=Ops t (V'.nx t)) (dn:(V'.mu t).dn=σ'.done t) (dx:σ'.done t≤V'.nx t) (N:σ'.N+V.nx t≤σ.N+V'.nx t)
  (lg:Γ'.on t≤V'.nx t+(if (V'.mu t).st=4 then 1 else 0)) (nt:Γ'.nn t+(if (V'.mu t).st=6 then 1 else 0)≤V'.nx t) (dl:Γ'.dl.length+4*Γ.nn t≤Γ.dl.length+4*Γ'.nn t) (no:Nt→Notes h' x' V' σ' A' Γ'.dl T) :
  WP W B h' x' DX Λ Γ' M T V' σ' A' rv' Ops On Nt:=by
 have s1:=(sumN_put hnx T).1 ht
 have s2:=(sumN_put hnn T).1 ht
 refine⟨dj,wi,P.gd,vd,vo,by rw [op];exact P.ops,P.ok,P.ol,fun i hi=>?_,fun i hi=>?_,fun i hi=>?_,fun i hi=>?_,by have:=P.N;omega,fun i hi=>?_,fun i hi=>?_,by have:=P.dl;omega,no⟩
 ·by_cases e:i=t
  ·subst e;exact nx
  ·rw [hnx i e];exact P.nx i hi
 ·by_cases e:i=t
  ·subst e;exact cur
  ·rw [hmu i e,hnx i e];exact P.cur i hi
 ·by_cases e:i=t
  ·subst e;exact dn
  ·rw [hmu i e,hdn i e];exact P.dn i hi
 ·by_cases e:i=t
  ·subst e;exact dx
  ·rw [hnx i e,hdn i e];exact P.dx i hi
 ·by_cases e:i=t
  ·subst e;exact lg
  ·rw [hmu i e,hnx i e,hon i e];exact P.lg i hi
 ·by_cases e:i=t
  ·subst e;exact nt
  ·rw [hmu i e,hnx i e,hnn i e];exact P.nt i hi
theorem WP.can(P:WP W B h x DX Λ Γ M T V σ A rv Ops On Nt):σ.N≤3840:=by
 have h1:=P.N
 have h2:=sumN_le (f:=V.nx) (b:=60) (n:=T) (fun i hi=>by have:=P.nx i hi;have:=P.ol i;omega)
 have h3:=P.gd.t
 have:T*60≤64*60:=Nat.mul_le_mul_right _ h3
 omega
theorem WP.can'(P:WP W B h x DX Λ Γ M T V σ A rv Ops On Nt):Can M σ:=⟨P.wi.M2,by have:=P.can;omega⟩
theorem WP.dlen(P:WP W B h x DX Λ Γ M T V σ A rv Ops On Nt):Γ.dl.length≤15360:=by
 have h1:=P.dl
 have h2:=sumN_le (f:=Γ.nn) (b:=60) (n:=T) (fun i hi=>by have:=P.nx i hi;have:=P.ol i;have:=P.nt i hi;omega)
 have h3:=P.gd.t
 have:T*60≤64*60:=Nat.mul_le_mul_right _ h3
 omega
theorem HM.wWorld(hS:Lives D Q)(hT:Tab W)(H:HM W w L X h x s k (wE Λ hb g T V++E) D Q)(hE:∀q,q∈E→q.1≠Λ.wb){dl':Value}{wn':Int}(hf:Fr [Λ.wb] w w')(hbk:Blk w' Λ.wb 37 (wdV hb Λ.sb Λ.mA T Λ.mc Λ.pb Λ.nb T g dl' wn' V.sy)) :
  HM W w' L X h x s k (wE Λ hb g T { V with dl:=dl',wn:=wn' }++E) D Q:=by
 have H1:HM W w L X h x s k ((Λ.wb,37,wdV hb Λ.sb Λ.mA T Λ.mc Λ.pb Λ.nb T g V.dl V.wn V.sy)::((Λ.ob,30,rowF T V.OV)::(Λ.sb,40,#[.bool V.mg,.slice (some ⟨Λ.ob,0,none⟩) T T])::(Λ.pb,24,rowF T V.OP)::(Λ.nb,3,rowF T fun i=>.int .i64 (V.nx i:Int))::((List.range T).map (muE Λ hb V)++E))) D Q:=
  H.sub (fun q hq=>by
   simp only [List.mem_cons,List.mem_append]at hq
   simp only [wE,w4E,List.mem_cons,List.mem_append,List.not_mem_nil,or_false]
   rcases hq with e | e | e | e | e | e | e <;> simp [e])
 have hw:=H1.blk (b:=Λ.wb) (List.mem_cons_self ..)
 have H2:=H1.turn hS hT hf hbk (fun q hq=>by
  have hq3:=H1.blk (b:=q.1) (t:=q.2.1) (cs:=q.2.2) (List.mem_cons_of_mem _ hq)
  simp only [List.mem_cons,List.mem_append,List.mem_map]at hq
  rcases hq with e | e | e | e | ⟨i,_,e⟩ | e
  ·exact hq3.apart hw (by rw [e];simp only;decide)
  ·exact hq3.apart hw (by rw [e];simp only;decide)
  ·exact hq3.apart hw (by rw [e];simp only;decide)
  ·exact hq3.apart hw (by rw [e];simp only;decide)
  ·exact hq3.apart hw (by rw [← e];show(96:TypeId)≠37;decide)
  ·exact hE q e)
 exact H2.sub (fun q hq=>by
  simp only [wE,w4E,List.mem_cons,List.mem_append,List.not_mem_nil,or_false]at hq
  simp only [List.mem_cons,List.mem_append]
  rcases hq with(e | (e | e | e | e) | e) | e
  ·simp [e]
  ·simp [e]
  ·simp [e]
  ·simp [e]
  ·simp [e]
  ·exact .inr (.inr (.inr (.inr (.inr (.inl e)))))
  ·simp [e])
theorem HM.wNext(hS:Lives D Q)(hT:Tab W)(H:HM W w L X h x s k (wE Λ hb g T V++E) D Q)(hE:∀q,q∈E→q.1≠Λ.nb){nx':Nat→Nat}(hf:Fr [Λ.nb] w w')(hbk:Blk w' Λ.nb 3 (rowF T fun i=>.int .i64 (nx' i:Int))) :
  HM W w' L X h x s k (wE Λ hb g T { V with nx:=nx' }++E) D Q:=by
 have H1:HM W w L X h x s k ((Λ.nb,3,rowF T fun i=>.int .i64 (V.nx i:Int))::((Λ.ob,30,rowF T V.OV)::(Λ.wb,37,wdV hb Λ.sb Λ.mA T Λ.mc Λ.pb Λ.nb T g V.dl V.wn V.sy)::(Λ.sb,40,#[.bool V.mg,.slice (some ⟨Λ.ob,0,none⟩) T T])::(Λ.pb,24,rowF T V.OP)::((List.range T).map (muE Λ hb V)++E))) D Q:=
  H.sub (fun q hq=>by
   simp only [List.mem_cons,List.mem_append]at hq
   simp only [wE,w4E,List.mem_cons,List.mem_append,List.not_mem_nil,or_false]
   rcases hq with e | e | e | e | e | e | e <;> simp [e])
 have hw:=H1.blk (b:=Λ.nb) (List.mem_cons_self ..)
 have H2:=H1.turn hS hT hf hbk (fun q hq=>by
  have hq3:=H1.blk (b:=q.1) (t:=q.2.1) (cs:=q.2.2) (List.mem_cons_of_mem _ hq)
  simp only [List.mem_cons,List.mem_append,List.mem_map]at hq
  rcases hq with e | e | e | e | ⟨i,_,e⟩ | e
  ·exact hq3.apart hw (by rw [e];simp only;decide)
  ·exact hq3.apart hw (by rw [e];simp only;decide)
  ·exact hq3.apart hw (by rw [e];simp only;decide)
  ·exact hq3.apart hw (by rw [e];simp only;decide)
  ·exact hq3.apart hw (by rw [← e];show(96:TypeId)≠3;decide)
  ·exact hE q e)
 exact H2.sub (fun q hq=>by
  simp only [wE,w4E,List.mem_cons,List.mem_append,List.not_mem_nil,or_false]at hq
  simp only [List.mem_cons,List.mem_append]
  rcases hq with(e | (e | e | e | e) | e) | e
  ·simp [e]
  ·simp [e]
  ·simp [e]
  ·simp [e]
  ·simp [e]
  ·exact .inr (.inr (.inr (.inr (.inr (.inl e)))))
  ·simp [e])
theorem actS_tick(B M T:Nat)(σ:GS)(t:Nat)(o:Po):actS B M T (σ.tick t) t o=(actS B M T σ t o).tick t:=by
 have e1:∀(c:Prop) [Decidable c] (a b:GS),(if c then a.tick t else b.tick t)=(if c then a else b).tick t:=fun c _ a b=>by split <;> rfl
 unfold actS
 simp only [← e1]
 congr 1
 ·unfold allocS
  simp only [← e1]
  rfl
 ·congr 1
  ·unfold loadS
   simp only [← e1]
   rfl
  ·congr 1
   ·unfold storeS
    simp only [← e1]
    rfl
   ·congr 1
    ·unfold writeS
     simp only [← e1]
     rfl
    ·congr 1
     congr 1
     congr 1
     ·unfold dupS
      simp only [← e1]
      rfl
     ·congr 1
      unfold sendS
      simp only [← e1]
      rfl
theorem Looked.tick{i:Nat}{o:Po}{q I:Nat}(l:Looked σ A i o q I)(t:Nat):Looked (σ.tick t) A i o q I:=⟨l.q1,l.q2,l.a,l.r,l.c,l.f⟩
theorem Phase.tick{n:Nat}{i:Nat}{m:MU}(p:Phase n M σ A rv i m)(t:Nat):Phase n M (σ.tick t) A rv i m:=by
 rcases p with p | p | p | ⟨p1,p2,q,I,l,p3⟩ | p | p | ⟨p1,p2,p3,q,I,l,p4⟩
 ·exact .inl p
 ·exact .inr (.inl p)
 ·exact .inr (.inr (.inl p))
 ·exact .inr (.inr (.inr (.inl ⟨p1,p2,q,I,l.tick t,p3⟩)))
 ·exact .inr (.inr (.inr (.inr (.inl p))))
 ·exact .inr (.inr (.inr (.inr (.inr (.inl p)))))
 ·exact .inr (.inr (.inr (.inr (.inr (.inr ⟨p1,p2,p3,q,I,l.tick t,p4⟩)))))
theorem WI.tick(I:WI B h x V σ A rv M T)(t:Nat):WI B h x V (σ.tick t) A rv M T:=⟨I.sim.tick t,I.gk.tick t,I.eT,fun i hi=>(I.ph i hi).tick t,I.q,I.op,I.B64,I.M1,I.M2⟩
theorem WI.of(I:WI B h x V σ A rv M T)(hm:V'.mu=V.mu):WI B h x V' σ A rv M T:=⟨I.sim,I.gk,I.eT,fun i hi=>by rw [hm];exact I.ph i hi,I.q,fun i hi=>by rw [hm];exact I.op i hi,I.B64,I.M1,I.M2⟩
theorem Notes.of{dl:List Int}(N:Notes h x V σ A dl T)(hm:V'.mu=V.mu)(t:Nat):Notes h x V' (σ.tick t) A dl T:=⟨fun o j h1 h2 h3 h4=>by rw [hm];exact N.ref o j h1 h2 h3 h4,N.nd,N.dw,N.rg⟩
theorem card_lt(ok:h.Ok s k)(d:GDims h.g h.W h.R x.cw x.per){I c:Nat}(hI:I<h.n)(hc:h.g.cardOf (I:Int)=(c:Int)):c<h.R*x.per:=by
 have hd:=d.c1
 have e:h.g.cardOf (I:Int)=(I:Int) / h.g.cw:=by
  unfold Geo.cardOf
  rw [if_pos ⟨by omega,by rw [ok.wd];omega⟩]
 rw [e,d.cw,← Int.natCast_ediv]at hc
 have hc:I / x.cw=c:=by omega
 rw [← hc,Nat.div_lt_iff_lt_mul (by omega),Nat.mul_assoc,← d.wp,← ok.nn]
 exact hI
end
def WG.old(Γ:WG)(t:Nat)(A:Option Addr)(n c:Nat)(G:List Nat)(xs:List Value):WG:={ Γ with oA:=setF Γ.oA t A,on:=setF Γ.on t n,oc:=setF Γ.oc t c,oG:=setF Γ.oG t G,ox:=setF Γ.ox t xs }
def WG.left(Γ:WG)(A:Option Addr)(c:Nat)(G:List Nat)(l:List Int):WG:={ Γ with dA:=A,dc:=c,dG:=G,dl:=l }
def WG.tags(Γ:WG)(tg:TG):WG:={ Γ with tg:=tg }
section
variable {W w w' w1 w2 wq:World}{L:HL}{X:HX}{h:HS}{x:HT}{s k:Nat}{E:Blks}{DX:Nat→Prop}{QX:World→Prop}{Λ:WL}{Γ:WG}{hb g t:Nat}{V:WS}{σ σ':GS}{B M T:Nat}
theorem gTake(hT:Tab W)(H:HM W w L X h x s k E (gD DX Λ Γ (·<T)) (gQ QX Λ Γ (·<T) T B M σ))(ht:t<T) :
  HM W w L X h x s k E (fun b=>b∈Γ.oG t∨gD DX Λ Γ (fun i=>i<T∧i≠t) b) (fun w=>Lr w 45 (Γ.oA t) (Γ.on t) (Γ.oc t) (Γ.oG t) (Γ.ox t)∧gQ QX Λ Γ (fun i=>i<T∧i≠t) T B M σ w):=by
 refine H.re hT (fun b hb=>?_) ?_
 ·rcases hb with hb | hb | hb | hb | hb | ⟨i,hi,hb⟩
  ·exact .inr (.inr (.inr (.inr ⟨t,ht,hb⟩)))
  ·exact .inl hb
  ·exact .inr (.inl hb)
  ·exact .inr (.inr (.inl hb))
  ·exact .inr (.inr (.inr (.inl hb)))
  ·exact .inr (.inr (.inr (.inr ⟨i,hi.1,hb⟩)))
 ·obtain⟨q1,q2,q3,q4,q5⟩:=H.q
  exact⟨q5 t ht,q1,q2,q3,q4,fun i hi=>q5 i hi.1⟩
theorem gBack(hT:Tab W){A1:Option Addr}{n1 c1:Nat}{G1:List Nat}{xs1:List Value}(H:HM W w L X h x s k E (fun b=>b∈G1∨gD DX Λ Γ (fun i=>i<T∧i≠t) b) (fun w=>Lr w 45 A1 n1 c1 G1 xs1∧gQ QX Λ Γ (fun i=>i<T∧i≠t) T B M σ w)) :
  HM W w L X h x s k E (gD DX Λ (Γ.old t A1 n1 c1 G1 xs1) (·<T)) (gQ QX Λ (Γ.old t A1 n1 c1 G1 xs1) (·<T) T B M σ):=by
 refine H.re hT (fun b hb=>?_) ?_
 ·rcases hb with hb | hb | hb | hb | ⟨i,hi,hb⟩
  ·exact .inr (.inl hb)
  ·exact .inr (.inr (.inl hb))
  ·exact .inr (.inr (.inr (.inl hb)))
  ·exact .inr (.inr (.inr (.inr (.inl hb))))
  ·have hb:b∈setF Γ.oG t G1 i:=hb
   by_cases e:i=t
   ·subst e;rw [setF_at]at hb;exact .inl hb
   ·rw [setF_ne _ _ e]at hb;exact .inr (.inr (.inr (.inr (.inr ⟨i,⟨hi,e⟩,hb⟩))))
 ·obtain⟨q0,q1,q2,q3,q4,q5⟩:=H.q
  refine⟨q1,q2,q3,q4,fun i hi=>?_⟩
  show Lr w 45 (setF Γ.oA t A1 i) (setF Γ.on t n1 i) (setF Γ.oc t c1 i) (setF Γ.oG t G1 i) (setF Γ.ox t xs1 i)
  by_cases e:i=t
  ·subst e;rw [setF_at,setF_at,setF_at,setF_at,setF_at];exact q0
  ·rw [setF_ne _ _ e,setF_ne _ _ e,setF_ne _ _ e,setF_ne _ _ e,setF_ne _ _ e];exact q5 i ⟨hi,e⟩
theorem Dj.old(d:Dj DX Λ Γ T){A1:Option Addr}{n1 c1:Nat}{G1:List Nat}{xs1:List Value}(hG:∀g,g∈G1→¬ gD DX Λ Γ (fun i=>i<T∧i≠t) g):Dj DX Λ (Γ.old t A1 n1 c1 G1 xs1) T:=by
 have key:∀ {b i:Nat},i<T→b∈setF Γ.oG t G1 i→(i=t∧b∈G1)∨(i≠t∧b∈Γ.oG i):=fun {b i} hi hb=>by
  by_cases e:i=t
  ·subst e;rw [setF_at]at hb;exact .inl ⟨rfl,hb⟩
  ·rw [setF_ne _ _ e]at hb;exact .inr ⟨e,hb⟩
 refine⟨fun b hb=>?_,fun b hb=>?_,fun b hb=>?_,fun b hb i hi hx=>?_,fun i j hi hj hij b hb hx=>?_⟩
 ·obtain⟨k1,k2,k3,k4⟩:=d.x b hb
  refine⟨k1,k2,k3,fun i hi hx=>?_⟩
  rcases key hi hx with⟨_,e⟩ | ⟨_,e⟩
  ·exact hG b e (.inl hb)
  ·exact k4 i hi e
 ·obtain⟨k1,k2,k3⟩:=d.m b hb
  refine⟨k1,k2,fun i hi hx=>?_⟩
  rcases key hi hx with⟨_,e⟩ | ⟨_,e⟩
  ·exact hG b e (.inr (.inl hb))
  ·exact k3 i hi e
 ·obtain⟨k1,k2⟩:=d.d b hb
  refine⟨k1,fun i hi hx=>?_⟩
  rcases key hi hx with⟨_,e⟩ | ⟨_,e⟩
  ·exact hG b e (.inr (.inr (.inl hb)))
  ·exact k2 i hi e
 ·rcases key hi hx with⟨_,e⟩ | ⟨_,e⟩
  ·exact hG b e (.inr (.inr (.inr (.inl hb))))
  ·exact d.t b hb i hi e
 ·rcases key hi hb with⟨e1,e⟩ | ⟨e1,e⟩
  ·rcases key hj hx with⟨e2,e'⟩ | ⟨e2,e'⟩
   ·omega
   ·exact hG b e (.inr (.inr (.inr (.inr ⟨j,⟨hj,e2⟩,e'⟩))))
  ·rcases key hj hx with⟨e2,e'⟩ | ⟨e2,e'⟩
   ·exact hG b e' (.inr (.inr (.inr (.inr ⟨i,⟨hi,e1⟩,e⟩))))
   ·exact d.o i j hi hj hij b e e'
theorem gLeft(hX:Lives DX QX)(hT:Tab W)(H:HM W w1 L X h x s k (wE Λ L.hb Γ.g T V++E) (gD DX Λ Γ (·<T)) (gQ QX Λ Γ (·<T) T B M σ))(hE:∀q,q∈E→q.1≠Λ.wb)(d:Dj DX Λ Γ T)(hf:Fr [] w1 wq){A':Option Addr}{n' c':Nat}{G':List Nat}{l':List Int}(hn:n'=l'.length)
  (hL:Lr w2 3 A' n' c' G' (zv l')) (hg:Fr Γ.dG wq w2) (hG':∀g,g∈G'→g∈Γ.dG∨g=wq.heap.size) :
  HM W (w2.setCell ⟨Λ.wb,6,none⟩ (.slice A' n' c')) L X h x s k (wE Λ L.hb Γ.g T { V with dl:=.slice A' n' c',wn:=V.wn }++E) (gD DX Λ (Γ.left A' c' G' l') (·<T)) (gQ QX Λ (Γ.left A' c' G' l') (·<T) T B M σ)∧Dj DX Λ (Γ.left A' c' G' l') T:=by
 subst hn
 have hS:=gLives hX Λ Γ (·<T) T B M σ
 have H1:=H.fr0 hS hf
 have hlt:∀b,gD DX Λ Γ (·<T) b→b<wq.heap.size:=fun b hb=>hS.lt wq H1.q b hb
 have ndG:∀b,b∈Γ.dG→¬ DX b∧b∉Λ.mG∧(Γ.tg b).1=0∧∀i,i<T→b∉Γ.oG i:=fun b hb=>⟨fun hd=>(d.x b hd).2.1 hb,fun hm=>(d.m b hm).1 hb,(d.d b hb).1,(d.d b hb).2⟩
 obtain⟨q1,q2,q3,q4,q5⟩:=H1.q
 have H2:HM W w2 L X h x s k (wE Λ L.hb Γ.g T V++E) (gD DX Λ (Γ.left A' c' G' l') (·<T)) (gQ QX Λ (Γ.left A' c' G' l') (·<T) T B M σ):=by
  refine H1.live hT hg (fun b hb=>.inr (.inr (.inl hb))) (fun b hb=>?_) ⟨?_,?_,hL,?_,fun i hi=>?_⟩
  ·rcases hb with hb | hb | hb | hb | hb
   ·exact .inl (.inl hb)
   ·exact .inl (.inr (.inl hb))
   ·rcases hG' b hb with e | e
    ·exact .inl (.inr (.inr (.inl e)))
    ·exact .inr (by omega)
   ·exact .inl (.inr (.inr (.inr (.inl hb))))
   ·exact .inl (.inr (.inr (.inr (.inr hb))))
  ·exact hX.stay _ _ _ q1 hg (fun b hb hd=>(ndG b hb).1 hd)
  ·exact q2.fr hg (fun b hb hx=>(ndG b hx).2.1 hb)
  ·exact q4.fr hg (fun b hb=>(ndG b hb).2.2.1)
  ·exact(q5 i hi).fr hg (fun b hb hx=>(ndG b hx).2.2.2 i hi hb)
 have hS2:=gLives hX Λ (Γ.left A' c' G' l') (·<T) T B M σ
 have hbw:=H2.blk (b:=Λ.wb) (t:=37) (cs:=wdV L.hb Λ.sb Λ.mA T Λ.mc Λ.pb Λ.nb T Γ.g V.dl V.wn V.sy) (by simp [wE,w4E])
 have hp:=hbw.put 6 (.slice A' l'.length c')
 refine⟨H2.wWorld hS2 hT hE ((Fr.refl [Λ.wb] w2).setCell (p:=⟨Λ.wb,6,none⟩) (.inl (by simp)) _) (by unfold wdV at hp ⊢;simpa using hp),⟨fun b hb=>?_,fun b hb=>?_,fun b hb=>?_,d.t,d.o⟩⟩
 ·obtain⟨k1,k2,k3,k4⟩:=d.x b hb
  refine⟨k1,fun hx=>?_,k3,k4⟩
  rcases hG' b hx with e | e
  ·exact k2 e
  ·have:=hlt b (.inl hb);omega
 ·obtain⟨k1,k2,k3⟩:=d.m b hb
  refine⟨fun hx=>?_,k2,k3⟩
  rcases hG' b hx with e | e
  ·exact k1 e
  ·have:=hlt b (.inr (.inl hb));omega
 ·rcases hG' b hb with e | e
  ·exact d.d b e
  ·refine⟨?_,fun i hi hx=>?_⟩
   ·by_cases e2:(Γ.tg b).1=0
    ·exact e2
    ·have:=hlt b (.inr (.inr (.inr (.inl e2))));omega
   ·have:=hlt b (.inr (.inr (.inr (.inr ⟨i,hi,hx⟩))));omega
theorem gGraph(hX:Lives DX QX)(hT:Tab W)(H:HM W w L X h x s k E (gD DX Λ Γ (·<T)) (gQ QX Λ Γ (·<T) T B M σ))(d:Dj DX Λ Γ T){tg':TG}(hq:MAt w' tg' Γ.g T B M σ')(hg:GFr w Γ.tg w' tg') :
  HM W w' L X h x s k E (gD DX Λ (Γ.tags tg') (·<T)) (gQ QX Λ (Γ.tags tg') (·<T) T B M σ')∧Dj DX Λ (Γ.tags tg') T:=by
 have hS:=gLives hX Λ Γ (·<T) T B M σ
 obtain⟨⟨F,hf,hF⟩,hu⟩:=hg
 obtain⟨q1,q2,q3,q4,q5⟩:=H.q
 have hlt:∀b,gD DX Λ Γ (·<T) b→b<w.heap.size:=fun b hb=>hS.lt w H.q b hb
 have old:∀b,b<w.heap.size→(tg' b).1=(Γ.tg b).1:=fun b hb=>by rw [hu b hb]
 refine⟨H.live hT hf (fun b hb=>.inr (.inr (.inr (.inl (hF b hb))))) (fun b hb=>?_) ⟨?_,?_,?_,hq,fun i hi=>?_⟩,⟨fun b hb=>?_,fun b hb=>?_,fun b hb=>?_,fun b hb i hi hx=>?_,d.o⟩⟩
 ·rcases hb with hb | hb | hb | hb | hb
  ·exact .inl (.inl hb)
  ·exact .inl (.inr (.inl hb))
  ·exact .inl (.inr (.inr (.inl hb)))
  ·by_cases e:b<w.heap.size
   ·have hb:(tg' b).1≠0:=hb
    rw [old b e]at hb
    exact .inl (.inr (.inr (.inr (.inl hb))))
   ·exact .inr (by omega)
  ·exact .inl (.inr (.inr (.inr (.inr hb))))
 ·exact hX.stay _ _ _ q1 hf (fun b hb hd=>hF b hb (d.x b hd).2.2.1)
 ·exact q2.fr hf (fun b hb hx=>hF b hx (d.m b hb).2.1)
 ·exact q3.fr hf (fun b hb hx=>hF b hx (d.d b hb).1)
 ·exact(q5 i hi).fr hf (fun b hb hx=>d.t b (hF b hx) i hi hb)
 ·obtain⟨k1,k2,k3,k4⟩:=d.x b hb
  exact⟨k1,k2,(old b (hlt b (.inl hb))).trans k3,k4⟩
 ·obtain⟨k1,k2,k3⟩:=d.m b hb
  exact⟨k1,(old b (hlt b (.inr (.inl hb)))).trans k2,k3⟩
 ·obtain⟨k1,k2⟩:=d.d b hb
  exact⟨(old b (hlt b (.inr (.inr (.inl hb))))).trans k1,k2⟩
 ·have hb:(tg' b).1≠0:=hb
  have hl:=hlt b (.inr (.inr (.inr (.inr ⟨i,hi,hx⟩))))
  rw [old b hl]at hb
  exact d.t b hb i hi hx
theorem gDone(hX:Lives DX QX)(hT:Tab W)(H:HM W w L X h x s k E (gD DX Λ Γ (·<T)) (gQ QX Λ Γ (·<T) T B M σ))(d:Dj DX Λ Γ T)(ht:t<T) :
  ∃db:Nat,w.cell? ⟨Γ.g,3,none⟩=some (.slice (some ⟨db,0,none⟩) T T)∧w.cell? ⟨db,t,none⟩=some (.int .i64 (σ.done t:Int))∧w.frozen? ⟨db,t,none⟩=false ∧
   HM W (w.setCell ⟨db,t,none⟩ (.int .i64 ((σ.done t+1:Nat):Int))) L X h x s k E (gD DX Λ (Γ.tags Γ.tg) (·<T)) (gQ QX Λ (Γ.tags Γ.tg) (·<T) T B M (σ.tick t)):=by
 obtain⟨Λm,hm,e⟩:=H.q.2.2.2.1
 have hb:=hm.don
 have c3:=hm.c3
 rw [e]at c3
 obtain⟨k1,k2⟩:=hm.done ht
 exact⟨Λm.db,c3,by rw [hb.cell,rowF_at ht],hb.frozen t,(gGraph hX hT H d ⟨Λm,k1,e⟩ k2).1⟩
theorem HM.wNx{D:Nat→Prop}{Q:World→Prop}(hS:Lives D Q)(hT:Tab W)(H:HM W w L X h x s k (wE Λ hb g T V++E) D Q)(hE:∀q,q∈E→q.1≠Λ.nb) :
  w.frozen? ⟨Λ.nb,t,none⟩=false∧HM W (w.setCell ⟨Λ.nb,t,none⟩ (.int .i64 ((V.nx t:Int)+1))) L X h x s k (wE Λ hb g T { V with nx:=setF V.nx t (V.nx t+1) }++E) D Q:=by
 have hn:=H.blk (b:=Λ.nb) (t:=3) (cs:=rowF T fun i=>.int .i64 (V.nx i:Int)) (by simp [wE,w4E])
 have hp:=hn.put t (.int .i64 ((V.nx t:Int)+1))
 rw [rowF_set]at hp
 refine⟨hn.frozen t,H.wNext hS hT hE ((Fr.refl [Λ.nb] w).setCell (p:=⟨Λ.nb,t,none⟩) (.inl (by simp)) _) ?_⟩
 have e:(putF (fun i=>Value.int .i64 (V.nx i:Int)) t (.int .i64 ((V.nx t:Int)+1)))=fun i=>.int .i64 ((setF V.nx t (V.nx t+1) i:Nat):Int):=by
  funext i
  unfold putF setF
  split
  ·rw [Int.natCast_add];rfl
  ·rfl
 rw [e]at hp
 exact hp
theorem HM.wWn{D:Nat→Prop}{Q:World→Prop}(hS:Lives D Q)(hT:Tab W)(H:HM W w L X h x s k (wE Λ hb g T V++E) D Q)(hE:∀q,q∈E→q.1≠Λ.wb)(v:Int) :
  w.frozen? ⟨Λ.wb,7,none⟩=false∧HM W (w.setCell ⟨Λ.wb,7,none⟩ (.int .i64 v)) L X h x s k (wE Λ hb g T { V with dl:=V.dl,wn:=v }++E) D Q:=by
 have hbw:=H.blk (b:=Λ.wb) (t:=37) (cs:=wdV hb Λ.sb Λ.mA T Λ.mc Λ.pb Λ.nb T g V.dl V.wn V.sy) (by simp [wE,w4E])
 have hp:=hbw.put 7 (.int .i64 v)
 exact⟨hbw.frozen 7,H.wWorld hS hT hE ((Fr.refl [Λ.wb] w).setCell (p:=⟨Λ.wb,7,none⟩) (.inl (by simp)) _) (by unfold wdV at hp ⊢;simpa using hp)⟩
end
def WR(t:Nat)(On:Nat→Nat)(Ops:Nat→Nat→Po)(h h':HS)(Γ Γ':WG)(V V':WS)(σ σ':GS)(A A':Nat→Nat):Prop:=
 V'.sy=V.sy∧V'.mg=V.mg∧V'.OP=V.OP∧Γ'.g=Γ.g∧(∀i,i≠t→V'.mu i=V.mu i∧V'.nx i=V.nx i)∧(h'.T=h.T∧h'.n=h.n∧h'.g=h.g∧h'.W=h.W∧h'.R=h.R)∧(∀o,o≤σ.N→A' o=A o) ∧
 (((V.mu t).st=0∧On t≤V.nx t∧V'=V∧Γ'=Γ∧h'=h∧σ'=σ∧A'=A) ∨
 (V'.nx t=V.nx t∧V.nx t<On t∧(V.mu t).st≠6∧((V'.mu t).st=3∨(V'.mu t).st=5∨((V'.mu t).st=4∧(V.mu t).st=3))∧rkM (V'.mu t).st<rkM (if (V.mu t).st=0 then 1 else (V.mu t).st)∧σ'=σ∧h'.f=h.f∧Γ'.ox=Γ.ox∧((V.mu t).st=3→∃I:Nat,(V.mu t).ad=(I:Int)∧h.f I=0)) ∨
 (V.mg=true∧V'.nx t=V.nx t∧V.nx t<On t∧(V.mu t).st=3∧(Ops t (V.nx t)).k=3∧(V'.mu t).st=4∧σ'=σ∧h'=h∧∃I:Nat,(V.mu t).ad=(I:Int)∧h.f I≠0∧Γ'.ox=setF Γ.ox t (Γ.ox t++[.int .u64 (h.f I:Int)])) ∨
 ((V.mu t).st=6∧(V'.mu t).st=0∧V'.nx t=V.nx t∧σ'=σ∧h'=h∧Γ'.ox=Γ.ox) ∨
 ((V.mu t).st≠6∧V.nx t<On t∧V'.nx t=V.nx t+1∧((V'.mu t).st=0∨(V'.mu t).st=6)∧Γ'.ox=Γ.ox∧((V.mu t).st=0∨(V.mu t).st=1→(Ops t (V.nx t)).k=3→storeE σ t (Ops t (V.nx t)).a (Ops t (V.nx t)).b (Ops t (V.nx t)).c≠0)∧((V.mu t).st=3→(Ops t (V.nx t)).k=3→V.mg=true→∃I:Nat,(V.mu t).ad=(I:Int)∧h.f I=0)) ∨
 (V.sy=false∧(V.mu t).st≠6∧V.nx t<On t∧V'.nx t=V.nx t+1∧(V'.mu t).st=0∧σ'=σ.tick t∧Γ'.ox=Γ.ox∧(Ops t (V.nx t)).k=1) ∨
 (V.sy=true∧(V.mu t).st≠6∧V.nx t<On t∧V'.nx t=V.nx t∧(V'.mu t).st=2∧σ'=σ∧Γ'.ox=Γ.ox))
def WSP(W:World)(L:HL)(h:HS)(s k:Nat)(E:Blks)(DX:Nat→Prop)(QX:World→Prop)(Λ:WL)(Γ:WG)(t M T:Nat)(V:WS)(σ:GS)(A:Nat→Nat)(Ops:Nat→Nat→Po)(On:Nat→Nat)(Nt:Prop)(e:Ending)(w':World):Prop:=
 e=.returned (.bool true)∧∃(X':HX) (h':HS) (x':HT) (V':WS) (σ':GS) (A':Nat→Nat) (rv':Nat→Option (Nat×Nat)) (Γ':WG),
  HM W w' L X' h' x' s k (wE Λ L.hb Γ'.g T V'++E) (gD DX Λ Γ' (·<T)) (gQ QX Λ Γ' (·<T) T L.B M σ')∧WP W L.B h' x' DX Λ Γ' M T V' σ' A' rv' Ops On Nt∧WR t On Ops h h' Γ Γ' V V' σ σ' A A'
section
variable {W w w':World}{L:HL}{X:HX}{h:HS}{x:HT}{s k:Nat}{E:Blks}{DX:Nat→Prop}{QX:World→Prop}{Λ:WL}{Γ:WG}{t:Nat}{V:WS}{σ:GS}{A:Nat→Nat}{rv:Nat→Option (Nat×Nat)}{M T:Nat}{Ops:Nat→Nat→Po}{On:Nat→Nat}{Nt:Prop}
theorem HM.wCells{D:Nat→Prop}{Q:World→Prop}{hb g:Nat}(H:HM W w L X h x s k (wE Λ hb g T V++E) D Q)(hL:Lr w 48 Λ.mA T Λ.mc Λ.mG (ptrs Λ.P T))(ht:t<T) :
  ∃gm om,Λ.mA=some ⟨gm,om,none⟩∧w.cell? ⟨gm,om+t,none⟩=some (.pointer (some ⟨Λ.P t,0,none⟩))∧w.cell? ⟨Λ.wb,2,none⟩=some (.slice (some ⟨gm,om,none⟩) T Λ.mc)∧w.cell? ⟨Λ.wb,3,none⟩=some (.slice (some ⟨Λ.pb,0,none⟩) T T) ∧
   w.cell? ⟨Λ.wb,4,none⟩=some (.slice (some ⟨Λ.nb,0,none⟩) T T)∧w.cell? ⟨Λ.wb,5,none⟩=some (.pointer (some ⟨g,0,none⟩))∧w.cell? ⟨Λ.wb,6,none⟩=some V.dl∧w.cell? ⟨Λ.wb,7,none⟩=some (.int .i64 V.wn)∧w.cell? ⟨Λ.wb,8,none⟩=some (.bool V.sy) ∧
   w.cell? ⟨Λ.nb,t,none⟩=some (.int .i64 (V.nx t:Int))∧w.cell? ⟨Λ.pb,t,none⟩=some (V.OP t):=by
 obtain⟨gm,om,hmA,-,-,hc,-,-⟩:=hL.pos (by omega)
 have hw:=H.blk (b:=Λ.wb) (t:=37) (cs:=wdV hb Λ.sb Λ.mA T Λ.mc Λ.pb Λ.nb T g V.dl V.wn V.sy) (by simp [wE,w4E])
 have hn:=H.blk (b:=Λ.nb) (t:=3) (cs:=rowF T fun i=>.int .i64 (V.nx i:Int)) (by simp [wE,w4E])
 have hp:=H.blk (b:=Λ.pb) (t:=24) (cs:=rowF T V.OP) (by simp [wE,w4E])
 refine⟨gm,om,hmA,(hc t ht).trans (ptrs_at _ ht),?_,hw.cell 3,hw.cell 4,hw.cell 5,hw.cell 6,hw.cell 7,hw.cell 8,by rw [hn.cell,rowF_at ht],by rw [hp.cell,rowF_at ht]⟩
 rw [← hmA]
 exact hw.cell 2
set_option maxHeartbeats 3200000 in
theorem wstep_none(hX:Lives DX QX)(hT:Tab W)(H:HM W w L X h x s k (wE Λ L.hb Γ.g T V++E) (gD DX Λ Γ (·<T)) (gQ QX Λ Γ (·<T) T L.B M σ))(P:WP W L.B h x DX Λ Γ M T V σ A rv Ops On Nt)(ht:t<T)(hst:(V.mu t).st=0)(hn:On t≤V.nx t) :
  Calls Tryz.prog 8 #[.pointer (some ⟨Λ.wb,0,none⟩),.int .i64 (t:Int)] w (WSP W L h s k E DX QX Λ Γ t M T V σ A Ops On Nt):=by
 obtain⟨gm,om,hmA,d0,d2,d3,d4,d5,d6,d7,d8,dn,dp⟩:=H.wCells H.q.2.1 ht
 obtain⟨oA,oc,hop,-⟩:=P.ops t ht
 rw [hop]at dp
 have HI:=hide (midle_any ((H.wTake ht).blk (List.mem_cons_self ..)))
 have HFin:Hid (∀w',Fr [] w w'→WSP W L h s k E DX QX Λ Γ t M T V σ A Ops On Nt (.returned (.bool true)) w'):=fun w' hf=>⟨rfl,X,h,x,V,σ,A,rv,Γ,H.fr0 (gLives hX _ _ _ _ _ _ _) hf,P,rfl,rfl,rfl,rfl,fun _ _=>⟨rfl,rfl⟩,⟨rfl,rfl,rfl,rfl,rfl⟩,fun _ _=>rfl,.inl ⟨hst,hn,rfl,rfl,rfl,rfl,rfl⟩⟩
 have hT64:=P.gd.t
 have hlt1:(t:Int)<(T:Int):=by omega
 have hge:decide ((V.nx t:Int)≥(On t:Int))=true:=by simpa using hn
 rw [show((V.mu t).st==0)=true by rw [hst];rfl]at HI
 generalize WSP W L h s k E DX QX Λ Γ t M T V σ A Ops On Nt=Post at *
 clear H P hop hmA hst
 generalize On t=nn at *
 generalize V.nx t=nx at *
 go_enter Tryz.func8,Tryz.ntmps8
 go_wp2_with fail
 refine HI.out.mono ?_
 rintro e w1 ⟨rfl,rfl⟩
 go_wp2_with fail
 go_quiet (fail)
 go_wp2_with fail
 exact HFin.out _ ((Fr.refl _ _).drewN _)
end
end Go.Proofs.YtfcjdinlcehpmaaGreatDoor
