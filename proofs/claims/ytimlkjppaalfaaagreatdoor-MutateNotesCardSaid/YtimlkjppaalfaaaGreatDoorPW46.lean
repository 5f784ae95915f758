/- gleanerlaw15.Over, with operations. -/
import Derived.Test.YtimlkjppaalfaaaGreatDoorPW42
import Derived.Test.YtimlkjppaalfaaaGreatDoorPW44
import Derived.Deep.CutRange
import Derived.Deep.RegionHeld3
import Derived.StillTailTactics
import Derived.WalkKit
import Derived.BigQuiet
set_option linter.unusedVariables false
set_option linter.unusedSimpArgs false
set_option maxHeartbeats 3200000
set_option maxRecDepth 100000
open List renaming mem_cons_of_mem->CZ,mem_cons_self->C0,mem_cons->C1,mem_append->C9
namespace Go.Proofs.YtimlkjppaalfaaaGreatDoor
open Go.RowKit Go.Gl HS
structure ky(W:World)(A:Option Addr)(n:Nat)(rA:Nat->Option Addr)(rn rc:Nat->Nat)(f:Nat->Nat->Po):Prop where
 row:0<n->∃b off,A=some ⟨b,off,none⟩/\b<W.heap.size/\∀i,i<n->W.cell? ⟨b,off+i,none⟩=some (.slice (rA i) (rn i) (rc i))
 len:∀i,i<n->rn i<=rc i/\rn i<=maxLen
 ops:∀i,i<n->jM W (.slice (rA i) (rn i) (rc i)) (rn i) (f i)
def gF(n:Nat)(rA:Nat->Option Addr)(rn rc:Nat->Nat)(i:Nat):Value:=if i<n then .slice (rA i) (if rn i<60 then rn i else 60) (rc i) else .slice none 0 0
def jN(n k:Nat)(rA:Nat->Option Addr)(rn rc:Nat->Nat)(i:Nat):Value:=if i<k then gF n rA rn rc i else .slice none 0 0
section
variable {W w w':World}{L:HL}{X:HX}{h:HS}{x:HT}{s k:Nat}{E:aK}{D D':Nat->Prop}{Q Q':World->Prop}{F:List Nat}
def ovO(Λ:WL)(hb g T k:Nat)(OP:Nat->Value):aK:=
 (Λ.wb,37,wdV hb Λ.sb Λ.mA k Λ.mc Λ.pb Λ.nb T g (.slice none 0 0) 0 false)::(Λ.sb,61,#[.bool false,.slice (some ⟨Λ.ob,0,none⟩) T T])::(Λ.ob,128,aI T λ_=>.slice none 0 0) ::
  (Λ.pb,82,aI T OP)::(Λ.nb,3,aI T λ_=>.int .i64 0)::(List.range k).map λi=>(Λ.P i,127,muV hb i Λ.sb (MU.zero 0))
def OvO(W w:World)(L:HL)(X:HX)(h:HS)(x:HT)(s k:Nat)(E:aK)(D:Nat->Prop)(Q:World->Prop)(g n:Nat)(Λ:WL)(OP:Nat->Value):Prop:=
 HM W w L X h x s k (ovO Λ L.hb g h.T n OP++E) (λb=>b∈Λ.mG\/D b) (λw=>Lr w 62 Λ.mA n Λ.mc Λ.mG (aQ Λ.P n)/\Q w)/\(∀b,b∈Λ.mG->¬ D b) /\
  ∀q,q∈E->q.1≠Λ.wb
theorem OvO.fr0{g n:Nat}{Λ:WL}{OP:Nat->Value}(hS:ah D Q)(H:OvO W w L X h x s k E D Q g n Λ OP)(hf:Fr [] w w'):OvO W w' L X h x s k E D Q g n Λ OP:=
 ⟨H.1.fr0 (hS.row _ _ _ _ _ _) hf,H.2⟩
theorem OvO.cells{g n:Nat}{Λ:WL}{OP:Nat->Value}(H:OvO W w L X h x s k E D Q g n Λ OP):w.cell? ⟨Λ.wb,1,none⟩=some (.pointer (some ⟨Λ.sb,0,none⟩))/\w.cell? ⟨Λ.wb,2,none⟩=some (.slice Λ.mA n Λ.mc)/\w.cell? ⟨Λ.sb,1,none⟩=some (.slice (some ⟨Λ.ob,0,none⟩) h.T h.T)/\w.cell? ⟨L.hb,27,none⟩=some (.slice L.rA h.T L.rc)/\w.frozen? ⟨Λ.wb,2,none⟩=false:=by
 have h1:=H.1.blk (b:=Λ.wb) (t:=37) (cs:=wdV L.hb Λ.sb Λ.mA n Λ.mc Λ.pb Λ.nb h.T g (.slice none 0 0) 0 false) (by simp[ovO]);have h2:=H.1.blk (b:=Λ.sb) (t:=61) (cs:=#[.bool false,.slice (some ⟨Λ.ob,0,none⟩) h.T h.T]) (by simp[ovO]);exact⟨h1.cell 1,h1.cell 2,h2.cell 1,H.1.hr.cR,h1.frozen 2⟩
theorem OvO.add{g n mb:Nat}{Λ:WL}{OP:Nat->Value}(hS:ah D Q)(hT:Tab W)(H:OvO W w L X h x s k E D Q g n Λ OP){w1 w2:World}(hf1:Fr [] w w1)(hb:Blk w1 mb 127 (muV L.hb n Λ.sb (MU.zero 0)))(hn:w.heap.size<=mb)
  {nv:Array Value}{t0:TypeId}{A':Option Addr}{c':Nat}{G':List Nat} (hL:Lr w2 62 A' (n+1) c' G' (aQ Λ.P n++[.pointer (some ⟨mb,0,none⟩)])) (hg:Fr Λ.mG (w1.alloc (.cells nv t0)) w2) (hG:∀g,g∈G'->g∈Λ.mG\/g=(w1.alloc (.cells nv t0)).heap.size) :
  OvO W (w2.setCell ⟨Λ.wb,2,none⟩ (.slice A' (n+1) c')) L X h x s k E D Q g (n+1) { Λ with mA:=A',mc:=c',mG:=G',P:=ai Λ.P n mb } OP:=by
 obtain⟨H,hDG,hEw⟩:=H;have hS1:=hS.row 62 Λ.mA n Λ.mc Λ.mG (aQ Λ.P n);have H1:=(H.new hS1 hf1 hb hn).fr0 hS1 ((Fr.refl _ _).alloc (.cells nv t0));have hq:=hS.stay _ w2 Λ.mG H1.q.2 hg hDG;have hs1:=hf1.size;have H2:HM W w2 L X h x s k ((mb,127,muV L.hb n Λ.sb (MU.zero 0))::(ovO Λ L.hb g h.T n OP++E)) (λb=>b∈G'\/D b) (λw=>Lr w 62 A' (n+1) c' G' (aQ (ai Λ.P n mb) (n+1))/\Q w):=
  H1.live hT hg (λb hb=>.inl hb) (λb hb=>by
   rcases hb with hb|hb
   ·rcases hG b hb with e|e
    ·exact .inl (.inl e)
    ·exact .inr (by rw[e];exact Nat.le_refl _)
   ·exact .inl (.inr hb)) ⟨by rw[tc];exact hL,hq⟩
 have hS2:=hS.row 62 A' (n+1) c' G' (aQ (ai Λ.P n mb) (n+1));have hbw:=H2.blk (b:=Λ.wb) (t:=37) (cs:=wdV L.hb Λ.sb Λ.mA n Λ.mc Λ.pb Λ.nb h.T g (.slice none 0 0) 0 false) (by simp[ovO]);refine⟨?_,λb hb hd=>?_,hEw⟩
 ·have H3:HM W w2 L X h x s k ((Λ.wb,37,wdV L.hb Λ.sb Λ.mA n Λ.mc Λ.pb Λ.nb h.T g (.slice none 0 0) 0 false)::((Λ.sb,61,#[.bool false,.slice (some ⟨Λ.ob,0,none⟩) h.T h.T])::(Λ.ob,128,aI h.T λ_=>.slice none 0 0) ::
   (Λ.pb,82,aI h.T OP)::(Λ.nb,3,aI h.T λ_=>.int .i64 0)::((List.range (n+1)).map λi=>(ai Λ.P n mb i,127,muV L.hb i Λ.sb (MU.zero 0)))++E)) (λb=>b∈G'\/D b) (λw=>Lr w 62 A' (n+1) c' G' (aQ (ai Λ.P n mb) (n+1))/\Q w):=
   H2.sub (λq hq=>by
    have hr:∀i,i∈List.range (n+1)->(ai Λ.P n mb i,127,muV L.hb i Λ.sb (MU.zero 0))∈(mb,127,muV L.hb n Λ.sb (MU.zero 0))::(ovO Λ L.hb g h.T n OP++E):=λi hi=>by
     by_cases e:i=n
     ·subst e;rw[aq];exact C0 ..
     ·rw[az _ _ e];have hi:=List.mem_range.1 hi;refine CZ _ (List.mem_append_left _ ?_);unfold ovO
      iterate 5 (refine CZ _ ?_)
      exact List.mem_map.2 ⟨i,List.mem_range.2 (by omega),rfl⟩
    simp only[C1,C9,List.mem_map,List.cons_append]at hq;rcases hq with e|e|e|e|e|⟨i,hi,e⟩|e
    ·rw[e];simp[ovO]
    ·rw[e];simp[ovO]
    ·rw[e];simp[ovO]
    ·rw[e];simp[ovO]
    ·rw[e];simp[ovO]
    ·rw[<- e];exact hr i hi
    ·exact CZ _ (List.mem_append_right _ e))
  have hne:∀q,q∈((Λ.sb,61,#[.bool false,.slice (some ⟨Λ.ob,0,none⟩) h.T h.T])::(Λ.ob,128,aI h.T λ_=>.slice none 0 0) ::
   (Λ.pb,82,aI h.T OP)::(Λ.nb,3,aI h.T λ_=>.int .i64 0)::((List.range (n+1)).map λi=>(ai Λ.P n mb i,127,muV L.hb i Λ.sb (MU.zero 0)))++E:aK)->q.1≠Λ.wb:=λq hq=>by
   have key:∀ {b:Nat}{t:TypeId}{cs:Array Value},Blk w2 b t cs->t≠37->b≠Λ.wb:=λhm ht=>hm.apart hbw ht;have hq3:=H3.blk (b:=q.1) (t:=q.2.1) (cs:=q.2.2) (CZ _ hq);simp only[C1,C9,List.mem_map,List.cons_append]at hq;rcases hq with e|e|e|e|⟨i,hi,e⟩|e
   ·exact key hq3 (by rw[e];simp only;decide)
   ·exact key hq3 (by rw[e];simp only;decide)
   ·exact key hq3 (by rw[e];simp only;decide)
   ·exact key hq3 (by rw[e];simp only;decide)
   ·exact key hq3 (by rw[<- e];simp only;decide)
   ·exact hEw q e
  have hp:=hbw.put 2 (.slice A' (n+1) c');have H4:=H3.l7 hS2 hT ((Fr.refl [Λ.wb] w2).setCell (p:=⟨Λ.wb,2,none⟩) (.inl (by simp)) (.slice A' (n+1) c')) (cs':=wdV L.hb Λ.sb A' (n+1) c' Λ.pb Λ.nb h.T g (.slice none 0 0) 0 false) (by unfold wdV at hp ⊢;simpa using hp) hne;exact H4
 ·rcases hG b hb with e|e
  ·exact hDG b e hd
  ·have:=hS.lt _ (H1.q.2) b hd;omega
theorem OvO.congr{g n:Nat}{Λ:WL}{OP OP':Nat->Value}(H:OvO W w L X h x s k E D Q g n Λ OP)(e:∀i,i<h.T->OP i=OP' i):OvO W w L X h x s k E D Q g n Λ OP':=by
 have e2:aI h.T OP=aI h.T OP':=by
  refine pD (by simp[dU]) λi hi=>?_;rw[de hi,e i hi]
 unfold OvO ovO at H ⊢;rw[<- e2];exact H
theorem OvO.op{g n t:Nat}{Λ:WL}{OP:Nat->Value}(hS:ah D Q)(hT:Tab W)(H:OvO W w L X h x s k E D Q g n Λ OP)(hE:∀q,q∈E->q.1≠Λ.pb)(v:Value) :
  w.frozen? ⟨Λ.pb,t,none⟩=false/\OvO W (w.setCell ⟨Λ.pb,t,none⟩ v) L X h x s k E D Q g n Λ (bC OP t v):=by
 obtain⟨H,h2,h3⟩:=H;have hS1:=hS.row 62 Λ.mA n Λ.mc Λ.mG (aQ Λ.P n);have H1:HM W w L X h x s k ((Λ.pb,82,aI h.T OP)::((Λ.wb,37,wdV L.hb Λ.sb Λ.mA n Λ.mc Λ.pb Λ.nb h.T g (.slice none 0 0) 0 false)::(Λ.sb,61,#[.bool false,.slice (some ⟨Λ.ob,0,none⟩) h.T h.T])::(Λ.ob,128,aI h.T λ_=>.slice none 0 0) ::
   (Λ.nb,3,aI h.T λ_=>.int .i64 0)::((List.range n).map λi=>(Λ.P i,127,muV L.hb i Λ.sb (MU.zero 0)))++E)) (λb=>b∈Λ.mG\/D b) (λw=>Lr w 62 Λ.mA n Λ.mc Λ.mG (aQ Λ.P n)/\Q w):=
  H.sub (λq hq=>by
   simp only[C1,C9,List.cons_append]at hq;simp only[ovO,C1,C9,List.cons_append];rcases hq with e|e|e|e|e|e|e
   ·simp[e]
   ·simp[e]
   ·simp[e]
   ·simp[e]
   ·simp[e]
   ·exact .inr (.inr (.inr (.inr (.inr (.inl e)))))
   ·simp[e])
 have hp:=H1.blk (b:=Λ.pb) (C0 ..);have hp2:=hp.put t v;rw[ib]at hp2;have H2:=H1.l7 hS1 hT ((Fr.refl [Λ.pb] w).setCell (p:=⟨Λ.pb,t,none⟩) (.inl (by simp)) v) hp2 (λq hq=>by
  have hq3:=H1.blk (b:=q.1) (t:=q.2.1) (cs:=q.2.2) (CZ _ hq);simp only[C1,C9,List.mem_map,List.cons_append]at hq;rcases hq with e|e|e|e|⟨i,_,e⟩|e
  ·exact hq3.apart hp (by rw[e];simp only;decide)
  ·exact hq3.apart hp (by rw[e];simp only;decide)
  ·exact hq3.apart hp (by rw[e];simp only;decide)
  ·exact hq3.apart hp (by rw[e];simp only;decide)
  ·exact hq3.apart hp (by rw[<- e];simp only;decide)
  ·exact hE q e)
 refine⟨hp.frozen t,H2.sub (λq hq=>?_),h2,h3⟩;simp only[ovO,C1,C9,List.cons_append]at hq;simp only[C1,C9,List.cons_append];rcases hq with e|e|e|e|e|e|e
 ·simp[e]
 ·simp[e]
 ·simp[e]
 ·simp[e]
 ·simp[e]
 ·exact .inr (.inr (.inr (.inr (.inr (.inl e)))))
 ·simp[e]
theorem yI(hS:ah D Q)(hT:Tab W)(H:HM W w L X h x s k [] D Q)(g:Nat){oA:Option Addr}{on oc:Nat}{zA:Nat->Option Addr}{zn zc:Nat->Nat}{f:Nat->Nat->Po}(hO:ky W oA on zA zn zc f):Calls Tryz.prog 23 #[.pointer (some ⟨L.hb,0,none⟩),.pointer (some ⟨g,0,none⟩),.slice oA on oc] w λe w'=>
  ∃Λ,e=.returned (.tuple #[.pointer (some ⟨Λ.wb,0,none⟩),.bool true])/\OvO W w' L X h x s k [] D Q g h.T Λ (gF on zA zn zc):=by
 have HOI:=aa hO;clear hO;obtain⟨i0,hi,hz0,hz1,hz2⟩:=info_parts Tryz.ta;have hT64:=H.ok.tm;obtain⟨T,hTe⟩:∃T,T=h.T:=⟨_,rfl⟩;obtain⟨rA,hrA⟩:∃rA,rA=L.rA:=⟨_,rfl⟩;have hmk1:∀w',(Instr.makeSlice 59 (.int .i64 (T:Int)) (.int .i64 (T:Int))).run Tryz.prog w'=.ok (.slice (some ⟨w'.heap.size,0,none⟩) T T) (w'.alloc (.cells (aI T λ_=>.slice none 0 0) 128)):=iL Tryz.underlying59 Tryz.lT rfl (by decide) (by omega);have hmk2:∀w',(Instr.makeSlice 24 (.int .i64 (T:Int)) (.int .i64 (T:Int))).run Tryz.prog w'=.ok (.slice (some ⟨w'.heap.size,0,none⟩) T T) (w'.alloc (.cells (aI T λ_=>.slice none 0 0) 82)):=iL Tryz.underlying24 Tryz.vD rfl (by decide) (by omega);have hmk3:∀w',(Instr.makeSlice 25 (.int .i64 (T:Int)) (.int .i64 (T:Int))).run Tryz.prog w'=.ok (.slice (some ⟨w'.heap.size,0,none⟩) T T) (w'.alloc (.cells (aI T λ_=>.int .i64 0) 3)):=iL Tryz.underlying25 Tryz.nK rfl (by decide) (by omega);have c27:w.cell? ⟨L.hb,27,none⟩=some (.slice rA T L.rc):=by rw[hrA,hTe];exact H.hr.cR
 have HH:=aa H;have HZ:Hid (∀w' wb sb ob pb nb,Fr [] w w'->Blk w' wb 37 (wdV L.hb sb none 0 0 pb nb T g (.slice none 0 0) 0 false)->Blk w' sb 61 #[.bool false,.slice (some ⟨ob,0,none⟩) T T]->Blk w' ob 128 (aI T λ_=>.slice none 0 0)->Blk w' pb 82 (aI T λ_=>.slice none 0 0)->Blk w' nb 3 (aI T λ_=>.int .i64 0)->(w.heap.size<=wb/\w.heap.size<=sb/\w.heap.size<=ob/\w.heap.size<=pb/\w.heap.size<=nb)->OvO W w' L X h x s k [] D Q g 0 ⟨wb,sb,ob,pb,nb,none,0,[],λ_=>0⟩ (λ_=>.slice none 0 0)):=λw' wb sb ob pb nb hf h1 h2 h3 h4 h5 hb=>by
  rw[hTe]at h1 h2 h3 h4 h5;exact BH.zero hS hT H hf h1 h2 h3 h4 h5 hb
 have HTE:=aa (show T=h.T/\rA=L.rA/\T<=64 from ⟨hTe,hrA,by omega⟩);clear H hT64 hTe hrA;go_enter Tryz.func23,Tryz.ntmps23
 go_wp2_with fail
 go_cut [9] from 18 to 29 (λp wc=>∃Λ:WL,p=.pointer (some ⟨Λ.wb,0,none⟩)/\OvO W wc L X h x s k [] D Q g 0 Λ (λ_=>.slice none 0 0))
 case first=>
  go_region_held3 (λw'=>True)
   (exact trivial)
   (first|fail)
  all_goals
   go_wp2_with fail
   go_meet
   case rel=>
    exact⟨⟨_,_,_,_,_,none,0,[],λ_=>0⟩,rfl,HZ.out _ _ _ _ _ _ (((((((Fr.refl [] w).alloc _).alloc _).alloc _).alloc _).alloc _).drew) BI (by first|with_reducible exact oY|with_reducible exact oZ|with_reducible exact o9|with_reducible exact pa) (by first|with_reducible exact oY|with_reducible exact oZ|with_reducible exact o9|with_reducible exact pa) (by first|with_reducible exact oY|with_reducible exact oZ|with_reducible exact o9|with_reducible exact pa) (by first|with_reducible exact oY|with_reducible exact oZ|with_reducible exact o9|with_reducible exact pa) (by refine⟨?_,?_,?_,?_,?_⟩ <;> omega)⟩
 case rest=>
  obtain⟨Λ0,rfl,hO⟩:=hcut;have HO:=aa hO;clear hO HZ hmk1 hmk2 hmk3 c27;go_wp2_with fail
  go_loopw [10] (λi wr=>∃(n:Nat) (Λ:WL),i=.int .i64 n/\n<=T/\Λ.wb=Λ0.wb/\OvO W wr L X h x s k [] D Q g n Λ (jN on n zA zn zc)) (λi _=>T-(intOf i).toNat)
  case atStart=>exact⟨0,Λ0,rfl,Nat.zero_le _,rfl,HO.out.congr (λi _=>by unfold jN;rw[if_neg (by omega)])⟩
  case round=>
   obtain⟨n,Λ,rfl,hn,hwb,hO⟩:=hrel;obtain⟨k1,k2,k3,k4,-⟩:=hO.cells;rw[<- HTE.out.1]at k3 k4;rw[<- HTE.out.2.1]at k4;have HOn:=aa hO;by_cases hlt:n<T
   ·have hlt1:(n:Int)<(T:Int):=by omega
    have hT64:(T:Int)<=64:=by have:=HTE.out.2.2;omega
    have HNw:=aa (qL k4 k3 hlt HTE.out.2.2);have HL:=aa hlt;rw[hwb]at k1 k2;have HWb:=aa hwb;clear hO HO hwb k4 k3;go_wp2_with fail
    refine HNw.out.mono ?_;rintro e w1 ⟨mb,rfl,hl,hb,hf⟩;have HB1:Hid (w.heap.size<=w.heap.size/\wr.heap.size<=mb/\Blk w1 mb 127 (muV L.hb n Λ.sb (MU.zero 0))/\Fr [] wr w1):=⟨Nat.le_refl _,hl,hb,hf⟩;have hO1:=HOn.out.fr0 hS hf;obtain⟨j1,j2,j3,j4,j5⟩:=hO1.cells;rw[HWb.out]at j2;have NW:=af j2;have HFZ:Hid (∀w',Fr Λ.mG (w1.alloc (.cells #[.pointer (some ⟨mb,0,none⟩)] 62)) w'->w'.cell? ⟨Λ0.wb,2,none⟩=some (.slice Λ.mA n Λ.mc)/\w'.frozen? ⟨Λ0.wb,2,none⟩=false):=λw' hg=>by
     have hb0:=hO1.1.blk (b:=Λ.wb) (t:=37) (cs:=wdV L.hb Λ.sb Λ.mA n Λ.mc Λ.pb Λ.nb h.T g (.slice none 0 0) 0 false) (by simp[ovO]);have hnm:Λ.wb∉Λ.mG:=λhx=>hO1.1.q.1.apart hb0 (by decide) hx;have hb1:=(hb0.fr ((Fr.refl [] w1).alloc (.cells #[.pointer (some ⟨mb,0,none⟩)] 62)) (by simp)).fr hg hnm;rw[HWb.out]at hb1;exact⟨hb1.cell 2,hb1.frozen 2⟩
    have HLR:Hid (Lr (w1.alloc (.cells #[.pointer (some ⟨mb,0,none⟩)] 62)) 62 Λ.mA n Λ.mc Λ.mG (aQ Λ.P n)):=hO1.1.q.1.alloc _;have HN:Hid (n+1<=maxLen/\(n+1)*8<=140737488355328):=by have:=HTE.out.2.2;exact⟨by unfold maxLen;omega,by omega⟩
    clear hl hb hf hO1 j1 j3 j4 j5 k1 k2 HNw;go_upto_region 10 with(first|(at_builtin;refine aS rfl _ _ 34 rfl 62 i0 (.pointer none) 8 Tryz.underlying34 hi hz0 hz1 hz2 rfl rfl HLR.out rfl rfl (λ_=>fq w1 _ 62 rfl _ (Fr.refl _ _)) (by intro u hu;simp at hu;rw[hu];rfl) HN.out.1 HN.out.2 ?_;intro A' c' G' w2 HLn HFn HGn;have d0:=(HFZ.out _ HFn.out).1;have dz:=(HFZ.out _ HFn.out).2))
    have HR:Hid (OvO W (w2.setCell ⟨Λ0.wb,2,none⟩ (.slice A' (n+1) c')) L X h x s k [] D Q g (n+1) { Λ with mA:=A',mc:=c',mG:=G',P:=ai Λ.P n mb } (jN on n zA zn zc)):=by
     have:=HOn.out.add hS hT HB1.out.2.2.2 HB1.out.2.2.1 HB1.out.2.1 HLn.out HFn.out (λg hg=>(HGn.out g hg).imp id (λh=>h.1));refine aa ?_;rw[<- HWb.out];exact this
    obtain⟨w5,hw5⟩:∃w5,w5=w2.setCell ⟨Λ0.wb,2,none⟩ (.slice A' (n+1) c'):=⟨_,rfl⟩;rw[<- hw5]at HR ⊢;clear hw5 HLn HFn HGn HLR HFZ j2 d0 dz;obtain⟨Λ1,hΛ1⟩:∃Λ1:WL,Λ1={ Λ with mA:=A',mc:=c',mG:=G',P:=ai Λ.P n mb }:=⟨_,rfl⟩;rw[<- hΛ1]at HR;have hwb1:Λ1.wb=Λ0.wb:=by rw[hΛ1];exact HWb.out
    have HWB1:=aa hwb1;clear hΛ1 hwb1;by_cases hon:n<on
    ·have hon1:(n:Int)<(on:Int):=by omega
     obtain⟨ab,ao,hoA,hab,hcl⟩:=HOI.out.row (by omega);have hf5:=HR.out.1.fr;have q0:w5.cell? ⟨ab,ao+n,none⟩=some (.slice (zA n) (zn n) (zc n)):=(hf5.cell (p:=⟨ab,ao+n,none⟩) hab (by simp)).trans (hcl n hon);have hpb:=HR.out.1.blk (b:=Λ1.wb) (t:=37) (cs:=wdV L.hb Λ1.sb Λ1.mA (n+1) Λ1.mc Λ1.pb Λ1.nb h.T g (.slice none 0 0) 0 false) (by simp[ovO]);have q3:=hpb.cell 3;rw[HWB1.out,<- HTE.out.1]at q3;replace q3:w5.cell? ⟨Λ0.wb,3,none⟩=some (.slice (some ⟨Λ1.pb,0,none⟩) T T):=q3;have hpp:=HR.out.1.blk (b:=Λ1.pb) (t:=82) (cs:=aI h.T (jN on n zA zn zc)) (by simp[ovO]);have qp:w5.cell? ⟨Λ1.pb,n,none⟩=some (.slice none 0 0):=by
      rw[hpp.cell,de (by have:=HTE.out.1;omega)];unfold jN;rw[if_neg (Nat.lt_irrefl n)]
     have NP:=af qp;obtain⟨zp,hR2⟩:=HR.out.op (t:=n) hS hT (λq hq=>by cases hq) (gF on zA zn zc n);have hR3:=hR2.congr (OP':=jN on (n+1) zA zn zc) (λi _=>by
      unfold bC jN;by_cases e:i=n
      ·subst e;rw[if_pos rfl,if_pos (by omega)]
      ·rw[if_neg e];by_cases e2:i<n
       ·rw[if_pos e2,if_pos (by omega)]
       ·rw[if_neg e2,if_neg (by omega)])
     have hop:gF on zA zn zc n=.slice (zA n) (if zn n<60 then zn n else 60) (zc n):=by unfold gF;rw[if_pos hon]
     rw[hop]at hR3;obtain⟨l1,l2⟩:=HOI.out.len n hon;subst hoA;have HR3:=aa hR3;obtain⟨r1,hr1⟩:∃r1,r1=zn n:=⟨_,rfl⟩;obtain⟨r2,hr2⟩:∃r2,r2=zc n:=⟨_,rfl⟩;obtain⟨zA1,hzA⟩:∃zA1,zA1=zA n:=⟨_,rfl⟩;rw[<- hr1,<- hr2,<- hzA]at HR3 q0;rw[<- hr1]at l1 l2;rw[<- hr2]at l1;have NQ:=af q0;have N3:=af q3;clear hR2 hR3 hop hpb hpp hr1 hr2 hzA hcl hab hf5;by_cases h60:r1<60
     ·rw[if_pos h60]at HR3;have h60i:min (r1:Int) 60=(r1:Int):=by omega
      have l1i:(r1:Int)<=(r2:Int):=by omega
      have l0i:(0:Int)<=(r1:Int):=by omega
      go_wp2_with fail
      refine bF 17 (by kernel_rfl) (by kernel_rfl) ?_;simp only[List.take_succ_cons,List.take_zero,List.drop_succ_cons,List.drop_zero]
      repeat still_step
      refine wpStill_nil ?_;go_wp2_with fail
      go_roundw
      case rel=>exact⟨n+1,Λ1,by go_num,by have:=HL.out;omega,HWB1.out,HR3.out.fr0 hS (Fr.refl _ _).drew⟩
      case measure=>simp[intOf];have:=HL.out;omega
     ·rw[if_neg h60]at HR3;have h60i:min (r1:Int) 60=60:=by omega
      have l1i:(60:Int)<=(r2:Int):=by omega
      go_wp2_with fail
      refine bF 17 (by kernel_rfl) (by kernel_rfl) ?_;simp only[List.take_succ_cons,List.take_zero,List.drop_succ_cons,List.drop_zero]
      repeat still_step
      refine wpStill_nil ?_;go_wp2_with fail
      go_roundw
      case rel=>exact⟨n+1,Λ1,by go_num,by have:=HL.out;omega,HWB1.out,HR3.out.fr0 hS (Fr.refl _ _).drew⟩
      case measure=>simp[intOf];have:=HL.out;omega
    ·have hon1:¬ (n:Int)<(on:Int):=by omega
     go_wp2_with fail
     go_roundw
     case rel=>exact⟨n+1,Λ1,by go_num,by have:=HL.out;omega,HWB1.out,HR.out.congr (λi _=>by
      unfold jN gF;by_cases e2:i<n
      ·rw[if_pos e2,if_pos (show i<n+1 by omega)]
      ·by_cases e:i=n
       ·subst e;rw[if_neg e2,if_pos (show i<i+1 by omega),if_neg hon]
       ·rw[if_neg e2,if_neg (show ¬ i<n+1 by omega)])⟩
     case measure=>simp[intOf];have:=HL.out;omega
   ·obtain rfl:n=T:=by omega
    have HO2:Hid (∃Λ:WL,Λ.wb=Λ0.wb/\OvO W wr L X h x s k [] D Q g h.T Λ (gF on zA zn zc)):=⟨Λ,hwb,by rw[<- HTE.out.1];exact hO.congr (λi hi=>by unfold jN;rw[if_pos (by have:=HTE.out.1;omega)])⟩;clear hO HO hwb k1 k2 k3 k4 HOn;go_wp2_with fail
    go_ret2
    obtain⟨Λ,e1,hO⟩:=HO2.out;exact⟨Λ,by rw[e1];rfl,hO⟩
end
end Go.Proofs.YtimlkjppaalfaaaGreatDoor
