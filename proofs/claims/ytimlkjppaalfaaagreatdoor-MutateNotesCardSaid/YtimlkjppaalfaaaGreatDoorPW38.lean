/- gleanerref13: step, the operations 2 to 8 and 13. -/
import Derived.Test.YtimlkjppaalfaaaGreatDoorPW36
import Derived.Deep.CutRange
import Derived.WalkKit
import Derived.BigQuiet
set_option linter.unusedVariables false
set_option linter.unusedSimpArgs false
set_option maxHeartbeats 3200000
set_option maxRecDepth 100000
open Int renaming eq_ofNat_of_zero_le->Da
namespace Go.Proofs.YtimlkjppaalfaaaGreatDoor
open Go.RowKit Go.Gl
section
variable {w w':World}{tg tg':TG}{F:List Nat}{Λ:ML}{T B M:Nat}{σ:GS}{t:Nat}
theorem Ag(h:MG w tg Λ T T B M σ)(ok:GOk T B σ)(hd:fc T B M)(ht:t<T)(a b c v:Int){ab:Nat}{th dn:Int}(hab:Blk w ab 71 (dK th dn ⟨0,0,false⟩))(htg:(tg ab).1=0) :
  Calls Tryz.prog 53 #[.pointer (some ⟨Λ.m,0,none⟩),.pointer (some ⟨Λ.S t,0,none⟩),opV ⟨4,a,b,c,v⟩,.pointer (some ⟨ab,0,none⟩)] w (au w tg Λ.m T B M σ ab th dn ⟨bI σ t a b,ie σ t a b,false⟩):=by
 have hf1:Fr [] w (w.alloc (.cells #[.int .i64 4,.int .i64 a,.int .i64 b,.int .i64 c,.int .u64 v] 69)):=(Fr.refl _ _).alloc _;obtain⟨w1,hw1⟩:∃w1,w1=w.alloc (.cells #[.int .i64 4,.int .i64 a,.int .i64 b,.int .i64 c,.int .u64 v] 69):=⟨_,rfl⟩;have hbo:Blk w1 w.heap.size 69 #[.int .i64 4,.int .i64 a,.int .i64 b,.int .i64 c,.int .u64 v]:=by rw[hw1];exact Blk.new _ _ _
 rw[<- hw1]at hf1;have hp1:=h.fr0 hf1;have HW1:=aa hw1;have HF1:=aa hf1;have HAB:=aa hab;have HTG:=aa htg;have HM:=aa hp1.at;have e0:w1.cell? ⟨w.heap.size,0,none⟩=some (.int .i64 4):=by rw[hbo.cell];rfl
 have e1:w1.cell? ⟨w.heap.size,1,none⟩=some (.int .i64 a):=by rw[hbo.cell];rfl
 have e2:w1.cell? ⟨w.heap.size,2,none⟩=some (.int .i64 b):=by rw[hbo.cell];rfl
 have e3:w1.cell? ⟨w.heap.size,3,none⟩=some (.int .i64 c):=by rw[hbo.cell];rfl
 have e4:w1.cell? ⟨w.heap.size,4,none⟩=some (.int .u64 v):=by rw[hbo.cell];rfl
 have NO:w.heap.size<w1.heap.size:=af e0;unfold opV;clear hw1 hf1 hab htg h hbo;have HA:=aa (f6 hp1 ok ht a);by_cases h0:aD σ t a=0
 ·have hat:=ok.at t a;have hne:=(ga.1 h0).2;obtain⟨o,oc,k,q1,q2,q3,q4,q5,cr,cd⟩:=hp1.ob (r:=aj (σ.st t) a) (by omega) hat.2;obtain⟨A,rc,hv,hs⟩:=(hp1.data _ (by omega) hat.2).sl;have hr1:1<=aj (σ.st t) a:=by omega
  have hr2:=hat.2;have hdl:(dk σ (aj (σ.st t) a)).length=σ.nw (aj (σ.st t) a):=by simp[dk]
  rw[hv]at cd;rw[hdl]at hs cd;have hnp:=ok.nw (aj (σ.st t) a);rw[h0,q4]at HA;have hEv:bI σ t a b=if aA (σ.nw (aj (σ.st t) a)) b then 0 else 11:=by unfold bI;rw[if_neg (show ¬ (aD σ t a≠0) from λhx=>hx h0)]
  unfold ie;rw[hEv];rcases dF (σ.nw (aj (σ.st t) a)) b with⟨k1,k2⟩|⟨k1,k3,k2⟩|⟨k1,k3,k2⟩
  ·rw[if_neg k2,if_neg (show ¬ (11:Int)=0 by decide)];generalize σ.nw (aj (σ.st t) a)=n at *;clear hp1 hs k2 h0 hat hne q1 q2 q3 q4 hv cr ok hd ht hEv hr1 hr2 hdl;go_enter Tryz.func53,Tryz.ntmps53
   go_upto_region 1 with fail
   rw[<- HW1.out];go_wp2_with fail
   refine HA.out.mono ?_;rintro e w' ⟨rfl,rfl⟩;go_wp2_with fail
   go_quiet (fail)
   go_wp2_with fail
   go_ret
   exact au.of0 HF1.out (GFr.refl _ _) HM.out HAB.out HTG.out ((Fr.refl _ _).drewN _)
  ·rw[if_neg k2,if_neg (show ¬ (11:Int)=0 by decide)];have k0:¬ b<0:=by omega
   generalize σ.nw (aj (σ.st t) a)=n at *;clear hp1 hs k2 h0 hat hne q1 q2 q3 q4 hv cr ok hd ht hEv hr1 hr2 hdl;go_enter Tryz.func53,Tryz.ntmps53
   go_upto_region 1 with fail
   rw[<- HW1.out];go_wp2_with fail
   refine HA.out.mono ?_;rintro e w' ⟨rfl,rfl⟩;go_wp2_with fail
   go_quiet (fail)
   go_wp2_with fail
   go_ret
   exact au.of0 HF1.out (GFr.refl _ _) HM.out HAB.out HTG.out ((Fr.refl _ _).drewN _)
  ·rw[if_pos k2,if_pos rfl];obtain⟨j,rfl⟩:=Da k1;obtain⟨g,off,rfl,hg,hcs⟩:=hs (by omega);have cj:w1.cell? ⟨g,off+j,none⟩=some (.int .u64 (σ.dat (aj (σ.st t) a) (j:Int))):=by
    have:=hcs j (by omega);dsimp only at this;rwa[show(dk σ (aj (σ.st t) a)).getD j 0=σ.dat (aj (σ.st t) a) (j:Int)by simp[dk,show j<σ.nw (aj (σ.st t) a)by omega]]at this
   have k0:¬ (j:Int)<0:=by omega
   have hb1:=HAB.out.fr HF1.out (by simp);have d3:w1.cell? ⟨ab,3,none⟩=some (.int .u64 0):=by rw[hb1.cell];rfl
   have dz:=hb1.frozen 3;have NA:ab<w1.heap.size:=hb1.lt;have HB1:=aa hb1;generalize σ.dat (aj (σ.st t) a) (j:Int)=y at *;generalize σ.nw (aj (σ.st t) a)=n at *;clear hp1 hs hcs k2 h0 hat hne q1 q2 q3 q4 hv cr ok hd ht hEv hr1 hr2 hdl hb1;go_enter Tryz.func53,Tryz.ntmps53
   go_upto_region 1 with fail
   rw[<- HW1.out];go_wp2_with fail
   refine HA.out.mono ?_;rintro e w' ⟨rfl,rfl⟩;go_wp2_with fail
   go_quiet (fail)
   go_wp2_with fail
   refine bF 11 (by kernel_rfl) (by kernel_rfl) ?_;simp only[List.take_succ_cons,List.take_zero,List.drop_succ_cons,List.drop_zero]
   repeat still_step
   refine wpStill_nil ?_;go_wp2_with fail
   go_ret
   exact au.of HF1.out (GFr.fr0 (((Fr.refl _ _).drewN _).drew)) (HM.out.fr0 (((Fr.refl _ _).drewN _).drew)) HAB.out HTG.out ((Fr.refl _ _).setCell (p:=⟨ab,3,none⟩) (.inl (by simp)) _) (by have:=((HB1.out.fr ((Fr.refl [] w1).drewN (nq+1)) (by simp)).put 3 (.int .u64 y));simpa[dK] using this)
 ·have hEv:bI σ t a b=aD σ t a:=by unfold bI;rw[if_pos h0]
  unfold ie;rw[hEv,if_neg h0];rw[jI h0,nN]at HA;have hne:(aD σ t a !=0)=true:=by simpa using h0
  generalize aD σ t a=E at *;clear hp1 h0 ok hd ht hEv;go_enter Tryz.func53,Tryz.ntmps53
  go_upto_region 1 with fail
  rw[<- HW1.out];go_wp2_with fail
  refine HA.out.mono ?_;rintro e w' ⟨rfl,rfl⟩;go_wp2_with fail
  go_ret
  exact au.of0 HF1.out (GFr.refl _ _) HM.out HAB.out HTG.out (Fr.refl _ _)
theorem Ah(h:MG w tg Λ T T B M σ)(ok:GOk T B σ)(hd:fc T B M)(ht:t<T)(a b c v:Int){ab:Nat}{th dn:Int}(hab:Blk w ab 71 (dK th dn ⟨0,0,false⟩))(htg:(tg ab).1=0) :
  Calls Tryz.prog 53 #[.pointer (some ⟨Λ.m,0,none⟩),.pointer (some ⟨Λ.S t,0,none⟩),opV ⟨5,a,b,c,v⟩,.pointer (some ⟨ab,0,none⟩)] w (au w tg Λ.m T B M (cp σ t a b v) ab th dn ⟨bI σ t a b,0,false⟩):=by
 have hf1:Fr [] w (w.alloc (.cells #[.int .i64 5,.int .i64 a,.int .i64 b,.int .i64 c,.int .u64 v] 69)):=(Fr.refl _ _).alloc _;obtain⟨w1,hw1⟩:∃w1,w1=w.alloc (.cells #[.int .i64 5,.int .i64 a,.int .i64 b,.int .i64 c,.int .u64 v] 69):=⟨_,rfl⟩;have hbo:Blk w1 w.heap.size 69 #[.int .i64 5,.int .i64 a,.int .i64 b,.int .i64 c,.int .u64 v]:=by rw[hw1];exact Blk.new _ _ _
 rw[<- hw1]at hf1;have hp1:=h.fr0 hf1;have HW1:=aa hw1;have HF1:=aa hf1;have HAB:=aa hab;have HTG:=aa htg;have HM:=aa hp1.at;have e0:w1.cell? ⟨w.heap.size,0,none⟩=some (.int .i64 5):=by rw[hbo.cell];rfl
 have e1:w1.cell? ⟨w.heap.size,1,none⟩=some (.int .i64 a):=by rw[hbo.cell];rfl
 have e2:w1.cell? ⟨w.heap.size,2,none⟩=some (.int .i64 b):=by rw[hbo.cell];rfl
 have e3:w1.cell? ⟨w.heap.size,3,none⟩=some (.int .i64 c):=by rw[hbo.cell];rfl
 have e4:w1.cell? ⟨w.heap.size,4,none⟩=some (.int .u64 v):=by rw[hbo.cell];rfl
 have NO:w.heap.size<w1.heap.size:=af e0;unfold opV;clear hw1 hf1 hab htg h hbo;have HA:=aa (f6 hp1 ok ht a);by_cases h0:aD σ t a=0
 ·have hat:=ok.at t a;have hne:=(ga.1 h0).2;obtain⟨o,oc,k,q1,q2,q3,q4,q5,cr,cd⟩:=hp1.ob (r:=aj (σ.st t) a) (by omega) hat.2;obtain⟨A,rc,hv,hs⟩:=(hp1.data _ (by omega) hat.2).sl;have hr1:1<=aj (σ.st t) a:=by omega
  have hr2:=hat.2;have hdl:(dk σ (aj (σ.st t) a)).length=σ.nw (aj (σ.st t) a):=by simp[dk]
  rw[hv]at cd;rw[hdl]at hs cd;have hnp:=ok.nw (aj (σ.st t) a);rw[h0,q4]at HA;have hEv:bI σ t a b=if aA (σ.nw (aj (σ.st t) a)) b then 0 else 11:=by unfold bI;rw[if_neg (show ¬ (aD σ t a≠0) from λhx=>hx h0)]
  unfold cp;rw[hEv];rcases dF (σ.nw (aj (σ.st t) a)) b with⟨k1,k2⟩|⟨k1,k3,k2⟩|⟨k1,k3,k2⟩
  ·rw[if_neg k2,if_neg (show ¬ (11:Int)=0 by decide)];generalize σ.nw (aj (σ.st t) a)=n at *;clear hp1 hs k2 h0 hat hne q1 q2 q3 q4 hv cr ok hd ht hEv hr1 hr2 hdl;go_enter Tryz.func53,Tryz.ntmps53
   go_upto_region 1 with fail
   rw[<- HW1.out];go_wp2_with fail
   refine HA.out.mono ?_;rintro e w' ⟨rfl,rfl⟩;go_wp2_with fail
   go_quiet (fail)
   go_wp2_with fail
   go_ret
   exact au.of0 HF1.out (GFr.refl _ _) HM.out HAB.out HTG.out ((Fr.refl _ _).drewN _)
  ·rw[if_neg k2,if_neg (show ¬ (11:Int)=0 by decide)];have k0:¬ b<0:=by omega
   generalize σ.nw (aj (σ.st t) a)=n at *;clear hp1 hs k2 h0 hat hne q1 q2 q3 q4 hv cr ok hd ht hEv hr1 hr2 hdl;go_enter Tryz.func53,Tryz.ntmps53
   go_upto_region 1 with fail
   rw[<- HW1.out];go_wp2_with fail
   refine HA.out.mono ?_;rintro e w' ⟨rfl,rfl⟩;go_wp2_with fail
   go_quiet (fail)
   go_wp2_with fail
   go_ret
   exact au.of0 HF1.out (GFr.refl _ _) HM.out HAB.out HTG.out ((Fr.refl _ _).drewN _)
  ·rw[if_pos k2,if_pos rfl];obtain⟨j,rfl⟩:=Da k1;obtain⟨g,off,rfl,hg,hcs⟩:=hs (by omega);have cj:=hcs j (by omega);have fz:∀i,w1.frozen? ⟨g,i,none⟩=false:=by
    obtain⟨A',c',G',f1,f2,_⟩:=hp1.data _ hr1 hr2;rw[hv]at f1;injection f1 with f1;subst f1;obtain⟨_,_,f3,_,_,_,f4,_⟩:=f2.pos (by rw[hdl];omega);injection f3 with f3;injection f3 with f3;subst f3;exact f4
   have fzj:=fz (off+j);have HP:Hid (∀w',Fr [] w1 w'->MAt (w'.setCell ⟨g,off+j,none⟩ (.int .u64 v)) tg Λ.m T B M (σ.cQ (aj (σ.st t) a) (j:Int) v)/\GFr w' tg (w'.setCell ⟨g,off+j,none⟩ (.int .u64 v)) tg):=λw' hf=>by
    obtain⟨k8,k9⟩:=(hp1.fr0 hf).CU hr1 hr2 (show j<σ.nw (aj (σ.st t) a)by omega) hv v;exact⟨k8.at,k9⟩
   have k0:¬ (j:Int)<0:=by omega
   generalize (dk σ (aj (σ.st t) a)).getD j 0=y0 at *;clear hs hcs k2 h0 hat hne q1 q2 q3 q4 hv cr ok hd ht HM hEv hr1 hr2 fz hdl hp1;generalize σ.nw (aj (σ.st t) a)=n at *;generalize σ.cQ (aj (σ.st t) a) (j:Int) v=σ' at *;go_enter Tryz.func53,Tryz.ntmps53
   go_upto_region 1 with fail
   rw[<- HW1.out];go_wp2_with fail
   refine HA.out.mono ?_;rintro e w' ⟨rfl,rfl⟩;go_wp2_with fail
   go_quiet (fail)
   go_wp2_with fail
   refine bF 9 (by kernel_rfl) (by kernel_rfl) ?_;simp only[List.take_succ_cons,List.take_zero,List.drop_succ_cons,List.drop_zero]
   repeat still_step
   refine wpStill_nil ?_;go_wp2_with fail
   go_ret
   obtain⟨k8,k9⟩:=HP.out _ (((Fr.refl _ _).drewN _).drew);exact au.of0 HF1.out ((GFr.fr0 (((Fr.refl _ _).drewN _).drew)).trans k9) k8 HAB.out HTG.out (Fr.refl _ _)
 ·have hEv:bI σ t a b=aD σ t a:=by unfold bI;rw[if_pos h0]
  unfold cp;rw[hEv,if_neg h0];rw[jI h0,nN]at HA;have hne:(aD σ t a !=0)=true:=by simpa using h0
  generalize aD σ t a=E at *;clear hp1 h0 ok hd ht hEv;go_enter Tryz.func53,Tryz.ntmps53
  go_upto_region 1 with fail
  rw[<- HW1.out];go_wp2_with fail
  refine HA.out.mono ?_;rintro e w' ⟨rfl,rfl⟩;go_wp2_with fail
  go_ret
  exact au.of0 HF1.out (GFr.refl _ _) HM.out HAB.out HTG.out (Fr.refl _ _)
end
end Go.Proofs.YtimlkjppaalfaaaGreatDoor
