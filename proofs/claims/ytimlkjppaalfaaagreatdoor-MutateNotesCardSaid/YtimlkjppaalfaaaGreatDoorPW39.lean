/- gleanerref13: step, the operations 2 to 8 and 13. -/
import Derived.Test.YtimlkjppaalfaaaGreatDoorPW36
import Derived.Deep.CutRange
import Derived.WalkKit
import Derived.BigQuiet
set_option linter.unusedVariables false
set_option linter.unusedSimpArgs false
set_option maxHeartbeats 3200000
set_option maxRecDepth 100000
namespace Go.Proofs.YtimlkjppaalfaaaGreatDoor
open Go.RowKit Go.Gl
section
variable {w w':World}{tg tg':TG}{F:List Nat}{Λ:ML}{T B M:Nat}{σ:GS}{t:Nat}
theorem Ai(h:MG w tg Λ T T B M σ)(ok:GOk T B σ)(hd:fc T B M)(ht:t<T)(a b c v:Int){ab:Nat}{th dn:Int}(hab:Blk w ab 71 (dK th dn ⟨0,0,false⟩))(htg:(tg ab).1=0) :
  Calls Tryz.prog 53 #[.pointer (some ⟨Λ.m,0,none⟩),.pointer (some ⟨Λ.S t,0,none⟩),opV ⟨6,a,b,c,v⟩,.pointer (some ⟨ab,0,none⟩)] w (au w tg Λ.m T B M (σ.push B t 0) ab th dn ⟨ay B (σ.st t),0,false⟩):=by
 have hf1:Fr [] w (w.alloc (.cells #[.int .i64 6,.int .i64 a,.int .i64 b,.int .i64 c,.int .u64 v] 69)):=(Fr.refl _ _).alloc _;obtain⟨w1,hw1⟩:∃w1,w1=w.alloc (.cells #[.int .i64 6,.int .i64 a,.int .i64 b,.int .i64 c,.int .u64 v] 69):=⟨_,rfl⟩;have hbo:Blk w1 w.heap.size 69 #[.int .i64 6,.int .i64 a,.int .i64 b,.int .i64 c,.int .u64 v]:=by rw[hw1];exact Blk.new _ _ _
 rw[<- hw1]at hf1;have hp1:=h.fr0 hf1;have HW1:=aa hw1;have HF1:=aa hf1;have HAB:=aa hab;have HTG:=aa htg;have HM:=aa hp1.at;have e0:w1.cell? ⟨w.heap.size,0,none⟩=some (.int .i64 6):=by rw[hbo.cell];rfl
 have e1:w1.cell? ⟨w.heap.size,1,none⟩=some (.int .i64 a):=by rw[hbo.cell];rfl
 have e2:w1.cell? ⟨w.heap.size,2,none⟩=some (.int .i64 b):=by rw[hbo.cell];rfl
 have e3:w1.cell? ⟨w.heap.size,3,none⟩=some (.int .i64 c):=by rw[hbo.cell];rfl
 have e4:w1.cell? ⟨w.heap.size,4,none⟩=some (.int .u64 v):=by rw[hbo.cell];rfl
 have NO:w.heap.size<w1.heap.size:=af e0;unfold opV;clear hw1 hf1 hab htg h hbo;have HP:Hid (∀w',Fr [] w1 w'->Calls Tryz.prog 103 #[.pointer (some ⟨Λ.S t,0,none⟩),.int .u64 (0)] w' (MSt w' tg Λ T T B M (σ.push B t (0)) (.int .i64 (ay B (σ.st t))))):=λw' hf=>gE (hp1.fr0 hf) ok hd (by assumption) _;generalize σ.push B t 0=σ' at *;generalize ay B (σ.st t)=E at *;clear hp1 ok hd ht HM;go_enter Tryz.func53,Tryz.ntmps53
 go_upto_region 1 with fail
 rw[<- HW1.out];go_wp2_with fail
 refine(HP.out _ (Fr.refl _ _)).mono ?_;rintro e w2 ⟨rfl,tg2,hp2,hg2⟩;have HP2:=aa hp2.at;have HG2:=aa hg2;clear hp2 hg2;go_wp2_with fail
 go_ret
 exact au.of0 HF1.out ((GFr.fr0 (Fr.refl _ _)).trans HG2.out) HP2.out HAB.out HTG.out (Fr.refl _ _)
theorem Aj(h:MG w tg Λ T T B M σ)(ok:GOk T B σ)(hd:fc T B M)(ht:t<T)(a b c v:Int){ab:Nat}{th dn:Int}(hab:Blk w ab 71 (dK th dn ⟨0,0,false⟩))(htg:(tg ab).1=0) :
  Calls Tryz.prog 53 #[.pointer (some ⟨Λ.m,0,none⟩),.pointer (some ⟨Λ.S t,0,none⟩),opV ⟨7,a,b,c,v⟩,.pointer (some ⟨ab,0,none⟩)] w (au w tg Λ.m T B M (nX σ t) ab th dn ⟨cG (σ.st t),0,false⟩):=by
 have hf1:Fr [] w (w.alloc (.cells #[.int .i64 7,.int .i64 a,.int .i64 b,.int .i64 c,.int .u64 v] 69)):=(Fr.refl _ _).alloc _;obtain⟨w1,hw1⟩:∃w1,w1=w.alloc (.cells #[.int .i64 7,.int .i64 a,.int .i64 b,.int .i64 c,.int .u64 v] 69):=⟨_,rfl⟩;have hbo:Blk w1 w.heap.size 69 #[.int .i64 7,.int .i64 a,.int .i64 b,.int .i64 c,.int .u64 v]:=by rw[hw1];exact Blk.new _ _ _
 rw[<- hw1]at hf1;have hp1:=h.fr0 hf1;have HW1:=aa hw1;have HF1:=aa hf1;have HAB:=aa hab;have HTG:=aa htg;have HM:=aa hp1.at;have e0:w1.cell? ⟨w.heap.size,0,none⟩=some (.int .i64 7):=by rw[hbo.cell];rfl
 have e1:w1.cell? ⟨w.heap.size,1,none⟩=some (.int .i64 a):=by rw[hbo.cell];rfl
 have e2:w1.cell? ⟨w.heap.size,2,none⟩=some (.int .i64 b):=by rw[hbo.cell];rfl
 have e3:w1.cell? ⟨w.heap.size,3,none⟩=some (.int .i64 c):=by rw[hbo.cell];rfl
 have e4:w1.cell? ⟨w.heap.size,4,none⟩=some (.int .u64 v):=by rw[hbo.cell];rfl
 have NO:w.heap.size<w1.heap.size:=af e0;unfold opV;clear hw1 hf1 hab htg h hbo;have HP:Hid (∀w',Fr [] w1 w'->Calls Tryz.prog 106 #[.pointer (some ⟨Λ.S t,0,none⟩)] w' (MSt w' tg Λ T T B M (nX σ t) (.tuple #[.int .u64 (fu (σ.st t)),.int .i64 (cG (σ.st t))]))):=λw' hf=>yy (hp1.fr0 hf) ok hd ht;generalize nX σ t=σ' at *;generalize cG (σ.st t)=E at *;generalize fu (σ.st t)=y at *;clear hp1 ok hd ht HM;go_enter Tryz.func53,Tryz.ntmps53
 go_upto_region 1 with fail
 rw[<- HW1.out];go_wp2_with fail
 refine(HP.out _ (Fr.refl _ _)).mono ?_;rintro e w2 ⟨rfl,tg2,hp2,hg2⟩;have HP2:=aa hp2.at;have HG2:=aa hg2;clear hp2 hg2;go_wp2_with fail
 go_ret
 exact au.of0 HF1.out ((GFr.fr0 (Fr.refl _ _)).trans HG2.out) HP2.out HAB.out HTG.out (Fr.refl _ _)
theorem Ak(h:MG w tg Λ T T B M σ)(ok:GOk T B σ)(hd:fc T B M)(ht:t<T)(a b c v:Int){ab:Nat}{th dn:Int}(hab:Blk w ab 71 (dK th dn ⟨0,0,false⟩))(htg:(tg ab).1=0) :
  Calls Tryz.prog 53 #[.pointer (some ⟨Λ.m,0,none⟩),.pointer (some ⟨Λ.S t,0,none⟩),opV ⟨8,a,b,c,v⟩,.pointer (some ⟨ab,0,none⟩)] w (au w tg Λ.m T B M (jc B σ t a) ab th dn ⟨rh B σ t a,0,false⟩):=by
 have hf1:Fr [] w (w.alloc (.cells #[.int .i64 8,.int .i64 a,.int .i64 b,.int .i64 c,.int .u64 v] 69)):=(Fr.refl _ _).alloc _;obtain⟨w1,hw1⟩:∃w1,w1=w.alloc (.cells #[.int .i64 8,.int .i64 a,.int .i64 b,.int .i64 c,.int .u64 v] 69):=⟨_,rfl⟩;have hbo:Blk w1 w.heap.size 69 #[.int .i64 8,.int .i64 a,.int .i64 b,.int .i64 c,.int .u64 v]:=by rw[hw1];exact Blk.new _ _ _
 rw[<- hw1]at hf1;have hp1:=h.fr0 hf1;have HW1:=aa hw1;have HF1:=aa hf1;have HAB:=aa hab;have HTG:=aa htg;have HM:=aa hp1.at;have e0:w1.cell? ⟨w.heap.size,0,none⟩=some (.int .i64 8):=by rw[hbo.cell];rfl
 have e1:w1.cell? ⟨w.heap.size,1,none⟩=some (.int .i64 a):=by rw[hbo.cell];rfl
 have e2:w1.cell? ⟨w.heap.size,2,none⟩=some (.int .i64 b):=by rw[hbo.cell];rfl
 have e3:w1.cell? ⟨w.heap.size,3,none⟩=some (.int .i64 c):=by rw[hbo.cell];rfl
 have e4:w1.cell? ⟨w.heap.size,4,none⟩=some (.int .u64 v):=by rw[hbo.cell];rfl
 have NO:w.heap.size<w1.heap.size:=af e0;unfold opV;clear hw1 hf1 hab htg h hbo;have H1:=aa (fZ hp1 ht a);unfold jc rh;by_cases hi:aG (σ.st t) a
 ·have e5:am (σ.st t) a=0:=by unfold am;rw[if_pos hi]
  rw[e5]at H1;rw[if_pos hi,if_pos hi];have HP:Hid (∀w',Fr [] w1 w'->Calls Tryz.prog 103 #[.pointer (some ⟨Λ.S t,0,none⟩),.int .u64 (aj (σ.st t) a)] w' (MSt w' tg Λ T T B M (σ.push B t (aj (σ.st t) a)) (.int .i64 (ay B (σ.st t))))):=λw' hf=>gE (hp1.fr0 hf) ok hd (by assumption) _;generalize σ.push B t _=σ' at *;generalize ay B (σ.st t)=E at *;generalize aj (σ.st t) a=y at *;clear hp1 ok hd ht HM e5 hi;go_enter Tryz.func53,Tryz.ntmps53
  go_upto_region 1 with fail
  rw[<- HW1.out];go_wp2_with fail
  refine H1.out.mono ?_;rintro e w' ⟨rfl,rfl⟩;go_wp2_with fail
  refine(HP.out _ (Fr.refl _ _)).mono ?_;rintro e w2 ⟨rfl,tg2,hp2,hg2⟩;have HP2:=aa hp2.at;have HG2:=aa hg2;clear hp2 hg2;go_wp2_with fail
  go_ret
  exact au.of0 HF1.out ((GFr.fr0 (Fr.refl _ _)).trans HG2.out) HP2.out HAB.out HTG.out (Fr.refl _ _)
 ·have e5:am (σ.st t) a=10:=by unfold am;rw[if_neg hi]
  rw[e5]at H1;rw[if_neg hi,if_neg hi];generalize aj (σ.st t) a=y at *;clear hp1 ok hd ht e5 hi;go_enter Tryz.func53,Tryz.ntmps53
  go_upto_region 1 with fail
  rw[<- HW1.out];go_wp2_with fail
  refine H1.out.mono ?_;rintro e w' ⟨rfl,rfl⟩;go_wp2_with fail
  go_ret
  exact au.of0 HF1.out (GFr.refl _ _) HM.out HAB.out HTG.out (Fr.refl _ _)
theorem yz(h:MG w tg Λ T T B M σ)(ok:GOk T B σ)(hd:fc T B M)(ht:t<T)(a b c v:Int){ab:Nat}{th dn:Int}(hab:Blk w ab 71 (dK th dn ⟨0,0,false⟩))(htg:(tg ab).1=0) :
  Calls Tryz.prog 53 #[.pointer (some ⟨Λ.m,0,none⟩),.pointer (some ⟨Λ.S t,0,none⟩),opV ⟨13,a,b,c,v⟩,.pointer (some ⟨ab,0,none⟩)] w (au w tg Λ.m T B M (di B T σ t a b) ab th dn ⟨gq B T σ t a b,0,false⟩):=by
 have hf1:Fr [] w (w.alloc (.cells #[.int .i64 13,.int .i64 a,.int .i64 b,.int .i64 c,.int .u64 v] 69)):=(Fr.refl _ _).alloc _;obtain⟨w1,hw1⟩:∃w1,w1=w.alloc (.cells #[.int .i64 13,.int .i64 a,.int .i64 b,.int .i64 c,.int .u64 v] 69):=⟨_,rfl⟩;have hbo:Blk w1 w.heap.size 69 #[.int .i64 13,.int .i64 a,.int .i64 b,.int .i64 c,.int .u64 v]:=by rw[hw1];exact Blk.new _ _ _
 rw[<- hw1]at hf1;have hp1:=h.fr0 hf1;have HW1:=aa hw1;have HF1:=aa hf1;have HAB:=aa hab;have HTG:=aa htg;have HM:=aa hp1.at;have e0:w1.cell? ⟨w.heap.size,0,none⟩=some (.int .i64 13):=by rw[hbo.cell];rfl
 have e1:w1.cell? ⟨w.heap.size,1,none⟩=some (.int .i64 a):=by rw[hbo.cell];rfl
 have e2:w1.cell? ⟨w.heap.size,2,none⟩=some (.int .i64 b):=by rw[hbo.cell];rfl
 have e3:w1.cell? ⟨w.heap.size,3,none⟩=some (.int .i64 c):=by rw[hbo.cell];rfl
 have e4:w1.cell? ⟨w.heap.size,4,none⟩=some (.int .u64 v):=by rw[hbo.cell];rfl
 have NO:w.heap.size<w1.heap.size:=af e0;unfold opV;clear hw1 hf1 hab htg h hbo;have H1:=aa (fZ hp1 ht a);have c2:=hp1.c2;have NM:Λ.m<w1.heap.size:=hp1.st.lt;unfold di gq;by_cases hi:aG (σ.st t) a
 ·have e5:am (σ.st t) a=0:=by unfold am;rw[if_pos hi]
  rw[e5]at H1;have hT:=hd.t;rw[if_pos hi];rcases dF T b with⟨k1,k2⟩|⟨k1,k3,k2⟩|⟨k1,k3,k2⟩
  ·rw[if_neg k2,if_neg (λhx=>k2 hx.2)];generalize aj (σ.st t) a=y at *;clear hp1 k2 ok hd ht e5 hi;go_enter Tryz.func53,Tryz.ntmps53
   go_upto_region 1 with fail
   rw[<- HW1.out];go_wp2_with fail
   refine H1.out.mono ?_;rintro e w' ⟨rfl,rfl⟩;go_wp2_with fail
   go_quiet (fail)
   go_wp2_with fail
   go_ret
   exact au.of0 HF1.out (GFr.refl _ _) HM.out HAB.out HTG.out ((Fr.refl _ _).drewN _)
  ·rw[if_neg k2,if_neg (λhx=>k2 hx.2)];have k0:¬ b<0:=by omega
   generalize aj (σ.st t) a=y at *;clear hp1 k2 ok hd ht e5 hi;go_enter Tryz.func53,Tryz.ntmps53
   go_upto_region 1 with fail
   rw[<- HW1.out];go_wp2_with fail
   refine H1.out.mono ?_;rintro e w' ⟨rfl,rfl⟩;go_wp2_with fail
   go_quiet (fail)
   go_wp2_with fail
   go_ret
   exact au.of0 HF1.out (GFr.refl _ _) HM.out HAB.out HTG.out ((Fr.refl _ _).drewN _)
  ·rw[if_pos k2,if_pos ⟨hi,k2⟩];obtain⟨j,rfl⟩:=Int.eq_ofNat_of_zero_le k1;rw[Int.toNat_natCast];have hj:j<T:=by omega
   have HP:Hid (∀w',Fr [] w1 w'->Calls Tryz.prog 103 #[.pointer (some ⟨Λ.S j,0,none⟩),.int .u64 (aj (σ.st t) a)] w' (MSt w' tg Λ T T B M (σ.push B j (aj (σ.st t) a)) (.int .i64 (ay B (σ.st j))))):=λw' hf=>gE (hp1.fr0 hf) ok hd (by assumption) _;obtain⟨g,off,hg1,_,hg2,hg3,_,_⟩:=hp1.row.pos (by omega);rw[hg1]at c2;have cj:w1.cell? ⟨g,off+j,none⟩=some (.pointer (some ⟨Λ.S j,0,none⟩)):=by rw[hg3 j hj];exact oW _ hj
   have k0:¬ (j:Int)<0:=by omega
   generalize σ.push B j _=σ' at *;generalize ay B (σ.st j)=E at *;generalize aj (σ.st t) a=y at *;clear hp1 ok hd ht HM e5 hi k2 hg1 hg3;go_enter Tryz.func53,Tryz.ntmps53
   go_upto_region 1 with fail
   rw[<- HW1.out];go_wp2_with fail
   refine H1.out.mono ?_;rintro e w' ⟨rfl,rfl⟩;go_wp2_with fail
   go_quiet (fail)
   go_wp2_with fail
   refine bF 9 (by kernel_rfl) (by kernel_rfl) ?_;simp only[List.take_succ_cons,List.take_zero,List.drop_succ_cons,List.drop_zero]
   repeat still_step
   refine wpStill_nil ?_;go_wp2_with fail
   refine(HP.out _ (((Fr.refl _ _).drewN _).drew)).mono ?_;rintro e w2 ⟨rfl,tg2,hp2,hg2⟩;have HP2:=aa hp2.at;have HG2:=aa hg2;clear hp2 hg2;go_wp2_with fail
   go_ret
   exact au.of0 HF1.out ((GFr.fr0 (((Fr.refl _ _).drewN _).drew)).trans HG2.out) HP2.out HAB.out HTG.out (Fr.refl _ _)
 ·have e5:am (σ.st t) a=10:=by unfold am;rw[if_neg hi]
  rw[e5]at H1;rw[if_neg hi,if_neg (λhx=>hi hx.1)];generalize aj (σ.st t) a=y at *;clear hp1 ok hd ht e5 hi c2;go_enter Tryz.func53,Tryz.ntmps53
  go_upto_region 1 with fail
  rw[<- HW1.out];go_wp2_with fail
  refine H1.out.mono ?_;rintro e w' ⟨rfl,rfl⟩;go_wp2_with fail
  go_ret
  exact au.of0 HF1.out (GFr.refl _ _) HM.out HAB.out HTG.out (Fr.refl _ _)
end
end Go.Proofs.YtimlkjppaalfaaaGreatDoor
