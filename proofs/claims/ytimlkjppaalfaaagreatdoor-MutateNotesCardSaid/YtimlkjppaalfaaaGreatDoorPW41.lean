/- Several texts joined (pack.py): Hf Hgo. -/
import Derived.Test.YtimlkjppaalfaaaGreatDoorPW36
import Derived.Test.YtimlkjppaalfaaaGreatDoorPW37
import Derived.Test.YtimlkjppaalfaaaGreatDoorPW38
import Derived.Test.YtimlkjppaalfaaaGreatDoorPW39
import Derived.Test.YtimlkjppaalfaaaGreatDoorPW40
import Derived.Deep.CutRange
import Derived.WalkKit
import Derived.BigQuiet
import Derived.Test.YtimlkjppaalfaaaGreatDoorPW35
set_option linter.unusedVariables false
set_option linter.unusedSimpArgs false
set_option maxHeartbeats 3200000
set_option maxRecDepth 100000
namespace Go.Proofs.YtimlkjppaalfaaaGreatDoor
open Go.RowKit Go.Gl
section
variable {w w':World}{tg tg':TG}{F:List Nat}{Λ:ML}{T B M:Nat}{σ:GS}{t:Nat}
theorem Ao(h:MG w tg Λ T T B M σ)(ok:GOk T B σ)(hd:fc T B M)(ht:t<T)(a b c v:Int){ab:Nat}{th dn:Int}(hab:Blk w ab 71 (dK th dn ⟨0,0,false⟩))(htg:(tg ab).1=0) :
  Calls Tryz.prog 107 #[.pointer (some ⟨Λ.m,0,none⟩),.pointer (some ⟨Λ.S t,0,none⟩),opV ⟨9,a,b,c,v⟩,.pointer (some ⟨ab,0,none⟩)] w (au w tg Λ.m T B M σ ab th dn ⟨eH σ t a b,0,eI σ t a b⟩):=by
 have hf1:Fr [] w (w.alloc (.cells #[.int .i64 9,.int .i64 a,.int .i64 b,.int .i64 c,.int .u64 v] 69)):=(Fr.refl _ _).alloc _;obtain⟨w1,hw1⟩:∃w1,w1=w.alloc (.cells #[.int .i64 9,.int .i64 a,.int .i64 b,.int .i64 c,.int .u64 v] 69):=⟨_,rfl⟩;have hbo:Blk w1 w.heap.size 69 #[.int .i64 9,.int .i64 a,.int .i64 b,.int .i64 c,.int .u64 v]:=by rw[hw1];exact Blk.new _ _ _
 rw[<- hw1]at hf1;have hp1:=h.fr0 hf1;have HW1:=aa hw1;have HF1:=aa hf1;have HAB:=aa hab;have HTG:=aa htg;have HM:=aa hp1.at;have e0:w1.cell? ⟨w.heap.size,0,none⟩=some (.int .i64 9):=by rw[hbo.cell];rfl
 have e1:w1.cell? ⟨w.heap.size,1,none⟩=some (.int .i64 a):=by rw[hbo.cell];rfl
 have e2:w1.cell? ⟨w.heap.size,2,none⟩=some (.int .i64 b):=by rw[hbo.cell];rfl
 have e3:w1.cell? ⟨w.heap.size,3,none⟩=some (.int .i64 c):=by rw[hbo.cell];rfl
 have e4:w1.cell? ⟨w.heap.size,4,none⟩=some (.int .u64 v):=by rw[hbo.cell];rfl
 have NO:w.heap.size<w1.heap.size:=af e0;unfold opV;clear hw1 hf1 hab htg h hbo;have hb1:=HAB.out.fr HF1.out (by simp);have d4:w1.cell? ⟨ab,4,none⟩=some (.bool false):=by rw[hb1.cell];rfl
 have dz:=hb1.frozen 4;have NA:ab<w1.heap.size:=hb1.lt;have HB1:=aa hb1;clear hb1;have H1:=aa (fZ hp1 ht a);have H2:=aa (fZ hp1 ht b);unfold eI eH;by_cases hi:aG (σ.st t) a
 ·have q1:am (σ.st t) a=0:=by unfold am;rw[if_pos hi]
  rw[q1]at H1;rw[if_pos hi];by_cases hj:aG (σ.st t) b
  ·have q2:am (σ.st t) b=0:=by unfold am;rw[if_pos hj]
   rw[q2]at H2 ⊢;rw[show decide (aG (σ.st t) a/\aG (σ.st t) b/\aj (σ.st t) a=aj (σ.st t) b)=decide (aj (σ.st t) a=aj (σ.st t) b)by simp[hi,hj]];generalize aj (σ.st t) a=x at *;generalize aj (σ.st t) b=y at *;clear hp1 hi hj q1 q2 ok hd ht;by_cases he:x=y
   ·subst he;rw[show decide (x=x)=true by simp];have hx:(x==x)=true:=by simp
    go_enter Tryz.func107,Tryz.ntmps107
    go_upto_region 1 with fail
    rw[<- HW1.out];go_wp2_with fail
    refine H1.out.mono ?_;rintro e w' ⟨rfl,rfl⟩;go_wp2_with fail
    refine H2.out.mono ?_;rintro e w' ⟨rfl,rfl⟩;go_wp2_with fail
    go_ret
    exact au.of HF1.out (GFr.refl _ _) HM.out HAB.out HTG.out ((Fr.refl _ _).setCell (p:=⟨ab,4,none⟩) (.inl (by simp)) _) (by have:=HB1.out.put 4 (.bool true);simpa[dK] using this)
   ·rw[show decide (x=y)=false by simp[he]];have hx:(x==y)=false:=by simpa using he
    go_enter Tryz.func107,Tryz.ntmps107
    go_upto_region 1 with fail
    rw[<- HW1.out];go_wp2_with fail
    refine H1.out.mono ?_;rintro e w' ⟨rfl,rfl⟩;go_wp2_with fail
    refine H2.out.mono ?_;rintro e w' ⟨rfl,rfl⟩;go_wp2_with fail
    go_ret
    exact au.of HF1.out (GFr.refl _ _) HM.out HAB.out HTG.out ((Fr.refl _ _).setCell (p:=⟨ab,4,none⟩) (.inl (by simp)) _) (by have:=HB1.out.put 4 (.bool false);simpa[dK] using this)
  ·have q2:am (σ.st t) b=10:=by unfold am;rw[if_neg hj]
   rw[q2]at H2 ⊢;rw[show decide (aG (σ.st t) a/\aG (σ.st t) b/\aj (σ.st t) a=aj (σ.st t) b)=false by simp[hj]];generalize aj (σ.st t) a=x at *;generalize aj (σ.st t) b=y at *;clear hp1 hi hj q1 q2 ok hd ht;go_enter Tryz.func107,Tryz.ntmps107
   go_upto_region 1 with fail
   rw[<- HW1.out];go_wp2_with fail
   refine H1.out.mono ?_;rintro e w' ⟨rfl,rfl⟩;go_wp2_with fail
   refine H2.out.mono ?_;rintro e w' ⟨rfl,rfl⟩;go_wp2_with fail
   go_ret
   exact au.of0 HF1.out (GFr.refl _ _) HM.out HAB.out HTG.out (Fr.refl _ _)
 ·have q1:am (σ.st t) a=10:=by unfold am;rw[if_neg hi]
  rw[q1]at H1;rw[if_neg hi];rw[show decide (aG (σ.st t) a/\aG (σ.st t) b/\aj (σ.st t) a=aj (σ.st t) b)=false by simp[hi]];generalize aj (σ.st t) a=x at *;generalize aj (σ.st t) b=y at *;generalize am (σ.st t) b=E2 at *;clear hp1 hi q1 ok hd ht;go_enter Tryz.func107,Tryz.ntmps107
  go_upto_region 1 with fail
  rw[<- HW1.out];go_wp2_with fail
  refine H1.out.mono ?_;rintro e w' ⟨rfl,rfl⟩;go_wp2_with fail
  refine H2.out.mono ?_;rintro e w' ⟨rfl,rfl⟩;go_wp2_with fail
  go_ret
  exact au.of0 HF1.out (GFr.refl _ _) HM.out HAB.out HTG.out (Fr.refl _ _)
theorem yA(h:MG w tg Λ T T B M σ)(ok:GOk T B σ)(hd:fc T B M)(ht:t<T)(a b c v:Int){ab:Nat}{th dn:Int}(hab:Blk w ab 71 (dK th dn ⟨0,0,false⟩))(htg:(tg ab).1=0) :
  Calls Tryz.prog 107 #[.pointer (some ⟨Λ.m,0,none⟩),.pointer (some ⟨Λ.S t,0,none⟩),opV ⟨10,a,b,c,v⟩,.pointer (some ⟨ab,0,none⟩)] w (au w tg Λ.m T B M σ ab th dn ⟨am (σ.st t) a,0,eJ σ t a⟩):=by
 have hf1:Fr [] w (w.alloc (.cells #[.int .i64 10,.int .i64 a,.int .i64 b,.int .i64 c,.int .u64 v] 69)):=(Fr.refl _ _).alloc _;obtain⟨w1,hw1⟩:∃w1,w1=w.alloc (.cells #[.int .i64 10,.int .i64 a,.int .i64 b,.int .i64 c,.int .u64 v] 69):=⟨_,rfl⟩;have hbo:Blk w1 w.heap.size 69 #[.int .i64 10,.int .i64 a,.int .i64 b,.int .i64 c,.int .u64 v]:=by rw[hw1];exact Blk.new _ _ _
 rw[<- hw1]at hf1;have hp1:=h.fr0 hf1;have HW1:=aa hw1;have HF1:=aa hf1;have HAB:=aa hab;have HTG:=aa htg;have HM:=aa hp1.at;have e0:w1.cell? ⟨w.heap.size,0,none⟩=some (.int .i64 10):=by rw[hbo.cell];rfl
 have e1:w1.cell? ⟨w.heap.size,1,none⟩=some (.int .i64 a):=by rw[hbo.cell];rfl
 have e2:w1.cell? ⟨w.heap.size,2,none⟩=some (.int .i64 b):=by rw[hbo.cell];rfl
 have e3:w1.cell? ⟨w.heap.size,3,none⟩=some (.int .i64 c):=by rw[hbo.cell];rfl
 have e4:w1.cell? ⟨w.heap.size,4,none⟩=some (.int .u64 v):=by rw[hbo.cell];rfl
 have NO:w.heap.size<w1.heap.size:=af e0;unfold opV;clear hw1 hf1 hab htg h hbo;have hb1:=HAB.out.fr HF1.out (by simp);have d4:w1.cell? ⟨ab,4,none⟩=some (.bool false):=by rw[hb1.cell];rfl
 have dz:=hb1.frozen 4;have NA:ab<w1.heap.size:=hb1.lt;have HB1:=aa hb1;clear hb1;have H1:=aa (fZ hp1 ht a);unfold eJ;by_cases hi:aG (σ.st t) a
 ·have q1:am (σ.st t) a=0:=by unfold am;rw[if_pos hi]
  rw[q1]at H1 ⊢;rw[show decide (aG (σ.st t) a/\aj (σ.st t) a=0)=decide (aj (σ.st t) a=0)by simp[hi]];generalize aj (σ.st t) a=x at *;clear hp1 hi q1 ok hd ht;by_cases he:x=0
  ·subst he;rw[show decide ((0:Int)=0)=true by simp];go_enter Tryz.func107,Tryz.ntmps107
   go_upto_region 1 with fail
   rw[<- HW1.out];go_wp2_with fail
   refine H1.out.mono ?_;rintro e w' ⟨rfl,rfl⟩;go_wp2_with fail
   go_ret
   exact au.of HF1.out (GFr.refl _ _) HM.out HAB.out HTG.out ((Fr.refl _ _).setCell (p:=⟨ab,4,none⟩) (.inl (by simp)) _) (by have:=HB1.out.put 4 (.bool true);simpa[dK] using this)
  ·rw[show decide (x=0)=false by simp[he]];have hx:(x==0)=false:=by simpa using he
   go_enter Tryz.func107,Tryz.ntmps107
   go_upto_region 1 with fail
   rw[<- HW1.out];go_wp2_with fail
   refine H1.out.mono ?_;rintro e w' ⟨rfl,rfl⟩;go_wp2_with fail
   go_ret
   exact au.of HF1.out (GFr.refl _ _) HM.out HAB.out HTG.out ((Fr.refl _ _).setCell (p:=⟨ab,4,none⟩) (.inl (by simp)) _) (by have:=HB1.out.put 4 (.bool false);simpa[dK] using this)
 ·have q1:am (σ.st t) a=10:=by unfold am;rw[if_neg hi]
  rw[q1]at H1 ⊢;rw[show decide (aG (σ.st t) a/\aj (σ.st t) a=0)=false by simp[hi]];generalize aj (σ.st t) a=x at *;clear hp1 hi q1 ok hd ht;go_enter Tryz.func107,Tryz.ntmps107
  go_upto_region 1 with fail
  rw[<- HW1.out];go_wp2_with fail
  refine H1.out.mono ?_;rintro e w' ⟨rfl,rfl⟩;go_wp2_with fail
  go_ret
  exact au.of0 HF1.out (GFr.refl _ _) HM.out HAB.out HTG.out (Fr.refl _ _)
theorem yB(h:MG w tg Λ T T B M σ)(ok:GOk T B σ)(hd:fc T B M)(ht:t<T)(a b c v:Int){ab:Nat}{th dn:Int}(hab:Blk w ab 71 (dK th dn ⟨0,0,false⟩))(htg:(tg ab).1=0) :
  Calls Tryz.prog 107 #[.pointer (some ⟨Λ.m,0,none⟩),.pointer (some ⟨Λ.S t,0,none⟩),opV ⟨11,a,b,c,v⟩,.pointer (some ⟨ab,0,none⟩)] w (au w tg Λ.m T B M σ ab th dn ⟨0,0,false⟩):=by
 have hf1:Fr [] w (w.alloc (.cells #[.int .i64 11,.int .i64 a,.int .i64 b,.int .i64 c,.int .u64 v] 69)):=(Fr.refl _ _).alloc _;obtain⟨w1,hw1⟩:∃w1,w1=w.alloc (.cells #[.int .i64 11,.int .i64 a,.int .i64 b,.int .i64 c,.int .u64 v] 69):=⟨_,rfl⟩;have hbo:Blk w1 w.heap.size 69 #[.int .i64 11,.int .i64 a,.int .i64 b,.int .i64 c,.int .u64 v]:=by rw[hw1];exact Blk.new _ _ _
 rw[<- hw1]at hf1;have hp1:=h.fr0 hf1;have HW1:=aa hw1;have HF1:=aa hf1;have HAB:=aa hab;have HTG:=aa htg;have HM:=aa hp1.at;have e0:w1.cell? ⟨w.heap.size,0,none⟩=some (.int .i64 11):=by rw[hbo.cell];rfl
 have e1:w1.cell? ⟨w.heap.size,1,none⟩=some (.int .i64 a):=by rw[hbo.cell];rfl
 have e2:w1.cell? ⟨w.heap.size,2,none⟩=some (.int .i64 b):=by rw[hbo.cell];rfl
 have e3:w1.cell? ⟨w.heap.size,3,none⟩=some (.int .i64 c):=by rw[hbo.cell];rfl
 have e4:w1.cell? ⟨w.heap.size,4,none⟩=some (.int .u64 v):=by rw[hbo.cell];rfl
 have NO:w.heap.size<w1.heap.size:=af e0;unfold opV;clear hw1 hf1 hab htg h hbo;clear hp1 ok hd ht;go_enter Tryz.func107,Tryz.ntmps107
 go_upto_region 1 with fail
 rw[<- HW1.out];go_wp2_with fail
 go_ret
 exact au.of0 HF1.out (GFr.refl _ _) HM.out HAB.out HTG.out (Fr.refl _ _)
theorem yC(h:MG w tg Λ T T B M σ)(ok:GOk T B σ)(hd:fc T B M)(ht:t<T)(a b c v:Int){ab:Nat}{th dn:Int}(hab:Blk w ab 71 (dK th dn ⟨0,0,false⟩))(htg:(tg ab).1=0) :
  Calls Tryz.prog 107 #[.pointer (some ⟨Λ.m,0,none⟩),.pointer (some ⟨Λ.S t,0,none⟩),opV ⟨12,a,b,c,v⟩,.pointer (some ⟨ab,0,none⟩)] w (au w tg Λ.m T B M σ ab th dn ⟨eu a,0,false⟩):=by
 have hf1:Fr [] w (w.alloc (.cells #[.int .i64 12,.int .i64 a,.int .i64 b,.int .i64 c,.int .u64 v] 69)):=(Fr.refl _ _).alloc _;obtain⟨w1,hw1⟩:∃w1,w1=w.alloc (.cells #[.int .i64 12,.int .i64 a,.int .i64 b,.int .i64 c,.int .u64 v] 69):=⟨_,rfl⟩;have hbo:Blk w1 w.heap.size 69 #[.int .i64 12,.int .i64 a,.int .i64 b,.int .i64 c,.int .u64 v]:=by rw[hw1];exact Blk.new _ _ _
 rw[<- hw1]at hf1;have hp1:=h.fr0 hf1;have HW1:=aa hw1;have HF1:=aa hf1;have HAB:=aa hab;have HTG:=aa htg;have HM:=aa hp1.at;have e0:w1.cell? ⟨w.heap.size,0,none⟩=some (.int .i64 12):=by rw[hbo.cell];rfl
 have e1:w1.cell? ⟨w.heap.size,1,none⟩=some (.int .i64 a):=by rw[hbo.cell];rfl
 have e2:w1.cell? ⟨w.heap.size,2,none⟩=some (.int .i64 b):=by rw[hbo.cell];rfl
 have e3:w1.cell? ⟨w.heap.size,3,none⟩=some (.int .i64 c):=by rw[hbo.cell];rfl
 have e4:w1.cell? ⟨w.heap.size,4,none⟩=some (.int .u64 v):=by rw[hbo.cell];rfl
 have NO:w.heap.size<w1.heap.size:=af e0;unfold opV;clear hw1 hf1 hab htg h hbo;clear hp1 ok hd ht;unfold eu;rcases(show a<0\/(¬ a<0/\a>3)\/(¬ a<0/\¬ a>3)by omega)with h1|⟨h1,h2⟩|⟨h1,h2⟩
 ·rw[if_neg (by omega)];go_enter Tryz.func107,Tryz.ntmps107
  go_upto_region 1 with fail
  rw[<- HW1.out];go_wp2_with fail
  go_ret
  exact au.of0 HF1.out (GFr.refl _ _) HM.out HAB.out HTG.out (Fr.refl _ _)
 ·rw[if_neg (by omega)];go_enter Tryz.func107,Tryz.ntmps107
  go_upto_region 1 with fail
  rw[<- HW1.out];go_wp2_with fail
  go_ret
  exact au.of0 HF1.out (GFr.refl _ _) HM.out HAB.out HTG.out (Fr.refl _ _)
 ·rw[if_pos (by omega)];go_enter Tryz.func107,Tryz.ntmps107
  go_upto_region 1 with fail
  rw[<- HW1.out];go_wp2_with fail
  go_ret
  exact au.of0 HF1.out (GFr.refl _ _) HM.out HAB.out HTG.out (Fr.refl _ _)
theorem tw(h:MG w tg Λ T T B M σ)(ok:GOk T B σ)(hd:fc T B M)(ht:t<T)(k a b c v:Int)(hk:k<1\/13<k){ab:Nat}{th dn:Int}(hab:Blk w ab 71 (dK th dn ⟨0,0,false⟩))(htg:(tg ab).1=0) :
  Calls Tryz.prog 107 #[.pointer (some ⟨Λ.m,0,none⟩),.pointer (some ⟨Λ.S t,0,none⟩),opV ⟨k,a,b,c,v⟩,.pointer (some ⟨ab,0,none⟩)] w (au w tg Λ.m T B M σ ab th dn ⟨17,0,false⟩):=by
 have hf1:Fr [] w (w.alloc (.cells #[.int .i64 k,.int .i64 a,.int .i64 b,.int .i64 c,.int .u64 v] 69)):=(Fr.refl _ _).alloc _;obtain⟨w1,hw1⟩:∃w1,w1=w.alloc (.cells #[.int .i64 k,.int .i64 a,.int .i64 b,.int .i64 c,.int .u64 v] 69):=⟨_,rfl⟩;have hbo:Blk w1 w.heap.size 69 #[.int .i64 k,.int .i64 a,.int .i64 b,.int .i64 c,.int .u64 v]:=by rw[hw1];exact Blk.new _ _ _
 rw[<- hw1]at hf1;have hp1:=h.fr0 hf1;have HW1:=aa hw1;have HF1:=aa hf1;have HAB:=aa hab;have HTG:=aa htg;have HM:=aa hp1.at;have e0:w1.cell? ⟨w.heap.size,0,none⟩=some (.int .i64 k):=by rw[hbo.cell];rfl
 have e1:w1.cell? ⟨w.heap.size,1,none⟩=some (.int .i64 a):=by rw[hbo.cell];rfl
 have e2:w1.cell? ⟨w.heap.size,2,none⟩=some (.int .i64 b):=by rw[hbo.cell];rfl
 have e3:w1.cell? ⟨w.heap.size,3,none⟩=some (.int .i64 c):=by rw[hbo.cell];rfl
 have e4:w1.cell? ⟨w.heap.size,4,none⟩=some (.int .u64 v):=by rw[hbo.cell];rfl
 have NO:w.heap.size<w1.heap.size:=af e0;unfold opV;clear hw1 hf1 hab htg h hbo;clear hp1 ok hd ht;have z9:(k==9)=false:=by simp;omega
 have z10:(k==10)=false:=by simp;omega
 have z11:(k==11)=false:=by simp;omega
 have z12:(k==12)=false:=by simp;omega
 clear hk;go_enter Tryz.func107,Tryz.ntmps107
 go_upto_region 1 with fail
 rw[<- HW1.out];go_wp2_with fail
 go_ret
 exact au.of0 HF1.out (GFr.refl _ _) HM.out HAB.out HTG.out (Fr.refl _ _)
theorem au.inside{w1:World}{m ab:Nat}{th dn:Int}{x:An}{e:Ending}(hf:Fr [] w w1)(h:au w1 tg m T B M σ ab th dn x e w'):au w tg m T B M σ ab th dn x e w':=by
 obtain⟨h1,tg',h2,h3,⟨F,h4,h5⟩,h6⟩:=h;exact⟨h1,tg',h2,h3,⟨F,(hf.mono (λx hx=>by cases hx)).trans h4 (λx hx=>.inl hx),h5⟩,λb hb=>h6 b (Nat.lt_of_lt_of_le hb hf.size)⟩
theorem fJ(h:MG w tg Λ T T B M σ)(ok:GOk T B σ)(hd:fc T B M)(ht:t<T)(k a b c v:Int)(hk:k<1\/8<k)(hk2:k≠13){x:An}{ab:Nat}{th dn:Int}(hab:Blk w ab 71 (dK th dn ⟨0,0,false⟩))(htg:(tg ab).1=0)
  (HC:∀w1,Fr [] w w1->Calls Tryz.prog 107 #[.pointer (some ⟨Λ.m,0,none⟩),.pointer (some ⟨Λ.S t,0,none⟩),opV ⟨k,a,b,c,v⟩,.pointer (some ⟨ab,0,none⟩)] w1 (au w1 tg Λ.m T B M σ ab th dn x)) :
  Calls Tryz.prog 53 #[.pointer (some ⟨Λ.m,0,none⟩),.pointer (some ⟨Λ.S t,0,none⟩),opV ⟨k,a,b,c,v⟩,.pointer (some ⟨ab,0,none⟩)] w (au w tg Λ.m T B M σ ab th dn ⟨x.code,x.word,x.bit⟩):=by
 have hf1:Fr [] w (w.alloc (.cells #[.int .i64 k,.int .i64 a,.int .i64 b,.int .i64 c,.int .u64 v] 69)):=(Fr.refl _ _).alloc _;obtain⟨w1,hw1⟩:∃w1,w1=w.alloc (.cells #[.int .i64 k,.int .i64 a,.int .i64 b,.int .i64 c,.int .u64 v] 69):=⟨_,rfl⟩;have hbo:Blk w1 w.heap.size 69 #[.int .i64 k,.int .i64 a,.int .i64 b,.int .i64 c,.int .u64 v]:=by rw[hw1];exact Blk.new _ _ _
 rw[<- hw1]at hf1;have hp1:=h.fr0 hf1;have HW1:=aa hw1;have HF1:=aa hf1;have HAB:=aa hab;have HTG:=aa htg;have HM:=aa hp1.at;have e0:w1.cell? ⟨w.heap.size,0,none⟩=some (.int .i64 k):=by rw[hbo.cell];rfl
 have e1:w1.cell? ⟨w.heap.size,1,none⟩=some (.int .i64 a):=by rw[hbo.cell];rfl
 have e2:w1.cell? ⟨w.heap.size,2,none⟩=some (.int .i64 b):=by rw[hbo.cell];rfl
 have e3:w1.cell? ⟨w.heap.size,3,none⟩=some (.int .i64 c):=by rw[hbo.cell];rfl
 have e4:w1.cell? ⟨w.heap.size,4,none⟩=some (.int .u64 v):=by rw[hbo.cell];rfl
 have NO:w.heap.size<w1.heap.size:=af e0;unfold opV;clear hw1 hf1 hab htg h hbo;have HQ:=aa (HC w1 HF1.out);unfold opV at HQ;clear hp1 ok hd ht HC;have z1:(k==1)=false:=by simp;omega
 have z2:(k==2)=false:=by simp;omega
 have z3:(k==3)=false:=by simp;omega
 have z4:(k==4)=false:=by simp;omega
 have z5:(k==5)=false:=by simp;omega
 have z6:(k==6)=false:=by simp;omega
 have z7:(k==7)=false:=by simp;omega
 have z8:(k==8)=false:=by simp;omega
 have z13:(k==13)=false:=by simpa using hk2
 clear hk hk2;go_enter Tryz.func53,Tryz.ntmps53
 go_upto_region 1 with fail
 rw[<- HW1.out];go_wp2_with fail
 refine HQ.out.mono ?_;rintro e w2 ⟨rfl,hrest⟩;have HE:Hid (au w1 tg Λ.m T B M σ ab th dn x (.returned (.int .i64 x.code)) w2):=⟨rfl,hrest⟩;clear hrest;go_wp2_with fail
 go_ret
 exact au.inside HF1.out HE.out
theorem vN(h:MG w tg Λ T T B M σ)(ok:GOk T B σ)(hd:fc T B M)(hN:σ.N+1<=4096)(ht:t<T)(o:Po)(ho:dH o){ab:Nat}{th dn:Int}(hab:Blk w ab 71 (dK th dn ⟨0,0,false⟩))(htg:(tg ab).1=0) :
  Calls Tryz.prog 53 #[.pointer (some ⟨Λ.m,0,none⟩),.pointer (some ⟨Λ.S t,0,none⟩),opV o,.pointer (some ⟨ab,0,none⟩)] w (au w tg Λ.m T B M (aM B M T σ t o) ab th dn (bq B M T σ t o)):=by
 obtain⟨k,a,b,c,v⟩:=o;obtain⟨ha,hb⟩:=ho;have ha:-9223372036854775808<=a/\a<=9223372036854775807:=ha;have hb:-9223372036854775808<=b/\b<=9223372036854775807:=hb;rcases(show(k<1\/13<k)\/k=1\/k=2\/k=3\/k=4\/k=5\/k=6\/k=7\/k=8\/k=9\/k=10\/k=11\/k=12\/k=13 by omega)with hk|rfl|rfl|rfl|rfl|rfl|rfl|rfl|rfl|rfl|rfl|rfl|rfl|rfl
 ·have e1:bq B M T σ t ⟨k,a,b,c,v⟩=⟨17,0,false⟩:=by
   unfold bq;dsimp only
   iterate 13 rw[if_neg (by omega)]
  have e2:aM B M T σ t ⟨k,a,b,c,v⟩=σ:=by
   unfold aM;dsimp only
   iterate 8 rw[if_neg (by omega)]
  rw[e1,e2];exact fJ (x:=⟨17,0,false⟩) h ok hd ht k a b c v (by omega) (by omega) hab htg (λw1 hf=>tw (h.fr0 hf) ok hd ht k a b c v hk (hab.fr hf (by simp)) htg)
 ·exact Am h ok hd hN ht a b c v ha hb hab htg
 ·exact Ae h ok hd ht a b c v hab htg
 ·exact Af h ok hd ht a b c v hab htg
 ·exact Ag h ok hd ht a b c v hab htg
 ·exact Ah h ok hd ht a b c v hab htg
 ·exact Ai h ok hd ht a b c v hab htg
 ·exact Aj h ok hd ht a b c v hab htg
 ·exact Ak h ok hd ht a b c v hab htg
 ·exact fJ (x:=⟨eH σ t a b,0,eI σ t a b⟩) h ok hd ht 9 a b c v (by omega) (by omega) hab htg (λw1 hf=>Ao (h.fr0 hf) ok hd ht a b c v (hab.fr hf (by simp)) htg)
 ·exact fJ (x:=⟨am (σ.st t) a,0,eJ σ t a⟩) h ok hd ht 10 a b c v (by omega) (by omega) hab htg (λw1 hf=>yA (h.fr0 hf) ok hd ht a b c v (hab.fr hf (by simp)) htg)
 ·exact fJ (x:=⟨0,0,false⟩) h ok hd ht 11 a b c v (by omega) (by omega) hab htg (λw1 hf=>yB (h.fr0 hf) ok hd ht a b c v (hab.fr hf (by simp)) htg)
 ·exact fJ (x:=⟨eu a,0,false⟩) h ok hd ht 12 a b c v (by omega) (by omega) hab htg (λw1 hf=>yC (h.fr0 hf) ok hd ht a b c v (hab.fr hf (by simp)) htg)
 ·exact yz h ok hd ht a b c v hab htg
end
section
variable {w w':World}{tg tg':TG}{F:List Nat}{Λ:ML}{T B M:Nat}{σ:GS}{t:Nat}
theorem BL(h:MG w tg Λ T T B M σ)(ok:GOk T B σ)(hd:fc T B M)(hN:σ.N+1<=4096)(ht:t<T)(hdn:σ.done t<=1000000)(o:Po)(ho:dH o) :
  Calls Tryz.prog 25 #[.pointer (some ⟨Λ.m,0,none⟩),.int .i64 (t:Int),opV o] w (Cw w tg (λw' tg'=>MAt w' tg' Λ.m T B M (aM B M T (σ.tick t) t o)) (gt (t:Int) (σ.done t:Int) (bq B M T σ t o))):=by
 have hT:=hd.t;have ht':(t:Int)<(T:Int):=by omega
 have g0:¬ ((t:Int)<0):=by omega
 have g1:¬ ((t:Int)>=(T:Int)):=by omega
 have hw1:IntKind.i64.wrap ((σ.done t:Int)+1)=(σ.done t:Int)+1:=IntWalk.i64_in _ ⟨by omega,by omega⟩;obtain⟨w0,hw0⟩:∃w0,w0=w.setCell ⟨Λ.db,t,none⟩ (.int .i64 ((σ.done t:Int)+1)):=⟨_,rfl⟩;have hs0:w0.heap.size=w.heap.size:=by rw[hw0];simp
 obtain⟨w2,hw2⟩:∃w2,w2=((w0.alloc (.cells #[.int .i64 o.k,.int .i64 o.a,.int .i64 o.b,.int .i64 o.c,.int .u64 o.v] 69)).alloc (.cells #[.int .i64 0,.int .i64 0,.int .i64 0,.int .u64 0,.bool false] 71)).alloc (.cells #[.int .i64 (t:Int),.int .i64 (σ.done t:Int),.int .i64 0,.int .u64 0,.bool false] 71):=⟨_,rfl⟩;have hf2:Fr [] w0 w2:=by rw[hw2];exact(((Fr.refl _ _).alloc _).alloc _).alloc _
 have hsz:w2.heap.size=w.heap.size+3:=by rw[hw2];simp[hs0]
 have hbo:Blk w2 w.heap.size 69 #[.int .i64 o.k,.int .i64 o.a,.int .i64 o.b,.int .i64 o.c,.int .u64 o.v]:=by rw[hw2];exact((Blk.aX _ _ hs0).alloc _).alloc _
 have hbr:Blk w2 (w.heap.size+1) 71 (dK 0 0 ⟨0,0,false⟩):=by rw[hw2];exact(Blk.aX _ _ (by simp[hs0])).alloc _
 have hba:Blk w2 (w.heap.size+2) 71 (dK (t:Int) (σ.done t:Int) ⟨0,0,false⟩):=by rw[hw2];exact Blk.aX _ _ (by simp[hs0])
 have hdl:Λ.db<w.heap.size:=h.don.lt;obtain⟨hp0,hg02⟩:=h.done ht;rw[show((σ.done t+1:Nat):Int)=(σ.done t:Int)+1 by omega,<- hw0]at hp0 hg02;have hp2:=hp0.fr0 hf2;have u1:∀x,w.heap.size<=x->(tg x).1=0:=λx hx=>by
  rcases Nat.eq_zero_or_pos (tg x).1 with e|e
  ·exact e
  ·have:=h.tok x (by omega);omega
 have hg2:GFr w tg w2 tg:=hg02.Ba hf2;have HACT:=aa (vN (σ:=σ.tick t) (hp2.fr0 ((Fr.refl [] w2).drew)) (ok.tick t) hd hN ht o ho (hab:=hba.drew) (htg:=u1 _ (by omega)));rw[ve]at HACT;have HEND:Hid (∀w3,au w2.drew tg Λ.m T B M (aM B M T (σ.tick t) t o) (w.heap.size+2) (t:Int) (σ.done t:Int) (bq B M T σ t o) (.returned (.int .i64 (bq B M T σ t o).code)) w3 ->
   Blk w3 (w.heap.size+2) 71 (dK (t:Int) (σ.done t:Int) ⟨0,(bq B M T σ t o).word,(bq B M T σ t o).bit⟩)/\Blk w3 (w.heap.size+1) 71 (dK 0 0 ⟨0,0,false⟩) /\
   ∀w4,Fr [w.heap.size+1,w.heap.size+2] w3 w4->∃tg',MAt w4 tg' Λ.m T B M (aM B M T (σ.tick t) t o)/\GFr w tg w4 tg'):=λw3 hq=>by
  obtain⟨_,tg3,k1,k2,⟨F,k3,k4⟩,k5⟩:=hq;have n1:w.heap.size+1∉F:=λhx=>by
   rcases k4 _ hx with e|e
   ·omega
   ·exact e (u1 _ (by omega))
  refine⟨k2,hbr.drew.fr k3 n1,λw4 hf4=>⟨tg3,k1.fr hf4 (λz hz=>?_),?_⟩⟩
  ·simp at hz;rw[k5 _ (by show _<w2.heap.size;omega)];exact u1 _ (by omega)
  ·obtain⟨G,g1,g2⟩:=hg2.fr;refine⟨⟨G++F.filter (λx=>decide (x<w.heap.size)),?_,λz hz=>?_⟩,λb hb=>(k5 b (by show _<w2.heap.size;omega)).trans (hg2.up b hb)⟩
   ·have s1:Fr (G++F.filter (λx=>decide (x<w.heap.size))) w w3:=((g1.mono (λx hx=>.inl (by simp[hx]))).drew).trans k3 (λx hx=>by
     rcases Nat.lt_or_ge x w.heap.size with h3|h3
     ·exact .inl (by simp[hx,h3])
     ·exact .inr h3)
    exact s1.trans hf4 (λx hx=>.inr (by simp at hx;omega))
   ·rcases List.mem_append.1 hz with h3|h3
    ·exact g2 z h3
    ·rw[List.mem_filter]at h3;have h4:z<w.heap.size:=by simpa using h3.2
     rcases k4 z h3.1 with e|e
     ·omega
     ·exact e
 have HE0:Hid (w2.cell? ⟨w.heap.size,0,none⟩=some (.int .i64 o.k)/\w2.cell? ⟨w.heap.size,1,none⟩=some (.int .i64 o.a)/\w2.cell? ⟨w.heap.size,2,none⟩=some (.int .i64 o.b)/\w2.cell? ⟨w.heap.size,3,none⟩=some (.int .i64 o.c)/\w2.cell? ⟨w.heap.size,4,none⟩=some (.int .u64 o.v)):=
  ⟨by rw[hbo.cell];rfl,by rw[hbo.cell];rfl,by rw[hbo.cell];rfl,by rw[hbo.cell];rfl,by rw[hbo.cell];rfl⟩
 obtain⟨g,off,hsA,_,hgl,hcl,_,_⟩:=hp2.row.pos (by omega);have HF0:Hid (w2.cell? ⟨Λ.m,2,none⟩=some (.slice (some ⟨g,off,none⟩) T Λ.sc)/\w2.cell? ⟨g,off+t,none⟩=some (.pointer (some ⟨Λ.S t,0,none⟩))):=⟨by rw[<- hsA];exact hp2.c2,by rw[hcl t ht];exact oW _ ht⟩;have c2:w.cell? ⟨Λ.m,2,none⟩=some (.slice Λ.sA T Λ.sc):=h.c2;have c3:w.cell? ⟨Λ.m,3,none⟩=some (.slice (some ⟨Λ.db,0,none⟩) T T):=h.c3;have cd:w.cell? ⟨Λ.db,t,none⟩=some (.int .i64 (σ.done t:Int)):=by rw[h.don.cell,de ht]
 have z1:=h.don.frozen t;have NG:Λ.m<w.heap.size:=h.st.lt;have NG1:Λ.m<w.heap.size+1:=by omega
 have NG2:Λ.m<w.heap.size+1+1:=by omega
 have NP:Λ.db<w.heap.size:=hdl;have NP1:Λ.db<w.heap.size+1:=by omega
 have NP2:Λ.db<w.heap.size+1+1:=by omega
 rw[hw0]at hw2;have HW2:=aa hw2;unfold opV at HACT ⊢;unfold gt;clear h hp0 hp2 hbo hbr hba u1 hsz hs0 hf2 hcl hgl hsA hd ok ho hN hdn hw0 hw2 hg2 hg02 hdl;generalize σ.done t=dn at *;generalize bq B M T σ t o=x at *;go_enter Tryz.func25,Tryz.ntmps25
 go_wp2_with fail
 rw[<- HW2.out,show w.heap.size+1+1=w.heap.size+2 from rfl];clear HW2 c2 c3 cd z1 hw1 NP NP1 NP2 NG NG1 NG2 g0 g1;obtain⟨e0,e1,e2,e3,e4⟩:=HE0.out;obtain⟨f0,f1⟩:=HF0.out;have NB0:=af e0;have NM:=af f0;refine bF 9 (by kernel_rfl) (by kernel_rfl) ?_;simp only[List.take_succ_cons,List.take_zero,List.drop_succ_cons,List.drop_zero]
 repeat still_step
 refine wpStill_nil ?_;go_wp2_with fail
 refine HACT.out.mono ?_;rintro e w3 ⟨rfl,hrest⟩;obtain⟨x1,x2,x4⟩:=HEND.out w3 ⟨rfl,hrest⟩;have X4:=aa x4;have a0:w3.cell? ⟨w.heap.size+2,0,none⟩=some (.int .i64 (t:Int)):=by rw[x1.cell];rfl
 have a1:w3.cell? ⟨w.heap.size+2,1,none⟩=some (.int .i64 (dn:Int)):=by rw[x1.cell];rfl
 have a2:w3.cell? ⟨w.heap.size+2,2,none⟩=some (.int .i64 0):=by rw[x1.cell];rfl
 have a3:w3.cell? ⟨w.heap.size+2,3,none⟩=some (.int .u64 x.word):=by rw[x1.cell];rfl
 have a4:w3.cell? ⟨w.heap.size+2,4,none⟩=some (.bool x.bit):=by rw[x1.cell];rfl
 have b0:w3.cell? ⟨w.heap.size+1,0,none⟩=some (.int .i64 0):=by rw[x2.cell];rfl
 have b1:w3.cell? ⟨w.heap.size+1,1,none⟩=some (.int .i64 0):=by rw[x2.cell];rfl
 have b2:w3.cell? ⟨w.heap.size+1,2,none⟩=some (.int .i64 0):=by rw[x2.cell];rfl
 have b3:w3.cell? ⟨w.heap.size+1,3,none⟩=some (.int .u64 0):=by rw[x2.cell];rfl
 have b4:w3.cell? ⟨w.heap.size+1,4,none⟩=some (.bool false):=by rw[x2.cell];rfl
 have z0:=x2.frozen 0;have z1:=x2.frozen 1;have z2:=x2.frozen 2;have z3:=x2.frozen 3;have z4:=x2.frozen 4;have y2:=x1.frozen 2;have N0:w.heap.size+1<w3.heap.size:=af b0;have N2:w.heap.size+2<w3.heap.size:=af a0;clear hrest x1 x2 x4 HEND HACT e0 e1 e2 e3 e4 f0 f1 NB0 NM HE0 HF0;go_wp2_with fail
 refine bodyPost_ret (v:=.agg #[.int .i64 (t:Int),.int .i64 (dn:Int),.int .i64 x.code,.int .u64 x.word,.bool x.bit]) (by simp[results,Tryz.results25,go_sem, *]) rfl ⟨rfl,?_⟩;refine X4.out _ ?_
 iterate 6 (refine Fr.setCell ?_ (.inl (by simp)) _)
 exact Fr.refl _ _
end
end Go.Proofs.YtimlkjppaalfaaaGreatDoor
