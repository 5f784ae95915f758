/- Several texts joined (pack.py): Hdc. -/
import Derived.Test.YtfcjdinlcehpmaaGreatDoorPW31
import Derived.Deep.CutRange
import Derived.WalkKit
import Derived.BigQuiet
namespace Go.Proofs.YtfcjdinlcehpmaaGreatDoor
set_option maxRecDepth 100000
set_option linter.unusedVariables false
set_option linter.unusedSimpArgs false
open Go.RowKit Go.Gl
section
variable {w w':World}{tg tg':TG}{F:List Nat}{Λ:ML}{T B M:Nat}{σ:GS}{t:Nat}
set_option maxRecDepth 100000 in
set_option maxHeartbeats 3200000 in
theorem mstep_6(h:MG w tg Λ T T B M σ)(ok:GOk T B σ)(hd:GDim T B M)(ht:t<T)(a b c v:Int){ab:Nat}{th dn:Int}(hab:Blk w ab 59 (ansC th dn ⟨0,0,false⟩))(htg:(tg ab).1=0) :
  Calls Tryz.prog 43 #[.pointer (some ⟨Λ.m,0,none⟩),.pointer (some ⟨Λ.S t,0,none⟩),opV ⟨6,a,b,c,v⟩,.pointer (some ⟨ab,0,none⟩)] w (MActPost w tg Λ.m T B M (σ.push B t 0) ab th dn ⟨hkPushE B (σ.st t),0,false⟩):=by
 have hf1:Fr [] w (w.alloc (.cells #[.int .i64 6,.int .i64 a,.int .i64 b,.int .i64 c,.int .u64 v] 44)):=(Fr.refl _ _).alloc _
 obtain⟨w1,hw1⟩:∃w1,w1=w.alloc (.cells #[.int .i64 6,.int .i64 a,.int .i64 b,.int .i64 c,.int .u64 v] 44):=⟨_,rfl⟩
 have hbo:Blk w1 w.heap.size 44 #[.int .i64 6,.int .i64 a,.int .i64 b,.int .i64 c,.int .u64 v]:=by rw [hw1];exact Blk.new _ _ _
 rw [← hw1]at hf1
 have hp1:=h.fr0 hf1
 have HW1:=hide hw1
 have HF1:=hide hf1
 have HAB:=hide hab
 have HTG:=hide htg
 have HM:=hide hp1.at
 have e0:w1.cell? ⟨w.heap.size,0,none⟩=some (.int .i64 6):=by rw [hbo.cell];rfl
 have e1:w1.cell? ⟨w.heap.size,1,none⟩=some (.int .i64 a):=by rw [hbo.cell];rfl
 have e2:w1.cell? ⟨w.heap.size,2,none⟩=some (.int .i64 b):=by rw [hbo.cell];rfl
 have e3:w1.cell? ⟨w.heap.size,3,none⟩=some (.int .i64 c):=by rw [hbo.cell];rfl
 have e4:w1.cell? ⟨w.heap.size,4,none⟩=some (.int .u64 v):=by rw [hbo.cell];rfl
 have NO:w.heap.size<w1.heap.size:=lt_of_cell e0
 unfold opV
 clear hw1 hf1 hab htg h hbo
 have HP:Hid (∀w',Fr [] w1 w'→Calls Tryz.prog 73 #[.pointer (some ⟨Λ.S t,0,none⟩),.int .u64 (0)] w' (MSt w' tg Λ T T B M (σ.push B t (0)) (.int .i64 (hkPushE B (σ.st t))))):=fun w' hf=>mpush_any (hp1.fr0 hf) ok hd (by assumption) _
 generalize σ.push B t 0=σ' at *
 generalize hkPushE B (σ.st t)=E at *
 clear hp1 ok hd ht HM
 go_enter Tryz.func43,Tryz.ntmps43
 go_upto_region 1 with fail
 rw [← HW1.out]
 go_wp2_with fail
 refine(HP.out _ (Fr.refl _ _)).mono ?_
 rintro e w2 ⟨rfl,tg2,hp2,hg2⟩
 have HP2:=hide hp2.at
 have HG2:=hide hg2
 clear hp2 hg2
 go_wp2_with fail
 go_ret
 exact MActPost.of0 HF1.out ((GFr.fr0 (Fr.refl _ _)).trans HG2.out) HP2.out HAB.out HTG.out (Fr.refl _ _)
set_option maxRecDepth 100000 in
set_option maxHeartbeats 3200000 in
theorem mstep_7(h:MG w tg Λ T T B M σ)(ok:GOk T B σ)(hd:GDim T B M)(ht:t<T)(a b c v:Int){ab:Nat}{th dn:Int}(hab:Blk w ab 59 (ansC th dn ⟨0,0,false⟩))(htg:(tg ab).1=0) :
  Calls Tryz.prog 43 #[.pointer (some ⟨Λ.m,0,none⟩),.pointer (some ⟨Λ.S t,0,none⟩),opV ⟨7,a,b,c,v⟩,.pointer (some ⟨ab,0,none⟩)] w (MActPost w tg Λ.m T B M (popS σ t) ab th dn ⟨hkPopE (σ.st t),0,false⟩):=by
 have hf1:Fr [] w (w.alloc (.cells #[.int .i64 7,.int .i64 a,.int .i64 b,.int .i64 c,.int .u64 v] 44)):=(Fr.refl _ _).alloc _
 obtain⟨w1,hw1⟩:∃w1,w1=w.alloc (.cells #[.int .i64 7,.int .i64 a,.int .i64 b,.int .i64 c,.int .u64 v] 44):=⟨_,rfl⟩
 have hbo:Blk w1 w.heap.size 44 #[.int .i64 7,.int .i64 a,.int .i64 b,.int .i64 c,.int .u64 v]:=by rw [hw1];exact Blk.new _ _ _
 rw [← hw1]at hf1
 have hp1:=h.fr0 hf1
 have HW1:=hide hw1
 have HF1:=hide hf1
 have HAB:=hide hab
 have HTG:=hide htg
 have HM:=hide hp1.at
 have e0:w1.cell? ⟨w.heap.size,0,none⟩=some (.int .i64 7):=by rw [hbo.cell];rfl
 have e1:w1.cell? ⟨w.heap.size,1,none⟩=some (.int .i64 a):=by rw [hbo.cell];rfl
 have e2:w1.cell? ⟨w.heap.size,2,none⟩=some (.int .i64 b):=by rw [hbo.cell];rfl
 have e3:w1.cell? ⟨w.heap.size,3,none⟩=some (.int .i64 c):=by rw [hbo.cell];rfl
 have e4:w1.cell? ⟨w.heap.size,4,none⟩=some (.int .u64 v):=by rw [hbo.cell];rfl
 have NO:w.heap.size<w1.heap.size:=lt_of_cell e0
 unfold opV
 clear hw1 hf1 hab htg h hbo
 have HP:Hid (∀w',Fr [] w1 w'→Calls Tryz.prog 76 #[.pointer (some ⟨Λ.S t,0,none⟩)] w' (MSt w' tg Λ T T B M (popS σ t) (.tuple #[.int .u64 (hkPopV (σ.st t)),.int .i64 (hkPopE (σ.st t))]))):=fun w' hf=>mpop_any (hp1.fr0 hf) ok hd ht
 generalize popS σ t=σ' at *
 generalize hkPopE (σ.st t)=E at *
 generalize hkPopV (σ.st t)=y at *
 clear hp1 ok hd ht HM
 go_enter Tryz.func43,Tryz.ntmps43
 go_upto_region 1 with fail
 rw [← HW1.out]
 go_wp2_with fail
 refine(HP.out _ (Fr.refl _ _)).mono ?_
 rintro e w2 ⟨rfl,tg2,hp2,hg2⟩
 have HP2:=hide hp2.at
 have HG2:=hide hg2
 clear hp2 hg2
 go_wp2_with fail
 go_ret
 exact MActPost.of0 HF1.out ((GFr.fr0 (Fr.refl _ _)).trans HG2.out) HP2.out HAB.out HTG.out (Fr.refl _ _)
set_option maxRecDepth 100000 in
set_option maxHeartbeats 3200000 in
theorem mstep_8(h:MG w tg Λ T T B M σ)(ok:GOk T B σ)(hd:GDim T B M)(ht:t<T)(a b c v:Int){ab:Nat}{th dn:Int}(hab:Blk w ab 59 (ansC th dn ⟨0,0,false⟩))(htg:(tg ab).1=0) :
  Calls Tryz.prog 43 #[.pointer (some ⟨Λ.m,0,none⟩),.pointer (some ⟨Λ.S t,0,none⟩),opV ⟨8,a,b,c,v⟩,.pointer (some ⟨ab,0,none⟩)] w (MActPost w tg Λ.m T B M (dupS B σ t a) ab th dn ⟨dupE B σ t a,0,false⟩):=by
 have hf1:Fr [] w (w.alloc (.cells #[.int .i64 8,.int .i64 a,.int .i64 b,.int .i64 c,.int .u64 v] 44)):=(Fr.refl _ _).alloc _
 obtain⟨w1,hw1⟩:∃w1,w1=w.alloc (.cells #[.int .i64 8,.int .i64 a,.int .i64 b,.int .i64 c,.int .u64 v] 44):=⟨_,rfl⟩
 have hbo:Blk w1 w.heap.size 44 #[.int .i64 8,.int .i64 a,.int .i64 b,.int .i64 c,.int .u64 v]:=by rw [hw1];exact Blk.new _ _ _
 rw [← hw1]at hf1
 have hp1:=h.fr0 hf1
 have HW1:=hide hw1
 have HF1:=hide hf1
 have HAB:=hide hab
 have HTG:=hide htg
 have HM:=hide hp1.at
 have e0:w1.cell? ⟨w.heap.size,0,none⟩=some (.int .i64 8):=by rw [hbo.cell];rfl
 have e1:w1.cell? ⟨w.heap.size,1,none⟩=some (.int .i64 a):=by rw [hbo.cell];rfl
 have e2:w1.cell? ⟨w.heap.size,2,none⟩=some (.int .i64 b):=by rw [hbo.cell];rfl
 have e3:w1.cell? ⟨w.heap.size,3,none⟩=some (.int .i64 c):=by rw [hbo.cell];rfl
 have e4:w1.cell? ⟨w.heap.size,4,none⟩=some (.int .u64 v):=by rw [hbo.cell];rfl
 have NO:w.heap.size<w1.heap.size:=lt_of_cell e0
 unfold opV
 clear hw1 hf1 hab htg h hbo
 have H1:=hide (mat_any hp1 ht a)
 unfold dupS dupE
 by_cases hi:hkIn (σ.st t) a
 ·have e5:hkAtE (σ.st t) a=0:=by unfold hkAtE;rw [if_pos hi]
  rw [e5]at H1
  rw [if_pos hi,if_pos hi]
  have HP:Hid (∀w',Fr [] w1 w'→Calls Tryz.prog 73 #[.pointer (some ⟨Λ.S t,0,none⟩),.int .u64 (hkAt (σ.st t) a)] w' (MSt w' tg Λ T T B M (σ.push B t (hkAt (σ.st t) a)) (.int .i64 (hkPushE B (σ.st t))))):=fun w' hf=>mpush_any (hp1.fr0 hf) ok hd (by assumption) _
  generalize σ.push B t _=σ' at *
  generalize hkPushE B (σ.st t)=E at *
  generalize hkAt (σ.st t) a=y at *
  clear hp1 ok hd ht HM e5 hi
  go_enter Tryz.func43,Tryz.ntmps43
  go_upto_region 1 with fail
  rw [← HW1.out]
  go_wp2_with fail
  refine H1.out.mono ?_
  rintro e w' ⟨rfl,rfl⟩
  go_wp2_with fail
  refine(HP.out _ (Fr.refl _ _)).mono ?_
  rintro e w2 ⟨rfl,tg2,hp2,hg2⟩
  have HP2:=hide hp2.at
  have HG2:=hide hg2
  clear hp2 hg2
  go_wp2_with fail
  go_ret
  exact MActPost.of0 HF1.out ((GFr.fr0 (Fr.refl _ _)).trans HG2.out) HP2.out HAB.out HTG.out (Fr.refl _ _)
 ·have e5:hkAtE (σ.st t) a=10:=by unfold hkAtE;rw [if_neg hi]
  rw [e5]at H1
  rw [if_neg hi,if_neg hi]
  generalize hkAt (σ.st t) a=y at *
  clear hp1 ok hd ht e5 hi
  go_enter Tryz.func43,Tryz.ntmps43
  go_upto_region 1 with fail
  rw [← HW1.out]
  go_wp2_with fail
  refine H1.out.mono ?_
  rintro e w' ⟨rfl,rfl⟩
  go_wp2_with fail
  go_ret
  exact MActPost.of0 HF1.out (GFr.refl _ _) HM.out HAB.out HTG.out (Fr.refl _ _)
set_option maxRecDepth 100000 in
set_option maxHeartbeats 3200000 in
theorem mstep_13(h:MG w tg Λ T T B M σ)(ok:GOk T B σ)(hd:GDim T B M)(ht:t<T)(a b c v:Int){ab:Nat}{th dn:Int}(hab:Blk w ab 59 (ansC th dn ⟨0,0,false⟩))(htg:(tg ab).1=0) :
  Calls Tryz.prog 43 #[.pointer (some ⟨Λ.m,0,none⟩),.pointer (some ⟨Λ.S t,0,none⟩),opV ⟨13,a,b,c,v⟩,.pointer (some ⟨ab,0,none⟩)] w (MActPost w tg Λ.m T B M (sendS B T σ t a b) ab th dn ⟨sendE B T σ t a b,0,false⟩):=by
 have hf1:Fr [] w (w.alloc (.cells #[.int .i64 13,.int .i64 a,.int .i64 b,.int .i64 c,.int .u64 v] 44)):=(Fr.refl _ _).alloc _
 obtain⟨w1,hw1⟩:∃w1,w1=w.alloc (.cells #[.int .i64 13,.int .i64 a,.int .i64 b,.int .i64 c,.int .u64 v] 44):=⟨_,rfl⟩
 have hbo:Blk w1 w.heap.size 44 #[.int .i64 13,.int .i64 a,.int .i64 b,.int .i64 c,.int .u64 v]:=by rw [hw1];exact Blk.new _ _ _
 rw [← hw1]at hf1
 have hp1:=h.fr0 hf1
 have HW1:=hide hw1
 have HF1:=hide hf1
 have HAB:=hide hab
 have HTG:=hide htg
 have HM:=hide hp1.at
 have e0:w1.cell? ⟨w.heap.size,0,none⟩=some (.int .i64 13):=by rw [hbo.cell];rfl
 have e1:w1.cell? ⟨w.heap.size,1,none⟩=some (.int .i64 a):=by rw [hbo.cell];rfl
 have e2:w1.cell? ⟨w.heap.size,2,none⟩=some (.int .i64 b):=by rw [hbo.cell];rfl
 have e3:w1.cell? ⟨w.heap.size,3,none⟩=some (.int .i64 c):=by rw [hbo.cell];rfl
 have e4:w1.cell? ⟨w.heap.size,4,none⟩=some (.int .u64 v):=by rw [hbo.cell];rfl
 have NO:w.heap.size<w1.heap.size:=lt_of_cell e0
 unfold opV
 clear hw1 hf1 hab htg h hbo
 have H1:=hide (mat_any hp1 ht a)
 have c2:=hp1.c2
 have NM:Λ.m<w1.heap.size:=hp1.st.lt
 unfold sendS sendE
 by_cases hi:hkIn (σ.st t) a
 ·have e5:hkAtE (σ.st t) a=0:=by unfold hkAtE;rw [if_pos hi]
  rw [e5]at H1
  have hT:=hd.t
  rw [if_pos hi]
  rcases fieldIn_ways T b with⟨k1,k2⟩ | ⟨k1,k3,k2⟩ | ⟨k1,k3,k2⟩
  ·rw [if_neg k2,if_neg (fun hx=>k2 hx.2)]
   generalize hkAt (σ.st t) a=y at *
   clear hp1 k2 ok hd ht e5 hi
   go_enter Tryz.func43,Tryz.ntmps43
   go_upto_region 1 with fail
   rw [← HW1.out]
   go_wp2_with fail
   refine H1.out.mono ?_
   rintro e w' ⟨rfl,rfl⟩
   go_wp2_with fail
   go_quiet (fail)
   go_wp2_with fail
   go_ret
   exact MActPost.of0 HF1.out (GFr.refl _ _) HM.out HAB.out HTG.out ((Fr.refl _ _).drewN _)
  ·rw [if_neg k2,if_neg (fun hx=>k2 hx.2)]
   have k0:¬ b<0:=by omega
   generalize hkAt (σ.st t) a=y at *
   clear hp1 k2 ok hd ht e5 hi
   go_enter Tryz.func43,Tryz.ntmps43
   go_upto_region 1 with fail
   rw [← HW1.out]
   go_wp2_with fail
   refine H1.out.mono ?_
   rintro e w' ⟨rfl,rfl⟩
   go_wp2_with fail
   go_quiet (fail)
   go_wp2_with fail
   go_ret
   exact MActPost.of0 HF1.out (GFr.refl _ _) HM.out HAB.out HTG.out ((Fr.refl _ _).drewN _)
  ·rw [if_pos k2,if_pos ⟨hi,k2⟩]
   obtain⟨j,rfl⟩:=Int.eq_ofNat_of_zero_le k1
   rw [Int.toNat_natCast]
   have hj:j<T:=by omega
   have HP:Hid (∀w',Fr [] w1 w'→Calls Tryz.prog 73 #[.pointer (some ⟨Λ.S j,0,none⟩),.int .u64 (hkAt (σ.st t) a)] w' (MSt w' tg Λ T T B M (σ.push B j (hkAt (σ.st t) a)) (.int .i64 (hkPushE B (σ.st j))))):=fun w' hf=>mpush_any (hp1.fr0 hf) ok hd (by assumption) _
   obtain⟨g,off,hg1,_,hg2,hg3,_,_⟩:=hp1.row.pos (by omega)
   rw [hg1]at c2
   have cj:w1.cell? ⟨g,off+j,none⟩=some (.pointer (some ⟨Λ.S j,0,none⟩)):=by rw [hg3 j hj];exact ptrs_at _ hj
   have k0:¬ (j:Int)<0:=by omega
   generalize σ.push B j _=σ' at *
   generalize hkPushE B (σ.st j)=E at *
   generalize hkAt (σ.st t) a=y at *
   clear hp1 ok hd ht HM e5 hi k2 hg1 hg3
   go_enter Tryz.func43,Tryz.ntmps43
   go_upto_region 1 with fail
   rw [← HW1.out]
   go_wp2_with fail
   refine H1.out.mono ?_
   rintro e w' ⟨rfl,rfl⟩
   go_wp2_with fail
   go_quiet (fail)
   go_wp2_with fail
   refine region_tail 9 (by kernel_rfl) (by kernel_rfl) ?_
   simp only [List.take_succ_cons,List.take_zero,List.drop_succ_cons,List.drop_zero]
   repeat still_step
   refine wpStill_nil ?_
   go_wp2_with fail
   refine(HP.out _ (((Fr.refl _ _).drewN _).drew)).mono ?_
   rintro e w2 ⟨rfl,tg2,hp2,hg2⟩
   have HP2:=hide hp2.at
   have HG2:=hide hg2
   clear hp2 hg2
   go_wp2_with fail
   go_ret
   exact MActPost.of0 HF1.out ((GFr.fr0 (((Fr.refl _ _).drewN _).drew)).trans HG2.out) HP2.out HAB.out HTG.out (Fr.refl _ _)
 ·have e5:hkAtE (σ.st t) a=10:=by unfold hkAtE;rw [if_neg hi]
  rw [e5]at H1
  rw [if_neg hi,if_neg (fun hx=>hi hx.1)]
  generalize hkAt (σ.st t) a=y at *
  clear hp1 ok hd ht e5 hi c2
  go_enter Tryz.func43,Tryz.ntmps43
  go_upto_region 1 with fail
  rw [← HW1.out]
  go_wp2_with fail
  refine H1.out.mono ?_
  rintro e w' ⟨rfl,rfl⟩
  go_wp2_with fail
  go_ret
  exact MActPost.of0 HF1.out (GFr.refl _ _) HM.out HAB.out HTG.out (Fr.refl _ _)
end
end Go.Proofs.YtfcjdinlcehpmaaGreatDoor
