/- The document's answer for layer 2: May. -/
import Derived.Test.YteacgfeiedcdiaaGreatDoorPW10
namespace Go.Proofs.YteacgfeiedcdiaaGreatDoor
set_option linter.unusedVariables false
open Go.RowKit Go.Gl
theorem mayB_0{c:Cfg}(h0:wiB c.shift 6 20=false):mayB c=false:=by unfold mayB lieB;rw [h0];rfl
theorem mayB_1{c:Cfg}(h0:wiB c.shift 6 20=true)(h1:wiB c.regions 2 65536=false):mayB c=false:=by unfold mayB lieB;rw [h0,h1];rfl
theorem mayB_2{c:Cfg}(h0:wiB c.shift 6 20=true)(h1:wiB c.regions 2 65536=true)(h2:decide (c.regions≤4194304 / pw c.shift)=false):mayB c=false:=by unfold mayB lieB;rw [h0,h1,h2];rfl
theorem mayB_3{c:Cfg}(h0:wiB c.shift 6 20=true)(h1:wiB c.regions 2 65536=true)(h2:decide (c.regions≤4194304 / pw c.shift)=true)(h3:wiB c.cardShift 3 c.shift=false):mayB c=false:=by unfold mayB lieB;rw [h0,h1,h2,h3];rfl
theorem mayB_4{c:Cfg}(h0:wiB c.shift 6 20=true)(h1:wiB c.regions 2 65536=true)(h2:decide (c.regions≤4194304 / pw c.shift)=true)(h3:wiB c.cardShift 3 c.shift=true)(h4:wiB c.threads 1 64=false):mayB c=false:=by unfold mayB lieB;rw [h0,h1,h2,h3,h4];rfl
theorem mayB_5{c:Cfg}(h0:wiB c.shift 6 20=true)(h1:wiB c.regions 2 65536=true)(h2:decide (c.regions≤4194304 / pw c.shift)=true)(h3:wiB c.cardShift 3 c.shift=true)(h4:wiB c.threads 1 64=true)(h5:wiB c.roots 1 64=false):mayB c=false:=by unfold mayB lieB;rw [h0,h1,h2,h3,h4,h5];rfl
theorem mayB_6{c:Cfg}(h0:wiB c.shift 6 20=true)(h1:wiB c.regions 2 65536=true)(h2:decide (c.regions≤4194304 / pw c.shift)=true)(h3:wiB c.cardShift 3 c.shift=true)(h4:wiB c.threads 1 64=true)(h5:wiB c.roots 1 64=true)(h6:wiB c.refiners 0 8=false):mayB c=false:=by unfold mayB lieB;rw [h0,h1,h2,h3,h4,h5,h6];rfl
theorem mayB_7{c:Cfg}(h0:wiB c.shift 6 20=true)(h1:wiB c.regions 2 65536=true)(h2:decide (c.regions≤4194304 / pw c.shift)=true)(h3:wiB c.cardShift 3 c.shift=true)(h4:wiB c.threads 1 64=true)(h5:wiB c.roots 1 64=true)(h6:wiB c.refiners 0 8=true)(h7:wiB c.markers 0 8=false):mayB c=false:=by unfold mayB lieB;rw [h0,h1,h2,h3,h4,h5,h6,h7];rfl
theorem mayB_8{c:Cfg}(h0:wiB c.shift 6 20=true)(h1:wiB c.regions 2 65536=true)(h2:decide (c.regions≤4194304 / pw c.shift)=true)(h3:wiB c.cardShift 3 c.shift=true)(h4:wiB c.threads 1 64=true)(h5:wiB c.roots 1 64=true)(h6:wiB c.refiners 0 8=true)(h7:wiB c.markers 0 8=true)(h8:wiB c.young 1 c.regions=false):mayB c=false:=by unfold mayB lieB;rw [h0,h1,h2,h3,h4,h5,h6,h7,h8];rfl
theorem mayB_9{c:Cfg}(h0:wiB c.shift 6 20=true)(h1:wiB c.regions 2 65536=true)(h2:decide (c.regions≤4194304 / pw c.shift)=true)(h3:wiB c.cardShift 3 c.shift=true)(h4:wiB c.threads 1 64=true)(h5:wiB c.roots 1 64=true)(h6:wiB c.refiners 0 8=true)(h7:wiB c.markers 0 8=true)(h8:wiB c.young 1 c.regions=true)(h9:wiB c.tenure 0 7=false):mayB c=false:=by unfold mayB lieB;rw [h0,h1,h2,h3,h4,h5,h6,h7,h8,h9];rfl
theorem mayB_10{c:Cfg}(h0:wiB c.shift 6 20=true)(h1:wiB c.regions 2 65536=true)(h2:decide (c.regions≤4194304 / pw c.shift)=true)(h3:wiB c.cardShift 3 c.shift=true)(h4:wiB c.threads 1 64=true)(h5:wiB c.roots 1 64=true)(h6:wiB c.refiners 0 8=true)(h7:wiB c.markers 0 8=true)(h8:wiB c.young 1 c.regions=true)(h9:wiB c.tenure 0 7=true)(h10:wiB c.queue 0 65536=false):mayB c=false:=by unfold mayB lieB;rw [h0,h1,h2,h3,h4,h5,h6,h7,h8,h9,h10];rfl
theorem mayB_11{c:Cfg}(h0:wiB c.shift 6 20=true)(h1:wiB c.regions 2 65536=true)(h2:decide (c.regions≤4194304 / pw c.shift)=true)(h3:wiB c.cardShift 3 c.shift=true)(h4:wiB c.threads 1 64=true)(h5:wiB c.roots 1 64=true)(h6:wiB c.refiners 0 8=true)(h7:wiB c.markers 0 8=true)(h8:wiB c.young 1 c.regions=true)(h9:wiB c.tenure 0 7=true)(h10:wiB c.queue 0 65536=true)(h11:wiB c.stack 0 65536=false):mayB c=false:=by unfold mayB lieB;rw [h0,h1,h2,h3,h4,h5,h6,h7,h8,h9,h10,h11];rfl
theorem mayB_12{c:Cfg}(h0:wiB c.shift 6 20=true)(h1:wiB c.regions 2 65536=true)(h2:decide (c.regions≤4194304 / pw c.shift)=true)(h3:wiB c.cardShift 3 c.shift=true)(h4:wiB c.threads 1 64=true)(h5:wiB c.roots 1 64=true)(h6:wiB c.refiners 0 8=true)(h7:wiB c.markers 0 8=true)(h8:wiB c.young 1 c.regions=true)(h9:wiB c.tenure 0 7=true)(h10:wiB c.queue 0 65536=true)(h11:wiB c.stack 0 65536=true)(h12:wiB c.budget 0 4194304=false):mayB c=false:=by unfold mayB lieB;rw [h0,h1,h2,h3,h4,h5,h6,h7,h8,h9,h10,h11,h12];rfl
theorem mayB_13{c:Cfg}(h0:wiB c.shift 6 20=true)(h1:wiB c.regions 2 65536=true)(h2:decide (c.regions≤4194304 / pw c.shift)=true)(h3:wiB c.cardShift 3 c.shift=true)(h4:wiB c.threads 1 64=true)(h5:wiB c.roots 1 64=true)(h6:wiB c.refiners 0 8=true)(h7:wiB c.markers 0 8=true)(h8:wiB c.young 1 c.regions=true)(h9:wiB c.tenure 0 7=true)(h10:wiB c.queue 0 65536=true)(h11:wiB c.stack 0 65536=true)(h12:wiB c.budget 0 4194304=true)(h13:wiB c.percent 0 100=false):mayB c=false:=by unfold mayB lieB;rw [h0,h1,h2,h3,h4,h5,h6,h7,h8,h9,h10,h11,h12,h13];rfl
theorem mayB_14{c:Cfg}(h0:wiB c.shift 6 20=true)(h1:wiB c.regions 2 65536=true)(h2:decide (c.regions≤4194304 / pw c.shift)=true)(h3:wiB c.cardShift 3 c.shift=true)(h4:wiB c.threads 1 64=true)(h5:wiB c.roots 1 64=true)(h6:wiB c.refiners 0 8=true)(h7:wiB c.markers 0 8=true)(h8:wiB c.young 1 c.regions=true)(h9:wiB c.tenure 0 7=true)(h10:wiB c.queue 0 65536=true)(h11:wiB c.stack 0 65536=true)(h12:wiB c.budget 0 4194304=true)(h13:wiB c.percent 0 100=true)(h14:wiB c.fail 0 65536=false):mayB c=false:=by unfold mayB lieB;rw [h0,h1,h2,h3,h4,h5,h6,h7,h8,h9,h10,h11,h12,h13,h14];rfl
theorem mayB_all{c:Cfg}(h0:wiB c.shift 6 20=true)(h1:wiB c.regions 2 65536=true)(h2:decide (c.regions≤4194304 / pw c.shift)=true)(h3:wiB c.cardShift 3 c.shift=true)(h4:wiB c.threads 1 64=true)(h5:wiB c.roots 1 64=true)(h6:wiB c.refiners 0 8=true)(h7:wiB c.markers 0 8=true)(h8:wiB c.young 1 c.regions=true)(h9:wiB c.tenure 0 7=true)(h10:wiB c.queue 0 65536=true)(h11:wiB c.stack 0 65536=true)(h12:wiB c.budget 0 4194304=true)(h13:wiB c.percent 0 100=true)(h14:wiB c.fail 0 65536=true):mayB c=true:=by unfold mayB lieB;rw [h0,h1,h2,h3,h4,h5,h6,h7,h8,h9,h10,h11,h12,h13,h14];rfl
set_option maxRecDepth 100000 in
set_option maxHeartbeats 16000000 in
theorem r2may_any(c:Cfg)(w:World):Calls Tryz.prog 69 #[c.val] w fun e w'=>e=.returned (.bool (mayB c))∧Fr [] w w':=by
 have p0:=pw_pos c.shift
 have hq:0≤4194304 / pw c.shift∧4194304 / pw c.shift≤4194304:=⟨Int.ediv_nonneg (by decide) (by omega),Int.ediv_le_self _ (by decide)⟩
 unfold Cfg.val
 go_enter Tryz.func69,Tryz.ntmps69
 go_wp2_with fail
 simp only [List.append]
 refine wp_region_quiet_lit (by kernel_rfl) (by kernel_rfl) ?_
 repeat (go_big_quiet_step (((first | (go_at_call 124;exact quiet_left (r2in_any _ _ _ _)) | (go_at_call 70;exact quiet_left (r2power_any _ (by omega) _))))))
 rcases(Bool.eq_false_or_eq_true (wiB c.shift 6 20)).symm with h0 | h0
 ·have HV:=hide (mayB_0 h0)
  simp only [h0]
  clear h0
  repeat (go_big_quiet_step (((first | (go_at_call 124;exact quiet_left (r2in_any _ _ _ _)) | (go_at_call 70;exact quiet_left (r2power_any _ (by omega) _))))))
  refine wpQuiet_nil ?_
  rintro _ ⟨nq,rfl⟩
  go_wp2_with fail
  go_ret
  exact⟨ret_bool HV.out.symm,((Fr.refl _ _).alloc _).drewN _⟩
 simp only [h0]
 obtain⟨s1,s2⟩:=wiB_iff.1 h0
 have p1:=pw_bound (n:=c.shift) (m:=20) s2 (by decide)
 repeat (go_big_quiet_step (((first | (go_at_call 124;exact quiet_left (r2in_any _ _ _ _)) | (go_at_call 70;exact quiet_left (r2power_any _ (by omega) _))))))
 rcases(Bool.eq_false_or_eq_true (wiB c.regions 2 65536)).symm with h1 | h1
 ·have HV:=hide (mayB_1 h0 h1)
  simp only [h1]
  clear h0 h1
  repeat (go_big_quiet_step (((first | (go_at_call 124;exact quiet_left (r2in_any _ _ _ _)) | (go_at_call 70;exact quiet_left (r2power_any _ (by omega) _))))))
  refine wpQuiet_nil ?_
  rintro _ ⟨nq,rfl⟩
  go_wp2_with fail
  go_ret
  exact⟨ret_bool HV.out.symm,((Fr.refl _ _).alloc _).drewN _⟩
 simp only [h1]
 repeat (go_big_quiet_step (((first | (go_at_call 124;exact quiet_left (r2in_any _ _ _ _)) | (go_at_call 70;exact quiet_left (r2power_any _ (by omega) _))))))
 rcases(Bool.eq_false_or_eq_true (decide (c.regions≤4194304 / pw c.shift))).symm with h2 | h2
 ·have HV:=hide (mayB_2 h0 h1 h2)
  simp only [h2]
  clear h0 h1 h2
  repeat (go_big_quiet_step (((first | (go_at_call 124;exact quiet_left (r2in_any _ _ _ _)) | (go_at_call 70;exact quiet_left (r2power_any _ (by omega) _))))))
  refine wpQuiet_nil ?_
  rintro _ ⟨nq,rfl⟩
  go_wp2_with fail
  go_ret
  exact⟨ret_bool HV.out.symm,((Fr.refl _ _).alloc _).drewN _⟩
 simp only [h2]
 repeat (go_big_quiet_step (((first | (go_at_call 124;exact quiet_left (r2in_any _ _ _ _)) | (go_at_call 70;exact quiet_left (r2power_any _ (by omega) _))))))
 rcases(Bool.eq_false_or_eq_true (wiB c.cardShift 3 c.shift)).symm with h3 | h3
 ·have HV:=hide (mayB_3 h0 h1 h2 h3)
  simp only [h3]
  clear h0 h1 h2 h3
  repeat (go_big_quiet_step (((first | (go_at_call 124;exact quiet_left (r2in_any _ _ _ _)) | (go_at_call 70;exact quiet_left (r2power_any _ (by omega) _))))))
  refine wpQuiet_nil ?_
  rintro _ ⟨nq,rfl⟩
  go_wp2_with fail
  go_ret
  exact⟨ret_bool HV.out.symm,((Fr.refl _ _).alloc _).drewN _⟩
 simp only [h3]
 repeat (go_big_quiet_step (((first | (go_at_call 124;exact quiet_left (r2in_any _ _ _ _)) | (go_at_call 70;exact quiet_left (r2power_any _ (by omega) _))))))
 rcases(Bool.eq_false_or_eq_true (wiB c.threads 1 64)).symm with h4 | h4
 ·have HV:=hide (mayB_4 h0 h1 h2 h3 h4)
  simp only [h4]
  clear h0 h1 h2 h3 h4
  repeat (go_big_quiet_step (((first | (go_at_call 124;exact quiet_left (r2in_any _ _ _ _)) | (go_at_call 70;exact quiet_left (r2power_any _ (by omega) _))))))
  refine wpQuiet_nil ?_
  rintro _ ⟨nq,rfl⟩
  go_wp2_with fail
  go_ret
  exact⟨ret_bool HV.out.symm,((Fr.refl _ _).alloc _).drewN _⟩
 simp only [h4]
 repeat (go_big_quiet_step (((first | (go_at_call 124;exact quiet_left (r2in_any _ _ _ _)) | (go_at_call 70;exact quiet_left (r2power_any _ (by omega) _))))))
 rcases(Bool.eq_false_or_eq_true (wiB c.roots 1 64)).symm with h5 | h5
 ·have HV:=hide (mayB_5 h0 h1 h2 h3 h4 h5)
  simp only [h5]
  clear h0 h1 h2 h3 h4 h5
  repeat (go_big_quiet_step (((first | (go_at_call 124;exact quiet_left (r2in_any _ _ _ _)) | (go_at_call 70;exact quiet_left (r2power_any _ (by omega) _))))))
  refine wpQuiet_nil ?_
  rintro _ ⟨nq,rfl⟩
  go_wp2_with fail
  go_ret
  exact⟨ret_bool HV.out.symm,((Fr.refl _ _).alloc _).drewN _⟩
 simp only [h5]
 repeat (go_big_quiet_step (((first | (go_at_call 124;exact quiet_left (r2in_any _ _ _ _)) | (go_at_call 70;exact quiet_left (r2power_any _ (by omega) _))))))
 rcases(Bool.eq_false_or_eq_true (wiB c.refiners 0 8)).symm with h6 | h6
 ·have HV:=hide (mayB_6 h0 h1 h2 h3 h4 h5 h6)
  simp only [h6]
  clear h0 h1 h2 h3 h4 h5 h6
  repeat (go_big_quiet_step (((first | (go_at_call 124;exact quiet_left (r2in_any _ _ _ _)) | (go_at_call 70;exact quiet_left (r2power_any _ (by omega) _))))))
  refine wpQuiet_nil ?_
  rintro _ ⟨nq,rfl⟩
  go_wp2_with fail
  go_ret
  exact⟨ret_bool HV.out.symm,((Fr.refl _ _).alloc _).drewN _⟩
 simp only [h6]
 repeat (go_big_quiet_step (((first | (go_at_call 124;exact quiet_left (r2in_any _ _ _ _)) | (go_at_call 70;exact quiet_left (r2power_any _ (by omega) _))))))
 rcases(Bool.eq_false_or_eq_true (wiB c.markers 0 8)).symm with h7 | h7
 ·have HV:=hide (mayB_7 h0 h1 h2 h3 h4 h5 h6 h7)
  simp only [h7]
  clear h0 h1 h2 h3 h4 h5 h6 h7
  repeat (go_big_quiet_step (((first | (go_at_call 124;exact quiet_left (r2in_any _ _ _ _)) | (go_at_call 70;exact quiet_left (r2power_any _ (by omega) _))))))
  refine wpQuiet_nil ?_
  rintro _ ⟨nq,rfl⟩
  go_wp2_with fail
  go_ret
  exact⟨ret_bool HV.out.symm,((Fr.refl _ _).alloc _).drewN _⟩
 simp only [h7]
 repeat (go_big_quiet_step (((first | (go_at_call 124;exact quiet_left (r2in_any _ _ _ _)) | (go_at_call 70;exact quiet_left (r2power_any _ (by omega) _))))))
 rcases(Bool.eq_false_or_eq_true (wiB c.young 1 c.regions)).symm with h8 | h8
 ·have HV:=hide (mayB_8 h0 h1 h2 h3 h4 h5 h6 h7 h8)
  simp only [h8]
  clear h0 h1 h2 h3 h4 h5 h6 h7 h8
  repeat (go_big_quiet_step (((first | (go_at_call 124;exact quiet_left (r2in_any _ _ _ _)) | (go_at_call 70;exact quiet_left (r2power_any _ (by omega) _))))))
  refine wpQuiet_nil ?_
  rintro _ ⟨nq,rfl⟩
  go_wp2_with fail
  go_ret
  exact⟨ret_bool HV.out.symm,((Fr.refl _ _).alloc _).drewN _⟩
 simp only [h8]
 repeat (go_big_quiet_step (((first | (go_at_call 124;exact quiet_left (r2in_any _ _ _ _)) | (go_at_call 70;exact quiet_left (r2power_any _ (by omega) _))))))
 rcases(Bool.eq_false_or_eq_true (wiB c.tenure 0 7)).symm with h9 | h9
 ·have HV:=hide (mayB_9 h0 h1 h2 h3 h4 h5 h6 h7 h8 h9)
  simp only [h9]
  clear h0 h1 h2 h3 h4 h5 h6 h7 h8 h9
  repeat (go_big_quiet_step (((first | (go_at_call 124;exact quiet_left (r2in_any _ _ _ _)) | (go_at_call 70;exact quiet_left (r2power_any _ (by omega) _))))))
  refine wpQuiet_nil ?_
  rintro _ ⟨nq,rfl⟩
  go_wp2_with fail
  go_ret
  exact⟨ret_bool HV.out.symm,((Fr.refl _ _).alloc _).drewN _⟩
 simp only [h9]
 repeat (go_big_quiet_step (((first | (go_at_call 124;exact quiet_left (r2in_any _ _ _ _)) | (go_at_call 70;exact quiet_left (r2power_any _ (by omega) _))))))
 rcases(Bool.eq_false_or_eq_true (wiB c.queue 0 65536)).symm with h10 | h10
 ·have HV:=hide (mayB_10 h0 h1 h2 h3 h4 h5 h6 h7 h8 h9 h10)
  simp only [h10]
  clear h0 h1 h2 h3 h4 h5 h6 h7 h8 h9 h10
  repeat (go_big_quiet_step (((first | (go_at_call 124;exact quiet_left (r2in_any _ _ _ _)) | (go_at_call 70;exact quiet_left (r2power_any _ (by omega) _))))))
  refine wpQuiet_nil ?_
  rintro _ ⟨nq,rfl⟩
  go_wp2_with fail
  go_ret
  exact⟨ret_bool HV.out.symm,((Fr.refl _ _).alloc _).drewN _⟩
 simp only [h10]
 repeat (go_big_quiet_step (((first | (go_at_call 124;exact quiet_left (r2in_any _ _ _ _)) | (go_at_call 70;exact quiet_left (r2power_any _ (by omega) _))))))
 rcases(Bool.eq_false_or_eq_true (wiB c.stack 0 65536)).symm with h11 | h11
 ·have HV:=hide (mayB_11 h0 h1 h2 h3 h4 h5 h6 h7 h8 h9 h10 h11)
  simp only [h11]
  clear h0 h1 h2 h3 h4 h5 h6 h7 h8 h9 h10 h11
  repeat (go_big_quiet_step (((first | (go_at_call 124;exact quiet_left (r2in_any _ _ _ _)) | (go_at_call 70;exact quiet_left (r2power_any _ (by omega) _))))))
  refine wpQuiet_nil ?_
  rintro _ ⟨nq,rfl⟩
  go_wp2_with fail
  go_ret
  exact⟨ret_bool HV.out.symm,((Fr.refl _ _).alloc _).drewN _⟩
 simp only [h11]
 repeat (go_big_quiet_step (((first | (go_at_call 124;exact quiet_left (r2in_any _ _ _ _)) | (go_at_call 70;exact quiet_left (r2power_any _ (by omega) _))))))
 rcases(Bool.eq_false_or_eq_true (wiB c.budget 0 4194304)).symm with h12 | h12
 ·have HV:=hide (mayB_12 h0 h1 h2 h3 h4 h5 h6 h7 h8 h9 h10 h11 h12)
  simp only [h12]
  clear h0 h1 h2 h3 h4 h5 h6 h7 h8 h9 h10 h11 h12
  repeat (go_big_quiet_step (((first | (go_at_call 124;exact quiet_left (r2in_any _ _ _ _)) | (go_at_call 70;exact quiet_left (r2power_any _ (by omega) _))))))
  refine wpQuiet_nil ?_
  rintro _ ⟨nq,rfl⟩
  go_wp2_with fail
  go_ret
  exact⟨ret_bool HV.out.symm,((Fr.refl _ _).alloc _).drewN _⟩
 simp only [h12]
 repeat (go_big_quiet_step (((first | (go_at_call 124;exact quiet_left (r2in_any _ _ _ _)) | (go_at_call 70;exact quiet_left (r2power_any _ (by omega) _))))))
 rcases(Bool.eq_false_or_eq_true (wiB c.percent 0 100)).symm with h13 | h13
 ·have HV:=hide (mayB_13 h0 h1 h2 h3 h4 h5 h6 h7 h8 h9 h10 h11 h12 h13)
  simp only [h13]
  clear h0 h1 h2 h3 h4 h5 h6 h7 h8 h9 h10 h11 h12 h13
  repeat (go_big_quiet_step (((first | (go_at_call 124;exact quiet_left (r2in_any _ _ _ _)) | (go_at_call 70;exact quiet_left (r2power_any _ (by omega) _))))))
  refine wpQuiet_nil ?_
  rintro _ ⟨nq,rfl⟩
  go_wp2_with fail
  go_ret
  exact⟨ret_bool HV.out.symm,((Fr.refl _ _).alloc _).drewN _⟩
 simp only [h13]
 repeat (go_big_quiet_step (((first | (go_at_call 124;exact quiet_left (r2in_any _ _ _ _)) | (go_at_call 70;exact quiet_left (r2power_any _ (by omega) _))))))
 rcases(Bool.eq_false_or_eq_true (wiB c.fail 0 65536)).symm with h14 | h14
 ·have HV:=hide (mayB_14 h0 h1 h2 h3 h4 h5 h6 h7 h8 h9 h10 h11 h12 h13 h14)
  simp only [h14]
  clear h0 h1 h2 h3 h4 h5 h6 h7 h8 h9 h10 h11 h12 h13 h14
  repeat (go_big_quiet_step (((first | (go_at_call 124;exact quiet_left (r2in_any _ _ _ _)) | (go_at_call 70;exact quiet_left (r2power_any _ (by omega) _))))))
  refine wpQuiet_nil ?_
  rintro _ ⟨nq,rfl⟩
  go_wp2_with fail
  go_ret
  exact⟨ret_bool HV.out.symm,((Fr.refl _ _).alloc _).drewN _⟩
 simp only [h14]
 repeat (go_big_quiet_step (((first | (go_at_call 124;exact quiet_left (r2in_any _ _ _ _)) | (go_at_call 70;exact quiet_left (r2power_any _ (by omega) _))))))
 have HV:=hide (mayB_all h0 h1 h2 h3 h4 h5 h6 h7 h8 h9 h10 h11 h12 h13 h14)
 clear h0 h1 h2 h3 h4 h5 h6 h7 h8 h9 h10 h11 h12 h13 h14
 refine wpQuiet_nil ?_
 rintro _ ⟨nq,rfl⟩
 go_wp2_with fail
 go_ret
 exact⟨ret_bool HV.out.symm,((Fr.refl _ _).alloc _).drewN _⟩
end Go.Proofs.YteacgfeiedcdiaaGreatDoor
