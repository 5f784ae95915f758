/- Several texts joined (pack.py): Tz G. -/
import Derived.Test.YteacgfeiedcdiaaGreatDoorProg
import Derived.Test.YteacgfeiedcdiaaGreatDoorPW00
import Derived.Test.YteacgfeiedcdiaaGreatDoorPW02
import Derived.WalkKit
import Derived.BigQuiet
namespace Go.Proofs.YteacgfeiedcdiaaGreatDoor
set_option linter.unusedVariables false
open Go.RowKit Go.Gl
def Tab(w:World):Prop:=∀k:Nat,k<64→w.cell? ⟨0,k,none⟩=some (.int .u8 (Lib.deBruijn64tab.getD k 0:Nat))
theorem tz_index(x:Nat)(hx:x<18446744073709551616)(h0:0<x):∃i:Nat,i<64∧Lib.deBruijn64tab.getD i 0=Lib.ctz 64 x ∧
  IntKind.u64.wrap (bits BinOp.and IntKind.u64 (↑x) (IntKind.u64.wrap (-↑x))*285870213051353865) / 288230376151711744=(i:Int):=by
 obtain⟨m,hm,hk⟩:=Lib.ctzFrom_spec 64 x h0 hx
 have hc:Lib.ctz 64 x=Lib.ctzFrom 64 x:=by unfold Lib.ctz;rw [if_neg (by omega)]
 rw [hc]
 generalize Lib.ctzFrom 64 x=k at *
 obtain⟨d1,d2⟩:=Lib.deBruijn64_at k hk
 refine⟨_,d1,d2,?_⟩
 have e1:IntKind.u64.wrap (-(x:Int))=((18446744073709551616-x:Nat):Int):=by rw [IntKind.wrap_u64];omega
 have e2:x &&& (18446744073709551616-x)=2 ^ k:=by
  have h:=Lib.and_neg 64 k m (by rw [← hm];exact hx)
  rw [← hm]at h
  exact h
 rw [e1,u64_and_nat _ _ hx (by omega),e2,IntKind.wrap_u64]
 rfl
theorem tz_any(x:Nat)(hx:x<18446744073709551616)(h0:0<x)(w:World)(hT:Tab w) :
  Calls Tryz.prog 102 #[.int .u64 (x:Int)] w fun e w'=>e=.returned (.int .i64 ((Lib.ctz 64 x:Nat):Int))∧w=w':=by
 obtain⟨i,hi,ht,he⟩:=tz_index x hx h0
 have hcell:=hT i hi
 rw [ht]at hcell
 have hlt:Lib.ctz 64 x<64:=(ctz_low x h0 hx).1
 clear hT ht
 generalize hX:IntKind.u64.wrap (bits BinOp.and IntKind.u64 (↑x) (IntKind.u64.wrap (-↑x))*285870213051353865) / 288230376151711744=X at he
 subst he
 have hb:0≤IntKind.u64.wrap (bits BinOp.and IntKind.u64 (↑x) (IntKind.u64.wrap (-↑x))*285870213051353865) / 288230376151711744∧IntKind.u64.wrap (bits BinOp.and IntKind.u64 (↑x) (IntKind.u64.wrap (-↑x))*285870213051353865) / 288230376151711744<64:=by rw [hX];omega
 have hc:w.cell? ⟨0,(IntKind.u64.wrap (bits BinOp.and IntKind.u64 (↑x) (IntKind.u64.wrap (-↑x))*285870213051353865) / 288230376151711744).toNat,none⟩=some (.int .u8 ((Lib.ctz 64 x:Nat):Int)):=by
  rw [hX,Int.toNat_natCast];exact hcell
 clear hX hcell
 generalize Lib.ctz 64 x=c at *
 go_enter Tryz.func102,Tryz.ntmps102
 go_wp2
 go_ret
 exact⟨rfl,rfl⟩
theorem Tab.lt{w:World}(h:Tab w):0<w.heap.size:=lt_of_cell (h 0 (by decide))
theorem Tab.fr{w w':World}{F:List Nat}(h:Tab w)(hf:Fr F w w')(h0:0∉F):Tab w':=fun k hk=>(hf.cell (p:=⟨0,k,none⟩) h.lt h0).trans (h k hk)
theorem Tab.alloc{w:World}(h:Tab w)(o:Obj):Tab (w.alloc o):=h.fr (F:=[]) ((Fr.refl _ _).alloc o) (by simp)
theorem Tab.drewN{w:World}(h:Tab w)(n:Nat):Tab (w.drewN n):=h
theorem within_any(n lo hi:Int)(w:World):Calls Tryz.prog 159 #[.int .i64 n,.int .i64 lo,.int .i64 hi] w fun e w'=>e=.returned (.bool (wiB n lo hi))∧w=w':=by
 go_enter Tryz.func159,Tryz.ntmps159
 go_wp2
 all_goals
  go_ret
  exact⟨ret_bool (by unfold wiB;first | (simp [*];done) | (simp;omega)),rfl⟩
theorem shiftOf_any(k:Nat)(hk:k<63)(w:World)(hT:Tab w):Calls Tryz.prog 51 #[.int .i64 (pw k)] w fun e w'=>e=.returned (.int .u64 (k:Int))∧w=w':=by
 rw [pw_nat]
 have hc:=ctz_pow k (by omega)
 have h1:2 ^ k<9223372036854775808:=Nat.pow_lt_pow_of_lt (a:=2) (n:=k) (m:=63) (by decide) hk
 have h0:0<2 ^ k:=Nat.two_pow_pos k
 have ht:=tz_any (2 ^ k) (by omega) h0 w hT
 rw [hc]at ht
 generalize 2 ^ k=x at *
 have HT:=hide ht
 clear ht hc hT
 go_enter Tryz.func51,Tryz.ntmps51
 go_wp2_with fail
 refine HT.out.mono ?_
 rintro e w' ⟨rfl,rfl⟩
 go_wp2_with fail
 go_ret
 exact⟨rfl,rfl⟩
theorem isWord_any(g:Geo)(a:Int)(w:World):Calls Tryz.prog 52 #[g.val,.int .i64 a] w fun e w'=>e=.returned (.bool (decide (0≤a)&&decide (a<g.words)))∧Fr [] w w':=by
 unfold Geo.val
 go_enter Tryz.func52,Tryz.ntmps52
 go_wp2
 all_goals
  go_ret
  exact⟨ret_bool (by first | (simp [*];done) | (simp;omega)),(Fr.refl _ _).alloc _⟩
theorem region_any(g:Geo){s k:Nat}(ok:g.Ok s k)(a:Int)(w:World)(hT:Tab w) :
  Calls Tryz.prog 14 #[g.val,.int .i64 a] w fun e w'=>e=.returned (.int .i64 (g.regionOf a))∧Fr [] w w':=by
 have HT:=hide hT
 have hsz:=ok.s20
 have HR:=hide ok.rw
 clear hT
 by_cases h:0≤a∧a<g.words
 ·have HV:Hid (a / g.rw=g.regionOf a):=by unfold Geo.regionOf;rw [if_pos h];exact rfl
  obtain⟨h0,h1⟩:=h
  have hw:=isWord_any g a
  rw [decide_eq_true h0,decide_eq_true h1]at hw
  have HW:=hide hw
  clear hw ok
  unfold Geo.val
  go_enter Tryz.func14,Tryz.ntmps14
  go_wp2_with fail
  refine(HW.out _).mono ?_
  rintro e w1 ⟨rfl,hf⟩
  have hg:=GeoAt.of ((Blk.new w 39 g.cells).fr hf (by simp))
  have HT1:=hide ((HT.out.alloc _).fr hf (by simp))
  have c1:=hg.c1
  rw [HR.out]at c1
  have HF:=hide hf
  clear hf hg
  go_wp2_with fail
  refine(shiftOf_any s (by omega) _ HT1.out).mono ?_
  rintro e w' ⟨rfl,rfl⟩
  go_wp2_with fail
  go_ret
  exact⟨ret_int (by rw [← HV.out,HR.out,pw_pow]),((Fr.refl _ _).alloc _).trans_same HF.out⟩
 ·have HV:Hid (-1=g.regionOf a):=by unfold Geo.regionOf;rw [if_neg h];exact rfl
  have hw:=isWord_any g a
  have hb:(decide (0≤a)&&decide (a<g.words))=false:=by
   rw [Bool.and_eq_false_iff,decide_eq_false_iff_not,decide_eq_false_iff_not];omega
  rw [hb]at hw
  have HW:=hide hw
  clear hw ok hb h
  unfold Geo.val
  go_enter Tryz.func14,Tryz.ntmps14
  go_wp2_with fail
  refine(HW.out _).mono ?_
  rintro e w1 ⟨rfl,hf⟩
  have HF:=hide hf
  clear hf
  go_wp2_with fail
  go_ret
  exact⟨ret_int HV.out,((Fr.refl _ _).alloc _).trans_same HF.out⟩
theorem card_any(g:Geo){s k:Nat}(ok:g.Ok s k)(a:Int)(w:World)(hT:Tab w) :
  Calls Tryz.prog 15 #[g.val,.int .i64 a] w fun e w'=>e=.returned (.int .i64 (g.cardOf a))∧Fr [] w w':=by
 have HT:=hide hT
 have hsz:=ok.k20
 have HR:=hide ok.cw
 clear hT
 by_cases h:0≤a∧a<g.words
 ·have HV:Hid (a / g.cw=g.cardOf a):=by unfold Geo.cardOf;rw [if_pos h];exact rfl
  obtain⟨h0,h1⟩:=h
  have hw:=isWord_any g a
  rw [decide_eq_true h0,decide_eq_true h1]at hw
  have HW:=hide hw
  clear hw ok
  unfold Geo.val
  go_enter Tryz.func15,Tryz.ntmps15
  go_wp2_with fail
  refine(HW.out _).mono ?_
  rintro e w1 ⟨rfl,hf⟩
  have hg:=GeoAt.of ((Blk.new w 39 g.cells).fr hf (by simp))
  have HT1:=hide ((HT.out.alloc _).fr hf (by simp))
  have c1:=hg.c2
  rw [HR.out]at c1
  have HF:=hide hf
  clear hf hg
  go_wp2_with fail
  refine(shiftOf_any k (by omega) _ HT1.out).mono ?_
  rintro e w' ⟨rfl,rfl⟩
  go_wp2_with fail
  go_ret
  exact⟨ret_int (by rw [← HV.out,HR.out,pw_pow]),((Fr.refl _ _).alloc _).trans_same HF.out⟩
 ·have HV:Hid (-1=g.cardOf a):=by unfold Geo.cardOf;rw [if_neg h];exact rfl
  have hw:=isWord_any g a
  have hb:(decide (0≤a)&&decide (a<g.words))=false:=by
   rw [Bool.and_eq_false_iff,decide_eq_false_iff_not,decide_eq_false_iff_not];omega
  rw [hb]at hw
  have HW:=hide hw
  clear hw ok hb h
  unfold Geo.val
  go_enter Tryz.func15,Tryz.ntmps15
  go_wp2_with fail
  refine(HW.out _).mono ?_
  rintro e w1 ⟨rfl,hf⟩
  have HF:=hide hf
  clear hf
  go_wp2_with fail
  go_ret
  exact⟨ret_int HV.out,((Fr.refl _ _).alloc _).trans_same HF.out⟩
theorem base_any(g:Geo){s k:Nat}(ok:g.Ok s k)(a:Int)(w:World)(hT:Tab w) :
  Calls Tryz.prog 82 #[g.val,.int .i64 a] w fun e w'=>e=.returned (.tuple #[.int .i64 (if 0≤a∧a<g.regions then a*g.rw else 0),.int .i64 (if 0≤a∧a<g.regions then 0 else 2)])∧Fr [] w w':=by
 have HT:=hide hT
 have hsz:=ok.s20
 have HR:=hide ok.rw
 clear hT
 by_cases h:0≤a∧a<g.regions
 ·have hm:=ok.base_max h.1 h.2
  rw [if_pos h,if_pos h]
  obtain⟨h0,h1⟩:=h
  have HM:=hide hm
  clear hm ok
  unfold Geo.val
  go_enter Tryz.func82,Tryz.ntmps82
  go_wp2_with fail
  rw [HR.out]
  refine(shiftOf_any s (by omega) _ (HT.out.alloc _)).mono ?_
  rintro e w' ⟨rfl,rfl⟩
  go_wp2_with fail
  go_ret2
  exact⟨ret_ii (by rw [pw_pow,← HR.out];exact IntWalk.wrap64_in _ ⟨by have:=HM.out;omega,by have:=HM.out;omega⟩) rfl,(Fr.refl _ _).alloc _⟩
 ·rw [if_neg h,if_neg h]
  clear ok
  by_cases h0:a<0
  ·unfold Geo.val
   go_enter Tryz.func82,Tryz.ntmps82
   go_wp2_with fail
   go_ret2
   exact⟨ret_ii rfl rfl,(Fr.refl _ _).alloc _⟩
  ·have h1:g.regions≤a:=by omega
   unfold Geo.val
   go_enter Tryz.func82,Tryz.ntmps82
   go_wp2_with fail
   go_ret2
   exact⟨ret_ii rfl rfl,(Fr.refl _ _).alloc _⟩
theorem first_any(g:Geo){s k:Nat}(ok:g.Ok s k)(a:Int)(w:World)(hT:Tab w) :
  Calls Tryz.prog 13 #[g.val,.int .i64 a] w fun e w'=>e=.returned (.tuple #[.int .i64 (if 0≤a∧a<g.cards then a*g.cw else 0),.int .i64 (if 0≤a∧a<g.cards then 0 else 2)])∧Fr [] w w':=by
 have HT:=hide hT
 have hsz:=ok.k20
 have HR:=hide ok.cw
 clear hT
 by_cases h:0≤a∧a<g.cards
 ·have hm:=ok.first_max h.1 h.2
  rw [if_pos h,if_pos h]
  obtain⟨h0,h1⟩:=h
  have HM:=hide hm
  clear hm ok
  unfold Geo.val
  go_enter Tryz.func13,Tryz.ntmps13
  go_wp2_with fail
  rw [HR.out]
  refine(shiftOf_any k (by omega) _ (HT.out.alloc _)).mono ?_
  rintro e w' ⟨rfl,rfl⟩
  go_wp2_with fail
  go_ret2
  exact⟨ret_ii (by rw [pw_pow,← HR.out];exact IntWalk.wrap64_in _ ⟨by have:=HM.out;omega,by have:=HM.out;omega⟩) rfl,(Fr.refl _ _).alloc _⟩
 ·rw [if_neg h,if_neg h]
  clear ok
  by_cases h0:a<0
  ·unfold Geo.val
   go_enter Tryz.func13,Tryz.ntmps13
   go_wp2_with fail
   go_ret2
   exact⟨ret_ii rfl rfl,(Fr.refl _ _).alloc _⟩
  ·have h1:g.cards≤a:=by omega
   unfold Geo.val
   go_enter Tryz.func13,Tryz.ntmps13
   go_wp2_with fail
   go_ret2
   exact⟨ret_ii rfl rfl,(Fr.refl _ _).alloc _⟩
theorem span_any(g:Geo){s k:Nat}(ok:g.Ok s k)(n:Int)(hn:n≤9223372036854775807)(w:World)(hT:Tab w) :
  Calls Tryz.prog 81 #[g.val,.int .i64 n] w fun e w'=>e=.returned (.int .i64 (g.spanOf n))∧Fr [] w w':=by
 have HT:=hide hT
 have hsz:=ok.s20
 have HR:=hide ok.rw
 clear hT
 by_cases h:n<1
 ·have HV:Hid (0=g.spanOf n):=by unfold Geo.spanOf;rw [if_pos h];exact rfl
  clear ok
  unfold Geo.val
  go_enter Tryz.func81,Tryz.ntmps81
  go_wp2_with fail
  go_ret
  exact⟨ret_int HV.out,(Fr.refl _ _).alloc _⟩
 ·have HV:Hid ((n-1) / g.rw+1=g.spanOf n):=by unfold Geo.spanOf;rw [if_neg h];exact rfl
  have hq:0≤(n-1) / 2 ^ s∧(n-1) / 2 ^ s≤n-1:=by
   rw [pw_pow]
   exact⟨Int.ediv_nonneg (by omega) (Int.le_of_lt (pw_pos _)),Int.ediv_le_self _ (by omega)⟩
  clear ok
  unfold Geo.val
  go_enter Tryz.func81,Tryz.ntmps81
  go_wp2_with fail
  rw [HR.out]
  refine(shiftOf_any s (by omega) _ (HT.out.alloc _)).mono ?_
  rintro e w' ⟨rfl,rfl⟩
  go_wp2_with fail
  go_ret
  exact⟨ret_int (by rw [← HV.out,HR.out,pw_pow]),(Fr.refl _ _).alloc _⟩
theorem cross_any(g:Geo){s k:Nat}(ok:g.Ok s k)(a b:Int)(w:World)(hT:Tab w) :
  Calls Tryz.prog 148 #[g.val,.int .i64 a,.int .i64 b] w fun e w'=>e=.returned (.bool (g.crossB a b))∧Fr [] w w':=by
 have HT:=hide hT
 have hsz:=ok.s20
 have HR:=hide ok.rw
 have HM:=hide ok.wmax
 clear hT
 have hwa:=isWord_any g a
 have hwb:=isWord_any g b
 by_cases ha:(decide (0≤a)&&decide (a<g.words))=true
 ·by_cases hb:(decide (0≤b)&&decide (b<g.words))=true
  ·rw [ha]at hwa
   rw [hb]at hwb
   have HA:=hide hwa
   have HB:=hide hwb
   have HV:Hid (g.crossB a b=decide (a / g.rw≠b / g.rw)):=by unfold Geo.crossB;rw [ha,hb];rfl
   simp only [Bool.and_eq_true,decide_eq_true_eq]at ha hb
   obtain⟨a0,a1⟩:=ha
   obtain⟨b0,b1⟩:=hb
   clear hwa hwb ok
   unfold Geo.val
   go_enter Tryz.func148,Tryz.ntmps148
   go_wp2_with fail
   refine(HA.out _).mono ?_
   rintro e w1 ⟨rfl,hf⟩
   have hg:=GeoAt.of ((Blk.new w 39 g.cells).fr hf (by simp))
   have HT1:=hide ((HT.out.alloc _).fr hf (by simp))
   have HF:Hid (Fr [] w w1):=((Fr.refl _ _).alloc _).trans_same hf
   obtain⟨c0,c1,c2,c3,c4,c5⟩:=hg
   go_wp2_with fail
   refine(HB.out _).mono ?_
   rintro e w2 ⟨rfl,hf2⟩
   have c1':=(hf2.cell (p:=⟨w.heap.size,1,none⟩) (lt_of_cell c1) (by simp)).trans c1
   have HT2:=hide (HT1.out.fr hf2 (by simp))
   have HF2:Hid (Fr [] w w2):=HF.out.trans_same hf2
   clear hf2 hf c0 c1 c2 c3 c4 c5
   rw [HR.out]at c1'
   go_wp2_with fail
   refine(shiftOf_any s (by omega) _ HT2.out).mono ?_
   rintro e w' ⟨rfl,rfl⟩
   go_wp2_with fail
   go_ret
   refine⟨ret_bool ?_,HF2.out⟩
   have:=HM.out
   rw [HV.out,HR.out,← xor_cross a b s a0 (by omega) b0 (by omega)]
  ·have hb':(decide (0≤b)&&decide (b<g.words))=false:=by simpa using hb
   rw [ha]at hwa
   rw [hb']at hwb
   have HA:=hide hwa
   have HB:=hide hwb
   have HV:Hid (g.crossB a b=false):=by unfold Geo.crossB;rw [ha,hb'];rfl
   clear hwa hwb ok ha hb hb'
   unfold Geo.val
   go_enter Tryz.func148,Tryz.ntmps148
   go_wp2_with fail
   refine(HA.out _).mono ?_
   rintro e w1 ⟨rfl,hf⟩
   have hg:=GeoAt.of ((Blk.new w 39 g.cells).fr hf (by simp))
   have HF:Hid (Fr [] w w1):=((Fr.refl _ _).alloc _).trans_same hf
   obtain⟨c0,c1,c2,c3,c4,c5⟩:=hg
   clear hf
   go_wp2_with fail
   refine(HB.out _).mono ?_
   rintro e w2 ⟨rfl,hf2⟩
   have HF2:Hid (Fr [] w w2):=HF.out.trans_same hf2
   clear hf2 c0 c1 c2 c3 c4 c5
   go_wp2_with fail
   go_ret
   exact⟨ret_bool HV.out.symm,HF2.out⟩
 ·have ha':(decide (0≤a)&&decide (a<g.words))=false:=by simpa using ha
  rw [ha']at hwa
  have HA:=hide hwa
  have HV:Hid (g.crossB a b=false):=by unfold Geo.crossB;rw [ha'];rfl
  clear hwa hwb ok ha ha'
  unfold Geo.val
  go_enter Tryz.func148,Tryz.ntmps148
  go_wp2_with fail
  refine(HA.out _).mono ?_
  rintro e w1 ⟨rfl,hf⟩
  have HF:Hid (Fr [] w w1):=((Fr.refl _ _).alloc _).trans_same hf
  clear hf
  go_wp2_with fail
  go_ret
  exact⟨ret_bool HV.out.symm,HF.out⟩
theorem mayLie_any(c:Cfg)(w:World):Calls Tryz.prog 158 #[c.val] w fun e w'=>e=.returned (.bool (lieB c))∧Fr [] w w':=by
 by_cases h1:wiB c.shift 6 20=true
 ·have hs:=wiB_iff.1 h1
  obtain⟨s1,s2⟩:=hs
  obtain⟨s,hs⟩:=Int.eq_ofNat_of_zero_le (show 0≤c.shift by omega)
  have HV:Hid (lieB c=(wiB c.regions 2 65536&&(decide (c.regions≤4194304 / pw s)&&wiB c.cardShift 3 c.shift))):=by unfold lieB;rw [h1,hs];rfl
  rw [hs]at HV h1 s1 s2
  unfold Cfg.val
  rw [hs]
  clear hs
  go_enter Tryz.func158,Tryz.ntmps158
  go_wp2_with (go_at_call 159;refine(within_any _ _ _ _).mono ?_;rintro e w' ⟨rfl,rfl⟩)
  all_goals
   go_ret
   refine⟨ret_bool ?_,(Fr.refl _ _).alloc _⟩
   rw [HV.out,← pw_pow]
  all_goals first
   | (simp [*];done)
   | (have hlt:=Int.not_le.2 ‹4194304 / 2 ^ s<c.regions›;simp [*])
 ·have h1':wiB c.shift 6 20=false:=by simpa using h1
  have HV:Hid (lieB c=false):=by unfold lieB;rw [h1'];rfl
  clear h1
  unfold Cfg.val
  go_enter Tryz.func158,Tryz.ntmps158
  go_wp2_with (go_at_call 159;refine(within_any _ _ _ _).mono ?_;rintro e w' ⟨rfl,rfl⟩)
  go_ret
  exact⟨ret_bool HV.out.symm,(Fr.refl _ _).alloc _⟩
set_option maxHeartbeats 1600000 in
theorem mayBe_any(c:Cfg)(w:World):Calls Tryz.prog 125 #[c.val] w fun e w'=>e=.returned (.bool (mayB c))∧Fr [] w w':=by
 have hl:=mayLie_any c
 by_cases h1:lieB c=true
 ·rw [h1]at hl
  have HL:=hide hl
  have HV:Hid (mayB c=(wiB c.threads 1 64&&(wiB c.roots 1 64&&(wiB c.refiners 0 8&&(wiB c.markers 0 8&&(wiB c.young 1 c.regions&&(wiB c.tenure 0 7&&(wiB c.queue 0 65536&&(wiB c.stack 0 65536&&(wiB c.budget 0 4194304&&(wiB c.percent 0 100&&wiB c.fail 0 65536))))))))))):=by unfold mayB;rw [h1];rfl
  clear hl h1
  unfold Cfg.val
  go_enter Tryz.func125,Tryz.ntmps125
  go_wp2_with fail
  refine(HL.out _).mono ?_
  rintro e w1 ⟨rfl,hf⟩
  have hg:=CfgAt.of ((Blk.new w 23 c.cells).fr hf (by simp))
  have HF:Hid (Fr [] w w1):=((Fr.refl _ _).alloc _).trans_same hf
  clear hf
  obtain⟨-,d1,-,d3,d4,d5,d6,d7,d8,d9,d10,d11,d12,d13⟩:=hg
  go_wp2_with (go_at_call 159;refine(within_any _ _ _ _).mono ?_;rintro e w' ⟨rfl,rfl⟩)
  all_goals
   go_ret
   refine⟨ret_bool ?_,HF.out⟩
   rw [HV.out]
   clear d1 d3 d4 d5 d6 d7 d8 d9 d10 d11 d12 d13
   simp [*]
 ·have h1':lieB c=false:=by simpa using h1
  have HV:Hid (mayB c=false):=by unfold mayB;rw [h1'];rfl
  rw [h1']at hl
  have HL:=hide hl
  clear hl h1 h1'
  unfold Cfg.val
  go_enter Tryz.func125,Tryz.ntmps125
  go_wp2_with fail
  refine(HL.out _).mono ?_
  rintro e w1 ⟨rfl,hf⟩
  have HF:Hid (Fr [] w w1):=((Fr.refl _ _).alloc _).trans_same hf
  clear hf
  go_wp2_with fail
  go_ret
  exact⟨ret_bool HV.out.symm,HF.out⟩
theorem gnew_any(c:Cfg)(w:World):Calls Tryz.prog 71 #[c.val] w fun e w'=>e=.returned (.tuple #[c.ans.val,.int .i64 c.err])∧Fr [] w w':=by
 have hl:=mayBe_any c
 by_cases h1:mayB c=true
 ·rw [h1]at hl
  have HL:=hide hl
  have ok:=Cfg.geo_ok (mayB_lie h1)
  have hlie:=lieB_iff.1 (mayB_lie h1)
  obtain⟨⟨s1,s2⟩,⟨r1,r2⟩,r3,k1,k2⟩:=hlie
  obtain⟨s,hs⟩:=Int.eq_ofNat_of_zero_le (show 0≤c.shift by omega)
  obtain⟨k,hk⟩:=Int.eq_ofNat_of_zero_le (show 0≤c.cardShift by omega)
  have HG:=hide (Cfg.geo_val (mayB_lie h1) hs hk)
  clear ok r3
  rw [hs]at s1 s2 k2
  rw [hk]at k1 k2
  have HE:Hid (c.ans=c.geo∧c.err=0):=by unfold Cfg.ans Cfg.err;rw [if_pos h1,if_pos h1];exact⟨rfl,rfl⟩
  clear hl h1
  unfold Cfg.val
  go_enter Tryz.func71,Tryz.ntmps71
  go_wp2_with fail
  rw [← hs,← hk]
  refine(HL.out _).mono ?_
  rintro e w1 ⟨rfl,hf⟩
  have hc1:=((Blk.new w 23 c.cells).alloc (.cells Geo.zero.cells 39)).fr hf (by simp)
  have hb:Blk w1 (w.heap.size+1) 39 Geo.zero.cells:=(Blk.new_at (w:=w.alloc (.cells c.cells 23)) 39 Geo.zero.cells (by simp)).fr hf (by simp)
  obtain⟨g0,g1,g2,-,-,-,-,-,-,-,-,-,-,-⟩:=CfgAt.of hc1
  have HF:=hide hf
  obtain⟨c0,c1,c2,c3,c4,c5⟩:=GeoAt.of hb
  have f0:=hb.frozen 0
  have f1:=hb.frozen 1
  have f2:=hb.frozen 2
  have f3:=hb.frozen 3
  have f4:=hb.frozen 4
  have f5:=hb.frozen 5
  rw [hs]at g0
  rw [hk]at g2
  clear hf hb hc1
  go_wp2_with fail
  go_quiet (fail)
  go_wp2_with fail
  ·refine bodyPost_ret (v:=.tuple #[.agg #[.int .i64 (wrap64 (c.regions*2 ^ s)),.int .i64 (wrap64 (2 ^ s)),.int .i64 (wrap64 (2 ^ k)),.int .i64 c.regions,.int .i64 (wrap64 (c.regions*2 ^ s) / 2 ^ k),.int .i64 (wrap64 ((c.regions-1)*2 ^ s))],.int .i64 0]) (by simp [results,Tryz.results71,go_sem, *]) rfl ⟨?_,?_⟩
   ·rw [HE.out.1,HE.out.2,HG.out _ (by rw [if_pos ‹_›])]
   ·repeat (refine Fr.setCell ?_ (.inr (Nat.le_succ _)) _)
    exact((((Fr.refl _ _).alloc _).alloc _).trans_same HF.out).drewN _
  ·refine bodyPost_ret (v:=.tuple #[.agg #[.int .i64 (wrap64 (c.regions*2 ^ s)),.int .i64 (wrap64 (2 ^ s)),.int .i64 (wrap64 (2 ^ k)),.int .i64 c.regions,.int .i64 (wrap64 (c.regions*2 ^ s) / 2 ^ k),.int .i64 1048576],.int .i64 0]) (by simp [results,Tryz.results71,go_sem, *]) rfl ⟨?_,?_⟩
   ·rw [HE.out.1,HE.out.2,HG.out 1048576 (by rw [if_neg (by omega)])]
   ·repeat (refine Fr.setCell ?_ (.inr (Nat.le_succ _)) _)
    exact((((Fr.refl _ _).alloc _).alloc _).trans_same HF.out).drewN _
 ·have h1':mayB c=false:=by simpa using h1
  rw [h1']at hl
  have HL:=hide hl
  have HE:Hid (c.ans=Geo.zero∧c.err=20):=by unfold Cfg.ans Cfg.err;rw [if_neg h1,if_neg h1];exact⟨rfl,rfl⟩
  clear hl h1 h1'
  unfold Cfg.val
  go_enter Tryz.func71,Tryz.ntmps71
  go_wp2_with fail
  refine(HL.out _).mono ?_
  rintro e w1 ⟨rfl,hf⟩
  have hb:Blk w1 (w.heap.size+1) 39 Geo.zero.cells:=(Blk.new_at (w:=w.alloc (.cells c.cells 23)) 39 Geo.zero.cells (by simp)).fr hf (by simp)
  have HF:=hide hf
  have HB:=hide hb
  obtain⟨c0,c1,c2,c3,c4,c5⟩:=GeoAt.of hb
  have f0:=hb.frozen 0
  have f1:=hb.frozen 1
  have f2:=hb.frozen 2
  have f3:=hb.frozen 3
  have f4:=hb.frozen 4
  have f5:=hb.frozen 5
  clear hf hb
  go_wp2_with fail
  refine bodyPost_ret (v:=.tuple #[.agg #[.int .i64 0,.int .i64 0,.int .i64 0,.int .i64 0,.int .i64 0,.int .i64 0],.int .i64 20]) (by simp [results,Tryz.results71,go_sem, *]) rfl ⟨?_,?_⟩
  ·rw [HE.out.1,HE.out.2];rfl
  ·repeat (refine Fr.setCell ?_ (.inr (Nat.le_succ _)) _)
   exact(((Fr.refl _ _).alloc _).alloc _).trans_same HF.out
end Go.Proofs.YteacgfeiedcdiaaGreatDoor
