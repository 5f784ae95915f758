/- Several texts joined (pack.py): G Cd R2 R2c Cn Wa. -/
import Derived.Test.YtfcjdinlcehpmaaGreatDoorPW00
import Derived.Test.YtfcjdinlcehpmaaGreatDoorPW01
import Derived.Deep.RegionHeld3
namespace Go.Proofs.YtfcjdinlcehpmaaGreatDoor
set_option linter.unusedVariables false
open Go.RowKit Go.Gl
theorem within_any(n lo hi:Int)(w:World):Calls Tryz.prog 69 #[.int .i64 n,.int .i64 lo,.int .i64 hi] w fun e w'=>e=.returned (.bool (wiB n lo hi))∧w=w':=by
 go_enter Tryz.func69,Tryz.ntmps69
 go_wp2
 all_goals
  go_ret
  exact⟨ret_bool (by unfold wiB;first | (simp [*];done) | (simp;omega)),rfl⟩
theorem shiftOf_any(k:Nat)(hk:k<63)(w:World)(hT:Tab w):Calls Tryz.prog 91 #[.int .i64 (pw k)] w fun e w'=>e=.returned (.int .u64 (k:Int))∧w=w':=by
 rw [pw_nat]
 have hc:=ctz_pow k (by omega)
 have h1:2 ^ k<9223372036854775808:=Nat.pow_lt_pow_of_lt (a:=2) (n:=k) (m:=63) (by decide) hk
 have h0:0<2 ^ k:=Nat.two_pow_pos k
 have ht:=tz_any (2 ^ k) (by omega) h0 w hT
 rw [hc]at ht
 generalize 2 ^ k=x at *
 have HT:=hide ht
 clear ht hc hT
 go_enter Tryz.func91,Tryz.ntmps91
 go_wp2_with fail
 refine HT.out.mono ?_
 rintro e w' ⟨rfl,rfl⟩
 go_wp2_with fail
 go_ret
 exact⟨rfl,rfl⟩
theorem isWord_any(g:Geo)(a:Int)(w:World):Calls Tryz.prog 90 #[g.val,.int .i64 a] w fun e w'=>e=.returned (.bool (decide (0≤a)&&decide (a<g.words)))∧Fr [] w w':=by
 unfold Geo.val
 go_enter Tryz.func90,Tryz.ntmps90
 go_wp2
 all_goals
  go_ret
  exact⟨ret_bool (by first | (simp [*];done) | (simp;omega)),(Fr.refl _ _).alloc _⟩
theorem region_any(g:Geo){s k:Nat}(ok:g.Ok s k)(a:Int)(w:World)(hT:Tab w) :
  Calls Tryz.prog 58 #[g.val,.int .i64 a] w fun e w'=>e=.returned (.int .i64 (g.regionOf a))∧Fr [] w w':=by
 have HT:=hide hT
 have hsz:=ok.s20
 have HR:=hide ok.rw
 clear hT
 by_cases h:0≤a∧a<g.words
 ·have HV:Hid (a / g.rw=g.regionOf a):=by unfold Geo.regionOf;rw [if_pos h];exact rfl
  obtain⟨h0,h1⟩:=h
  have hw:=isWord_any g a
  rw [decide_eq_true h0,decide_eq_true h1]at hw
  have HW:=hide hw
  clear hw ok
  unfold Geo.val
  go_enter Tryz.func58,Tryz.ntmps58
  go_wp2_with fail
  refine(HW.out _).mono ?_
  rintro e w1 ⟨rfl,hf⟩
  have hg:=GeoAt.of ((Blk.new w 65 g.cells).fr hf (by simp))
  have HT1:=hide ((HT.out.alloc _).fr hf (by simp))
  have c1:=hg.c1
  rw [HR.out]at c1
  have HF:=hide hf
  clear hf hg
  go_wp2_with fail
  refine(shiftOf_any s (by omega) _ HT1.out).mono ?_
  rintro e w' ⟨rfl,rfl⟩
  go_wp2_with fail
  go_ret
  exact⟨ret_int (by rw [← HV.out,HR.out,pw_pow]),((Fr.refl _ _).alloc _).trans_same HF.out⟩
 ·have HV:Hid (-1=g.regionOf a):=by unfold Geo.regionOf;rw [if_neg h];exact rfl
  have hw:=isWord_any g a
  have hb:(decide (0≤a)&&decide (a<g.words))=false:=by
   rw [Bool.and_eq_false_iff,decide_eq_false_iff_not,decide_eq_false_iff_not];omega
  rw [hb]at hw
  have HW:=hide hw
  clear hw ok hb h
  unfold Geo.val
  go_enter Tryz.func58,Tryz.ntmps58
  go_wp2_with fail
  refine(HW.out _).mono ?_
  rintro e w1 ⟨rfl,hf⟩
  have HF:=hide hf
  clear hf
  go_wp2_with fail
  go_ret
  exact⟨ret_int HV.out,((Fr.refl _ _).alloc _).trans_same HF.out⟩
theorem card_any(g:Geo){s k:Nat}(ok:g.Ok s k)(a:Int)(w:World)(hT:Tab w) :
  Calls Tryz.prog 65 #[g.val,.int .i64 a] w fun e w'=>e=.returned (.int .i64 (g.cardOf a))∧Fr [] w w':=by
 have HT:=hide hT
 have hsz:=ok.k20
 have HR:=hide ok.cw
 clear hT
 by_cases h:0≤a∧a<g.words
 ·have HV:Hid (a / g.cw=g.cardOf a):=by unfold Geo.cardOf;rw [if_pos h];exact rfl
  obtain⟨h0,h1⟩:=h
  have hw:=isWord_any g a
  rw [decide_eq_true h0,decide_eq_true h1]at hw
  have HW:=hide hw
  clear hw ok
  unfold Geo.val
  go_enter Tryz.func65,Tryz.ntmps65
  go_wp2_with fail
  refine(HW.out _).mono ?_
  rintro e w1 ⟨rfl,hf⟩
  have hg:=GeoAt.of ((Blk.new w 65 g.cells).fr hf (by simp))
  have HT1:=hide ((HT.out.alloc _).fr hf (by simp))
  have c1:=hg.c2
  rw [HR.out]at c1
  have HF:=hide hf
  clear hf hg
  go_wp2_with fail
  refine(shiftOf_any k (by omega) _ HT1.out).mono ?_
  rintro e w' ⟨rfl,rfl⟩
  go_wp2_with fail
  go_ret
  exact⟨ret_int (by rw [← HV.out,HR.out,pw_pow]),((Fr.refl _ _).alloc _).trans_same HF.out⟩
 ·have HV:Hid (-1=g.cardOf a):=by unfold Geo.cardOf;rw [if_neg h];exact rfl
  have hw:=isWord_any g a
  have hb:(decide (0≤a)&&decide (a<g.words))=false:=by
   rw [Bool.and_eq_false_iff,decide_eq_false_iff_not,decide_eq_false_iff_not];omega
  rw [hb]at hw
  have HW:=hide hw
  clear hw ok hb h
  unfold Geo.val
  go_enter Tryz.func65,Tryz.ntmps65
  go_wp2_with fail
  refine(HW.out _).mono ?_
  rintro e w1 ⟨rfl,hf⟩
  have HF:=hide hf
  clear hf
  go_wp2_with fail
  go_ret
  exact⟨ret_int HV.out,((Fr.refl _ _).alloc _).trans_same HF.out⟩
theorem base_any(g:Geo){s k:Nat}(ok:g.Ok s k)(a:Int)(w:World)(hT:Tab w) :
  Calls Tryz.prog 117 #[g.val,.int .i64 a] w fun e w'=>e=.returned (.tuple #[.int .i64 (if 0≤a∧a<g.regions then a*g.rw else 0),.int .i64 (if 0≤a∧a<g.regions then 0 else 2)])∧Fr [] w w':=by
 have HT:=hide hT
 have hsz:=ok.s20
 have HR:=hide ok.rw
 clear hT
 by_cases h:0≤a∧a<g.regions
 ·have hm:=ok.base_max h.1 h.2
  rw [if_pos h,if_pos h]
  obtain⟨h0,h1⟩:=h
  have HM:=hide hm
  clear hm ok
  unfold Geo.val
  go_enter Tryz.func117,Tryz.ntmps117
  go_wp2_with fail
  rw [HR.out]
  refine(shiftOf_any s (by omega) _ (HT.out.alloc _)).mono ?_
  rintro e w' ⟨rfl,rfl⟩
  go_wp2_with fail
  go_ret2
  exact⟨ret_ii (by rw [pw_pow,← HR.out];exact IntWalk.wrap64_in _ ⟨by have:=HM.out;omega,by have:=HM.out;omega⟩) rfl,(Fr.refl _ _).alloc _⟩
 ·rw [if_neg h,if_neg h]
  clear ok
  by_cases h0:a<0
  ·unfold Geo.val
   go_enter Tryz.func117,Tryz.ntmps117
   go_wp2_with fail
   go_ret2
   exact⟨ret_ii rfl rfl,(Fr.refl _ _).alloc _⟩
  ·have h1:g.regions≤a:=by omega
   unfold Geo.val
   go_enter Tryz.func117,Tryz.ntmps117
   go_wp2_with fail
   go_ret2
   exact⟨ret_ii rfl rfl,(Fr.refl _ _).alloc _⟩
theorem big_any(g:Geo)(n:Int)(w:World)(h0:0≤g.rw):Calls Tryz.prog 61 #[g.val,.int .i64 n] w fun e w'=>e=.returned (.bool (g.bigB n))∧Fr [] w w':=by
 unfold Geo.val Geo.bigB
 go_enter Tryz.func61,Tryz.ntmps61
 go_wp2
 go_ret
 exact⟨rfl,(Fr.refl _ _).alloc _⟩
theorem span_any(g:Geo){s k:Nat}(ok:g.Ok s k)(n:Int)(hn:n≤9223372036854775807)(w:World)(hT:Tab w) :
  Calls Tryz.prog 116 #[g.val,.int .i64 n] w fun e w'=>e=.returned (.int .i64 (g.spanOf n))∧Fr [] w w':=by
 have HT:=hide hT
 have hsz:=ok.s20
 have HR:=hide ok.rw
 clear hT
 by_cases h:n<1
 ·have HV:Hid (0=g.spanOf n):=by unfold Geo.spanOf;rw [if_pos h];exact rfl
  clear ok
  unfold Geo.val
  go_enter Tryz.func116,Tryz.ntmps116
  go_wp2_with fail
  go_ret
  exact⟨ret_int HV.out,(Fr.refl _ _).alloc _⟩
 ·have HV:Hid ((n-1) / g.rw+1=g.spanOf n):=by unfold Geo.spanOf;rw [if_neg h];exact rfl
  have hq:0≤(n-1) / 2 ^ s∧(n-1) / 2 ^ s≤n-1:=by
   rw [pw_pow]
   exact⟨Int.ediv_nonneg (by omega) (Int.le_of_lt (pw_pos _)),Int.ediv_le_self _ (by omega)⟩
  clear ok
  unfold Geo.val
  go_enter Tryz.func116,Tryz.ntmps116
  go_wp2_with fail
  rw [HR.out]
  refine(shiftOf_any s (by omega) _ (HT.out.alloc _)).mono ?_
  rintro e w' ⟨rfl,rfl⟩
  go_wp2_with fail
  go_ret
  exact⟨ret_int (by rw [← HV.out,HR.out,pw_pow]),(Fr.refl _ _).alloc _⟩
theorem cross_any(g:Geo){s k:Nat}(ok:g.Ok s k)(a b:Int)(w:World)(hT:Tab w) :
  Calls Tryz.prog 92 #[g.val,.int .i64 a,.int .i64 b] w fun e w'=>e=.returned (.bool (g.crossB a b))∧Fr [] w w':=by
 have HT:=hide hT
 have hsz:=ok.s20
 have HR:=hide ok.rw
 have HM:=hide ok.wmax
 clear hT
 have hwa:=isWord_any g a
 have hwb:=isWord_any g b
 by_cases ha:(decide (0≤a)&&decide (a<g.words))=true
 ·by_cases hb:(decide (0≤b)&&decide (b<g.words))=true
  ·rw [ha]at hwa
   rw [hb]at hwb
   have HA:=hide hwa
   have HB:=hide hwb
   have HV:Hid (g.crossB a b=decide (a / g.rw≠b / g.rw)):=by unfold Geo.crossB;rw [ha,hb];rfl
   simp only [Bool.and_eq_true,decide_eq_true_eq]at ha hb
   obtain⟨a0,a1⟩:=ha
   obtain⟨b0,b1⟩:=hb
   clear hwa hwb ok
   unfold Geo.val
   go_enter Tryz.func92,Tryz.ntmps92
   go_wp2_with fail
   refine(HA.out _).mono ?_
   rintro e w1 ⟨rfl,hf⟩
   have hg:=GeoAt.of ((Blk.new w 65 g.cells).fr hf (by simp))
   have HT1:=hide ((HT.out.alloc _).fr hf (by simp))
   have HF:Hid (Fr [] w w1):=((Fr.refl _ _).alloc _).trans_same hf
   obtain⟨c0,c1,c2,c3,c4,c5⟩:=hg
   go_wp2_with fail
   refine(HB.out _).mono ?_
   rintro e w2 ⟨rfl,hf2⟩
   have c1':=(hf2.cell (p:=⟨w.heap.size,1,none⟩) (lt_of_cell c1) (by simp)).trans c1
   have HT2:=hide (HT1.out.fr hf2 (by simp))
   have HF2:Hid (Fr [] w w2):=HF.out.trans_same hf2
   clear hf2 hf c0 c1 c2 c3 c4 c5
   rw [HR.out]at c1'
   go_wp2_with fail
   refine(shiftOf_any s (by omega) _ HT2.out).mono ?_
   rintro e w' ⟨rfl,rfl⟩
   go_wp2_with fail
   go_ret
   refine⟨ret_bool ?_,HF2.out⟩
   have:=HM.out
   rw [HV.out,HR.out,← xor_cross a b s a0 (by omega) b0 (by omega)]
  ·have hb':(decide (0≤b)&&decide (b<g.words))=false:=by simpa using hb
   rw [ha]at hwa
   rw [hb']at hwb
   have HA:=hide hwa
   have HB:=hide hwb
   have HV:Hid (g.crossB a b=false):=by unfold Geo.crossB;rw [ha,hb'];rfl
   clear hwa hwb ok ha hb hb'
   unfold Geo.val
   go_enter Tryz.func92,Tryz.ntmps92
   go_wp2_with fail
   refine(HA.out _).mono ?_
   rintro e w1 ⟨rfl,hf⟩
   have hg:=GeoAt.of ((Blk.new w 65 g.cells).fr hf (by simp))
   have HF:Hid (Fr [] w w1):=((Fr.refl _ _).alloc _).trans_same hf
   obtain⟨c0,c1,c2,c3,c4,c5⟩:=hg
   clear hf
   go_wp2_with fail
   refine(HB.out _).mono ?_
   rintro e w2 ⟨rfl,hf2⟩
   have HF2:Hid (Fr [] w w2):=HF.out.trans_same hf2
   clear hf2 c0 c1 c2 c3 c4 c5
   go_wp2_with fail
   go_ret
   exact⟨ret_bool HV.out.symm,HF2.out⟩
 ·have ha':(decide (0≤a)&&decide (a<g.words))=false:=by simpa using ha
  rw [ha']at hwa
  have HA:=hide hwa
  have HV:Hid (g.crossB a b=false):=by unfold Geo.crossB;rw [ha'];rfl
  clear hwa hwb ok ha ha'
  unfold Geo.val
  go_enter Tryz.func92,Tryz.ntmps92
  go_wp2_with fail
  refine(HA.out _).mono ?_
  rintro e w1 ⟨rfl,hf⟩
  have HF:Hid (Fr [] w w1):=((Fr.refl _ _).alloc _).trans_same hf
  clear hf
  go_wp2_with fail
  go_ret
  exact⟨ret_bool HV.out.symm,HF.out⟩
theorem mayLie_any(c:Cfg)(w:World):Calls Tryz.prog 68 #[c.val] w fun e w'=>e=.returned (.bool (lieB c))∧Fr [] w w':=by
 by_cases h1:wiB c.shift 6 20=true
 ·have hs:=wiB_iff.1 h1
  obtain⟨s1,s2⟩:=hs
  obtain⟨s,hs⟩:=Int.eq_ofNat_of_zero_le (show 0≤c.shift by omega)
  have HV:Hid (lieB c=(wiB c.regions 2 65536&&(decide (c.regions≤4194304 / pw s)&&wiB c.cardShift 3 c.shift))):=by unfold lieB;rw [h1,hs];rfl
  rw [hs]at HV h1 s1 s2
  unfold Cfg.val
  rw [hs]
  clear hs
  go_enter Tryz.func68,Tryz.ntmps68
  go_wp2_with (go_at_call 69;refine(within_any _ _ _ _).mono ?_;rintro e w' ⟨rfl,rfl⟩)
  all_goals
   go_ret
   refine⟨ret_bool ?_,(Fr.refl _ _).alloc _⟩
   rw [HV.out,← pw_pow]
  all_goals first
   | (simp [*];done)
   | (have hlt:=Int.not_le.2 ‹4194304 / 2 ^ s<c.regions›;simp [*])
 ·have h1':wiB c.shift 6 20=false:=by simpa using h1
  have HV:Hid (lieB c=false):=by unfold lieB;rw [h1'];rfl
  clear h1
  unfold Cfg.val
  go_enter Tryz.func68,Tryz.ntmps68
  go_wp2_with (go_at_call 69;refine(within_any _ _ _ _).mono ?_;rintro e w' ⟨rfl,rfl⟩)
  go_ret
  exact⟨ret_bool HV.out.symm,(Fr.refl _ _).alloc _⟩
set_option maxHeartbeats 1600000 in
theorem mayBe_any(c:Cfg)(w:World):Calls Tryz.prog 36 #[c.val] w fun e w'=>e=.returned (.bool (mayB c))∧Fr [] w w':=by
 have hl:=mayLie_any c
 by_cases h1:lieB c=true
 ·rw [h1]at hl
  have HL:=hide hl
  have HV:Hid (mayB c=(wiB c.threads 1 64&&(wiB c.roots 1 64&&(wiB c.refiners 0 8&&(wiB c.markers 0 8&&(wiB c.young 1 c.regions&&(wiB c.tenure 0 7&&(wiB c.queue 0 65536&&(wiB c.stack 0 65536&&(wiB c.budget 0 4194304&&(wiB c.percent 0 100&&wiB c.fail 0 65536))))))))))):=by unfold mayB;rw [h1];rfl
  clear hl h1
  unfold Cfg.val
  go_enter Tryz.func36,Tryz.ntmps36
  go_wp2_with fail
  refine(HL.out _).mono ?_
  rintro e w1 ⟨rfl,hf⟩
  have hg:=CfgAt.of ((Blk.new w 23 c.cells).fr hf (by simp))
  have HF:Hid (Fr [] w w1):=((Fr.refl _ _).alloc _).trans_same hf
  clear hf
  obtain⟨-,d1,-,d3,d4,d5,d6,d7,d8,d9,d10,d11,d12,d13⟩:=hg
  go_wp2_with (go_at_call 69;refine(within_any _ _ _ _).mono ?_;rintro e w' ⟨rfl,rfl⟩)
  all_goals
   go_ret
   refine⟨ret_bool ?_,HF.out⟩
   rw [HV.out]
   clear d1 d3 d4 d5 d6 d7 d8 d9 d10 d11 d12 d13
   simp [*]
 ·have h1':lieB c=false:=by simpa using h1
  have HV:Hid (mayB c=false):=by unfold mayB;rw [h1'];rfl
  rw [h1']at hl
  have HL:=hide hl
  clear hl h1 h1'
  unfold Cfg.val
  go_enter Tryz.func36,Tryz.ntmps36
  go_wp2_with fail
  refine(HL.out _).mono ?_
  rintro e w1 ⟨rfl,hf⟩
  have HF:Hid (Fr [] w w1):=((Fr.refl _ _).alloc _).trans_same hf
  clear hf
  go_wp2_with fail
  go_ret
  exact⟨ret_bool HV.out.symm,HF.out⟩
theorem gnew_any(c:Cfg)(w:World):Calls Tryz.prog 15 #[c.val] w fun e w'=>e=.returned (.tuple #[c.ans.val,.int .i64 c.err])∧Fr [] w w':=by
 have hl:=mayBe_any c
 by_cases h1:mayB c=true
 ·rw [h1]at hl
  have HL:=hide hl
  have ok:=Cfg.geo_ok (mayB_lie h1)
  have hlie:=lieB_iff.1 (mayB_lie h1)
  obtain⟨⟨s1,s2⟩,⟨r1,r2⟩,r3,k1,k2⟩:=hlie
  obtain⟨s,hs⟩:=Int.eq_ofNat_of_zero_le (show 0≤c.shift by omega)
  obtain⟨k,hk⟩:=Int.eq_ofNat_of_zero_le (show 0≤c.cardShift by omega)
  have HG:=hide (Cfg.geo_val (mayB_lie h1) hs hk)
  clear ok r3
  rw [hs]at s1 s2 k2
  rw [hk]at k1 k2
  have HE:Hid (c.ans=c.geo∧c.err=0):=by unfold Cfg.ans Cfg.err;rw [if_pos h1,if_pos h1];exact⟨rfl,rfl⟩
  clear hl h1
  unfold Cfg.val
  go_enter Tryz.func15,Tryz.ntmps15
  go_wp2_with fail
  rw [← hs,← hk]
  refine(HL.out _).mono ?_
  rintro e w1 ⟨rfl,hf⟩
  have hc1:=((Blk.new w 23 c.cells).alloc (.cells Geo.zero.cells 65)).fr hf (by simp)
  have hb:Blk w1 (w.heap.size+1) 65 Geo.zero.cells:=(Blk.new_at (w:=w.alloc (.cells c.cells 23)) 65 Geo.zero.cells (by simp)).fr hf (by simp)
  obtain⟨g0,g1,g2,-,-,-,-,-,-,-,-,-,-,-⟩:=CfgAt.of hc1
  have HF:=hide hf
  obtain⟨c0,c1,c2,c3,c4,c5⟩:=GeoAt.of hb
  have f0:=hb.frozen 0
  have f1:=hb.frozen 1
  have f2:=hb.frozen 2
  have f3:=hb.frozen 3
  have f4:=hb.frozen 4
  have f5:=hb.frozen 5
  rw [hs]at g0
  rw [hk]at g2
  clear hf hb hc1
  go_wp2_with fail
  go_quiet (fail)
  go_wp2_with fail
  ·refine bodyPost_ret (v:=.tuple #[.agg #[.int .i64 (wrap64 (c.regions*2 ^ s)),.int .i64 (wrap64 (2 ^ s)),.int .i64 (wrap64 (2 ^ k)),.int .i64 c.regions,.int .i64 (wrap64 (c.regions*2 ^ s) / 2 ^ k),.int .i64 (wrap64 ((c.regions-1)*2 ^ s))],.int .i64 0]) (by simp [results,Tryz.results15,go_sem, *]) rfl ⟨?_,?_⟩
   ·rw [HE.out.1,HE.out.2,HG.out _ (by rw [if_pos ‹_›])]
   ·repeat (refine Fr.setCell ?_ (.inr (Nat.le_succ _)) _)
    exact((((Fr.refl _ _).alloc _).alloc _).trans_same HF.out).drewN _
  ·refine bodyPost_ret (v:=.tuple #[.agg #[.int .i64 (wrap64 (c.regions*2 ^ s)),.int .i64 (wrap64 (2 ^ s)),.int .i64 (wrap64 (2 ^ k)),.int .i64 c.regions,.int .i64 (wrap64 (c.regions*2 ^ s) / 2 ^ k),.int .i64 1048576],.int .i64 0]) (by simp [results,Tryz.results15,go_sem, *]) rfl ⟨?_,?_⟩
   ·rw [HE.out.1,HE.out.2,HG.out 1048576 (by rw [if_neg (by omega)])]
   ·repeat (refine Fr.setCell ?_ (.inr (Nat.le_succ _)) _)
    exact((((Fr.refl _ _).alloc _).alloc _).trans_same HF.out).drewN _
 ·have h1':mayB c=false:=by simpa using h1
  rw [h1']at hl
  have HL:=hide hl
  have HE:Hid (c.ans=Geo.zero∧c.err=20):=by unfold Cfg.ans Cfg.err;rw [if_neg h1,if_neg h1];exact⟨rfl,rfl⟩
  clear hl h1 h1'
  unfold Cfg.val
  go_enter Tryz.func15,Tryz.ntmps15
  go_wp2_with fail
  refine(HL.out _).mono ?_
  rintro e w1 ⟨rfl,hf⟩
  have hb:Blk w1 (w.heap.size+1) 65 Geo.zero.cells:=(Blk.new_at (w:=w.alloc (.cells c.cells 23)) 65 Geo.zero.cells (by simp)).fr hf (by simp)
  have HF:=hide hf
  have HB:=hide hb
  obtain⟨c0,c1,c2,c3,c4,c5⟩:=GeoAt.of hb
  have f0:=hb.frozen 0
  have f1:=hb.frozen 1
  have f2:=hb.frozen 2
  have f3:=hb.frozen 3
  have f4:=hb.frozen 4
  have f5:=hb.frozen 5
  clear hf hb
  go_wp2_with fail
  refine bodyPost_ret (v:=.tuple #[.agg #[.int .i64 0,.int .i64 0,.int .i64 0,.int .i64 0,.int .i64 0,.int .i64 0],.int .i64 20]) (by simp [results,Tryz.results15,go_sem, *]) rfl ⟨?_,?_⟩
  ·rw [HE.out.1,HE.out.2];rfl
  ·repeat (refine Fr.setCell ?_ (.inr (Nat.le_succ _)) _)
   exact(((Fr.refl _ _).alloc _).alloc _).trans_same HF.out
set_option maxRecDepth 100000
structure Ct(w:World)(tb bs bw n:Nat)(ws:List Nat):Prop where
 tab:Blk w tb 149 #[.pointer (some ⟨bs,0,none⟩)]
 set:BSet w bs bw n ws
section
variable {w w':World}{tb bs bw n:Nat}{ws:List Nat}{F:List Nat}
theorem Ct.fr(h:Ct w tb bs bw n ws)(hf:Fr F w w')(h0:tb∉F)(h1:bs∉F)(h2:bw∉F):Ct w' tb bs bw n ws:=⟨h.tab.fr hf h0,h.set.fr hf h1 h2⟩
theorem Ct.c0(h:Ct w tb bs bw n ws):w.cell? ⟨tb,0,none⟩=some (.pointer (some ⟨bs,0,none⟩)):=by rw [h.tab.cell];rfl
theorem Ct.ne(h:Ct w tb bs bw n ws):tb≠bw:=h.tab.apart h.set.row (by decide)
end
def CtPost(w:World)(tb bs bw n:Nat)(ws:List Nat)(i:Int)(on:Bool)(e:Ending)(w':World):Prop:=
 ∃c er ws',e=.returned (.tuple #[.bool c,.int .i64 er])∧Ct w' tb bs bw n ws'∧Fr [bw] w w'∧Turned ws n i on c er ws'
theorem cset_any{w:World}{tb bs bw n:Nat}{ws:List Nat}(h:Ct w tb bs bw n ws):Calls Tryz.prog 97 #[.pointer (some ⟨tb,0,none⟩)] w fun e w'=>e=.returned (.pointer (some ⟨bs,0,none⟩))∧w=w':=by
 have c0:=h.c0
 clear h
 go_enter Tryz.func97,Tryz.ntmps97
 go_wp2
 go_ret
 exact⟨rfl,rfl⟩
theorem cdirty_any{w:World}{tb bs bw n:Nat}{ws:List Nat}(h:Ct w tb bs bw n ws)(i:Int) :
  Calls Tryz.prog 66 #[.pointer (some ⟨tb,0,none⟩),.int .i64 i] w (CtPost w tb bs bw n ws i true):=by
 have HS:=hide (cset_any h)
 have HP:=hide (put_any h.set i)
 have HB:=hide h.tab
 have HN:=hide h.ne
 clear h
 go_enter Tryz.func66,Tryz.ntmps66
 go_wp2_with (first | (go_at_call 97;refine HS.out.mono ?_;rintro e w' ⟨rfl,rfl⟩) | (go_at_call 98;refine HP.out.mono ?_;rintro e w' ⟨c,er,ws',rfl,hb,hf,ht⟩))
 go_ret2
 exact⟨c,er,ws',rfl,⟨HB.out.fr hf (by have:=HN.out;simp;exact this),hb⟩,hf,ht⟩
def CtNew(w:World)(n:Nat)(e:Ending)(w':World):Prop:=
 ∃tb bs bw,e=.returned (.tuple #[.pointer (some ⟨tb,0,none⟩),.int .i64 0])∧Ct w' tb bs bw n (List.replicate ((n+63) / 64) 0)∧Fr [] w w'∧w.heap.size≤tb∧w.heap.size≤bs∧w.heap.size≤bw
theorem cnew_any(g:Geo)(n:Nat)(hn:n≤4194304)(hg:g.cards=(n:Int))(w:World):Calls Tryz.prog 26 #[g.val] w (CtNew w n):=by
 have HN:=hide (sNew_any n hn)
 obtain⟨a,b,c,d,m,f⟩:=g
 obtain rfl:m=(n:Int):=hg
 unfold Geo.val
 go_enter Tryz.func26,Tryz.ntmps26
 go_wp2_with fail
 refine(HN.out _).mono ?_
 rintro e w1 ⟨bs,bw,rfl,hs,hf,h1,h2⟩
 have HS:=hide hs
 have HF:Hid (Fr [] w w1):=((Fr.refl _ _).alloc _).trans_same hf
 have H1:Hid (w.heap.size≤bs∧w.heap.size≤bw):=by simp at h1 h2;exact⟨by omega,by omega⟩
 clear hs hf h1 h2
 go_wp2_with fail
 go_ret2
 exact⟨w1.heap.size,bs,bw,rfl,⟨Blk.new _ _ _,HS.out.fr ((Fr.refl [] w1).alloc _) (by simp) (by simp)⟩,HF.out.alloc _,HF.out.size,H1.out.1,H1.out.2⟩
def adr(to:Int):Int:=IntKind.i64.wrap (IntKind.u64.wrap (to-1))
theorem adr_in{to:Int}(h1:1≤to)(h2:to≤9223372036854775808):adr to=to-1:=by
 unfold adr
 rw [IntKind.wrap_u64,Int.emod_eq_of_lt (by omega) (by omega)]
 exact IntWalk.i64_in _ ⟨by omega,by omega⟩
theorem adr_out{to:Int}(h0:0≤to)(h1:to≤18446744073709551615)(h:to=0∨9223372036854775808<to):adr to<0:=by
 unfold adr
 have:IntKind.u64.wrap (to-1)=if to=0 then 18446744073709551615 else to-1:=by
  rw [IntKind.wrap_u64]
  split
  ·subst_vars;rfl
  ·exact Int.emod_eq_of_lt (by omega) (by omega)
 rw [this]
 have hw:∀x:Int,9223372036854775808≤x→x≤18446744073709551615→IntKind.i64.wrap x=x-18446744073709551616:=by
  intro x hx hy
  rw [IntKind.wrap_i64]
  omega
 split
 ·rw [hw _ (by decide) (by decide)];decide
 ·rw [hw _ (by omega) (by omega)];omega
theorem caddress_any(to:Int)(w:World):Calls Tryz.prog 93 #[.int .u64 to] w fun e w'=>e=.returned (.int .i64 (adr to))∧w=w':=by
 go_enter Tryz.func93,Tryz.ntmps93
 go_wp2
 go_ret
 exact⟨ret_int (by unfold adr;rw [IntWalk.i64_left]),rfl⟩
def youngB(s:Int):Bool:=s==1||s==2
def noteB(g:Geo)(s field to:Int):Bool:=!youngB s&&g.crossB field (adr to)
theorem cross_no{g:Geo}{a b:Int}(h:b<0∨g.words≤b):g.crossB a b=false:=by
 unfold Geo.crossB
 rcases h with h | h
 ·rw [show decide (0≤b)=false by simp;omega];simp
 ·rw [show decide (b<g.words)=false by simp;omega];simp
theorem note_young{g:Geo}{s field to:Int}(h:s=1∨s=2):noteB g s field to=false:=by
 unfold noteB youngB
 rcases h with rfl | rfl <;> simp
theorem note_no{g:Geo}{s field to:Int}(hw:g.words≤4194304)(h0:0≤to)(h1:to≤18446744073709551615)(h:to=0∨4194304<to):noteB g s field to=false:=by
 unfold noteB
 rw [cross_no,Bool.and_false]
 rcases h with rfl | h
 ·exact .inl (adr_out (by omega) (by omega) (.inl rfl))
 ·by_cases h2:to≤9223372036854775808
  ·rw [adr_in (by omega) h2];exact .inr (by omega)
  ·exact .inl (adr_out (by omega) (by omega) (.inr (by omega)))
theorem note_old{g:Geo}{s field to:Int}(h1:s≠1)(h2:s≠2):noteB g s field to=g.crossB field (adr to):=by
 unfold noteB youngB
 rw [show(s==1)=false by simpa using h1,show(s==2)=false by simpa using h2]
 simp
set_option maxHeartbeats 1600000 in
theorem note_any(g:Geo){s k:Nat}(ok:g.Ok s k)(st field to:Int)(w:World)(hT:Tab w) :
  Calls Tryz.prog 59 #[g.val,.int .i64 st,.int .i64 field,.int .u64 to] w fun e w'=>e=.returned (.bool (noteB g st field to))∧Fr [] w w':=by
 have HX:=hide (fun w' (h:Tab w')=>cross_any g ok field (adr to) w' h)
 have HA:=hide (caddress_any to)
 have HT:=hide hT
 clear hT ok
 have hways:((st==1)=true∧Hid (noteB g st field to=false))∨((st==1)=false∧(st==2)=true∧Hid (noteB g st field to=false))∨((st==1)=false∧(st==2)=false∧Hid (noteB g st field to=g.crossB field (adr to))):=by
  by_cases h1:st=1
  ·exact .inl ⟨by simpa using h1,note_young (.inl h1)⟩
  ·by_cases h2:st=2
   ·exact .inr (.inl ⟨by simpa using h1,by simpa using h2,note_young (.inr h2)⟩)
   ·exact .inr (.inr ⟨by simpa using h1,by simpa using h2,note_old h1 h2⟩)
 generalize adr to=ad at *
 rcases hways with⟨h1,HV⟩ | ⟨h1,h2,HV⟩ | ⟨h1,h2,HV⟩
 all_goals
  rw [HV.out]
  clear HV
  generalize g.crossB field ad=cr at *
  have HX':Hid (∀w',Tab w'→Calls Tryz.prog 92 #[.agg #[.int .i64 g.words,.int .i64 g.rw,.int .i64 g.cw,.int .i64 g.regions,.int .i64 g.cards,.int .i64 g.max],.int .i64 field,.int .i64 ad] w' fun e w''=>e=.returned (.bool cr)∧Fr [] w' w''):=HX
  unfold Geo.val
  go_enter Tryz.func59,Tryz.ntmps59
  go_wp2_with fail
  generalize hw1:w.alloc _=w1
  have hb:GeoAt w1 w.heap.size g:=hw1 ▸ GeoAt.of (Blk.new w 65 g.cells)
  have F0:Hid (Fr [] w w1):=hw1 ▸ (Fr.refl _ _).alloc _
  have T0:Hid (∀u:Cls (Fr [] w1),Tab u.w):=fun u=>(HT.out.fr F0.out (by simp)).fr u.ok (by simp)
  have c0:∀u:Cls (Fr [] w1),u.w.cell? ⟨w.heap.size,0,none⟩=some (.int .i64 g.words):=fun u=>u.cell hb.c0 (by simp)
  have c1:∀u:Cls (Fr [] w1),u.w.cell? ⟨w.heap.size,1,none⟩=some (.int .i64 g.rw):=fun u=>u.cell hb.c1 (by simp)
  have c2:∀u:Cls (Fr [] w1),u.w.cell? ⟨w.heap.size,2,none⟩=some (.int .i64 g.cw):=fun u=>u.cell hb.c2 (by simp)
  have c3:∀u:Cls (Fr [] w1),u.w.cell? ⟨w.heap.size,3,none⟩=some (.int .i64 g.regions):=fun u=>u.cell hb.c3 (by simp)
  have c4:∀u:Cls (Fr [] w1),u.w.cell? ⟨w.heap.size,4,none⟩=some (.int .i64 g.cards):=fun u=>u.cell hb.c4 (by simp)
  have c5:∀u:Cls (Fr [] w1),u.w.cell? ⟨w.heap.size,5,none⟩=some (.int .i64 g.max):=fun u=>u.cell hb.c5 (by simp)
  clear hw1 hb HX
  refine wp_region_cls (Fr [] w1) (by kernel_rfl) (by kernel_rfl) (Fr.refl _ _).drew ?_
  repeat (go_big_quiet_step ((first | (go_at_call 93;exact(HA.out _).mono fun e w'' ⟨he,hw⟩=>⟨he,_,hw.symm⟩) | (go_at_call 92;exact Cls.grow (HX'.out _ (T0.out _))))))
  refine wpQuiet_nil ?_
  rintro _ ⟨u,rfl⟩
  go_wp2_with fail
  go_ret
  exact⟨rfl,F0.out.trans_same u.ok⟩
set_option linter.unusedSimpArgs false
structure PT where
 st:Int
 rf:List Int
 dt:List Int
def PT.sz(t:PT):Nat:=1+t.rf.length+t.dt.length
structure Pl where
 c:Cfg
 n:Nat
 T:Nat→PT
 m:Nat
 H:Nat→List Int
structure PA where
 tb:Nat
 to:Nat
 tc:Nat
 tA:Option Addr
 rA:Nat→Option Addr
 rc:Nat→Nat
 dA:Nat→Option Addr
 dc:Nat→Nat
 hb:Nat
 ho:Nat
 hc:Nat
 hA:Option Addr
 lA:Nat→Option Addr
 lc:Nat→Nat
def PA.val(Q:PA)(p:Pl):Value:=.agg #[.int .i64 p.c.shift,.int .i64 p.c.regions,.int .i64 p.c.cardShift,.int .i64 p.c.threads,.int .i64 p.c.roots,.int .i64 p.c.refiners,.int .i64 p.c.markers,.int .i64 p.c.young,.int .i64 p.c.tenure,.int .i64 p.c.queue,.int .i64 p.c.stack,.int .i64 p.c.budget,.int .i64 p.c.percent,.int .i64 p.c.fail,.slice Q.tA p.n Q.tc,.slice Q.hA p.m Q.hc]
def PA.cells(Q:PA)(p:Pl):Array Value:=#[.int .i64 p.c.shift,.int .i64 p.c.regions,.int .i64 p.c.cardShift,.int .i64 p.c.threads,.int .i64 p.c.roots,.int .i64 p.c.refiners,.int .i64 p.c.markers,.int .i64 p.c.young,.int .i64 p.c.tenure,.int .i64 p.c.queue,.int .i64 p.c.stack,.int .i64 p.c.budget,.int .i64 p.c.percent,.int .i64 p.c.fail,.slice Q.tA p.n Q.tc,.slice Q.hA p.m Q.hc]
def PA.thing(Q:PA)(p:Pl)(i:Nat):Value:=.agg #[.int .i64 (p.T i).st,.slice (Q.rA i) (p.T i).rf.length (Q.rc i),.slice (Q.dA i) (p.T i).dt.length (Q.dc i)]
def PA.tcells(Q:PA)(p:Pl)(i:Nat):Array Value:=#[.int .i64 (p.T i).st,.slice (Q.rA i) (p.T i).rf.length (Q.rc i),.slice (Q.dA i) (p.T i).dt.length (Q.dc i)]
structure PlAt(w:World)(Q:PA)(p:Pl):Prop where
 nm:p.n≤9223372036854775807
 mm:p.m≤9223372036854775807
 ta:0<p.n→Q.tA=some ⟨Q.tb,Q.to,none⟩
 t0:∀i,i<p.n→w.cell? ⟨Q.tb,Q.to+i*3,none⟩=some (.int .i64 (p.T i).st)
 t1:∀i,i<p.n→w.cell? ⟨Q.tb,Q.to+i*3+1,none⟩=some (.slice (Q.rA i) (p.T i).rf.length (Q.rc i))
 t2:∀i,i<p.n→w.cell? ⟨Q.tb,Q.to+i*3+2,none⟩=some (.slice (Q.dA i) (p.T i).dt.length (Q.dc i))
 rm:∀i,i<p.n→(p.T i).rf.length≤9223372036854775807
 dm:∀i,i<p.n→(p.T i).dt.length≤9223372036854775807
 rs:∀i,i<p.n→Sl w (Q.rA i) (p.T i).rf.length fun j=>.int .i64 ((p.T i).rf.getD j 0)
 ds:∀i,i<p.n→Sl w (Q.dA i) (p.T i).dt.length fun j=>.int .u64 ((p.T i).dt.getD j 0)
 dv:∀i,i<p.n→∀j,0≤(p.T i).dt.getD j 0∧(p.T i).dt.getD j 0<18446744073709551616
 ha:0<p.m→Q.hA=some ⟨Q.hb,Q.ho,none⟩
 h0:∀i,i<p.m→w.cell? ⟨Q.hb,Q.ho+i,none⟩=some (.slice (Q.lA i) (p.H i).length (Q.lc i))
 lm:∀i,i<p.m→(p.H i).length≤9223372036854775807
 ls:∀i,i<p.m→Sl w (Q.lA i) (p.H i).length fun j=>.int .i64 ((p.H i).getD j 0)
section
variable {w w':World}{Q:PA}{p:Pl}
end
def RefsOk(l:List Int)(n:Nat):Prop:=∀r,r∈l→0≤r∧r≤(n:Int)
open Classical in
noncomputable def refsB (l:List Int) (n:Nat):Bool:=decide (RefsOk l n)
end Go.Proofs.YtfcjdinlcehpmaaGreatDoor
