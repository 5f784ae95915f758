/- The document's answer for layer 2: New. -/
import Derived.Test.YteacgfeiedcdiaaGreatDoorPW11
import Derived.Deep.RegionHeld3
namespace Go.Proofs.YteacgfeiedcdiaaGreatDoor
set_option linter.unusedVariables false
open Go.RowKit Go.Gl
set_option maxHeartbeats 4800000 in
theorem r2new_any(c:Cfg)(w:World):Calls Tryz.prog 29 #[c.val] w fun e w'=>e=.returned (.tuple #[c.ans.val,.int .i64 c.err])∧Fr [] w w':=by
 have hl:=r2may_any c
 by_cases h1:mayB c=true
 ·rw [h1]at hl
  have HL:=hide hl
  have ok:=Cfg.geo_ok (mayB_lie h1)
  have hlie:=lieB_iff.1 (mayB_lie h1)
  obtain⟨⟨s1,s2⟩,⟨r1,r2⟩,r3,k1,k2⟩:=hlie
  have HE:Hid (c.ans=c.geo∧c.err=0):=by unfold Cfg.ans Cfg.err;rw [if_pos h1,if_pos h1];exact⟨rfl,rfl⟩
  have p1:=pw_bound (n:=c.shift) (m:=20) s2 (by decide)
  have p2:=pw_bound (n:=c.cardShift) (m:=20) (by omega) (by decide)
  have p3:=pw_pos c.shift
  have p4:=pw_pos c.cardShift
  have q1:0≤c.regions*pw c.shift:=ok.words0
  have q2:c.regions*pw c.shift≤4194304:=ok.wmax
  have q3:0≤(c.regions-1)*pw c.shift:=Int.mul_nonneg (by omega) (by omega)
  have q4:(c.regions-1)*pw c.shift≤4194304:=by rw [Int.sub_mul,Int.one_mul];omega
  have HG:Hid (c.geo=⟨c.regions*pw c.shift,pw c.shift,pw c.cardShift,c.regions,c.regions*pw c.shift / pw c.cardShift,min 1048576 ((c.regions-1)*pw c.shift)⟩):=rfl
  clear hl h1 ok r3
  unfold Cfg.val
  go_enter Tryz.func29,Tryz.ntmps29
  go_wp2_with fail
  refine(HL.out _).mono ?_
  rintro e w1 ⟨rfl,hf⟩
  have hc1:=((Blk.new w 23 c.cells).alloc (.cells Geo.zero.cells 76)).fr hf (by simp)
  have hb:Blk w1 (w.heap.size+1) 76 Geo.zero.cells:=(Blk.new_at (w:=w.alloc (.cells c.cells 23)) 76 Geo.zero.cells (by simp)).fr hf (by simp)
  obtain⟨g0,g1,g2,-,-,-,-,-,-,-,-,-,-,-⟩:=CfgAt.of hc1
  have HF:=hide hf
  have HB:=hide hb
  have HW:w.heap.size+1<w1.heap.size:=hb.lt
  obtain⟨c0,c1,c2,c3,c4,c5⟩:=GeoAt.of hb
  have f0:=hb.frozen 0
  have f1:=hb.frozen 1
  have f2:=hb.frozen 2
  have f3:=hb.frozen 3
  have f4:=hb.frozen 4
  have f5:=hb.frozen 5
  clear hf hb hc1
  go_wp2_with fail
  have N0:=World.new_ne w1 _ g0
  go_region_held3 (fun w'=>w'.cell? ⟨w.heap.size,0,none⟩=some (.int .i64 c.shift)∧w'.cell? ⟨w.heap.size,1,none⟩=some (.int .i64 c.regions)∧w'.cell? ⟨w.heap.size,2,none⟩=some (.int .i64 c.cardShift))
   (first | exact⟨g0,g1,g2⟩ | go_keep)
   (first | (go_at_call 70;refine(r2power_any _ (by omega) _).mono ?_;rintro e w2 ⟨rfl,rfl⟩))
  all_goals
   go_wp2_with fail
   ·refine bodyPost_ret (v:=.tuple #[.agg #[.int .i64 (c.regions*pw c.shift),.int .i64 (pw c.shift),.int .i64 (pw c.cardShift),.int .i64 c.regions,.int .i64 (c.regions*pw c.shift / pw c.cardShift),.int .i64 ((c.regions-1)*pw c.shift)],.int .i64 0]) (by simp [results,Tryz.results29,go_sem, *]) rfl ⟨?_,?_⟩
    ·rw [HE.out.1,HE.out.2,HG.out,show min 1048576 ((c.regions-1)*pw c.shift)=(c.regions-1)*pw c.shift by omega];rfl
    ·refine Fr.drew (Fr.alloc ?_ _)
     iterate 6 (refine Fr.setCell ?_ (.inr (Nat.le_succ _)) _)
     exact(((Fr.refl _ _).alloc _).alloc _).trans_same HF.out
   ·refine bodyPost_ret (v:=.tuple #[.agg #[.int .i64 (c.regions*pw c.shift),.int .i64 (pw c.shift),.int .i64 (pw c.cardShift),.int .i64 c.regions,.int .i64 (c.regions*pw c.shift / pw c.cardShift),.int .i64 1048576],.int .i64 0]) (by simp [results,Tryz.results29,go_sem, *]) rfl ⟨?_,?_⟩
    ·rw [HE.out.1,HE.out.2,HG.out,show min 1048576 ((c.regions-1)*pw c.shift)=1048576 by omega];rfl
    ·refine Fr.drew (Fr.alloc ?_ _)
     iterate 6 (refine Fr.setCell ?_ (.inr (Nat.le_succ _)) _)
     exact(((Fr.refl _ _).alloc _).alloc _).trans_same HF.out
 ·have h1':mayB c=false:=by simpa using h1
  rw [h1']at hl
  have HL:=hide hl
  have HE:Hid (c.ans=Geo.zero∧c.err=20):=by unfold Cfg.ans Cfg.err;rw [if_neg h1,if_neg h1];exact⟨rfl,rfl⟩
  clear hl h1 h1'
  unfold Cfg.val
  go_enter Tryz.func29,Tryz.ntmps29
  go_wp2_with fail
  refine(HL.out _).mono ?_
  rintro e w1 ⟨rfl,hf⟩
  have hb:Blk w1 (w.heap.size+1) 76 Geo.zero.cells:=(Blk.new_at (w:=w.alloc (.cells c.cells 23)) 76 Geo.zero.cells (by simp)).fr hf (by simp)
  have HF:=hide hf
  have HB:=hide hb
  obtain⟨c0,c1,c2,c3,c4,c5⟩:=GeoAt.of hb
  have f0:=hb.frozen 0
  have f1:=hb.frozen 1
  have f2:=hb.frozen 2
  have f3:=hb.frozen 3
  have f4:=hb.frozen 4
  have f5:=hb.frozen 5
  clear hf hb
  go_wp2_with fail
  refine bodyPost_ret (v:=.tuple #[.agg #[.int .i64 0,.int .i64 0,.int .i64 0,.int .i64 0,.int .i64 0,.int .i64 0],.int .i64 20]) (by simp [results,Tryz.results29,go_sem, *]) rfl ⟨?_,?_⟩
  ·rw [HE.out.1,HE.out.2];rfl
  ·repeat (refine Fr.setCell ?_ (.inr (Nat.le_succ _)) _)
   exact(((Fr.refl _ _).alloc _).alloc _).trans_same HF.out
end Go.Proofs.YteacgfeiedcdiaaGreatDoor
