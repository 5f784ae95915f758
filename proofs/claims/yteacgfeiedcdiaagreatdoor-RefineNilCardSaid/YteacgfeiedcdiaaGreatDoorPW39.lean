/- gleanerlaw16: plan; refine.Drain of one card; calls of nil. -/
import Derived.Test.YteacgfeiedcdiaaGreatDoorPW34
import Derived.Test.YteacgfeiedcdiaaGreatDoorPW37
import Derived.Test.YteacgfeiedcdiaaGreatDoorPW38
import Derived.WalkKit
import Derived.BigQuiet
namespace Go.Proofs.YteacgfeiedcdiaaGreatDoor
set_option linter.unusedVariables false
set_option linter.unusedSimpArgs false
set_option maxRecDepth 100000
open Go.RowKit Go.Gl HS
theorem shf_of{L:HL}{c:Cfg}{s k:Nat}(hm:mayB c=true)(hc:L.cfg=c)(o:c.geo.Ok s k):Shf L s k:=by
 have hl:=mayB_lie hm
 have o2:=Cfg.geo_ok hl
 obtain⟨⟨h1,h2⟩,-,-,h3,h4⟩:=lieB_iff.1 hl
 have e1:=o.rw
 have e2:=o.cw
 rw [o2.rw,pw_nat,pw_nat]at e1
 rw [o2.cw,pw_nat,pw_nat]at e2
 have e3:=(Nat.pow_right_inj (a:=2) (by decide)).1 (Int.ofNat.inj e1)
 have e4:=(Nat.pow_right_inj (a:=2) (by decide)).1 (Int.ofNat.inj e2)
 exact⟨by rw [hc];omega,by rw [hc];omega⟩
def q16(b:Nat):PA:=⟨b+5,0,2,some ⟨b+5,0,none⟩,fun i=>if i=0 then some ⟨b+2,0,none⟩ else none,fun i=>if i=0 then 1 else 0,fun i=>if i=0 then some ⟨b+3,0,none⟩ else some ⟨b+4,0,none⟩,fun _=>1,0,0,0,none,fun _=>none,fun _=>0⟩
theorem plat16{w:World}{b:Nat}(h2:Blk w (b+2) 3 #[.int .i64 2])(h3:Blk w (b+3) 87 #[.int .u64 1])(h4:Blk w (b+4) 87 #[.int .u64 1])
  (h5:Blk w (b+5) 62 #[.int .i64 3,.slice (some ⟨b+2,0,none⟩) 1 1,.slice (some ⟨b+3,0,none⟩) 1 1,.int .i64 1,.slice none 0 0,.slice (some ⟨b+4,0,none⟩) 1 1]):PlAt w (q16 b) pl16:=by
 have two:∀i,i<pl16.n→i=0∨i=1:=fun i hi=>by have hi:i<2:=hi;omega
 refine⟨by decide,by decide,fun _=>rfl,fun i hi=>?_,fun i hi=>?_,fun i hi=>?_,fun i hi=>?_,fun i hi=>?_,fun i hi=>?_,fun i hi=>?_,fun i hi j=>?_,fun hm=>absurd hm (Nat.lt_irrefl 0),fun i hi=>absurd hi (Nat.not_lt_zero _),fun i hi=>absurd hi (Nat.not_lt_zero _),fun i hi=>absurd hi (Nat.not_lt_zero _)⟩
 ·rcases two i hi with rfl | rfl
  ·exact h5.cell 0
  ·exact h5.cell 3
 ·rcases two i hi with rfl | rfl
  ·exact h5.cell 1
  ·exact h5.cell 4
 ·rcases two i hi with rfl | rfl
  ·exact h5.cell 2
  ·exact h5.cell 5
 ·rcases two i hi with rfl | rfl <;> decide
 ·rcases two i hi with rfl | rfl <;> decide
 ·rcases two i hi with rfl | rfl
  ·refine fun _=>⟨b+2,0,rfl,h2.lt,fun m hm=>?_⟩
   ·have hm:m<1:=hm
    obtain rfl:m=0:=by omega
    exact h2.cell 0
  ·exact fun hp=>absurd hp (Nat.lt_irrefl 0)
 ·rcases two i hi with rfl | rfl
  ·refine fun _=>⟨b+3,0,rfl,h3.lt,fun m hm=>?_⟩
   ·have hm:m<1:=hm
    obtain rfl:m=0:=by omega
    exact h3.cell 0
  ·refine fun _=>⟨b+4,0,rfl,h4.lt,fun m hm=>?_⟩
   ·have hm:m<1:=hm
    obtain rfl:m=0:=by omega
    exact h4.cell 0
 ·rcases two i hi with rfl | rfl
  ·cases j with
   | zero=>decide
   | succ j=>exact(by decide:(0:Int)≤0∧(0:Int)<18446744073709551616)
  ·cases j with
   | zero=>decide
   | succ j=>exact(by decide:(0:Int)≤0∧(0:Int)<18446744073709551616)
set_option maxHeartbeats 3200000 in
theorem plan16_any(w:World):Calls Tryz.prog 26 #[] w fun e w'=>∃Q,e=.returned (PA.val Q pl16)∧PlAt w' Q pl16∧Fr [] w w':=by
 go_enter Tryz.func26,Tryz.ntmps26
 go_wp2_with fail
 refine bodyPost_ret (v:=PA.val (q16 w.heap.size) pl16) (by simp [results,Tryz.results26,go_sem, *];rfl) rfl ⟨q16 w.heap.size,rfl,plat16 ?_ ?_ ?_ ?_,((((((Fr.refl _ _).alloc _).alloc _).alloc _).alloc _).alloc _).alloc _⟩
 ·exact(((Blk.new_at _ _ (by simp)).alloc _).alloc _).alloc _
 ·exact((Blk.new_at _ _ (by simp)).alloc _).alloc _
 ·exact(Blk.new_at _ _ (by simp)).alloc _
 ·exact Blk.new_at _ _ (by simp)
section
theorem rfnew_nil(w:World):Calls Tryz.prog 18 #[.pointer none] w fun e w'=>e=.returned (.tuple #[.pointer none,.int .i64 1])∧w=w':=by
 go_enter Tryz.func18,Tryz.ntmps18
 go_wp2_with fail
 go_ret2
 exact⟨rfl,rfl⟩
theorem rfbusy_nil(w:World):Calls Tryz.prog 19 #[.pointer none] w fun e w'=>e=.returned (.bool false)∧w=w':=by
 go_enter Tryz.func19,Tryz.ntmps19
 go_wp2_with fail
 go_ret
 exact⟨rfl,rfl⟩
theorem rfsteps_nil(w:World):Calls Tryz.prog 20 #[.pointer none] w fun e w'=>e=.returned (.bool false)∧w=w':=by
 go_enter Tryz.func20,Tryz.ntmps20
 go_wp2_with fail
 go_ret
 exact⟨rfl,rfl⟩
theorem rfstop_nil(w:World):Calls Tryz.prog 21 #[.pointer none] w fun e w'=>e=.returned (.int .i64 (-1))∧w=w':=by
 go_enter Tryz.func21,Tryz.ntmps21
 go_wp2_with fail
 refine(rfbusy_nil _).mono ?_
 rintro e w1 ⟨rfl,rfl⟩
 go_wp2_with fail
 go_ret
 exact⟨rfl,rfl⟩
theorem rfcard_nil(c:Int)(w:World):Calls Tryz.prog 9 #[.pointer none,.int .i64 c] w fun e w'=>e=.returned (.int .i64 1)∧w=w':=by
 go_enter Tryz.func9,Tryz.ntmps9
 go_wp2_with fail
 go_ret
 exact⟨rfl,rfl⟩
theorem rfdrain_nil(A:Option Addr)(n c:Nat)(w:World):Calls Tryz.prog 25 #[.pointer none,.slice A n c] w fun e w'=>e=.returned (.int .i64 1)∧w=w':=by
 go_enter Tryz.func25,Tryz.ntmps25
 go_wp2_with fail
 go_ret
 exact⟨rfl,rfl⟩
end
section
variable {W w w':World}{L:HL}{X:HX}{h:HS}{x:HT}{s k:Nat}{E:Blks}{D:Nat→Prop}{Q:World→Prop}
set_option maxHeartbeats 6400000 in
theorem rfdrain_one(hS:Lives D Q)(hT:Tab W)(H:HM W w L X h x s k E D Q)(sh:Shf L s k)(hk:QOk h.T x.qm x.qc x.ql)(hq:x.qc++catL x.ql h.T=[]){c:Nat}(hc:c<h.R*x.per)(a:h.AskOk (h.begP x.O x.cw c)) :
  Calls Tryz.prog 25 #[.pointer (some ⟨L.hb,0,none⟩),.slice (some ⟨w.heap.size,0,none⟩) 1 1] (w.alloc (.cells #[.int .i64 (c:Int)] 3)) fun e w'=>∃F',CardP W L { X with qF:=F' } h { x with qc:=[],ql:=fun _=>[] } s k E D Q c e w':=by
 have H0:=H.alloc hS 3 #[.int .i64 (c:Int)]
 have c24:=H0.hc.c24
 have HQ:=hide (H0.qdrainl hS hk)
 rw [hq]at HQ
 have HTW:=hide hT
 have HA:=hide a
 have HSh:=hide sh
 have hq3:=H.setDim
 have hc19:c≤9223372036854775807:=by
  have h1:=hq3.mx
  have h2:=hq3.wp
  have h3:=hq3.c1
  have h4:h.R*x.per≤h.R*h.W:=Nat.mul_le_mul_left _ (by rw [h2];exact Nat.le_mul_of_pos_right _ (by omega))
  omega
 generalize w.heap.size=lb at *
 clear H H0 a sh hT hk hq hq3
 generalize w.alloc (.cells #[.int .i64 (c:Int)] 3)=w0 at *
 go_enter Tryz.func25,Tryz.ntmps25
 go_wp2_with fail
 refine HQ.out.mono ?_
 rintro e w1 ⟨F',A,cap,G,rfl,hH⟩
 rw [show([]:List Int).length=0 from rfl]at hH ⊢
 have hM1:=hH.drop HTW.out
 have hb1:Blk (w1.alloc (.cells #[.slice A 0 cap,.slice (some ⟨lb,0,none⟩) 1 1] 31)) lb 3 #[.int .i64 (c:Int)]:=(hM1.blk (List.mem_cons_self ..)).alloc _
 have hr1:=Blk.new w1 31 #[.slice A 0 cap,.slice (some ⟨lb,0,none⟩) 1 1]
 have HC:=hide (concat_two (n:=0) (n1:=1) (l:=[]) (l1:=[(c:Int)]) (c:=cap) (c1:=1) (hr1.cell 0) (hr1.cell 1) (fun hp=>absurd hp (Nat.lt_irrefl 0)) (fun _=>⟨lb,0,rfl,hb1.lt,fun m hm=>by
  have hm:m<1:=hm
  obtain rfl:m=0:=by omega
  exact hb1.cell 0⟩) (by simp))
 rw [show([]:List Int)++[(c:Int)]=[(c:Int)] from rfl]at HC
 have HM2:=hide (hM1.fr0 hS ((Fr.refl [] w1).alloc (.cells #[.slice A 0 cap,.slice (some ⟨lb,0,none⟩) 1 1] 31)))
 clear hH hM1 hb1 hr1 HQ
 go_wp2_with fail
 refine HC.out.mono ?_
 rintro e w3 ⟨A3,cap3,G3,rfl,hl3,hf3,hg3⟩
 have hM3:=HM2.out.fr0 hS hf3
 obtain⟨gb,go,rfl,glt,gc⟩:=hl3.slz (by simp)
 have g0:w3.cell? ⟨gb,go,none⟩=some (.int .i64 (c:Int)):=gc 0 (by simp)
 rw [show([(c:Int)]:List Int).length=1 from rfl]
 have HCd:=hide (rfcard_ok hS HTW.out hM3 HSh.out hc HA.out)
 clear hl3 gc HC HM2 hf3 hg3 hM3
 go_wp2_with fail
 go_loopw [5,19] (fun v i wr=>v=.int .i64 0∧((i=.int .i64 0∧wr=w3)∨(i=.int .i64 1∧CardP W L { X with qF:=F' } h { x with qc:=[],ql:=fun _=>[] } s k E D Q c (.returned (.int .i64 0)) wr))) (fun _ i _=>1-(intOf i).toNat)
 case atStart=>exact⟨rfl,.inl ⟨rfl,rfl⟩⟩
 case round=>
  obtain⟨rfl,⟨rfl,rfl⟩ | ⟨rfl,hC⟩⟩:=hrel
  ·go_wp2_with fail
   refine HCd.out.mono ?_
   rintro e w5 ⟨rfl,C',τ,cb,er,hM5,ht,he⟩
   have HR:Hid (CardP W L { X with qF:=F' } h { x with qc:=[],ql:=fun _=>[] } s k E D Q c (.returned (.int .i64 0)) w5):=⟨rfl,C',τ,cb,er,hM5.sub (fun y hy=>List.mem_cons_of_mem _ hy),ht,he⟩
   clear hM5 ht he g0
   go_wp2_with fail
   go_roundw
   case rel=>exact⟨rfl,.inr ⟨by go_num,HR.out⟩⟩
   case measure=>simp [intOf]
  ·have HC:=hide hC
   clear hC
   go_wp2_with fail
   go_ret
   exact⟨F',HC.out⟩
end
end Go.Proofs.YteacgfeiedcdiaaGreatDoor
