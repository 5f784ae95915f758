/- gleanerlaw16: awake. RefineNil: the walk. -/
import Derived.Test.YteacgfeiedcdiaaGreatDoorPW39
import Derived.WalkKit
import Derived.BigQuiet
namespace Go.Proofs.YteacgfeiedcdiaaGreatDoor
set_option linter.unusedVariables false
set_option linter.unusedSimpArgs false
set_option maxRecDepth 100000
open Go.RowKit Go.Gl HS
theorem turned_off{ws ws':List Nat}{n:Nat}{i:Int}{c:Bool}{er:Int}(h:Turned ws n i false c er ws')(h0:0≤i)(h1:i<(n:Int)):inSet ws' i=false:=by
 rcases h with⟨a1,a2,a3,a4,a5⟩ | ⟨a1,_⟩
 ·unfold inSet
  rw [a5,if_pos rfl,Bool.and_false]
 ·exact absurd ⟨h0,h1⟩ a1
theorem Bt16.ask{W w:World}{L:HL}{X:HX}{h:HS}{x:HT}{A:Nat→Nat}(B:Bt16 W w L X h x A):h.AskOk (h.begP x.O x.cw 0):=fun n=>by
 rw [B.cw,B.a.beg0 B.o]
 match n with
 | 0=>rfl
 | 1=>
  unfold HS.askE
  rw [if_pos (by decide),if_pos (B.a.ent0 pl16_ok).1]
  rfl
 | n+2=>exact B.a.ask0 pl16_ok n
theorem Bt16.ends{W w:World}{L:HL}{X:HX}{h:HS}{x:HT}{A:Nat→Nat}(B:Bt16 W w L X h x A)(σ:RS){τ:RS}(e:h.Ends 8 (h.begP x.O x.cw 0,σ) τ):τ=(addR σ 8 4 1 0).2.2:=by
 rw [B.cw,B.a.beg0 B.o]at e
 exact e.one (B.a.ends0 pl16_ok 8 σ)
set_option maxHeartbeats 6400000 in
theorem awake16_any(w:World)(tab:Tab w):Calls Tryz.prog 6 #[] w fun e w'=>e=.returned (.bool true)∧Fr [] w w':=by
 have HT:=hide tab
 clear tab
 go_enter Tryz.func6,Tryz.ntmps6
 go_wp2_with fail
 refine(plan16_any _).mono ?_
 rintro e w1 ⟨Q,rfl,hP,hf⟩
 have HT1:=hide (HT.out.fr hf (by simp))
 have HF1:=hide hf
 have HB:=hide (build14_exact HT1.out (Fr.refl _ _) hP right16)
 clear hf hP
 go_wp2_with fail
 refine HB.out.mono ?_
 intro e w2 hb
 obtain⟨L,X,h,x,A,A0,c,rfl,hB⟩:=built16 hb
 have HBt:=hide hB
 have H3:=hB.hm.alloc Lives.none 33 #[.pointer (some ⟨L.hb,0,none⟩),.slice A0 2 c]
 have c0:(w2.alloc (.cells #[.pointer (some ⟨L.hb,0,none⟩),.slice A0 2 c] 33)).cell? ⟨w2.heap.size,0,none⟩=some (.pointer (some ⟨L.hb,0,none⟩)):=(H3.blk (List.mem_cons_self ..)).cell 0
 have c25:=H3.hc.c25
 have hR:=hB.a.R
 have HCl:=hide (H3.clearSet Lives.none (a:=1) (by rw [hR];decide))
 have hper:=hB.per
 have hSh:Shf L 6 3:=⟨by rw [hB.cfg];rfl,by rw [hB.cfg];rfl⟩
 have HSh:=hide hSh
 rw [show((1:Nat):Int)=1 from rfl]at HCl
 clear HB hb hB H3 hSh
 go_wp2_with fail
 refine HCl.out.mono ?_
 rintro e w3 ⟨rfl,H4,-⟩
 have c23:=H4.hc.c23
 have HD:=hide (H4.dirty Lives.none 0)
 clear HCl H4 c0 c25
 go_wp2_with fail
 refine HD.out.mono ?_
 rintro e w4 ⟨cc,er,C',rfl,ht,H5⟩
 have HL1:Hid (Calls Tryz.prog 27 #[.pointer (some ⟨L.hb,0,none⟩),.slice (some ⟨w4.heap.size,0,none⟩) 1 1] (w4.alloc (.cells #[.int .i64 1] 3)) fun e w'=>∃A' c',e=.returned (.slice A' 1 c')∧HM w1 w' L X h { x with σ:=x.σ.clear 1,C:=C' } 6 3 [(w2.heap.size,33,#[.pointer (some ⟨L.hb,0,none⟩),.slice A0 2 c])] (fun _=>False) (fun _=>True)):=by
  have:=H5.lost1 Lives.none (j:=1) (by decide)
  rw [show((1:Nat):Int)=1 from rfl]at this
  have e:h.lostL (x.σ.clear 1) x.per [1]=[1]:=by
   have:=HBt.out.a.lost pl16_ok (x.σ.clear 1) x.per
   rw [hper]at this ⊢
   rw [(had16 (σ:=x.σ) (per:=8) (by decide)).1,if_neg (by decide)]at this
   exact this
  dsimp only at this
  rw [e]at this
  refine this.mono ?_
  rintro e w' ⟨A',c',G',e1,e2,e3⟩
  exact⟨A',c',e1,e3⟩
 clear HD H5 c23 ht
 go_wp2_with (first | (go_at_call 27;refine HL1.out.mono ?_;rintro e w5 ⟨A5,c5,rfl,H5⟩;have HH5:=hide H5;clear H5))
 have HDr:=hide (rfdrain_one Lives.none HT1.out HH5.out HSh.out (c:=0) (by
   show QOk h.T x.qm x.qc x.ql
   rw [HBt.out.T,HBt.out.qm,HBt.out.qc,HBt.out.ql]
   exact⟨by decide,by decide,by decide,by decide,fun _ _=>by show 0≤3;decide⟩) (by
   show x.qc++catL x.ql h.T=[]
   rw [HBt.out.T,HBt.out.qc,HBt.out.ql]
   rfl) (by rw [hR];show 0<4*x.per;rw [hper];decide) HBt.out.ask)
 rw [show((0:Nat):Int)=0 from rfl]at HDr
 clear HL1
 refine HDr.out.mono ?_
 rintro e w6 ⟨F',rfl,C2,τ,cb,er2,hH6,ht6,he6⟩
 have hτ:τ=(addR (x.σ.clear 1) 8 4 1 0).2.2:=HBt.out.ends _ (by rw [← hper];exact he6)
 subst hτ
 have hoff:inSet C2 0=false:=turned_off ht6 (by decide) (by
  show((0:Nat):Int)<((h.R*x.per:Nat):Int)
  rw [hR,hper]
  decide)
 have c25:=hH6.hc.c25
 have c23:=hH6.hc.c23
 have HHas:=hide (hH6.setHas 1 0 (by decide))
 dsimp only at HHas
 rw [hper,hR,(had16 (σ:=x.σ) (per:=8) (by decide)).2]at HHas
 have HH6:=hide hH6
 have HOf:=hide hoff
 clear HDr ht6 he6 hH6 hoff HH5
 go_wp2_with fail
 refine HHas.out.mono ?_
 rintro e w7 ⟨rfl,hf7⟩
 have hH7:=HH6.out.fr0 Lives.none hf7
 have c23:=hH7.hc.c23
 have HIs:=hide (hH7.cis Lives.none 0)
 dsimp only at HIs
 rw [HOf.out]at HIs
 clear HHas HH6 hf7 hH7 c25
 go_wp2_with fail
 refine HIs.out.mono ?_
 rintro e w8 ⟨rfl,hH8⟩
 have HL2:=hide (hH8.lost1 Lives.none (j:=1) (by decide))
 rw [show((1:Nat):Int)=1 from rfl]at HL2
 have e2:h.lostL (addR (x.σ.clear 1) 8 4 1 0).2.2 x.per [1]=[]:=by
  have:=HBt.out.a.lost pl16_ok (addR (x.σ.clear 1) 8 4 1 0).2.2 x.per
  rw [hper]at this ⊢
  rw [(had16 (σ:=x.σ) (per:=8) (by decide)).2,if_pos rfl]at this
  exact this
 dsimp only at HL2
 rw [e2]at HL2
 clear HIs hH8 e2 c23
 go_wp2_with fail
 refine HL2.out.mono ?_
 rintro e w9 ⟨A9,c9,G9,rfl,-,hH9⟩
 have HF9:=hide (HF1.out.trans_same hH9.fr)
 clear HL2 hH9
 go_wp2_with fail
 go_ret
 exact⟨rfl,HF9.out⟩
end Go.Proofs.YteacgfeiedcdiaaGreatDoor
