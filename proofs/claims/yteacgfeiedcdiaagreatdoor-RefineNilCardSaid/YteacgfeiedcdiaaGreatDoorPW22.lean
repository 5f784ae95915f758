/- Several texts joined (pack.py): Vm Vo. -/
import Derived.Test.YteacgfeiedcdiaaGreatDoorPW21
import Derived.Test.YteacgfeiedcdiaaGreatDoorPW09
import Derived.Deep.CutRange
import Derived.Deep.AppendLies
import Derived.WalkKit
import Derived.BigQuiet
namespace Go.Proofs.YteacgfeiedcdiaaGreatDoor
set_option linter.unusedVariables false
set_option linter.unusedSimpArgs false
set_option maxRecDepth 100000
open Go.RowKit Go.Gl
theorem Tryz.info_buffer:(Tryz.prog.info? 214).map (fun i=>(i.zero,i.size,i.bytes))=some (some (.agg #[.int .i64 0,.int .i64 0]),2,16):=by kernel_rfl
theorem Tryz.info_pstack:(Tryz.prog.info? 88).map (fun i=>(i.zero,i.size,i.bytes))=some (some (.pointer none),1,8):=by kernel_rfl
theorem made_bufs(T:Nat):madeCells #[.int .i64 0,.int .i64 0] (T*2)=bufV T (fun _=>0) (fun _=>0):=by
 have h0:rows2 (fun _=>.int .i64 0) (fun _=>.int .i64 0) T=List.replicate (T*2) (Value.int .i64 0):=
  List.eq_replicate_iff.2 ⟨rows2_len _ _ T,fun b hb=>by
   simp [rows2]at hb
   exact hb.2⟩
 have h1:bufV T (fun _=>0) (fun _=>0)=Array.replicate (T*2) (.int .i64 0):=by
  unfold bufV
  rw [h0]
  simp
 rw [h1]
 refine Array.ext (by simp [madeCells]) fun i h1 h2=>?_
 simp [madeCells]
 rcases(show i % 2=0∨i % 2=1 by omega)with e | e
 ·simp [e]
 ·simp [e]
theorem make_bufs{T:Nat}(hT:T≤64)(w:World):(Instr.makeSlice 48 (.int .i64 (T:Int)) (.int .i64 (T:Int))).run Tryz.prog w=.ok (.slice (some ⟨w.heap.size,0,none⟩) T T) (w.alloc (.cells (bufV T (fun _=>0) (fun _=>0)) 214)):=by
 obtain⟨i0,hi,hz0,hz1,hz2⟩:=info_parts Tryz.info_buffer
 have:=run_make (P:=Tryz.prog) w 48 214 i0 (.agg #[.int .i64 0,.int .i64 0]) Tryz.underlying48 hi hz0 .i64 .i64 (T:Int) (T:Int) (by omega) (Int.le_refl _) (by rw [hz2];omega) (by omega)
 rw [hz1]at this
 simp only [Int.toNat_natCast]at this
 rw [this,show(Value.agg #[.int .i64 0,.int .i64 0]).cells=#[.int .i64 0,.int .i64 0] from by simp [Value.cells],made_bufs]
set_option maxHeartbeats 3200000 in
theorem heapnew_core(c0 c1 c2 c5 c6 c7 c8 c10 c11 c12 c13:Int)(T B qm:Nat)(g1 g2 g3 g5:Int)(nW nC W R C P:Nat)(dm:GDims ⟨(nW:Int),g1,g2,g3,(nC:Int),g5⟩ W R C P)(eW:nW=R*W)(eC:nC=R*P)
  (t1:1≤T) (t2:T≤64) (b1:1≤B) (b2:B≤64) (q2:qm≤65536)
  (HN:Hid (∀w',Calls Tryz.prog 71 #[.agg #[.int .i64 c0,.int .i64 c1,.int .i64 c2,.int .i64 (T:Int),.int .i64 (B:Int),.int .i64 c5,.int .i64 c6,.int .i64 c7,.int .i64 c8,.int .i64 (qm:Int),.int .i64 c10,.int .i64 c11,.int .i64 c12,.int .i64 c13]] w' fun e w''=>e=.returned (.tuple #[.agg #[.int .i64 (nW:Int),.int .i64 g1,.int .i64 g2,.int .i64 g3,.int .i64 (nC:Int),.int .i64 g5],.int .i64 0])∧Fr [] w' w''))
  (w:World) (tab:Tab w) {s k:Nat} (hok:(HSn ⟨(nW:Int),g1,g2,g3,(nC:Int),g5⟩ W R nW T).Ok s k):Calls Tryz.prog 33 #[.agg #[.int .i64 c0,.int .i64 c1,.int .i64 c2,.int .i64 (T:Int),.int .i64 (B:Int),.int .i64 c5,.int .i64 c6,.int .i64 c7,.int .i64 c8,.int .i64 (qm:Int),.int .i64 c10,.int .i64 c11,.int .i64 c12,.int .i64 c13]] w
   (HNewP w ⟨c0,c1,c2,(T:Int),(B:Int),c5,c6,c7,c8,(qm:Int),c10,c11,c12,c13⟩ ⟨(nW:Int),g1,g2,g3,(nC:Int),g5⟩ W R nW T C P qm B s k):=by
 obtain⟨c,hc⟩:∃c:Cfg,c=⟨c0,c1,c2,(T:Int),(B:Int),c5,c6,c7,c8,(qm:Int),c10,c11,c12,c13⟩:=⟨_,rfl⟩
 obtain⟨g,hg⟩:∃g:Geo,g=⟨(nW:Int),g1,g2,g3,(nC:Int),g5⟩:=⟨_,rfl⟩
 rw [← hg]at dm hok
 rw [← hc,← hg]
 have HOK:=hide hok
 have HCE:=hide hc
 have HGE:=hide hg
 have mW:nW≤4194304:=by rw [eW];exact dm.mx
 have mC:nC≤4194304:=by rw [eC];exact dm.pm
 have HEQ:Hid (nW=R*W∧nC=R*P):=⟨eW,eC⟩
 have HTab:=hide tab
 have HDm:=hide dm
 have HA:Hid (∀w',Calls Tryz.prog 72 #[.int .i64 (nW:Int)] w' (ArenaPost w' nW)):=fun w'=>anew_any nW mW w'
 have HR:Hid (∀w',Calls Tryz.prog 73 #[.agg #[.int .i64 (nW:Int),.int .i64 g1,.int .i64 g2,.int .i64 g3,.int .i64 (nC:Int),.int .i64 g5]] w' (RNew w' W R)):=fun w'=>by
  have:=rnew_ok g dm.regs w'
  rw [hg]at this
  exact this
 have HO:Hid (∀w',Tab w'→Calls Tryz.prog 74 #[.agg #[.int .i64 (nW:Int),.int .i64 g1,.int .i64 g2,.int .i64 g3,.int .i64 (nC:Int),.int .i64 g5]] w' (ONew w' C (R*P))):=fun w' hT=>by
  have:=onew_ok g dm.offs w' hT
  rw [hg]at this
  exact this
 have HC:Hid (∀w',Calls Tryz.prog 75 #[.agg #[.int .i64 (nW:Int),.int .i64 g1,.int .i64 g2,.int .i64 g3,.int .i64 (nC:Int),.int .i64 g5]] w' (CtNew w' nC)):=fun w'=>by
  have:=cnew_any g nC mC (by rw [hg]) w'
  rw [hg]at this
  exact this
 have HQ:Hid (∀w',Calls Tryz.prog 76 #[.int .i64 (T:Int),.int .i64 (qm:Int)] w' (QNew T qm w')):=fun w'=>qnew_ok T qm t1 t2 q2 w'
 have HS:Hid (∀w',Calls Tryz.prog 77 #[.agg #[.int .i64 (nW:Int),.int .i64 g1,.int .i64 g2,.int .i64 g3,.int .i64 (nC:Int),.int .i64 g5]] w' (NewSets w' P R)):=fun w'=>by
  have:=snew_ok g dm.sets w'
  rw [hg]at this
  exact this
 have HM:Hid (∀w',Calls Tryz.prog 78 #[.int .i64 (nW:Int)] w' (NewPost w' nW)):=fun w'=>sNew_any nW mW w'
 have HK:Hid (∀w',Calls Tryz.prog 79 #[.int .i64 (B:Int)] w' (HkNew (fun w'' s F=>HkP w'' s F B []) w')):=fun w'=>hnew_ok B b1 b2 w'
 have hmk:∀w',(Instr.makeSlice 48 (.int .i64 (T:Int)) (.int .i64 (T:Int))).run Tryz.prog w'=.ok (.slice (some ⟨w'.heap.size,0,none⟩) T T) (w'.alloc (.cells (bufV T (fun _=>0) (fun _=>0)) 214)):=make_bufs t2
 have HTT:Hid (1≤T∧T≤64):=⟨t1,t2⟩
 obtain⟨i0,hi,hz0,hz1,hz2⟩:=info_parts Tryz.info_pstack
 clear dm hc hg eW eC tab mW mC b1 b2 q2 hok
 generalize hPost:HNewP w c g W R nW T C P qm B s k=Post
 have HPost:=hide hPost
 clear hPost
 go_enter Tryz.func33,Tryz.ntmps33
 go_wp2_with fail
 refine(HN.out _).mono ?_
 rintro e w1 ⟨rfl,hf⟩
 have HF:=hide hf
 have hb0:Blk w1 w.heap.size 23 c.cells:=by
  rw [HCE.out]
  exact(Blk.new w 23 (Cfg.cells ⟨c0,c1,c2,(T:Int),(B:Int),c5,c6,c7,c8,(qm:Int),c10,c11,c12,c13⟩)).fr hf (by simp)
 have HB0:=hide hb0
 clear hb0 hf
 go_wp2_with fail
 have HN1:Hid (Fr [] w (w1.alloc (.cells #[.int .i64 (nW:Int),.int .i64 g1,.int .i64 g2,.int .i64 g3,.int .i64 (nC:Int),.int .i64 g5] 39))):=(((Fr.refl _ _).alloc _).trans_same HF.out).alloc _
 have HB1:Hid (Blk (w1.alloc (.cells #[.int .i64 (nW:Int),.int .i64 g1,.int .i64 g2,.int .i64 g3,.int .i64 (nC:Int),.int .i64 g5] 39)) w.heap.size 23 c.cells∧Blk (w1.alloc (.cells #[.int .i64 (nW:Int),.int .i64 g1,.int .i64 g2,.int .i64 g3,.int .i64 (nC:Int),.int .i64 g5] 39)) w1.heap.size 39 g.cells):=⟨HB0.out.alloc _,by rw [HGE.out];exact Blk.new _ _ _⟩
 generalize hw2:w1.alloc (.cells #[.int .i64 (nW:Int),.int .i64 g1,.int .i64 g2,.int .i64 g3,.int .i64 (nC:Int),.int .i64 g5] 39)=w2 at *
 clear hw2 HF HB0 HN
 generalize w.heap.size=cb at *
 generalize w1.heap.size=gb at *
 go_cut [6] from 17 to 23 (fun p wc=>∃hb bb,p=ptr hb∧NwSt wc cb gb hb bb T c g (nwCells c g T bb (.pointer none) (.pointer none) (.pointer none) (.pointer none) (.pointer none) (.pointer none) (.pointer none) (.slice none 0 0))∧Fr [] w wc∧w2.heap.size≤hb∧w2.heap.size≤bb)
 case first=>
  have K:∀w',Fr [] w2 w'→w'.cell? ⟨cb,0,none⟩=some (.int .i64 c0)∧w'.cell? ⟨cb,1,none⟩=some (.int .i64 c1)∧w'.cell? ⟨cb,2,none⟩=some (.int .i64 c2)∧w'.cell? ⟨cb,3,none⟩=some (.int .i64 (T:Int))∧w'.cell? ⟨cb,4,none⟩=some (.int .i64 (B:Int))∧w'.cell? ⟨cb,5,none⟩=some (.int .i64 c5)∧w'.cell? ⟨cb,6,none⟩=some (.int .i64 c6)∧w'.cell? ⟨cb,7,none⟩=some (.int .i64 c7)∧w'.cell? ⟨cb,8,none⟩=some (.int .i64 c8)∧w'.cell? ⟨cb,9,none⟩=some (.int .i64 (qm:Int))∧w'.cell? ⟨cb,10,none⟩=some (.int .i64 c10)∧w'.cell? ⟨cb,11,none⟩=some (.int .i64 c11)∧w'.cell? ⟨cb,12,none⟩=some (.int .i64 c12)∧w'.cell? ⟨cb,13,none⟩=some (.int .i64 c13)∧w'.cell? ⟨gb,0,none⟩=some (.int .i64 (nW:Int))∧w'.cell? ⟨gb,1,none⟩=some (.int .i64 g1)∧w'.cell? ⟨gb,2,none⟩=some (.int .i64 g2)∧w'.cell? ⟨gb,3,none⟩=some (.int .i64 g3)∧w'.cell? ⟨gb,4,none⟩=some (.int .i64 (nC:Int))∧w'.cell? ⟨gb,5,none⟩=some (.int .i64 g5):=fun w' hf=>by
   have a:=HB1.out.1.fr hf (by simp)
   have b:=HB1.out.2.fr hf (by simp)
   rw [HCE.out]at a
   rw [HGE.out]at b
   exact⟨a.cell 0,a.cell 1,a.cell 2,a.cell 3,a.cell 4,a.cell 5,a.cell 6,a.cell 7,a.cell 8,a.cell 9,a.cell 10,a.cell 11,a.cell 12,a.cell 13,b.cell 0,b.cell 1,b.cell 2,b.cell 3,b.cell 4,b.cell 5⟩
  have K0:=K _ (Fr.refl [] w2).drew
  have K1:=fun o1=>K _ ((Fr.refl [] w2).alloc o1).drew
  have K2:=fun o1 o2=>K _ (((Fr.refl [] w2).alloc o1).alloc o2).drew
  clear K
  go_region_held3 (fun w'=>w'.cell? ⟨cb,0,none⟩=some (.int .i64 c0)∧w'.cell? ⟨cb,1,none⟩=some (.int .i64 c1)∧w'.cell? ⟨cb,2,none⟩=some (.int .i64 c2)∧w'.cell? ⟨cb,3,none⟩=some (.int .i64 (T:Int))∧w'.cell? ⟨cb,4,none⟩=some (.int .i64 (B:Int))∧w'.cell? ⟨cb,5,none⟩=some (.int .i64 c5)∧w'.cell? ⟨cb,6,none⟩=some (.int .i64 c6)∧w'.cell? ⟨cb,7,none⟩=some (.int .i64 c7)∧w'.cell? ⟨cb,8,none⟩=some (.int .i64 c8)∧w'.cell? ⟨cb,9,none⟩=some (.int .i64 (qm:Int))∧w'.cell? ⟨cb,10,none⟩=some (.int .i64 c10)∧w'.cell? ⟨cb,11,none⟩=some (.int .i64 c11)∧w'.cell? ⟨cb,12,none⟩=some (.int .i64 c12)∧w'.cell? ⟨cb,13,none⟩=some (.int .i64 c13)∧w'.cell? ⟨gb,0,none⟩=some (.int .i64 (nW:Int))∧w'.cell? ⟨gb,1,none⟩=some (.int .i64 g1)∧w'.cell? ⟨gb,2,none⟩=some (.int .i64 g2)∧w'.cell? ⟨gb,3,none⟩=some (.int .i64 g3)∧w'.cell? ⟨gb,4,none⟩=some (.int .i64 (nC:Int))∧w'.cell? ⟨gb,5,none⟩=some (.int .i64 g5))
   (first | with_reducible exact K0 | with_reducible exact K1 _ | with_reducible exact K2 _ _)
   (first | fail)
  all_goals
   go_wp2_with fail
   go_meet
   have hfr:=(((Fr.refl [] w2).alloc (.cells (bufV T (fun _=>0) (fun _=>0)) 214)).alloc (.cells (nwCells c g T w2.heap.size (.pointer none) (.pointer none) (.pointer none) (.pointer none) (.pointer none) (.pointer none) (.pointer none) (.slice none 0 0)) 50)).drew
   have hT0:=lt_of_cell (HTab.out 0 (by decide))
   have hs0:=HN1.out.size
   have hh:Blk ((w2.alloc (.cells (bufV T (fun _=>0) (fun _=>0)) 214)).alloc (.cells (nwCells c g T w2.heap.size (.pointer none) (.pointer none) (.pointer none) (.pointer none) (.pointer none) (.pointer none) (.pointer none) (.slice none 0 0)) 50)).drew (w2.heap.size+1) 50 (nwCells c g T w2.heap.size (.pointer none) (.pointer none) (.pointer none) (.pointer none) (.pointer none) (.pointer none) (.pointer none) (.slice none 0 0)):=
    (Blk.new_at (w:=w2.alloc (.cells (bufV T (fun _=>0) (fun _=>0)) 214)) 50 _ (by simp)).drew
   have hbb:=((Blk.new w2 214 (bufV T (fun _=>0) (fun _=>0))).alloc (.cells (nwCells c g T w2.heap.size (.pointer none) (.pointer none) (.pointer none) (.pointer none) (.pointer none) (.pointer none) (.pointer none) (.slice none 0 0)) 50)).drew
   have hR:NwSt ((w2.alloc (.cells (bufV T (fun _=>0) (fun _=>0)) 214)).alloc (.cells (nwCells c g T w2.heap.size (.pointer none) (.pointer none) (.pointer none) (.pointer none) (.pointer none) (.pointer none) (.pointer none) (.slice none 0 0)) 50)).drew cb gb (w2.heap.size+1) w2.heap.size T c g (nwCells c g T w2.heap.size (.pointer none) (.pointer none) (.pointer none) (.pointer none) (.pointer none) (.pointer none) (.pointer none) (.slice none 0 0)):=
    ⟨HB1.out.1.fr hfr (by simp),HB1.out.2.fr hfr (by simp),hh,hbb,HTab.out.fr (HN1.out.trans_same hfr) (by simp),by omega⟩
   have hR2:=HN1.out.trans_same hfr
   clear K0 K1 K2 hfr hh hbb
   rw [HCE.out,HGE.out]at hR hR2
   refine⟨w2.heap.size+1,w2.heap.size,rfl,?_,hR2,Nat.le_succ _,Nat.le_refl _⟩
   rw [HCE.out,HGE.out]
   exact hR
 case rest=>
  obtain⟨hb,bb,rfl,hS,hF,l1,l2⟩:=hcut
  have HS0:=hide hS
  have HF0:Hid (Fr [] w wc):=hF
  have HL0:Hid (w.heap.size≤hb∧w.heap.size≤bb):=by have:=HN1.out.size;exact⟨by omega,by omega⟩
  clear hS hF l1 l2 hmk HB1 HN1
  clear w1 w2
  obtain⟨w3,hw3⟩:∃w3,w3=wc:=⟨_,rfl⟩
  subst hw3
  go_upto_region 5 with fail
  go_cut [] from 24 to 32 (fun wc=>∃ab aw,NwSt wc cb gb hb bb T c g (nwCells c g T bb (ptr ab) (.pointer none) (.pointer none) (.pointer none) (.pointer none) (.pointer none) (.pointer none) (.slice none 0 0))∧Ar wc ab aw nW (fun _=>0) 0∧Fr [hb] w3 wc∧w3.heap.size≤ab∧w3.heap.size≤aw)
  case first=>
   have HSu:=HS0
   have G:=HSu.out.g
   rw [HGE.out]at G
   have y0:w3.cell? ⟨gb,0,none⟩=some (.int .i64 (nW:Int)):=G.cell 0
   clear G
   go_wp2_with fail
   refine(HA.out _).mono ?_
   rintro e wz ⟨ab,aw,rfl,ha,hf,m1,m2⟩
   have HSv:=hide (HSu.out.fr0 hf)
   have x1:wz.cell? ⟨hb,20,none⟩=some (.pointer none):=HSv.out.h.cell 20
   have x2:=HSv.out.h.frozen 20
   have HX:Hid (Ar wz ab aw nW (fun _=>0) 0∧Fr [] w3 wz∧(w3.heap.size≤ab∧w3.heap.size≤aw)):=⟨ha,hf,⟨m1,m2⟩⟩
   clear ha hf m1 m2
   go_wp2_with fail
   go_meet
   have hlt:hb<w3.heap.size:=HSu.out.h.lt
   have hn:∀v,Fr [hb] wz (wz.setCell ⟨hb,20,none⟩ v):=fun v=>(Fr.refl _ _).setCell (p:=⟨hb,20,none⟩) (.inl (by simp)) _
   exact⟨ab,aw,HSv.out.put 20 (ptr ab),HX.out.1.fr (hn _) (by simp;have:=HX.out.2.2.1;omega) (by simp;have:=HX.out.2.2.2;omega),(HX.out.2.1.mono (fun x hx=>by cases hx)).trans_same (hn _),HX.out.2.2⟩
  case rest=>
   obtain⟨ab,aw,hS,hC,hF,hM⟩:=hcut
   have HS1:=hide hS
   have HCA:=hide hC
   have HFA:=hide hF
   have HMA:Hid (w3.heap.size≤ab∧w3.heap.size≤aw):=hM
   clear hS hC hF hM
   obtain⟨w4,hw4⟩:∃w4,w4=wc:=⟨_,rfl⟩
   subst hw4
   go_upto_region 6 with fail
   go_cut [] from 33 to 40 (fun wc=>∃tb sb pb mb,NwSt wc cb gb hb bb T c g (nwCells c g T bb (ptr ab) (ptr tb) (.pointer none) (.pointer none) (.pointer none) (.pointer none) (.pointer none) (.slice none 0 0))∧Rg wc tb sb pb mb W R (fun _=>0) (fun k=>((k*W:Nat):Int)) (fun k=>((k*W:Nat):Int))∧Fr [hb] w4 wc∧w4.heap.size≤tb∧w4.heap.size≤sb∧w4.heap.size≤pb∧w4.heap.size≤mb)
   case first=>
    have HSu:=HS1
    have G:=HSu.out.g
    rw [HGE.out]at G
    have y0:w4.cell? ⟨gb,0,none⟩=some (.int .i64 (nW:Int)):=G.cell 0
    have y1:w4.cell? ⟨gb,1,none⟩=some (.int .i64 g1):=G.cell 1
    have y2:w4.cell? ⟨gb,2,none⟩=some (.int .i64 g2):=G.cell 2
    have y3:w4.cell? ⟨gb,3,none⟩=some (.int .i64 g3):=G.cell 3
    have y4:w4.cell? ⟨gb,4,none⟩=some (.int .i64 (nC:Int)):=G.cell 4
    have y5:w4.cell? ⟨gb,5,none⟩=some (.int .i64 g5):=G.cell 5
    clear G
    go_wp2_with fail
    refine(HR.out _).mono ?_
    rintro e wz ⟨tb,sb,pb,mb,rfl,ha,hf,m1,m2,m3,m4⟩
    have HSv:=hide (HSu.out.fr0 hf)
    have x1:wz.cell? ⟨hb,21,none⟩=some (.pointer none):=HSv.out.h.cell 21
    have x2:=HSv.out.h.frozen 21
    have HX:Hid (Rg wz tb sb pb mb W R (fun _=>0) (fun k=>((k*W:Nat):Int)) (fun k=>((k*W:Nat):Int))∧Fr [] w4 wz∧(w4.heap.size≤tb∧w4.heap.size≤sb∧w4.heap.size≤pb∧w4.heap.size≤mb)):=⟨ha,hf,⟨m1,m2,m3,m4⟩⟩
    clear ha hf m1 m2 m3 m4
    go_wp2_with fail
    go_meet
    have hlt:hb<w4.heap.size:=HSu.out.h.lt
    have hn:∀v,Fr [hb] wz (wz.setCell ⟨hb,21,none⟩ v):=fun v=>(Fr.refl _ _).setCell (p:=⟨hb,21,none⟩) (.inl (by simp)) _
    exact⟨tb,sb,pb,mb,HSv.out.put 21 (ptr tb),HX.out.1.fr (hn _) (by simp;have:=HX.out.2.2;omega) (by simp;have:=HX.out.2.2;omega) (by simp;have:=HX.out.2.2;omega) (by simp;have:=HX.out.2.2;omega),(HX.out.2.1.mono (fun x hx=>by cases hx)).trans_same (hn _),HX.out.2.2⟩
   case rest=>
    obtain⟨tb,sb,pb,mb,hS,hC,hF,hM⟩:=hcut
    have HS2:=hide hS
    have HCR:=hide hC
    have HFR:=hide hF
    have HMR:Hid (w4.heap.size≤tb∧w4.heap.size≤sb∧w4.heap.size≤pb∧w4.heap.size≤mb):=hM
    clear hS hC hF hM
    obtain⟨w5,hw5⟩:∃w5,w5=wc:=⟨_,rfl⟩
    subst hw5
    go_upto_region 7 with fail
    go_cut [] from 41 to 48 (fun wc=>∃ob oo,NwSt wc cb gb hb bb T c g (nwCells c g T bb (ptr ab) (ptr tb) (ptr ob) (.pointer none) (.pointer none) (.pointer none) (.pointer none) (.slice none 0 0))∧Of wc ob oo C (R*P) (fun _=>0)∧Fr [hb] w5 wc∧w5.heap.size≤ob∧w5.heap.size≤oo)
    case first=>
     have HSu:=HS2
     have G:=HSu.out.g
     rw [HGE.out]at G
     have y0:w5.cell? ⟨gb,0,none⟩=some (.int .i64 (nW:Int)):=G.cell 0
     have y1:w5.cell? ⟨gb,1,none⟩=some (.int .i64 g1):=G.cell 1
     have y2:w5.cell? ⟨gb,2,none⟩=some (.int .i64 g2):=G.cell 2
     have y3:w5.cell? ⟨gb,3,none⟩=some (.int .i64 g3):=G.cell 3
     have y4:w5.cell? ⟨gb,4,none⟩=some (.int .i64 (nC:Int)):=G.cell 4
     have y5:w5.cell? ⟨gb,5,none⟩=some (.int .i64 g5):=G.cell 5
     clear G
     go_wp2_with fail
     refine(HO.out _ HSu.out.t).mono ?_
     rintro e wz ⟨ob,oo,rfl,ha,hf,m1,m2⟩
     have HSv:=hide (HSu.out.fr0 hf)
     have x1:wz.cell? ⟨hb,22,none⟩=some (.pointer none):=HSv.out.h.cell 22
     have x2:=HSv.out.h.frozen 22
     have HX:Hid (Of wz ob oo C (R*P) (fun _=>0)∧Fr [] w5 wz∧(w5.heap.size≤ob∧w5.heap.size≤oo)):=⟨ha,hf,⟨m1,m2⟩⟩
     clear ha hf m1 m2
     go_wp2_with fail
     go_meet
     have hlt:hb<w5.heap.size:=HSu.out.h.lt
     have hn:∀v,Fr [hb] wz (wz.setCell ⟨hb,22,none⟩ v):=fun v=>(Fr.refl _ _).setCell (p:=⟨hb,22,none⟩) (.inl (by simp)) _
     exact⟨ob,oo,HSv.out.put 22 (ptr ob),HX.out.1.fr (hn _) (by simp;have:=HX.out.2.2;omega) (by simp;have:=HX.out.2.2;omega),(HX.out.2.1.mono (fun x hx=>by cases hx)).trans_same (hn _),HX.out.2.2⟩
    case rest=>
     obtain⟨ob,oo,hS,hC,hF,hM⟩:=hcut
     have HS3:=hide hS
     have HCO:=hide hC
     have HFO:=hide hF
     have HMO:Hid (w5.heap.size≤ob∧w5.heap.size≤oo):=hM
     clear hS hC hF hM
     obtain⟨w6,hw6⟩:∃w6,w6=wc:=⟨_,rfl⟩
     subst hw6
     go_upto_region 8 with fail
     go_cut [] from 49 to 56 (fun wc=>∃kb ks kr,NwSt wc cb gb hb bb T c g (nwCells c g T bb (ptr ab) (ptr tb) (ptr ob) (ptr kb) (.pointer none) (.pointer none) (.pointer none) (.slice none 0 0))∧Ct wc kb ks kr nC (List.replicate ((nC+63) / 64) 0)∧Fr [hb] w6 wc∧w6.heap.size≤kb∧w6.heap.size≤ks∧w6.heap.size≤kr)
     case first=>
      have HSu:=HS3
      have G:=HSu.out.g
      rw [HGE.out]at G
      have y0:w6.cell? ⟨gb,0,none⟩=some (.int .i64 (nW:Int)):=G.cell 0
      have y1:w6.cell? ⟨gb,1,none⟩=some (.int .i64 g1):=G.cell 1
      have y2:w6.cell? ⟨gb,2,none⟩=some (.int .i64 g2):=G.cell 2
      have y3:w6.cell? ⟨gb,3,none⟩=some (.int .i64 g3):=G.cell 3
      have y4:w6.cell? ⟨gb,4,none⟩=some (.int .i64 (nC:Int)):=G.cell 4
      have y5:w6.cell? ⟨gb,5,none⟩=some (.int .i64 g5):=G.cell 5
      clear G
      go_wp2_with fail
      refine(HC.out _).mono ?_
      rintro e wz ⟨kb,ks,kr,rfl,ha,hf,m1,m2,m3⟩
      have HSv:=hide (HSu.out.fr0 hf)
      have x1:wz.cell? ⟨hb,23,none⟩=some (.pointer none):=HSv.out.h.cell 23
      have x2:=HSv.out.h.frozen 23
      have HX:Hid (Ct wz kb ks kr nC (List.replicate ((nC+63) / 64) 0)∧Fr [] w6 wz∧(w6.heap.size≤kb∧w6.heap.size≤ks∧w6.heap.size≤kr)):=⟨ha,hf,⟨m1,m2,m3⟩⟩
      clear ha hf m1 m2 m3
      go_wp2_with fail
      go_meet
      have hlt:hb<w6.heap.size:=HSu.out.h.lt
      have hn:∀v,Fr [hb] wz (wz.setCell ⟨hb,23,none⟩ v):=fun v=>(Fr.refl _ _).setCell (p:=⟨hb,23,none⟩) (.inl (by simp)) _
      exact⟨kb,ks,kr,HSv.out.put 23 (ptr kb),HX.out.1.fr (hn _) (by simp;have:=HX.out.2.2;omega) (by simp;have:=HX.out.2.2;omega) (by simp;have:=HX.out.2.2;omega),(HX.out.2.1.mono (fun x hx=>by cases hx)).trans_same (hn _),HX.out.2.2⟩
     case rest=>
      obtain⟨kb,ks,kr,hS,hC,hF,hM⟩:=hcut
      have HS4:=hide hS
      have HCC:=hide hC
      have HFC:=hide hF
      have HMC:Hid (w6.heap.size≤kb∧w6.heap.size≤ks∧w6.heap.size≤kr):=hM
      clear hS hC hF hM
      obtain⟨w7,hw7⟩:∃w7,w7=wc:=⟨_,rfl⟩
      subst hw7
      go_upto_region 9 with fail
      go_cut [] from 57 to 67 (fun wc=>∃qb qF,NwSt wc cb gb hb bb T c g (nwCells c g T bb (ptr ab) (ptr tb) (ptr ob) (ptr kb) (ptr qb) (.pointer none) (.pointer none) (.slice none 0 0))∧Qq wc qb qF T qm [] (fun _=>[])∧Fr [hb] w7 wc∧∀x,x∈qF→w7.heap.size≤x)
      case first=>
       have HSu:=HS4
       have G:=HSu.out.c
       rw [HCE.out]at G
       have y3:w7.cell? ⟨cb,3,none⟩=some (.int .i64 (T:Int)):=G.cell 3
       have y9:w7.cell? ⟨cb,9,none⟩=some (.int .i64 (qm:Int)):=G.cell 9
       clear G
       go_wp2_with fail
       refine(HQ.out _).mono ?_
       rintro e wz ⟨qb,qF,rfl,ha,hf,m1⟩
       have HSv:=hide (HSu.out.fr0 hf)
       have x1:wz.cell? ⟨hb,24,none⟩=some (.pointer none):=HSv.out.h.cell 24
       have x2:=HSv.out.h.frozen 24
       have HX:Hid (Qq wz qb qF T qm [] (fun _=>[])∧Fr [] w7 wz∧(∀x,x∈qF→w7.heap.size≤x)):=⟨ha,hf,m1⟩
       clear ha hf m1
       go_wp2_with fail
       go_meet
       have hlt:hb<w7.heap.size:=HSu.out.h.lt
       have hn:∀v,Fr [hb] wz (wz.setCell ⟨hb,24,none⟩ v):=fun v=>(Fr.refl _ _).setCell (p:=⟨hb,24,none⟩) (.inl (by simp)) _
       exact⟨qb,qF,HSv.out.put 24 (ptr qb),HX.out.1.fr (hn _) (fun x hx hx'=>by simp at hx';have:=HX.out.2.2 x hx;omega),(HX.out.2.1.mono (fun x hx=>by cases hx)).trans_same (hn _),HX.out.2.2⟩
      case rest=>
       obtain⟨qb,qF,hS,hC,hF,hM⟩:=hcut
       have HS5:=hide hS
       have HCQ:=hide hC
       have HFQ:=hide hF
       have HMQ:Hid (∀x,x∈qF→w7.heap.size≤x):=hM
       clear hS hC hF hM
       obtain⟨w8,hw8⟩:∃w8,w8=wc:=⟨_,rfl⟩
       subst hw8
       go_upto_region 10 with fail
       go_cut [] from 68 to 75 (fun wc=>∃tg zb,NwSt wc cb gb hb bb T c g (nwCells c g T bb (ptr ab) (ptr tb) (ptr ob) (ptr kb) (ptr qb) (ptr zb) (.pointer none) (.slice none 0 0))∧SAt wc tg zb P R freshS∧Fr [hb] w8 wc∧∀b,b<w8.heap.size→(tg b).1=0)
       case first=>
        have HSu:=HS5
        have G:=HSu.out.g
        rw [HGE.out]at G
        have y0:w8.cell? ⟨gb,0,none⟩=some (.int .i64 (nW:Int)):=G.cell 0
        have y1:w8.cell? ⟨gb,1,none⟩=some (.int .i64 g1):=G.cell 1
        have y2:w8.cell? ⟨gb,2,none⟩=some (.int .i64 g2):=G.cell 2
        have y3:w8.cell? ⟨gb,3,none⟩=some (.int .i64 g3):=G.cell 3
        have y4:w8.cell? ⟨gb,4,none⟩=some (.int .i64 (nC:Int)):=G.cell 4
        have y5:w8.cell? ⟨gb,5,none⟩=some (.int .i64 g5):=G.cell 5
        clear G
        go_wp2_with fail
        refine(HS.out _).mono ?_
        rintro e wz ⟨tg,zb,_,_,_,_,_,_,_,_,rfl,ha,hf,m1⟩
        have HSv:=hide (HSu.out.fr0 hf)
        have x1:wz.cell? ⟨hb,25,none⟩=some (.pointer none):=HSv.out.h.cell 25
        have x2:=HSv.out.h.frozen 25
        have HX:Hid (SAt wz tg zb P R freshS∧Fr [] w8 wz∧(∀b,b<w8.heap.size→(tg b).1=0)):=⟨⟨_,_,_,_,_,_,_,_,ha⟩,hf,m1⟩
        clear ha hf m1
        go_wp2_with fail
        go_meet
        have hlt:hb<w8.heap.size:=HSu.out.h.lt
        have hn:∀v,Fr [hb] wz (wz.setCell ⟨hb,25,none⟩ v):=fun v=>(Fr.refl _ _).setCell (p:=⟨hb,25,none⟩) (.inl (by simp)) _
        exact⟨tg,zb,HSv.out.put 25 (ptr zb),HX.out.1.fr (hn _) (fun b hb'=>by simp at hb';exact HX.out.2.2 b (by omega)),(HX.out.2.1.mono (fun x hx=>by cases hx)).trans_same (hn _),HX.out.2.2⟩
       case rest=>
        obtain⟨tg,zb,hS,hC,hF,hM⟩:=hcut
        have HS6:=hide hS
        have HCS:=hide hC
        have HFS:=hide hF
        have HMS:Hid (∀b,b<w8.heap.size→(tg b).1=0):=hM
        clear hS hC hF hM
        obtain⟨w9,hw9⟩:∃w9,w9=wc:=⟨_,rfl⟩
        subst hw9
        go_upto_region 11 with fail
        go_cut [] from 76 to 84 (fun wc=>∃mk mr,NwSt wc cb gb hb bb T c g (nwCells c g T bb (ptr ab) (ptr tb) (ptr ob) (ptr kb) (ptr qb) (ptr zb) (ptr mk) (.slice none 0 0))∧BSet wc mk mr nW (List.replicate ((nW+63) / 64) 0)∧Fr [hb] w9 wc∧w9.heap.size≤mk∧w9.heap.size≤mr)
        case first=>
         have HSu:=HS6
         have G:=HSu.out.g
         rw [HGE.out]at G
         have y0:w9.cell? ⟨gb,0,none⟩=some (.int .i64 (nW:Int)):=G.cell 0
         clear G
         go_wp2_with fail
         refine(HM.out _).mono ?_
         rintro e wz ⟨mk,mr,rfl,ha,hf,m1,m2⟩
         have HSv:=hide (HSu.out.fr0 hf)
         have x1:wz.cell? ⟨hb,26,none⟩=some (.pointer none):=HSv.out.h.cell 26
         have x2:=HSv.out.h.frozen 26
         have HX:Hid (BSet wz mk mr nW (List.replicate ((nW+63) / 64) 0)∧Fr [] w9 wz∧(w9.heap.size≤mk∧w9.heap.size≤mr)):=⟨ha,hf,⟨m1,m2⟩⟩
         clear ha hf m1 m2
         go_wp2_with fail
         go_meet
         have hlt:hb<w9.heap.size:=HSu.out.h.lt
         have hn:∀v,Fr [hb] wz (wz.setCell ⟨hb,26,none⟩ v):=fun v=>(Fr.refl _ _).setCell (p:=⟨hb,26,none⟩) (.inl (by simp)) _
         exact⟨mk,mr,HSv.out.put 26 (ptr mk),HX.out.1.fr (hn _) (by simp;have:=HX.out.2.2;omega) (by simp;have:=HX.out.2.2;omega),(HX.out.2.1.mono (fun x hx=>by cases hx)).trans_same (hn _),HX.out.2.2⟩
        case rest=>
         obtain⟨mk,mr,hS,hC,hF,hM⟩:=hcut
         have HS7:=hide hS
         have HCM:=hide hC
         have HFM:=hide hF
         have HMM:Hid (w9.heap.size≤mk∧w9.heap.size≤mr):=hM
         clear hS hC hF hM
         obtain⟨w10,hw10⟩:∃w10,w10=wc:=⟨_,rfl⟩
         subst hw10
         have G:=HS7.out.c
         rw [HCE.out]at G
         have y3:w10.cell? ⟨cb,3,none⟩=some (.int .i64 (T:Int)):=G.cell 3
         clear G
         have HLp:Hid (NwLp w10 w10 cb gb hb bb T c g (ptr ab) (ptr tb) (ptr ob) (ptr kb) (ptr qb) (ptr zb) (ptr mk) B 0 none 0 [] (fun _=>0) (fun _=>[]) (fun _=>0)):=HS7.out.begin
         clear HA HR HO HC HQ HS HM HS1 HS2 HS3 HS4 HS5 HS6
         go_wp2_with fail
         go_loopw [87] (fun i wr=>∃(j:Nat) (rA:Option Addr) (rc:Nat) (rG:List Nat) (S:Nat→Nat) (FS:Nat→List Nat) (f:Nat→Nat),i=.int .i64 j∧j≤T∧NwLp w10 wr cb gb hb bb T c g (ptr ab) (ptr tb) (ptr ob) (ptr kb) (ptr qb) (ptr zb) (ptr mk) B j rA rc rG S FS f) (fun i _=>T-(intOf i).toNat)
         case atStart=>exact⟨0,_,_,_,_,_,_,rfl,Nat.zero_le _,HLp.out⟩
         case round=>
          obtain⟨j,rA,rc,rG,S,FS,f,rfl,hj,hL⟩:=hrel
          have HL:=hide hL
          clear hL HLp y3
          by_cases hlt:j<T
          ·have hlt1:(j:Int)<(T:Int):=by omega
           have G:=HL.out.st.c
           rw [HCE.out]at G
           have y4:wr.cell? ⟨cb,4,none⟩=some (.int .i64 (B:Int)):=G.cell 4
           clear G
           go_wp2_with fail
           refine(HK.out _).mono ?_
           rintro e wy ⟨sn,F,rfl,hq,hf1,hn⟩
           have x1:wy.cell? ⟨hb,27,none⟩=some (.slice rA j rc):=(HL.out.st.fr0 hf1).h.cell 27
           have N1:hb<wy.heap.size:=lt_of_cell x1
           have HQ1:=hide hq
           have HF1:=hide hf1
           have HNN:=hide hn
           have HFZ:Hid (∀w',Fr rG (wy.alloc (.cells #[.pointer (some ⟨sn,0,none⟩)] 88)) w'→w'.cell? ⟨hb,27,none⟩=some (.slice rA j rc)∧w'.frozen? ⟨hb,27,none⟩=false):=fun w' hg=>by
            have hb1:=(((HL.out.st.fr0 hf1).fr0 ((Fr.refl _ _).alloc _)).h).fr hg (HL.out.row.apart HL.out.st.h (by decide))
            exact⟨hb1.cell 27,hb1.frozen 27⟩
           have HLR:Hid (Lr (wy.alloc (.cells #[.pointer (some ⟨sn,0,none⟩)] 88)) 88 rA j rc rG (stkV S j)):=(HL.out.row.fr hf1 (by simp)).alloc _
           have HNB:Hid (j+1≤maxLen∧(j+1)*8≤140737488355328):=by have:=HTT.out.2;exact⟨by unfold maxLen;omega,by omega⟩
           clear hq hf1 hn
           go_wp2_with (first | (at_builtin;refine wpList_append_lr rfl _ _ 47 rfl 88 i0 (.pointer none) 8 Tryz.underlying47 hi hz0 hz1 hz2 rfl rfl HLR.out rfl rfl (fun _=>one_of wy _ 88 rfl _ (Fr.refl _ _)) (by intro u hu;simp at hu;rw [hu];rfl) HNB.out.1 HNB.out.2 ?_;intro A' c' G' wx HLn HFn HGn;have d0:=(HFZ.out _ HFn.out).1;have dz:=(HFZ.out _ HFn.out).2))
           have HRes:=hide (HL.out.add HF1.out HQ1.out HNN.out HLn.out HFn.out (fun g hg=>(HGn.out g hg).imp id (fun h=>h.1)))
           go_roundw
           case rel=>
            obtain⟨S',FS',f',r1⟩:=HRes.out
            exact⟨j+1,A',c',G',S',FS',f',by go_num,by omega,r1⟩
           case measure=>simp [intOf];omega
          ·obtain rfl:j=T:=by omega
           have HEnd:=hide (nw_end HTab.out HDm.out HEQ.out.2 HOK.out HS0.out HF0.out HL0.out HCA.out HFA.out HMA.out HCR.out HFR.out HMR.out HCO.out HFO.out HMO.out HCC.out HFC.out HMC.out HCQ.out HFQ.out HMQ.out HCS.out HFS.out HMS.out HCM.out HFM.out HMM.out HL.out)
           rw [HPost.out]at HEnd
           go_wp2_with fail
           exact HEnd.out
structure NwOk(c:Cfg)(W R C P T B qm s k:Nat):Prop where
 ok:c.geo.Ok s k
 dm:GDims c.geo W R C P
 th:c.threads=(T:Int)
 ro:c.roots=(B:Int)
 qu:c.queue=(qm:Int)
 t1:1≤T
 t2:T≤64
 b1:1≤B
 b2:B≤64
 q2:qm≤65536
theorem nwOk_of{c:Cfg}(h:mayB c=true):∃W R C P T B qm s k,NwOk c W R C P T B qm s k:=by
 have ok:=Cfg.geo_ok (mayB_lie h)
 obtain⟨R,dm⟩:=geo_dims ok
 have h':=h
 unfold mayB at h'
 simp only [Bool.and_eq_true,wiB_iff]at h'
 obtain⟨-,⟨a1,a2⟩,⟨b1,b2⟩,-,-,-,-,⟨d1,d2⟩,-⟩:=h'
 obtain⟨T,hT⟩:=Int.eq_ofNat_of_zero_le (show 0≤c.threads by omega)
 obtain⟨B,hB⟩:=Int.eq_ofNat_of_zero_le (show 0≤c.roots by omega)
 obtain⟨qm,hq⟩:=Int.eq_ofNat_of_zero_le d1
 exact⟨_,R,_,_,T,B,qm,_,_,ok,dm,hT,hB,hq,by omega,by omega,by omega,by omega,by omega⟩
theorem heapnew_ok{c:Cfg}{W R C P T B qm s k:Nat}(h:mayB c=true)(o:NwOk c W R C P T B qm s k)(w:World)(tab:Tab w):Calls Tryz.prog 33 #[c.val] w (HNewP w c c.geo W R (R*W) T C P qm B s k):=by
 have HN:Hid (∀w',Calls Tryz.prog 71 #[c.val] w' fun e w''=>e=.returned (.tuple #[c.geo.val,.int .i64 0])∧Fr [] w' w''):=fun w'=>(gnew_any c w').mono fun e w'' ⟨h1,h2⟩=>⟨by rw [h1];unfold Cfg.ans Cfg.err;rw [h];rfl,h2⟩
 obtain⟨ok,dm,th,ro,qu,t1,t2,b1,b2,q2⟩:=o
 have hok:=HSn.ok ok dm t2
 obtain⟨c0,c1,c2,T',B',c5,c6,c7,c8,q',c10,c11,c12,c13⟩:=c
 obtain rfl:T'=(T:Int):=th
 obtain rfl:B'=(B:Int):=ro
 obtain rfl:q'=(qm:Int):=qu
 clear h
 generalize Cfg.geo _=g at *
 have e1:=dm.wd
 have e2:=dm.cd
 obtain⟨g0,g1,g2,g3,g4,g5⟩:=g
 obtain rfl:g0=((R*W:Nat):Int):=e1
 obtain rfl:g4=((R*P:Nat):Int):=e2
 exact heapnew_core c0 c1 c2 c5 c6 c7 c8 c10 c11 c12 c13 T B qm g1 g2 g3 g5 (R*W) (R*P) W R C P dm rfl rfl t1 t2 b1 b2 q2 HN w tab hok
section
variable {w w':World}{L:HL}{X:HX}{tg:Tg}{own own':Nat→Nat}{FS:Nat→List Nat}{h:HS}{x:HT}{s k:Nat}{F:List Nat}{c:Nat}
structure HRest(w':World)(L:HL)(X:HX)(tg:Tg)(own':Nat→Nat)(FS:Nat→List Nat)(h:HS)(x:HT)(c:Nat):Prop where
 r1:c≠1→Blk w' L.hb 50 (L.cells h.g h.T)∧Lr w' 88 L.rA h.T L.rc L.rG (stkV L.S h.T)∧Blk w' L.bb 214 (bufV h.T h.bx h.be)
 r2:c≠2→∃c,Ar w' L.ab L.aw h.n h.f c
 r3:c≠3→Rg w' L.tb L.sb L.pb L.mb h.W h.R h.s h.t L.m
 r4:c≠4→Of w' X.ob X.oo x.cw (h.R*x.per) x.O
 r5:c≠5→Ct w' X.cb X.cs X.cr (h.R*x.per) x.C
 r6:c≠6→Qq w' X.qb X.qF h.T x.qm x.qc x.ql
 r7:c≠7→SAt w' tg X.zb x.per h.R x.σ
 r8:c≠8→BSet w' X.mb X.mr h.n x.M
 r9:∀i,i<h.T→c≠100+i→HkP w' (L.S i) (FS i) L.B (h.st i)
 rt:Tab w'
 o1:own' L.hb=1∧own' L.bb=1∧∀b,b∈L.rG→own' b=1
 o2:own' L.ab=2∧own' L.aw=2
 o3:own' L.tb=3∧own' L.sb=3∧own' L.pb=3∧own' L.mb=3
 o4:own' X.ob=4∧own' X.oo=4
 o5:own' X.cb=5∧own' X.cs=5∧own' X.cr=5
 o6:∀b,b∈X.qF→own' b=6
 o7:∀b,(tg b).1≠0→own' b=7
 o8:own' X.mb=8∧own' X.mr=8
 o100:∀i,i<h.T→∀b,b∈FS i→own' b=100+i
 o0:own' 0=0
theorem Hw.rest(H:Hw w L X tg own FS h x s k)(hf:Fr F w w')(hF:∀b,b∈F→own b=c)(hc:c≠0)(hu:∀b,b<w.heap.size→own' b=own b):HRest w' L X tg own' FS h x c:=by
 have n:∀ {b d:Nat},own b=d→c≠d→b∉F:=fun h1 h2 h3=>h2 ((hF _ h3).symm.trans h1)
 have u:∀ {b d:Nat},own b=d→d≠0→own' b=d:=fun h1 h2=>(hu _ (H.lt _ (by rw [h1];exact h2))).trans h1
 refine⟨fun e=>⟨H.st.fr hf (n H.o1.1 e),H.row.fr hf (fun g hg=>n (H.o1.2.2 g hg) e),H.buf.fr hf (n H.o1.2.1 e)⟩,fun e=>?_,fun e=>H.rg.fr hf (n H.o3.1 e) (n H.o3.2.1 e) (n H.o3.2.2.1 e) (n H.o3.2.2.2 e),fun e=>H.of.fr hf (n H.o4.1 e) (n H.o4.2 e),
  fun e=>H.ct.fr hf (n H.o5.1 e) (n H.o5.2.1 e) (n H.o5.2.2 e),fun e=>H.qu.fr hf (fun b hb=>n (H.o6 b hb) e),fun e=>H.se.fr hf (fun b hb=>?_),fun e=>H.ma.fr hf (n H.o8.1 e) (n H.o8.2 e),fun i hi e=>(H.stk i hi).fr hf (fun b hb=>n (H.o100 i hi b hb) e),
  H.tab.fr hf (n H.o0 hc),⟨u H.o1.1 (by decide),u H.o1.2.1 (by decide),fun b hb=>u (H.o1.2.2 b hb) (by decide)⟩,⟨u H.o2.1 (by decide),u H.o2.2 (by decide)⟩,⟨u H.o3.1 (by decide),u H.o3.2.1 (by decide),u H.o3.2.2.1 (by decide),u H.o3.2.2.2 (by decide)⟩,
  ⟨u H.o4.1 (by decide),u H.o4.2 (by decide)⟩,⟨u H.o5.1 (by decide),u H.o5.2.1 (by decide),u H.o5.2.2 (by decide)⟩,fun b hb=>u (H.o6 b hb) (by decide),fun b hb=>u (H.o7 b hb) (by decide),⟨u H.o8.1 (by decide),u H.o8.2 (by decide)⟩,fun i hi b hb=>u (H.o100 i hi b hb) (by omega),
  (hu _ (lt_of_cell (H.tab 0 (by decide)))).trans H.o0⟩
 ·obtain⟨a,ha⟩:=H.ar
  exact⟨a,ha.fr hf (n H.o2.1 e) (n H.o2.2 e)⟩
 ·by_cases e2:(tg b).1=0
  ·exact e2
  ·exact absurd ((hF b hb).symm.trans (H.o7 b e2)) e
theorem Hw.regs(H:Hw w L X tg own FS h x s k){s' t' m':Nat→Int}(hf:Fr F w w')(hF:∀b,b∈F→own b=3)(hr:Rg w' L.tb L.sb L.pb L.mb h.W h.R s' t' m'):Hw w' { L with m:=m' } X tg own FS { h with s:=s',t:=t' } x s k:=by
 have r:=H.rest (own':=own) hf hF (by decide) (fun _ _=>rfl)
 exact⟨(r.r1 (by decide)).1,r.r2 (by decide),hr,(r.r1 (by decide)).2.1,fun i hi=>r.r9 i hi (by omega),(r.r1 (by decide)).2.2,⟨H.ok.geo,H.ok.rw,H.ok.rg,H.ok.wd,H.ok.nn,H.ok.fok,hr.sok,hr.tok,H.ok.tm,H.ok.bok,H.ok.rok,H.ok.rlen⟩,r.rt,H.dim,r.r4 (by decide),r.r5 (by decide),r.r6 (by decide),r.r7 (by decide),r.r8 (by decide),H.vo,H.vc,H.vq,H.vs,H.vm,r.o1,r.o2,r.o3,r.o4,r.o5,r.o6,r.o7,r.o8,r.o100,r.o0,fun b hb=>Nat.lt_of_lt_of_le (H.lt b hb) hf.size⟩
theorem Hw.arena(H:Hw w L X tg own FS h x s k){f':Nat→Nat}{c':Int}(hf:Fr F w w')(hF:∀b,b∈F→own b=2)(ha:Ar w' L.ab L.aw h.n f' c'):Hw w' L X tg own FS { h with f:=f' } x s k:=by
 have r:=H.rest (own':=own) hf hF (by decide) (fun _ _=>rfl)
 exact⟨(r.r1 (by decide)).1,⟨_,ha⟩,r.r3 (by decide),(r.r1 (by decide)).2.1,fun i hi=>r.r9 i hi (by omega),(r.r1 (by decide)).2.2,⟨H.ok.geo,H.ok.rw,H.ok.rg,H.ok.wd,H.ok.nn,ha.ok,H.ok.sok,H.ok.tok,H.ok.tm,H.ok.bok,H.ok.rok,H.ok.rlen⟩,r.rt,H.dim,r.r4 (by decide),r.r5 (by decide),r.r6 (by decide),r.r7 (by decide),r.r8 (by decide),H.vo,H.vc,H.vq,H.vs,H.vm,r.o1,r.o2,r.o3,r.o4,r.o5,r.o6,r.o7,r.o8,r.o100,r.o0,fun b hb=>Nat.lt_of_lt_of_le (H.lt b hb) hf.size⟩
theorem Hw.offs(H:Hw w L X tg own FS h x s k){O':Nat→Int}(hf:Fr F w w')(hF:∀b,b∈F→own b=4)(ho:Of w' X.ob X.oo x.cw (h.R*x.per) O'):Hw w' L X tg own FS h { x with O:=O' } s k:=by
 have r:=H.rest (own':=own) hf hF (by decide) (fun _ _=>rfl)
 exact⟨(r.r1 (by decide)).1,r.r2 (by decide),r.r3 (by decide),(r.r1 (by decide)).2.1,fun i hi=>r.r9 i hi (by omega),(r.r1 (by decide)).2.2,H.ok,r.rt,H.dim,ho,r.r5 (by decide),r.r6 (by decide),r.r7 (by decide),r.r8 (by decide),H.vo,H.vc,H.vq,H.vs,H.vm,r.o1,r.o2,r.o3,r.o4,r.o5,r.o6,r.o7,r.o8,r.o100,r.o0,fun b hb=>Nat.lt_of_lt_of_le (H.lt b hb) hf.size⟩
theorem Hw.cards(H:Hw w L X tg own FS h x s k){C':List Nat}(hf:Fr F w w')(hF:∀b,b∈F→own b=5)(ho:Ct w' X.cb X.cs X.cr (h.R*x.per) C'):Hw w' L X tg own FS h { x with C:=C' } s k:=by
 have r:=H.rest (own':=own) hf hF (by decide) (fun _ _=>rfl)
 exact⟨(r.r1 (by decide)).1,r.r2 (by decide),r.r3 (by decide),(r.r1 (by decide)).2.1,fun i hi=>r.r9 i hi (by omega),(r.r1 (by decide)).2.2,H.ok,r.rt,H.dim,r.r4 (by decide),ho,r.r6 (by decide),r.r7 (by decide),r.r8 (by decide),H.vo,H.vc,H.vq,H.vs,H.vm,r.o1,r.o2,r.o3,r.o4,r.o5,r.o6,r.o7,r.o8,r.o100,r.o0,fun b hb=>Nat.lt_of_lt_of_le (H.lt b hb) hf.size⟩
theorem Hw.marks(H:Hw w L X tg own FS h x s k){M':List Nat}(hf:Fr F w w')(hF:∀b,b∈F→own b=8)(ho:BSet w' X.mb X.mr h.n M'):Hw w' L X tg own FS h { x with M:=M' } s k:=by
 have r:=H.rest (own':=own) hf hF (by decide) (fun _ _=>rfl)
 exact⟨(r.r1 (by decide)).1,r.r2 (by decide),r.r3 (by decide),(r.r1 (by decide)).2.1,fun i hi=>r.r9 i hi (by omega),(r.r1 (by decide)).2.2,H.ok,r.rt,H.dim,r.r4 (by decide),r.r5 (by decide),r.r6 (by decide),r.r7 (by decide),ho,H.vo,H.vc,H.vq,H.vs,H.vm,r.o1,r.o2,r.o3,r.o4,r.o5,r.o6,r.o7,r.o8,r.o100,r.o0,fun b hb=>Nat.lt_of_lt_of_le (H.lt b hb) hf.size⟩
def ownNew(own:Nat→Nat)(B:Nat)(p:Nat→Prop)[DecidablePred p](c:Nat)(x:Nat):Nat:=if x<B then own x else if p x then c else 0
theorem Hw.sets(H:Hw w L X tg own FS h x s k){tg':Tg}{σ':RS}(hf:Fr F w w')(hF:∀b,b∈F→(tg b).1≠0)(hu:TgUp w tg tg')(ho:SAt w' tg' X.zb x.per h.R σ') :
  ∃own',Hw w' L X tg' own' FS h { x with σ:=σ' } s k∧(∀b,own' b≠0→own b≠0∨w.heap.size≤b)∧∀b,b<w.heap.size→own' b=own b:=by
 have h1:∀b,b<w.heap.size→ownNew own w.heap.size (fun b=>(tg' b).1≠0) 7 b=own b:=fun b hb=>by unfold ownNew;rw [if_pos hb]
 have r:=H.rest (own':=ownNew own w.heap.size (fun b=>(tg' b).1≠0) 7) hf (fun b hb=>H.o7 b (hF b hb)) (by decide) h1
 refine⟨_,⟨(r.r1 (by decide)).1,r.r2 (by decide),r.r3 (by decide),(r.r1 (by decide)).2.1,fun i hi=>r.r9 i hi (by omega),(r.r1 (by decide)).2.2,H.ok,r.rt,H.dim,r.r4 (by decide),r.r5 (by decide),r.r6 (by decide),ho,r.r8 (by decide),H.vo,H.vc,H.vq,H.vs,H.vm,r.o1,r.o2,r.o3,r.o4,r.o5,r.o6,fun b hb=>?_,r.o8,r.o100,r.o0,fun b hb=>?_⟩,fun b hb=>?_,h1⟩
 ·by_cases e:b<w.heap.size
  ·rw [h1 b e]
   rw [hu b e]at hb
   exact H.o7 b hb
  ·unfold ownNew
   rw [if_neg e,if_pos hb]
 ·have hs:=hf.size
  by_cases e:b<w.heap.size
  ·omega
  ·unfold ownNew at hb
   rw [if_neg e]at hb
   by_cases e2:(tg' b).1≠0
   ·exact ho.tok b e2
   ·rw [if_neg e2]at hb
    exact absurd rfl hb
 ·by_cases e:b<w.heap.size
  ·rw [h1 b e]at hb
   exact .inl hb
  ·exact .inr (by omega)
theorem Hw.stack(H:Hw w L X tg own FS h x s k){i:Nat}(hi:i<h.T){F':List Nat}{l:List Int}(hf:Fr (FS i) w w')(ho:HkP w' (L.S i) F' L.B l)(hn:∀b,b∈F'→b∈FS i∨w.heap.size≤b)(hl:l.length≤64)(hr:∀r,r∈l→0≤r∧r<18446744073709551616) :
  ∃own',Hw w' L X tg own' (setN FS i F') { h with st:=setN h.st i l } x s k∧(∀b,own' b≠0→own b≠0∨w.heap.size≤b)∧∀b,b<w.heap.size→own' b=own b:=by
 have h1:∀b,b<w.heap.size→ownNew own w.heap.size (fun b=>b∈F') (100+i) b=own b:=fun b hb=>by unfold ownNew;rw [if_pos hb]
 have r:=H.rest (own':=ownNew own w.heap.size (fun b=>b∈F') (100+i)) hf (fun b hb=>H.o100 i hi b hb) (by omega) h1
 refine⟨_,⟨(r.r1 (by omega)).1,r.r2 (by omega),r.r3 (by omega),(r.r1 (by omega)).2.1,fun j hj=>?_,(r.r1 (by omega)).2.2,⟨H.ok.geo,H.ok.rw,H.ok.rg,H.ok.wd,H.ok.nn,H.ok.fok,H.ok.sok,H.ok.tok,H.ok.tm,H.ok.bok,fun j hj=>?_,fun j hj=>?_⟩,r.rt,H.dim,r.r4 (by omega),r.r5 (by omega),r.r6 (by omega),r.r7 (by omega),r.r8 (by omega),H.vo,H.vc,H.vq,H.vs,H.vm,r.o1,r.o2,r.o3,r.o4,r.o5,r.o6,r.o7,r.o8,fun j hj b hb=>?_,r.o0,fun b hb=>?_⟩,fun b hb=>?_,h1⟩
 ·show HkP w' (L.S j) (setN FS i F' j) L.B (setN h.st i l j)
  by_cases e:j=i
  ·subst e
   rw [setN_at,setN_at]
   exact ho
  ·rw [setN_ne _ _ e,setN_ne _ _ e]
   exact r.r9 j hj (by omega)
 ·show ∀r,r∈setN h.st i l j→_
  by_cases e:j=i
  ·subst e
   rw [setN_at]
   exact hr
  ·rw [setN_ne _ _ e]
   exact H.ok.rok j hj
 ·show(setN h.st i l j).length≤64
  by_cases e:j=i
  ·subst e
   rw [setN_at]
   exact hl
  ·rw [setN_ne _ _ e]
   exact H.ok.rlen j hj
 ·by_cases e:j=i
  ·subst e
   rw [setN_at]at hb
   by_cases e2:b<w.heap.size
   ·rw [h1 b e2]
    rcases hn b hb with h3 | h3
    ·exact H.o100 j hj b h3
    ·omega
   ·unfold ownNew
    rw [if_neg e2,if_pos hb]
  ·rw [setN_ne _ _ e]at hb
   exact r.o100 j hj b hb
 ·have hs:=hf.size
  by_cases e:b<w.heap.size
  ·omega
  ·unfold ownNew at hb
   rw [if_neg e]at hb
   by_cases e2:b∈F'
   ·exact ho.lt b e2
   ·rw [if_neg e2]at hb
    exact absurd rfl hb
 ·by_cases e:b<w.heap.size
  ·rw [h1 b e]at hb
   exact .inl hb
  ·exact .inr (by omega)
theorem Hw.looked(H:Hw w L X tg own FS h x s k)(hr:Hr w' L h s k)(hf:Fr [L.ab] w w'):Hw w' L X tg own FS h x s k:=by
 obtain⟨c',hc⟩:=hr.ar
 exact H.arena hf (fun b hb=>by simp at hb;subst hb;exact H.o2.1) hc
theorem Hw.fr0(H:Hw w L X tg own FS h x s k)(hf:Fr [] w w'):Hw w' L X tg own FS h x s k:=H.looked (H.hr.fr0 hf) (hf.mono (fun b hb=>by cases hb))
end
end Go.Proofs.YteacgfeiedcdiaaGreatDoor
