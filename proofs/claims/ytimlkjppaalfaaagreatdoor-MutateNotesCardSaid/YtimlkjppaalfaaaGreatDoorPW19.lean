/- Several texts joined (pack.py): Vm Vo Vr Vt. -/
import Derived.Test.YtimlkjppaalfaaaGreatDoorPW18
import Derived.Test.YtimlkjppaalfaaaGreatDoorPW07
import Derived.Deep.CutRange
import Derived.Deep.AppendLies
import Derived.WalkKit
import Derived.BigQuiet
import Derived.Test.YtimlkjppaalfaaaGreatDoorPW11
import Derived.Test.YtimlkjppaalfaaaGreatDoorPW15
set_option linter.unusedVariables false
set_option linter.unusedSimpArgs false
set_option maxHeartbeats 3200000
set_option maxRecDepth 100000
open Int renaming eq_ofNat_of_zero_le->Da
open Nat renaming lt_of_lt_of_le->Dc
namespace Go.Proofs.YtimlkjppaalfaaaGreatDoor
open Go.RowKit Go.Gl
theorem Tryz.qr:(Tryz.prog.info? 215).map (λi=>(i.zero,i.size,i.bytes))=some (some (.agg #[.int .i64 0,.int .i64 0]),2,16):=by kernel_rfl
theorem Tryz.qs:(Tryz.prog.info? 75).map (λi=>(i.zero,i.size,i.bytes))=some (some (.pointer none),1,8):=by kernel_rfl
theorem u9(T:Nat):madeCells #[.int .i64 0,.int .i64 0] (T*2)=eK T (λ_=>0) (λ_=>0):=by
 have h0:dO (λ_=>.int .i64 0) (λ_=>.int .i64 0) T=List.replicate (T*2) (Value.int .i64 0):=
  List.eq_replicate_iff.2 ⟨gu _ _ T,λb hb=>by
   simp[dO]at hb;exact hb.2⟩
 have h1:eK T (λ_=>0) (λ_=>0)=Array.replicate (T*2) (.int .i64 0):=by
  unfold eK;rw[h0];simp
 rw[h1];refine Array.ext (by simp[madeCells]) λi h1 h2=>?_;simp[madeCells];rcases(show i % 2=0\/i % 2=1 by omega)with e|e
 ·simp[e]
 ·simp[e]
theorem va{T:Nat}(hT:T<=64)(w:World):(Instr.makeSlice 48 (.int .i64 (T:Int)) (.int .i64 (T:Int))).run Tryz.prog w=.ok (.slice (some ⟨w.heap.size,0,none⟩) T T) (w.alloc (.cells (eK T (λ_=>0) (λ_=>0)) 215)):=by
 obtain⟨i0,hi,hz0,hz1,hz2⟩:=info_parts Tryz.qr;have:=run_make (P:=Tryz.prog) w 48 215 i0 (.agg #[.int .i64 0,.int .i64 0]) Tryz.underlying48 hi hz0 .i64 .i64 (T:Int) (T:Int) (by omega) (Int.le_refl _) (by rw[hz2];omega) (by omega);rw[hz1]at this;simp only[Int.toNat_natCast]at this;rw[this,show(Value.agg #[.int .i64 0,.int .i64 0]).cells=#[.int .i64 0,.int .i64 0] from by simp[Value.cells],u9]
theorem oj(c0 c1 c2 c5 c6 c7 c8 c10 c11 c12 c13:Int)(T B qm:Nat)(g1 g2 g3 g5:Int)(nW nC W R C P:Nat)(dm:cI ⟨(nW:Int),g1,g2,g3,(nC:Int),g5⟩ W R C P)(eW:nW=R*W)(eC:nC=R*P)
  (t1:1<=T) (t2:T<=64) (b1:1<=B) (b2:B<=64) (q2:qm<=65536)
  (HN:Hid (∀w',Calls Tryz.prog 21 #[.agg #[.int .i64 c0,.int .i64 c1,.int .i64 c2,.int .i64 (T:Int),.int .i64 (B:Int),.int .i64 c5,.int .i64 c6,.int .i64 c7,.int .i64 c8,.int .i64 (qm:Int),.int .i64 c10,.int .i64 c11,.int .i64 c12,.int .i64 c13]] w' λe w''=>e=.returned (.tuple #[.agg #[.int .i64 (nW:Int),.int .i64 g1,.int .i64 g2,.int .i64 g3,.int .i64 (nC:Int),.int .i64 g5],.int .i64 0])/\Fr [] w' w''))
  (w:World) (tab:Tab w) {s k:Nat} (hok:(HSn ⟨(nW:Int),g1,g2,g3,(nC:Int),g5⟩ W R nW T).Ok s k):Calls Tryz.prog 14 #[.agg #[.int .i64 c0,.int .i64 c1,.int .i64 c2,.int .i64 (T:Int),.int .i64 (B:Int),.int .i64 c5,.int .i64 c6,.int .i64 c7,.int .i64 c8,.int .i64 (qm:Int),.int .i64 c10,.int .i64 c11,.int .i64 c12,.int .i64 c13]] w
   (kq w ⟨c0,c1,c2,(T:Int),(B:Int),c5,c6,c7,c8,(qm:Int),c10,c11,c12,c13⟩ ⟨(nW:Int),g1,g2,g3,(nC:Int),g5⟩ W R nW T C P qm B s k):=by
 obtain⟨c,hc⟩:∃c:Cfg,c=⟨c0,c1,c2,(T:Int),(B:Int),c5,c6,c7,c8,(qm:Int),c10,c11,c12,c13⟩:=⟨_,rfl⟩;obtain⟨g,hg⟩:∃g:Geo,g=⟨(nW:Int),g1,g2,g3,(nC:Int),g5⟩:=⟨_,rfl⟩;rw[<- hg]at dm hok;rw[<- hc,<- hg];have HOK:=aa hok;have HCE:=aa hc;have HGE:=aa hg;have mW:nW<=4194304:=by rw[eW];exact dm.mx
 have mC:nC<=4194304:=by rw[eC];exact dm.pm
 have HEQ:Hid (nW=R*W/\nC=R*P):=⟨eW,eC⟩;have HTab:=aa tab;have HDm:=aa dm;have HA:Hid (∀w',Calls Tryz.prog 37 #[.int .i64 (nW:Int)] w' (mK w' nW)):=λw'=>xc nW mW w';have HR:Hid (∀w',Calls Tryz.prog 38 #[.agg #[.int .i64 (nW:Int),.int .i64 g1,.int .i64 g2,.int .i64 g3,.int .i64 (nC:Int),.int .i64 g5]] w' (BX w' W R)):=λw'=>by
  have:=zq g dm.xZ w';rw[hg]at this;exact this
 have HO:Hid (∀w',Tab w'->Calls Tryz.prog 39 #[.agg #[.int .i64 (nW:Int),.int .i64 g1,.int .i64 g2,.int .i64 g3,.int .i64 (nC:Int),.int .i64 g5]] w' (Cb w' C (R*P))):=λw' hT=>by
  have:=zQ g dm.Bz w' hT;rw[hg]at this;exact this
 have HC:Hid (∀w',Calls Tryz.prog 40 #[.agg #[.int .i64 (nW:Int),.int .i64 g1,.int .i64 g2,.int .i64 g3,.int .i64 (nC:Int),.int .i64 g5]] w' (AC w' nC)):=λw'=>by
  have:=xH g nC mC (by rw[hg]) w';rw[hg]at this;exact this
 have HQ:Hid (∀w',Calls Tryz.prog 41 #[.int .i64 (T:Int),.int .i64 (qm:Int)] w' (Ce T qm w')):=λw'=>zS T qm t1 t2 q2 w';have HS:Hid (∀w',Calls Tryz.prog 42 #[.agg #[.int .i64 (nW:Int),.int .i64 g1,.int .i64 g2,.int .i64 g3,.int .i64 (nC:Int),.int .i64 g5]] w' (og w' P R)):=λw'=>by
  have:=zJ g dm.CM w';rw[hg]at this;exact this
 have HM:Hid (∀w',Calls Tryz.prog 43 #[.int .i64 (nW:Int)] w' (tS w' nW)):=λw'=>qg nW mW w';have HK:Hid (∀w',Calls Tryz.prog 44 #[.int .i64 (B:Int)] w' (wP (λw'' s F=>HkP w'' s F B []) w')):=λw'=>zd B b1 b2 w';have hmk:∀w',(Instr.makeSlice 48 (.int .i64 (T:Int)) (.int .i64 (T:Int))).run Tryz.prog w'=.ok (.slice (some ⟨w'.heap.size,0,none⟩) T T) (w'.alloc (.cells (eK T (λ_=>0) (λ_=>0)) 215)):=va t2;have HTT:Hid (1<=T/\T<=64):=⟨t1,t2⟩;obtain⟨i0,hi,hz0,hz1,hz2⟩:=info_parts Tryz.qs;clear dm hc hg eW eC tab mW mC b1 b2 q2 hok;generalize hPost:kq w c g W R nW T C P qm B s k=Post;have HPost:=aa hPost;clear hPost;go_enter Tryz.func14,Tryz.ntmps14
 go_wp2_with fail
 refine(HN.out _).mono ?_;rintro e w1 ⟨rfl,hf⟩;have HF:=aa hf;have hb0:Blk w1 w.heap.size 23 c.cells:=by
  rw[HCE.out];exact(Blk.new w 23 (Cfg.cells ⟨c0,c1,c2,(T:Int),(B:Int),c5,c6,c7,c8,(qm:Int),c10,c11,c12,c13⟩)).fr hf (by simp)
 have HB0:=aa hb0;clear hb0 hf;go_wp2_with fail
 have HN1:Hid (Fr [] w (w1.alloc (.cells #[.int .i64 (nW:Int),.int .i64 g1,.int .i64 g2,.int .i64 g3,.int .i64 (nC:Int),.int .i64 g5] 39))):=(((Fr.refl _ _).alloc _).ae HF.out).alloc _;have HB1:Hid (Blk (w1.alloc (.cells #[.int .i64 (nW:Int),.int .i64 g1,.int .i64 g2,.int .i64 g3,.int .i64 (nC:Int),.int .i64 g5] 39)) w.heap.size 23 c.cells/\Blk (w1.alloc (.cells #[.int .i64 (nW:Int),.int .i64 g1,.int .i64 g2,.int .i64 g3,.int .i64 (nC:Int),.int .i64 g5] 39)) w1.heap.size 39 g.cells):=⟨HB0.out.alloc _,by rw[HGE.out];exact Blk.new _ _ _⟩;generalize hw2:w1.alloc (.cells #[.int .i64 (nW:Int),.int .i64 g1,.int .i64 g2,.int .i64 g3,.int .i64 (nC:Int),.int .i64 g5] 39)=w2 at *;clear hw2 HF HB0 HN;generalize w.heap.size=cb at *;generalize w1.heap.size=gb at *;go_cut [6] from 17 to 23 (λp wc=>∃hb bb,p=ptr hb/\fF wc cb gb hb bb T c g (bT c g T bb (.pointer none) (.pointer none) (.pointer none) (.pointer none) (.pointer none) (.pointer none) (.pointer none) (.slice none 0 0))/\Fr [] w wc/\w2.heap.size<=hb/\w2.heap.size<=bb)
 case first=>
  have K:∀w',Fr [] w2 w'->w'.cell? ⟨cb,0,none⟩=some (.int .i64 c0)/\w'.cell? ⟨cb,1,none⟩=some (.int .i64 c1)/\w'.cell? ⟨cb,2,none⟩=some (.int .i64 c2)/\w'.cell? ⟨cb,3,none⟩=some (.int .i64 (T:Int))/\w'.cell? ⟨cb,4,none⟩=some (.int .i64 (B:Int))/\w'.cell? ⟨cb,5,none⟩=some (.int .i64 c5)/\w'.cell? ⟨cb,6,none⟩=some (.int .i64 c6)/\w'.cell? ⟨cb,7,none⟩=some (.int .i64 c7)/\w'.cell? ⟨cb,8,none⟩=some (.int .i64 c8)/\w'.cell? ⟨cb,9,none⟩=some (.int .i64 (qm:Int))/\w'.cell? ⟨cb,10,none⟩=some (.int .i64 c10)/\w'.cell? ⟨cb,11,none⟩=some (.int .i64 c11)/\w'.cell? ⟨cb,12,none⟩=some (.int .i64 c12)/\w'.cell? ⟨cb,13,none⟩=some (.int .i64 c13)/\w'.cell? ⟨gb,0,none⟩=some (.int .i64 (nW:Int))/\w'.cell? ⟨gb,1,none⟩=some (.int .i64 g1)/\w'.cell? ⟨gb,2,none⟩=some (.int .i64 g2)/\w'.cell? ⟨gb,3,none⟩=some (.int .i64 g3)/\w'.cell? ⟨gb,4,none⟩=some (.int .i64 (nC:Int))/\w'.cell? ⟨gb,5,none⟩=some (.int .i64 g5):=λw' hf=>by
   have a:=HB1.out.1.fr hf (by simp);have b:=HB1.out.2.fr hf (by simp);rw[HCE.out]at a;rw[HGE.out]at b;exact⟨a.cell 0,a.cell 1,a.cell 2,a.cell 3,a.cell 4,a.cell 5,a.cell 6,a.cell 7,a.cell 8,a.cell 9,a.cell 10,a.cell 11,a.cell 12,a.cell 13,b.cell 0,b.cell 1,b.cell 2,b.cell 3,b.cell 4,b.cell 5⟩
  have K0:=K _ (Fr.refl [] w2).drew;have K1:=λo1=>K _ ((Fr.refl [] w2).alloc o1).drew;have K2:=λo1 o2=>K _ (((Fr.refl [] w2).alloc o1).alloc o2).drew;clear K;go_region_held3 (λw'=>w'.cell? ⟨cb,0,none⟩=some (.int .i64 c0)/\w'.cell? ⟨cb,1,none⟩=some (.int .i64 c1)/\w'.cell? ⟨cb,2,none⟩=some (.int .i64 c2)/\w'.cell? ⟨cb,3,none⟩=some (.int .i64 (T:Int))/\w'.cell? ⟨cb,4,none⟩=some (.int .i64 (B:Int))/\w'.cell? ⟨cb,5,none⟩=some (.int .i64 c5)/\w'.cell? ⟨cb,6,none⟩=some (.int .i64 c6)/\w'.cell? ⟨cb,7,none⟩=some (.int .i64 c7)/\w'.cell? ⟨cb,8,none⟩=some (.int .i64 c8)/\w'.cell? ⟨cb,9,none⟩=some (.int .i64 (qm:Int))/\w'.cell? ⟨cb,10,none⟩=some (.int .i64 c10)/\w'.cell? ⟨cb,11,none⟩=some (.int .i64 c11)/\w'.cell? ⟨cb,12,none⟩=some (.int .i64 c12)/\w'.cell? ⟨cb,13,none⟩=some (.int .i64 c13)/\w'.cell? ⟨gb,0,none⟩=some (.int .i64 (nW:Int))/\w'.cell? ⟨gb,1,none⟩=some (.int .i64 g1)/\w'.cell? ⟨gb,2,none⟩=some (.int .i64 g2)/\w'.cell? ⟨gb,3,none⟩=some (.int .i64 g3)/\w'.cell? ⟨gb,4,none⟩=some (.int .i64 (nC:Int))/\w'.cell? ⟨gb,5,none⟩=some (.int .i64 g5))
   (first|with_reducible exact K0|with_reducible exact K1 _|with_reducible exact K2 _ _)
   (first|fail)
  all_goals
   go_wp2_with fail
   go_meet
   have hfr:=(((Fr.refl [] w2).alloc (.cells (eK T (λ_=>0) (λ_=>0)) 215)).alloc (.cells (bT c g T w2.heap.size (.pointer none) (.pointer none) (.pointer none) (.pointer none) (.pointer none) (.pointer none) (.pointer none) (.slice none 0 0)) 50)).drew;have hT0:=af (HTab.out 0 (by decide));have hs0:=HN1.out.size;have hh:Blk ((w2.alloc (.cells (eK T (λ_=>0) (λ_=>0)) 215)).alloc (.cells (bT c g T w2.heap.size (.pointer none) (.pointer none) (.pointer none) (.pointer none) (.pointer none) (.pointer none) (.pointer none) (.slice none 0 0)) 50)).drew (w2.heap.size+1) 50 (bT c g T w2.heap.size (.pointer none) (.pointer none) (.pointer none) (.pointer none) (.pointer none) (.pointer none) (.pointer none) (.slice none 0 0)):=
    (Blk.aX (w:=w2.alloc (.cells (eK T (λ_=>0) (λ_=>0)) 215)) 50 _ (by simp)).drew
   have hbb:=((Blk.new w2 215 (eK T (λ_=>0) (λ_=>0))).alloc (.cells (bT c g T w2.heap.size (.pointer none) (.pointer none) (.pointer none) (.pointer none) (.pointer none) (.pointer none) (.pointer none) (.slice none 0 0)) 50)).drew;have hR:fF ((w2.alloc (.cells (eK T (λ_=>0) (λ_=>0)) 215)).alloc (.cells (bT c g T w2.heap.size (.pointer none) (.pointer none) (.pointer none) (.pointer none) (.pointer none) (.pointer none) (.pointer none) (.slice none 0 0)) 50)).drew cb gb (w2.heap.size+1) w2.heap.size T c g (bT c g T w2.heap.size (.pointer none) (.pointer none) (.pointer none) (.pointer none) (.pointer none) (.pointer none) (.pointer none) (.slice none 0 0)):=
    ⟨HB1.out.1.fr hfr (by simp),HB1.out.2.fr hfr (by simp),hh,hbb,HTab.out.fr (HN1.out.ae hfr) (by simp),by omega⟩
   have hR2:=HN1.out.ae hfr;clear K0 K1 K2 hfr hh hbb;rw[HCE.out,HGE.out]at hR hR2;refine⟨w2.heap.size+1,w2.heap.size,rfl,?_,hR2,Nat.le_succ _,Nat.le_refl _⟩;rw[HCE.out,HGE.out];exact hR
 case rest=>
  obtain⟨hb,bb,rfl,hS,hF,l1,l2⟩:=hcut;have HS0:=aa hS;have HF0:Hid (Fr [] w wc):=hF;have HL0:Hid (w.heap.size<=hb/\w.heap.size<=bb):=by have:=HN1.out.size;exact⟨by omega,by omega⟩
  clear hS hF l1 l2 hmk HB1 HN1;clear w1 w2;obtain⟨w3,hw3⟩:∃w3,w3=wc:=⟨_,rfl⟩;subst hw3;go_upto_region 5 with fail
  go_cut [] from 24 to 32 (λwc=>∃ab aw,fF wc cb gb hb bb T c g (bT c g T bb (ptr ab) (.pointer none) (.pointer none) (.pointer none) (.pointer none) (.pointer none) (.pointer none) (.slice none 0 0))/\Ar wc ab aw nW (λ_=>0) 0/\Fr [hb] w3 wc/\w3.heap.size<=ab/\w3.heap.size<=aw)
  case first=>
   have HSu:=HS0;have G:=HSu.out.g;rw[HGE.out]at G;have y0:w3.cell? ⟨gb,0,none⟩=some (.int .i64 (nW:Int)):=G.cell 0;clear G;go_wp2_with fail
   refine(HA.out _).mono ?_;rintro e wz ⟨ab,aw,rfl,ha,hf,m1,m2⟩;have HSv:=aa (HSu.out.fr0 hf);have x1:wz.cell? ⟨hb,20,none⟩=some (.pointer none):=HSv.out.h.cell 20;have x2:=HSv.out.h.frozen 20;have HX:Hid (Ar wz ab aw nW (λ_=>0) 0/\Fr [] w3 wz/\(w3.heap.size<=ab/\w3.heap.size<=aw)):=⟨ha,hf,⟨m1,m2⟩⟩;clear ha hf m1 m2;go_wp2_with fail
   go_meet
   have hlt:hb<w3.heap.size:=HSu.out.h.lt;have hn:∀v,Fr [hb] wz (wz.setCell ⟨hb,20,none⟩ v):=λv=>(Fr.refl _ _).setCell (p:=⟨hb,20,none⟩) (.inl (by simp)) _;exact⟨ab,aw,HSv.out.put 20 (ptr ab),HX.out.1.fr (hn _) (by simp;have:=HX.out.2.2.1;omega) (by simp;have:=HX.out.2.2.2;omega),(HX.out.2.1.mono (λx hx=>by cases hx)).ae (hn _),HX.out.2.2⟩
  case rest=>
   obtain⟨ab,aw,hS,hC,hF,hM⟩:=hcut;have HS1:=aa hS;have HCA:=aa hC;have HFA:=aa hF;have HMA:Hid (w3.heap.size<=ab/\w3.heap.size<=aw):=hM;clear hS hC hF hM;obtain⟨w4,hw4⟩:∃w4,w4=wc:=⟨_,rfl⟩;subst hw4;go_upto_region 6 with fail
   go_cut [] from 33 to 40 (λwc=>∃tb sb pb mb,fF wc cb gb hb bb T c g (bT c g T bb (ptr ab) (ptr tb) (.pointer none) (.pointer none) (.pointer none) (.pointer none) (.pointer none) (.slice none 0 0))/\Rg wc tb sb pb mb W R (λ_=>0) (λk=>((k*W:Nat):Int)) (λk=>((k*W:Nat):Int))/\Fr [hb] w4 wc/\w4.heap.size<=tb/\w4.heap.size<=sb/\w4.heap.size<=pb/\w4.heap.size<=mb)
   case first=>
    have HSu:=HS1;have G:=HSu.out.g;rw[HGE.out]at G;have y0:w4.cell? ⟨gb,0,none⟩=some (.int .i64 (nW:Int)):=G.cell 0;have y1:w4.cell? ⟨gb,1,none⟩=some (.int .i64 g1):=G.cell 1;have y2:w4.cell? ⟨gb,2,none⟩=some (.int .i64 g2):=G.cell 2;have y3:w4.cell? ⟨gb,3,none⟩=some (.int .i64 g3):=G.cell 3;have y4:w4.cell? ⟨gb,4,none⟩=some (.int .i64 (nC:Int)):=G.cell 4;have y5:w4.cell? ⟨gb,5,none⟩=some (.int .i64 g5):=G.cell 5;clear G;go_wp2_with fail
    refine(HR.out _).mono ?_;rintro e wz ⟨tb,sb,pb,mb,rfl,ha,hf,m1,m2,m3,m4⟩;have HSv:=aa (HSu.out.fr0 hf);have x1:wz.cell? ⟨hb,21,none⟩=some (.pointer none):=HSv.out.h.cell 21;have x2:=HSv.out.h.frozen 21;have HX:Hid (Rg wz tb sb pb mb W R (λ_=>0) (λk=>((k*W:Nat):Int)) (λk=>((k*W:Nat):Int))/\Fr [] w4 wz/\(w4.heap.size<=tb/\w4.heap.size<=sb/\w4.heap.size<=pb/\w4.heap.size<=mb)):=⟨ha,hf,⟨m1,m2,m3,m4⟩⟩;clear ha hf m1 m2 m3 m4;go_wp2_with fail
    go_meet
    have hlt:hb<w4.heap.size:=HSu.out.h.lt;have hn:∀v,Fr [hb] wz (wz.setCell ⟨hb,21,none⟩ v):=λv=>(Fr.refl _ _).setCell (p:=⟨hb,21,none⟩) (.inl (by simp)) _;exact⟨tb,sb,pb,mb,HSv.out.put 21 (ptr tb),HX.out.1.fr (hn _) (by simp;have:=HX.out.2.2;omega) (by simp;have:=HX.out.2.2;omega) (by simp;have:=HX.out.2.2;omega) (by simp;have:=HX.out.2.2;omega),(HX.out.2.1.mono (λx hx=>by cases hx)).ae (hn _),HX.out.2.2⟩
   case rest=>
    obtain⟨tb,sb,pb,mb,hS,hC,hF,hM⟩:=hcut;have HS2:=aa hS;have HCR:=aa hC;have HFR:=aa hF;have HMR:Hid (w4.heap.size<=tb/\w4.heap.size<=sb/\w4.heap.size<=pb/\w4.heap.size<=mb):=hM;clear hS hC hF hM;obtain⟨w5,hw5⟩:∃w5,w5=wc:=⟨_,rfl⟩;subst hw5;go_upto_region 7 with fail
    go_cut [] from 41 to 48 (λwc=>∃ob oo,fF wc cb gb hb bb T c g (bT c g T bb (ptr ab) (ptr tb) (ptr ob) (.pointer none) (.pointer none) (.pointer none) (.pointer none) (.slice none 0 0))/\Of wc ob oo C (R*P) (λ_=>0)/\Fr [hb] w5 wc/\w5.heap.size<=ob/\w5.heap.size<=oo)
    case first=>
     have HSu:=HS2;have G:=HSu.out.g;rw[HGE.out]at G;have y0:w5.cell? ⟨gb,0,none⟩=some (.int .i64 (nW:Int)):=G.cell 0;have y1:w5.cell? ⟨gb,1,none⟩=some (.int .i64 g1):=G.cell 1;have y2:w5.cell? ⟨gb,2,none⟩=some (.int .i64 g2):=G.cell 2;have y3:w5.cell? ⟨gb,3,none⟩=some (.int .i64 g3):=G.cell 3;have y4:w5.cell? ⟨gb,4,none⟩=some (.int .i64 (nC:Int)):=G.cell 4;have y5:w5.cell? ⟨gb,5,none⟩=some (.int .i64 g5):=G.cell 5;clear G;go_wp2_with fail
     refine(HO.out _ HSu.out.t).mono ?_;rintro e wz ⟨ob,oo,rfl,ha,hf,m1,m2⟩;have HSv:=aa (HSu.out.fr0 hf);have x1:wz.cell? ⟨hb,22,none⟩=some (.pointer none):=HSv.out.h.cell 22;have x2:=HSv.out.h.frozen 22;have HX:Hid (Of wz ob oo C (R*P) (λ_=>0)/\Fr [] w5 wz/\(w5.heap.size<=ob/\w5.heap.size<=oo)):=⟨ha,hf,⟨m1,m2⟩⟩;clear ha hf m1 m2;go_wp2_with fail
     go_meet
     have hlt:hb<w5.heap.size:=HSu.out.h.lt;have hn:∀v,Fr [hb] wz (wz.setCell ⟨hb,22,none⟩ v):=λv=>(Fr.refl _ _).setCell (p:=⟨hb,22,none⟩) (.inl (by simp)) _;exact⟨ob,oo,HSv.out.put 22 (ptr ob),HX.out.1.fr (hn _) (by simp;have:=HX.out.2.2;omega) (by simp;have:=HX.out.2.2;omega),(HX.out.2.1.mono (λx hx=>by cases hx)).ae (hn _),HX.out.2.2⟩
    case rest=>
     obtain⟨ob,oo,hS,hC,hF,hM⟩:=hcut;have HS3:=aa hS;have HCO:=aa hC;have HFO:=aa hF;have HMO:Hid (w5.heap.size<=ob/\w5.heap.size<=oo):=hM;clear hS hC hF hM;obtain⟨w6,hw6⟩:∃w6,w6=wc:=⟨_,rfl⟩;subst hw6;go_upto_region 8 with fail
     go_cut [] from 49 to 56 (λwc=>∃kb ks kr,fF wc cb gb hb bb T c g (bT c g T bb (ptr ab) (ptr tb) (ptr ob) (ptr kb) (.pointer none) (.pointer none) (.pointer none) (.slice none 0 0))/\Ct wc kb ks kr nC (List.replicate ((nC+63) / 64) 0)/\Fr [hb] w6 wc/\w6.heap.size<=kb/\w6.heap.size<=ks/\w6.heap.size<=kr)
     case first=>
      have HSu:=HS3;have G:=HSu.out.g;rw[HGE.out]at G;have y0:w6.cell? ⟨gb,0,none⟩=some (.int .i64 (nW:Int)):=G.cell 0;have y1:w6.cell? ⟨gb,1,none⟩=some (.int .i64 g1):=G.cell 1;have y2:w6.cell? ⟨gb,2,none⟩=some (.int .i64 g2):=G.cell 2;have y3:w6.cell? ⟨gb,3,none⟩=some (.int .i64 g3):=G.cell 3;have y4:w6.cell? ⟨gb,4,none⟩=some (.int .i64 (nC:Int)):=G.cell 4;have y5:w6.cell? ⟨gb,5,none⟩=some (.int .i64 g5):=G.cell 5;clear G;go_wp2_with fail
      refine(HC.out _).mono ?_;rintro e wz ⟨kb,ks,kr,rfl,ha,hf,m1,m2,m3⟩;have HSv:=aa (HSu.out.fr0 hf);have x1:wz.cell? ⟨hb,23,none⟩=some (.pointer none):=HSv.out.h.cell 23;have x2:=HSv.out.h.frozen 23;have HX:Hid (Ct wz kb ks kr nC (List.replicate ((nC+63) / 64) 0)/\Fr [] w6 wz/\(w6.heap.size<=kb/\w6.heap.size<=ks/\w6.heap.size<=kr)):=⟨ha,hf,⟨m1,m2,m3⟩⟩;clear ha hf m1 m2 m3;go_wp2_with fail
      go_meet
      have hlt:hb<w6.heap.size:=HSu.out.h.lt;have hn:∀v,Fr [hb] wz (wz.setCell ⟨hb,23,none⟩ v):=λv=>(Fr.refl _ _).setCell (p:=⟨hb,23,none⟩) (.inl (by simp)) _;exact⟨kb,ks,kr,HSv.out.put 23 (ptr kb),HX.out.1.fr (hn _) (by simp;have:=HX.out.2.2;omega) (by simp;have:=HX.out.2.2;omega) (by simp;have:=HX.out.2.2;omega),(HX.out.2.1.mono (λx hx=>by cases hx)).ae (hn _),HX.out.2.2⟩
     case rest=>
      obtain⟨kb,ks,kr,hS,hC,hF,hM⟩:=hcut;have HS4:=aa hS;have HCC:=aa hC;have HFC:=aa hF;have HMC:Hid (w6.heap.size<=kb/\w6.heap.size<=ks/\w6.heap.size<=kr):=hM;clear hS hC hF hM;obtain⟨w7,hw7⟩:∃w7,w7=wc:=⟨_,rfl⟩;subst hw7;go_upto_region 9 with fail
      go_cut [] from 57 to 67 (λwc=>∃qb qF,fF wc cb gb hb bb T c g (bT c g T bb (ptr ab) (ptr tb) (ptr ob) (ptr kb) (ptr qb) (.pointer none) (.pointer none) (.slice none 0 0))/\Qq wc qb qF T qm [] (λ_=>[])/\Fr [hb] w7 wc/\∀x,x∈qF->w7.heap.size<=x)
      case first=>
       have HSu:=HS4;have G:=HSu.out.c;rw[HCE.out]at G;have y3:w7.cell? ⟨cb,3,none⟩=some (.int .i64 (T:Int)):=G.cell 3;have y9:w7.cell? ⟨cb,9,none⟩=some (.int .i64 (qm:Int)):=G.cell 9;clear G;go_wp2_with fail
       refine(HQ.out _).mono ?_;rintro e wz ⟨qb,qF,rfl,ha,hf,m1⟩;have HSv:=aa (HSu.out.fr0 hf);have x1:wz.cell? ⟨hb,24,none⟩=some (.pointer none):=HSv.out.h.cell 24;have x2:=HSv.out.h.frozen 24;have HX:Hid (Qq wz qb qF T qm [] (λ_=>[])/\Fr [] w7 wz/\(∀x,x∈qF->w7.heap.size<=x)):=⟨ha,hf,m1⟩;clear ha hf m1;go_wp2_with fail
       go_meet
       have hlt:hb<w7.heap.size:=HSu.out.h.lt;have hn:∀v,Fr [hb] wz (wz.setCell ⟨hb,24,none⟩ v):=λv=>(Fr.refl _ _).setCell (p:=⟨hb,24,none⟩) (.inl (by simp)) _;exact⟨qb,qF,HSv.out.put 24 (ptr qb),HX.out.1.fr (hn _) (λx hx hx'=>by simp at hx';have:=HX.out.2.2 x hx;omega),(HX.out.2.1.mono (λx hx=>by cases hx)).ae (hn _),HX.out.2.2⟩
      case rest=>
       obtain⟨qb,qF,hS,hC,hF,hM⟩:=hcut;have HS5:=aa hS;have HCQ:=aa hC;have HFQ:=aa hF;have HMQ:Hid (∀x,x∈qF->w7.heap.size<=x):=hM;clear hS hC hF hM;obtain⟨w8,hw8⟩:∃w8,w8=wc:=⟨_,rfl⟩;subst hw8;go_upto_region 10 with fail
       go_cut [] from 68 to 75 (λwc=>∃tg zb,fF wc cb gb hb bb T c g (bT c g T bb (ptr ab) (ptr tb) (ptr ob) (ptr kb) (ptr qb) (ptr zb) (.pointer none) (.slice none 0 0))/\SAt wc tg zb P R lD/\Fr [hb] w8 wc/\∀b,b<w8.heap.size->(tg b).1=0)
       case first=>
        have HSu:=HS5;have G:=HSu.out.g;rw[HGE.out]at G;have y0:w8.cell? ⟨gb,0,none⟩=some (.int .i64 (nW:Int)):=G.cell 0;have y1:w8.cell? ⟨gb,1,none⟩=some (.int .i64 g1):=G.cell 1;have y2:w8.cell? ⟨gb,2,none⟩=some (.int .i64 g2):=G.cell 2;have y3:w8.cell? ⟨gb,3,none⟩=some (.int .i64 g3):=G.cell 3;have y4:w8.cell? ⟨gb,4,none⟩=some (.int .i64 (nC:Int)):=G.cell 4;have y5:w8.cell? ⟨gb,5,none⟩=some (.int .i64 g5):=G.cell 5;clear G;go_wp2_with fail
        refine(HS.out _).mono ?_;rintro e wz ⟨tg,zb,_,_,_,_,_,_,_,_,rfl,ha,hf,m1⟩;have HSv:=aa (HSu.out.fr0 hf);have x1:wz.cell? ⟨hb,25,none⟩=some (.pointer none):=HSv.out.h.cell 25;have x2:=HSv.out.h.frozen 25;have HX:Hid (SAt wz tg zb P R lD/\Fr [] w8 wz/\(∀b,b<w8.heap.size->(tg b).1=0)):=⟨⟨_,_,_,_,_,_,_,_,ha⟩,hf,m1⟩;clear ha hf m1;go_wp2_with fail
        go_meet
        have hlt:hb<w8.heap.size:=HSu.out.h.lt;have hn:∀v,Fr [hb] wz (wz.setCell ⟨hb,25,none⟩ v):=λv=>(Fr.refl _ _).setCell (p:=⟨hb,25,none⟩) (.inl (by simp)) _;exact⟨tg,zb,HSv.out.put 25 (ptr zb),HX.out.1.fr (hn _) (λb hb'=>by simp at hb';exact HX.out.2.2 b (by omega)),(HX.out.2.1.mono (λx hx=>by cases hx)).ae (hn _),HX.out.2.2⟩
       case rest=>
        obtain⟨tg,zb,hS,hC,hF,hM⟩:=hcut;have HS6:=aa hS;have HCS:=aa hC;have HFS:=aa hF;have HMS:Hid (∀b,b<w8.heap.size->(tg b).1=0):=hM;clear hS hC hF hM;obtain⟨w9,hw9⟩:∃w9,w9=wc:=⟨_,rfl⟩;subst hw9;go_upto_region 11 with fail
        go_cut [] from 76 to 84 (λwc=>∃mk mr,fF wc cb gb hb bb T c g (bT c g T bb (ptr ab) (ptr tb) (ptr ob) (ptr kb) (ptr qb) (ptr zb) (ptr mk) (.slice none 0 0))/\ch wc mk mr nW (List.replicate ((nW+63) / 64) 0)/\Fr [hb] w9 wc/\w9.heap.size<=mk/\w9.heap.size<=mr)
        case first=>
         have HSu:=HS6;have G:=HSu.out.g;rw[HGE.out]at G;have y0:w9.cell? ⟨gb,0,none⟩=some (.int .i64 (nW:Int)):=G.cell 0;clear G;go_wp2_with fail
         refine(HM.out _).mono ?_;rintro e wz ⟨mk,mr,rfl,ha,hf,m1,m2⟩;have HSv:=aa (HSu.out.fr0 hf);have x1:wz.cell? ⟨hb,26,none⟩=some (.pointer none):=HSv.out.h.cell 26;have x2:=HSv.out.h.frozen 26;have HX:Hid (ch wz mk mr nW (List.replicate ((nW+63) / 64) 0)/\Fr [] w9 wz/\(w9.heap.size<=mk/\w9.heap.size<=mr)):=⟨ha,hf,⟨m1,m2⟩⟩;clear ha hf m1 m2;go_wp2_with fail
         go_meet
         have hlt:hb<w9.heap.size:=HSu.out.h.lt;have hn:∀v,Fr [hb] wz (wz.setCell ⟨hb,26,none⟩ v):=λv=>(Fr.refl _ _).setCell (p:=⟨hb,26,none⟩) (.inl (by simp)) _;exact⟨mk,mr,HSv.out.put 26 (ptr mk),HX.out.1.fr (hn _) (by simp;have:=HX.out.2.2;omega) (by simp;have:=HX.out.2.2;omega),(HX.out.2.1.mono (λx hx=>by cases hx)).ae (hn _),HX.out.2.2⟩
        case rest=>
         obtain⟨mk,mr,hS,hC,hF,hM⟩:=hcut;have HS7:=aa hS;have HCM:=aa hC;have HFM:=aa hF;have HMM:Hid (w9.heap.size<=mk/\w9.heap.size<=mr):=hM;clear hS hC hF hM;obtain⟨w10,hw10⟩:∃w10,w10=wc:=⟨_,rfl⟩;subst hw10;have G:=HS7.out.c;rw[HCE.out]at G;have y3:w10.cell? ⟨cb,3,none⟩=some (.int .i64 (T:Int)):=G.cell 3;clear G;have HLp:Hid (so w10 w10 cb gb hb bb T c g (ptr ab) (ptr tb) (ptr ob) (ptr kb) (ptr qb) (ptr zb) (ptr mk) B 0 none 0 [] (λ_=>0) (λ_=>[]) (λ_=>0)):=HS7.out.begin;clear HA HR HO HC HQ HS HM HS1 HS2 HS3 HS4 HS5 HS6;go_wp2_with fail
         go_loopw [87] (λi wr=>∃(j:Nat) (rA:Option Addr) (rc:Nat) (rG:List Nat) (S:Nat->Nat) (FS:Nat->List Nat) (f:Nat->Nat),i=.int .i64 j/\j<=T/\so w10 wr cb gb hb bb T c g (ptr ab) (ptr tb) (ptr ob) (ptr kb) (ptr qb) (ptr zb) (ptr mk) B j rA rc rG S FS f) (λi _=>T-(intOf i).toNat)
         case atStart=>exact⟨0,_,_,_,_,_,_,rfl,Nat.zero_le _,HLp.out⟩
         case round=>
          obtain⟨j,rA,rc,rG,S,FS,f,rfl,hj,hL⟩:=hrel;have HL:=aa hL;clear hL HLp y3;by_cases hlt:j<T
          ·have hlt1:(j:Int)<(T:Int):=by omega
           have G:=HL.out.st.c;rw[HCE.out]at G;have y4:wr.cell? ⟨cb,4,none⟩=some (.int .i64 (B:Int)):=G.cell 4;clear G;go_wp2_with fail
           refine(HK.out _).mono ?_;rintro e wy ⟨sn,F,rfl,hq,hf1,hn⟩;have x1:wy.cell? ⟨hb,27,none⟩=some (.slice rA j rc):=(HL.out.st.fr0 hf1).h.cell 27;have N1:hb<wy.heap.size:=af x1;have HQ1:=aa hq;have HF1:=aa hf1;have HNN:=aa hn;have HFZ:Hid (∀w',Fr rG (wy.alloc (.cells #[.pointer (some ⟨sn,0,none⟩)] 75)) w'->w'.cell? ⟨hb,27,none⟩=some (.slice rA j rc)/\w'.frozen? ⟨hb,27,none⟩=false):=λw' hg=>by
            have hb1:=(((HL.out.st.fr0 hf1).fr0 ((Fr.refl _ _).alloc _)).h).fr hg (HL.out.row.apart HL.out.st.h (by decide));exact⟨hb1.cell 27,hb1.frozen 27⟩
           have HLR:Hid (Lr (wy.alloc (.cells #[.pointer (some ⟨sn,0,none⟩)] 75)) 75 rA j rc rG (jz S j)):=(HL.out.row.fr hf1 (by simp)).alloc _;have HNB:Hid (j+1<=maxLen/\(j+1)*8<=140737488355328):=by have:=HTT.out.2;exact⟨by unfold maxLen;omega,by omega⟩
           clear hq hf1 hn;go_wp2_with (first|(at_builtin;refine aS rfl _ _ 47 rfl 75 i0 (.pointer none) 8 Tryz.underlying47 hi hz0 hz1 hz2 rfl rfl HLR.out rfl rfl (λ_=>fq wy _ 75 rfl _ (Fr.refl _ _)) (by intro u hu;simp at hu;rw[hu];rfl) HNB.out.1 HNB.out.2 ?_;intro A' c' G' wx HLn HFn HGn;have d0:=(HFZ.out _ HFn.out).1;have dz:=(HFZ.out _ HFn.out).2))
           have HRes:=aa (HL.out.add HF1.out HQ1.out HNN.out HLn.out HFn.out (λg hg=>(HGn.out g hg).imp id (λh=>h.1)));go_roundw
           case rel=>
            obtain⟨S',FS',f',r1⟩:=HRes.out;exact⟨j+1,A',c',G',S',FS',f',by go_num,by omega,r1⟩
           case measure=>simp[intOf];omega
          ·obtain rfl:j=T:=by omega
           have HEnd:=aa (BA HTab.out HDm.out HEQ.out.2 HOK.out HS0.out HF0.out HL0.out HCA.out HFA.out HMA.out HCR.out HFR.out HMR.out HCO.out HFO.out HMO.out HCC.out HFC.out HMC.out HCQ.out HFQ.out HMQ.out HCS.out HFS.out HMS.out HCM.out HFM.out HMM.out HL.out);rw[HPost.out]at HEnd;go_wp2_with fail
           exact HEnd.out
structure zT(c:Cfg)(W R C P T B qm s k:Nat):Prop where
 ok:c.geo.Ok s k
 dm:cI c.geo W R C P
 th:c.threads=(T:Int)
 ro:c.roots=(B:Int)
 qu:c.queue=(qm:Int)
 t1:1<=T
 t2:T<=64
 b1:1<=B
 b2:B<=64
 q2:qm<=65536
theorem zU{c:Cfg}(h:ia c=true):∃W R C P T B qm s k,zT c W R C P T B qm s k:=by
 have ok:=Cfg.qZ (ju h);obtain⟨R,dm⟩:=xY ok;have h':=h;unfold ia at h';simp only[Bool.and_eq_true,nT]at h';obtain⟨-,⟨a1,a2⟩,⟨b1,b2⟩,-,-,-,-,⟨d1,d2⟩,-⟩:=h';obtain⟨T,hT⟩:=Da (show 0<=c.threads by omega);obtain⟨B,hB⟩:=Da (show 0<=c.roots by omega);obtain⟨qm,hq⟩:=Da d1;exact⟨_,R,_,_,T,B,qm,_,_,ok,dm,hT,hB,hq,by omega,by omega,by omega,by omega,by omega⟩
theorem lG{c:Cfg}{W R C P T B qm s k:Nat}(h:ia c=true)(o:zT c W R C P T B qm s k)(w:World)(tab:Tab w):Calls Tryz.prog 14 #[c.val] w (kq w c c.geo W R (R*W) T C P qm B s k):=by
 have HN:Hid (∀w',Calls Tryz.prog 21 #[c.val] w' λe w''=>e=.returned (.tuple #[c.geo.val,.int .i64 0])/\Fr [] w' w''):=λw'=>(lm c w').mono λe w'' ⟨h1,h2⟩=>⟨by rw[h1];unfold Cfg.ans Cfg.err;rw[h];rfl,h2⟩;obtain⟨ok,dm,th,ro,qu,t1,t2,b1,b2,q2⟩:=o;have hok:=HSn.ok ok dm t2;obtain⟨c0,c1,c2,T',B',c5,c6,c7,c8,q',c10,c11,c12,c13⟩:=c;obtain rfl:T'=(T:Int):=th;obtain rfl:B'=(B:Int):=ro;obtain rfl:q'=(qm:Int):=qu;clear h;generalize Cfg.geo _=g at *;have e1:=dm.wd;have e2:=dm.cd;obtain⟨g0,g1,g2,g3,g4,g5⟩:=g;obtain rfl:g0=((R*W:Nat):Int):=e1;obtain rfl:g4=((R*P:Nat):Int):=e2;exact oj c0 c1 c2 c5 c6 c7 c8 c10 c11 c12 c13 T B qm g1 g2 g3 g5 (R*W) (R*P) W R C P dm rfl rfl t1 t2 b1 b2 q2 HN w tab hok
section
variable {w w':World}{L:HL}{X:HX}{tg:Tg}{own own':Nat->Nat}{FS:Nat->List Nat}{h:HS}{x:HT}{s k:Nat}{F:List Nat}{c:Nat}
structure Ch(w':World)(L:HL)(X:HX)(tg:Tg)(own':Nat->Nat)(FS:Nat->List Nat)(h:HS)(x:HT)(c:Nat):Prop where
 r1:c≠1->Blk w' L.hb 50 (L.cells h.g h.T)/\Lr w' 75 L.rA h.T L.rc L.rG (jz L.S h.T)/\Blk w' L.bb 215 (eK h.T h.bx h.be)
 r2:c≠2->∃c,Ar w' L.ab L.aw h.n h.f c
 r3:c≠3->Rg w' L.tb L.sb L.pb L.mb h.W h.R h.s h.t L.m
 r4:c≠4->Of w' X.ob X.oo x.cw (h.R*x.per) x.O
 r5:c≠5->Ct w' X.cb X.cs X.cr (h.R*x.per) x.C
 r6:c≠6->Qq w' X.qb X.qF h.T x.qm x.qc x.ql
 r7:c≠7->SAt w' tg X.zb x.per h.R x.σ
 r8:c≠8->ch w' X.mb X.mr h.n x.M
 r9:∀i,i<h.T->c≠100+i->HkP w' (L.S i) (FS i) L.B (h.st i)
 rt:Tab w'
 o1:own' L.hb=1/\own' L.bb=1/\∀b,b∈L.rG->own' b=1
 o2:own' L.ab=2/\own' L.aw=2
 o3:own' L.tb=3/\own' L.sb=3/\own' L.pb=3/\own' L.mb=3
 o4:own' X.ob=4/\own' X.oo=4
 o5:own' X.cb=5/\own' X.cs=5/\own' X.cr=5
 o6:∀b,b∈X.qF->own' b=6
 o7:∀b,(tg b).1≠0->own' b=7
 o8:own' X.mb=8/\own' X.mr=8
 io:∀i,i<h.T->∀b,b∈FS i->own' b=100+i
 o0:own' 0=0
theorem Hw.rest(H:Hw w L X tg own FS h x s k)(hf:Fr F w w')(hF:∀b,b∈F->own b=c)(hc:c≠0)(hu:∀b,b<w.heap.size->own' b=own b):Ch w' L X tg own' FS h x c:=by
 have n:∀ {b d:Nat},own b=d->c≠d->b∉F:=λh1 h2 h3=>h2 ((hF _ h3).symm.trans h1);have u:∀ {b d:Nat},own b=d->d≠0->own' b=d:=λh1 h2=>(hu _ (H.lt _ (by rw[h1];exact h2))).trans h1;refine⟨λe=>⟨H.st.fr hf (n H.o1.1 e),H.row.fr hf (λg hg=>n (H.o1.2.2 g hg) e),H.buf.fr hf (n H.o1.2.1 e)⟩,λe=>?_,λe=>H.rg.fr hf (n H.o3.1 e) (n H.o3.2.1 e) (n H.o3.2.2.1 e) (n H.o3.2.2.2 e),λe=>H.of.fr hf (n H.o4.1 e) (n H.o4.2 e),
  λe=>H.ct.fr hf (n H.o5.1 e) (n H.o5.2.1 e) (n H.o5.2.2 e),λe=>H.qu.fr hf (λb hb=>n (H.o6 b hb) e),λe=>H.se.fr hf (λb hb=>?_),λe=>H.ma.fr hf (n H.o8.1 e) (n H.o8.2 e),λi hi e=>(H.stk i hi).fr hf (λb hb=>n (H.io i hi b hb) e),
  H.tab.fr hf (n H.o0 hc),⟨u H.o1.1 (by decide),u H.o1.2.1 (by decide),λb hb=>u (H.o1.2.2 b hb) (by decide)⟩,⟨u H.o2.1 (by decide),u H.o2.2 (by decide)⟩,⟨u H.o3.1 (by decide),u H.o3.2.1 (by decide),u H.o3.2.2.1 (by decide),u H.o3.2.2.2 (by decide)⟩,
  ⟨u H.o4.1 (by decide),u H.o4.2 (by decide)⟩,⟨u H.o5.1 (by decide),u H.o5.2.1 (by decide),u H.o5.2.2 (by decide)⟩,λb hb=>u (H.o6 b hb) (by decide),λb hb=>u (H.o7 b hb) (by decide),⟨u H.o8.1 (by decide),u H.o8.2 (by decide)⟩,λi hi b hb=>u (H.io i hi b hb) (by omega),
  (hu _ (af (H.tab 0 (by decide)))).trans H.o0⟩
 ·obtain⟨a,ha⟩:=H.ar;exact⟨a,ha.fr hf (n H.o2.1 e) (n H.o2.2 e)⟩
 ·by_cases e2:(tg b).1=0
  ·exact e2
  ·exact absurd ((hF b hb).symm.trans (H.o7 b e2)) e
theorem Hw.xZ(H:Hw w L X tg own FS h x s k){s' t' m':Nat->Int}(hf:Fr F w w')(hF:∀b,b∈F->own b=3)(hr:Rg w' L.tb L.sb L.pb L.mb h.W h.R s' t' m'):Hw w' { L with m:=m' } X tg own FS { h with s:=s',t:=t' } x s k:=by
 have r:=H.rest (own':=own) hf hF (by decide) (λ_ _=>rfl);exact⟨(r.r1 (by decide)).1,r.r2 (by decide),hr,(r.r1 (by decide)).2.1,λi hi=>r.r9 i hi (by omega),(r.r1 (by decide)).2.2,⟨H.ok.geo,H.ok.rw,H.ok.rg,H.ok.wd,H.ok.nn,H.ok.fok,hr.sok,hr.tok,H.ok.tm,H.ok.bok,H.ok.rok,H.ok.uC⟩,r.rt,H.dim,r.r4 (by decide),r.r5 (by decide),r.r6 (by decide),r.r7 (by decide),r.r8 (by decide),H.vo,H.vc,H.vq,H.vs,H.vm,r.o1,r.o2,r.o3,r.o4,r.o5,r.o6,r.o7,r.o8,r.io,r.o0,λb hb=>Dc (H.lt b hb) hf.size⟩
theorem Hw.x8(H:Hw w L X tg own FS h x s k){f':Nat->Nat}{c':Int}(hf:Fr F w w')(hF:∀b,b∈F->own b=2)(ha:Ar w' L.ab L.aw h.n f' c'):Hw w' L X tg own FS { h with f:=f' } x s k:=by
 have r:=H.rest (own':=own) hf hF (by decide) (λ_ _=>rfl);exact⟨(r.r1 (by decide)).1,⟨_,ha⟩,r.r3 (by decide),(r.r1 (by decide)).2.1,λi hi=>r.r9 i hi (by omega),(r.r1 (by decide)).2.2,⟨H.ok.geo,H.ok.rw,H.ok.rg,H.ok.wd,H.ok.nn,ha.ok,H.ok.sok,H.ok.tok,H.ok.tm,H.ok.bok,H.ok.rok,H.ok.uC⟩,r.rt,H.dim,r.r4 (by decide),r.r5 (by decide),r.r6 (by decide),r.r7 (by decide),r.r8 (by decide),H.vo,H.vc,H.vq,H.vs,H.vm,r.o1,r.o2,r.o3,r.o4,r.o5,r.o6,r.o7,r.o8,r.io,r.o0,λb hb=>Dc (H.lt b hb) hf.size⟩
theorem Hw.Bz(H:Hw w L X tg own FS h x s k){O':Nat->Int}(hf:Fr F w w')(hF:∀b,b∈F->own b=4)(ho:Of w' X.ob X.oo x.cw (h.R*x.per) O'):Hw w' L X tg own FS h { x with O:=O' } s k:=by
 have r:=H.rest (own':=own) hf hF (by decide) (λ_ _=>rfl);exact⟨(r.r1 (by decide)).1,r.r2 (by decide),r.r3 (by decide),(r.r1 (by decide)).2.1,λi hi=>r.r9 i hi (by omega),(r.r1 (by decide)).2.2,H.ok,r.rt,H.dim,ho,r.r5 (by decide),r.r6 (by decide),r.r7 (by decide),r.r8 (by decide),H.vo,H.vc,H.vq,H.vs,H.vm,r.o1,r.o2,r.o3,r.o4,r.o5,r.o6,r.o7,r.o8,r.io,r.o0,λb hb=>Dc (H.lt b hb) hf.size⟩
theorem Hw.aF(H:Hw w L X tg own FS h x s k){C':List Nat}(hf:Fr F w w')(hF:∀b,b∈F->own b=5)(ho:Ct w' X.cb X.cs X.cr (h.R*x.per) C'):Hw w' L X tg own FS h { x with C:=C' } s k:=by
 have r:=H.rest (own':=own) hf hF (by decide) (λ_ _=>rfl);exact⟨(r.r1 (by decide)).1,r.r2 (by decide),r.r3 (by decide),(r.r1 (by decide)).2.1,λi hi=>r.r9 i hi (by omega),(r.r1 (by decide)).2.2,H.ok,r.rt,H.dim,r.r4 (by decide),ho,r.r6 (by decide),r.r7 (by decide),r.r8 (by decide),H.vo,H.vc,H.vq,H.vs,H.vm,r.o1,r.o2,r.o3,r.o4,r.o5,r.o6,r.o7,r.o8,r.io,r.o0,λb hb=>Dc (H.lt b hb) hf.size⟩
def cJ(own:Nat->Nat)(B:Nat)(p:Nat->Prop)[DecidablePred p](c:Nat)(x:Nat):Nat:=if x<B then own x else if p x then c else 0
theorem Hw.stack(H:Hw w L X tg own FS h x s k){i:Nat}(hi:i<h.T){F':List Nat}{l:List Int}(hf:Fr (FS i) w w')(ho:HkP w' (L.S i) F' L.B l)(hn:∀b,b∈F'->b∈FS i\/w.heap.size<=b)(hl:l.length<=64)(hr:∀r,r∈l->0<=r/\r<18446744073709551616) :
  ∃own',Hw w' L X tg own' (bk FS i F') { h with st:=bk h.st i l } x s k/\(∀b,own' b≠0->own b≠0\/w.heap.size<=b)/\∀b,b<w.heap.size->own' b=own b:=by
 have h1:∀b,b<w.heap.size->cJ own w.heap.size (λb=>b∈F') (100+i) b=own b:=λb hb=>by unfold cJ;rw[if_pos hb]
 have r:=H.rest (own':=cJ own w.heap.size (λb=>b∈F') (100+i)) hf (λb hb=>H.io i hi b hb) (by omega) h1;refine⟨_,⟨(r.r1 (by omega)).1,r.r2 (by omega),r.r3 (by omega),(r.r1 (by omega)).2.1,λj hj=>?_,(r.r1 (by omega)).2.2,⟨H.ok.geo,H.ok.rw,H.ok.rg,H.ok.wd,H.ok.nn,H.ok.fok,H.ok.sok,H.ok.tok,H.ok.tm,H.ok.bok,λj hj=>?_,λj hj=>?_⟩,r.rt,H.dim,r.r4 (by omega),r.r5 (by omega),r.r6 (by omega),r.r7 (by omega),r.r8 (by omega),H.vo,H.vc,H.vq,H.vs,H.vm,r.o1,r.o2,r.o3,r.o4,r.o5,r.o6,r.o7,r.o8,λj hj b hb=>?_,r.o0,λb hb=>?_⟩,λb hb=>?_,h1⟩
 ·show HkP w' (L.S j) (bk FS i F' j) L.B (bk h.st i l j);by_cases e:j=i
  ·subst e;rw[fa,fa];exact ho
  ·rw[fb _ _ e,fb _ _ e];exact r.r9 j hj (by omega)
 ·show ∀r,r∈bk h.st i l j->_;by_cases e:j=i
  ·subst e;rw[fa];exact hr
  ·rw[fb _ _ e];exact H.ok.rok j hj
 ·show(bk h.st i l j).length<=64;by_cases e:j=i
  ·subst e;rw[fa];exact hl
  ·rw[fb _ _ e];exact H.ok.uC j hj
 ·by_cases e:j=i
  ·subst e;rw[fa]at hb;by_cases e2:b<w.heap.size
   ·rw[h1 b e2];rcases hn b hb with h3|h3
    ·exact H.io j hj b h3
    ·omega
   ·unfold cJ;rw[if_neg e2,if_pos hb]
  ·rw[fb _ _ e]at hb;exact r.io j hj b hb
 ·have hs:=hf.size;by_cases e:b<w.heap.size
  ·omega
  ·unfold cJ at hb;rw[if_neg e]at hb;by_cases e2:b∈F'
   ·exact ho.lt b e2
   ·rw[if_neg e2]at hb;exact absurd rfl hb
 ·by_cases e:b<w.heap.size
  ·rw[h1 b e]at hb;exact .inl hb
  ·exact .inr (by omega)
theorem Hw.looked(H:Hw w L X tg own FS h x s k)(hr:Hr w' L h s k)(hf:Fr [L.ab] w w'):Hw w' L X tg own FS h x s k:=by
 obtain⟨c',hc⟩:=hr.ar;exact H.x8 hf (λb hb=>by simp at hb;subst hb;exact H.o2.1) hc
theorem Hw.fr0(H:Hw w L X tg own FS h x s k)(hf:Fr [] w w'):Hw w' L X tg own FS h x s k:=H.looked (H.hr.fr0 hf) (hf.mono (λb hb=>by cases hb))
end
def cK(W w:World)(L:HL)(X:HX)(own:Nat->Nat)(h:HS)(x:HT)(s k:Nat):Prop:=
 ∃tg FS,Hw w L X tg own FS h x s k/\Fr [] W w/\∀b,own b≠0->W.heap.size<=b
def HKp(w:World)(own:Nat->Nat)(w':World)(own':Nat->Nat):Prop:=(∃F,Fr F w w'/\∀b,b∈F->own b≠0)/\∀b,b<w.heap.size->own' b=own b
def ip(W w:World)(L:HL)(X:HX)(own:Nat->Nat)(h:HS)(x:HT)(s k:Nat)(v:Value)(e:Ending)(w':World):Prop:=
 ∃own',e=.returned v/\cK W w' L X own' h x s k/\HKp w own w' own'
section
variable {W w w' w'':World}{L:HL}{X:HX}{own own' own'':Nat->Nat}{h:HS}{x:HT}{s k:Nat}{F:List Nat}
theorem HKp.blk(h:HKp w own w' own'){b:Nat}{t:TypeId}{cs:Array Value}(hb:Blk w b t cs)(h0:own b=0):Blk w' b t cs/\own' b=0:=by
 obtain⟨⟨F,f1,f2⟩,u⟩:=h;exact⟨hb.fr f1 (λhx=>f2 b hx h0),(u b hb.lt).trans h0⟩
theorem cK.hr(H:cK W w L X own h x s k):Hr w L h s k:=by
 obtain⟨tg,FS,H,_⟩:=H;exact H.hr
theorem cK.fr0(H:cK W w L X own h x s k)(hf:Fr [] w w'):cK W w' L X own h x s k:=by
 obtain⟨tg,FS,H,h1,h2⟩:=H;exact⟨tg,FS,H.fr0 hf,h1.ae hf,h2⟩
theorem cK.other(H:cK W w L X own h x s k)(hf:Fr F w w')(hF:∀b,b∈F->own b=0/\W.heap.size<=b)(hg:0∉F):cK W w' L X own h x s k:=by
 obtain⟨tg,FS,H,h1,h2⟩:=H;have n:∀ {b d:Nat},own b=d->d≠0->b∉F:=λh1 h2 h3=>h2 (h1.symm.trans (hF _ h3).1);refine⟨tg,FS,⟨H.st.fr hf (n H.o1.1 (by decide)),?_,H.rg.fr hf (n H.o3.1 (by decide)) (n H.o3.2.1 (by decide)) (n H.o3.2.2.1 (by decide)) (n H.o3.2.2.2 (by decide)),H.row.fr hf (λg hg=>n (H.o1.2.2 g hg) (by decide)),λi hi=>(H.stk i hi).fr hf (λg hg=>n (H.io i hi g hg) (by omega)),H.buf.fr hf (n H.o1.2.1 (by decide)),H.ok,H.tab.fr hf hg,H.dim,
  H.of.fr hf (n H.o4.1 (by decide)) (n H.o4.2 (by decide)),H.ct.fr hf (n H.o5.1 (by decide)) (n H.o5.2.1 (by decide)) (n H.o5.2.2 (by decide)),H.qu.fr hf (λg hg=>n (H.o6 g hg) (by decide)),H.se.fr hf (λb hb=>?_),H.ma.fr hf (n H.o8.1 (by decide)) (n H.o8.2 (by decide)),H.vo,H.vc,H.vq,H.vs,H.vm,H.o1,H.o2,H.o3,H.o4,H.o5,H.o6,H.o7,H.o8,H.io,H.o0,λb hb=>Dc (H.lt b hb) hf.size⟩,h1.trans hf (λb hb=>.inr (hF b hb).2),h2⟩
 ·obtain⟨a,ha⟩:=H.ar;exact⟨a,ha.fr hf (n H.o2.1 (by decide)) (n H.o2.2 (by decide))⟩
 ·by_cases e2:(tg b).1=0
  ·exact e2
  ·exact absurd (hF b hb).1 (by rw[H.o7 b e2];decide)
theorem cK.Ci(H:cK W w L X own h x s k){y:Int}(hy:dB y){j:Nat}(hl:dD h.s h.R j) :
  Calls Tryz.prog 160 #[.pointer (some ⟨L.tb,0,none⟩),.int .i64 y] w (ip W w L X own { h with s:=ak h.s j y } x s k (.tuple #[.int .i64 (j:Int),.int .i64 0])):=by
 obtain⟨tg,FS,H,h1,h2⟩:=H;refine(xk H.rg hy hl).mono ?_;rintro e w' ⟨rfl,hr,hf⟩;have hF:∀b,b∈[L.sb,L.pb,L.mb]->own b=3:=λb hb=>by
  simp at hb;rcases hb with rfl|rfl|rfl
  ·exact H.o3.2.1
  ·exact H.o3.2.2.1
  ·exact H.o3.2.2.2
 exact⟨own,rfl,⟨tg,FS,H.xZ hf hF hr,h1.trans hf (λb hb=>.inr (h2 b (by rw[hF b hb];decide))),h2⟩,⟨_,hf,λb hb=>by rw[hF b hb];decide⟩,λ_ _=>rfl⟩
theorem cK.make(H:cK W w L X own h x s k){I S P:Nat}(hS:1<=S/\S<=1048576)(hP:P<S)(hn:I+S<=h.n) :
  Calls Tryz.prog 92 #[.pointer (some ⟨L.ab,0,none⟩),.int .i64 (I:Int),.int .i64 (S:Int),.int .i64 (P:Int)] w (ip W w L X own { h with f:=upd (aB h.f I S (λ_=>0)) I (aY S P) } x s k (.int .i64 0)):=by
 obtain⟨tg,FS,H,h1,h2⟩:=H;obtain⟨a,ha⟩:=H.ar;have hm:=yS h.f hS hP hn;refine(uu ha I S P (by have:=ha.max;omega)).mono ?_;rintro e w' ⟨c',rfl,hr,hf⟩;rw[hm.1];rw[hm.2]at hr;have hF:∀b,b∈[L.ab,L.aw]->own b=2:=λb hb=>by
  simp at hb;rcases hb with rfl|rfl
  ·exact H.o2.1
  ·exact H.o2.2
 exact⟨own,rfl,⟨tg,FS,H.x8 hf hF hr,h1.trans hf (λb hb=>.inr (h2 b (by rw[hF b hb];decide))),h2⟩,⟨_,hf,λb hb=>by rw[hF b hb];decide⟩,λ_ _=>rfl⟩
theorem cK.push(H:cK W w L X own h x s k){i:Nat}(hi:i<h.T)(hB:L.B<=64)(hl:(h.st i).length<L.B){r:Int}(hr:0<=r/\r<18446744073709551616) :
  Calls Tryz.prog 95 #[.pointer (some ⟨L.S i,0,none⟩),.int .u64 r] w (ip W w L X own { h with st:=bk h.st i (h.st i++[r]) } x s k (.int .i64 0)):=by
 obtain⟨tg,FS,H,h1,h2⟩:=H;refine(mI (H.stk i hi) (Nat.le_of_lt hl) hB r).mono ?_;rintro e w' ⟨F',rfl,hq,hf,hn⟩;have e1:aH L.B (h.st i) r=h.st i++[r]:=if_pos hl;have e2:ay L.B (h.st i)=0:=if_pos hl;rw[e2];rw[e1]at hq;obtain⟨own',k1,k2,k3⟩:=H.stack hi hf hq hn (by simp;omega) (λq hq=>by
  rcases List.mem_append.1 hq with h3|h3
  ·exact H.ok.rok i hi q h3
  ·simp at h3;subst h3;exact hr)
 have hF:∀b,b∈FS i->own b≠0:=λb hb=>by rw[H.io i hi b hb];omega
 have hsz:=h1.size;refine⟨own',rfl,⟨tg,_,k1,h1.trans hf (λb hb=>.inr (h2 b (hF b hb))),λb hb=>?_⟩,⟨_,hf,hF⟩,k3⟩
 ·rcases k2 b hb with h3|h3
  ·exact h2 b h3
  ·omega
theorem cK.store(H:cK W w L X own h x s k){i y:Int}{j v:Nat}(hi:i=(j:Int))(hj:j<h.n)(hy:y=(v:Int))(hv:v<18446744073709551616) :
  Calls Tryz.prog 88 #[.pointer (some ⟨L.ab,0,none⟩),.int .i64 i,.int .u64 y] w (ip W w L X own { h with f:=upd h.f j v } x s k (.int .i64 0)):=by
 obtain⟨tg,FS,H,h1,h2⟩:=H;obtain⟨a,ha⟩:=H.ar;refine(pI ha hi hj hy hv).mono ?_;rintro e w' ⟨rfl,hr,hf⟩;have hF:∀b,b∈[L.ab,L.aw]->own b=2:=λb hb=>by
  simp at hb;rcases hb with rfl|rfl
  ·exact H.o2.1
  ·exact H.o2.2
 exact⟨own,rfl,⟨tg,FS,H.x8 hf hF hr,h1.trans hf (λb hb=>.inr (h2 b (by rw[hF b hb];decide))),h2⟩,⟨_,hf,λb hb=>by rw[hF b hb];decide⟩,λ_ _=>rfl⟩
theorem cK.looked(H:cK W w L X own h x s k)(hr:Hr w' L h s k)(hf:Fr [L.ab] w w'):cK W w' L X own h x s k/\HKp w own w' own:=by
 obtain⟨tg,FS,H,h1,h2⟩:=H;have hF:∀b,b∈[L.ab]->own b≠0:=λb hb=>by simp at hb;subst hb;rw[H.o2.1];decide
 exact⟨⟨tg,FS,H.looked hr hf,h1.trans hf (λb hb=>.inr (h2 b (hF b hb))),h2⟩,⟨_,hf,hF⟩,λ_ _=>rfl⟩
theorem cK.fr(H:cK W w L X own h x s k):Fr [] W w:=by
 obtain⟨tg,FS,H,h1,h2⟩:=H;exact h1
theorem kq.at{c:Cfg}{g:Geo}{W0 R n T C P qm B s k:Nat}{e:Ending}(hP:kq w c g W0 R n T C P qm B s k e w')(hW:Fr [] W w) :
  ∃L X own,e=.returned (.tuple #[.pointer (some ⟨L.hb,0,none⟩),.int .i64 0])/\cK W w' L X own (HSn g W0 R n T) (HTn C P R qm n) s k/\L.B=B/\L.cfg=c/\Fr [] w w'/\∀b,b<w.heap.size->own b=0:=by
 obtain⟨L,X,tg,own,FS,rfl,h1,h2,h3,h4,h5⟩:=hP;refine⟨L,X,own,rfl,⟨tg,FS,h1,hW.ae h2,λb hb=>Nat.le_trans hW.size (h3 b hb)⟩,h4,h5,h2,λb hb=>?_⟩;by_cases e:own b=0
 ·exact e
 ·have:=h3 b e;omega
end
section
variable {W w w' w'':World}{L:HL}{X:HX}{own own' own'':Nat->Nat}{h:HS}{x:HT}{s k:Nat}{F:List Nat}
theorem cK.run(H:cK W w L X own h x s k){c f z:Nat}(hc:1<=c)(hz1:(c-1)*h.W<z)(hz2:z<=c*h.W)(hl:eL h.s h.R c f) :
  Calls Tryz.prog 157 #[.pointer (some ⟨L.tb,0,none⟩),.int .i64 (c:Int),.int .i64 (z:Int)] w
   (ip W w L X own { h with s:=ak (bg h.s f (f+c) λ_=>5) f 4,t:=bg h.t f (f+c) (bM h.W f z) } x s k (.tuple #[.int .i64 (f:Int),.int .i64 0])):=by
 obtain⟨tg,FS,H,h1,h2⟩:=H;refine(Bt H.rg hc hz1 hz2 hl).mono ?_;rintro e w' ⟨rfl,hr,hf⟩;have hF:∀b,b∈[L.sb,L.pb,L.mb]->own b=3:=λb hb=>by
  simp at hb;rcases hb with rfl|rfl|rfl
  ·exact H.o3.2.1
  ·exact H.o3.2.2.1
  ·exact H.o3.2.2.2
 exact⟨own,rfl,⟨tg,FS,H.xZ hf hF hr,h1.trans hf (λb hb=>.inr (h2 b (by rw[hF b hb];decide))),h2⟩,⟨_,hf,λb hb=>by rw[hF b hb];decide⟩,λ_ _=>rfl⟩
theorem cK.sq(H:cK W w L X own h x s k){c:Nat}{z:Int}(hc:1<=c)(hcm:c<=9223372036854775807)(hzm:z<=9223372036854775807)(hz:((c:Int)-1)*(h.W:Int)<z/\z<=(c:Int)*(h.W:Int))(hl:ns h.s h.R c) :
  Calls Tryz.prog 157 #[.pointer (some ⟨L.tb,0,none⟩),.int .i64 (c:Int),.int .i64 z] w λe w'=>e=.returned (.tuple #[.int .i64 0,.int .i64 6])/\w=w':=by
 obtain⟨tg,FS,H,h1,h2⟩:=H;exact xO H.rg (by have:=H.dim.r2;omega) hc hcm hzm hz hl
theorem cK.oq(H:cK W w L X own h x s k){a z:Nat}(hz:1<=z)(hm:a+z<=h.n) :
  Calls Tryz.prog 94 #[.pointer (some ⟨X.ob,0,none⟩),.int .i64 (a:Int),.int .i64 (z:Int)] w (ip W w L X own h { x with O:=obj x.cw x.O a z } s k (.int .i64 0)):=by
 obtain⟨tg,FS,H,h1,h2⟩:=H;refine(zO H.of hz (by rw[H.dim.oi];have:=H.ok.nn;omega)).mono ?_;rintro e w' ⟨rfl,hr,hf⟩;have hF:∀b,b∈[X.oo]->own b=4:=λb hb=>by
  simp at hb;subst hb;exact H.o4.2
 exact⟨own,rfl,⟨tg,FS,H.Bz hf hF hr,h1.trans hf (λb hb=>.inr (h2 b (by rw[hF b hb];decide))),h2⟩,⟨_,hf,λb hb=>by rw[hF b hb];decide⟩,λ_ _=>rfl⟩
end
end Go.Proofs.YtimlkjppaalfaaaGreatDoor
