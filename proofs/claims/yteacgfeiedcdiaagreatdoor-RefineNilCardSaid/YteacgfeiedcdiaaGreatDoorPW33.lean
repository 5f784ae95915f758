/- Several texts joined (pack.py): RfD RfE. -/
import Derived.Test.YteacgfeiedcdiaaGreatDoorPW31
import Derived.WalkKit
import Derived.BigQuiet
import Derived.Test.YteacgfeiedcdiaaGreatDoorPW32
import Derived.StillTailTactics
namespace Go.Proofs.YteacgfeiedcdiaaGreatDoor
set_option linter.unusedVariables false
set_option linter.unusedSimpArgs false
set_option maxRecDepth 100000
open Go.RowKit Go.Gl HS
def rgI(h:HS)(a:Int):Int:=((a.toNat / h.W:Nat):Int)
section
variable {w:World}{L:HL}{h:HS}{s k:Nat}
theorem rfregion_hr(H:Hr w L h s k)(c:Shf L s k){a:Int}(h0:0≤a)(h1:a≤4194304) :
  Calls Tryz.prog 91 #[.pointer (some ⟨L.hb,0,none⟩),.int .i64 a] w fun e w'=>e=.returned (.int .i64 (rgI h a))∧w=w':=by
 obtain⟨a,rfl⟩:=Int.eq_ofNat_of_zero_le h0
 have c0:w.cell? ⟨L.hb,0,none⟩=some (.int .i64 (s:Int)):=by rw [← c.a];exact H.st.cell 0
 have hs:=H.ok.geo.s20
 have HW:Hid ((a:Int) / pw (s:Int)=rgI h (a:Int)):=by
  show _=_
  have:=H.ok.geo.rw
  rw [H.ok.rw]at this
  unfold rgI
  rw [← this,Int.toNat_natCast,Int.natCast_ediv]
 have eu:IntKind.u64.wrap (s:Int)=(s:Int):=IntWalk.u64_in _ ⟨by omega,by omega⟩
 clear H c
 go_enter Tryz.func91,Tryz.ntmps91
 go_wp2_with fail
 go_ret
 exact⟨ret_int (by rw [pw_pow];exact HW.out),rfl⟩
theorem rgI_iff(ok:h.Ok s k){r:Nat}(hr:r<h.R){a:Int}(h0:0≤a)(h1:a≤4194304):rgI h a=(r:Int)↔h.g.regionOf a=(r:Int):=by
 obtain⟨a,rfl⟩:=Int.eq_ofNat_of_zero_le h0
 have hW:=ok.wpos
 have hn:=ok.nn
 unfold rgI Geo.regionOf
 rw [Int.toNat_natCast,ok.wd,ok.rw]
 by_cases h2:(0:Int)≤(a:Int)∧(a:Int)<(h.n:Int)
 ·rw [if_pos h2,Int.natCast_ediv]
 ·rw [if_neg h2]
  have h3:¬ a / h.W=r:=fun e=>by
   have h4:a / h.W<h.R:=by omega
   rw [Nat.div_lt_iff_lt_mul (by omega),← hn]at h4
   omega
  omega
set_option maxHeartbeats 3200000 in
theorem rfend_any(H:Hr w L h s k)(sh:Shf L s k){r:Nat}(hr:r<h.R):Calls Tryz.prog 92 #[.pointer (some ⟨L.hb,0,none⟩),.int .i64 (r:Int)] w fun e w'=>e=.returned (.int .i64 (h.endOf r))∧Fr [] w w':=by
 obtain⟨i0,hi,hz0,hz1,hz2⟩:=info_parts Tryz.info_int
 have cB:=H.cB
 have HBC:Hid (∀w' i,Fr [] w w'→i<h.T→w'.cell? ⟨L.bb,i*2,none⟩=some (.int .i64 (h.bx i))∧w'.cell? ⟨L.bb,i*2+1,none⟩=some (.int .i64 (h.be i))∧L.bb<w'.heap.size):=fun w' i hf hi=>⟨((H.fr0 hf).bufs hi).1,((H.fr0 hf).bufs hi).2,(H.fr0 hf).buf.lt⟩
 have HGC:Hid (∀w',Fr [] w w'→w'.cell? ⟨L.hb,14,none⟩=some (.int .i64 h.g.words)∧w'.cell? ⟨L.hb,15,none⟩=some (.int .i64 h.g.rw)∧w'.cell? ⟨L.hb,16,none⟩=some (.int .i64 h.g.cw)∧w'.cell? ⟨L.hb,17,none⟩=some (.int .i64 h.g.regions)∧w'.cell? ⟨L.hb,18,none⟩=some (.int .i64 h.g.cards)∧w'.cell? ⟨L.hb,19,none⟩=some (.int .i64 h.g.max)):=fun w' hf=>(H.fr0 hf).geo
 have HTC:Hid (∀w',Fr [] w w'→w'.cell? ⟨L.hb,21,none⟩=some (.pointer (some ⟨L.tb,0,none⟩))∧L.hb<w'.heap.size):=fun w' hf=>⟨(H.fr0 hf).cT,(H.fr0 hf).st.lt⟩
 have HRG:Hid (∀w' a,Fr [] w w'→0≤a→a≤4194304→Calls Tryz.prog 91 #[.pointer (some ⟨L.hb,0,none⟩),.int .i64 a] w' fun e w''=>e=.returned (.int .i64 (rgI h a))∧Fr [] w' w''):=fun w' a hf h0 h1=>(rfregion_hr (H.fr0 hf) sh h0 h1).mono (by rintro e w'' ⟨rfl,rfl⟩;exact⟨rfl,Fr.refl _ _⟩)
 have HRI:=hide (fun a=>rgI_iff (a:=a) (r:=r) H.ok hr)
 have HTP:Hid (∀w',Fr [] w w'→Calls Tryz.prog 143 #[.pointer (some ⟨L.tb,0,none⟩),.int .i64 (r:Int)] w' fun e w''=>e=.returned (.int .i64 (h.t r))∧w'=w''):=fun w' hf=>top_at (H.fr0 hf).rg hr
 have HBO:=hide H.ok.bok
 have HTM:=H.ok.tm
 have HEnd:Hid (h.endOf r=if h.leftL (r:Int) h.T=[] then h.t r else HS.minL (h.leftL (r:Int) h.T)):=rfl
 have HLn:=hide (leftL_len h (r:Int))
 clear H sh
 go_enter Tryz.func92,Tryz.ntmps92
 go_wp2_with fail
 go_loopw [5,15] (fun p i wr=>∃(j:Nat) (A:Option Addr) (c:Nat) (G:List Nat),i=.int .i64 j∧p=.slice A (h.leftL (r:Int) j).length c∧j≤h.T∧Lr wr 3 A (h.leftL (r:Int) j).length c G (zv (h.leftL (r:Int) j))∧(∀g,g∈G→w.heap.size≤g)∧Fr [] w wr) (fun _ i _=>h.T-(intOf i).toNat)
 case atStart=>exact⟨0,none,0,[],rfl,rfl,Nat.zero_le _,Lr.nil _ _,(fun g hg=>by cases hg),Fr.refl _ _⟩
 case round=>
  obtain⟨j,A,c,G,rfl,rfl,hj,hl,hg,hf⟩:=hrel
  have HL:=hide hl
  have HG:=hide hg
  have HF:=hide hf
  by_cases hlt:j<h.T
  ·have hlt1:(j:Int)<(h.T:Int):=by omega
   obtain⟨b0,b1,NB⟩:=HBC.out wr j hf hlt
   obtain⟨g0,g1,g2,g3,g4,g5⟩:=HGC.out wr hf
   obtain⟨t0,NH⟩:=HTC.out wr hf
   have hbo:=HBO.out j hlt
   have hlen:=HLn.out j
   have HOut:=hide (leftL_out (h:=h) (r:=(r:Int)) (k:=j))
   have HIn:=hide (leftL_in (h:=h) (r:=(r:Int)) (k:=j))
   obtain⟨ln,hln⟩:∃ln,ln=(h.leftL (r:Int) j).length:=⟨_,rfl⟩
   rw [← hln]at HL hlen ⊢
   have HLN:=hide hln
   have HF1:Hid (Fr [] w (wr.alloc (.cells #[.int .i64 (h.bx j),.int .i64 (h.be j)] 214))):=hf.alloc _
   have HBR:=hide (brest_any (Bu.made wr 214 hbo.1 hbo.2.1 hbo.2.2))
   have HLT:=hide hlt
   clear hl hg hf hln
   generalize h.bx j=x at *
   generalize h.be j=y at *
   by_cases hxy:x<y
   ·by_cases hreg:h.g.regionOf x=(r:Int)
    ·have HI:=HIn.out ⟨hxy,hreg⟩
     have HLI:Hid (ln+1=(h.leftL (r:Int) (j+1)).length):=by
      show _=_
      rw [HI,List.length_append,← HLN.out]
      rfl
     have HZ:Hid (zv (h.leftL (r:Int) j)++[.int .i64 x]=zv (h.leftL (r:Int) (j+1))):=by
      show _=_
      rw [HI,zv_app]
      rfl
     have HRX:=hide (HRG.out (wr.alloc (.cells #[.int .i64 x,.int .i64 y] 214)) x HF1.out hbo.1 (by omega))
     have hri:rgI h x=(r:Int):=(HRI.out x hbo.1 (by omega)).2 hreg
     rw [hri]at HRX
     have HRD:=hide (fun q=>HRG.out ((wr.alloc (.cells #[.int .i64 x,.int .i64 y] 214)).drewN q) x (HF1.out.drewN q) hbo.1 (by omega))
     rw [hri]at HRD
     have HB:Hid (ln+1≤maxLen∧(ln+1)*8≤140737488355328):=⟨by unfold maxLen;omega,by omega⟩
     clear hreg hri HI HIn HOut
     go_wp2_with fail
     refine HBR.out.mono ?_
     rintro e w1 ⟨rfl,q,rfl⟩
     go_wp2_with fail
     refine(HRD.out q).mono ?_
     rintro e w2 ⟨rfl,hf2⟩
     have HF2:Hid (Fr [] wr w2):=(((Fr.refl [] wr).alloc _).drewN q).trans_same hf2
     have HL2:Hid (Lr (w2.alloc (.cells #[.int .i64 x] 3)) 3 A ln c G (zv (h.leftL (r:Int) j))):=(HL.out.fr0 HF2.out).alloc _
     clear hf2
     go_wp2_with (first | (at_builtin;refine wpList_append_lr rfl _ _ 31 rfl 3 i0 (.int .i64 0) 8 Tryz.underlying31 hi hz0 hz1 hz2 rfl rfl HL2.out rfl (by rfl) (fun _=>one_of w2 (.int .i64 x) 3 rfl _ (Fr.refl _ _)) (by intro u hu;simp at hu;subst hu;rfl) HB.out.1 HB.out.2 ?_;intro A' c' G' w4 HLn HFn HGn))
     have HF4:Hid (Fr [] w w4):=((HF.out.trans_same HF2.out).alloc _).trans HFn.out (fun g hg=>.inr (HG.out g hg))
     have HG4:Hid (∀g,g∈G'→w.heap.size≤g):=fun g hg=>by
      rcases HGn.out g hg with h1 | ⟨h1,_⟩
      ·exact HG.out g h1
      ·have:=HF.out.size;have:=HF2.out.size;simp at h1;omega
     have HL4:Hid (Lr w4 3 A' (h.leftL (r:Int) (j+1)).length c' G' (zv (h.leftL (r:Int) (j+1)))):=by
      have:=HLn.out
      rw [HZ.out,HLI.out]at this
      exact this
     go_roundw
     case rel=>exact⟨j+1,A',c',G',by go_num,by rw [HLI.out],by omega,HL4.out,HG4.out,HF4.out⟩
     case measure=>simp [intOf];omega
    ·have hri:¬ rgI h x=(r:Int):=fun q=>hreg ((HRI.out x hbo.1 (by omega)).1 q)
     have hreg':(rgI h x==(r:Int))=false:=by simpa using hri
     have HO:=HOut.out (fun e=>hreg e.2)
     have HZ:Hid (h.leftL (r:Int) j=h.leftL (r:Int) (j+1)):=HO.symm
     have HRD:=hide (fun q=>HRG.out ((wr.alloc (.cells #[.int .i64 x,.int .i64 y] 214)).drewN q) x (HF1.out.drewN q) hbo.1 (by omega))
     generalize rgI h x=z at *
     clear HO HIn HOut hreg hri
     go_wp2_with fail
     refine HBR.out.mono ?_
     rintro e w1 ⟨rfl,q,rfl⟩
     go_wp2_with fail
     refine(HRD.out q).mono ?_
     rintro e w2 ⟨rfl,hf2⟩
     have HF2:Hid (Fr [] wr w2):=(((Fr.refl [] wr).alloc _).drewN q).trans_same hf2
     clear hf2
     go_wp2_with fail
     go_roundw
     case rel=>exact⟨j+1,A,c,G,by go_num,by rw [HLN.out,HZ.out],by omega,by rw [← HZ.out,← HLN.out];exact HL.out.fr0 HF2.out,HG.out,HF.out.trans_same HF2.out⟩
     case measure=>simp [intOf];omega
   ·have HO:=HOut.out (fun e=>hxy e.1)
    have HZ:Hid (h.leftL (r:Int) j=h.leftL (r:Int) (j+1)):=HO.symm
    clear HO HIn HOut
    go_wp2_with fail
    refine HBR.out.mono ?_
    rintro e w1 ⟨rfl,q,rfl⟩
    have HF2:Hid (Fr [] wr ((wr.alloc (.cells #[.int .i64 x,.int .i64 y] 214)).drewN q)):=((Fr.refl [] wr).alloc _).drewN q
    go_wp2_with fail
    go_roundw
    case rel=>exact⟨j+1,A,c,G,by go_num,by rw [HLN.out,HZ.out],by omega,by rw [← HZ.out,← HLN.out];exact HL.out.fr0 HF2.out,HG.out,HF.out.trans_same HF2.out⟩
    case measure=>simp [intOf];omega
  ·obtain rfl:j=h.T:=by omega
   obtain⟨t0,NH⟩:=HTC.out wr hf
   have HTX:=hide (HTP.out wr hf)
   clear hl hg hf
   by_cases h0:(h.leftL (r:Int) h.T).length=0
   ·have HE:Hid (h.endOf r=h.t r):=by
     show _=_
     rw [HEnd.out,if_pos (List.eq_nil_of_length_eq_zero h0)]
    obtain⟨ln,hln⟩:∃ln,ln=(h.leftL (r:Int) h.T).length:=⟨_,rfl⟩
    rw [← hln]at h0 ⊢
    subst h0
    generalize h.t r=z at *
    clear hln
    go_wp2_with fail
    refine HTX.out.mono ?_
    rintro e w1 ⟨rfl,rfl⟩
    go_wp2_with fail
    go_ret
    exact⟨ret_int HE.out.symm,HF.out⟩
   ·have HE:Hid (h.endOf r=HS.minL (h.leftL (r:Int) h.T)):=by
     show _=_
     rw [HEnd.out,if_neg (fun e=>h0 (by rw [e];rfl))]
    have HMn:=hide (smin_any (c:=c) (HL.out.slz) (by omega) (by have:=HLn.out h.T;omega))
    obtain⟨ln,hln⟩:∃ln,ln=(h.leftL (r:Int) h.T).length:=⟨_,rfl⟩
    rw [← hln]at h0 HMn ⊢
    have h0':((ln:Int)==0)=false:=by simpa using h0
    generalize HS.minL (h.leftL (r:Int) h.T)=z at *
    clear hln
    go_wp2_with fail
    refine HMn.out.mono ?_
    rintro e w1 ⟨rfl,rfl⟩
    go_wp2_with fail
    go_ret
    exact⟨ret_int HE.out.symm,HF.out⟩
end
section
variable {W w w':World}{L:HL}{X:HX}{h:HS}{x:HT}{s k:Nat}{E:Blks}{D:Nat→Prop}{Q:World→Prop}
theorem shl_in(ok:h.Ok s k){r:Nat}(hr:r<h.R):wrap64 ((r:Int)*2 ^ s)=((r*h.W:Nat):Int):=by
 have e:=ok.geo.rw
 rw [ok.rw]at e
 have hn:=ok.nn
 have hm:=ok.nmax
 have h2:=mul_add_le (W:=h.W) hr
 rw [pw_pow,← e,← Int.natCast_mul]
 exact IntWalk.wrap64_in _ ⟨by omega,by omega⟩
set_option maxHeartbeats 1600000 in
theorem rffirst_any(H:HM W w L X h x s k E D Q)(sh:Shf L s k){c r:Nat}(hc:c<h.R*x.per)(hr:r<h.R)(hO:0≤x.O c∧x.O c≤4194304) :
  Calls Tryz.prog 93 #[.pointer (some ⟨L.hb,0,none⟩),.int .i64 (c:Int),.int .i64 (r:Int)] w fun e w'=>e=.returned (.int .i64 (h.firstH x.O c r))∧w=w':=by
 have c22:=H.hc.c22
 have c0:=(H.shc sh).1
 have HOf:=hide (H.offsAt hc)
 have hs:=H.ok.geo.s20
 have eu:IntKind.u64.wrap (s:Int)=(s:Int):=IntWalk.u64_in _ ⟨by omega,by omega⟩
 have HSh:=hide (shl_in H.ok hr)
 have HRI:=hide (fun a=>rgI_iff (a:=a) (r:=r) H.ok hr)
 have HRG:=hide (fun a=>rfregion_hr (a:=a) H.hr sh)
 have HV:Hid (h.firstH x.O c r=if ¬ x.O c=0∧h.g.regionOf (x.O c-1)=(r:Int) then x.O c-1 else ((r*h.W:Nat):Int)):=rfl
 clear H sh
 generalize x.O c=o at *
 by_cases h0:o=0
 ·subst h0
  rw [if_neg (by simp)]at HV
  rw [if_pos rfl,if_pos rfl]at HOf
  go_enter Tryz.func93,Tryz.ntmps93
  go_wp2_with fail
  refine HOf.out.mono ?_
  rintro e w1 ⟨rfl,rfl⟩
  go_wp2_with fail
  go_ret
  exact⟨ret_int (by rw [HV.out];exact HSh.out),rfl⟩
 ·rw [if_neg h0,if_neg h0]at HOf
  have HRG2:=hide (HRG.out (o-1) (by omega) (by omega))
  by_cases h1:h.g.regionOf (o-1)=(r:Int)
  ·rw [if_pos ⟨h0,h1⟩]at HV
   rw [(HRI.out (o-1) (by omega) (by omega)).2 h1]at HRG2
   go_enter Tryz.func93,Tryz.ntmps93
   go_wp2_with fail
   refine HOf.out.mono ?_
   rintro e w1 ⟨rfl,rfl⟩
   go_wp2_with fail
   refine HRG2.out.mono ?_
   rintro e w1 ⟨rfl,rfl⟩
   go_wp2_with fail
   go_ret
   exact⟨ret_int HV.out.symm,rfl⟩
  ·rw [if_neg (fun q=>h1 q.2)]at HV
   have h2:¬ rgI h (o-1)=(r:Int):=fun q=>h1 ((HRI.out (o-1) (by omega) (by omega)).1 q)
   have h2':(rgI h (o-1)==(r:Int))=false:=by simpa using h2
   clear HRG HRI
   generalize rgI h (o-1)=z at *
   go_enter Tryz.func93,Tryz.ntmps93
   go_wp2_with fail
   refine HOf.out.mono ?_
   rintro e w1 ⟨rfl,rfl⟩
   go_wp2_with fail
   refine HRG2.out.mono ?_
   rintro e w1 ⟨rfl,rfl⟩
   go_wp2_with fail
   go_ret
   exact⟨ret_int (by rw [HV.out];exact HSh.out),rfl⟩
theorem bigAt_five{f:Nat→Int}{r:Nat}(h:f (r+1)=5):bigAt f (r+1)=bigAt f r:=by
 show(if f (r+1)=5 then bigAt f r else _)=_
 rw [if_pos h]
theorem bigAt_four{f:Nat→Int}{r:Nat}(h:f r=4):bigAt f r=some r:=by
 cases r with
 | zero=>unfold bigAt;rw [if_pos h]
 | succ r=>unfold bigAt;rw [if_neg (by omega),if_pos h]
theorem bigAt_else{f:Nat→Int}{r:Nat}(h:f r≠4)(h5:f r≠5):bigAt f r=none:=by
 cases r with
 | zero=>unfold bigAt;rw [if_neg h]
 | succ r=>unfold bigAt;rw [if_neg h5,if_neg h]
def bigI(h:HS)(r:Nat):Int:=match bigAt h.s r with | some q=>((q*h.W:Nat):Int) | none=>0
def bigB(h:HS)(r:Nat):Bool:=(bigAt h.s r).isSome
set_option maxHeartbeats 1600000 in
theorem rfbig_any(H:HM W w L X h x s k E D Q)(sh:Shf L s k){r:Nat}(hr:r<h.R) :
  Calls Tryz.prog 94 #[.pointer (some ⟨L.hb,0,none⟩),.int .i64 (r:Int)] w fun e w'=>e=.returned (.tuple #[.int .i64 (bigI h r),.bool (bigB h r)])∧w=w':=by
 have c21:=H.hc.c21
 have c0:=(H.shc sh).1
 have hs:=H.ok.geo.s20
 have eu:IntKind.u64.wrap (s:Int)=(s:Int):=IntWalk.u64_in _ ⟨by omega,by omega⟩
 have HSh:=hide (fun q (hq:q<h.R)=>shl_in H.ok hq)
 have HSt:=hide (fun a=>hstate_any H.hr a)
 have hR:h.R≤65536:=H.setDim.r3
 clear H sh
 go_enter Tryz.func94,Tryz.ntmps94
 go_wp2_with fail
 go_loopw [1] (fun v wr=>wr=w∧∃q:Int,v=.int .i64 q∧-1≤q∧q≤(r:Int)∧((q=-1∧bigAt h.s r=none)∨∃n:Nat,q=(n:Int)∧bigAt h.s r=bigAt h.s n)) (fun v _=>((intOf v)+1).toNat)
 case atStart=>exact⟨rfl,r,rfl,by omega,Int.le_refl _,.inr ⟨r,rfl,rfl⟩⟩
 case round=>
  obtain⟨rfl,q,rfl,q1,q2,hq⟩:=hrel
  have HS1:=hide (HSt.out q)
  by_cases h5:h.stateOf q=5
  ·rw [h5]at HS1
   have hq':∃n:Nat,q=(n:Int)∧n<h.R∧h.s n=5∧bigAt h.s r=bigAt h.s n:=by
    rcases hq with⟨rfl,_⟩ | ⟨n,rfl,e⟩
    ·exact absurd h5 (by unfold HS.stateOf;rw [if_neg (by omega)];decide)
    ·have hn:n<h.R:=by omega
     unfold HS.stateOf at h5
     rw [if_pos ⟨by omega,by omega⟩,Int.toNat_natCast]at h5
     exact⟨n,rfl,hn,h5,e⟩
   obtain⟨n,rfl,hn,e5,e⟩:=hq'
   have hN:Hid (((n:Int)-1=-1∧bigAt h.s r=none)∨∃m:Nat,(n:Int)-1=(m:Int)∧bigAt h.s r=bigAt h.s m):=by
    cases n with
    | zero=>exact .inl ⟨rfl,e.trans (by unfold bigAt;rw [if_neg (by omega)])⟩
    | succ m=>exact .inr ⟨m,by omega,e.trans (bigAt_five e5)⟩
   clear e e5 h5 hq
   go_wp2_with fail
   refine HS1.out.mono ?_
   rintro e w1 ⟨rfl,rfl⟩
   go_wp2_with fail
   go_roundw
   case rel=>exact⟨trivial,(n:Int)-1,by go_num,by omega,by omega,hN.out⟩
   case measure=>simp [intOf]
  ·have h5':(h.stateOf q==5)=false:=by simpa using h5
   by_cases h4:h.stateOf q=4
   ·have hq':∃n:Nat,q=(n:Int)∧n<h.R∧bigAt h.s r=some n:=by
     rcases hq with⟨rfl,_⟩ | ⟨n,rfl,e⟩
     ·exact absurd h4 (by unfold HS.stateOf;rw [if_neg (by omega)];decide)
     ·have hn:n<h.R:=by omega
      unfold HS.stateOf at h4
      rw [if_pos ⟨by omega,by omega⟩,Int.toNat_natCast]at h4
      exact⟨n,rfl,hn,e.trans (bigAt_four h4)⟩
    obtain⟨n,rfl,hn,e⟩:=hq'
    have HV:Hid (wrap64 ((n:Int)*2 ^ s)=bigI h r∧true=bigB h r):=by
     show _∧_
     unfold bigI bigB
     rw [e]
     exact⟨HSh.out n hn,rfl⟩
    rw [h4]at HS1
    clear e h4 h5 h5' hq
    go_wp2_with fail
    refine HS1.out.mono ?_
    rintro e w1 ⟨rfl,rfl⟩
    go_wp2_with fail
    refine HS1.out.mono ?_
    rintro e w1 ⟨rfl,rfl⟩
    go_wp2_with fail
    refine bodyPost_ret (v:=.tuple #[.int .i64 (wrap64 ((n:Int)*2 ^ s)),.bool true]) (by simp [results,Tryz.results94,go_sem, *]) rfl ⟨by rw [← HV.out.1,← HV.out.2],rfl⟩
   ·have h4':(h.stateOf q !=4)=true:=by simpa using h4
    have e:bigAt h.s r=none:=by
     rcases hq with⟨rfl,e⟩ | ⟨n,rfl,e⟩
     ·exact e
     ·have hn:n<h.R:=by omega
      unfold HS.stateOf at h4 h5
      rw [if_pos ⟨by omega,by omega⟩,Int.toNat_natCast]at h4 h5
      exact e.trans (bigAt_else h4 h5)
    have HV:Hid ((0:Int)=bigI h r∧false=bigB h r):=by
     show _∧_
     unfold bigI bigB
     rw [e]
     exact⟨rfl,rfl⟩
    clear e h4 h5 hq
    generalize h.stateOf q=z at *
    go_wp2_with fail
    refine HS1.out.mono ?_
    rintro e w1 ⟨rfl,rfl⟩
    go_wp2_with fail
    refine HS1.out.mono ?_
    rintro e w1 ⟨rfl,rfl⟩
    go_wp2_with fail
    refine bodyPost_ret (v:=.tuple #[.int .i64 0,.bool false]) (by simp [results,Tryz.results94,go_sem, *]) rfl ⟨by rw [← HV.out.1,← HV.out.2],rfl⟩
end
section
variable {W w w':World}{L:HL}{X:HX}{h:HS}{x:HT}{s k:Nat}{E:Blks}{D:Nat→Prop}{Q:World→Prop}
theorem HM.firstC(H:HM W w L X h x s k E D Q)(a:Int):Calls Tryz.prog 13 #[.agg #[.int .i64 h.g.words,.int .i64 h.g.rw,.int .i64 h.g.cw,.int .i64 h.g.regions,.int .i64 h.g.cards,.int .i64 h.g.max],.int .i64 a] w fun e w'=>e=.returned (.tuple #[.int .i64 (if 0≤a∧a<((h.R*x.per:Nat):Int) then a*(x.cw:Int) else 0),.int .i64 (if 0≤a∧a<((h.R*x.per:Nat):Int) then 0 else 2)])∧Fr [] w w':=by
 have:=first_any h.g H.ok.geo a w H.hr.tab
 rw [H.setDim.cd,H.setDim.cw]at this
 exact this
theorem HM.offsB(H:HM W w L X h x s k E D Q)(c:Nat):0≤x.O c∧x.O c≤4194304:=by
 obtain⟨own,⟨tg,FS,H,h1,h2⟩,hE,hD,hQ⟩:=H
 exact H.of.ok c
set_option maxHeartbeats 1600000 in
theorem rfbegin_out(hS:Lives D Q)(H:HM W w L X h x s k E D Q){c:Int}(hc:¬ (0≤c∧c<((h.R*x.per:Nat):Int))) :
  Calls Tryz.prog 41 #[.pointer (some ⟨L.hb,0,none⟩),.int .i64 c] w fun e w'=>e=.returned (.tuple #[Pla.zero.val,.int .i64 2])∧Fr [] w w':=by
 have HF:=hide (fun w' (hf:Fr [] w w')=>(H.fr0 hS hf).firstC c)
 rw [if_neg hc,if_neg hc]at HF
 obtain⟨g0,g1,g2,g3,g4,g5⟩:=H.hr.geo
 have NL:=H.hc.lt
 clear H hc
 go_enter Tryz.func41,Tryz.ntmps41
 go_wp2_with fail
 refine(HF.out _ ((Fr.refl _ _).alloc _)).mono ?_
 rintro e w1 ⟨rfl,hf⟩
 have hb:=(Blk.new w 93 #[.int .i64 0,.int .i64 0,.int .i64 0,.int .i64 0,.int .i64 0,.int .i64 0,.bool false]).fr hf (by simp)
 have HF1:=hide (((Fr.refl [] w).alloc (.cells #[.int .i64 0,.int .i64 0,.int .i64 0,.int .i64 0,.int .i64 0,.int .i64 0,.bool false] 93)).trans_same hf)
 have HB:=hide hb
 have z0:=hb.frozen 0
 have z1:=hb.frozen 1
 have z2:=hb.frozen 2
 have z3:=hb.frozen 3
 have z4:=hb.frozen 4
 have z5:=hb.frozen 5
 have z6:=hb.frozen 6
 have y0:=hb.cell 0
 have y1:=hb.cell 1
 have y2:=hb.cell 2
 have y3:=hb.cell 3
 have y4:=hb.cell 4
 have y5:=hb.cell 5
 have y6:=hb.cell 6
 have N0:=hb.lt
 clear hf hb g0 g1 g2 g3 g4 g5
 go_wp2_with fail
 refine bodyPost_ret (v:=.tuple #[.agg #[.int .i64 0,.int .i64 0,.int .i64 0,.int .i64 0,.int .i64 0,.int .i64 0,.bool false],.int .i64 2]) (by simp [results,Tryz.results41,go_sem, *]) rfl ⟨rfl,?_⟩
 iterate 7 (refine Fr.setCell ?_ (.inr (Nat.le_refl _)) _)
 exact HF1.out
theorem begP_old{O:Nat→Int}{cw c r FI BE:Nat}(hF:FI=c*cw)(hB:BE=c*cw+cw)(hr:r=FI / h.W)(h3:h.s r=3):h.begP O cw c=if (FI:Int)<h.endOf r then ⟨(FI:Int),(BE:Int),0,0,h.firstH O c r,min (h.endOf r) (BE:Int),false⟩ else ⟨(FI:Int),(BE:Int),0,0,0,0,false⟩:=by
 subst hr hF hB
 unfold HS.begP
 rw [if_pos h3]
theorem begP_big{O:Nat→Int}{cw c r FI BE:Nat}(hF:FI=c*cw)(hB:BE=c*cw+cw)(hr:r=FI / h.W)(h3:¬ h.s r=3)(h45:h.s r=4∨h.s r=5):h.begP O cw c=if bigB h r=true then ⟨(FI:Int),(BE:Int),0,0,bigI h r,bigI h r+1,true⟩ else ⟨(FI:Int),(BE:Int),0,0,0,0,false⟩:=by
 subst hr hF hB
 unfold HS.begP bigB bigI
 rw [if_neg h3,if_pos h45]
 cases bigAt h.s (c*cw / h.W)with
 | none=>rfl
 | some q=>rfl
theorem begP_else{O:Nat→Int}{cw c r FI BE:Nat}(hF:FI=c*cw)(hB:BE=c*cw+cw)(hr:r=FI / h.W)(h3:¬ h.s r=3)(h45:¬ (h.s r=4∨h.s r=5)):h.begP O cw c=⟨(FI:Int),(BE:Int),0,0,0,0,false⟩:=by
 subst hr hF hB
 unfold HS.begP
 rw [if_neg h3,if_neg h45]
theorem bigI_in(ok:h.Ok s k){r:Nat}(hr:r<h.R):0≤bigI h r∧bigI h r≤4194304:=by
 unfold bigI
 cases e:bigAt h.s r with
 | none=>
  show(0:Int)≤0∧(0:Int)≤4194304
  omega
 | some q=>
  have h1:=(bigAt_in e).1
  have h2:=mul_add_le (k:=q) (R:=h.R) (W:=h.W) (by omega)
  have h3:=ok.nn
  have h4:=ok.nmax
  show 0≤((q*h.W:Nat):Int)∧((q*h.W:Nat):Int)≤4194304
  omega
end
end Go.Proofs.YteacgfeiedcdiaaGreatDoor
