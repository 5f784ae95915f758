/- Several texts joined (pack.py): Ui Uj Uk Uv Uw. -/
import Derived.Test.YtimlkjppaalfaaaGreatDoorPW22
import Derived.WalkKit
import Derived.BigQuiet
import Derived.Deep.CutRange
import Derived.Deep.RegionHeld3
import Derived.Test.YtimlkjppaalfaaaGreatDoorPW23
set_option linter.unusedVariables false
set_option linter.unusedSimpArgs false
set_option maxHeartbeats 3200000
set_option maxRecDepth 100000
open List renaming mem_cons_of_mem->CZ,mem_cons_self->C0,mem_cons->C1
namespace Go.Proofs.YtimlkjppaalfaaaGreatDoor
open Go.RowKit Go.Gl HS
section
variable {W w w':World}{L:HL}{X:HX}{h:HS}{x:HT}{s k:Nat}{E:aK}{D:Nat->Prop}{Q:World->Prop}{mb t sb:Nat}{m:MU}
theorem lM(hS:ah D Q)(H:HM W w L X h x s k E D Q)(hm:(mb,127,muV L.hb t sb m)∈E)(ht:t<h.T)(hB:h.t6){n:Int}(hbg:h.g.jS n=false)(hn:1<=n)(hn2:h.be t-h.bx t<n)(hno:((bn h.s 1 h.R).length:Int)>=L.cfg.bP\/(((bn h.s 1 h.R).length:Int)<L.cfg.bP/\gw h.s h.R)) :
  Calls Tryz.prog 126 #[.pointer (some ⟨mb,0,none⟩),.int .i64 n] w λe w'=>e=.returned (.tuple #[.int .i64 0,.int .i64 6])/\HM W w' L X (bE h t) x s k E D Q:=by
 have HBg:Hid (∀w',HM W w' L X h x s k E D Q->Calls Tryz.prog 93 #[.agg #[.int .i64 h.g.words,.int .i64 h.g.rw,.int .i64 h.g.cw,.int .i64 h.g.regions,.int .i64 h.g.aF,.int .i64 h.g.max],.int .i64 n] w' λe w''=>e=.returned (.bool false)/\HM W w'' L X h x s k E D Q):=λw' q=>by
  refine(gM h.g n w' (by rw[q.dim.rw];omega)).mono ?_;rintro e w'' ⟨rfl,hf⟩;rw[hbg];exact⟨rfl,q.fr0 hS hf⟩
 have HLf:Hid (∀w',HM W w' L X h x s k E D Q->Calls Tryz.prog 146 #[.pointer (some ⟨L.bb,t*2,none⟩)] w' λe w''=>e=.returned (.int .i64 (h.be t-h.bx t))/\HM W w'' L X h x s k E D Q):=λw' q=>q.yb hS ht;have HMu:Hid (∀w' h' x',HM W w' L X h' x' s k E D Q->w'.cell? ⟨mb,0,none⟩=some (.pointer (some ⟨L.hb,0,none⟩))/\w'.cell? ⟨mb,1,none⟩=some (.int .i64 (t:Int))):=λw' h' x' q=>by
  have hb:=q.blk hm;exact⟨hb.cell 0,hb.cell 1⟩
 have HCe:Hid (∀w',HM W w' L X h x s k E D Q->fG w' L X h.g h.T):=λw' q=>q.hc;have HF0:Hid (∀w' i,HM W w' L X h x s k E D Q->HM W (w'.drewN i) L X h x s k E D Q):=λw' i q=>q.fr0 hS ((Fr.refl _ _).drewN _);have ht1:(t:Int)<(h.T:Int):=by omega
 have HA0:=aa H;obtain⟨c14,c15,c16,c17,c18,c19,-,-,-,-,-,-,-,-,-,NH⟩:=H.hc;have k0:=(HMu.out _ _ _ H).1;have HRt:Hid (∀w',HM W w' L X h x s k E D Q->Calls Tryz.prog 147 #[.pointer (some ⟨mb,0,none⟩)] w' λe w''=>e=.returned (.tuple #[])/\HM W w'' L X (bE h t) x s k E D Q):=λw' q=>jJ hS q hm ht hB;have HRf:Hid (∀w',HM W w' L X (bE h t) x s k E D Q->Calls Tryz.prog 148 #[.pointer (some ⟨mb,0,none⟩)] w' λe w''=>e=.returned (.tuple #[])/\HM W w'' L X (bE h t) x s k E D Q):=λw' q=>by
  rcases hno with hy|⟨hy,hl⟩
  ·exact l8 hS q hm hy
  ·exact l9 hS q hm hy hl
 have HTk:Hid (∀w',HM W w' L X (bE h t) x s k E D Q->Calls Tryz.prog 149 #[.pointer (some ⟨L.bb,t*2,none⟩),.int .i64 n] w' λe w''=>e=.returned (.tuple #[.int .i64 0,.int .i64 6])/\HM W w'' L X (bE h t) x s k E D Q):=λw' q=>by
  have ex:(bE h t).bx t=0:=by show ak _ t _ t=_;unfold ak;rw[if_pos rfl]
  have ee:(bE h t).be t=0:=by show ak _ t _ t=_;unfold ak;rw[if_pos rfl]
  exact q.lH hS (i:=t) ht hn (by rw[ex,ee];omega)
 have hge:decide (h.be t-h.bx t<n)=true:=by simp;omega
 clear H hm hbg ht hn hn2 hB hno;go_enter Tryz.func126,Tryz.ntmps126
 go_wp2_with fail
 refine(HBg.out _ HA0.out).mono ?_;rintro e w1 ⟨rfl,hA⟩;have HA1:=aa hA;obtain⟨k0',k1⟩:=HMu.out _ _ _ hA;have c28:=(HCe.out _ hA).c28;have NH1:=(HCe.out _ hA).lt;clear c14 c15 c16 c17 c18 c19 NH k0 hA;go_wp2_with fail
 go_quiet (fail)
 have HA2:=aa (HF0.out _ nq HA1.out);have HL2:=aa (HLf.out _ HA2.out);clear k0' k1 c28 NH1;go_wp2_with fail
 refine HL2.out.mono ?_;rintro e w2 ⟨rfl,hA⟩;have HA3:=aa hA;clear hA;have HR3:=aa (HRt.out _ HA3.out);go_wp2_with fail
 refine HR3.out.mono ?_;rintro e w3 ⟨rfl,hA⟩;have HR4:=aa (HRf.out _ hA);clear hA;go_wp2_with fail
 refine HR4.out.mono ?_;rintro e w4 ⟨rfl,hA⟩;have HT3:=aa (HTk.out _ hA);clear hA;go_wp2_with fail
 refine HT3.out.mono ?_;rintro e w5 ⟨rfl,hA⟩;have HA4:=aa hA;clear hA;go_wp2_with fail
 go_ret2
 exact⟨rfl,HA4.out⟩
end
section
variable {W w w':World}{L:HL}{X:HX}{h h2:HS}{x x2:HT}{s k:Nat}{E:aK}{D:Nat->Prop}{Q:World->Prop}{mb t sb:Nat}{m:MU}
abbrev cD(w:World)(b:Nat)(v0 v1 v2 v3 v4 v5 v6 v7 v8:Value):World:=
 ((((((((w.setCell ⟨b,0,none⟩ v0).setCell ⟨b,1,none⟩ v1).setCell ⟨b,2,none⟩ v2).setCell ⟨b,3,none⟩ v3).setCell ⟨b,4,none⟩ v4).setCell ⟨b,5,none⟩ v5).setCell ⟨b,6,none⟩ v6).setCell ⟨b,7,none⟩ v7).setCell ⟨b,8,none⟩ v8
theorem oN(w:World)(b:Nat)(v0 v1 v2 v3 v4 v5 v6 v7 v8:Value):Fr [b] w (cD w b v0 v1 v2 v3 v4 v5 v6 v7 v8):=
 aT (aT (aT (aT (aT (aT (aT (aT (aT (Fr.refl [b] w) (by simp) 0 _) (by simp) 1 _) (by simp) 2 _) (by simp) 3 _) (by simp) 4 _) (by simp) 5 _) (by simp) 6 _) (by simp) 7 _) (by simp) 8 _
theorem yd{b:Nat}{ty:TypeId}{a0 a1 a2 a3 a4 a5 a6 a7 a8:Value}(h:Blk w b ty #[a0,a1,a2,a3,a4,a5,a6,a7,a8])(v0 v1 v2 v3 v4 v5 v6 v7 v8:Value):Blk (cD w b v0 v1 v2 v3 v4 v5 v6 v7 v8) b ty #[v0,v1,v2,v3,v4,v5,v6,v7,v8]:=by
 have:=((((((((h.put 0 v0).put 1 v1).put 2 v2).put 3 v3).put 4 v4).put 5 v5).put 6 v6).put 7 v7).put 8 v8;simpa using this
theorem HM.cS(hS:ah D Q)(hT:Tab W){rb:Nat}{a0 a1 a2 a3 a4 a5 a6 a7 a8:Value}(H:HM W w L X h x s k ((rb,73,#[a0,a1,a2,a3,a4,a5,a6,a7,a8])::E) D Q)(hne:∀q,q∈E->q.1≠rb)(v0 v1 v2 v3 v4 v5 v6 v7 v8:Value) :
  HM W (cD w rb v0 v1 v2 v3 v4 v5 v6 v7 v8) L X h x s k E D Q:=
 (H.l7 hS hT (oN w rb v0 v1 v2 v3 v4 v5 v6 v7 v8) (yd (H.blk (C0 ..)) v0 v1 v2 v3 v4 v5 v6 v7 v8) hne).sub (λq hq=>CZ _ hq)
end
section
variable {W w w':World}{L:HL}{X:HX}{h h2:HS}{x x2:HT}{s k:Nat}{E:aK}{D:Nat->Prop}{Q:World->Prop}{mb t sb:Nat}{m:MU}
def MU.op(m:MU):Po:=⟨m.k,m.a,m.b,m.c,m.v⟩
theorem lN(hS:ah D Q)(hT:Tab W)(H:HM W w L X h x s k ((mb,127,muV L.hb t sb m)::E) D Q)(hne:∀q,q∈E->q.1≠mb)(ht:t<h.T)(hB:L.B<=64)(hl:(h.st t).length<L.B)
  {M:Nat} (hM:h.g.max=(M:Int)) (hM2:M<=1048576) (hsz:¬ aE M m.a m.b) (ho:dH m.op) {ad:Int}
  (hw:∀w' E',(mb,127,muV L.hb t sb m)∈E'->HM W w' L X h x s k E' D Q->Calls Tryz.prog 126 #[.pointer (some ⟨mb,0,none⟩),.int .i64 (1+m.a+m.b)] w' λe w''=>e=.returned (.tuple #[.int .i64 ad,.int .i64 0])/\HM W w'' L X h2 x2 s k E' D Q) :
  Calls Tryz.prog 82 #[.pointer (some ⟨mb,0,none⟩)] w λe w'=>e=.returned (bm 0 0 An.zero false true false (.slice none 0 0))/\HM W w' L X h2 x2 s k ((mb,127,muV L.hb t sb { m with st:=5,ad:=ad })::E) D Q:=by
 have hmb:=H.blk (C0 ..);have hlt:=hmb.lt;have hltE:∀q,q∈E->q.1<w.heap.size:=λq hq=>(H.blk (b:=q.1) (t:=q.2.1) (cs:=q.2.2) (CZ _ hq)).lt;have HX:=aa (H.alloc hS 73 #[.int .i64 0,.int .i64 0,.int .i64 0,.int .u64 0,.bool false,.bool false,.bool false,.bool false,.slice none 0 0]);have HSz:Hid (Calls Tryz.prog 124 #[.pointer (some ⟨mb,0,none⟩),opV m.op] (w.alloc (.cells #[.int .i64 0,.int .i64 0,.int .i64 0,.int .u64 0,.bool false,.bool false,.bool false,.bool false,.slice none 0 0] 73)) λe w'=>e=.returned (.tuple #[.int .i64 (1+m.a+m.b),.int .i64 0])/\HM W w' L X h x s k ((w.heap.size,73,#[.int .i64 0,.int .i64 0,.int .i64 0,.int .u64 0,.bool false,.bool false,.bool false,.bool false,.slice none 0 0])::(mb,127,muV L.hb t sb m)::E) D Q):=by
  have:=gT (HX.out.blk (CZ _ (C0 ..))) HX.out.hc hM hM2 m.op ho;unfold szN szE at this;rw[if_neg (show ¬ aE M m.op.a m.op.b from hsz),if_neg (show ¬ aE M m.op.a m.op.b from hsz)]at this;exact this.mono (by rintro e w' ⟨rfl,hf⟩;exact⟨rfl,HX.out.fr0 hS hf⟩)
 have HSk:Hid (∀w' E',(mb,127,muV L.hb t sb m)∈E'->HM W w' L X h x s k E' D Q->Calls Tryz.prog 89 #[.pointer (some ⟨mb,0,none⟩)] w' λe w''=>e=.returned (.pointer (some ⟨L.S t,0,none⟩))/\HM W w'' L X h x s k E' D Q):=λw' E' hm q=>(cn (q.blk hm) q.hr ht).mono (by rintro e w'' ⟨rfl,hf⟩;exact⟨rfl,q.fr0 hS hf⟩);have HRm:Hid (∀w' E',HM W w' L X h x s k E' D Q->Calls Tryz.prog 125 #[.pointer (some ⟨L.S t,0,none⟩)] w' λe w''=>e=.returned (.int .i64 ((L.B:Int)-((h.st t).length:Int)))/\HM W w'' L X h x s k E' D Q):=λw' E' q=>by
  obtain⟨F,hk⟩:=q.hr.stk t ht;refine(iy hk (by omega) hB).mono ?_;rintro e w'' ⟨rfl,n,rfl⟩;exact⟨rfl,q.fr0 hS ((Fr.refl _ _).drewN _)⟩
 have hroom:((L.B:Int)-((h.st t).length:Int)==0)=false:=by simp;omega
 have HW:=aa hw;have HGo:Hid (∀w' rb c,rb≠mb->HM W w' L X h2 x2 s k ((rb,73,c)::(mb,127,muV L.hb t sb m)::E) D Q->Calls Tryz.prog 127 #[.pointer (some ⟨mb,0,none⟩),.int .i64 5,.int .i64 ad] w' λe w''=>e=.returned (bm 0 0 An.zero false true false (.slice none 0 0))/\HM W w'' L X h2 x2 s k ((rb,73,c)::(mb,127,muV L.hb t sb { m with st:=5,ad:=ad })::E) D Q):=λw' rb c hr q=>by
  have q2:HM W w' L X h2 x2 s k ((mb,127,muV L.hb t sb m)::(rb,73,c)::E) D Q:=q.sub (λy hy=>by
   rcases C1.1 hy with rfl|hy
   ·exact CZ _ (C0 ..)
   ·rcases C1.1 hy with rfl|hy
    ·exact C0 ..
    ·exact CZ _ (CZ _ hy))
  refine(q2.mut (P:=λe=>e=.returned (bm 0 0 An.zero false true false (.slice none 0 0))) hS hT (m':={ m with st:=5,ad:=ad }) (λy hy=>?_) (λhb=>nH hb 5 ad)).mono ?_
  ·rcases C1.1 hy with rfl|hy
   ·exact hr
   ·exact hne y hy
  ·rintro e w'' ⟨he,q3⟩;refine⟨he,q3.sub (λy hy=>?_)⟩;rcases C1.1 hy with rfl|hy
   ·exact CZ _ (C0 ..)
   ·rcases C1.1 hy with rfl|hy
    ·exact C0 ..
    ·exact CZ _ (CZ _ hy)
 have HEnd:Hid (∀w' rb a0 a1 a2 a3 a4 a5 a6 a7 a8 v0 v1 v2 v3 v4 v5 v6 v7 v8,rb≠mb->(∀q,q∈E->q.1≠rb)->HM W w' L X h2 x2 s k ((rb,73,#[a0,a1,a2,a3,a4,a5,a6,a7,a8])::(mb,127,muV L.hb t sb { m with st:=5,ad:=ad })::E) D Q->HM W (cD w' rb v0 v1 v2 v3 v4 v5 v6 v7 v8) L X h2 x2 s k ((mb,127,muV L.hb t sb { m with st:=5,ad:=ad })::E) D Q):=λw' rb a0 a1 a2 a3 a4 a5 a6 a7 a8 v0 v1 v2 v3 v4 v5 v6 v7 v8 hr hq q=>
  q.cS hS hT (λy hy=>by
   rcases C1.1 hy with rfl|hy
   ·exact λe=>hr e.symm
   ·exact hq y hy) v0 v1 v2 v3 v4 v5 v6 v7 v8
 obtain⟨c0,c1,c2,c3,c4,c5,c6,c7,c8,c9,c10⟩:=aJ hmb;have HRB:Hid (w.heap.size≠mb/\∀q,q∈E->q.1≠w.heap.size):=⟨by omega,λq hq=>by have:=hltE q hq;omega⟩;unfold opV at HSz;unfold MU.op at HSz;simp only at HSz;unfold bm at HGo ⊢;unfold An.zero at HGo ⊢;clear H hmb hltE HX hw hB hl hM hM2 hsz ho hne;generalize (L.B:Int)-((h.st t).length:Int)=rm at *;go_enter Tryz.func82,Tryz.ntmps82
 go_wp2_with fail
 refine HSz.out.mono ?_;rintro e w1 ⟨rfl,hA⟩;have HA1:=aa hA;have HK1:=aa (HSk.out _ _ (CZ _ (C0 ..)) hA);clear hA c0 c1 c2 c3 c4 c5 c6 c7 c8 c9 c10 HSz;go_wp2_with fail
 refine HK1.out.mono ?_;rintro e w2 ⟨rfl,hA⟩;have HK2:=aa (HRm.out _ _ hA);clear hA HK1;go_wp2_with fail
 refine HK2.out.mono ?_;rintro e w3 ⟨rfl,hA⟩;have HK3:=aa (HW.out _ _ (CZ _ (C0 ..)) hA);clear hA HK2;go_wp2_with fail
 refine HK3.out.mono ?_;rintro e w4 ⟨rfl,hA⟩;have HK4:=aa (HGo.out _ _ _ HRB.out.1 hA);clear hA HK3;go_wp2_with fail
 refine HK4.out.mono ?_;rintro e w5 ⟨rfl,hA⟩;have HA5:=aa hA;have hrb:=hA.blk (C0 ..);have y0:=hrb.cell 0;have y1:=hrb.cell 1;have y2:=hrb.cell 2;have y3:=hrb.cell 3;have y4:=hrb.cell 4;have y5:=hrb.cell 5;have y6:=hrb.cell 6;have y7:=hrb.cell 7;have y8:=hrb.cell 8;have z0:=hrb.frozen 0;have z1:=hrb.frozen 1;have z2:=hrb.frozen 2;have z3:=hrb.frozen 3;have z4:=hrb.frozen 4;have z5:=hrb.frozen 5;have z6:=hrb.frozen 6;have z7:=hrb.frozen 7;have z8:=hrb.frozen 8;have NR:=hrb.lt;clear hA hrb HK4;go_wp2_with fail
 refine bodyPost_ret (v:=.agg #[.int .i64 0,.int .i64 0,.int .i64 0,.int .u64 0,.bool false,.bool false,.bool true,.bool false,.slice none 0 0]) (by simp[results,Tryz.results82,go_sem, *]) rfl ⟨rfl,?_⟩;exact HEnd.out _ _ _ _ _ _ _ _ _ _ _ _ _ _ _ _ _ _ _ _ HRB.out.1 HRB.out.2 HA5.out
end
section
variable {W w w':World}{L:HL}{X:HX}{h h2:HS}{x x2:HT}{s k:Nat}{E:aK}{D:Nat->Prop}{Q:World->Prop}{mb t sb:Nat}{m:MU}
theorem HM.t7(hS:ah D Q)(H:HM W w L X h x s k E D Q){I:Nat}(hI:I<h.n) :
  Calls Tryz.prog 87 #[.pointer (some ⟨L.ab,0,none⟩),.int .i64 (I:Int)] w λe w'=>e=.returned (.tuple #[.int .u64 (h.f I:Int),.int .i64 0])/\HM W w' L X h x s k E D Q:=by
 obtain⟨c,hc⟩:=H.hr.ar;refine(kE hc rfl hI rfl).mono ?_;rintro e w' ⟨rfl,ha,hf⟩;exact⟨rfl,H.looked hS (H.hr.fr1 hf ⟨_,ha⟩) hf⟩
theorem HM.sE(hS:ah D Q)(H:HM W w L X h x s k E D Q){I v:Nat}{y:Int}(hI:I<h.n)(hy:y=(v:Int))(hv:v<18446744073709551616) :
  Calls Tryz.prog 88 #[.pointer (some ⟨L.ab,0,none⟩),.int .i64 (I:Int),.int .u64 y] w λe w'=>e=.returned (.int .i64 0)/\HM W w' L X { h with f:=upd h.f I v } x s k E D Q:=
 H.post hS λown q=>q.store rfl hI hy hv
theorem HM.answer(hS:ah D Q)(hT:Tab W)(H:HM W w L X h x s k ((mb,127,muV L.hb t sb m)::E) D Q)(hne:∀q,q∈E->q.1≠mb)(hd:(m.dn:Int)+1<=9223372036854775807)(a0 a1:Int)(y:An) :
  Calls Tryz.prog 52 #[.pointer (some ⟨mb,0,none⟩),gt a0 a1 y] w λe w'=>e=.returned (bm (t:Int) (m.dn:Int) y true false false (.slice none 0 0))/\HM W w' L X h x s k ((mb,127,muV L.hb t sb (MU.zero (m.dn+1)))::E) D Q:=
 H.mut (P:=λe=>e=.returned (bm (t:Int) (m.dn:Int) y true false false (.slice none 0 0))) hS hT (m':=MU.zero (m.dn+1)) hne (λhb=>ey hb hd a0 a1 y)
theorem HM.BC(hS:ah D Q)(hT:Tab W)(H:HM W w L X h x s k ((mb,127,muV L.hb t sb m)::E) D Q)(hne:∀q,q∈E->q.1≠mb)(s0 a0:Int) :
  Calls Tryz.prog 127 #[.pointer (some ⟨mb,0,none⟩),.int .i64 s0,.int .i64 a0] w λe w'=>e=.returned (bm 0 0 An.zero false true false (.slice none 0 0))/\HM W w' L X h x s k ((mb,127,muV L.hb t sb { m with st:=s0,ad:=a0 })::E) D Q:=
 H.mut (P:=λe=>e=.returned (bm 0 0 An.zero false true false (.slice none 0 0))) hS hT (m':={ m with st:=s0,ad:=a0 }) hne (λhb=>nH hb s0 a0)
theorem HM.swap{p q:Nat×TypeId×Array Value}(H:HM W w L X h x s k (p::q::E) D Q):HM W w L X h x s k (q::p::E) D Q:=
 H.sub (λy hy=>by simp only[C1]at hy ⊢;rcases hy with e|e|e <;> simp[e])
theorem sF(hS:ah D Q)(H:HM W w L X h x s k E D Q)(hm:(mb,127,muV L.hb t sb m)∈E)(ht:t<h.T)(hB:L.B<=64)(hl:(h.st t).length<=L.B){I:Nat}(hI:I<h.n) :
  Calls Tryz.prog 86 #[.pointer (some ⟨mb,0,none⟩),.int .i64 (I:Int)] w λe w'=>e=.returned (.int .i64 (ay L.B (h.st t)))/\HM W w' L X { h with st:=bk h.st t (aH L.B (h.st t) (h.f I:Int)) } x s k E D Q:=by
 have HL:=aa (H.t7 hS hI);have hfk:=H.ok.fok I;have HK:Hid (∀w',HM W w' L X h x s k E D Q->Calls Tryz.prog 89 #[.pointer (some ⟨mb,0,none⟩)] w' λe w''=>e=.returned (.pointer (some ⟨L.S t,0,none⟩))/\HM W w'' L X h x s k E D Q):=λw' q=>(cn (q.blk hm) q.hr ht).mono (by rintro e w'' ⟨rfl,hf⟩;exact⟨rfl,q.fr0 hS hf⟩);have HP:Hid (∀w',HM W w' L X h x s k E D Q->Calls Tryz.prog 95 #[.pointer (some ⟨L.S t,0,none⟩),.int .u64 (h.f I:Int)] w' λe w''=>e=.returned (.int .i64 (ay L.B (h.st t)))/\HM W w'' L X { h with st:=bk h.st t (aH L.B (h.st t) (h.f I:Int)) } x s k E D Q):=λw' y=>y.qv hS ht hB hl ⟨by omega,by omega⟩;have c0:w.cell? ⟨mb,0,none⟩=some (.pointer (some ⟨L.hb,0,none⟩)):=(H.blk hm).cell 0;have c20:=H.hc.c20;have N0:=af c0;have N1:=af c20;clear H hm hB hl hI hfk;generalize (h.f I:Int)=fv at *;generalize ay L.B (h.st t)=er at *;go_enter Tryz.func86,Tryz.ntmps86
 go_wp2_with fail
 refine HL.out.mono ?_;rintro e w1 ⟨rfl,hA⟩;have HA1:=aa (HK.out _ hA);clear hA c0 c20 HL N0 N1;go_wp2_with fail
 refine HA1.out.mono ?_;rintro e w2 ⟨rfl,hA⟩;have HA2:=aa (HP.out _ hA);clear hA HA1;go_wp2_with fail
 refine HA2.out.mono ?_;rintro e w3 ⟨rfl,hA⟩;have HA3:=aa hA;clear hA HA2;go_wp2_with fail
 go_ret
 exact⟨rfl,HA3.out⟩
theorem sH(hS:ah D Q)(hT:Tab W)(H:HM W w L X h x s k ((mb,127,muV L.hb t sb m)::E) D Q)(hne:∀q,q∈E->q.1≠mb)(hd:(m.dn:Int)+1<=9223372036854775807){fV fE:Int}(he:fE≠0)
  (hf:∀w' E',(mb,127,muV L.hb t sb m)∈E'->HM W w' L X h x s k E' D Q->Calls Tryz.prog 128 #[.pointer (some ⟨mb,0,none⟩),opV m.op] w' λe w''=>e=.returned (.tuple #[.int .i64 fV,.int .i64 fE])/\HM W w'' L X h x s k E' D Q) :
  Calls Tryz.prog 83 #[.pointer (some ⟨mb,0,none⟩)] w λe w'=>e=.returned (bm (t:Int) (m.dn:Int) ⟨fE,0,false⟩ true false false (.slice none 0 0))/\HM W w' L X h x s k ((mb,127,muV L.hb t sb (MU.zero (m.dn+1)))::E) D Q:=by
 have hmb:=H.blk (C0 ..);have hlt:=hmb.lt;have hltE:∀q,q∈E->q.1<w.heap.size:=λq hq=>(H.blk (b:=q.1) (t:=q.2.1) (cs:=q.2.2) (CZ _ hq)).lt;have hrm:w.heap.size≠mb:=by omega
 have hrE:∀q,q∈E->q.1≠w.heap.size:=λq hq=>by have:=hltE q hq;omega
 have hneR:∀cs:Array Value,∀q,q∈((w.heap.size,73,cs)::E:aK)->q.1≠mb:=λcs q hq=>by
  rcases C1.1 hq with rfl|hq
  ·exact hrm
  ·exact hne q hq
 have HX:Hid (HM W (w.alloc (.cells #[.int .i64 0,.int .i64 0,.int .i64 0,.int .u64 0,.bool false,.bool false,.bool false,.bool false,.slice none 0 0] 73)) L X h x s k ((w.heap.size,73,#[.int .i64 0,.int .i64 0,.int .i64 0,.int .u64 0,.bool false,.bool false,.bool false,.bool false,.slice none 0 0])::(mb,127,muV L.hb t sb m)::E) D Q):=H.alloc hS 73 #[.int .i64 0,.int .i64 0,.int .i64 0,.int .u64 0,.bool false,.bool false,.bool false,.bool false,.slice none 0 0];have HEnd:Hid (∀w' a0 a1 a2 a3 a4 a5 a6 a7 a8 v0 v1 v2 v3 v4 v5 v6 v7 v8,HM W w' L X h x s k ((mb,127,muV L.hb t sb (MU.zero (m.dn+1)))::(w.heap.size,73,#[a0,a1,a2,a3,a4,a5,a6,a7,a8])::E) D Q->HM W (cD w' w.heap.size v0 v1 v2 v3 v4 v5 v6 v7 v8) L X h x s k ((mb,127,muV L.hb t sb (MU.zero (m.dn+1)))::E) D Q):=λw' a0 a1 a2 a3 a4 a5 a6 a7 a8 v0 v1 v2 v3 v4 v5 v6 v7 v8 q=>
  q.swap.cS hS hT (λy hy=>by
   rcases C1.1 hy with rfl|hy
   ·exact λe=>hrm e.symm
   ·exact hrE y hy) v0 v1 v2 v3 v4 v5 v6 v7 v8
 have HF:=aa (hf _ _ (CZ _ (C0 ..)) HX.out);have HGo:Hid (∀w',HM W w' L X h x s k ((w.heap.size,73,#[.int .i64 0,.int .i64 0,.int .i64 0,.int .u64 0,.bool false,.bool false,.bool false,.bool false,.slice none 0 0])::(mb,127,muV L.hb t sb m)::E) D Q->Calls Tryz.prog 52 #[.pointer (some ⟨mb,0,none⟩),.agg #[.int .i64 0,.int .i64 0,.int .i64 fE,.int .u64 0,.bool false]] w' λe w''=>e=.returned (.agg #[.int .i64 (t:Int),.int .i64 (m.dn:Int),.int .i64 fE,.int .u64 0,.bool false,.bool true,.bool false,.bool false,.slice none 0 0])/\HM W w'' L X h x s k ((mb,127,muV L.hb t sb (MU.zero (m.dn+1)))::(w.heap.size,73,#[.int .i64 0,.int .i64 0,.int .i64 0,.int .u64 0,.bool false,.bool false,.bool false,.bool false,.slice none 0 0])::E) D Q):=λw' q=>HM.answer hS hT q.swap (hneR _) hd 0 0 ⟨fE,0,false⟩;obtain⟨c0,c1,c2,c3,c4,c5,c6,c7,c8,c9,c10⟩:=aJ hmb;unfold opV MU.op at HF;simp only at HF;unfold bm;clear H hmb hltE HX hf hne hneR hrm hrE hd;go_enter Tryz.func83,Tryz.ntmps83
 go_wp2_with fail
 refine HF.out.mono ?_;rintro e w1 ⟨rfl,hA⟩;have HA1:=aa (HGo.out _ hA);clear hA c0 c1 c2 c3 c4 c5 c6 c7 c8 c9 c10 HF HGo;go_wp2_with fail
 refine HA1.out.mono ?_;rintro e w5 ⟨rfl,hA⟩;clear HA1;have HA5:=aa hA;have hrb:=hA.blk (CZ _ (C0 ..));have y0:=hrb.cell 0;have y1:=hrb.cell 1;have y2:=hrb.cell 2;have y3:=hrb.cell 3;have y4:=hrb.cell 4;have y5:=hrb.cell 5;have y6:=hrb.cell 6;have y7:=hrb.cell 7;have y8:=hrb.cell 8;have z0:=hrb.frozen 0;have z1:=hrb.frozen 1;have z2:=hrb.frozen 2;have z3:=hrb.frozen 3;have z4:=hrb.frozen 4;have z5:=hrb.frozen 5;have z6:=hrb.frozen 6;have z7:=hrb.frozen 7;have z8:=hrb.frozen 8;have NR:=hrb.lt;clear hA hrb;go_wp2_with fail
 refine bodyPost_ret (v:=.agg #[.int .i64 (t:Int),.int .i64 (m.dn:Int),.int .i64 fE,.int .u64 0,.bool false,.bool true,.bool false,.bool false,.slice none 0 0]) (by simp[results,Tryz.results83,go_sem, *]) rfl ⟨rfl,?_⟩;exact HEnd.out _ _ _ _ _ _ _ _ _ _ _ _ _ _ _ _ _ _ _ HA5.out
theorem vh(hS:ah D Q)(hT:Tab W)(H:HM W w L X h x s k ((mb,127,muV L.hb t sb m)::E) D Q)(hne:∀q,q∈E->q.1≠mb){fV:Int}
  (hf:∀w' E',(mb,127,muV L.hb t sb m)∈E'->HM W w' L X h x s k E' D Q->Calls Tryz.prog 128 #[.pointer (some ⟨mb,0,none⟩),opV m.op] w' λe w''=>e=.returned (.tuple #[.int .i64 fV,.int .i64 0])/\HM W w'' L X h x s k E' D Q) :
  Calls Tryz.prog 83 #[.pointer (some ⟨mb,0,none⟩)] w λe w'=>e=.returned (bm 0 0 An.zero false true false (.slice none 0 0))/\HM W w' L X h x s k ((mb,127,muV L.hb t sb { m with st:=3,ad:=fV })::E) D Q:=by
 have hmb:=H.blk (C0 ..);have hlt:=hmb.lt;have hltE:∀q,q∈E->q.1<w.heap.size:=λq hq=>(H.blk (b:=q.1) (t:=q.2.1) (cs:=q.2.2) (CZ _ hq)).lt;have hrm:w.heap.size≠mb:=by omega
 have hrE:∀q,q∈E->q.1≠w.heap.size:=λq hq=>by have:=hltE q hq;omega
 have hneR:∀cs:Array Value,∀q,q∈((w.heap.size,73,cs)::E:aK)->q.1≠mb:=λcs q hq=>by
  rcases C1.1 hq with rfl|hq
  ·exact hrm
  ·exact hne q hq
 have HX:Hid (HM W (w.alloc (.cells #[.int .i64 0,.int .i64 0,.int .i64 0,.int .u64 0,.bool false,.bool false,.bool false,.bool false,.slice none 0 0] 73)) L X h x s k ((w.heap.size,73,#[.int .i64 0,.int .i64 0,.int .i64 0,.int .u64 0,.bool false,.bool false,.bool false,.bool false,.slice none 0 0])::(mb,127,muV L.hb t sb m)::E) D Q):=H.alloc hS 73 #[.int .i64 0,.int .i64 0,.int .i64 0,.int .u64 0,.bool false,.bool false,.bool false,.bool false,.slice none 0 0];have HEnd:Hid (∀w' a0 a1 a2 a3 a4 a5 a6 a7 a8 v0 v1 v2 v3 v4 v5 v6 v7 v8,HM W w' L X h x s k ((mb,127,muV L.hb t sb { m with st:=3,ad:=fV })::(w.heap.size,73,#[a0,a1,a2,a3,a4,a5,a6,a7,a8])::E) D Q->HM W (cD w' w.heap.size v0 v1 v2 v3 v4 v5 v6 v7 v8) L X h x s k ((mb,127,muV L.hb t sb { m with st:=3,ad:=fV })::E) D Q):=λw' a0 a1 a2 a3 a4 a5 a6 a7 a8 v0 v1 v2 v3 v4 v5 v6 v7 v8 q=>
  q.swap.cS hS hT (λy hy=>by
   rcases C1.1 hy with rfl|hy
   ·exact λe=>hrm e.symm
   ·exact hrE y hy) v0 v1 v2 v3 v4 v5 v6 v7 v8
 have HF:=aa (hf _ _ (CZ _ (C0 ..)) HX.out);have HGo:Hid (∀w',HM W w' L X h x s k ((w.heap.size,73,#[.int .i64 0,.int .i64 0,.int .i64 0,.int .u64 0,.bool false,.bool false,.bool false,.bool false,.slice none 0 0])::(mb,127,muV L.hb t sb m)::E) D Q->Calls Tryz.prog 127 #[.pointer (some ⟨mb,0,none⟩),.int .i64 3,.int .i64 fV] w' λe w''=>e=.returned (.agg #[.int .i64 0,.int .i64 0,.int .i64 0,.int .u64 0,.bool false,.bool false,.bool true,.bool false,.slice none 0 0])/\HM W w'' L X h x s k ((mb,127,muV L.hb t sb { m with st:=3,ad:=fV })::(w.heap.size,73,#[.int .i64 0,.int .i64 0,.int .i64 0,.int .u64 0,.bool false,.bool false,.bool false,.bool false,.slice none 0 0])::E) D Q):=λw' q=>HM.BC hS hT q.swap (hneR _) 3 fV;obtain⟨c0,c1,c2,c3,c4,c5,c6,c7,c8,c9,c10⟩:=aJ hmb;unfold opV MU.op at HF;simp only at HF;unfold bm;unfold An.zero;clear H hmb hltE HX hf hne hneR hrm hrE;go_enter Tryz.func83,Tryz.ntmps83
 go_wp2_with fail
 refine HF.out.mono ?_;rintro e w1 ⟨rfl,hA⟩;have HA1:=aa (HGo.out _ hA);clear hA c0 c1 c2 c3 c4 c5 c6 c7 c8 c9 c10 HF HGo;go_wp2_with fail
 refine HA1.out.mono ?_;rintro e w5 ⟨rfl,hA⟩;clear HA1;have HA5:=aa hA;have hrb:=hA.blk (CZ _ (C0 ..));have y0:=hrb.cell 0;have y1:=hrb.cell 1;have y2:=hrb.cell 2;have y3:=hrb.cell 3;have y4:=hrb.cell 4;have y5:=hrb.cell 5;have y6:=hrb.cell 6;have y7:=hrb.cell 7;have y8:=hrb.cell 8;have z0:=hrb.frozen 0;have z1:=hrb.frozen 1;have z2:=hrb.frozen 2;have z3:=hrb.frozen 3;have z4:=hrb.frozen 4;have z5:=hrb.frozen 5;have z6:=hrb.frozen 6;have z7:=hrb.frozen 7;have z8:=hrb.frozen 8;have NR:=hrb.lt;clear hA hrb;go_wp2_with fail
 refine bodyPost_ret (v:=.agg #[.int .i64 0,.int .i64 0,.int .i64 0,.int .u64 0,.bool false,.bool false,.bool true,.bool false,.slice none 0 0]) (by simp[results,Tryz.results83,go_sem, *]) rfl ⟨rfl,?_⟩;exact HEnd.out _ _ _ _ _ _ _ _ _ _ _ _ _ _ _ _ _ _ _ HA5.out
end
section
variable {W w w':World}{L:HL}{X:HX}{h h2:HS}{x x2:HT}{s k:Nat}{E:aK}{D:Nat->Prop}{Q:World->Prop}{mb t sb:Nat}{m:MU}
theorem HM.lO(hS:ah D Q)(hT:Tab W){b:Nat}{ty:TypeId}{cs:Array Value}(H:HM W w L X h x s k ((b,ty,cs)::E) D Q)(hne:∀q,q∈E->q.1≠b)(i:Nat)(v:Value) :
  HM W (w.setCell ⟨b,i,none⟩ v) L X h x s k ((b,ty,cs.setIfInBounds i v)::E) D Q:=
 H.l7 hS hT ((Fr.refl [b] w).setCell (p:=⟨b,i,none⟩) (.inl (by simp)) v) ((H.blk (C0 ..)).put i v) hne
theorem sI(hS:ah D Q)(hT:Tab W)(H:HM W w L X h x s k ((mb,127,muV L.hb t sb m)::E) D Q)(hne:∀q,q∈E->q.1≠mb)(hk:m.k=2)(ht:t<h.T)(hd:(m.dn:Int)+1<=9223372036854775807){I:Nat}(had:m.ad=(I:Int))(hI:I<h.n)(hB:L.B<=64)(hl:(h.st t).length<=L.B) :
  Calls Tryz.prog 46 #[.pointer (some ⟨mb,0,none⟩)] w λe w'=>e=.returned (bm (t:Int) (m.dn:Int) ⟨ay L.B (h.st t),0,false⟩ true false false (.slice none 0 0))/\HM W w' L X { h with st:=bk h.st t (aH L.B (h.st t) (h.f I:Int)) } x s k ((mb,127,muV L.hb t sb (MU.zero (m.dn+1)))::E) D Q:=by
 have hmb:=H.blk (C0 ..);have hlt:=hmb.lt;have hltE:∀q,q∈E->q.1<w.heap.size:=λq hq=>(H.blk (b:=q.1) (t:=q.2.1) (cs:=q.2.2) (CZ _ hq)).lt;have hrm:w.heap.size≠mb:=by omega
 have hrE:∀q,q∈E->q.1≠w.heap.size:=λq hq=>by have:=hltE q hq;omega
 have hneR:∀cs:Array Value,∀q,q∈((w.heap.size,73,cs)::E:aK)->q.1≠mb:=λcs q hq=>by
  rcases C1.1 hq with rfl|hq
  ·exact hrm
  ·exact hne q hq
 have HX0:Hid (HM W (w.alloc (.cells #[.int .i64 0,.int .i64 0,.int .i64 0,.int .u64 0,.bool false,.bool false,.bool false,.bool false,.slice none 0 0] 73)) L X h x s k ((w.heap.size,73,#[.int .i64 0,.int .i64 0,.int .i64 0,.int .u64 0,.bool false,.bool false,.bool false,.bool false,.slice none 0 0])::(mb,127,muV L.hb t sb m)::E) D Q):=H.alloc hS 73 #[.int .i64 0,.int .i64 0,.int .i64 0,.int .u64 0,.bool false,.bool false,.bool false,.bool false,.slice none 0 0];have HEnd:Hid (∀w' a0 a1 a2 a3 a4 a5 a6 a7 a8 v0 v1 v2 v3 v4 v5 v6 v7 v8,HM W w' L X { h with st:=bk h.st t (aH L.B (h.st t) (h.f I:Int)) } x s k ((mb,127,muV L.hb t sb (MU.zero (m.dn+1)))::(w.heap.size,73,#[a0,a1,a2,a3,a4,a5,a6,a7,a8])::E) D Q->HM W (cD w' w.heap.size v0 v1 v2 v3 v4 v5 v6 v7 v8) L X { h with st:=bk h.st t (aH L.B (h.st t) (h.f I:Int)) } x s k ((mb,127,muV L.hb t sb (MU.zero (m.dn+1)))::E) D Q):=λw' a0 a1 a2 a3 a4 a5 a6 a7 a8 v0 v1 v2 v3 v4 v5 v6 v7 v8 q=>
  q.swap.cS hS hT (λy hy=>by
   rcases C1.1 hy with rfl|hy
   ·exact λe=>hrm e.symm
   ·exact hrE y hy) v0 v1 v2 v3 v4 v5 v6 v7 v8
 have HX:Hid (HM W (((w.alloc (.cells #[.int .i64 0,.int .i64 0,.int .i64 0,.int .u64 0,.bool false,.bool false,.bool false,.bool false,.slice none 0 0] 73)).alloc (.cells #[.int .i64 0,.int .i64 0,.int .i64 0,.int .u64 0,.bool false] 71)).alloc (.cells #[.int .i64 2,.int .i64 m.a,.int .i64 m.b,.int .i64 m.c,.int .u64 m.v] 69)).drew L X h x s k ((w.heap.size+1+1,69,#[.int .i64 2,.int .i64 m.a,.int .i64 m.b,.int .i64 m.c,.int .u64 m.v])::(w.heap.size+1,71,#[.int .i64 0,.int .i64 0,.int .i64 0,.int .u64 0,.bool false])::(w.heap.size,73,#[.int .i64 0,.int .i64 0,.int .i64 0,.int .u64 0,.bool false,.bool false,.bool false,.bool false,.slice none 0 0])::(mb,127,muV L.hb t sb m)::E) D Q/\∀n:Nat,HM W ((((w.alloc (.cells #[.int .i64 0,.int .i64 0,.int .i64 0,.int .u64 0,.bool false,.bool false,.bool false,.bool false,.slice none 0 0] 73)).alloc (.cells #[.int .i64 0,.int .i64 0,.int .i64 0,.int .u64 0,.bool false] 71)).alloc (.cells #[.int .i64 2,.int .i64 m.a,.int .i64 m.b,.int .i64 m.c,.int .u64 m.v] 69)).drew.drewN n) L X h x s k ((w.heap.size+1+1,69,#[.int .i64 2,.int .i64 m.a,.int .i64 m.b,.int .i64 m.c,.int .u64 m.v])::(w.heap.size+1,71,#[.int .i64 0,.int .i64 0,.int .i64 0,.int .u64 0,.bool false])::(w.heap.size,73,#[.int .i64 0,.int .i64 0,.int .i64 0,.int .u64 0,.bool false,.bool false,.bool false,.bool false,.slice none 0 0])::(mb,127,muV L.hb t sb m)::E) D Q):=by
  have q:=((HX0.out.alloc hS 71 #[.int .i64 0,.int .i64 0,.int .i64 0,.int .u64 0,.bool false]).alloc hS 69 #[.int .i64 2,.int .i64 m.a,.int .i64 m.b,.int .i64 m.c,.int .u64 m.v]).fr0 hS (Fr.refl _ _).drew;rw[show((w.alloc (.cells #[.int .i64 0,.int .i64 0,.int .i64 0,.int .u64 0,.bool false,.bool false,.bool false,.bool false,.slice none 0 0] 73)).alloc (.cells #[.int .i64 0,.int .i64 0,.int .i64 0,.int .u64 0,.bool false] 71)).heap.size=w.heap.size+1+1 by simp,show(w.alloc (.cells #[.int .i64 0,.int .i64 0,.int .i64 0,.int .u64 0,.bool false,.bool false,.bool false,.bool false,.slice none 0 0] 73)).heap.size=w.heap.size+1 by simp]at q;exact⟨q,λn=>q.fr0 hS ((Fr.refl _ _).drewN n)⟩
 have HPk:Hid (∀w' v3 v2,HM W w' L X { h with st:=bk h.st t (aH L.B (h.st t) (h.f I:Int)) } x s k ((w.heap.size+1+1,69,#[.int .i64 2,.int .i64 m.a,.int .i64 m.b,.int .i64 m.c,.int .u64 m.v])::(w.heap.size+1,71,#[.int .i64 0,.int .i64 0,.int .i64 0,.int .u64 0,.bool false])::(w.heap.size,73,#[.int .i64 0,.int .i64 0,.int .i64 0,.int .u64 0,.bool false,.bool false,.bool false,.bool false,.slice none 0 0])::(mb,127,muV L.hb t sb m)::E) D Q->HM W ((w'.setCell ⟨w.heap.size+1,3,none⟩ v3).setCell ⟨w.heap.size+1,2,none⟩ v2) L X { h with st:=bk h.st t (aH L.B (h.st t) (h.f I:Int)) } x s k ((mb,127,muV L.hb t sb m)::(w.heap.size,73,#[.int .i64 0,.int .i64 0,.int .i64 0,.int .u64 0,.bool false,.bool false,.bool false,.bool false,.slice none 0 0])::E) D Q/\HM W (w'.setCell ⟨w.heap.size+1,2,none⟩ v2) L X { h with st:=bk h.st t (aH L.B (h.st t) (h.f I:Int)) } x s k ((mb,127,muV L.hb t sb m)::(w.heap.size,73,#[.int .i64 0,.int .i64 0,.int .i64 0,.int .u64 0,.bool false,.bool false,.bool false,.bool false,.slice none 0 0])::E) D Q):=λw' v3 v2 q=>by
  have q1:HM W w' L X { h with st:=bk h.st t (aH L.B (h.st t) (h.f I:Int)) } x s k ((w.heap.size+1,71,#[.int .i64 0,.int .i64 0,.int .i64 0,.int .u64 0,.bool false])::(mb,127,muV L.hb t sb m)::(w.heap.size,73,#[.int .i64 0,.int .i64 0,.int .i64 0,.int .u64 0,.bool false,.bool false,.bool false,.bool false,.slice none 0 0])::E) D Q:=q.sub (λy hy=>by simp only[C1]at hy ⊢;rcases hy with e|e|e|e <;> simp[e]);have hn:∀q,q∈((mb,127,muV L.hb t sb m)::(w.heap.size,73,#[.int .i64 0,.int .i64 0,.int .i64 0,.int .u64 0,.bool false,.bool false,.bool false,.bool false,.slice none 0 0])::E:aK)->q.1≠w.heap.size+1:=λq hq=>by
   simp only[C1]at hq;rcases hq with e|e|e
   ·rw[e];show mb≠_;omega
   ·rw[e];show w.heap.size≠_;omega
   ·have:=hltE q e;omega
  exact⟨((q1.lO hS hT hn 3 v3).lO hS hT hn 2 v2).sub (λy hy=>CZ _ hy),(q1.lO hS hT hn 2 v2).sub (λy hy=>CZ _ hy)⟩
 have HAn:Hid (∀w',HM W w' L X { h with st:=bk h.st t (aH L.B (h.st t) (h.f I:Int)) } x s k ((mb,127,muV L.hb t sb m)::(w.heap.size,73,#[.int .i64 0,.int .i64 0,.int .i64 0,.int .u64 0,.bool false,.bool false,.bool false,.bool false,.slice none 0 0])::E) D Q->Calls Tryz.prog 52 #[.pointer (some ⟨mb,0,none⟩),.agg #[.int .i64 0,.int .i64 0,.int .i64 (ay L.B (h.st t)),.int .u64 0,.bool false]] w' λe w''=>e=.returned (.agg #[.int .i64 (t:Int),.int .i64 (m.dn:Int),.int .i64 (ay L.B (h.st t)),.int .u64 0,.bool false,.bool true,.bool false,.bool false,.slice none 0 0])/\HM W w'' L X { h with st:=bk h.st t (aH L.B (h.st t) (h.f I:Int)) } x s k ((mb,127,muV L.hb t sb (MU.zero (m.dn+1)))::(w.heap.size,73,#[.int .i64 0,.int .i64 0,.int .i64 0,.int .u64 0,.bool false,.bool false,.bool false,.bool false,.slice none 0 0])::E) D Q):=λw' q=>HM.answer hS hT q (hneR _) hd 0 0 ⟨ay L.B (h.st t),0,false⟩;have HZ:Hid (∀w',HM W w' L X { h with st:=bk h.st t (aH L.B (h.st t) (h.f I:Int)) } x s k ((w.heap.size+1+1,69,#[.int .i64 2,.int .i64 m.a,.int .i64 m.b,.int .i64 m.c,.int .u64 m.v])::(w.heap.size+1,71,#[.int .i64 0,.int .i64 0,.int .i64 0,.int .u64 0,.bool false])::(w.heap.size,73,#[.int .i64 0,.int .i64 0,.int .i64 0,.int .u64 0,.bool false,.bool false,.bool false,.bool false,.slice none 0 0])::(mb,127,muV L.hb t sb m)::E) D Q->Blk w' (w.heap.size+1) 71 #[.int .i64 0,.int .i64 0,.int .i64 0,.int .u64 0,.bool false]):=λw' q=>q.blk (CZ _ (C0 ..));have HC:Hid (∀w',HM W w' L X h x s k ((w.heap.size+1+1,69,#[.int .i64 2,.int .i64 m.a,.int .i64 m.b,.int .i64 m.c,.int .u64 m.v])::(w.heap.size+1,71,#[.int .i64 0,.int .i64 0,.int .i64 0,.int .u64 0,.bool false])::(w.heap.size,73,#[.int .i64 0,.int .i64 0,.int .i64 0,.int .u64 0,.bool false,.bool false,.bool false,.bool false,.slice none 0 0])::(mb,127,muV L.hb t sb m)::E) D Q->Calls Tryz.prog 86 #[.pointer (some ⟨mb,0,none⟩),.int .i64 (I:Int)] w' λe w''=>e=.returned (.int .i64 (ay L.B (h.st t)))/\HM W w'' L X { h with st:=bk h.st t (aH L.B (h.st t) (h.f I:Int)) } x s k ((w.heap.size+1+1,69,#[.int .i64 2,.int .i64 m.a,.int .i64 m.b,.int .i64 m.c,.int .u64 m.v])::(w.heap.size+1,71,#[.int .i64 0,.int .i64 0,.int .i64 0,.int .u64 0,.bool false])::(w.heap.size,73,#[.int .i64 0,.int .i64 0,.int .i64 0,.int .u64 0,.bool false,.bool false,.bool false,.bool false,.slice none 0 0])::(mb,127,muV L.hb t sb m)::E) D Q):=λw' q=>sF hS q (CZ _ (CZ _ (CZ _ (C0 ..)))) ht hB hl hI;obtain⟨c0,c1,c2,c3,c4,c5,c6,c7,c8,c9,c10⟩:=aJ hmb;have c20:=H.hc.c20;have N20:L.hb<w.heap.size:=af c20;have hl1:mb<w.heap.size+1:=by omega
 have hl2:mb<w.heap.size+1+1:=by omega
 have n0:mb≠w.heap.size:=by omega
 have j1:L.hb<w.heap.size+1:=by omega
 have j2:L.hb<w.heap.size+1+1:=by omega
 have i0:L.hb≠w.heap.size:=by omega
 have i1:L.hb≠w.heap.size+1:=by omega
 have i2:L.hb≠w.heap.size+1+1:=by omega
 have n1:mb≠w.heap.size+1:=by omega
 have n2:mb≠w.heap.size+1+1:=by omega
 rw[hk]at c4;rw[had]at c10;unfold bm;clear H hmb hltE HX0 hne hneR hrm hrE hk had hI ht hd hB hl;generalize ay L.B (h.st t)=er at *;go_enter Tryz.func46,Tryz.ntmps46
 go_wp2_with fail
 go_region
 go_wp2_with fail
 refine(HC.out _ HX.out.1).mono ?_;rintro e w3 ⟨rfl,hA⟩;have hz:=HZ.out _ hA;have u0:=hz.cell 0;have u1:=hz.cell 1;have u2:=hz.cell 2;have u3:=hz.cell 3;have u4:=hz.cell 4;have uz0:=hz.frozen 0;have uz1:=hz.frozen 1;have uz2:=hz.frozen 2;have uz3:=hz.frozen 3;have uz4:=hz.frozen 4;have NZ:=hz.lt;have HA4:=aa (HAn.out _ (HPk.out _ (.int .u64 0) (.int .i64 er) hA).2);clear hA hz c0 c1 c2 c3 c4 c5 c6 c7 c8 c9 c10 c20;go_wp2_with fail
 refine HA4.out.mono ?_;rintro e w5 ⟨rfl,hA⟩;clear u0 u1 u2 u3 u4 uz0 uz1 uz2 uz3 uz4;have HA5:=aa hA;have hrb:=hA.blk (CZ _ (C0 ..));have y0:=hrb.cell 0;have y1:=hrb.cell 1;have y2:=hrb.cell 2;have y3:=hrb.cell 3;have y4:=hrb.cell 4;have y5:=hrb.cell 5;have y6:=hrb.cell 6;have y7:=hrb.cell 7;have y8:=hrb.cell 8;have z0:=hrb.frozen 0;have z1:=hrb.frozen 1;have z2:=hrb.frozen 2;have z3:=hrb.frozen 3;have z4:=hrb.frozen 4;have z5:=hrb.frozen 5;have z6:=hrb.frozen 6;have z7:=hrb.frozen 7;have z8:=hrb.frozen 8;have NR:=hrb.lt;clear hA hrb;go_wp2_with fail
 refine bodyPost_ret (v:=.agg #[.int .i64 (t:Int),.int .i64 (m.dn:Int),.int .i64 er,.int .u64 0,.bool false,.bool true,.bool false,.bool false,.slice none 0 0]) (by simp[results,Tryz.results46,go_sem, *]) rfl ⟨rfl,?_⟩;exact HEnd.out _ _ _ _ _ _ _ _ _ _ _ _ _ _ _ _ _ _ _ HA5.out
theorem sJ(hS:ah D Q)(hT:Tab W)(H:HM W w L X h x s k ((mb,127,muV L.hb t sb m)::E) D Q)(hne:∀q,q∈E->q.1≠mb)(hk:m.k=4)(ht:t<h.T)(hd:(m.dn:Int)+1<=9223372036854775807){I:Nat}(had:m.ad=(I:Int))(hI:I<h.n)  :
  Calls Tryz.prog 46 #[.pointer (some ⟨mb,0,none⟩)] w λe w'=>e=.returned (bm (t:Int) (m.dn:Int) ⟨0,(h.f I:Int),false⟩ true false false (.slice none 0 0))/\HM W w' L X h x s k ((mb,127,muV L.hb t sb (MU.zero (m.dn+1)))::E) D Q:=by
 have hmb:=H.blk (C0 ..);have hlt:=hmb.lt;have hltE:∀q,q∈E->q.1<w.heap.size:=λq hq=>(H.blk (b:=q.1) (t:=q.2.1) (cs:=q.2.2) (CZ _ hq)).lt;have hrm:w.heap.size≠mb:=by omega
 have hrE:∀q,q∈E->q.1≠w.heap.size:=λq hq=>by have:=hltE q hq;omega
 have hneR:∀cs:Array Value,∀q,q∈((w.heap.size,73,cs)::E:aK)->q.1≠mb:=λcs q hq=>by
  rcases C1.1 hq with rfl|hq
  ·exact hrm
  ·exact hne q hq
 have HX0:Hid (HM W (w.alloc (.cells #[.int .i64 0,.int .i64 0,.int .i64 0,.int .u64 0,.bool false,.bool false,.bool false,.bool false,.slice none 0 0] 73)) L X h x s k ((w.heap.size,73,#[.int .i64 0,.int .i64 0,.int .i64 0,.int .u64 0,.bool false,.bool false,.bool false,.bool false,.slice none 0 0])::(mb,127,muV L.hb t sb m)::E) D Q):=H.alloc hS 73 #[.int .i64 0,.int .i64 0,.int .i64 0,.int .u64 0,.bool false,.bool false,.bool false,.bool false,.slice none 0 0];have HEnd:Hid (∀w' a0 a1 a2 a3 a4 a5 a6 a7 a8 v0 v1 v2 v3 v4 v5 v6 v7 v8,HM W w' L X h x s k ((mb,127,muV L.hb t sb (MU.zero (m.dn+1)))::(w.heap.size,73,#[a0,a1,a2,a3,a4,a5,a6,a7,a8])::E) D Q->HM W (cD w' w.heap.size v0 v1 v2 v3 v4 v5 v6 v7 v8) L X h x s k ((mb,127,muV L.hb t sb (MU.zero (m.dn+1)))::E) D Q):=λw' a0 a1 a2 a3 a4 a5 a6 a7 a8 v0 v1 v2 v3 v4 v5 v6 v7 v8 q=>
  q.swap.cS hS hT (λy hy=>by
   rcases C1.1 hy with rfl|hy
   ·exact λe=>hrm e.symm
   ·exact hrE y hy) v0 v1 v2 v3 v4 v5 v6 v7 v8
 have HX:Hid (HM W (((w.alloc (.cells #[.int .i64 0,.int .i64 0,.int .i64 0,.int .u64 0,.bool false,.bool false,.bool false,.bool false,.slice none 0 0] 73)).alloc (.cells #[.int .i64 0,.int .i64 0,.int .i64 0,.int .u64 0,.bool false] 71)).alloc (.cells #[.int .i64 4,.int .i64 m.a,.int .i64 m.b,.int .i64 m.c,.int .u64 m.v] 69)).drew L X h x s k ((w.heap.size+1+1,69,#[.int .i64 4,.int .i64 m.a,.int .i64 m.b,.int .i64 m.c,.int .u64 m.v])::(w.heap.size+1,71,#[.int .i64 0,.int .i64 0,.int .i64 0,.int .u64 0,.bool false])::(w.heap.size,73,#[.int .i64 0,.int .i64 0,.int .i64 0,.int .u64 0,.bool false,.bool false,.bool false,.bool false,.slice none 0 0])::(mb,127,muV L.hb t sb m)::E) D Q/\∀n:Nat,HM W ((((w.alloc (.cells #[.int .i64 0,.int .i64 0,.int .i64 0,.int .u64 0,.bool false,.bool false,.bool false,.bool false,.slice none 0 0] 73)).alloc (.cells #[.int .i64 0,.int .i64 0,.int .i64 0,.int .u64 0,.bool false] 71)).alloc (.cells #[.int .i64 4,.int .i64 m.a,.int .i64 m.b,.int .i64 m.c,.int .u64 m.v] 69)).drew.drewN n) L X h x s k ((w.heap.size+1+1,69,#[.int .i64 4,.int .i64 m.a,.int .i64 m.b,.int .i64 m.c,.int .u64 m.v])::(w.heap.size+1,71,#[.int .i64 0,.int .i64 0,.int .i64 0,.int .u64 0,.bool false])::(w.heap.size,73,#[.int .i64 0,.int .i64 0,.int .i64 0,.int .u64 0,.bool false,.bool false,.bool false,.bool false,.slice none 0 0])::(mb,127,muV L.hb t sb m)::E) D Q):=by
  have q:=((HX0.out.alloc hS 71 #[.int .i64 0,.int .i64 0,.int .i64 0,.int .u64 0,.bool false]).alloc hS 69 #[.int .i64 4,.int .i64 m.a,.int .i64 m.b,.int .i64 m.c,.int .u64 m.v]).fr0 hS (Fr.refl _ _).drew;rw[show((w.alloc (.cells #[.int .i64 0,.int .i64 0,.int .i64 0,.int .u64 0,.bool false,.bool false,.bool false,.bool false,.slice none 0 0] 73)).alloc (.cells #[.int .i64 0,.int .i64 0,.int .i64 0,.int .u64 0,.bool false] 71)).heap.size=w.heap.size+1+1 by simp,show(w.alloc (.cells #[.int .i64 0,.int .i64 0,.int .i64 0,.int .u64 0,.bool false,.bool false,.bool false,.bool false,.slice none 0 0] 73)).heap.size=w.heap.size+1 by simp]at q;exact⟨q,λn=>q.fr0 hS ((Fr.refl _ _).drewN n)⟩
 have HPk:Hid (∀w' v3 v2,HM W w' L X h x s k ((w.heap.size+1+1,69,#[.int .i64 4,.int .i64 m.a,.int .i64 m.b,.int .i64 m.c,.int .u64 m.v])::(w.heap.size+1,71,#[.int .i64 0,.int .i64 0,.int .i64 0,.int .u64 0,.bool false])::(w.heap.size,73,#[.int .i64 0,.int .i64 0,.int .i64 0,.int .u64 0,.bool false,.bool false,.bool false,.bool false,.slice none 0 0])::(mb,127,muV L.hb t sb m)::E) D Q->HM W ((w'.setCell ⟨w.heap.size+1,3,none⟩ v3).setCell ⟨w.heap.size+1,2,none⟩ v2) L X h x s k ((mb,127,muV L.hb t sb m)::(w.heap.size,73,#[.int .i64 0,.int .i64 0,.int .i64 0,.int .u64 0,.bool false,.bool false,.bool false,.bool false,.slice none 0 0])::E) D Q/\HM W (w'.setCell ⟨w.heap.size+1,2,none⟩ v2) L X h x s k ((mb,127,muV L.hb t sb m)::(w.heap.size,73,#[.int .i64 0,.int .i64 0,.int .i64 0,.int .u64 0,.bool false,.bool false,.bool false,.bool false,.slice none 0 0])::E) D Q):=λw' v3 v2 q=>by
  have q1:HM W w' L X h x s k ((w.heap.size+1,71,#[.int .i64 0,.int .i64 0,.int .i64 0,.int .u64 0,.bool false])::(mb,127,muV L.hb t sb m)::(w.heap.size,73,#[.int .i64 0,.int .i64 0,.int .i64 0,.int .u64 0,.bool false,.bool false,.bool false,.bool false,.slice none 0 0])::E) D Q:=q.sub (λy hy=>by simp only[C1]at hy ⊢;rcases hy with e|e|e|e <;> simp[e]);have hn:∀q,q∈((mb,127,muV L.hb t sb m)::(w.heap.size,73,#[.int .i64 0,.int .i64 0,.int .i64 0,.int .u64 0,.bool false,.bool false,.bool false,.bool false,.slice none 0 0])::E:aK)->q.1≠w.heap.size+1:=λq hq=>by
   simp only[C1]at hq;rcases hq with e|e|e
   ·rw[e];show mb≠_;omega
   ·rw[e];show w.heap.size≠_;omega
   ·have:=hltE q e;omega
  exact⟨((q1.lO hS hT hn 3 v3).lO hS hT hn 2 v2).sub (λy hy=>CZ _ hy),(q1.lO hS hT hn 2 v2).sub (λy hy=>CZ _ hy)⟩
 have HAn:Hid (∀w',HM W w' L X h x s k ((mb,127,muV L.hb t sb m)::(w.heap.size,73,#[.int .i64 0,.int .i64 0,.int .i64 0,.int .u64 0,.bool false,.bool false,.bool false,.bool false,.slice none 0 0])::E) D Q->Calls Tryz.prog 52 #[.pointer (some ⟨mb,0,none⟩),.agg #[.int .i64 0,.int .i64 0,.int .i64 (0),.int .u64 (h.f I:Int),.bool false]] w' λe w''=>e=.returned (.agg #[.int .i64 (t:Int),.int .i64 (m.dn:Int),.int .i64 0,.int .u64 (h.f I:Int),.bool false,.bool true,.bool false,.bool false,.slice none 0 0])/\HM W w'' L X h x s k ((mb,127,muV L.hb t sb (MU.zero (m.dn+1)))::(w.heap.size,73,#[.int .i64 0,.int .i64 0,.int .i64 0,.int .u64 0,.bool false,.bool false,.bool false,.bool false,.slice none 0 0])::E) D Q):=λw' q=>HM.answer hS hT q (hneR _) hd 0 0 ⟨0,(h.f I:Int),false⟩;have HZ:Hid (∀w',HM W w' L X h x s k ((w.heap.size+1+1,69,#[.int .i64 4,.int .i64 m.a,.int .i64 m.b,.int .i64 m.c,.int .u64 m.v])::(w.heap.size+1,71,#[.int .i64 0,.int .i64 0,.int .i64 0,.int .u64 0,.bool false])::(w.heap.size,73,#[.int .i64 0,.int .i64 0,.int .i64 0,.int .u64 0,.bool false,.bool false,.bool false,.bool false,.slice none 0 0])::(mb,127,muV L.hb t sb m)::E) D Q->Blk w' (w.heap.size+1) 71 #[.int .i64 0,.int .i64 0,.int .i64 0,.int .u64 0,.bool false]):=λw' q=>q.blk (CZ _ (C0 ..));have HC:Hid (∀w',HM W w' L X h x s k ((w.heap.size+1+1,69,#[.int .i64 4,.int .i64 m.a,.int .i64 m.b,.int .i64 m.c,.int .u64 m.v])::(w.heap.size+1,71,#[.int .i64 0,.int .i64 0,.int .i64 0,.int .u64 0,.bool false])::(w.heap.size,73,#[.int .i64 0,.int .i64 0,.int .i64 0,.int .u64 0,.bool false,.bool false,.bool false,.bool false,.slice none 0 0])::(mb,127,muV L.hb t sb m)::E) D Q->Calls Tryz.prog 87 #[.pointer (some ⟨L.ab,0,none⟩),.int .i64 (I:Int)] w' λe w''=>e=.returned (.tuple #[.int .u64 (h.f I:Int),.int .i64 0])/\HM W w'' L X h x s k ((w.heap.size+1+1,69,#[.int .i64 4,.int .i64 m.a,.int .i64 m.b,.int .i64 m.c,.int .u64 m.v])::(w.heap.size+1,71,#[.int .i64 0,.int .i64 0,.int .i64 0,.int .u64 0,.bool false])::(w.heap.size,73,#[.int .i64 0,.int .i64 0,.int .i64 0,.int .u64 0,.bool false,.bool false,.bool false,.bool false,.slice none 0 0])::(mb,127,muV L.hb t sb m)::E) D Q):=λw' q=>q.t7 hS hI;obtain⟨c0,c1,c2,c3,c4,c5,c6,c7,c8,c9,c10⟩:=aJ hmb;have c20:=H.hc.c20;have N20:L.hb<w.heap.size:=af c20;have hl1:mb<w.heap.size+1:=by omega
 have hl2:mb<w.heap.size+1+1:=by omega
 have n0:mb≠w.heap.size:=by omega
 have j1:L.hb<w.heap.size+1:=by omega
 have j2:L.hb<w.heap.size+1+1:=by omega
 have i0:L.hb≠w.heap.size:=by omega
 have i1:L.hb≠w.heap.size+1:=by omega
 have i2:L.hb≠w.heap.size+1+1:=by omega
 have n1:mb≠w.heap.size+1:=by omega
 have n2:mb≠w.heap.size+1+1:=by omega
 rw[hk]at c4;rw[had]at c10;unfold bm;clear H hmb hltE HX0 hne hneR hrm hrE hk had hI ht hd;generalize (h.f I:Int)=fv at *;go_enter Tryz.func46,Tryz.ntmps46
 go_wp2_with fail
 go_region
 go_wp2_with fail
 refine(HC.out _ HX.out.1).mono ?_;rintro e w3 ⟨rfl,hA⟩;have hz:=HZ.out _ hA;have u0:=hz.cell 0;have u1:=hz.cell 1;have u2:=hz.cell 2;have u3:=hz.cell 3;have u4:=hz.cell 4;have uz0:=hz.frozen 0;have uz1:=hz.frozen 1;have uz2:=hz.frozen 2;have uz3:=hz.frozen 3;have uz4:=hz.frozen 4;have NZ:=hz.lt;have HA4:=aa (HAn.out _ (HPk.out _ (.int .u64 fv) (.int .i64 0) hA).1);clear hA hz c0 c1 c2 c3 c4 c5 c6 c7 c8 c9 c10 c20;go_wp2_with fail
 refine HA4.out.mono ?_;rintro e w5 ⟨rfl,hA⟩;clear u0 u1 u2 u3 u4 uz0 uz1 uz2 uz3 uz4;have HA5:=aa hA;have hrb:=hA.blk (CZ _ (C0 ..));have y0:=hrb.cell 0;have y1:=hrb.cell 1;have y2:=hrb.cell 2;have y3:=hrb.cell 3;have y4:=hrb.cell 4;have y5:=hrb.cell 5;have y6:=hrb.cell 6;have y7:=hrb.cell 7;have y8:=hrb.cell 8;have z0:=hrb.frozen 0;have z1:=hrb.frozen 1;have z2:=hrb.frozen 2;have z3:=hrb.frozen 3;have z4:=hrb.frozen 4;have z5:=hrb.frozen 5;have z6:=hrb.frozen 6;have z7:=hrb.frozen 7;have z8:=hrb.frozen 8;have NR:=hrb.lt;clear hA hrb;go_wp2_with fail
 refine bodyPost_ret (v:=.agg #[.int .i64 (t:Int),.int .i64 (m.dn:Int),.int .i64 0,.int .u64 fv,.bool false,.bool true,.bool false,.bool false,.slice none 0 0]) (by simp[results,Tryz.results46,go_sem, *]) rfl ⟨rfl,?_⟩;exact HEnd.out _ _ _ _ _ _ _ _ _ _ _ _ _ _ _ _ _ _ _ HA5.out
theorem qC(hS:ah D Q)(hT:Tab W)(H:HM W w L X h x s k ((mb,127,muV L.hb t sb m)::E) D Q)(hne:∀q,q∈E->q.1≠mb)(hk:m.k=5)(ht:t<h.T)(hd:(m.dn:Int)+1<=9223372036854775807){I:Nat}(had:m.ad=(I:Int))(hI:I<h.n){v:Nat}(hv:m.v=(v:Int))(hv2:v<18446744073709551616) :
  Calls Tryz.prog 46 #[.pointer (some ⟨mb,0,none⟩)] w λe w'=>e=.returned (bm (t:Int) (m.dn:Int) ⟨0,0,false⟩ true false false (.slice none 0 0))/\HM W w' L X { h with f:=upd h.f I v } x s k ((mb,127,muV L.hb t sb (MU.zero (m.dn+1)))::E) D Q:=by
 have hmb:=H.blk (C0 ..);have hlt:=hmb.lt;have hltE:∀q,q∈E->q.1<w.heap.size:=λq hq=>(H.blk (b:=q.1) (t:=q.2.1) (cs:=q.2.2) (CZ _ hq)).lt;have hrm:w.heap.size≠mb:=by omega
 have hrE:∀q,q∈E->q.1≠w.heap.size:=λq hq=>by have:=hltE q hq;omega
 have hneR:∀cs:Array Value,∀q,q∈((w.heap.size,73,cs)::E:aK)->q.1≠mb:=λcs q hq=>by
  rcases C1.1 hq with rfl|hq
  ·exact hrm
  ·exact hne q hq
 have HX0:Hid (HM W (w.alloc (.cells #[.int .i64 0,.int .i64 0,.int .i64 0,.int .u64 0,.bool false,.bool false,.bool false,.bool false,.slice none 0 0] 73)) L X h x s k ((w.heap.size,73,#[.int .i64 0,.int .i64 0,.int .i64 0,.int .u64 0,.bool false,.bool false,.bool false,.bool false,.slice none 0 0])::(mb,127,muV L.hb t sb m)::E) D Q):=H.alloc hS 73 #[.int .i64 0,.int .i64 0,.int .i64 0,.int .u64 0,.bool false,.bool false,.bool false,.bool false,.slice none 0 0];have HEnd:Hid (∀w' a0 a1 a2 a3 a4 a5 a6 a7 a8 v0 v1 v2 v3 v4 v5 v6 v7 v8,HM W w' L X { h with f:=upd h.f I v } x s k ((mb,127,muV L.hb t sb (MU.zero (m.dn+1)))::(w.heap.size,73,#[a0,a1,a2,a3,a4,a5,a6,a7,a8])::E) D Q->HM W (cD w' w.heap.size v0 v1 v2 v3 v4 v5 v6 v7 v8) L X { h with f:=upd h.f I v } x s k ((mb,127,muV L.hb t sb (MU.zero (m.dn+1)))::E) D Q):=λw' a0 a1 a2 a3 a4 a5 a6 a7 a8 v0 v1 v2 v3 v4 v5 v6 v7 v8 q=>
  q.swap.cS hS hT (λy hy=>by
   rcases C1.1 hy with rfl|hy
   ·exact λe=>hrm e.symm
   ·exact hrE y hy) v0 v1 v2 v3 v4 v5 v6 v7 v8
 have HX:Hid (HM W (((w.alloc (.cells #[.int .i64 0,.int .i64 0,.int .i64 0,.int .u64 0,.bool false,.bool false,.bool false,.bool false,.slice none 0 0] 73)).alloc (.cells #[.int .i64 0,.int .i64 0,.int .i64 0,.int .u64 0,.bool false] 71)).alloc (.cells #[.int .i64 5,.int .i64 m.a,.int .i64 m.b,.int .i64 m.c,.int .u64 m.v] 69)).drew L X h x s k ((w.heap.size+1+1,69,#[.int .i64 5,.int .i64 m.a,.int .i64 m.b,.int .i64 m.c,.int .u64 m.v])::(w.heap.size+1,71,#[.int .i64 0,.int .i64 0,.int .i64 0,.int .u64 0,.bool false])::(w.heap.size,73,#[.int .i64 0,.int .i64 0,.int .i64 0,.int .u64 0,.bool false,.bool false,.bool false,.bool false,.slice none 0 0])::(mb,127,muV L.hb t sb m)::E) D Q/\∀n:Nat,HM W ((((w.alloc (.cells #[.int .i64 0,.int .i64 0,.int .i64 0,.int .u64 0,.bool false,.bool false,.bool false,.bool false,.slice none 0 0] 73)).alloc (.cells #[.int .i64 0,.int .i64 0,.int .i64 0,.int .u64 0,.bool false] 71)).alloc (.cells #[.int .i64 5,.int .i64 m.a,.int .i64 m.b,.int .i64 m.c,.int .u64 m.v] 69)).drew.drewN n) L X h x s k ((w.heap.size+1+1,69,#[.int .i64 5,.int .i64 m.a,.int .i64 m.b,.int .i64 m.c,.int .u64 m.v])::(w.heap.size+1,71,#[.int .i64 0,.int .i64 0,.int .i64 0,.int .u64 0,.bool false])::(w.heap.size,73,#[.int .i64 0,.int .i64 0,.int .i64 0,.int .u64 0,.bool false,.bool false,.bool false,.bool false,.slice none 0 0])::(mb,127,muV L.hb t sb m)::E) D Q):=by
  have q:=((HX0.out.alloc hS 71 #[.int .i64 0,.int .i64 0,.int .i64 0,.int .u64 0,.bool false]).alloc hS 69 #[.int .i64 5,.int .i64 m.a,.int .i64 m.b,.int .i64 m.c,.int .u64 m.v]).fr0 hS (Fr.refl _ _).drew;rw[show((w.alloc (.cells #[.int .i64 0,.int .i64 0,.int .i64 0,.int .u64 0,.bool false,.bool false,.bool false,.bool false,.slice none 0 0] 73)).alloc (.cells #[.int .i64 0,.int .i64 0,.int .i64 0,.int .u64 0,.bool false] 71)).heap.size=w.heap.size+1+1 by simp,show(w.alloc (.cells #[.int .i64 0,.int .i64 0,.int .i64 0,.int .u64 0,.bool false,.bool false,.bool false,.bool false,.slice none 0 0] 73)).heap.size=w.heap.size+1 by simp]at q;exact⟨q,λn=>q.fr0 hS ((Fr.refl _ _).drewN n)⟩
 have HPk:Hid (∀w' v3 v2,HM W w' L X { h with f:=upd h.f I v } x s k ((w.heap.size+1+1,69,#[.int .i64 5,.int .i64 m.a,.int .i64 m.b,.int .i64 m.c,.int .u64 m.v])::(w.heap.size+1,71,#[.int .i64 0,.int .i64 0,.int .i64 0,.int .u64 0,.bool false])::(w.heap.size,73,#[.int .i64 0,.int .i64 0,.int .i64 0,.int .u64 0,.bool false,.bool false,.bool false,.bool false,.slice none 0 0])::(mb,127,muV L.hb t sb m)::E) D Q->HM W ((w'.setCell ⟨w.heap.size+1,3,none⟩ v3).setCell ⟨w.heap.size+1,2,none⟩ v2) L X { h with f:=upd h.f I v } x s k ((mb,127,muV L.hb t sb m)::(w.heap.size,73,#[.int .i64 0,.int .i64 0,.int .i64 0,.int .u64 0,.bool false,.bool false,.bool false,.bool false,.slice none 0 0])::E) D Q/\HM W (w'.setCell ⟨w.heap.size+1,2,none⟩ v2) L X { h with f:=upd h.f I v } x s k ((mb,127,muV L.hb t sb m)::(w.heap.size,73,#[.int .i64 0,.int .i64 0,.int .i64 0,.int .u64 0,.bool false,.bool false,.bool false,.bool false,.slice none 0 0])::E) D Q):=λw' v3 v2 q=>by
  have q1:HM W w' L X { h with f:=upd h.f I v } x s k ((w.heap.size+1,71,#[.int .i64 0,.int .i64 0,.int .i64 0,.int .u64 0,.bool false])::(mb,127,muV L.hb t sb m)::(w.heap.size,73,#[.int .i64 0,.int .i64 0,.int .i64 0,.int .u64 0,.bool false,.bool false,.bool false,.bool false,.slice none 0 0])::E) D Q:=q.sub (λy hy=>by simp only[C1]at hy ⊢;rcases hy with e|e|e|e <;> simp[e]);have hn:∀q,q∈((mb,127,muV L.hb t sb m)::(w.heap.size,73,#[.int .i64 0,.int .i64 0,.int .i64 0,.int .u64 0,.bool false,.bool false,.bool false,.bool false,.slice none 0 0])::E:aK)->q.1≠w.heap.size+1:=λq hq=>by
   simp only[C1]at hq;rcases hq with e|e|e
   ·rw[e];show mb≠_;omega
   ·rw[e];show w.heap.size≠_;omega
   ·have:=hltE q e;omega
  exact⟨((q1.lO hS hT hn 3 v3).lO hS hT hn 2 v2).sub (λy hy=>CZ _ hy),(q1.lO hS hT hn 2 v2).sub (λy hy=>CZ _ hy)⟩
 have HAn:Hid (∀w',HM W w' L X { h with f:=upd h.f I v } x s k ((mb,127,muV L.hb t sb m)::(w.heap.size,73,#[.int .i64 0,.int .i64 0,.int .i64 0,.int .u64 0,.bool false,.bool false,.bool false,.bool false,.slice none 0 0])::E) D Q->Calls Tryz.prog 52 #[.pointer (some ⟨mb,0,none⟩),.agg #[.int .i64 0,.int .i64 0,.int .i64 (0),.int .u64 0,.bool false]] w' λe w''=>e=.returned (.agg #[.int .i64 (t:Int),.int .i64 (m.dn:Int),.int .i64 0,.int .u64 0,.bool false,.bool true,.bool false,.bool false,.slice none 0 0])/\HM W w'' L X { h with f:=upd h.f I v } x s k ((mb,127,muV L.hb t sb (MU.zero (m.dn+1)))::(w.heap.size,73,#[.int .i64 0,.int .i64 0,.int .i64 0,.int .u64 0,.bool false,.bool false,.bool false,.bool false,.slice none 0 0])::E) D Q):=λw' q=>HM.answer hS hT q (hneR _) hd 0 0 ⟨0,0,false⟩;have HZ:Hid (∀w',HM W w' L X { h with f:=upd h.f I v } x s k ((w.heap.size+1+1,69,#[.int .i64 5,.int .i64 m.a,.int .i64 m.b,.int .i64 m.c,.int .u64 m.v])::(w.heap.size+1,71,#[.int .i64 0,.int .i64 0,.int .i64 0,.int .u64 0,.bool false])::(w.heap.size,73,#[.int .i64 0,.int .i64 0,.int .i64 0,.int .u64 0,.bool false,.bool false,.bool false,.bool false,.slice none 0 0])::(mb,127,muV L.hb t sb m)::E) D Q->Blk w' (w.heap.size+1) 71 #[.int .i64 0,.int .i64 0,.int .i64 0,.int .u64 0,.bool false]):=λw' q=>q.blk (CZ _ (C0 ..));have HC:Hid (∀w',HM W w' L X h x s k ((w.heap.size+1+1,69,#[.int .i64 5,.int .i64 m.a,.int .i64 m.b,.int .i64 m.c,.int .u64 m.v])::(w.heap.size+1,71,#[.int .i64 0,.int .i64 0,.int .i64 0,.int .u64 0,.bool false])::(w.heap.size,73,#[.int .i64 0,.int .i64 0,.int .i64 0,.int .u64 0,.bool false,.bool false,.bool false,.bool false,.slice none 0 0])::(mb,127,muV L.hb t sb m)::E) D Q->Calls Tryz.prog 88 #[.pointer (some ⟨L.ab,0,none⟩),.int .i64 (I:Int),.int .u64 m.v] w' λe w''=>e=.returned (.int .i64 0)/\HM W w'' L X { h with f:=upd h.f I v } x s k ((w.heap.size+1+1,69,#[.int .i64 5,.int .i64 m.a,.int .i64 m.b,.int .i64 m.c,.int .u64 m.v])::(w.heap.size+1,71,#[.int .i64 0,.int .i64 0,.int .i64 0,.int .u64 0,.bool false])::(w.heap.size,73,#[.int .i64 0,.int .i64 0,.int .i64 0,.int .u64 0,.bool false,.bool false,.bool false,.bool false,.slice none 0 0])::(mb,127,muV L.hb t sb m)::E) D Q):=λw' q=>q.sE hS hI hv hv2;have HK:Hid (∀w' h' ,HM W w' L X h' x s k ((w.heap.size+1+1,69,#[.int .i64 5,.int .i64 m.a,.int .i64 m.b,.int .i64 m.c,.int .u64 m.v])::(w.heap.size+1,71,#[.int .i64 0,.int .i64 0,.int .i64 0,.int .u64 0,.bool false])::(w.heap.size,73,#[.int .i64 0,.int .i64 0,.int .i64 0,.int .u64 0,.bool false,.bool false,.bool false,.bool false,.slice none 0 0])::(mb,127,muV L.hb t sb m)::E) D Q->w'.cell? ⟨mb,0,none⟩=some (.pointer (some ⟨L.hb,0,none⟩))/\w'.cell? ⟨L.hb,20,none⟩=some (.pointer (some ⟨L.ab,0,none⟩))/\w'.cell? ⟨w.heap.size+1+1,4,none⟩=some (.int .u64 m.v)):=λw' h' q=>⟨(q.blk (CZ _ (CZ _ (CZ _ (C0 ..))))).cell 0,q.hc.c20,(q.blk (C0 ..)).cell 4⟩;have HXd:Hid (HM W (((w.alloc (.cells #[.int .i64 0,.int .i64 0,.int .i64 0,.int .u64 0,.bool false,.bool false,.bool false,.bool false,.slice none 0 0] 73)).alloc (.cells #[.int .i64 0,.int .i64 0,.int .i64 0,.int .u64 0,.bool false] 71)).alloc (.cells #[.int .i64 5,.int .i64 m.a,.int .i64 m.b,.int .i64 m.c,.int .u64 m.v] 69)).drew.drew L X h x s k ((w.heap.size+1+1,69,#[.int .i64 5,.int .i64 m.a,.int .i64 m.b,.int .i64 m.c,.int .u64 m.v])::(w.heap.size+1,71,#[.int .i64 0,.int .i64 0,.int .i64 0,.int .u64 0,.bool false])::(w.heap.size,73,#[.int .i64 0,.int .i64 0,.int .i64 0,.int .u64 0,.bool false,.bool false,.bool false,.bool false,.slice none 0 0])::(mb,127,muV L.hb t sb m)::E) D Q):=HX.out.1.fr0 hS (Fr.refl _ _).drew;have K0:=HK.out _ _ HXd.out;have hi0:L.hb<w.heap.size:=af H.hc.c20;have HKS:Hid (∀w' h' v2,HM W w' L X h' x s k ((w.heap.size+1+1,69,#[.int .i64 5,.int .i64 m.a,.int .i64 m.b,.int .i64 m.c,.int .u64 m.v])::(w.heap.size+1,71,#[.int .i64 0,.int .i64 0,.int .i64 0,.int .u64 0,.bool false])::(w.heap.size,73,#[.int .i64 0,.int .i64 0,.int .i64 0,.int .u64 0,.bool false,.bool false,.bool false,.bool false,.slice none 0 0])::(mb,127,muV L.hb t sb m)::E) D Q->(w'.setCell ⟨w.heap.size+1,2,none⟩ v2).cell? ⟨mb,0,none⟩=some (.pointer (some ⟨L.hb,0,none⟩))/\(w'.setCell ⟨w.heap.size+1,2,none⟩ v2).cell? ⟨L.hb,20,none⟩=some (.pointer (some ⟨L.ab,0,none⟩))/\(w'.setCell ⟨w.heap.size+1,2,none⟩ v2).cell? ⟨w.heap.size+1+1,4,none⟩=some (.int .u64 m.v)):=λw' h' v2 q=>by
  obtain⟨g0,g1,g2⟩:=HK.out w' h' q;have hf:=(Fr.refl [w.heap.size+1] w').setCell (p:=⟨w.heap.size+1,2,none⟩) (.inl (by simp)) v2;exact⟨(hf.cell (af g0) (by simp;omega)).trans g0,(hf.cell (af g1) (by simp;omega)).trans g1,(hf.cell (af g2) (by simp)).trans g2⟩
 obtain⟨c0,c1,c2,c3,c4,c5,c6,c7,c8,c9,c10⟩:=aJ hmb;have c20:=H.hc.c20;have N20:L.hb<w.heap.size:=af c20;have hl1:mb<w.heap.size+1:=by omega
 have hl2:mb<w.heap.size+1+1:=by omega
 have n0:mb≠w.heap.size:=by omega
 have j1:L.hb<w.heap.size+1:=by omega
 have j2:L.hb<w.heap.size+1+1:=by omega
 have i0:L.hb≠w.heap.size:=by omega
 have i1:L.hb≠w.heap.size+1:=by omega
 have i2:L.hb≠w.heap.size+1+1:=by omega
 have n1:mb≠w.heap.size+1:=by omega
 have n2:mb≠w.heap.size+1+1:=by omega
 rw[hk]at c4;rw[had]at c10;unfold bm;clear H hmb hltE HX0 hne hneR hrm hrE hk had hI ht hd hv hv2;go_enter Tryz.func46,Tryz.ntmps46
 go_wp2_with fail
 go_region
 go_wp2_with fail
 go_region_held3 (λw'=>w'.cell? ⟨mb,0,none⟩=some (.pointer (some ⟨L.hb,0,none⟩))/\w'.cell? ⟨L.hb,20,none⟩=some (.pointer (some ⟨L.ab,0,none⟩))/\w'.cell? ⟨w.heap.size+1+1,4,none⟩=some (.int .u64 m.v))
  (first|with_reducible exact K0|with_reducible exact KS|go_keep)
  (first|(go_at_call 88;refine(HC.out _ HXd.out).mono ?_;rintro e w3 ⟨rfl,hA⟩;have hz:=HZ.out _ hA;have HA4:=aa (HAn.out _ (HPk.out _ (.int .u64 0) (.int .i64 0) hA).2);replace K0:=HK.out _ _ hA;have KS:=HKS.out _ _ (.int .i64 0) hA;have u0:=hz.cell 0;have u1:=hz.cell 1;have u2:=hz.cell 2;have u3:=hz.cell 3;have u4:=hz.cell 4;have uz2:=hz.frozen 2;have NZ:=hz.lt;clear hA hz))
 all_goals
  go_wp2_with fail
  refine HA4.out.mono ?_;rintro e w5 ⟨rfl,hA⟩;clear u0 u1 u2 u3 u4 uz2;have HA5:=aa hA;have hrb:=hA.blk (CZ _ (C0 ..));have y0:=hrb.cell 0;have y1:=hrb.cell 1;have y2:=hrb.cell 2;have y3:=hrb.cell 3;have y4:=hrb.cell 4;have y5:=hrb.cell 5;have y6:=hrb.cell 6;have y7:=hrb.cell 7;have y8:=hrb.cell 8;have z0:=hrb.frozen 0;have z1:=hrb.frozen 1;have z2:=hrb.frozen 2;have z3:=hrb.frozen 3;have z4:=hrb.frozen 4;have z5:=hrb.frozen 5;have z6:=hrb.frozen 6;have z7:=hrb.frozen 7;have z8:=hrb.frozen 8;have NR:=hrb.lt;clear hA hrb;go_wp2_with fail
  refine bodyPost_ret (v:=.agg #[.int .i64 (t:Int),.int .i64 (m.dn:Int),.int .i64 0,.int .u64 0,.bool false,.bool true,.bool false,.bool false,.slice none 0 0]) (by simp[results,Tryz.results46,go_sem, *]) rfl ⟨rfl,?_⟩;exact HEnd.out _ _ _ _ _ _ _ _ _ _ _ _ _ _ _ _ _ _ _ HA5.out
end
end Go.Proofs.YtimlkjppaalfaaaGreatDoor
