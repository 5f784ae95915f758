/- Several texts joined (pack.py): Ud Ue Uf Ug Uh Uq. -/
import Derived.Test.YtimlkjppaalfaaaGreatDoorPW21
import Derived.WalkKit
import Derived.BigQuiet
import Derived.Deep.CutRange
import Derived.Deep.RegionHeld3
import Derived.Test.YtimlkjppaalfaaaGreatDoorPW19
set_option linter.unusedVariables false
set_option linter.unusedSimpArgs false
set_option maxHeartbeats 3200000
set_option maxRecDepth 100000
namespace Go.Proofs.YtimlkjppaalfaaaGreatDoor
open Go.RowKit Go.Gl HS
section
variable {W w w':World}{L:HL}{X:HX}{h:HS}{x:HT}{s k:Nat}{E:aK}{D:Nat->Prop}{Q:World->Prop}{mb t sb:Nat}{m:MU}
noncomputable def lK (h:HS) (i:Nat):Nat->Int:=if h.bx i<h.be i then ak h.t (h.g.av (h.bx i)).toNat (h.bx i) else h.t
noncomputable def bE (h:HS) (i:Nat):HS:={ h with t:=lK h i,bx:=ak h.bx i 0,be:=ak h.be i 0 }
theorem jJ(hS:ah D Q)(H:HM W w L X h x s k E D Q)(hm:(mb,127,muV L.hb t sb m)∈E)(ht:t<h.T)(hB:h.t6) :
  Calls Tryz.prog 147 #[.pointer (some ⟨mb,0,none⟩)] w λe w'=>e=.returned (.tuple #[])/\HM W w' L X (bE h t) x s k E D Q:=by
 have ok:=H.ok;have HMu:Hid (∀w' h' x',HM W w' L X h' x' s k E D Q->w'.cell? ⟨mb,0,none⟩=some (.pointer (some ⟨L.hb,0,none⟩))/\w'.cell? ⟨mb,1,none⟩=some (.int .i64 (t:Int))):=λw' h' x' q=>by
  have hb:=q.blk hm;exact⟨hb.cell 0,hb.cell 1⟩
 have HAd:=aa (H.fr0 hS (Fr.refl _ _).drew);have HDr:Hid (∀w',HM W w' L X h x s k E D Q->Calls Tryz.prog 158 #[.pointer (some ⟨L.bb,t*2,none⟩)] w' λe w''=>e=.returned (.tuple #[.int .i64 (h.bx t),.int .i64 (h.be t)])/\HM W w'' L X { h with bx:=ak h.bx t 0,be:=ak h.be t 0 } x s k E D Q):=λw' q=>q.Cm hS ht;have HCe:Hid (∀w' a b c,HM W w' L X { h with t:=a,bx:=b,be:=c } x s k E D Q->fG w' L X h.g h.T):=λw' a b c q=>q.hc;have HC0:Hid (∀w',HM W w' L X h x s k E D Q->fG w' L X h.g h.T):=λw' q=>q.hc;have HRg:Hid (∀w' a b c z,HM W w' L X { h with t:=a,bx:=b,be:=c } x s k E D Q->Calls Tryz.prog 68 #[.agg #[.int .i64 h.g.words,.int .i64 h.g.rw,.int .i64 h.g.cw,.int .i64 h.g.regions,.int .i64 h.g.aF,.int .i64 h.g.max],.int .i64 z] w' λe w''=>e=.returned (.int .i64 (h.g.av z))/\HM W w'' L X { h with t:=a,bx:=b,be:=c } x s k E D Q):=λw' a b c z q=>q.region hS z;have HIn:Hid (h.bx t<h.be t->∃r:Nat,h.g.av (h.bx t)=(r:Int)/\r<h.R/\dB (h.s r)/\((r*h.W:Nat):Int)<=h.bx t/\h.bx t<=((r*h.W+h.W:Nat):Int)):=λe=>by
  obtain⟨r,r1,r2,r3,r4⟩:=hB t ht e;exact⟨r,ok.reg r1 r3 (by omega),r1,r2,r3,by omega⟩
 have HTp:Hid (∀w' b c (r:Nat) z,r<h.R->dB (h.s r)->((r*h.W:Nat):Int)<=z->z<=((r*h.W+h.W:Nat):Int)->HM W w' L X { h with bx:=b,be:=c } x s k E D Q->Calls Tryz.prog 159 #[.pointer (some ⟨L.tb,0,none⟩),.int .i64 (r:Int),.int .i64 z] w' λe w''=>e=.returned (.int .i64 0)/\HM W w'' L X { h with t:=ak h.t r z,bx:=b,be:=c } x s k E D Q):=λw' b c r z h1 h2 h3 h4 q=>q.x9 hS h1 h2 h3 h4;have HOut:Hid (bE h t={ h with t:=lK h t,bx:=ak h.bx t 0,be:=ak h.be t 0 }):=rfl;have HDt:Hid (lK h t=if h.bx t<h.be t then ak h.t (h.g.av (h.bx t)).toNat (h.bx t) else h.t):=rfl;have ht1:(t:Int)<(h.T:Int):=by omega
 obtain⟨k0,k1⟩:=HMu.out _ _ _ HAd.out;have c28:=(HC0.out _ HAd.out).c28;have K0:w.drew.cell? ⟨mb,0,none⟩=some (.pointer (some ⟨L.hb,0,none⟩))/\w.drew.cell? ⟨mb,1,none⟩=some (.int .i64 (t:Int))/\w.drew.cell? ⟨L.hb,28,none⟩=some (.slice (some ⟨L.bb,0,none⟩) h.T h.T):=⟨k0,k1,c28⟩;have HK:Hid (∀w' h',h'.T=h.T->HM W w' L X h' x s k E D Q->w'.cell? ⟨mb,0,none⟩=some (.pointer (some ⟨L.hb,0,none⟩))/\w'.cell? ⟨mb,1,none⟩=some (.int .i64 (t:Int))/\w'.cell? ⟨L.hb,28,none⟩=some (.slice (some ⟨L.bb,0,none⟩) h.T h.T)):=λw' h' e q=>by
  have hb:=q.blk hm;have:=q.hc.c28;rw[e]at this;exact⟨hb.cell 0,hb.cell 1,this⟩
 clear H hB ok ht hm k0 k1 c28;generalize h.bx t=y0 at *;generalize h.be t=y1 at *;go_enter Tryz.func147,Tryz.ntmps147
 go_wp2_with fail
 go_region_held3 (λw'=>w'.cell? ⟨mb,0,none⟩=some (.pointer (some ⟨L.hb,0,none⟩))/\w'.cell? ⟨mb,1,none⟩=some (.int .i64 (t:Int))/\w'.cell? ⟨L.hb,28,none⟩=some (.slice (some ⟨L.bb,0,none⟩) h.T h.T))
  (first|with_reducible exact K0|go_keep)
  (first|(go_at_call 158;refine(HDr.out _ HAd.out).mono ?_;rintro e w1 ⟨rfl,hA⟩;have HA1:=aa hA;have K0:=HK.out _ { h with bx:=ak h.bx t 0,be:=ak h.be t 0 } rfl hA;clear hA))
 clear K0 HAd HDr;by_cases hxy:y0<y1
 ·obtain⟨r,er,r1,r2,r3,r4⟩:=HIn.out hxy;have HR:=aa (And.intro r1 (And.intro r2 (And.intro r3 r4)));have HDt2:Hid (lK h t=ak h.t r y0):=aa (by rw[HDt.out,if_pos hxy,er];rfl);clear r1 r2 r3 r4 HIn HDt;go_wp2_with fail
  have HAd:=aa (HA1.out.fr0 hS (Fr.refl _ _).drew);have HK8:Hid (∀w',HM W w' L X { h with bx:=ak h.bx t 0,be:=ak h.be t 0 } x s k E D Q->w'.cell? ⟨mb,0,none⟩=some (.pointer (some ⟨L.hb,0,none⟩))/\w'.cell? ⟨L.hb,14,none⟩=some (.int .i64 h.g.words)/\w'.cell? ⟨L.hb,15,none⟩=some (.int .i64 h.g.rw)/\w'.cell? ⟨L.hb,16,none⟩=some (.int .i64 h.g.cw)/\w'.cell? ⟨L.hb,17,none⟩=some (.int .i64 h.g.regions)/\w'.cell? ⟨L.hb,18,none⟩=some (.int .i64 h.g.aF)/\w'.cell? ⟨L.hb,19,none⟩=some (.int .i64 h.g.max)/\w'.cell? ⟨L.hb,21,none⟩=some (.pointer (some ⟨L.tb,0,none⟩))):=λw' q=>by
   have hb:=(HMu.out _ _ _ q).1;obtain⟨a1,a2,a3,a4,a5,a6,a7,a8,a9,a10,a11,a12,a13,a14,a15,a16⟩:=HCe.out _ _ _ _ q;exact⟨hb,a1,a2,a3,a4,a5,a6,a8⟩
  have HK9:Hid (∀w',HM W w' L X { h with t:=ak h.t r y0,bx:=ak h.bx t 0,be:=ak h.be t 0 } x s k E D Q->w'.cell? ⟨mb,0,none⟩=some (.pointer (some ⟨L.hb,0,none⟩))/\w'.cell? ⟨L.hb,14,none⟩=some (.int .i64 h.g.words)/\w'.cell? ⟨L.hb,15,none⟩=some (.int .i64 h.g.rw)/\w'.cell? ⟨L.hb,16,none⟩=some (.int .i64 h.g.cw)/\w'.cell? ⟨L.hb,17,none⟩=some (.int .i64 h.g.regions)/\w'.cell? ⟨L.hb,18,none⟩=some (.int .i64 h.g.aF)/\w'.cell? ⟨L.hb,19,none⟩=some (.int .i64 h.g.max)/\w'.cell? ⟨L.hb,21,none⟩=some (.pointer (some ⟨L.tb,0,none⟩))):=λw' q=>by
   have hb:=(HMu.out _ _ _ q).1;obtain⟨a1,a2,a3,a4,a5,a6,a7,a8,a9,a10,a11,a12,a13,a14,a15,a16⟩:=HCe.out _ _ _ _ q;exact⟨hb,a1,a2,a3,a4,a5,a6,a8⟩
  have K0:=HK8.out _ HAd.out;have HRD:=aa (λw' q=>HRg.out w' h.t (ak h.bx t 0) (ak h.be t 0) y0 q);rw[er]at HRD;have HSet:=aa (λw' q=>HTp.out w' (ak h.bx t 0) (ak h.be t 0) r y0 HR.out.1 HR.out.2.1 HR.out.2.2.1 HR.out.2.2.2 q);clear er hxy;go_region_held3 (λw'=>w'.cell? ⟨mb,0,none⟩=some (.pointer (some ⟨L.hb,0,none⟩))/\w'.cell? ⟨L.hb,14,none⟩=some (.int .i64 h.g.words)/\w'.cell? ⟨L.hb,15,none⟩=some (.int .i64 h.g.rw)/\w'.cell? ⟨L.hb,16,none⟩=some (.int .i64 h.g.cw)/\w'.cell? ⟨L.hb,17,none⟩=some (.int .i64 h.g.regions)/\w'.cell? ⟨L.hb,18,none⟩=some (.int .i64 h.g.aF)/\w'.cell? ⟨L.hb,19,none⟩=some (.int .i64 h.g.max)/\w'.cell? ⟨L.hb,21,none⟩=some (.pointer (some ⟨L.tb,0,none⟩)))
   (first|with_reducible exact K0|go_keep)
   (first|(go_at_call 68;refine(HRD.out _ HAd.out).mono ?_;rintro e w3 ⟨rfl,hA⟩;replace HAd:=aa hA;have K0:=HK8.out _ hA;clear hA)|(go_at_call 159;refine(HSet.out _ HAd.out).mono ?_;rintro e w4 ⟨rfl,hA⟩;have HA2:=aa hA;have K0:=HK9.out _ hA;clear hA))
  all_goals
   go_wp2_with fail
   go_end0
   refine⟨rfl,?_⟩;rw[HOut.out,HDt2.out];exact HA2.out
 ·have HDt2:Hid (lK h t=h.t):=aa (by rw[HDt.out,if_neg hxy]);clear HIn HDt;go_wp2_with fail
  go_end0
  refine⟨rfl,?_⟩;rw[HOut.out,HDt2.out];exact HA1.out
end
section
variable {W w w':World}{L:HL}{X:HX}{h:HS}{x:HT}{s k:Nat}{E:aK}{D:Nat->Prop}{Q:World->Prop}{mb t sb:Nat}{m:MU}
theorem HM.yc(hS:ah D Q)(H:HM W w L X h x s k E D Q)(y:Int) :
  Calls Tryz.prog 59 #[.pointer (some ⟨L.tb,0,none⟩),.int .i64 y] w λe w'=>(∃A c,e=.returned (.slice A (bn h.s y h.R).length c))/\HM W w' L X h x s k E D Q:=
 H.see hS λown ⟨tg,FS,H⟩=>(nk H.rg y).mono (by
  rintro e w' ⟨v,rfl,ho,hf⟩;obtain⟨A,c,rfl,_⟩:=Sl.own ho;exact⟨⟨A,c,rfl⟩,hf⟩)
theorem HM.take(hS:ah D Q)(H:HM W w L X h x s k E D Q){y:Int}(hy:dB y){j:Nat}(hl:dD h.s h.R j) :
  Calls Tryz.prog 160 #[.pointer (some ⟨L.tb,0,none⟩),.int .i64 y] w λe w'=>e=.returned (.tuple #[.int .i64 (j:Int),.int .i64 0])/\HM W w' L X { h with s:=ak h.s j y } x s k E D Q:=
 H.post hS λown q=>q.Ci hy hl
theorem HM.zY(hS:ah D Q)(H:HM W w L X h x s k E D Q){y:Int}(hy:dB y)(hl:gw h.s h.R) :
  Calls Tryz.prog 160 #[.pointer (some ⟨L.tb,0,none⟩),.int .i64 y] w λe w'=>e=.returned (.tuple #[.int .i64 0,.int .i64 6])/\HM W w' L X h x s k E D Q:=
 H.see hS λown ⟨tg,FS,H⟩=>(rC H.rg hy hl).mono (by rintro e w' ⟨rfl,rfl⟩;exact⟨rfl,Fr.refl _ _⟩)
theorem HM.bP(H:HM W w L X h x s k E D Q):w.cell? ⟨L.hb,7,none⟩=some (.int .i64 L.cfg.bP):=H.hr.st.cell 7
def el(h:HS)(i j:Nat):HS:={ h with s:=ak h.s j 1,t:=ak h.t j ((j*h.W+h.W:Nat):Int),bx:=ak h.bx i ((j*h.W:Nat):Int),be:=ak h.be i ((j*h.W+h.W:Nat):Int) }
theorem l8(hS:ah D Q)(H:HM W w L X h x s k E D Q)(hm:(mb,127,muV L.hb t sb m)∈E)(hy:((bn h.s 1 h.R).length:Int)>=L.cfg.bP) :
  Calls Tryz.prog 148 #[.pointer (some ⟨mb,0,none⟩)] w λe w'=>e=.returned (.tuple #[])/\HM W w' L X h x s k E D Q:=by
 have HAd:=aa (H.fr0 hS (Fr.refl _ _).drew);have HL:=aa (λw' (q:HM W w' L X h x s k E D Q)=>q.yc hS 1);have HK:Hid (∀w',HM W w' L X h x s k E D Q->w'.cell? ⟨L.hb,21,none⟩=some (.pointer (some ⟨L.tb,0,none⟩))/\w'.cell? ⟨L.hb,7,none⟩=some (.int .i64 L.cfg.bP)):=λw' q=>⟨q.hc.c21,q.bP⟩;have k0:w.cell? ⟨mb,0,none⟩=some (.pointer (some ⟨L.hb,0,none⟩)):=(H.blk hm).cell 0;have K0:=HK.out _ HAd.out;have NH:=af K0.1;have hwl:IntKind.i64.wrap ((bn h.s 1 h.R).length:Int)=((bn h.s 1 h.R).length:Int):=by
  have h1:(bn h.s 1 h.R).length<=h.R:=by unfold bn;exact Nat.le_trans (List.length_filter_le _ _) (by simp)
  have:=H.dim.r3;exact IntWalk.i64_in _ ⟨by omega,by omega⟩
 have hyB:decide (((bn h.s 1 h.R).length:Int)>=L.cfg.bP)=true:=by simpa using hy
 have hyC:decide (L.cfg.bP<=((bn h.s 1 h.R).length:Int))=true:=by simpa using hy
 clear H hm;generalize (bn h.s 1 h.R).length=n9 at *;generalize L.cfg.bP=y9 at *;go_enter Tryz.func148,Tryz.ntmps148
 go_wp2_with fail
 go_region_held3 (λw'=>w'.cell? ⟨L.hb,21,none⟩=some (.pointer (some ⟨L.tb,0,none⟩))/\w'.cell? ⟨L.hb,7,none⟩=some (.int .i64 y9))
  (first|with_reducible exact K0|go_keep)
  (first|(go_at_call 59;refine(HL.out _ HAd.out).mono ?_;rintro e w1 ⟨⟨A1,c1,rfl⟩,hA⟩;have HA1:=aa hA;have K0:=HK.out _ hA;clear hA))
 all_goals
  go_wp2_with fail
  exact bodyPost_ret (results_none rfl _ _ _) rfl ⟨rfl,HA1.out⟩
theorem l9(hS:ah D Q)(H:HM W w L X h x s k E D Q)(hm:(mb,127,muV L.hb t sb m)∈E)(hy:((bn h.s 1 h.R).length:Int)<L.cfg.bP)(hn:gw h.s h.R) :
  Calls Tryz.prog 148 #[.pointer (some ⟨mb,0,none⟩)] w λe w'=>e=.returned (.tuple #[])/\HM W w' L X h x s k E D Q:=by
 have HAd:=aa (H.fr0 hS (Fr.refl _ _).drew);have HL:=aa (λw' (q:HM W w' L X h x s k E D Q)=>q.yc hS 1);have HN:=aa (λw' (q:HM W w' L X h x s k E D Q)=>q.zY hS (y:=1) (.inl rfl) hn);have HK:Hid (∀w',HM W w' L X h x s k E D Q->w'.cell? ⟨L.hb,21,none⟩=some (.pointer (some ⟨L.tb,0,none⟩))/\w'.cell? ⟨L.hb,7,none⟩=some (.int .i64 L.cfg.bP)):=λw' q=>⟨q.hc.c21,q.bP⟩;have k0:w.cell? ⟨mb,0,none⟩=some (.pointer (some ⟨L.hb,0,none⟩)):=(H.blk hm).cell 0;have K0:=HK.out _ HAd.out;have NH:=af K0.1;have hyB:decide (((bn h.s 1 h.R).length:Int)>=L.cfg.bP)=false:=by simpa using hy
 have hyC:decide (L.cfg.bP<=((bn h.s 1 h.R).length:Int))=false:=by simpa using hy
 clear H hm hn;generalize (bn h.s 1 h.R).length=n9 at *;generalize L.cfg.bP=y9 at *;go_enter Tryz.func148,Tryz.ntmps148
 go_wp2_with fail
 go_region_held3 (λw'=>w'.cell? ⟨L.hb,21,none⟩=some (.pointer (some ⟨L.tb,0,none⟩))/\w'.cell? ⟨L.hb,7,none⟩=some (.int .i64 y9))
  (first|with_reducible exact K0|go_keep)
  (first|(go_at_call 59;refine(HL.out _ HAd.out).mono ?_;rintro e w1 ⟨⟨A1,c1,rfl⟩,hA⟩;have HA1:=aa hA;have K0:=HK.out _ hA;clear hA))
 all_goals
  have k21:=(HK.out _ HA1.out).1;have NH1:=af k21;have HN1:=aa (HN.out _ HA1.out);clear k0;go_wp2_with fail
  refine HN1.out.mono ?_;rintro e w2 ⟨rfl,hA⟩;have HA2:=aa hA;clear hA k21 NH1;go_wp2_with fail
  exact bodyPost_ret (results_none rfl _ _ _) rfl ⟨rfl,HA2.out⟩
end
section
variable {W w w':World}{L:HL}{X:HX}{h:HS}{x:HT}{s k:Nat}{E:aK}{D:Nat->Prop}{Q:World->Prop}{mb t sb:Nat}{m:MU}
theorem HM.CN(H:HM W w L X h x s k E D Q){b:Nat}{ty:TypeId}{cs:Array Value}(hb:(b,ty,cs)∈E):b≠L.bb:=by
 obtain⟨own,⟨tg,FS,H,h1,h2⟩,hE,hD,hQ⟩:=H;intro e;have:=(hE _ hb).2.1;have h3:=H.o1.2.1;simp only at this;rw[e,h3]at this;cases this
theorem HM.CO(hS:ah D Q)(H:HM W w L X h x s k E D Q){i:Nat}(hi:i<h.T){a b:Nat}(ha:a<=b)(hb:b<=4194304) :
  HM W ((w.setCell ⟨L.bb,i*2,none⟩ (.int .i64 (a:Int))).setCell ⟨L.bb,i*2+1,none⟩ (.int .i64 (b:Int))) L X { h with bx:=ak h.bx i (a:Int),be:=ak h.be i (b:Int) } x s k E D Q:=by
 have hbb:=(H.hr.buf.put (i*2) (.int .i64 (a:Int))).put (i*2+1) (.int .i64 (b:Int));have e0:=j6 h.T h.bx h.be (i:=i) (a:Int) hi;have e1:=nF h.T (ak h.bx i (a:Int)) h.be (i:=i) (b:Int) hi;rw[e0,e1]at hbb;refine H.buffer hS (aT (aT (Fr.refl _ _) (by simp) _ _) (by simp) _ _) hbb (λj hj=>?_);have:=H.ok.bok j hj;unfold ak;split <;> omega
theorem md(hS:ah D Q)(H:HM W w L X h x s k E D Q)(hm:(mb,127,muV L.hb t sb m)∈E)(ht:t<h.T)(hy:((bn h.s 1 h.R).length:Int)<L.cfg.bP){j:Nat}(hl:dD h.s h.R j) :
  Calls Tryz.prog 148 #[.pointer (some ⟨mb,0,none⟩)] w λe w'=>e=.returned (.tuple #[])/\HM W w' L X (el h t j) x s k E D Q:=by
 have HAd:=aa (H.fr0 hS (Fr.refl _ _).drew);have HL:=aa (λw' (q:HM W w' L X h x s k E D Q)=>q.yc hS 1);have HN:=aa (λw' (q:HM W w' L X h x s k E D Q)=>q.take hS (y:=1) (.inl rfl) hl);have HK:Hid (∀w',HM W w' L X h x s k E D Q->w'.cell? ⟨L.hb,21,none⟩=some (.pointer (some ⟨L.tb,0,none⟩))/\w'.cell? ⟨L.hb,7,none⟩=some (.int .i64 L.cfg.bP)):=λw' q=>⟨q.hc.c21,q.bP⟩;have HMu:Hid (∀w' h' x',HM W w' L X h' x' s k E D Q->w'.cell? ⟨mb,0,none⟩=some (.pointer (some ⟨L.hb,0,none⟩))/\w'.cell? ⟨mb,1,none⟩=some (.int .i64 (t:Int))):=λw' h' x' q=>by
  have hb:=q.blk hm;exact⟨hb.cell 0,hb.cell 1⟩
 have k0:w.cell? ⟨mb,0,none⟩=some (.pointer (some ⟨L.hb,0,none⟩)):=(H.blk hm).cell 0;have K0:=HK.out _ HAd.out;have NH:=af K0.1;have hyB:decide (((bn h.s 1 h.R).length:Int)>=L.cfg.bP)=false:=by simpa using hy
 have hyC:decide (L.cfg.bP<=((bn h.s 1 h.R).length:Int))=false:=by simpa using hy
 have hj:j<h.R:=hl.1;have hDm:=H.dim;have hmul:j*h.W+h.W<=h.R*h.W:=jh hj;have hww:=hDm.wd;have hNm:=H.ok.dC;have HCe:Hid (∀w' a b,HM W w' L X { h with s:=a,t:=b } x s k E D Q->fG w' L X h.g h.T):=λw' a b q=>q.hc;have HBs:Hid (∀w' a,HM W w' L X { h with s:=a } x s k E D Q->Calls Tryz.prog 58 #[.agg #[.int .i64 h.g.words,.int .i64 h.g.rw,.int .i64 h.g.cw,.int .i64 h.g.regions,.int .i64 h.g.aF,.int .i64 h.g.max],.int .i64 (j:Int)] w' λe w''=>e=.returned (.tuple #[.int .i64 ((j*h.W:Nat):Int),.int .i64 0])/\HM W w'' L X { h with s:=a } x s k E D Q):=λw' a q=>q.iE hS (r:=j) hj;have HTp:Hid (∀w',HM W w' L X { h with s:=ak h.s j 1 } x s k E D Q->Calls Tryz.prog 159 #[.pointer (some ⟨L.tb,0,none⟩),.int .i64 (j:Int),.int .i64 ((j*h.W+h.W:Nat):Int)] w' λe w''=>e=.returned (.int .i64 0)/\HM W w'' L X { h with s:=ak h.s j 1,t:=ak h.t j ((j*h.W+h.W:Nat):Int) } x s k E D Q):=λw' q=>q.x9 hS (r:=j) hj (by show dB (ak h.s j 1 j);unfold ak;rw[if_pos rfl];exact .inl rfl) (by show((j*h.W:Nat):Int)<=((j*h.W+h.W:Nat):Int);omega) (by show((j*h.W+h.W:Nat):Int)<=((j*h.W+h.W:Nat):Int);omega);have hwp:=H.ok.ik;have hrw:=hDm.rw;have hmx:=hDm.mx;have hlim:j*h.W+h.W<=4194304:=by omega
 have hsum:IntKind.i64.wrap (((j*h.W:Nat):Int)+h.g.rw)=((j*h.W+h.W:Nat):Int):=by rw[hrw,IntWalk.i64_in _ ⟨by omega,by omega⟩];omega
 have HBn:Hid (∀w',Calls Tryz.prog 161 #[.int .i64 ((j*h.W:Nat):Int),.int .i64 ((j*h.W+h.W:Nat):Int)] w' λe w''=>e=.returned (.tuple #[.agg #[.int .i64 ((j*h.W:Nat):Int),.int .i64 ((j*h.W+h.W:Nat):Int)],.int .i64 0])/\Fr [] w' w''):=λw'=>by
  have:=xl ((j*h.W:Nat):Int) ((j*h.W+h.W:Nat):Int) w';unfold nuV nuX nuY nuE at this;rw[if_pos (by omega),if_pos (by omega),if_pos (by omega)]at this;exact this
 have HSt:Hid (∀w',HM W w' L X { h with s:=ak h.s j 1,t:=ak h.t j ((j*h.W+h.W:Nat):Int) } x s k E D Q->HM W ((w'.setCell ⟨L.bb,t*2,none⟩ (.int .i64 ((j*h.W:Nat):Int))).setCell ⟨L.bb,t*2+1,none⟩ (.int .i64 ((j*h.W+h.W:Nat):Int))) L X (el h t j) x s k E D Q):=λw' q=>q.CO hS (i:=t) ht (by omega) hlim;have HBf:Hid (∀w' a b,HM W w' L X { h with s:=a,t:=b } x s k E D Q->w'.cell? ⟨L.bb,t*2,none⟩=some (.int .i64 (h.bx t))/\w'.cell? ⟨L.bb,t*2+1,none⟩=some (.int .i64 (h.be t))/\w'.frozen? ⟨L.bb,t*2,none⟩=false/\w'.frozen? ⟨L.bb,t*2+1,none⟩=false/\L.bb<w'.heap.size):=λw' a b q=>by
  obtain⟨b0,b1⟩:=q.nZ (i:=t) ht;exact⟨b0,b1,q.hr.buf.frozen _,q.hr.buf.frozen _,q.hr.buf.lt⟩
 have HKf:Hid (∀w',HM W w' L X (el h t j) x s k E D Q->w'.cell? ⟨mb,1,none⟩=some (.int .i64 (t:Int))/\w'.cell? ⟨L.hb,28,none⟩=some (.slice (some ⟨L.bb,0,none⟩) h.T h.T)):=λw' q=>⟨(HMu.out _ _ _ q).2,q.hc.c28⟩;have NE1:mb≠L.bb:=H.CN hm;have NE2:L.hb≠L.bb:=H.hr.st.apart H.hr.buf (by decide);have ht1:(t:Int)<(h.T:Int):=by omega
 clear H hm hl hDm hmul hww hNm hwp hrw hmx;generalize hab:((j*h.W:Nat):Int)=a9 at *;generalize hae:((j*h.W+h.W:Nat):Int)=b9 at *;generalize (bn h.s 1 h.R).length=n9 at *;generalize L.cfg.bP=y9 at *;go_enter Tryz.func148,Tryz.ntmps148
 go_wp2_with fail
 go_cut [23] from 12 to 23 (λv wc=>v=.bool false/\∃w1,w1=wc/\HM W w1 L X h x s k E D Q)
 case first=>
  go_region_held3 (λw'=>w'.cell? ⟨L.hb,21,none⟩=some (.pointer (some ⟨L.tb,0,none⟩))/\w'.cell? ⟨L.hb,7,none⟩=some (.int .i64 y9))
   (first|with_reducible exact K0|go_keep)
   (first|(go_at_call 59;refine(HL.out _ HAd.out).mono ?_;rintro e w1 ⟨⟨A1,c1,rfl⟩,hA⟩;have HA1:=aa hA;have K0:=HK.out _ hA;clear hA))
  all_goals
   go_wp2_with fail
   go_meet
   case rel=>exact⟨rfl,_,rfl,HA1.out⟩
 case rest=>
  obtain⟨rfl,w1,rfl,hA1⟩:=hcut;have k21:=(HK.out _ hA1).1;have NH1:=af k21;have HN1:=aa (HN.out _ hA1);clear k0 hA1 K0 NH;go_wp2_with fail
  refine HN1.out.mono ?_;rintro e w2 ⟨rfl,hA⟩;have HA2:=aa hA;obtain⟨c14,c15,c16,c17,c18,c19,-,-,-,-,-,-,-,-,-,NH⟩:=HCe.out w2 (ak h.s j 1) h.t hA;clear hA k21 NH1 HN1;go_wp2_with fail
  refine(HBs.out w2 (ak h.s j 1) HA2.out).mono ?_;rintro e w3 ⟨rfl,hA⟩;have HA3:=aa hA;clear c14 c15 c16 c17 c18 c19 NH;have c15:=(HCe.out w3 (ak h.s j 1) h.t hA).c15;have c21:=(HCe.out w3 (ak h.s j 1) h.t hA).c21;have NH:=af c21;clear hA;go_wp2_with fail
  refine(HTp.out _ HA3.out).mono ?_;rintro e w4 ⟨rfl,hA⟩;have HA4:=aa hA;have HA4d:=aa (hA.fr0 hS (Fr.refl _ _).drew);have HK9:Hid (∀w',HM W w' L X { h with s:=ak h.s j 1,t:=ak h.t j b9 } x s k E D Q->w'.cell? ⟨mb,1,none⟩=some (.int .i64 (t:Int))/\w'.cell? ⟨L.hb,28,none⟩=some (.slice (some ⟨L.bb,0,none⟩) h.T h.T)):=λw' q=>⟨(HMu.out _ _ _ q).2,(HCe.out _ _ _ q).c28⟩;have K0:=HK9.out _ HA4d.out;clear c15 c21 NH hA;go_wp2_with fail
  go_region_held3 (λw'=>w'.cell? ⟨mb,1,none⟩=some (.int .i64 (t:Int))/\w'.cell? ⟨L.hb,28,none⟩=some (.slice (some ⟨L.bb,0,none⟩) h.T h.T))
   (first|with_reducible exact K0|exact HKf.out _ (HSt.out _ HA5.out)|go_keep)
   (first|(go_at_call 161;refine(HBn.out _).mono ?_;rintro e w5 ⟨rfl,hf⟩;have HA5:=aa (HA4d.out.fr0 hS hf);have K0:=HK9.out _ HA5.out;obtain⟨y0,y1,z0,z1,NB⟩:=HBf.out _ _ _ HA5.out;clear hf))
  all_goals
   go_wp2_with fail
   go_end0
   exact⟨rfl,HSt.out _ HA5.out⟩
end
section
variable {W w w':World}{L:HL}{X:HX}{h:HS}{x:HT}{s k:Nat}{E:aK}{D:Nat->Prop}{Q:World->Prop}{mb t sb:Nat}{m:MU}
theorem qt(hS:ah D Q)(H:HM W w L X h x s k E D Q)(hm:(mb,127,muV L.hb t sb m)∈E)(ht:t<h.T){n:Int}(hbg:h.g.jS n=false)(hn:1<=n)(hn2:n<=h.be t-h.bx t) :
  Calls Tryz.prog 126 #[.pointer (some ⟨mb,0,none⟩),.int .i64 n] w λe w'=>e=.returned (.tuple #[.int .i64 (h.bx t),.int .i64 0])/\HM W w' L X { h with bx:=ak h.bx t (h.bx t+n) } x s k E D Q:=by
 have HBg:Hid (∀w',HM W w' L X h x s k E D Q->Calls Tryz.prog 93 #[.agg #[.int .i64 h.g.words,.int .i64 h.g.rw,.int .i64 h.g.cw,.int .i64 h.g.regions,.int .i64 h.g.aF,.int .i64 h.g.max],.int .i64 n] w' λe w''=>e=.returned (.bool false)/\HM W w'' L X h x s k E D Q):=λw' q=>by
  refine(gM h.g n w' (by rw[q.dim.rw];omega)).mono ?_;rintro e w'' ⟨rfl,hf⟩;rw[hbg];exact⟨rfl,q.fr0 hS hf⟩
 have HLf:Hid (∀w',HM W w' L X h x s k E D Q->Calls Tryz.prog 146 #[.pointer (some ⟨L.bb,t*2,none⟩)] w' λe w''=>e=.returned (.int .i64 (h.be t-h.bx t))/\HM W w'' L X h x s k E D Q):=λw' q=>q.yb hS ht;have HMu:Hid (∀w' h' x',HM W w' L X h' x' s k E D Q->w'.cell? ⟨mb,0,none⟩=some (.pointer (some ⟨L.hb,0,none⟩))/\w'.cell? ⟨mb,1,none⟩=some (.int .i64 (t:Int))):=λw' h' x' q=>by
  have hb:=q.blk hm;exact⟨hb.cell 0,hb.cell 1⟩
 have HCe:Hid (∀w',HM W w' L X h x s k E D Q->fG w' L X h.g h.T):=λw' q=>q.hc;have HF0:Hid (∀w' i,HM W w' L X h x s k E D Q->HM W (w'.drewN i) L X h x s k E D Q):=λw' i q=>q.fr0 hS ((Fr.refl _ _).drewN _);have ht1:(t:Int)<(h.T:Int):=by omega
 have HA0:=aa H;obtain⟨c14,c15,c16,c17,c18,c19,-,-,-,-,-,-,-,-,-,NH⟩:=H.hc;have k0:=(HMu.out _ _ _ H).1;have HTk:Hid (∀w',HM W w' L X h x s k E D Q->Calls Tryz.prog 149 #[.pointer (some ⟨L.bb,t*2,none⟩),.int .i64 n] w' λe w''=>e=.returned (.tuple #[.int .i64 (h.bx t),.int .i64 0])/\HM W w'' L X { h with bx:=ak h.bx t (h.bx t+n) } x s k E D Q):=λw' q=>q.AL hS ht hn hn2;have hge:decide (h.be t-h.bx t<n)=false:=by simp;omega
 clear H hm hbg ht hn hn2;go_enter Tryz.func126,Tryz.ntmps126
 go_wp2_with fail
 refine(HBg.out _ HA0.out).mono ?_;rintro e w1 ⟨rfl,hA⟩;have HA1:=aa hA;obtain⟨k0',k1⟩:=HMu.out _ _ _ hA;have c28:=(HCe.out _ hA).c28;have NH1:=(HCe.out _ hA).lt;clear c14 c15 c16 c17 c18 c19 NH k0 hA;go_wp2_with fail
 go_quiet (fail)
 have HA2:=aa (HF0.out _ nq HA1.out);have HL2:=aa (HLf.out _ HA2.out);clear k0' k1 c28 NH1;go_wp2_with fail
 refine HL2.out.mono ?_;rintro e w2 ⟨rfl,hA⟩;have HA3:=aa hA;clear hA;have HT3:=aa (HTk.out _ HA3.out);go_wp2_with fail
 refine HT3.out.mono ?_;rintro e w3 ⟨rfl,hA⟩;have HA4:=aa hA;clear hA;go_wp2_with fail
 go_ret2
 exact⟨rfl,HA4.out⟩
theorem kt(hS:ah D Q)(H:HM W w L X h x s k E D Q)(hm:(mb,127,muV L.hb t sb m)∈E)(ht:t<h.T)(hB:h.t6){n:Int}(hbg:h.g.jS n=false)(hn:1<=n)(hnW:n<=(h.W:Int))(hn2:h.be t-h.bx t<n)(hy:((bn h.s 1 h.R).length:Int)<L.cfg.bP){j:Nat}(hl:dD h.s h.R j) :
  Calls Tryz.prog 126 #[.pointer (some ⟨mb,0,none⟩),.int .i64 n] w λe w'=>e=.returned (.tuple #[.int .i64 ((j*h.W:Nat):Int),.int .i64 0])/\HM W w' L X { el (bE h t) t j with bx:=ak (el (bE h t) t j).bx t (((j*h.W:Nat):Int)+n) } x s k E D Q:=by
 have HBg:Hid (∀w',HM W w' L X h x s k E D Q->Calls Tryz.prog 93 #[.agg #[.int .i64 h.g.words,.int .i64 h.g.rw,.int .i64 h.g.cw,.int .i64 h.g.regions,.int .i64 h.g.aF,.int .i64 h.g.max],.int .i64 n] w' λe w''=>e=.returned (.bool false)/\HM W w'' L X h x s k E D Q):=λw' q=>by
  refine(gM h.g n w' (by rw[q.dim.rw];omega)).mono ?_;rintro e w'' ⟨rfl,hf⟩;rw[hbg];exact⟨rfl,q.fr0 hS hf⟩
 have HLf:Hid (∀w',HM W w' L X h x s k E D Q->Calls Tryz.prog 146 #[.pointer (some ⟨L.bb,t*2,none⟩)] w' λe w''=>e=.returned (.int .i64 (h.be t-h.bx t))/\HM W w'' L X h x s k E D Q):=λw' q=>q.yb hS ht;have HMu:Hid (∀w' h' x',HM W w' L X h' x' s k E D Q->w'.cell? ⟨mb,0,none⟩=some (.pointer (some ⟨L.hb,0,none⟩))/\w'.cell? ⟨mb,1,none⟩=some (.int .i64 (t:Int))):=λw' h' x' q=>by
  have hb:=q.blk hm;exact⟨hb.cell 0,hb.cell 1⟩
 have HCe:Hid (∀w',HM W w' L X h x s k E D Q->fG w' L X h.g h.T):=λw' q=>q.hc;have HF0:Hid (∀w' i,HM W w' L X h x s k E D Q->HM W (w'.drewN i) L X h x s k E D Q):=λw' i q=>q.fr0 hS ((Fr.refl _ _).drewN _);have ht1:(t:Int)<(h.T:Int):=by omega
 have HA0:=aa H;obtain⟨c14,c15,c16,c17,c18,c19,-,-,-,-,-,-,-,-,-,NH⟩:=H.hc;have k0:=(HMu.out _ _ _ H).1;have HRt:Hid (∀w',HM W w' L X h x s k E D Q->Calls Tryz.prog 147 #[.pointer (some ⟨mb,0,none⟩)] w' λe w''=>e=.returned (.tuple #[])/\HM W w'' L X (bE h t) x s k E D Q):=λw' q=>jJ hS q hm ht hB;have HRf:Hid (∀w',HM W w' L X (bE h t) x s k E D Q->Calls Tryz.prog 148 #[.pointer (some ⟨mb,0,none⟩)] w' λe w''=>e=.returned (.tuple #[])/\HM W w'' L X (el (bE h t) t j) x s k E D Q):=λw' q=>md hS q hm ht hy hl;have HTk:Hid (∀w',HM W w' L X (el (bE h t) t j) x s k E D Q->Calls Tryz.prog 149 #[.pointer (some ⟨L.bb,t*2,none⟩),.int .i64 n] w' λe w''=>e=.returned (.tuple #[.int .i64 ((j*h.W:Nat):Int),.int .i64 0])/\HM W w'' L X { el (bE h t) t j with bx:=ak (el (bE h t) t j).bx t (((j*h.W:Nat):Int)+n) } x s k E D Q):=λw' q=>by
  have ex:(el (bE h t) t j).bx t=((j*h.W:Nat):Int):=by show ak _ t _ t=_;unfold ak;rw[if_pos rfl];rfl
  have ee:(el (bE h t) t j).be t=((j*h.W+h.W:Nat):Int):=by show ak _ t _ t=_;unfold ak;rw[if_pos rfl];rfl
  have:=q.AL hS (i:=t) ht hn (by rw[ex,ee];omega);rwa[ex]at this
 have hge:decide (h.be t-h.bx t<n)=true:=by simp;omega
 clear H hm hbg ht hn hnW hn2 hB hy hl;go_enter Tryz.func126,Tryz.ntmps126
 go_wp2_with fail
 refine(HBg.out _ HA0.out).mono ?_;rintro e w1 ⟨rfl,hA⟩;have HA1:=aa hA;obtain⟨k0',k1⟩:=HMu.out _ _ _ hA;have c28:=(HCe.out _ hA).c28;have NH1:=(HCe.out _ hA).lt;clear c14 c15 c16 c17 c18 c19 NH k0 hA;go_wp2_with fail
 go_quiet (fail)
 have HA2:=aa (HF0.out _ nq HA1.out);have HL2:=aa (HLf.out _ HA2.out);clear k0' k1 c28 NH1;go_wp2_with fail
 refine HL2.out.mono ?_;rintro e w2 ⟨rfl,hA⟩;have HA3:=aa hA;clear hA;have HR3:=aa (HRt.out _ HA3.out);go_wp2_with fail
 refine HR3.out.mono ?_;rintro e w3 ⟨rfl,hA⟩;have HR4:=aa (HRf.out _ hA);clear hA;go_wp2_with fail
 refine HR4.out.mono ?_;rintro e w4 ⟨rfl,hA⟩;have HT3:=aa (HTk.out _ hA);clear hA;go_wp2_with fail
 refine HT3.out.mono ?_;rintro e w5 ⟨rfl,hA⟩;have HA4:=aa hA;clear hA;go_wp2_with fail
 go_ret2
 exact⟨rfl,HA4.out⟩
end
section
variable {W w w':World}{L:HL}{X:HX}{h:HS}{x:HT}{s k:Nat}{E:aK}{D:Nat->Prop}{Q:World->Prop}{mb t sb:Nat}{m:MU}
theorem HM.make(hS:ah D Q)(H:HM W w L X h x s k E D Q){I S P:Nat}(hz:1<=S/\S<=1048576)(hP:P<S)(hn:I+S<=h.n) :
  Calls Tryz.prog 92 #[.pointer (some ⟨L.ab,0,none⟩),.int .i64 (I:Int),.int .i64 (S:Int),.int .i64 (P:Int)] w λe w'=>e=.returned (.int .i64 0)/\HM W w' L X { h with f:=upd (aB h.f I S (λ_=>0)) I (aY S P) } x s k E D Q:=
 H.post hS λown q=>q.make hz hP hn
theorem HM.push(hS:ah D Q)(H:HM W w L X h x s k E D Q){i:Nat}(hi:i<h.T)(hB:L.B<=64)(hl:(h.st i).length<L.B){r:Int}(hr:0<=r/\r<18446744073709551616) :
  Calls Tryz.prog 95 #[.pointer (some ⟨L.S i,0,none⟩),.int .u64 r] w λe w'=>e=.returned (.int .i64 0)/\HM W w' L X { h with st:=bk h.st i (h.st i++[r]) } x s k E D Q:=
 H.post hS λown q=>q.push hi hB hl hr
theorem HM.oq(hS:ah D Q)(H:HM W w L X h x s k E D Q){a z:Nat}(hz:1<=z)(hm:a+z<=h.n) :
  Calls Tryz.prog 94 #[.pointer (some ⟨X.ob,0,none⟩),.int .i64 (a:Int),.int .i64 (z:Int)] w λe w'=>e=.returned (.int .i64 0)/\HM W w' L X h { x with O:=obj x.cw x.O a z } s k E D Q:=
 H.post hS λown q=>q.oq hz hm
theorem HM.run(hS:ah D Q)(H:HM W w L X h x s k E D Q){c f z:Nat}(hc:1<=c)(hz1:(c-1)*h.W<z)(hz2:z<=c*h.W)(hl:eL h.s h.R c f) :
  Calls Tryz.prog 157 #[.pointer (some ⟨L.tb,0,none⟩),.int .i64 (c:Int),.int .i64 (z:Int)] w λe w'=>e=.returned (.tuple #[.int .i64 (f:Int),.int .i64 0])/\HM W w' L X { h with s:=ak (bg h.s f (f+c) λ_=>5) f 4,t:=bg h.t f (f+c) (bM h.W f z) } x s k E D Q:=
 H.post hS λown q=>q.run hc hz1 hz2 hl
theorem HM.sq(hS:ah D Q)(H:HM W w L X h x s k E D Q){c:Nat}{z:Int}(hc:1<=c)(hcm:c<=9223372036854775807)(hzm:z<=9223372036854775807)(hz:((c:Int)-1)*(h.W:Int)<z/\z<=(c:Int)*(h.W:Int))(hl:ns h.s h.R c) :
  Calls Tryz.prog 157 #[.pointer (some ⟨L.tb,0,none⟩),.int .i64 (c:Int),.int .i64 z] w λe w'=>e=.returned (.tuple #[.int .i64 0,.int .i64 6])/\HM W w' L X h x s k E D Q:=by
 have H0:=H;obtain⟨own,q,_⟩:=H;refine(q.sq hc hcm hzm hz hl).mono ?_;rintro e w' ⟨rfl,rfl⟩;exact⟨rfl,H0⟩
theorem HM.mut(hS:ah D Q)(hT:Tab W){f:FuncId}{args:Array Value}{P:Ending->Prop}{m':MU}(H:HM W w L X h x s k ((mb,127,muV L.hb t sb m)::E) D Q)(hne:∀q,q∈E->q.1≠mb)
  (hc:Blk w mb 127 (muV L.hb t sb m)->Calls Tryz.prog f args w λe w'=>P e/\Blk w' mb 127 (muV L.hb t sb m')/\Fr [mb] w w') :
  Calls Tryz.prog f args w λe w'=>P e/\HM W w' L X h x s k ((mb,127,muV L.hb t sb m')::E) D Q:=
 (hc (H.blk (List.mem_cons_self ..))).mono (by
  rintro e w' ⟨hp,hb,hf⟩;exact⟨hp,H.l7 hS hT hf hb hne⟩)
end
def HS.hG(h:HS):GS:={ G0 with st:=h.st }
section
variable {W w w':World}{L:HL}{X:HX}{own:Nat->Nat}{h:HS}{x:HT}{s k:Nat}{E:aK}{D:Nat->Prop}{Q:World->Prop}{mb t sb:Nat}{m:MU}
theorem HM.sat(hS:ah D Q)(H:HM W w L X h x s k E D Q){i:Nat}(hi:i<h.T)(a:Int) :
  Calls Tryz.prog 90 #[.pointer (some ⟨L.S i,0,none⟩),.int .i64 a] w λe w'=>e=.returned (.tuple #[.int .u64 (aj (h.st i) a),.int .i64 (am (h.st i) a)])/\HM W w' L X h x s k E D Q:=
 H.see hS λown ⟨tg,FS,H⟩=>(tH (H.stk i hi) a).mono (by rintro e w' ⟨rfl,rfl⟩;exact⟨rfl,Fr.refl _ _⟩)
theorem HM.CP(hS:ah D Q)(H:HM W w L X h x s k E D Q){i:Nat}(hi:i<h.T) :
  Calls Tryz.prog 20 #[.pointer (some ⟨L.S i,0,none⟩)] w λe w'=>e=.returned (.int .i64 ((h.st i).length:Int))/\HM W w' L X h x s k E D Q:=
 H.see hS λown ⟨tg,FS,H⟩=>(wQ (H.stk i hi)).mono (by rintro e w' ⟨rfl,rfl⟩;exact⟨rfl,Fr.refl _ _⟩)
theorem cK.nI(H:cK W w L X own h x s k){i:Nat}(hi:i<h.T){l:List Int}{f:FuncId}{args:Array Value}{v:Value}(hl:l.length<=64)(hr:∀r,r∈l->0<=r/\r<18446744073709551616)
  (hc:∀F,HkP w (L.S i) F L.B (h.st i)->Calls Tryz.prog f args w (kZ w F (λw' F'=>HkP w' (L.S i) F' L.B l) v)) :
  Calls Tryz.prog f args w (ip W w L X own { h with st:=bk h.st i l } x s k v):=by
 obtain⟨tg,FS,H,h1,h2⟩:=H;refine(hc _ (H.stk i hi)).mono ?_;rintro e w' ⟨F',rfl,hq,hf,hn⟩;obtain⟨own',k1,k2,k3⟩:=H.stack hi hf hq hn hl hr;have hF:∀b,b∈FS i->own b≠0:=λb hb=>by rw[H.io i hi b hb];omega
 have hsz:=h1.size;refine⟨own',rfl,⟨tg,_,k1,h1.trans hf (λb hb=>.inr (h2 b (hF b hb))),λb hb=>?_⟩,⟨_,hf,hF⟩,k3⟩
 ·rcases k2 b hb with h3|h3
  ·exact h2 b h3
  ·omega
theorem HM.qv(hS:ah D Q)(H:HM W w L X h x s k E D Q){i:Nat}(hi:i<h.T)(hB:L.B<=64)(hl:(h.st i).length<=L.B){r:Int}(hr:0<=r/\r<18446744073709551616) :
  Calls Tryz.prog 95 #[.pointer (some ⟨L.S i,0,none⟩),.int .u64 r] w λe w'=>e=.returned (.int .i64 (ay L.B (h.st i)))/\HM W w' L X { h with st:=bk h.st i (aH L.B (h.st i) r) } x s k E D Q:=
 H.post hS λown q=>q.nI hi (by have:=kY hl r;omega) (λy hy=>by
  unfold aH at hy;split at hy
  ·rcases List.mem_append.1 hy with h3|h3
   ·exact H.ok.rok i hi y h3
   ·simp at h3;subst h3;exact hr
  ·exact H.ok.rok i hi y hy) (λF hk=>mI hk hl hB r)
theorem HM.CQ(hS:ah D Q)(H:HM W w L X h x s k E D Q){i:Nat}(hi:i<h.T)(hB:L.B<=64)(hl:(h.st i).length<=L.B) :
  Calls Tryz.prog 129 #[.pointer (some ⟨L.S i,0,none⟩)] w λe w'=>e=.returned (.tuple #[.int .u64 (fu (h.st i)),.int .i64 (cG (h.st i))])/\HM W w' L X { h with st:=bk h.st i (dM (h.st i)) } x s k E D Q:=
 H.post hS λown q=>q.nI hi (by have:=mF hl;omega) (λy hy=>H.ok.rok i hi y (by unfold dM at hy;exact List.mem_of_mem_take hy)) (λF hk=>wT hk hl hB)
theorem HM.rA(H:HM W w L X h x s k E D Q)(hT:0<h.T):∃gb go,L.rA=some ⟨gb,go,none⟩:=by
 obtain⟨gb,go,hA,_⟩:=H.hr.row.pos (by omega);exact⟨gb,go,hA⟩
theorem HM.Co(H:HM W w L X h x s k E D Q){gb go:Nat}(hA:L.rA=some ⟨gb,go,none⟩){i:Nat}(hi:i<h.T):w.cell? ⟨gb,go+i,none⟩=some (.pointer (some ⟨L.S i,0,none⟩)):=by
 obtain⟨gb',go',hA',hG,NG,hcell,hfz,_⟩:=H.hr.row.pos (by omega);rw[hA]at hA';injection hA' with hA';injection hA' with e1 e2;subst e1 e2;rw[hcell i hi];unfold jz;simp[hi]
theorem me(a:Int)(w:World):Calls Tryz.prog 133 #[.int .i64 a] w λe w'=>e=.returned (.int .i64 (eu a))/\w=w':=by
 unfold eu;by_cases h1:a<0
 ·rw[if_neg (by omega)];go_enter Tryz.func133,Tryz.ntmps133
  go_wp2
  go_ret
  exact⟨rfl,rfl⟩
 ·by_cases h2:a>3
  ·rw[if_neg (by omega)];go_enter Tryz.func133,Tryz.ntmps133
   go_wp2
   go_ret
   exact⟨rfl,rfl⟩
  ·rw[if_pos (by omega)];go_enter Tryz.func133,Tryz.ntmps133
   go_wp2
   go_ret
   exact⟨rfl,rfl⟩
theorem qw(hS:ah D Q)(H:HM W w L X h x s k E D Q){i:Nat}(hi:i<h.T)(a:Int) :
  Calls Tryz.prog 132 #[.pointer (some ⟨L.S i,0,none⟩),.int .i64 a] w λe w'=>e=.returned (.tuple #[.bool (eJ h.hG i a),.int .i64 (am (h.st i) a)])/\HM W w' L X h x s k E D Q:=by
 have HA:=aa (H.sat hS hi a);have ev:eJ h.hG i a=(decide (am (h.st i) a=0)&&(aj (h.st i) a==0)):=by
  unfold eJ am;show decide (aG (h.st i) a/\aj (h.st i) a=0)=_;by_cases e:aG (h.st i) a
  ·rw[Bool.eq_iff_iff];simp[e]
  ·simp[e]
 rw[ev];generalize aj (h.st i) a=r at *;have hz:am (h.st i) a=0\/am (h.st i) a=10:=by unfold am;split <;> simp
 generalize am (h.st i) a=z at *;clear H hi ev;rcases hz with rfl|rfl
 ·go_enter Tryz.func132,Tryz.ntmps132
  go_wp2_with fail
  refine HA.out.mono ?_;rintro e w1 ⟨rfl,hA⟩;have HA1:=aa hA;clear hA HA;go_wp2_with fail
  go_ret2
  exact⟨by simp,HA1.out⟩
 ·go_enter Tryz.func132,Tryz.ntmps132
  go_wp2_with fail
  refine HA.out.mono ?_;rintro e w1 ⟨rfl,hA⟩;have HA1:=aa hA;clear hA HA;go_wp2_with fail
  go_ret2
  exact⟨by simp,HA1.out⟩
theorem qx(hS:ah D Q)(H:HM W w L X h x s k E D Q){i:Nat}(hi:i<h.T)(a b:Int) :
  Calls Tryz.prog 131 #[.pointer (some ⟨L.S i,0,none⟩),.int .i64 a,.int .i64 b] w λe w'=>e=.returned (.tuple #[.bool (eI h.hG i a b),.int .i64 (eH h.hG i a b)])/\HM W w' L X h x s k E D Q:=by
 have HA:=aa (H.sat hS hi a);have HB:Hid (∀w',HM W w' L X h x s k E D Q->Calls Tryz.prog 90 #[.pointer (some ⟨L.S i,0,none⟩),.int .i64 b] w' λe w''=>e=.returned (.tuple #[.int .u64 (aj (h.st i) b),.int .i64 (am (h.st i) b)])/\HM W w'' L X h x s k E D Q):=λw' q=>q.sat hS hi b;have ev:eI h.hG i a b=(decide (am (h.st i) a=0)&&(decide (am (h.st i) b=0)&&(aj (h.st i) a==aj (h.st i) b))):=by
  unfold eI am;show decide (aG (h.st i) a/\aG (h.st i) b/\aj (h.st i) a=aj (h.st i) b)=_;by_cases e:aG (h.st i) a
  ·by_cases e':aG (h.st i) b
   ·rw[Bool.eq_iff_iff];simp[e,e']
   ·simp[e,e']
  ·simp[e]
 have ee:eH h.hG i a b=if am (h.st i) a=0 then am (h.st i) b else 10:=by
  unfold eH;show(if aG (h.st i) a then am (h.st i) b else 10)=_;by_cases e:aG (h.st i) a
  ·rw[if_pos e,if_pos (by unfold am;rw[if_pos e])]
  ·rw[if_neg e,if_neg (by unfold am;rw[if_neg e];decide)]
 rw[ev,ee];have hz:am (h.st i) a=0\/am (h.st i) a=10:=by unfold am;split <;> simp
 have hy:am (h.st i) b=0\/am (h.st i) b=10:=by unfold am;split <;> simp
 generalize aj (h.st i) a=r at *;generalize aj (h.st i) b=q at *;generalize am (h.st i) a=z at *;generalize am (h.st i) b=y at *;clear H hi ev ee;rcases hz with rfl|rfl
 ·rcases hy with rfl|rfl
  ·go_enter Tryz.func131,Tryz.ntmps131
   go_wp2_with fail
   refine HA.out.mono ?_;rintro e w1 ⟨rfl,hA⟩;have HA1:=aa (HB.out _ hA);clear hA HA HB;go_wp2_with fail
   refine HA1.out.mono ?_;rintro e w2 ⟨rfl,hA⟩;have HA2:=aa hA;clear hA HA1;go_wp2_with fail
   go_ret2
   exact⟨by simp,HA2.out⟩
  ·go_enter Tryz.func131,Tryz.ntmps131
   go_wp2_with fail
   refine HA.out.mono ?_;rintro e w1 ⟨rfl,hA⟩;have HA1:=aa (HB.out _ hA);clear hA HA HB;go_wp2_with fail
   refine HA1.out.mono ?_;rintro e w2 ⟨rfl,hA⟩;have HA2:=aa hA;clear hA HA1;go_wp2_with fail
   go_ret2
   exact⟨by simp,HA2.out⟩
 ·clear HB hy;go_enter Tryz.func131,Tryz.ntmps131
  go_wp2_with fail
  refine HA.out.mono ?_;rintro e w1 ⟨rfl,hA⟩;have HA1:=aa hA;clear hA HA;go_wp2_with fail
  go_ret2
  exact⟨by simp,HA1.out⟩
theorem lL(hS:ah D Q)(H:HM W w L X h x s k E D Q)(hm:(mb,127,muV L.hb t sb m)∈E)(ht:t<h.T)(hB:L.B<=64)(hl:∀i,i<h.T->(h.st i).length<=L.B)(a b:Int) :
  Calls Tryz.prog 130 #[.pointer (some ⟨mb,0,none⟩),.int .i64 a,.int .i64 b] w λe w'=>e=.returned (.int .i64 (gq L.B h.T h.hG t a b))/\HM W w' L X { h with st:=(di L.B h.T h.hG t a b).st } x s k E D Q:=by
 have HK:Hid (Calls Tryz.prog 89 #[.pointer (some ⟨mb,0,none⟩)] w λe w''=>e=.returned (.pointer (some ⟨L.S t,0,none⟩))/\HM W w'' L X h x s k E D Q):=(cn (H.blk hm) H.hr ht).mono (by rintro e w'' ⟨rfl,hf⟩;exact⟨rfl,H.fr0 hS hf⟩);have HA:Hid (∀w',HM W w' L X h x s k E D Q->Calls Tryz.prog 90 #[.pointer (some ⟨L.S t,0,none⟩),.int .i64 a] w' λe w''=>e=.returned (.tuple #[.int .u64 (aj (h.st t) a),.int .i64 (am (h.st t) a)])/\HM W w'' L X h x s k E D Q):=λw' q=>q.sat hS ht a;obtain⟨gb,go,hrA⟩:=H.rA (by omega);have HCe:Hid (∀w',HM W w' L X h x s k E D Q->w'.cell? ⟨mb,0,none⟩=some (.pointer (some ⟨L.hb,0,none⟩))/\w'.cell? ⟨L.hb,27,none⟩=some (.slice (some ⟨gb,go,none⟩) h.T L.rc)):=λw' q=>⟨(q.blk hm).cell 0,by rw[<- hrA];exact q.hr.cR⟩;have hTm:=H.ok.tm;have hsame:∀i,bk h.st i (h.st i)=h.st:=λi=>by funext j;unfold bk;split <;> simp_all
 have es:gq L.B h.T h.hG t a b=if aG (h.st t) a then (if aA h.T b then ay L.B (h.st b.toNat) else 2) else 10:=rfl
 have eS:(di L.B h.T h.hG t a b).st=if aG (h.st t) a/\aA h.T b then bk h.st b.toNat (aH L.B (h.st b.toNat) (aj (h.st t) a)) else h.st:=by
  unfold di;show(if aG (h.st t) a/\aA h.T b then h.hG.push L.B b.toNat (aj (h.st t) a) else h.hG).st=_;split <;> rfl
 rw[es,eS];by_cases hi:aG (h.st t) a
 ·have e2:am (h.st t) a=0:=by unfold am;rw[if_pos hi]
  have hrk:0<=aj (h.st t) a/\aj (h.st t) a<18446744073709551616:=by
   unfold aj;rw[if_pos hi];unfold aG at hi;have hk:a.toNat<(h.st t).length:=by omega
   exact H.ok.rok t ht _ (by simp[hk])
  rw[e2]at HA;rw[if_pos hi];by_cases hb:aA h.T b
  ·rw[if_pos hb,if_pos ⟨hi,hb⟩];unfold aA at hb;obtain⟨q,rfl⟩:=Int.eq_ofNat_of_zero_le hb.1;have hq:q<h.T:=by omega
   have hq':(q:Int)<(h.T:Int):=by omega
   rw[Int.toNat_natCast];have g1:decide ((q:Int)<0)=false:=by simp
   have g2:decide ((q:Int)>=(h.T:Int))=false:=by simp;omega
   have HRc:Hid (∀w',HM W w' L X h x s k E D Q->w'.cell? ⟨gb,go+q,none⟩=some (.pointer (some ⟨L.S q,0,none⟩))):=λw' y=>y.Co hrA hq;have HP:Hid (∀w',HM W w' L X h x s k E D Q->Calls Tryz.prog 95 #[.pointer (some ⟨L.S q,0,none⟩),.int .u64 (aj (h.st t) a)] w' λe w''=>e=.returned (.int .i64 (ay L.B (h.st q)))/\HM W w'' L X { h with st:=bk h.st q (aH L.B (h.st q) (aj (h.st t) a)) } x s k E D Q):=λw' y=>y.qv hS hq hB (hl q hq) hrk;have HF0:Hid (∀w' i,HM W w' L X h x s k E D Q->HM W (w'.drewN i) L X h x s k E D Q):=λw' i q=>q.fr0 hS ((Fr.refl _ _).drewN _);clear H hm hb hi e2 es eS hl hB hsame hrk hrA;generalize aj (h.st t) a=r at *;generalize ay L.B (h.st q)=er at *;go_enter Tryz.func130,Tryz.ntmps130
   go_wp2_with fail
   refine HK.out.mono ?_;rintro e w1 ⟨rfl,hA⟩;have HA1:=aa (HA.out _ hA);clear hA HK;go_wp2_with fail
   refine HA1.out.mono ?_;rintro e w2 ⟨rfl,hA⟩;have HA2:=aa hA;obtain⟨k0,k27⟩:=HCe.out _ hA;have kr:=HRc.out _ hA;have N1:=af k0;have N2:=af k27;have N3:=af kr;clear hA HA1;go_wp2_with fail
   refine(HP.out _ HA2.out).mono ?_;rintro e w3 ⟨rfl,hA⟩;have HA3:=aa hA;clear hA k0 k27 kr;go_wp2_with fail
   go_ret
   exact⟨rfl,HA3.out⟩
  ·rw[if_neg hb,if_neg (λe=>hb e.2)];have hb2:b<0\/(¬ b<0/\(h.T:Int)<=b):=by unfold aA at hb;omega
   have HSm:Hid (∀w',HM W w' L X h x s k E D Q->HM W w' L X { h with st:=h.st } x s k E D Q):=λw' q=>q;clear H hm hb hi e2 es eS hl hB hsame hrk hrA;generalize aj (h.st t) a=r at *;rcases hb2 with hb|⟨hb,hb3⟩
   ·have g1:decide (b<0)=true:=by simpa using hb
    go_enter Tryz.func130,Tryz.ntmps130
    go_wp2_with fail
    refine HK.out.mono ?_;rintro e w1 ⟨rfl,hA⟩;have HA1:=aa (HA.out _ hA);clear hA HK;go_wp2_with fail
    refine HA1.out.mono ?_;rintro e w2 ⟨rfl,hA⟩;have HA2:=aa hA;clear hA HA1;go_wp2_with fail
    go_ret
    exact⟨rfl,HSm.out _ HA2.out⟩
   ·have g1:decide (b<0)=false:=by simpa using hb
    have g2:decide (b>=(h.T:Int))=true:=by simpa using hb3
    have g3:decide ((h.T:Int)<=b)=true:=by simpa using hb3
    go_enter Tryz.func130,Tryz.ntmps130
    go_wp2_with fail
    refine HK.out.mono ?_;rintro e w1 ⟨rfl,hA⟩;have HA1:=aa (HA.out _ hA);clear hA HK;go_wp2_with fail
    refine HA1.out.mono ?_;rintro e w2 ⟨rfl,hA⟩;have HA2:=aa hA;obtain⟨k0,k27⟩:=HCe.out _ hA;have N1:=af k0;have N2:=af k27;clear hA HA1;go_wp2_with fail
    go_ret
    exact⟨rfl,HSm.out _ HA2.out⟩
 ·have e2:am (h.st t) a=10:=by unfold am;rw[if_neg hi]
  rw[e2]at HA;rw[if_neg hi,if_neg (λe=>hi e.1)];have HSm:Hid (∀w',HM W w' L X h x s k E D Q->HM W w' L X { h with st:=h.st } x s k E D Q):=λw' q=>q;clear H hm hi e2 es eS hl hB hsame hrA;generalize aj (h.st t) a=r at *;go_enter Tryz.func130,Tryz.ntmps130
  go_wp2_with fail
  refine HK.out.mono ?_;rintro e w1 ⟨rfl,hA⟩;have HA1:=aa (HA.out _ hA);clear hA HK;go_wp2_with fail
  refine HA1.out.mono ?_;rintro e w2 ⟨rfl,hA⟩;have HA2:=aa hA;clear hA HA1;go_wp2_with fail
  go_ret
  exact⟨rfl,HSm.out _ HA2.out⟩
end
end Go.Proofs.YtimlkjppaalfaaaGreatDoor
