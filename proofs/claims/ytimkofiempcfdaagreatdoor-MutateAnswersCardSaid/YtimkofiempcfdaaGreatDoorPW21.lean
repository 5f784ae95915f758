/- Several texts joined (pack.py): Uf Ug Uh Uq Zc. -/
import Derived.Test.YtimkofiempcfdaaGreatDoorPW20
import Derived.WalkKit
import Derived.BigQuiet
import Derived.Deep.CutRange
import Derived.Deep.RegionHeld3
import Derived.Test.YtimkofiempcfdaaGreatDoorPW18
import Derived.Test.YtimkofiempcfdaaGreatDoorPW19
set_option linter.unusedVariables false
set_option linter.unusedSimpArgs false
set_option maxHeartbeats 3200000
set_option maxRecDepth 100000
namespace Go.Proofs.YtimkofiempcfdaaGreatDoor
open Go.RowKit Go.Gl HS
section
variable {W w w':World}{L:HL}{X:HX}{h:HS}{x:HT}{s k:Nat}{E:aK}{D:Nat->Prop}{Q:World->Prop}{mb t sb:Nat}{m:MU}
theorem HM.Dd(H:HM W w L X h x s k E D Q){b:Nat}{ty:TypeId}{cs:Array Value}(hb:(b,ty,cs)∈E):b≠L.bb:=by
 obtain⟨own,⟨tg,FS,H,h1,h2⟩,hE,hD,hQ⟩:=H;intro e;have:=(hE _ hb).2.1;have h3:=H.o1.2.1;simp only at this;rw[e,h3]at this;cases this
theorem HM.De(hS:ah D Q)(H:HM W w L X h x s k E D Q){i:Nat}(hi:i<h.T){a b:Nat}(ha:a<=b)(hb:b<=4194304) :
  HM W ((w.setCell ⟨L.bb,i*2,none⟩ (.int .i64 (a:Int))).setCell ⟨L.bb,i*2+1,none⟩ (.int .i64 (b:Int))) L X { h with bx:=ak h.bx i (a:Int),be:=ak h.be i (b:Int) } x s k E D Q:=by
 have hbb:=(H.hr.buf.put (i*2) (.int .i64 (a:Int))).put (i*2+1) (.int .i64 (b:Int));have e0:=ke h.T h.bx h.be (i:=i) (a:Int) hi;have e1:=nN h.T (ak h.bx i (a:Int)) h.be (i:=i) (b:Int) hi;rw[e0,e1]at hbb;refine H.buffer hS (aR (aR (Fr.refl _ _) (by simp) _ _) (by simp) _ _) hbb (λj hj=>?_);have:=H.ok.bok j hj;unfold ak;split <;> omega
theorem mv(hS:ah D Q)(H:HM W w L X h x s k E D Q)(hm:(mb,122,muV L.hb t sb m)∈E)(ht:t<h.T)(hy:((bN h.s 1 h.R).length:Int)<L.cfg.bH){j:Nat}(hl:du h.s h.R j) :
  Calls Tryz.prog 166 #[.pointer (some ⟨mb,0,none⟩)] w λe w'=>e=.returned (.tuple #[])/\HM W w' L X (ek h t j) x s k E D Q:=by
 have HAd:=aa (H.fr0 hS (Fr.refl _ _).drew);have HL:=aa (λw' (q:HM W w' L X h x s k E D Q)=>q.x8 hS 1);have HN:=aa (λw' (q:HM W w' L X h x s k E D Q)=>q.take hS (y:=1) (.inl rfl) hl);have HK:Hid (∀w',HM W w' L X h x s k E D Q->w'.cell? ⟨L.hb,21,none⟩=some (.pointer (some ⟨L.tb,0,none⟩))/\w'.cell? ⟨L.hb,7,none⟩=some (.int .i64 L.cfg.bH)):=λw' q=>⟨q.hc.c21,q.bH⟩;have HMu:Hid (∀w' h' x',HM W w' L X h' x' s k E D Q->w'.cell? ⟨mb,0,none⟩=some (.pointer (some ⟨L.hb,0,none⟩))/\w'.cell? ⟨mb,1,none⟩=some (.int .i64 (t:Int))):=λw' h' x' q=>by
  have hb:=q.blk hm;exact⟨hb.cell 0,hb.cell 1⟩
 have k0:w.cell? ⟨mb,0,none⟩=some (.pointer (some ⟨L.hb,0,none⟩)):=(H.blk hm).cell 0;have K0:=HK.out _ HAd.out;have NH:=ae K0.1;have hyB:decide (((bN h.s 1 h.R).length:Int)>=L.cfg.bH)=false:=by simpa using hy
 have hyC:decide (L.cfg.bH<=((bN h.s 1 h.R).length:Int))=false:=by simpa using hy
 have hj:j<h.R:=hl.1;have hDm:=H.dim;have hmul:j*h.W+h.W<=h.R*h.W:=jr hj;have hww:=hDm.wd;have hNm:=H.ok.dF;have HCe:Hid (∀w' a b,HM W w' L X { h with s:=a,t:=b } x s k E D Q->fx w' L X h.g h.T):=λw' a b q=>q.hc;have HBs:Hid (∀w' a,HM W w' L X { h with s:=a } x s k E D Q->Calls Tryz.prog 74 #[.agg #[.int .i64 h.g.words,.int .i64 h.g.rw,.int .i64 h.g.cw,.int .i64 h.g.regions,.int .i64 h.g.aG,.int .i64 h.g.max],.int .i64 (j:Int)] w' λe w''=>e=.returned (.tuple #[.int .i64 ((j*h.W:Nat):Int),.int .i64 0])/\HM W w'' L X { h with s:=a } x s k E D Q):=λw' a q=>q.iO hS (r:=j) hj;have HTp:Hid (∀w',HM W w' L X { h with s:=ak h.s j 1 } x s k E D Q->Calls Tryz.prog 177 #[.pointer (some ⟨L.tb,0,none⟩),.int .i64 (j:Int),.int .i64 ((j*h.W+h.W:Nat):Int)] w' λe w''=>e=.returned (.int .i64 0)/\HM W w'' L X { h with s:=ak h.s j 1,t:=ak h.t j ((j*h.W+h.W:Nat):Int) } x s k E D Q):=λw' q=>q.x6 hS (r:=j) hj (by show dr (ak h.s j 1 j);unfold ak;rw[if_pos rfl];exact .inl rfl) (by show((j*h.W:Nat):Int)<=((j*h.W+h.W:Nat):Int);omega) (by show((j*h.W+h.W:Nat):Int)<=((j*h.W+h.W:Nat):Int);omega);have hwp:=H.ok.iW;have hrw:=hDm.rw;have hmx:=hDm.mx;have hlim:j*h.W+h.W<=4194304:=by omega
 have hsum:IntKind.i64.wrap (((j*h.W:Nat):Int)+h.g.rw)=((j*h.W+h.W:Nat):Int):=by rw[hrw,IntWalk.i64_in _ ⟨by omega,by omega⟩];omega
 have HBn:Hid (∀w',Calls Tryz.prog 179 #[.int .i64 ((j*h.W:Nat):Int),.int .i64 ((j*h.W+h.W:Nat):Int)] w' λe w''=>e=.returned (.tuple #[.agg #[.int .i64 ((j*h.W:Nat):Int),.int .i64 ((j*h.W+h.W:Nat):Int)],.int .i64 0])/\Fr [] w' w''):=λw'=>by
  have:=xB ((j*h.W:Nat):Int) ((j*h.W+h.W:Nat):Int) w';unfold nuV nuX nuY nuE at this;rw[if_pos (by omega),if_pos (by omega),if_pos (by omega)]at this;exact this
 have HSt:Hid (∀w',HM W w' L X { h with s:=ak h.s j 1,t:=ak h.t j ((j*h.W+h.W:Nat):Int) } x s k E D Q->HM W ((w'.setCell ⟨L.bb,t*2,none⟩ (.int .i64 ((j*h.W:Nat):Int))).setCell ⟨L.bb,t*2+1,none⟩ (.int .i64 ((j*h.W+h.W:Nat):Int))) L X (ek h t j) x s k E D Q):=λw' q=>q.De hS (i:=t) ht (by omega) hlim;have HBf:Hid (∀w' a b,HM W w' L X { h with s:=a,t:=b } x s k E D Q->w'.cell? ⟨L.bb,t*2,none⟩=some (.int .i64 (h.bx t))/\w'.cell? ⟨L.bb,t*2+1,none⟩=some (.int .i64 (h.be t))/\w'.frozen? ⟨L.bb,t*2,none⟩=false/\w'.frozen? ⟨L.bb,t*2+1,none⟩=false/\L.bb<w'.heap.size):=λw' a b q=>by
  obtain⟨b0,b1⟩:=q.oE (i:=t) ht;exact⟨b0,b1,q.hr.buf.frozen _,q.hr.buf.frozen _,q.hr.buf.lt⟩
 have HKf:Hid (∀w',HM W w' L X (ek h t j) x s k E D Q->w'.cell? ⟨mb,1,none⟩=some (.int .i64 (t:Int))/\w'.cell? ⟨L.hb,28,none⟩=some (.slice (some ⟨L.bb,0,none⟩) h.T h.T)):=λw' q=>⟨(HMu.out _ _ _ q).2,q.hc.c28⟩;have NE1:mb≠L.bb:=H.Dd hm;have NE2:L.hb≠L.bb:=H.hr.st.apart H.hr.buf (by decide);have ht1:(t:Int)<(h.T:Int):=by omega
 clear H hm hl hDm hmul hww hNm hwp hrw hmx;generalize hab:((j*h.W:Nat):Int)=a9 at *;generalize hae:((j*h.W+h.W:Nat):Int)=b9 at *;generalize (bN h.s 1 h.R).length=n9 at *;generalize L.cfg.bH=y9 at *;go_enter Tryz.func166,Tryz.ntmps166
 go_wp2_with fail
 go_cut [23] from 12 to 23 (λv wc=>v=.bool false/\∃w1,w1=wc/\HM W w1 L X h x s k E D Q)
 case first=>
  go_region_held3 (λw'=>w'.cell? ⟨L.hb,21,none⟩=some (.pointer (some ⟨L.tb,0,none⟩))/\w'.cell? ⟨L.hb,7,none⟩=some (.int .i64 y9))
   (first|with_reducible exact K0|go_keep)
   (first|(go_at_call 75;refine(HL.out _ HAd.out).mono ?_;rintro e w1 ⟨⟨A1,c1,rfl⟩,hA⟩;have HA1:=aa hA;have K0:=HK.out _ hA;clear hA))
  all_goals
   go_wp2_with fail
   go_meet
   case rel=>exact⟨rfl,_,rfl,HA1.out⟩
 case rest=>
  obtain⟨rfl,w1,rfl,hA1⟩:=hcut;have k21:=(HK.out _ hA1).1;have NH1:=ae k21;have HN1:=aa (HN.out _ hA1);clear k0 hA1 K0 NH;go_wp2_with fail
  refine HN1.out.mono ?_;rintro e w2 ⟨rfl,hA⟩;have HA2:=aa hA;obtain⟨c14,c15,c16,c17,c18,c19,-,-,-,-,-,-,-,-,-,NH⟩:=HCe.out w2 (ak h.s j 1) h.t hA;clear hA k21 NH1 HN1;go_wp2_with fail
  refine(HBs.out w2 (ak h.s j 1) HA2.out).mono ?_;rintro e w3 ⟨rfl,hA⟩;have HA3:=aa hA;clear c14 c15 c16 c17 c18 c19 NH;have c15:=(HCe.out w3 (ak h.s j 1) h.t hA).c15;have c21:=(HCe.out w3 (ak h.s j 1) h.t hA).c21;have NH:=ae c21;clear hA;go_wp2_with fail
  refine(HTp.out _ HA3.out).mono ?_;rintro e w4 ⟨rfl,hA⟩;have HA4:=aa hA;have HA4d:=aa (hA.fr0 hS (Fr.refl _ _).drew);have HK9:Hid (∀w',HM W w' L X { h with s:=ak h.s j 1,t:=ak h.t j b9 } x s k E D Q->w'.cell? ⟨mb,1,none⟩=some (.int .i64 (t:Int))/\w'.cell? ⟨L.hb,28,none⟩=some (.slice (some ⟨L.bb,0,none⟩) h.T h.T)):=λw' q=>⟨(HMu.out _ _ _ q).2,(HCe.out _ _ _ q).c28⟩;have K0:=HK9.out _ HA4d.out;clear c15 c21 NH hA;go_wp2_with fail
  go_region_held3 (λw'=>w'.cell? ⟨mb,1,none⟩=some (.int .i64 (t:Int))/\w'.cell? ⟨L.hb,28,none⟩=some (.slice (some ⟨L.bb,0,none⟩) h.T h.T))
   (first|with_reducible exact K0|exact HKf.out _ (HSt.out _ HA5.out)|go_keep)
   (first|(go_at_call 179;refine(HBn.out _).mono ?_;rintro e w5 ⟨rfl,hf⟩;have HA5:=aa (HA4d.out.fr0 hS hf);have K0:=HK9.out _ HA5.out;obtain⟨y0,y1,z0,z1,NB⟩:=HBf.out _ _ _ HA5.out;clear hf))
  all_goals
   go_wp2_with fail
   go_end0
   exact⟨rfl,HSt.out _ HA5.out⟩
end
section
variable {W w w':World}{L:HL}{X:HX}{h:HS}{x:HT}{s k:Nat}{E:aK}{D:Nat->Prop}{Q:World->Prop}{mb t sb:Nat}{m:MU}
theorem qK(hS:ah D Q)(H:HM W w L X h x s k E D Q)(hm:(mb,122,muV L.hb t sb m)∈E)(ht:t<h.T){n:Int}(hbg:h.g.jx n=false)(hn:1<=n)(hn2:n<=h.be t-h.bx t) :
  Calls Tryz.prog 144 #[.pointer (some ⟨mb,0,none⟩),.int .i64 n] w λe w'=>e=.returned (.tuple #[.int .i64 (h.bx t),.int .i64 0])/\HM W w' L X { h with bx:=ak h.bx t (h.bx t+n) } x s k E D Q:=by
 have HBg:Hid (∀w',HM W w' L X h x s k E D Q->Calls Tryz.prog 109 #[.agg #[.int .i64 h.g.words,.int .i64 h.g.rw,.int .i64 h.g.cw,.int .i64 h.g.regions,.int .i64 h.g.aG,.int .i64 h.g.max],.int .i64 n] w' λe w''=>e=.returned (.bool false)/\HM W w'' L X h x s k E D Q):=λw' q=>by
  refine(gU h.g n w' (by rw[q.dim.rw];omega)).mono ?_;rintro e w'' ⟨rfl,hf⟩;rw[hbg];exact⟨rfl,q.fr0 hS hf⟩
 have HLf:Hid (∀w',HM W w' L X h x s k E D Q->Calls Tryz.prog 164 #[.pointer (some ⟨L.bb,t*2,none⟩)] w' λe w''=>e=.returned (.int .i64 (h.be t-h.bx t))/\HM W w'' L X h x s k E D Q):=λw' q=>q.x7 hS ht;have HMu:Hid (∀w' h' x',HM W w' L X h' x' s k E D Q->w'.cell? ⟨mb,0,none⟩=some (.pointer (some ⟨L.hb,0,none⟩))/\w'.cell? ⟨mb,1,none⟩=some (.int .i64 (t:Int))):=λw' h' x' q=>by
  have hb:=q.blk hm;exact⟨hb.cell 0,hb.cell 1⟩
 have HCe:Hid (∀w',HM W w' L X h x s k E D Q->fx w' L X h.g h.T):=λw' q=>q.hc;have HF0:Hid (∀w' i,HM W w' L X h x s k E D Q->HM W (w'.drewN i) L X h x s k E D Q):=λw' i q=>q.fr0 hS ((Fr.refl _ _).drewN _);have ht1:(t:Int)<(h.T:Int):=by omega
 have HA0:=aa H;obtain⟨c14,c15,c16,c17,c18,c19,-,-,-,-,-,-,-,-,-,NH⟩:=H.hc;have k0:=(HMu.out _ _ _ H).1;have HTk:Hid (∀w',HM W w' L X h x s k E D Q->Calls Tryz.prog 167 #[.pointer (some ⟨L.bb,t*2,none⟩),.int .i64 n] w' λe w''=>e=.returned (.tuple #[.int .i64 (h.bx t),.int .i64 0])/\HM W w'' L X { h with bx:=ak h.bx t (h.bx t+n) } x s k E D Q):=λw' q=>q.AD hS ht hn hn2;have hge:decide (h.be t-h.bx t<n)=false:=by simp;omega
 clear H hm hbg ht hn hn2;go_enter Tryz.func144,Tryz.ntmps144
 go_wp2_with fail
 refine(HBg.out _ HA0.out).mono ?_;rintro e w1 ⟨rfl,hA⟩;have HA1:=aa hA;obtain⟨k0',k1⟩:=HMu.out _ _ _ hA;have c28:=(HCe.out _ hA).c28;have NH1:=(HCe.out _ hA).lt;clear c14 c15 c16 c17 c18 c19 NH k0 hA;go_wp2_with fail
 go_quiet (fail)
 have HA2:=aa (HF0.out _ nq HA1.out);have HL2:=aa (HLf.out _ HA2.out);clear k0' k1 c28 NH1;go_wp2_with fail
 refine HL2.out.mono ?_;rintro e w2 ⟨rfl,hA⟩;have HA3:=aa hA;clear hA;have HT3:=aa (HTk.out _ HA3.out);go_wp2_with fail
 refine HT3.out.mono ?_;rintro e w3 ⟨rfl,hA⟩;have HA4:=aa hA;clear hA;go_wp2_with fail
 go_ret2
 exact⟨rfl,HA4.out⟩
theorem kx(hS:ah D Q)(H:HM W w L X h x s k E D Q)(hm:(mb,122,muV L.hb t sb m)∈E)(ht:t<h.T)(hB:h.ui){n:Int}(hbg:h.g.jx n=false)(hn:1<=n)(hnW:n<=(h.W:Int))(hn2:h.be t-h.bx t<n)(hy:((bN h.s 1 h.R).length:Int)<L.cfg.bH){j:Nat}(hl:du h.s h.R j) :
  Calls Tryz.prog 144 #[.pointer (some ⟨mb,0,none⟩),.int .i64 n] w λe w'=>e=.returned (.tuple #[.int .i64 ((j*h.W:Nat):Int),.int .i64 0])/\HM W w' L X { ek (bB h t) t j with bx:=ak (ek (bB h t) t j).bx t (((j*h.W:Nat):Int)+n) } x s k E D Q:=by
 have HBg:Hid (∀w',HM W w' L X h x s k E D Q->Calls Tryz.prog 109 #[.agg #[.int .i64 h.g.words,.int .i64 h.g.rw,.int .i64 h.g.cw,.int .i64 h.g.regions,.int .i64 h.g.aG,.int .i64 h.g.max],.int .i64 n] w' λe w''=>e=.returned (.bool false)/\HM W w'' L X h x s k E D Q):=λw' q=>by
  refine(gU h.g n w' (by rw[q.dim.rw];omega)).mono ?_;rintro e w'' ⟨rfl,hf⟩;rw[hbg];exact⟨rfl,q.fr0 hS hf⟩
 have HLf:Hid (∀w',HM W w' L X h x s k E D Q->Calls Tryz.prog 164 #[.pointer (some ⟨L.bb,t*2,none⟩)] w' λe w''=>e=.returned (.int .i64 (h.be t-h.bx t))/\HM W w'' L X h x s k E D Q):=λw' q=>q.x7 hS ht;have HMu:Hid (∀w' h' x',HM W w' L X h' x' s k E D Q->w'.cell? ⟨mb,0,none⟩=some (.pointer (some ⟨L.hb,0,none⟩))/\w'.cell? ⟨mb,1,none⟩=some (.int .i64 (t:Int))):=λw' h' x' q=>by
  have hb:=q.blk hm;exact⟨hb.cell 0,hb.cell 1⟩
 have HCe:Hid (∀w',HM W w' L X h x s k E D Q->fx w' L X h.g h.T):=λw' q=>q.hc;have HF0:Hid (∀w' i,HM W w' L X h x s k E D Q->HM W (w'.drewN i) L X h x s k E D Q):=λw' i q=>q.fr0 hS ((Fr.refl _ _).drewN _);have ht1:(t:Int)<(h.T:Int):=by omega
 have HA0:=aa H;obtain⟨c14,c15,c16,c17,c18,c19,-,-,-,-,-,-,-,-,-,NH⟩:=H.hc;have k0:=(HMu.out _ _ _ H).1;have HRt:Hid (∀w',HM W w' L X h x s k E D Q->Calls Tryz.prog 165 #[.pointer (some ⟨mb,0,none⟩)] w' λe w''=>e=.returned (.tuple #[])/\HM W w'' L X (bB h t) x s k E D Q):=λw' q=>jK hS q hm ht hB;have HRf:Hid (∀w',HM W w' L X (bB h t) x s k E D Q->Calls Tryz.prog 166 #[.pointer (some ⟨mb,0,none⟩)] w' λe w''=>e=.returned (.tuple #[])/\HM W w'' L X (ek (bB h t) t j) x s k E D Q):=λw' q=>mv hS q hm ht hy hl;have HTk:Hid (∀w',HM W w' L X (ek (bB h t) t j) x s k E D Q->Calls Tryz.prog 167 #[.pointer (some ⟨L.bb,t*2,none⟩),.int .i64 n] w' λe w''=>e=.returned (.tuple #[.int .i64 ((j*h.W:Nat):Int),.int .i64 0])/\HM W w'' L X { ek (bB h t) t j with bx:=ak (ek (bB h t) t j).bx t (((j*h.W:Nat):Int)+n) } x s k E D Q):=λw' q=>by
  have ex:(ek (bB h t) t j).bx t=((j*h.W:Nat):Int):=by show ak _ t _ t=_;unfold ak;rw[if_pos rfl];rfl
  have ee:(ek (bB h t) t j).be t=((j*h.W+h.W:Nat):Int):=by show ak _ t _ t=_;unfold ak;rw[if_pos rfl];rfl
  have:=q.AD hS (i:=t) ht hn (by rw[ex,ee];omega);rwa[ex]at this
 have hge:decide (h.be t-h.bx t<n)=true:=by simp;omega
 clear H hm hbg ht hn hnW hn2 hB hy hl;go_enter Tryz.func144,Tryz.ntmps144
 go_wp2_with fail
 refine(HBg.out _ HA0.out).mono ?_;rintro e w1 ⟨rfl,hA⟩;have HA1:=aa hA;obtain⟨k0',k1⟩:=HMu.out _ _ _ hA;have c28:=(HCe.out _ hA).c28;have NH1:=(HCe.out _ hA).lt;clear c14 c15 c16 c17 c18 c19 NH k0 hA;go_wp2_with fail
 go_quiet (fail)
 have HA2:=aa (HF0.out _ nq HA1.out);have HL2:=aa (HLf.out _ HA2.out);clear k0' k1 c28 NH1;go_wp2_with fail
 refine HL2.out.mono ?_;rintro e w2 ⟨rfl,hA⟩;have HA3:=aa hA;clear hA;have HR3:=aa (HRt.out _ HA3.out);go_wp2_with fail
 refine HR3.out.mono ?_;rintro e w3 ⟨rfl,hA⟩;have HR4:=aa (HRf.out _ hA);clear hA;go_wp2_with fail
 refine HR4.out.mono ?_;rintro e w4 ⟨rfl,hA⟩;have HT3:=aa (HTk.out _ hA);clear hA;go_wp2_with fail
 refine HT3.out.mono ?_;rintro e w5 ⟨rfl,hA⟩;have HA4:=aa hA;clear hA;go_wp2_with fail
 go_ret2
 exact⟨rfl,HA4.out⟩
end
section
variable {W w w':World}{L:HL}{X:HX}{h:HS}{x:HT}{s k:Nat}{E:aK}{D:Nat->Prop}{Q:World->Prop}{mb t sb:Nat}{m:MU}
theorem HM.make(hS:ah D Q)(H:HM W w L X h x s k E D Q){I S P:Nat}(hz:1<=S/\S<=1048576)(hP:P<S)(hn:I+S<=h.n) :
  Calls Tryz.prog 108 #[.pointer (some ⟨L.ab,0,none⟩),.int .i64 (I:Int),.int .i64 (S:Int),.int .i64 (P:Int)] w λe w'=>e=.returned (.int .i64 0)/\HM W w' L X { h with f:=upd (aC h.f I S (λ_=>0)) I (aX S P) } x s k E D Q:=
 H.post hS λown q=>q.make hz hP hn
theorem HM.push(hS:ah D Q)(H:HM W w L X h x s k E D Q){i:Nat}(hi:i<h.T)(hB:L.B<=64)(hl:(h.st i).length<L.B){r:Int}(hr:0<=r/\r<18446744073709551616) :
  Calls Tryz.prog 111 #[.pointer (some ⟨L.S i,0,none⟩),.int .u64 r] w λe w'=>e=.returned (.int .i64 0)/\HM W w' L X { h with st:=bj h.st i (h.st i++[r]) } x s k E D Q:=
 H.post hS λown q=>q.push hi hB hl hr
theorem HM.oJ(hS:ah D Q)(H:HM W w L X h x s k E D Q){a z:Nat}(hz:1<=z)(hm:a+z<=h.n) :
  Calls Tryz.prog 110 #[.pointer (some ⟨X.ob,0,none⟩),.int .i64 (a:Int),.int .i64 (z:Int)] w λe w'=>e=.returned (.int .i64 0)/\HM W w' L X h { x with O:=obj x.cw x.O a z } s k E D Q:=
 H.post hS λown q=>q.oJ hz hm
theorem HM.run(hS:ah D Q)(H:HM W w L X h x s k E D Q){c f z:Nat}(hc:1<=c)(hz1:(c-1)*h.W<z)(hz2:z<=c*h.W)(hl:eL h.s h.R c f) :
  Calls Tryz.prog 175 #[.pointer (some ⟨L.tb,0,none⟩),.int .i64 (c:Int),.int .i64 (z:Int)] w λe w'=>e=.returned (.tuple #[.int .i64 (f:Int),.int .i64 0])/\HM W w' L X { h with s:=ak (bc h.s f (f+c) λ_=>5) f 4,t:=bc h.t f (f+c) (bG h.W f z) } x s k E D Q:=
 H.post hS λown q=>q.run hc hz1 hz2 hl
theorem HM.sH(hS:ah D Q)(H:HM W w L X h x s k E D Q){c:Nat}{z:Int}(hc:1<=c)(hcm:c<=9223372036854775807)(hzm:z<=9223372036854775807)(hz:((c:Int)-1)*(h.W:Int)<z/\z<=(c:Int)*(h.W:Int))(hl:nL h.s h.R c) :
  Calls Tryz.prog 175 #[.pointer (some ⟨L.tb,0,none⟩),.int .i64 (c:Int),.int .i64 z] w λe w'=>e=.returned (.tuple #[.int .i64 0,.int .i64 6])/\HM W w' L X h x s k E D Q:=by
 have H0:=H;obtain⟨own,q,_⟩:=H;refine(q.sH hc hcm hzm hz hl).mono ?_;rintro e w' ⟨rfl,rfl⟩;exact⟨rfl,H0⟩
theorem HM.mut(hS:ah D Q)(hT:Tab W){f:FuncId}{args:Array Value}{P:Ending->Prop}{m':MU}(H:HM W w L X h x s k ((mb,122,muV L.hb t sb m)::E) D Q)(hne:∀q,q∈E->q.1≠mb)
  (hc:Blk w mb 122 (muV L.hb t sb m)->Calls Tryz.prog f args w λe w'=>P e/\Blk w' mb 122 (muV L.hb t sb m')/\Fr [mb] w w') :
  Calls Tryz.prog f args w λe w'=>P e/\HM W w' L X h x s k ((mb,122,muV L.hb t sb m')::E) D Q:=
 (hc (H.blk (List.mem_cons_self ..))).mono (by
  rintro e w' ⟨hp,hb,hf⟩;exact⟨hp,H.mh hS hT hf hb hne⟩)
end
def HS.hG(h:HS):GS:={ G0 with st:=h.st }
section
variable {W w w':World}{L:HL}{X:HX}{own:Nat->Nat}{h:HS}{x:HT}{s k:Nat}{E:aK}{D:Nat->Prop}{Q:World->Prop}{mb t sb:Nat}{m:MU}
theorem HM.sat(hS:ah D Q)(H:HM W w L X h x s k E D Q){i:Nat}(hi:i<h.T)(a:Int) :
  Calls Tryz.prog 47 #[.pointer (some ⟨L.S i,0,none⟩),.int .i64 a] w λe w'=>e=.returned (.tuple #[.int .u64 (aj (h.st i) a),.int .i64 (al (h.st i) a)])/\HM W w' L X h x s k E D Q:=
 H.see hS λown ⟨tg,FS,H⟩=>(tU (H.stk i hi) a).mono (by rintro e w' ⟨rfl,rfl⟩;exact⟨rfl,Fr.refl _ _⟩)
theorem HM.Df(hS:ah D Q)(H:HM W w L X h x s k E D Q){i:Nat}(hi:i<h.T) :
  Calls Tryz.prog 27 #[.pointer (some ⟨L.S i,0,none⟩)] w λe w'=>e=.returned (.int .i64 ((h.st i).length:Int))/\HM W w' L X h x s k E D Q:=
 H.see hS λown ⟨tg,FS,H⟩=>(pX (H.stk i hi)).mono (by rintro e w' ⟨rfl,rfl⟩;exact⟨rfl,Fr.refl _ _⟩)
theorem cK.nS(H:cK W w L X own h x s k){i:Nat}(hi:i<h.T){l:List Int}{f:FuncId}{args:Array Value}{v:Value}(hl:l.length<=64)(hr:∀r,r∈l->0<=r/\r<18446744073709551616)
  (hc:∀F,HkP w (L.S i) F L.B (h.st i)->Calls Tryz.prog f args w (lf w F (λw' F'=>HkP w' (L.S i) F' L.B l) v)) :
  Calls Tryz.prog f args w (iE W w L X own { h with st:=bj h.st i l } x s k v):=by
 obtain⟨tg,FS,H,h1,h2⟩:=H;refine(hc _ (H.stk i hi)).mono ?_;rintro e w' ⟨F',rfl,hq,hf,hn⟩;obtain⟨own',k1,k2,k3⟩:=H.stack hi hf hq hn hl hr;have hF:∀b,b∈FS i->own b≠0:=λb hb=>by rw[H.iX i hi b hb];omega
 have hsz:=h1.size;refine⟨own',rfl,⟨tg,_,k1,h1.trans hf (λb hb=>.inr (h2 b (hF b hb))),λb hb=>?_⟩,⟨_,hf,hF⟩,k3⟩
 ·rcases k2 b hb with h3|h3
  ·exact h2 b h3
  ·omega
theorem HM.qL(hS:ah D Q)(H:HM W w L X h x s k E D Q){i:Nat}(hi:i<h.T)(hB:L.B<=64)(hl:(h.st i).length<=L.B){r:Int}(hr:0<=r/\r<18446744073709551616) :
  Calls Tryz.prog 111 #[.pointer (some ⟨L.S i,0,none⟩),.int .u64 r] w λe w'=>e=.returned (.int .i64 (ax L.B (h.st i)))/\HM W w' L X { h with st:=bj h.st i (aI L.B (h.st i) r) } x s k E D Q:=
 H.post hS λown q=>q.nS hi (by have:=ld hl r;omega) (λy hy=>by
  unfold aI at hy;split at hy
  ·rcases List.mem_append.1 hy with h3|h3
   ·exact H.ok.rok i hi y h3
   ·simp at h3;subst h3;exact hr
  ·exact H.ok.rok i hi y hy) (λF hk=>mZ hk hl hB r)
theorem HM.Dg(hS:ah D Q)(H:HM W w L X h x s k E D Q){i:Nat}(hi:i<h.T)(hB:L.B<=64)(hl:(h.st i).length<=L.B) :
  Calls Tryz.prog 147 #[.pointer (some ⟨L.S i,0,none⟩)] w λe w'=>e=.returned (.tuple #[.int .u64 (fo (h.st i)),.int .i64 (cH (h.st i))])/\HM W w' L X { h with st:=bj h.st i (dJ (h.st i)) } x s k E D Q:=
 H.post hS λown q=>q.nS hi (by have:=mX hl;omega) (λy hy=>H.ok.rok i hi y (by unfold dJ at hy;exact List.mem_of_mem_take hy)) (λF hk=>xm hk hl hB)
theorem HM.rA(H:HM W w L X h x s k E D Q)(hT:0<h.T):∃gb go,L.rA=some ⟨gb,go,none⟩:=by
 obtain⟨gb,go,hA,_⟩:=H.hr.row.pos (by omega);exact⟨gb,go,hA⟩
theorem HM.Cr(H:HM W w L X h x s k E D Q){gb go:Nat}(hA:L.rA=some ⟨gb,go,none⟩){i:Nat}(hi:i<h.T):w.cell? ⟨gb,go+i,none⟩=some (.pointer (some ⟨L.S i,0,none⟩)):=by
 obtain⟨gb',go',hA',hG,NG,hcell,hfz,_⟩:=H.hr.row.pos (by omega);rw[hA]at hA';injection hA' with hA';injection hA' with e1 e2;subst e1 e2;rw[hcell i hi];unfold jF;simp[hi]
theorem mw(a:Int)(w:World):Calls Tryz.prog 151 #[.int .i64 a] w λe w'=>e=.returned (.int .i64 (eu a))/\w=w':=by
 unfold eu;by_cases h1:a<0
 ·rw[if_neg (by omega)];go_enter Tryz.func151,Tryz.ntmps151
  go_wp2
  go_ret
  exact⟨rfl,rfl⟩
 ·by_cases h2:a>3
  ·rw[if_neg (by omega)];go_enter Tryz.func151,Tryz.ntmps151
   go_wp2
   go_ret
   exact⟨rfl,rfl⟩
  ·rw[if_pos (by omega)];go_enter Tryz.func151,Tryz.ntmps151
   go_wp2
   go_ret
   exact⟨rfl,rfl⟩
theorem qM(hS:ah D Q)(H:HM W w L X h x s k E D Q){i:Nat}(hi:i<h.T)(a:Int) :
  Calls Tryz.prog 150 #[.pointer (some ⟨L.S i,0,none⟩),.int .i64 a] w λe w'=>e=.returned (.tuple #[.bool (eI h.hG i a),.int .i64 (al (h.st i) a)])/\HM W w' L X h x s k E D Q:=by
 have HA:=aa (H.sat hS hi a);have ev:eI h.hG i a=(decide (al (h.st i) a=0)&&(aj (h.st i) a==0)):=by
  unfold eI al;show decide (aH (h.st i) a/\aj (h.st i) a=0)=_;by_cases e:aH (h.st i) a
  ·rw[Bool.eq_iff_iff];simp[e]
  ·simp[e]
 rw[ev];generalize aj (h.st i) a=r at *;have hz:al (h.st i) a=0\/al (h.st i) a=10:=by unfold al;split <;> simp
 generalize al (h.st i) a=z at *;clear H hi ev;rcases hz with rfl|rfl
 ·go_enter Tryz.func150,Tryz.ntmps150
  go_wp2_with fail
  refine HA.out.mono ?_;rintro e w1 ⟨rfl,hA⟩;have HA1:=aa hA;clear hA HA;go_wp2_with fail
  go_ret2
  exact⟨by simp,HA1.out⟩
 ·go_enter Tryz.func150,Tryz.ntmps150
  go_wp2_with fail
  refine HA.out.mono ?_;rintro e w1 ⟨rfl,hA⟩;have HA1:=aa hA;clear hA HA;go_wp2_with fail
  go_ret2
  exact⟨by simp,HA1.out⟩
theorem qN(hS:ah D Q)(H:HM W w L X h x s k E D Q){i:Nat}(hi:i<h.T)(a b:Int) :
  Calls Tryz.prog 149 #[.pointer (some ⟨L.S i,0,none⟩),.int .i64 a,.int .i64 b] w λe w'=>e=.returned (.tuple #[.bool (eH h.hG i a b),.int .i64 (eG h.hG i a b)])/\HM W w' L X h x s k E D Q:=by
 have HA:=aa (H.sat hS hi a);have HB:Hid (∀w',HM W w' L X h x s k E D Q->Calls Tryz.prog 47 #[.pointer (some ⟨L.S i,0,none⟩),.int .i64 b] w' λe w''=>e=.returned (.tuple #[.int .u64 (aj (h.st i) b),.int .i64 (al (h.st i) b)])/\HM W w'' L X h x s k E D Q):=λw' q=>q.sat hS hi b;have ev:eH h.hG i a b=(decide (al (h.st i) a=0)&&(decide (al (h.st i) b=0)&&(aj (h.st i) a==aj (h.st i) b))):=by
  unfold eH al;show decide (aH (h.st i) a/\aH (h.st i) b/\aj (h.st i) a=aj (h.st i) b)=_;by_cases e:aH (h.st i) a
  ·by_cases e':aH (h.st i) b
   ·rw[Bool.eq_iff_iff];simp[e,e']
   ·simp[e,e']
  ·simp[e]
 have ee:eG h.hG i a b=if al (h.st i) a=0 then al (h.st i) b else 10:=by
  unfold eG;show(if aH (h.st i) a then al (h.st i) b else 10)=_;by_cases e:aH (h.st i) a
  ·rw[if_pos e,if_pos (by unfold al;rw[if_pos e])]
  ·rw[if_neg e,if_neg (by unfold al;rw[if_neg e];decide)]
 rw[ev,ee];have hz:al (h.st i) a=0\/al (h.st i) a=10:=by unfold al;split <;> simp
 have hy:al (h.st i) b=0\/al (h.st i) b=10:=by unfold al;split <;> simp
 generalize aj (h.st i) a=r at *;generalize aj (h.st i) b=q at *;generalize al (h.st i) a=z at *;generalize al (h.st i) b=y at *;clear H hi ev ee;rcases hz with rfl|rfl
 ·rcases hy with rfl|rfl
  ·go_enter Tryz.func149,Tryz.ntmps149
   go_wp2_with fail
   refine HA.out.mono ?_;rintro e w1 ⟨rfl,hA⟩;have HA1:=aa (HB.out _ hA);clear hA HA HB;go_wp2_with fail
   refine HA1.out.mono ?_;rintro e w2 ⟨rfl,hA⟩;have HA2:=aa hA;clear hA HA1;go_wp2_with fail
   go_ret2
   exact⟨by simp,HA2.out⟩
  ·go_enter Tryz.func149,Tryz.ntmps149
   go_wp2_with fail
   refine HA.out.mono ?_;rintro e w1 ⟨rfl,hA⟩;have HA1:=aa (HB.out _ hA);clear hA HA HB;go_wp2_with fail
   refine HA1.out.mono ?_;rintro e w2 ⟨rfl,hA⟩;have HA2:=aa hA;clear hA HA1;go_wp2_with fail
   go_ret2
   exact⟨by simp,HA2.out⟩
 ·clear HB hy;go_enter Tryz.func149,Tryz.ntmps149
  go_wp2_with fail
  refine HA.out.mono ?_;rintro e w1 ⟨rfl,hA⟩;have HA1:=aa hA;clear hA HA;go_wp2_with fail
  go_ret2
  exact⟨by simp,HA1.out⟩
theorem lR(hS:ah D Q)(H:HM W w L X h x s k E D Q)(hm:(mb,122,muV L.hb t sb m)∈E)(ht:t<h.T)(hB:L.B<=64)(hl:∀i,i<h.T->(h.st i).length<=L.B)(a b:Int) :
  Calls Tryz.prog 148 #[.pointer (some ⟨mb,0,none⟩),.int .i64 a,.int .i64 b] w λe w'=>e=.returned (.int .i64 (gB L.B h.T h.hG t a b))/\HM W w' L X { h with st:=(de L.B h.T h.hG t a b).st } x s k E D Q:=by
 have HK:Hid (Calls Tryz.prog 106 #[.pointer (some ⟨mb,0,none⟩)] w λe w''=>e=.returned (.pointer (some ⟨L.S t,0,none⟩))/\HM W w'' L X h x s k E D Q):=(bX (H.blk hm) H.hr ht).mono (by rintro e w'' ⟨rfl,hf⟩;exact⟨rfl,H.fr0 hS hf⟩);have HA:Hid (∀w',HM W w' L X h x s k E D Q->Calls Tryz.prog 47 #[.pointer (some ⟨L.S t,0,none⟩),.int .i64 a] w' λe w''=>e=.returned (.tuple #[.int .u64 (aj (h.st t) a),.int .i64 (al (h.st t) a)])/\HM W w'' L X h x s k E D Q):=λw' q=>q.sat hS ht a;obtain⟨gb,go,hrA⟩:=H.rA (by omega);have HCe:Hid (∀w',HM W w' L X h x s k E D Q->w'.cell? ⟨mb,0,none⟩=some (.pointer (some ⟨L.hb,0,none⟩))/\w'.cell? ⟨L.hb,27,none⟩=some (.slice (some ⟨gb,go,none⟩) h.T L.rc)):=λw' q=>⟨(q.blk hm).cell 0,by rw[<- hrA];exact q.hr.cR⟩;have hTm:=H.ok.tm;have hsame:∀i,bj h.st i (h.st i)=h.st:=λi=>by funext j;unfold bj;split <;> simp_all
 have es:gB L.B h.T h.hG t a b=if aH (h.st t) a then (if aA h.T b then ax L.B (h.st b.toNat) else 2) else 10:=rfl
 have eS:(de L.B h.T h.hG t a b).st=if aH (h.st t) a/\aA h.T b then bj h.st b.toNat (aI L.B (h.st b.toNat) (aj (h.st t) a)) else h.st:=by
  unfold de;show(if aH (h.st t) a/\aA h.T b then h.hG.push L.B b.toNat (aj (h.st t) a) else h.hG).st=_;split <;> rfl
 rw[es,eS];by_cases hi:aH (h.st t) a
 ·have e2:al (h.st t) a=0:=by unfold al;rw[if_pos hi]
  have hrk:0<=aj (h.st t) a/\aj (h.st t) a<18446744073709551616:=by
   unfold aj;rw[if_pos hi];unfold aH at hi;have hk:a.toNat<(h.st t).length:=by omega
   exact H.ok.rok t ht _ (by simp[hk])
  rw[e2]at HA;rw[if_pos hi];by_cases hb:aA h.T b
  ·rw[if_pos hb,if_pos ⟨hi,hb⟩];unfold aA at hb;obtain⟨q,rfl⟩:=Int.eq_ofNat_of_zero_le hb.1;have hq:q<h.T:=by omega
   have hq':(q:Int)<(h.T:Int):=by omega
   rw[Int.toNat_natCast];have g1:decide ((q:Int)<0)=false:=by simp
   have g2:decide ((q:Int)>=(h.T:Int))=false:=by simp;omega
   have HRc:Hid (∀w',HM W w' L X h x s k E D Q->w'.cell? ⟨gb,go+q,none⟩=some (.pointer (some ⟨L.S q,0,none⟩))):=λw' y=>y.Cr hrA hq;have HP:Hid (∀w',HM W w' L X h x s k E D Q->Calls Tryz.prog 111 #[.pointer (some ⟨L.S q,0,none⟩),.int .u64 (aj (h.st t) a)] w' λe w''=>e=.returned (.int .i64 (ax L.B (h.st q)))/\HM W w'' L X { h with st:=bj h.st q (aI L.B (h.st q) (aj (h.st t) a)) } x s k E D Q):=λw' y=>y.qL hS hq hB (hl q hq) hrk;have HF0:Hid (∀w' i,HM W w' L X h x s k E D Q->HM W (w'.drewN i) L X h x s k E D Q):=λw' i q=>q.fr0 hS ((Fr.refl _ _).drewN _);clear H hm hb hi e2 es eS hl hB hsame hrk hrA;generalize aj (h.st t) a=r at *;generalize ax L.B (h.st q)=er at *;go_enter Tryz.func148,Tryz.ntmps148
   go_wp2_with fail
   refine HK.out.mono ?_;rintro e w1 ⟨rfl,hA⟩;have HA1:=aa (HA.out _ hA);clear hA HK;go_wp2_with fail
   refine HA1.out.mono ?_;rintro e w2 ⟨rfl,hA⟩;have HA2:=aa hA;obtain⟨k0,k27⟩:=HCe.out _ hA;have kr:=HRc.out _ hA;have N1:=ae k0;have N2:=ae k27;have N3:=ae kr;clear hA HA1;go_wp2_with fail
   refine(HP.out _ HA2.out).mono ?_;rintro e w3 ⟨rfl,hA⟩;have HA3:=aa hA;clear hA k0 k27 kr;go_wp2_with fail
   go_ret
   exact⟨rfl,HA3.out⟩
  ·rw[if_neg hb,if_neg (λe=>hb e.2)];have hb2:b<0\/(¬ b<0/\(h.T:Int)<=b):=by unfold aA at hb;omega
   have HSm:Hid (∀w',HM W w' L X h x s k E D Q->HM W w' L X { h with st:=h.st } x s k E D Q):=λw' q=>q;clear H hm hb hi e2 es eS hl hB hsame hrk hrA;generalize aj (h.st t) a=r at *;rcases hb2 with hb|⟨hb,hb3⟩
   ·have g1:decide (b<0)=true:=by simpa using hb
    go_enter Tryz.func148,Tryz.ntmps148
    go_wp2_with fail
    refine HK.out.mono ?_;rintro e w1 ⟨rfl,hA⟩;have HA1:=aa (HA.out _ hA);clear hA HK;go_wp2_with fail
    refine HA1.out.mono ?_;rintro e w2 ⟨rfl,hA⟩;have HA2:=aa hA;clear hA HA1;go_wp2_with fail
    go_ret
    exact⟨rfl,HSm.out _ HA2.out⟩
   ·have g1:decide (b<0)=false:=by simpa using hb
    have g2:decide (b>=(h.T:Int))=true:=by simpa using hb3
    have g3:decide ((h.T:Int)<=b)=true:=by simpa using hb3
    go_enter Tryz.func148,Tryz.ntmps148
    go_wp2_with fail
    refine HK.out.mono ?_;rintro e w1 ⟨rfl,hA⟩;have HA1:=aa (HA.out _ hA);clear hA HK;go_wp2_with fail
    refine HA1.out.mono ?_;rintro e w2 ⟨rfl,hA⟩;have HA2:=aa hA;obtain⟨k0,k27⟩:=HCe.out _ hA;have N1:=ae k0;have N2:=ae k27;clear hA HA1;go_wp2_with fail
    go_ret
    exact⟨rfl,HSm.out _ HA2.out⟩
 ·have e2:al (h.st t) a=10:=by unfold al;rw[if_neg hi]
  rw[e2]at HA;rw[if_neg hi,if_neg (λe=>hi e.1)];have HSm:Hid (∀w',HM W w' L X h x s k E D Q->HM W w' L X { h with st:=h.st } x s k E D Q):=λw' q=>q;clear H hm hi e2 es eS hl hB hsame hrA;generalize aj (h.st t) a=r at *;go_enter Tryz.func148,Tryz.ntmps148
  go_wp2_with fail
  refine HK.out.mono ?_;rintro e w1 ⟨rfl,hA⟩;have HA1:=aa (HA.out _ hA);clear hA HK;go_wp2_with fail
  refine HA1.out.mono ?_;rintro e w2 ⟨rfl,hA⟩;have HA2:=aa hA;clear hA HA1;go_wp2_with fail
  go_ret
  exact⟨rfl,HSm.out _ HA2.out⟩
end
section
variable {h:HS}{σ:GS}{A:Nat->Nat}{rv:Nat->Option (Nat×Nat)}{s k:Nat}{B M T t:Nat}
theorem Sim.hst(m:Sim h σ A rv){i:Nat}(hi:i<h.T):h.hG.st i=(σ.st i).map (bo A):=m.st i hi
theorem iG(A:Nat->Nat)(B:Nat)(l:List Int):ax B (l.map (bo A))=ax B l:=by
 unfold ax;simp
theorem sK(A:Nat->Nat)(l:List Int):cH (l.map (bo A))=cH l:=by
 unfold cH;simp
theorem iT(f:Nat->List Int)(i:Nat)(l:List Int):ai f i l=bj f i l:=by
 funext j
 unfold ai bj;rfl
theorem Sim.whole(m:Sim h σ A rv)(gk:GOk T B σ)(hT:h.T=T)(ht:t<T)(o:Po)(hk:¬ (1<=o.k/\o.k<=5)) :
  bm B M T h.hG t o=bm B M T σ t o/\Sim { h with st:=(aN B M T h.hG t o).st } (aN B M T σ t o) A rv:=by
 have ht':t<h.T:=by omega
 have e0:=m.hst ht';have ne:∀j:Int,1<=j->j<=5->o.k≠j:=λj h1 h2 e=>hk (by omega);have n1:=ne 1 (by decide) (by decide);have n2:=ne 2 (by decide) (by decide);have n3:=ne 3 (by decide) (by decide);have n4:=ne 4 (by decide) (by decide);have n5:=ne 5 (by decide) (by decide);have q:∀j:Int,(o.k=j)->(∀i:Int,i≠j->o.k≠i):=λj e i hij e2=>hij (by omega);unfold bm aN;simp only[if_neg n1,if_neg n2,if_neg n3,if_neg n4,if_neg n5];by_cases k6:o.k=6
 ·simp only[if_pos k6];refine⟨by rw[e0,iG],?_⟩;show Sim { h with st:=ai h.st t (aI B (h.st t) 0) } _ A rv;rw[iT];have:=m.push (B:=B) ht' 0;rw[bT]at this;exact this
 simp only[if_neg k6];by_cases k7:o.k=7
 ·simp only[if_pos k7];refine⟨by rw[e0,sK],?_⟩;show Sim { h with st:=ai h.st t (dJ (h.st t)) } _ A rv;rw[iT];exact m.pop ht'
 simp only[if_neg k7];by_cases k8:o.k=8
 ·simp only[if_pos k8];unfold rQ jj;rw[e0,iG];by_cases hi:aH (σ.st t) o.a
  ·have hi':=(bd A (σ.st t) o.a).2 hi;rw[if_pos hi,if_pos hi',if_pos hi,if_pos hi'];refine⟨rfl,?_⟩;show Sim { h with st:=ai h.st t (aI B (h.st t) (aj ((σ.st t).map (bo A)) o.a)) } _ A rv;rw[iT,cM];exact m.push ht' _
  ·have hi':=λe=>hi ((bd A (σ.st t) o.a).1 e);rw[if_neg hi,if_neg hi',if_neg hi,if_neg hi'];exact⟨rfl,m⟩
 simp only[if_neg k8];by_cases k13:o.k=13
 ·have k9:=q 13 k13 9 (by decide);have k10:=q 13 k13 10 (by decide);have k11:=q 13 k13 11 (by decide);have k12:=q 13 k13 12 (by decide);simp only[if_neg k9,if_neg k10,if_neg k11,if_neg k12,if_pos k13];unfold gB de;rw[e0];by_cases hi:aH (σ.st t) o.a
  ·have hi':=(bd A (σ.st t) o.a).2 hi;by_cases hb:aA T o.b
   ·have hb':=hb;unfold aA at hb';have hbT:o.b.toNat<h.T:=by omega
    have hib:=And.intro hi hb;have hib':=And.intro hi' hb;simp only[if_pos hi,if_pos hi',if_pos hb,if_pos hib,if_pos hib',m.hst hbT,iG];refine⟨trivial,?_⟩;show Sim { h with st:=ai h.st o.b.toNat (aI B (h.st o.b.toNat) (aj ((σ.st t).map (bo A)) o.a)) } _ A rv;rw[iT,cM];exact m.push hbT _
   ·have hib:¬ (aH (σ.st t) o.a/\aA T o.b):=λe=>hb e.2;have hib':¬ (aH ((σ.st t).map (bo A)) o.a/\aA T o.b):=λe=>hb e.2;simp only[if_pos hi,if_pos hi',if_neg hb,if_neg hib,if_neg hib'];exact⟨trivial,m⟩
  ·have hi':=λe=>hi ((bd A (σ.st t) o.a).1 e);have hib:¬ (aH (σ.st t) o.a/\aA T o.b):=λe=>hi e.1;have hib':¬ (aH ((σ.st t).map (bo A)) o.a/\aA T o.b):=λe=>hi' e.1;simp only[if_neg hi,if_neg hi',if_neg hib,if_neg hib'];exact⟨trivial,m⟩
 simp only[if_neg k13];refine⟨?_,m⟩;by_cases k9:o.k=9
 ·simp only[if_pos k9];have eE:eG h.hG t o.a o.b=eG σ t o.a o.b:=by
   unfold eG;rw[e0,nR];by_cases hi:aH (σ.st t) o.a
   ·rw[if_pos hi,if_pos ((bd A _ _).2 hi)]
   ·rw[if_neg hi,if_neg (λe=>hi ((bd A _ _).1 e))]
  have eV:eH h.hG t o.a o.b=eH σ t o.a o.b:=by
   unfold eH;rw[e0];rw[decide_eq_decide,bd,bd,cM,cM];constructor
   ·rintro⟨h1,h2,h3⟩;exact⟨h1,h2,m.inj (gk.at t o.a) (gk.at t o.b) h3⟩
   ·rintro⟨h1,h2,h3⟩;exact⟨h1,h2,by rw[h3]⟩
  rw[eE,eV]
 simp only[if_neg k9];by_cases k10:o.k=10
 ·simp only[if_pos k10];have eV:eI h.hG t o.a=eI σ t o.a:=by
   unfold eI;rw[e0];rw[decide_eq_decide,bd,cM];constructor
   ·rintro⟨h1,h2⟩;exact⟨h1,Classical.byContradiction λe=>oM A e h2⟩
   ·rintro⟨h1,h2⟩;exact⟨h1,by rw[h2,bT]⟩
  rw[eV,e0,nR]
 simp only[if_neg k10]
end
end Go.Proofs.YtimkofiempcfdaaGreatDoor
