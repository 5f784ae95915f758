/- Several texts joined (pack.py): Ze Xa Xc. -/
import Derived.Test.YtimlkjppaalfaaaGreatDoorPW12
import Derived.Test.YtimlkjppaalfaaaGreatDoorPW28
import Derived.Test.YtimlkjppaalfaaaGreatDoorPW29
import Derived.Test.YtimlkjppaalfaaaGreatDoorPW30
import Derived.Test.YtimlkjppaalfaaaGreatDoorPW24
import Derived.WalkKit
import Derived.BigQuiet
import Derived.Deep.RegionHeld3
set_option linter.unusedVariables false
set_option linter.unusedSimpArgs false
set_option maxHeartbeats 3200000
set_option maxRecDepth 100000
open List renaming mem_cons_of_mem->CZ,mem_cons_self->C0,mem_cons->C1
namespace Go.Proofs.YtimlkjppaalfaaaGreatDoor
open Go.RowKit Go.Gl HS
def Phase(n M:Nat)(σ:GS)(A:Nat->Nat)(rv:Nat->Option (Nat×Nat))(t:Nat)(m:MU):Prop:=
 (m.st=0/\rv t=none)\/(m.st=1/\rv t=none)\/(m.st=2/\m.k=1/\rv t=none) \/
 (m.st=3/\rv t=none/\∃q I:Nat,cu σ A t m.op q I/\I<n/\m.ad=(I:Int)) \/
 (m.st=5/\m.k=1/\¬ aE M m.a m.b/\∃I:Nat,m.ad=(I:Int)/\rv t=some (I,(1+m.a+m.b).toNat)) \/
 (m.st=6/\rv t=none/\∃I:Nat,I<n/\m.ad=(I:Int)) \/
 (m.st=4/\m.k=3/\rv t=none/\∃q I:Nat,cu σ A t m.op q I/\I<n/\m.ad=(I:Int))
def rkM(s:Int):Nat:=if s=0 then 0 else if s=6 then 1 else if s=4\/s=5 then 2 else if s=3 then 3 else 4
def dr(x x':HT):Prop:=x'.qm=x.qm/\x'.qc=x.qc/\x'.ql=x.ql/\x'.C=x.C/\x'.per=x.per/\x'.cw=x.cw/\x'.σ=x.σ
theorem dr.refl(x:HT):dr x x:=⟨rfl,rfl,rfl,rfl,rfl,rfl,rfl⟩
def gf(h:HS)(σ:GS)(A:Nat->Nat)(t:Nat)(o:Po)(b:Bool)(ad:Int):Prop:=
 o.k=3->bh σ t o.a o.b o.c=0->∃q j:Nat,aj (σ.st t) o.a=(q:Int)/\o.b=(j:Int)/\1<=q/\q<=σ.N/\j<σ.np (q:Int) /\
  (cC h.g (h.aN (h.g.av ((A q+1+j:Nat):Int))) ((A q+1+j:Nat):Int) (bB A (aj (σ.st t) o.c))=true->b=true/\ad=((A q+1+j:Nat):Int))
theorem gf.none{h:HS}{σ:GS}{A:Nat->Nat}{t:Nat}{o:Po}{b:Bool}{ad:Int}(hn:¬ (o.k=3/\bh σ t o.a o.b o.c=0)):gf h σ A t o b ad:=λh1 h2=>absurd ⟨h1,h2⟩ hn
def dJ(W:World)(L:HL)(X:HX)(x:HT)(s k:Nat)(E:aK)(D:Nat->Prop)(Q:World->Prop)(mb t sb:Nat)(M T:Nat)(m:MU)(h:HS)(σ:GS)(A:Nat->Nat)(rv:Nat->Option (Nat×Nat))(e:Ending)(w':World):Prop:=
 ∃(h':HS) (x':HT) (σ':GS) (A':Nat->Nat) (rv':Nat->Option (Nat×Nat)) (m':MU),HM W w' L X h' x' s k ((mb,127,muV L.hb t sb m')::E) D Q/\Sim h' σ' A' rv'/\Phase h'.n M σ' A' rv' t m' /\
  dr x x'/\h'.T=h.T/\h'.n=h.n/\h'.g=h.g/\h'.W=h.W/\h'.R=h.R/\(∀q,h.s q≠0->h'.s q=h.s q)/\(∀i,i≠t->rv' i=rv i)/\(∀o,o<=σ.N->A' o=A o) /\
  ((e=.returned (bm 0 0 An.zero false true false (.slice none 0 0))/\σ'=σ/\m'.dn=m.dn/\m'.op=m.op/\(m'.st=3\/m'.st=5\/(m'.st=4/\m.st=3))/\rkM m'.st<rkM m.st/\h'.f=h.f/\(m.st=3->∃I:Nat,m.ad=(I:Int)/\h.f I=0)) \/
  (e=.returned (bm 0 0 An.zero false true true (.slice none 0 0))/\σ'=σ/\m'.dn=m.dn/\m'.op=m.op/\m'.st=2/\m.k=1) \/
  (∃b:Bool,e=.returned (bm (t:Int) (m.dn:Int) (bq L.B M T σ t m.op) true b false (.slice none 0 0))/\σ'=aM L.B M T σ t m.op/\m'.dn=m.dn+1/\(b=true/\m'.st=6\/b=false/\m'.st=0)/\gf h' σ A t m.op b m'.ad/\(m.st=1->m.k=3->bh σ t m.op.a m.op.b m.op.c≠0)))
section
variable {W w w':World}{L:HL}{X:HX}{h:HS}{x:HT}{s k:Nat}{E:aK}{D:Nat->Prop}{Q:World->Prop}{mb t sb:Nat}{m:MU}{σ:GS}{A:Nat->Nat}{rv:Nat->Option (Nat×Nat)}{M T:Nat}
theorem dJ.fI{h':HS}{σ':GS}(H:HM W w' L X h' x s k ((mb,127,muV L.hb t sb (MU.zero (m.dn+1)))::E) D Q)(S:Sim h' σ' A rv)(hr:rv t=none)(hT:h'.T=h.T)(hn:h'.n=h.n)(hg:h'.g=h.g)(hW:h'.W=h.W)(hR:h'.R=h.R)
  (hs:σ'=aM L.B M T σ t m.op) (es:∀q,h.s q≠0->h'.s q=h.s q) (hn2:¬ (m.op.k=3/\bh σ t m.op.a m.op.b m.op.c=0)):dJ W L X x s k E D Q mb t sb M T m h σ A rv (.returned (bm (t:Int) (m.dn:Int) (bq L.B M T σ t m.op) true false false (.slice none 0 0))) w':=
 ⟨h',x,σ',A,rv,MU.zero (m.dn+1),H,S,.inl ⟨rfl,hr⟩,dr.refl _,hT,hn,hg,hW,hR,es,λ_ _=>rfl,λ_ _=>rfl,.inr (.inr ⟨false,rfl,hs,rfl,.inr ⟨rfl,rfl⟩,gf.none hn2,λ_ e1 e2=>hn2 ⟨e1,e2⟩⟩)⟩
theorem vv(hS:ah D Q)(S:Sim h σ A rv)(gk:GOk T L.B σ)(hT:h.T=T)(ht:t<T)(hn:h.n<=4194304)(o:Po)(ho:dH o)(hk:o.k=2\/o.k=3\/o.k=4\/o.k=5) :
  (∃code:Int,code≠0/\bq L.B M T σ t o=⟨code,0,false⟩/\aM L.B M T σ t o=σ/\iP W L X h x s k D Q mb t sb m o 0 code) \/
  ∃q I:Nat,cu σ A t o q I/\I<h.n/\iP W L X h x s k D Q mb t sb m o (I:Int) 0:=by
 obtain⟨K,a,b,c,v⟩:=o;simp only at hk;rcases hk with rfl|rfl|rfl|rfl
 ·exact vl hS S gk hT ht hn a b c v ho
 ·exact vn hS S gk hT ht hn a b c v ho
 ·exact vp hS S gk hT ht hn a b c v ho
 ·exact vr hS S gk hT ht hn a b c v ho
theorem aL{p:Nat×TypeId×Array Value}(h1:p.1≠mb)(h2:∀q,q∈E->q.1≠mb):∀q,q∈(p::E:aK)->q.1≠mb:=λq hq=>by
 rcases C1.1 hq with rfl|hq
 ·exact h1
 ·exact h2 q hq
theorem jK(hS:ah D Q)(hT:Tab W)(H:HM W w L X h x s k ((mb,127,muV L.hb t sb m)::E) D Q)(hne:∀q,q∈E->q.1≠mb)(hk:m.k=2\/m.k=3\/m.k=4\/m.k=5){h2:HS}{x2:HT}{m':MU}{r0 r1 r2 r3:Int}{b4 b5 b6 b7:Bool}{A8:Option Addr}{n8 c8:Nat}
  (hcall:∀w' rb c,rb≠mb->(∀q,q∈E->q.1≠rb)->HM W w' L X h x s k ((mb,127,muV L.hb t sb m)::(rb,73,c)::E) D Q->Calls Tryz.prog 83 #[.pointer (some ⟨mb,0,none⟩)] w' λe w''=>e=.returned (.agg #[.int .i64 r0,.int .i64 r1,.int .i64 r2,.int .u64 r3,.bool b4,.bool b5,.bool b6,.bool b7,.slice A8 n8 c8])/\HM W w'' L X h2 x2 s k ((mb,127,muV L.hb t sb m')::(rb,73,c)::E) D Q) :
  Calls Tryz.prog 45 #[.pointer (some ⟨mb,0,none⟩)] w λe w'=>e=.returned (.agg #[.int .i64 r0,.int .i64 r1,.int .i64 r2,.int .u64 r3,.bool b4,.bool b5,.bool b6,.bool b7,.slice A8 n8 c8])/\HM W w' L X h2 x2 s k ((mb,127,muV L.hb t sb m')::E) D Q:=by
 rcases hk with hk|hk|hk|hk
 ·exact mh hS hT H hne hk hcall
 ·exact mi hS hT H hne hk hcall
 ·exact mj hS hT H hne hk hcall
 ·exact ml hS hT H hne hk hcall
theorem vw(hS:ah D Q)(hT:Tab W)(H:HM W w L X h x s k ((mb,127,muV L.hb t sb m)::E) D Q)(hne:∀q,q∈E->q.1≠mb)(hst:m.st=1)(hk:m.k=2\/m.k=3\/m.k=4\/m.k=5)(hd:(m.dn:Int)+1<=9223372036854775807)
  (S:Sim h σ A rv) (gk:GOk T L.B σ) (eT:h.T=T) (ht:t<T) (ho:dH m.op) (hr:rv t=none) :
  Calls Tryz.prog 19 #[.pointer (some ⟨mb,0,none⟩)] w (dJ W L X x s k E D Q mb t sb M T m h σ A rv):=by
 have hn:h.n<=4194304:=by have:=H.dim.mx;have:=H.ok.nn;omega
 rcases vv (W:=W) (L:=L) (X:=X) (x:=x) (s:=s) (k:=k) (mb:=mb) (t:=t) (sb:=sb) (m:=m) (M:=M) hS S gk eT ht hn m.op ho hk with⟨code,hc,ea,es,hf⟩|⟨q,I,hl,hI,hf⟩
 ·refine(dI hS hT H hne hst (λw1 rb1 c1 n1 n2 H1=>jK hS hT H1 (aL n1 hne) hk (λw2 rb2 c2 n3 n4 H2=>sH hS hT H2 (aL n3 (aL n1 hne)) hd hc hf))).mono ?_;rintro e w' ⟨rfl,hA⟩;have:=dJ.fI (M:=M) (T:=T) (m:=m) (h:=h) (σ:=σ) hA S hr rfl rfl rfl rfl rfl es.symm (λ_ _=>rfl) (λe=>hc (by
   have e1:bq L.B M T σ t m.op=⟨bh σ t m.op.a m.op.b m.op.c,0,false⟩:=by unfold bq;rw[if_neg (by omega),if_neg (by omega),if_pos e.1]
   rw[e1,e.2]at ea;injection ea with ea;exact ea.symm))
  rw[ea]at this;exact this
 ·refine(dI hS hT H hne hst (λw1 rb1 c1 n1 n2 H1=>jK hS hT H1 (aL n1 hne) hk (λw2 rb2 c2 n3 n4 H2=>vh hS hT H2 (aL n3 (aL n1 hne)) hf))).mono ?_;rintro e w' ⟨rfl,hA⟩;exact⟨h,x,σ,A,rv,_,hA,S,.inr (.inr (.inr (.inl ⟨rfl,hr,q,I,hl,hI,rfl⟩))),dr.refl _,rfl,rfl,rfl,rfl,rfl,λ_ _=>rfl,λ_ _=>rfl,λ_ _=>rfl,.inl ⟨rfl,rfl,rfl,rfl,.inl rfl,by show rkM 3<_;rw[hst];decide,rfl,λe=>by omega⟩⟩
theorem sS(hS:ah D Q)(hT:Tab W)(H:HM W w L X h x s k ((mb,127,muV L.hb t sb m)::E) D Q)(hne:∀q,q∈E->q.1≠mb)(hst:m.st=1)(hk:¬ (1<=m.k/\m.k<=5))(hd:(m.dn:Int)+1<=9223372036854775807)
  (S:Sim h σ A rv) (gk:GOk T L.B σ) (eT:h.T=T) (ht:t<T) (hB:L.B<=64) (hr:rv t=none) :
  Calls Tryz.prog 19 #[.pointer (some ⟨mb,0,none⟩)] w (dJ W L X x s k E D Q mb t sb M T m h σ A rv):=by
 subst eT;have hl:∀i,i<h.T->(h.st i).length<=L.B:=λi hi=>by rw[S.st i hi,List.length_map];exact gk.len i
 obtain⟨e1,e2⟩:=S.whole (M:=M) gk rfl ht m.op hk;refine(dI hS hT H hne hst (λw1 rb1 c1 n1 n2 H1=>mq hS hT H1 (aL n1 hne) hk hd (λw2 E' n3 H2=>qE (M:=M) hS hT H2 n3 (by omega) hB hl hk))).mono ?_;rintro e w' ⟨rfl,hA⟩;rw[e1];exact dJ.fI (M:=M) (T:=h.T) (m:=m) (h:=h) (σ:=σ) hA e2 hr rfl rfl rfl rfl rfl rfl (λ_ _=>rfl) (λe=>hk (by have:m.k=3:=e.1;omega))
end
section
variable {W w w':World}{L:HL}{X:HX}{h h2:HS}{x x2:HT}{s k:Nat}{E:aK}{D:Nat->Prop}{Q:World->Prop}{mb t sb:Nat}{m:MU}
theorem oR(hS:ah D Q)(hT:Tab W)(H:HM W w L X h x s k ((mb,127,muV L.hb t sb m)::E) D Q)(hne:∀q,q∈E->q.1≠mb){M:Nat}(hM:h.g.max=(M:Int))(hM2:M<=1048576)(ho:dH m.op)(hd:(m.dn:Int)+1<=9223372036854775807)(hsz:aE M m.a m.b) :
  Calls Tryz.prog 82 #[.pointer (some ⟨mb,0,none⟩)] w λe w'=>e=.returned (bm (t:Int) (m.dn:Int) ⟨13,0,false⟩ true false false (.slice none 0 0))/\HM W w' L X h x s k ((mb,127,muV L.hb t sb (MU.zero (m.dn+1)))::E) D Q:=by
 have hmb:=H.blk (C0 ..);have hlt:=hmb.lt;have hltE:∀q,q∈E->q.1<w.heap.size:=λq hq=>(H.blk (b:=q.1) (t:=q.2.1) (cs:=q.2.2) (CZ _ hq)).lt;have hrm:w.heap.size≠mb:=by omega
 have hrE:∀q,q∈E->q.1≠w.heap.size:=λq hq=>by have:=hltE q hq;omega
 have hneR:∀cs:Array Value,∀q,q∈((w.heap.size,73,cs)::E:aK)->q.1≠mb:=λcs q hq=>by
  rcases C1.1 hq with rfl|hq
  ·exact hrm
  ·exact hne q hq
 have HX:Hid (HM W (w.alloc (.cells #[.int .i64 0,.int .i64 0,.int .i64 0,.int .u64 0,.bool false,.bool false,.bool false,.bool false,.slice none 0 0] 73)) L X h x s k ((w.heap.size,73,#[.int .i64 0,.int .i64 0,.int .i64 0,.int .u64 0,.bool false,.bool false,.bool false,.bool false,.slice none 0 0])::(mb,127,muV L.hb t sb m)::E) D Q):=H.alloc hS 73 #[.int .i64 0,.int .i64 0,.int .i64 0,.int .u64 0,.bool false,.bool false,.bool false,.bool false,.slice none 0 0];have HEnd:Hid (∀w' a0 a1 a2 a3 a4 a5 a6 a7 a8 v0 v1 v2 v3 v4 v5 v6 v7 v8,HM W w' L X h x s k ((mb,127,muV L.hb t sb (MU.zero (m.dn+1)))::(w.heap.size,73,#[a0,a1,a2,a3,a4,a5,a6,a7,a8])::E) D Q->HM W (cD w' w.heap.size v0 v1 v2 v3 v4 v5 v6 v7 v8) L X h x s k ((mb,127,muV L.hb t sb (MU.zero (m.dn+1)))::E) D Q):=λw' a0 a1 a2 a3 a4 a5 a6 a7 a8 v0 v1 v2 v3 v4 v5 v6 v7 v8 q=>
  q.swap.cS hS hT (λy hy=>by
   rcases C1.1 hy with rfl|hy
   ·exact λe=>hrm e.symm
   ·exact hrE y hy) v0 v1 v2 v3 v4 v5 v6 v7 v8
 have HSz:Hid (Calls Tryz.prog 124 #[.pointer (some ⟨mb,0,none⟩),opV m.op] (w.alloc (.cells #[.int .i64 0,.int .i64 0,.int .i64 0,.int .u64 0,.bool false,.bool false,.bool false,.bool false,.slice none 0 0] 73)) λe w'=>e=.returned (.tuple #[.int .i64 0,.int .i64 13])/\HM W w' L X h x s k ((w.heap.size,73,#[.int .i64 0,.int .i64 0,.int .i64 0,.int .u64 0,.bool false,.bool false,.bool false,.bool false,.slice none 0 0])::(mb,127,muV L.hb t sb m)::E) D Q):=by
  have:=gT (HX.out.blk (CZ _ (C0 ..))) HX.out.hc hM hM2 m.op ho;unfold szN szE at this;rw[if_pos (show aE M m.op.a m.op.b from hsz),if_pos (show aE M m.op.a m.op.b from hsz)]at this;exact this.mono (by rintro e w' ⟨rfl,hf⟩;exact⟨rfl,HX.out.fr0 hS hf⟩)
 have HAn:Hid (∀w',HM W w' L X h x s k ((w.heap.size,73,#[.int .i64 0,.int .i64 0,.int .i64 0,.int .u64 0,.bool false,.bool false,.bool false,.bool false,.slice none 0 0])::(mb,127,muV L.hb t sb m)::E) D Q->Calls Tryz.prog 52 #[.pointer (some ⟨mb,0,none⟩),.agg #[.int .i64 0,.int .i64 0,.int .i64 13,.int .u64 0,.bool false]] w' λe w''=>e=.returned (.agg #[.int .i64 (t:Int),.int .i64 (m.dn:Int),.int .i64 13,.int .u64 0,.bool false,.bool true,.bool false,.bool false,.slice none 0 0])/\HM W w'' L X h x s k ((mb,127,muV L.hb t sb (MU.zero (m.dn+1)))::(w.heap.size,73,#[.int .i64 0,.int .i64 0,.int .i64 0,.int .u64 0,.bool false,.bool false,.bool false,.bool false,.slice none 0 0])::E) D Q):=λw' q=>HM.answer hS hT q.swap (hneR _) hd 0 0 ⟨13,0,false⟩;obtain⟨c0,c1,c2,c3,c4,c5,c6,c7,c8,c9,c10⟩:=aJ hmb;unfold opV MU.op at HSz;simp only at HSz;unfold bm;clear H hmb hltE HX hne hneR hrm hrE hM hM2 hsz ho hd;go_enter Tryz.func82,Tryz.ntmps82
 go_wp2_with fail
 refine HSz.out.mono ?_;rintro e w1 ⟨rfl,hA⟩;have HA1:=aa (HAn.out _ hA);clear hA c0 c1 c2 c3 c4 c5 c6 c7 c8 c9 c10 HSz;go_wp2_with fail
 refine HA1.out.mono ?_;rintro e w5 ⟨rfl,hA⟩;have HA5:=aa hA;have hrb:=hA.blk (CZ _ (C0 ..));have y0:=hrb.cell 0;have y1:=hrb.cell 1;have y2:=hrb.cell 2;have y3:=hrb.cell 3;have y4:=hrb.cell 4;have y5:=hrb.cell 5;have y6:=hrb.cell 6;have y7:=hrb.cell 7;have y8:=hrb.cell 8;have z0:=hrb.frozen 0;have z1:=hrb.frozen 1;have z2:=hrb.frozen 2;have z3:=hrb.frozen 3;have z4:=hrb.frozen 4;have z5:=hrb.frozen 5;have z6:=hrb.frozen 6;have z7:=hrb.frozen 7;have z8:=hrb.frozen 8;have NR:=hrb.lt;clear hA hrb;go_wp2_with fail
 refine bodyPost_ret (v:=.agg #[.int .i64 (t:Int),.int .i64 (m.dn:Int),.int .i64 13,.int .u64 0,.bool false,.bool true,.bool false,.bool false,.slice none 0 0]) (by simp[results,Tryz.results82,go_sem, *]) rfl ⟨rfl,?_⟩;exact HEnd.out _ _ _ _ _ _ _ _ _ _ _ _ _ _ _ _ _ _ _ HA5.out
theorem oT(hS:ah D Q)(hT:Tab W)(H:HM W w L X h x s k ((mb,127,muV L.hb t sb m)::E) D Q)(hne:∀q,q∈E->q.1≠mb){M:Nat}(hM:h.g.max=(M:Int))(hM2:M<=1048576)(ho:dH m.op)(hd:(m.dn:Int)+1<=9223372036854775807)(hsz:¬ aE M m.a m.b)(ht:t<h.T)(hB:L.B<=64)(hl:(h.st t).length=L.B) :
  Calls Tryz.prog 82 #[.pointer (some ⟨mb,0,none⟩)] w λe w'=>e=.returned (bm (t:Int) (m.dn:Int) ⟨15,0,false⟩ true false false (.slice none 0 0))/\HM W w' L X h x s k ((mb,127,muV L.hb t sb (MU.zero (m.dn+1)))::E) D Q:=by
 have hmb:=H.blk (C0 ..);have hlt:=hmb.lt;have hltE:∀q,q∈E->q.1<w.heap.size:=λq hq=>(H.blk (b:=q.1) (t:=q.2.1) (cs:=q.2.2) (CZ _ hq)).lt;have hrm:w.heap.size≠mb:=by omega
 have hrE:∀q,q∈E->q.1≠w.heap.size:=λq hq=>by have:=hltE q hq;omega
 have hneR:∀cs:Array Value,∀q,q∈((w.heap.size,73,cs)::E:aK)->q.1≠mb:=λcs q hq=>by
  rcases C1.1 hq with rfl|hq
  ·exact hrm
  ·exact hne q hq
 have HX:Hid (HM W (w.alloc (.cells #[.int .i64 0,.int .i64 0,.int .i64 0,.int .u64 0,.bool false,.bool false,.bool false,.bool false,.slice none 0 0] 73)) L X h x s k ((w.heap.size,73,#[.int .i64 0,.int .i64 0,.int .i64 0,.int .u64 0,.bool false,.bool false,.bool false,.bool false,.slice none 0 0])::(mb,127,muV L.hb t sb m)::E) D Q):=H.alloc hS 73 #[.int .i64 0,.int .i64 0,.int .i64 0,.int .u64 0,.bool false,.bool false,.bool false,.bool false,.slice none 0 0];have HEnd:Hid (∀w' a0 a1 a2 a3 a4 a5 a6 a7 a8 v0 v1 v2 v3 v4 v5 v6 v7 v8,HM W w' L X h x s k ((mb,127,muV L.hb t sb (MU.zero (m.dn+1)))::(w.heap.size,73,#[a0,a1,a2,a3,a4,a5,a6,a7,a8])::E) D Q->HM W (cD w' w.heap.size v0 v1 v2 v3 v4 v5 v6 v7 v8) L X h x s k ((mb,127,muV L.hb t sb (MU.zero (m.dn+1)))::E) D Q):=λw' a0 a1 a2 a3 a4 a5 a6 a7 a8 v0 v1 v2 v3 v4 v5 v6 v7 v8 q=>
  q.swap.cS hS hT (λy hy=>by
   rcases C1.1 hy with rfl|hy
   ·exact λe=>hrm e.symm
   ·exact hrE y hy) v0 v1 v2 v3 v4 v5 v6 v7 v8
 have HSz:Hid (Calls Tryz.prog 124 #[.pointer (some ⟨mb,0,none⟩),opV m.op] (w.alloc (.cells #[.int .i64 0,.int .i64 0,.int .i64 0,.int .u64 0,.bool false,.bool false,.bool false,.bool false,.slice none 0 0] 73)) λe w'=>e=.returned (.tuple #[.int .i64 (1+m.a+m.b),.int .i64 0])/\HM W w' L X h x s k ((w.heap.size,73,#[.int .i64 0,.int .i64 0,.int .i64 0,.int .u64 0,.bool false,.bool false,.bool false,.bool false,.slice none 0 0])::(mb,127,muV L.hb t sb m)::E) D Q):=by
  have:=gT (HX.out.blk (CZ _ (C0 ..))) HX.out.hc hM hM2 m.op ho;unfold szN szE at this;rw[if_neg (show ¬ aE M m.op.a m.op.b from hsz),if_neg (show ¬ aE M m.op.a m.op.b from hsz)]at this;exact this.mono (by rintro e w' ⟨rfl,hf⟩;exact⟨rfl,HX.out.fr0 hS hf⟩)
 have HSk:Hid (∀w' E',(mb,127,muV L.hb t sb m)∈E'->HM W w' L X h x s k E' D Q->Calls Tryz.prog 89 #[.pointer (some ⟨mb,0,none⟩)] w' λe w''=>e=.returned (.pointer (some ⟨L.S t,0,none⟩))/\HM W w'' L X h x s k E' D Q):=λw' E' hm q=>(cn (q.blk hm) q.hr ht).mono (by rintro e w'' ⟨rfl,hf⟩;exact⟨rfl,q.fr0 hS hf⟩);have HRm:Hid (∀w' E',HM W w' L X h x s k E' D Q->Calls Tryz.prog 125 #[.pointer (some ⟨L.S t,0,none⟩)] w' λe w''=>e=.returned (.int .i64 ((L.B:Int)-((h.st t).length:Int)))/\HM W w'' L X h x s k E' D Q):=λw' E' q=>by
  obtain⟨F,hk⟩:=q.hr.stk t ht;refine(iy hk (by omega) hB).mono ?_;rintro e w'' ⟨rfl,n,rfl⟩;exact⟨rfl,q.fr0 hS ((Fr.refl _ _).drewN _)⟩
 have hroom:((L.B:Int)-((h.st t).length:Int)==0)=true:=by simp;omega
 have HAn:Hid (∀w',HM W w' L X h x s k ((w.heap.size,73,#[.int .i64 0,.int .i64 0,.int .i64 0,.int .u64 0,.bool false,.bool false,.bool false,.bool false,.slice none 0 0])::(mb,127,muV L.hb t sb m)::E) D Q->Calls Tryz.prog 52 #[.pointer (some ⟨mb,0,none⟩),.agg #[.int .i64 0,.int .i64 0,.int .i64 15,.int .u64 0,.bool false]] w' λe w''=>e=.returned (.agg #[.int .i64 (t:Int),.int .i64 (m.dn:Int),.int .i64 15,.int .u64 0,.bool false,.bool true,.bool false,.bool false,.slice none 0 0])/\HM W w'' L X h x s k ((mb,127,muV L.hb t sb (MU.zero (m.dn+1)))::(w.heap.size,73,#[.int .i64 0,.int .i64 0,.int .i64 0,.int .u64 0,.bool false,.bool false,.bool false,.bool false,.slice none 0 0])::E) D Q):=λw' q=>HM.answer hS hT q.swap (hneR _) hd 0 0 ⟨15,0,false⟩;obtain⟨c0,c1,c2,c3,c4,c5,c6,c7,c8,c9,c10⟩:=aJ hmb;unfold opV MU.op at HSz;simp only at HSz;unfold bm;clear H hmb hltE HX hne hneR hrm hrE hM hM2 hsz ho hd hB hl ht;generalize (L.B:Int)-((h.st t).length:Int)=rm at *;go_enter Tryz.func82,Tryz.ntmps82
 go_wp2_with fail
 refine HSz.out.mono ?_;rintro e w1 ⟨rfl,hA⟩;have HK1:=aa (HSk.out _ _ (CZ _ (C0 ..)) hA);clear hA c0 c1 c2 c3 c4 c5 c6 c7 c8 c9 c10 HSz;go_wp2_with fail
 refine HK1.out.mono ?_;rintro e w2 ⟨rfl,hA⟩;have HK2:=aa (HRm.out _ _ hA);clear hA HK1;go_wp2_with fail
 refine HK2.out.mono ?_;rintro e w3 ⟨rfl,hA⟩;have HK3:=aa (HAn.out _ hA);clear hA HK2;go_wp2_with fail
 refine HK3.out.mono ?_;rintro e w5 ⟨rfl,hA⟩;have HA5:=aa hA;have hrb:=hA.blk (CZ _ (C0 ..));have y0:=hrb.cell 0;have y1:=hrb.cell 1;have y2:=hrb.cell 2;have y3:=hrb.cell 3;have y4:=hrb.cell 4;have y5:=hrb.cell 5;have y6:=hrb.cell 6;have y7:=hrb.cell 7;have y8:=hrb.cell 8;have z0:=hrb.frozen 0;have z1:=hrb.frozen 1;have z2:=hrb.frozen 2;have z3:=hrb.frozen 3;have z4:=hrb.frozen 4;have z5:=hrb.frozen 5;have z6:=hrb.frozen 6;have z7:=hrb.frozen 7;have z8:=hrb.frozen 8;have NR:=hrb.lt;clear hA hrb;go_wp2_with fail
 refine bodyPost_ret (v:=.agg #[.int .i64 (t:Int),.int .i64 (m.dn:Int),.int .i64 15,.int .u64 0,.bool false,.bool true,.bool false,.bool false,.slice none 0 0]) (by simp[results,Tryz.results82,go_sem, *]) rfl ⟨rfl,?_⟩;exact HEnd.out _ _ _ _ _ _ _ _ _ _ _ _ _ _ _ _ _ _ _ HA5.out
theorem oU(hS:ah D Q)(hT:Tab W)(H:HM W w L X h x s k ((mb,127,muV L.hb t sb m)::E) D Q)(hne:∀q,q∈E->q.1≠mb){M:Nat}(hM:h.g.max=(M:Int))(hM2:M<=1048576)(ho:dH m.op)(hsz:¬ aE M m.a m.b)(ht:t<h.T)(hB:L.B<=64)(hl:(h.st t).length<L.B){er:Int}(her:er≠0)
  (hw:∀w' E',(mb,127,muV L.hb t sb m)∈E'->HM W w' L X h x s k E' D Q->Calls Tryz.prog 126 #[.pointer (some ⟨mb,0,none⟩),.int .i64 (1+m.a+m.b)] w' λe w''=>e=.returned (.tuple #[.int .i64 0,.int .i64 er])/\HM W w'' L X h2 x2 s k E' D Q) :
  Calls Tryz.prog 82 #[.pointer (some ⟨mb,0,none⟩)] w λe w'=>e=.returned (bm 0 0 An.zero false true true (.slice none 0 0))/\HM W w' L X h2 x2 s k ((mb,127,muV L.hb t sb { m with st:=2 })::E) D Q:=by
 have hmb:=H.blk (C0 ..);have hlt:=hmb.lt;have hltE:∀q,q∈E->q.1<w.heap.size:=λq hq=>(H.blk (b:=q.1) (t:=q.2.1) (cs:=q.2.2) (CZ _ hq)).lt;have hrm:w.heap.size≠mb:=by omega
 have hrE:∀q,q∈E->q.1≠w.heap.size:=λq hq=>by have:=hltE q hq;omega
 have hneR:∀cs:Array Value,∀q,q∈((w.heap.size,73,cs)::E:aK)->q.1≠mb:=λcs q hq=>by
  rcases C1.1 hq with rfl|hq
  ·exact hrm
  ·exact hne q hq
 have HX:Hid (HM W (w.alloc (.cells #[.int .i64 0,.int .i64 0,.int .i64 0,.int .u64 0,.bool false,.bool false,.bool false,.bool false,.slice none 0 0] 73)) L X h x s k ((w.heap.size,73,#[.int .i64 0,.int .i64 0,.int .i64 0,.int .u64 0,.bool false,.bool false,.bool false,.bool false,.slice none 0 0])::(mb,127,muV L.hb t sb m)::E) D Q):=H.alloc hS 73 #[.int .i64 0,.int .i64 0,.int .i64 0,.int .u64 0,.bool false,.bool false,.bool false,.bool false,.slice none 0 0];have HEnd:Hid (∀w' a0 a1 a2 a3 a4 a5 a6 a7 a8 v0 v1 v2 v3 v4 v5 v6 v7 v8,HM W w' L X h2 x2 s k ((mb,127,muV L.hb t sb { m with st:=2 })::(w.heap.size,73,#[a0,a1,a2,a3,a4,a5,a6,a7,a8])::E) D Q->HM W (cD w' w.heap.size v0 v1 v2 v3 v4 v5 v6 v7 v8) L X h2 x2 s k ((mb,127,muV L.hb t sb { m with st:=2 })::E) D Q):=λw' a0 a1 a2 a3 a4 a5 a6 a7 a8 v0 v1 v2 v3 v4 v5 v6 v7 v8 q=>
  q.swap.cS hS hT (λy hy=>by
   rcases C1.1 hy with rfl|hy
   ·exact λe=>hrm e.symm
   ·exact hrE y hy) v0 v1 v2 v3 v4 v5 v6 v7 v8
 have HSz:Hid (Calls Tryz.prog 124 #[.pointer (some ⟨mb,0,none⟩),opV m.op] (w.alloc (.cells #[.int .i64 0,.int .i64 0,.int .i64 0,.int .u64 0,.bool false,.bool false,.bool false,.bool false,.slice none 0 0] 73)) λe w'=>e=.returned (.tuple #[.int .i64 (1+m.a+m.b),.int .i64 0])/\HM W w' L X h x s k ((w.heap.size,73,#[.int .i64 0,.int .i64 0,.int .i64 0,.int .u64 0,.bool false,.bool false,.bool false,.bool false,.slice none 0 0])::(mb,127,muV L.hb t sb m)::E) D Q):=by
  have:=gT (HX.out.blk (CZ _ (C0 ..))) HX.out.hc hM hM2 m.op ho;unfold szN szE at this;rw[if_neg (show ¬ aE M m.op.a m.op.b from hsz),if_neg (show ¬ aE M m.op.a m.op.b from hsz)]at this;exact this.mono (by rintro e w' ⟨rfl,hf⟩;exact⟨rfl,HX.out.fr0 hS hf⟩)
 have HSk:Hid (∀w' E',(mb,127,muV L.hb t sb m)∈E'->HM W w' L X h x s k E' D Q->Calls Tryz.prog 89 #[.pointer (some ⟨mb,0,none⟩)] w' λe w''=>e=.returned (.pointer (some ⟨L.S t,0,none⟩))/\HM W w'' L X h x s k E' D Q):=λw' E' hm q=>(cn (q.blk hm) q.hr ht).mono (by rintro e w'' ⟨rfl,hf⟩;exact⟨rfl,q.fr0 hS hf⟩);have HRm:Hid (∀w' E',HM W w' L X h x s k E' D Q->Calls Tryz.prog 125 #[.pointer (some ⟨L.S t,0,none⟩)] w' λe w''=>e=.returned (.int .i64 ((L.B:Int)-((h.st t).length:Int)))/\HM W w'' L X h x s k E' D Q):=λw' E' q=>by
  obtain⟨F,hk⟩:=q.hr.stk t ht;refine(iy hk (by omega) hB).mono ?_;rintro e w'' ⟨rfl,n,rfl⟩;exact⟨rfl,q.fr0 hS ((Fr.refl _ _).drewN _)⟩
 have hroom:((L.B:Int)-((h.st t).length:Int)==0)=false:=by simp;omega
 have HW:=aa hw;have hern:(er !=0)=true:=by simpa using her
 have HPk:Hid (∀w',HM W w' L X h2 x2 s k ((w.heap.size,73,#[.int .i64 0,.int .i64 0,.int .i64 0,.int .u64 0,.bool false,.bool false,.bool false,.bool false,.slice none 0 0])::(mb,127,muV L.hb t sb m)::E) D Q->HM W (w'.setCell ⟨mb,9,none⟩ (.int .i64 2)) L X h2 x2 s k ((mb,127,muV L.hb t sb { m with st:=2 })::(w.heap.size,73,#[.int .i64 0,.int .i64 0,.int .i64 0,.int .u64 0,.bool false,.bool false,.bool false,.bool false,.slice none 0 0])::E) D Q):=λw' q=>q.swap.l7 hS hT ((Fr.refl [mb] w').setCell (p:=⟨mb,9,none⟩) (.inl (by simp)) _) (by
  have:=(q.swap.blk (C0 ..)).put 9 (.int .i64 2);unfold muV at this ⊢;simpa using this) (hneR _)
 obtain⟨c0,c1,c2,c3,c4,c5,c6,c7,c8,c9,c10⟩:=aJ hmb;unfold opV MU.op at HSz;simp only at HSz;unfold bm;unfold An.zero;clear H hmb hltE HX hne hneR hrm hrE hM hM2 hsz ho hB hl ht hw her;generalize (L.B:Int)-((h.st t).length:Int)=rm at *;go_enter Tryz.func82,Tryz.ntmps82
 go_wp2_with fail
 refine HSz.out.mono ?_;rintro e w1 ⟨rfl,hA⟩;have HK1:=aa (HSk.out _ _ (CZ _ (C0 ..)) hA);clear hA c0 c1 c2 c3 c4 c5 c6 c7 c8 c9 c10 HSz;go_wp2_with fail
 refine HK1.out.mono ?_;rintro e w2 ⟨rfl,hA⟩;have HK2:=aa (HRm.out _ _ hA);clear hA HK1;go_wp2_with fail
 refine HK2.out.mono ?_;rintro e w3 ⟨rfl,hA⟩;have HK3:=aa (HW.out _ _ (CZ _ (C0 ..)) hA);clear hA HK2;go_wp2_with fail
 refine HK3.out.mono ?_;rintro e w4 ⟨rfl,hA⟩;have HA5:=aa (HPk.out _ hA);have hm4:=hA.blk (CZ _ (C0 ..));obtain⟨-,-,-,-,-,-,-,-,-,g9,-⟩:=aJ hm4;have gz9:=hm4.frozen 9;have NM4:=hm4.lt;have hrb:=hA.blk (C0 ..);have y0:=hrb.cell 0;have y1:=hrb.cell 1;have y2:=hrb.cell 2;have y3:=hrb.cell 3;have y4:=hrb.cell 4;have y5:=hrb.cell 5;have y6:=hrb.cell 6;have y7:=hrb.cell 7;have y8:=hrb.cell 8;have z0:=hrb.frozen 0;have z1:=hrb.frozen 1;have z2:=hrb.frozen 2;have z3:=hrb.frozen 3;have z4:=hrb.frozen 4;have z5:=hrb.frozen 5;have z6:=hrb.frozen 6;have z7:=hrb.frozen 7;have z8:=hrb.frozen 8;have NR:=hrb.lt;have p1:mb≠w.heap.size:=by omega
 have p2:w.heap.size≠mb:=by omega
 clear hA hrb hm4 HK3;go_wp2_with fail
 refine bodyPost_ret (v:=.agg #[.int .i64 0,.int .i64 0,.int .i64 0,.int .u64 0,.bool false,.bool false,.bool true,.bool true,.slice none 0 0]) (by simp[results,Tryz.results82,go_sem, *]) rfl ⟨rfl,?_⟩;exact HEnd.out _ _ _ _ _ _ _ _ _ _ _ _ _ _ _ _ _ _ _ HA5.out
end
section
variable {W w w':World}{L:HL}{X:HX}{h h2:HS}{x x2:HT}{s k:Nat}{E:aK}{D:Nat->Prop}{Q:World->Prop}{mb t sb:Nat}{m:MU}
theorem HM.span(hS:ah D Q)(H:HM W w L X h x s k E D Q){n:Int}(hn:n<=9223372036854775807) :
  Calls Tryz.prog 62 #[.agg #[.int .i64 h.g.words,.int .i64 h.g.rw,.int .i64 h.g.cw,.int .i64 h.g.regions,.int .i64 h.g.aF,.int .i64 h.g.max],.int .i64 n] w λe w'=>e=.returned (.int .i64 (h.g.bA n))/\HM W w' L X h x s k E D Q:=
 (pS h.g H.ok.geo n hn w H.hr.tab).mono (by rintro e w' ⟨rfl,hf⟩;exact⟨rfl,H.fr0 hS hf⟩)
theorem yi(hS:ah D Q)(H:HM W w L X h x s k E D Q)(hm:(mb,127,muV L.hb t sb m)∈E){c f z:Nat}(hsp:h.g.bA (z:Int)=(c:Int))(hc:1<=c)(hz:z<=1048576)(hz1:(c-1)*h.W<z)(hz2:z<=c*h.W)(hl:eL h.s h.R c f) :
  Calls Tryz.prog 145 #[.pointer (some ⟨mb,0,none⟩),.int .i64 (z:Int)] w λe w'=>e=.returned (.tuple #[.int .i64 ((f*h.W:Nat):Int),.int .i64 0])/\HM W w' L X { h with s:=ak (bg h.s f (f+c) λ_=>5) f 4,t:=bg h.t f (f+c) (bM h.W f z) } x s k E D Q:=by
 have HAd:=aa (H.fr0 hS (Fr.refl _ _).drew);have HSp:Hid (∀w',HM W w' L X h x s k E D Q->Calls Tryz.prog 62 #[.agg #[.int .i64 h.g.words,.int .i64 h.g.rw,.int .i64 h.g.cw,.int .i64 h.g.regions,.int .i64 h.g.aF,.int .i64 h.g.max],.int .i64 (z:Int)] w' λe w''=>e=.returned (.int .i64 (c:Int))/\HM W w'' L X h x s k E D Q):=λw' q=>by
  have:=q.span hS (n:=(z:Int)) (by omega);rwa[hsp]at this
 have HRn:Hid (∀w',HM W w' L X h x s k E D Q->Calls Tryz.prog 157 #[.pointer (some ⟨L.tb,0,none⟩),.int .i64 (c:Int),.int .i64 (z:Int)] w' λe w''=>e=.returned (.tuple #[.int .i64 (f:Int),.int .i64 0])/\HM W w'' L X { h with s:=ak (bg h.s f (f+c) λ_=>5) f 4,t:=bg h.t f (f+c) (bM h.W f z) } x s k E D Q):=λw' q=>q.run hS hc hz1 hz2 hl;have HCe:Hid (∀w' h',h'.g=h.g->HM W w' L X h' x s k E D Q->w'.cell? ⟨mb,0,none⟩=some (.pointer (some ⟨L.hb,0,none⟩))/\w'.cell? ⟨L.hb,14,none⟩=some (.int .i64 h.g.words)/\w'.cell? ⟨L.hb,15,none⟩=some (.int .i64 h.g.rw)/\w'.cell? ⟨L.hb,16,none⟩=some (.int .i64 h.g.cw)/\w'.cell? ⟨L.hb,17,none⟩=some (.int .i64 h.g.regions)/\w'.cell? ⟨L.hb,18,none⟩=some (.int .i64 h.g.aF)/\w'.cell? ⟨L.hb,19,none⟩=some (.int .i64 h.g.max)/\w'.cell? ⟨L.hb,21,none⟩=some (.pointer (some ⟨L.tb,0,none⟩))):=λw' h' e1 q=>by
  obtain⟨d14,d15,d16,d17,d18,d19,-,d21,-,-,-,-,-,-,-,dh⟩:=q.hc;rw[e1]at d14 d15 d16 d17 d18 d19;exact⟨(q.blk hm).cell 0,d14,d15,d16,d17,d18,d19,d21⟩
 have hfR:f<h.R:=by have:=hl.1;omega
 have HBa:Hid (∀w',HM W w' L X { h with s:=ak (bg h.s f (f+c) λ_=>5) f 4,t:=bg h.t f (f+c) (bM h.W f z) } x s k E D Q->Calls Tryz.prog 58 #[.agg #[.int .i64 h.g.words,.int .i64 h.g.rw,.int .i64 h.g.cw,.int .i64 h.g.regions,.int .i64 h.g.aF,.int .i64 h.g.max],.int .i64 (f:Int)] w' λe w''=>e=.returned (.tuple #[.int .i64 ((f*h.W:Nat):Int),.int .i64 0])/\HM W w'' L X { h with s:=ak (bg h.s f (f+c) λ_=>5) f 4,t:=bg h.t f (f+c) (bM h.W f z) } x s k E D Q):=λw' q=>HM.iE (h:={ h with s:=ak (bg h.s f (f+c) λ_=>5) f 4,t:=bg h.t f (f+c) (bM h.W f z) }) hS q hfR;have K0:=HCe.out _ h rfl HAd.out;have NM:=(H.blk hm).lt;have NH:L.hb<w.heap.size:=af H.hc.c20;clear H hm hsp hc hz hl hz1 hz2 hfR;go_enter Tryz.func145,Tryz.ntmps145
 go_wp2_with fail
 go_region_held3 (λw'=>w'.cell? ⟨mb,0,none⟩=some (.pointer (some ⟨L.hb,0,none⟩))/\w'.cell? ⟨L.hb,14,none⟩=some (.int .i64 h.g.words)/\w'.cell? ⟨L.hb,15,none⟩=some (.int .i64 h.g.rw)/\w'.cell? ⟨L.hb,16,none⟩=some (.int .i64 h.g.cw)/\w'.cell? ⟨L.hb,17,none⟩=some (.int .i64 h.g.regions)/\w'.cell? ⟨L.hb,18,none⟩=some (.int .i64 h.g.aF)/\w'.cell? ⟨L.hb,19,none⟩=some (.int .i64 h.g.max)/\w'.cell? ⟨L.hb,21,none⟩=some (.pointer (some ⟨L.tb,0,none⟩)))
  (first|with_reducible exact K0|go_keep)
  (first|(go_at_call 62;refine(HSp.out _ HAd.out).mono ?_;rintro e w1 ⟨rfl,hA⟩;have HR1:=aa (HRn.out _ hA);replace K0:=HCe.out _ h rfl hA;clear hA)|(go_at_call 157;refine HR1.out.mono ?_;rintro e w2 ⟨rfl,hA⟩;replace K0:=HCe.out _ { h with s:=ak (bg h.s f (f+c) λ_=>5) f 4,t:=bg h.t f (f+c) (bM h.W f z) } rfl hA;have HA2:=aa hA;clear hA))
 all_goals
  obtain⟨d0,d14,d15,d16,d17,d18,d19,d21⟩:=K0;have NM2:=af d0;have NH2:=af d14;go_wp2_with fail
  refine(HBa.out _ HA2.out).mono ?_;rintro e w3 ⟨rfl,hA⟩;have HA3:=aa hA;clear hA d0 d14 d15 d16 d17 d18 d19 d21;go_wp2_with fail
  go_ret2
  exact⟨rfl,HA3.out⟩
theorem yj(hS:ah D Q)(H:HM W w L X h x s k E D Q)(hm:(mb,127,muV L.hb t sb m)∈E){c z:Nat}(hsp:h.g.bA (z:Int)=(c:Int))(hc:1<=c)(hz:z<=1048576)(hz0:((c:Int)-1)*(h.W:Int)<(z:Int)/\(z:Int)<=(c:Int)*(h.W:Int))(hcm:c<=1048576)(hl:ns h.s h.R c) :
  Calls Tryz.prog 145 #[.pointer (some ⟨mb,0,none⟩),.int .i64 (z:Int)] w λe w'=>e=.returned (.tuple #[.int .i64 0,.int .i64 6])/\HM W w' L X h x s k E D Q:=by
 have HAd:=aa (H.fr0 hS (Fr.refl _ _).drew);have HSp:Hid (∀w',HM W w' L X h x s k E D Q->Calls Tryz.prog 62 #[.agg #[.int .i64 h.g.words,.int .i64 h.g.rw,.int .i64 h.g.cw,.int .i64 h.g.regions,.int .i64 h.g.aF,.int .i64 h.g.max],.int .i64 (z:Int)] w' λe w''=>e=.returned (.int .i64 (c:Int))/\HM W w'' L X h x s k E D Q):=λw' q=>by
  have:=q.span hS (n:=(z:Int)) (by omega);rwa[hsp]at this
 have HRn:Hid (∀w',HM W w' L X h x s k E D Q->Calls Tryz.prog 157 #[.pointer (some ⟨L.tb,0,none⟩),.int .i64 (c:Int),.int .i64 (z:Int)] w' λe w''=>e=.returned (.tuple #[.int .i64 0,.int .i64 6])/\HM W w'' L X h x s k E D Q):=λw' q=>q.sq hS hc (by omega) (by omega) hz0 hl;have HCe:Hid (∀w' h',h'.g=h.g->HM W w' L X h' x s k E D Q->w'.cell? ⟨mb,0,none⟩=some (.pointer (some ⟨L.hb,0,none⟩))/\w'.cell? ⟨L.hb,14,none⟩=some (.int .i64 h.g.words)/\w'.cell? ⟨L.hb,15,none⟩=some (.int .i64 h.g.rw)/\w'.cell? ⟨L.hb,16,none⟩=some (.int .i64 h.g.cw)/\w'.cell? ⟨L.hb,17,none⟩=some (.int .i64 h.g.regions)/\w'.cell? ⟨L.hb,18,none⟩=some (.int .i64 h.g.aF)/\w'.cell? ⟨L.hb,19,none⟩=some (.int .i64 h.g.max)/\w'.cell? ⟨L.hb,21,none⟩=some (.pointer (some ⟨L.tb,0,none⟩))):=λw' h' e1 q=>by
  obtain⟨d14,d15,d16,d17,d18,d19,-,d21,-,-,-,-,-,-,-,dh⟩:=q.hc;rw[e1]at d14 d15 d16 d17 d18 d19;exact⟨(q.blk hm).cell 0,d14,d15,d16,d17,d18,d19,d21⟩
 have K0:=HCe.out _ h rfl HAd.out;have NM:=(H.blk hm).lt;have NH:L.hb<w.heap.size:=af H.hc.c20;clear H hm hsp hc hz hl hz0 hcm;go_enter Tryz.func145,Tryz.ntmps145
 go_wp2_with fail
 go_region_held3 (λw'=>w'.cell? ⟨mb,0,none⟩=some (.pointer (some ⟨L.hb,0,none⟩))/\w'.cell? ⟨L.hb,14,none⟩=some (.int .i64 h.g.words)/\w'.cell? ⟨L.hb,15,none⟩=some (.int .i64 h.g.rw)/\w'.cell? ⟨L.hb,16,none⟩=some (.int .i64 h.g.cw)/\w'.cell? ⟨L.hb,17,none⟩=some (.int .i64 h.g.regions)/\w'.cell? ⟨L.hb,18,none⟩=some (.int .i64 h.g.aF)/\w'.cell? ⟨L.hb,19,none⟩=some (.int .i64 h.g.max)/\w'.cell? ⟨L.hb,21,none⟩=some (.pointer (some ⟨L.tb,0,none⟩)))
  (first|with_reducible exact K0|go_keep)
  (first|(go_at_call 62;refine(HSp.out _ HAd.out).mono ?_;rintro e w1 ⟨rfl,hA⟩;have HR1:=aa (HRn.out _ hA);replace K0:=HCe.out _ h rfl hA;clear hA)|(go_at_call 157;refine HR1.out.mono ?_;rintro e w2 ⟨rfl,hA⟩;replace K0:=HCe.out _ h rfl hA;have HA2:=aa hA;clear hA))
 all_goals
  clear K0;go_wp2_with fail
  go_ret2
  exact⟨rfl,HA2.out⟩
theorem ku(hS:ah D Q)(H:HM W w L X h x s k E D Q)(hm:(mb,127,muV L.hb t sb m)∈E){n a er:Int}(hn0:1<=n)(hn:n<=1048576)(hbg:h.g.jS n=true)
  (hr:∀w',HM W w' L X h x s k E D Q->Calls Tryz.prog 145 #[.pointer (some ⟨mb,0,none⟩),.int .i64 n] w' λe w''=>e=.returned (.tuple #[.int .i64 a,.int .i64 er])/\HM W w'' L X h2 x2 s k E D Q) :
  Calls Tryz.prog 126 #[.pointer (some ⟨mb,0,none⟩),.int .i64 n] w λe w'=>e=.returned (.tuple #[.int .i64 a,.int .i64 er])/\HM W w' L X h2 x2 s k E D Q:=by
 have HBg:Hid (Calls Tryz.prog 93 #[.agg #[.int .i64 h.g.words,.int .i64 h.g.rw,.int .i64 h.g.cw,.int .i64 h.g.regions,.int .i64 h.g.aF,.int .i64 h.g.max],.int .i64 n] w λe w''=>e=.returned (.bool true)/\HM W w'' L X h x s k E D Q):=by
  refine(gM h.g n w (by rw[H.dim.rw];omega)).mono ?_;rintro e w'' ⟨rfl,hf⟩;rw[hbg];exact⟨rfl,H.fr0 hS hf⟩
 have HRn:=aa hr;obtain⟨c14,c15,c16,c17,c18,c19,-,-,-,-,-,-,-,-,-,NH⟩:=H.hc;have k0:w.cell? ⟨mb,0,none⟩=some (.pointer (some ⟨L.hb,0,none⟩)):=(H.blk hm).cell 0;clear H hm hn hn0 hbg hr;go_enter Tryz.func126,Tryz.ntmps126
 go_wp2_with fail
 refine HBg.out.mono ?_;rintro e w1 ⟨rfl,hA⟩;have HA1:=aa (HRn.out _ hA);clear hA c14 c15 c16 c17 c18 c19 NH k0 HBg;go_wp2_with fail
 refine HA1.out.mono ?_;rintro e w2 ⟨rfl,hA⟩;have HA2:=aa hA;clear hA HA1;go_wp2_with fail
 go_ret2
 exact⟨rfl,HA2.out⟩
end
end Go.Proofs.YtimlkjppaalfaaaGreatDoor
