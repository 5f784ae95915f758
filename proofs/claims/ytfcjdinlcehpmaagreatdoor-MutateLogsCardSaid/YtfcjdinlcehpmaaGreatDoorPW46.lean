/- Several texts joined (pack.py): Lh Li Lj Lk Zx Ll. -/
import Derived.Test.YtfcjdinlcehpmaaGreatDoorPW44
import Derived.Test.YtfcjdinlcehpmaaGreatDoorPW45
import Derived.Deep.CutRange
import Derived.WalkKit
import Derived.BigQuiet
namespace Go.Proofs.YtfcjdinlcehpmaaGreatDoor
set_option linter.unusedVariables false
set_option linter.unusedSimpArgs false
set_option maxRecDepth 100000
open Go.RowKit Go.Gl HS
section
variable {W w w':World}{L:HL}{X:HX}{h h':HS}{x x':HT}{s k:Nat}{E:Blks}{D DX:Nat→Prop}{Q QX:World→Prop}{Λ:WL}{Γ Γ':WG}{hb g t:Nat}{V V':WS}{σ σ':GS}{A A':Nat→Nat}{rv rv':Nat→Option (Nat×Nat)}{B M T:Nat}{Ops:Nat→Nat→Po}{On:Nat→Nat}{Nt:Prop}
theorem HM.wMark(hS:Lives D Q)(hT:Tab W)(H:HM W w L X h x s k (wE Λ hb g T V++E) D Q)(hE:∀q,q∈E→q.1≠Λ.sb){mg':Bool}(hf:Fr [Λ.sb] w w')(hbk:Blk w' Λ.sb 40 #[.bool mg',.slice (some ⟨Λ.ob,0,none⟩) T T]) :
  HM W w' L X h x s k (wE Λ hb g T { V with mg:=mg' }++E) D Q:=by
 have H1:HM W w L X h x s k ((Λ.sb,40,#[.bool V.mg,.slice (some ⟨Λ.ob,0,none⟩) T T])::((Λ.ob,30,rowF T V.OV)::(Λ.wb,37,wdV hb Λ.sb Λ.mA T Λ.mc Λ.pb Λ.nb T g V.dl V.wn V.sy)::(Λ.pb,24,rowF T V.OP)::(Λ.nb,3,rowF T fun i=>.int .i64 (V.nx i:Int))::((List.range T).map (muE Λ hb V)++E))) D Q:=
  H.sub (fun q hq=>by
   simp only [List.mem_cons,List.mem_append]at hq
   simp only [wE,w4E,List.mem_cons,List.mem_append,List.not_mem_nil,or_false]
   rcases hq with e | e | e | e | e | e | e <;> simp [e])
 have hw:=H1.blk (b:=Λ.sb) (List.mem_cons_self ..)
 have H2:=H1.turn hS hT hf hbk (fun q hq=>by
  have hq3:=H1.blk (b:=q.1) (t:=q.2.1) (cs:=q.2.2) (List.mem_cons_of_mem _ hq)
  simp only [List.mem_cons,List.mem_append,List.mem_map]at hq
  rcases hq with e | e | e | e | ⟨i,_,e⟩ | e
  ·exact hq3.apart hw (by rw [e];simp only;decide)
  ·exact hq3.apart hw (by rw [e];simp only;decide)
  ·exact hq3.apart hw (by rw [e];simp only;decide)
  ·exact hq3.apart hw (by rw [e];simp only;decide)
  ·exact hq3.apart hw (by rw [← e];show(96:TypeId)≠40;decide)
  ·exact hE q e)
 exact H2.sub (fun q hq=>by
  simp only [wE,w4E,List.mem_cons,List.mem_append,List.not_mem_nil,or_false]at hq
  simp only [List.mem_cons,List.mem_append]
  rcases hq with(e | (e | e | e | e) | e) | e
  ·simp [e]
  ·simp [e]
  ·simp [e]
  ·simp [e]
  ·simp [e]
  ·exact .inr (.inr (.inr (.inr (.inr (.inl e)))))
  ·simp [e])
theorem WP.mark(P:WP W B h x DX Λ Γ M T V σ A rv Ops On Nt)(b:Bool):WP W B h x DX Λ Γ M T { V with mg:=b } σ A rv Ops On Nt:=
 ⟨P.dj,⟨P.wi.sim,P.wi.gk,P.wi.eT,P.wi.ph,P.wi.q,P.wi.op,P.wi.B64,P.wi.M1,P.wi.M2⟩,P.gd,P.vd,P.vo,P.ops,P.ok,P.ol,P.nx,P.cur,P.dn,P.dx,P.N,P.lg,P.nt,P.dl,fun hn=>⟨(P.no hn).ref,(P.no hn).nd,(P.no hn).dw,(P.no hn).rg⟩⟩
def AtD(DX:Nat→Prop)(QX:World→Prop)(W w:World)(L:HL)(s k:Nat)(Λ:WL)(g M T:Nat)(Ops:Nat→Nat→Po)(On:Nat→Nat)(V:WS)(h:HS)(x:HT)(σ:GS)(A:Nat→Nat)(Γ:WG):Prop:=
 Γ.g=g∧∃(X:HX) (rv:Nat→Option (Nat×Nat)),HM W w L X h x s k (wE Λ L.hb Γ.g T V++[]) (gD DX Λ Γ (·<T)) (gQ QX Λ Γ (·<T) T L.B M σ)∧WP W L.B h x DX Λ Γ M T V σ A rv Ops On True
theorem AtD.fr0(hX:Lives DX QX)(H:AtD DX QX W w L s k Λ g M T Ops On V h x σ A Γ)(hf:Fr [] w w'):AtD DX QX W w' L s k Λ g M T Ops On V h x σ A Γ:=by
 obtain⟨e,X,rv,h1,h2⟩:=H
 exact⟨e,X,rv,h1.fr0 (gLives hX _ _ _ _ _ _ _) hf,h2⟩
theorem AtD.fr(H:AtD DX QX W w L s k Λ g M T Ops On V h x σ A Γ):Fr [] W w:=by
 obtain⟨e,X,rv,h1,h2⟩:=H
 exact h1.fr
theorem AtD.qx(H:AtD DX QX W w L s k Λ g M T Ops On V h x σ A Γ):QX w:=by
 obtain⟨e,X,rv,h1,h2⟩:=H
 exact h1.q.1
theorem AtD.log(H:AtD DX QX W w L s k Λ g M T Ops On V h x σ A Γ)(ht:t<T):V.OV t=.slice (Γ.oA t) (Γ.on t) (Γ.oc t)∧Lr w 45 (Γ.oA t) (Γ.on t) (Γ.oc t) (Γ.oG t) (Γ.ox t):=by
 obtain⟨e,X,rv,h1,h2⟩:=H
 exact⟨h2.vo t ht,h1.q.2.2.2.2 t ht⟩
theorem AtD.cells(H:AtD DX QX W w L s k Λ g M T Ops On V h x σ A Γ)(ht:t<T):∃gm om oA oc,Λ.mA=some ⟨gm,om,none⟩∧w.cell? ⟨gm,om+t,none⟩=some (.pointer (some ⟨Λ.P t,0,none⟩))∧w.cell? ⟨Λ.wb,0,none⟩=some (.pointer (some ⟨L.hb,0,none⟩))∧w.cell? ⟨Λ.wb,1,none⟩=some (.pointer (some ⟨Λ.sb,0,none⟩)) ∧
  w.cell? ⟨Λ.wb,2,none⟩=some (.slice (some ⟨gm,om,none⟩) T Λ.mc)∧w.cell? ⟨Λ.wb,3,none⟩=some (.slice (some ⟨Λ.pb,0,none⟩) T T)∧w.cell? ⟨Λ.wb,4,none⟩=some (.slice (some ⟨Λ.nb,0,none⟩) T T) ∧
  w.cell? ⟨Λ.nb,t,none⟩=some (.int .i64 (V.nx t:Int))∧w.cell? ⟨Λ.pb,t,none⟩=some (.slice oA (On t) oc)∧Blk w Λ.sb 40 #[.bool V.mg,.slice (some ⟨Λ.ob,0,none⟩) T T]∧w.cell? ⟨Λ.ob,t,none⟩=some (V.OV t) ∧
  OpsAt W (.slice oA (On t) oc) (On t) (Ops t)∧On t≤60∧V.nx t≤On t∧((V.mu t).st≠0→(V.mu t).st≠6→V.nx t<On t):=by
 obtain⟨e,X,rv,h1,h2⟩:=H
 obtain⟨gm,om,hmA,d0,d2,d3,d4,d5,d6,d7,d8,dn,dp⟩:=h1.wCells h1.q.2.1 ht
 obtain⟨oA,oc,hop,ho⟩:=h2.ops t ht
 have hw:=h1.blk (b:=Λ.wb) (t:=37) (cs:=wdV L.hb Λ.sb Λ.mA T Λ.mc Λ.pb Λ.nb T Γ.g V.dl V.wn V.sy) (by simp [wE,w4E])
 have hs:=h1.blk (b:=Λ.sb) (t:=40) (cs:=#[.bool V.mg,.slice (some ⟨Λ.ob,0,none⟩) T T]) (by simp [wE,w4E])
 have hob:=h1.blk (b:=Λ.ob) (t:=30) (cs:=rowF T V.OV) (by simp [wE,w4E])
 rw [hop]at dp
 exact⟨gm,om,oA,oc,hmA,d0,hw.cell 0,hw.cell 1,d2,d3,d4,dn,dp,hs,by rw [hob.cell,rowF_at ht],⟨oA,oc,rfl,ho⟩,h2.ol t,h2.nx t ht,fun q0 q6=>(h2.cur t ht q0 q6).1⟩
theorem AtD.step(hX:Lives DX QX)(hT:Tab W)(H:AtD DX QX W w L s k Λ g M T Ops On V h x σ A Γ)(ht:t<T) :
  Calls Tryz.prog 8 #[.pointer (some ⟨Λ.wb,0,none⟩),.int .i64 (t:Int)] w fun e w'=>e=.returned (.bool true)∧∃V' h' x' σ' A' Γ',AtD DX QX W w' L s k Λ g M T Ops On V' h' x' σ' A' Γ'∧WR t On Ops h h' Γ Γ' V V' σ σ' A A':=by
 obtain⟨e,X,rv,h1,h2⟩:=H
 have fin:∀e' w',WSP W L h s k [] DX QX Λ Γ t M T V σ A Ops On True e' w'→e'=.returned (.bool true)∧∃V' h' x' σ' A' Γ',AtD DX QX W w' L s k Λ g M T Ops On V' h' x' σ' A' Γ'∧WR t On Ops h h' Γ Γ' V V' σ σ' A A':=by
  rintro e' w' ⟨rfl,X',h',x',V',σ',A',rv',Γ',q1,q2,q3⟩
  exact⟨rfl,V',h',x',σ',A',Γ',⟨q3.2.2.2.1.trans e,X',rv',q1,q2⟩,q3⟩
 by_cases hst:(V.mu t).st=0
 ·by_cases hn:On t≤V.nx t
  ·exact(wstep_none hX hT h1 h2 ht hst hn).mono fin
  ·exact(wstep_go hX hT h1 (fun q hq=>by cases hq) h2 ht (.inr (by omega))).mono fin
 ·exact(wstep_go hX hT h1 (fun q hq=>by cases hq) h2 ht (.inl hst)).mono fin
theorem AtD.mark(hX:Lives DX QX)(hT:Tab W)(H:AtD DX QX W w L s k Λ g M T Ops On V h x σ A Γ){b:Bool}(hf:Fr [Λ.sb] w w')(hbk:Blk w' Λ.sb 40 #[.bool b,.slice (some ⟨Λ.ob,0,none⟩) T T]) :
  AtD DX QX W w' L s k Λ g M T Ops On { V with mg:=b } h x σ A Γ:=by
 obtain⟨e,X,rv,h1,h2⟩:=H
 exact⟨e,X,rv,h1.wMark (gLives hX _ _ _ _ _ _ _) hT (fun q hq=>by cases hq) hf hbk,h2.mark b⟩
end
def ThG(h:HS)(σ:GS)(A:Nat→Nat)(o:Po)(r:Int)(b:Bool):Prop:=
 (b=true∧o.k=3∧∃q I:Nat,Looked σ A 0 o q I∧r=(h.f I:Int))∨(b=false∧r=0∧(o.k=3→storeE σ 0 o.a o.b o.c≠0))
section
variable {W w w':World}{L:HL}{X:HX}{h h':HS}{x x':HT}{s k:Nat}{E:Blks}{D DX:Nat→Prop}{Q QX:World→Prop}{Λ:WL}{Γ Γ':WG}{hb g t:Nat}{V V':WS}{σ σ':GS}{A A':Nat→Nat}{rv rv':Nat→Option (Nat×Nat)}{B M T:Nat}{Ops:Nat→Nat→Po}{On:Nat→Nat}{Nt:Prop}
theorem Looked.one{o:Po}{q I q' I':Nat}(l:Looked σ A t o q I)(l':Looked σ A t o q' I')(hk:o.k=3):I=I':=by
 have e:(q:Int)=(q':Int):=l.r.symm.trans l'.r
 have e':q=q':=by omega
 subst e'
 rcases l.f with⟨_,j,h1,h2,h3⟩ | ⟨h1,_⟩
 ·rcases l'.f with⟨_,j',g1,g2,g3⟩ | ⟨g1,_⟩
  ·omega
  ·omega
 ·omega
theorem Looked.storeE{o:Po}{q I:Nat}(l:Looked σ A t o q I)(hk:o.k=3):Go.Proofs.YtfcjdinlcehpmaaGreatDoor.storeE σ t o.a o.b o.c=0:=by
 unfold Go.Proofs.YtfcjdinlcehpmaaGreatDoor.storeE
 rw [if_pos (l.c hk),l.objE]
 rcases l.f with⟨_,j,h1,h2,h3⟩ | ⟨h1,_⟩
 ·rw [if_neg (by decide),l.r,if_pos ⟨by omega,by omega⟩]
 ·omega
theorem AtD.there(hX:Lives DX QX)(H:AtD DX QX W w L s k Λ g M T Ops On V h x σ A Γ)(ht:0<T)(o:Po) :
  Calls Tryz.prog 6 #[.pointer (some ⟨Λ.wb,0,none⟩),opV o] w fun e w'=>AtD DX QX W w' L s k Λ g M T Ops On V h x σ A Γ∧∃r b,e=.returned (.tuple #[.int .u64 r,.bool b])∧ThG h σ A o r b:=by
 obtain⟨e,X,rv,h1,P⟩:=H
 have S:=P.wi.sim
 have eT:=P.wi.eT
 have ht':0<h.T:=by omega
 have hS:=gLives hX Λ Γ (·<T) T L.B M σ
 have hm:(Λ.wb,37,wdV L.hb Λ.sb Λ.mA T Λ.mc Λ.pb Λ.nb T Γ.g V.dl V.wn V.sy)∈wE Λ L.hb Γ.g T V++[]:=by simp [wE,w4E]
 have h0:(wdV L.hb Λ.sb Λ.mA T Λ.mc Λ.pb Λ.nb T Γ.g V.dl V.wn V.sy)[0]?=some (.pointer (some ⟨L.hb,0,none⟩)):=rfl
 have hn:h.n≤4194304:=by obtain⟨c,hc⟩:=h1.hr.ar;exact hc.max
 have no:∀w',HM W w' L X h x s k (wE Λ L.hb Γ.g T V++[]) (gD DX Λ Γ (·<T)) (gQ QX Λ Γ (·<T) T L.B M σ)→AtD DX QX W w' L s k Λ g M T Ops On V h x σ A Γ:=fun w' q=>⟨e,X,rv,q,P⟩
 have est:=S.st 0 ht'
 by_cases hk:o.k=3
 ·obtain⟨ok,a,b,c,v⟩:=o
  simp only at hk
  subst hk
  have hz:=P.wi.gk.at 0 a
  by_cases ez:hkAt (σ.st 0) a=0
  ·refine(there_zero hS h1 hm h0 ht' a b c v (by rw [est,hkAt_map,ez];exact refO_zero A)).mono ?_
   rintro e' w' ⟨rfl,q⟩
   refine⟨no _ q,0,false,rfl,.inr ⟨rfl,rfl,fun _=>?_⟩⟩
   unfold Go.Proofs.YtfcjdinlcehpmaaGreatDoor.storeE Go.Proofs.YtfcjdinlcehpmaaGreatDoor.objE
   simp only [ez]
   split
   ·split
    ·split <;> simp_all
    ·simp_all
   ·decide
  ·obtain⟨q,hq⟩:=Int.eq_ofNat_of_zero_le hz.1
   have q1:1≤q:=by omega
   have q2:q≤σ.N:=by omega
   have ob:=S.objAt q1 q2
   have hr:hkAt (h.st 0) a=((A q:Nat):Int)+1:=by rw [est,hkAt_map,hq];exact refO_nat A q1
   have hia:hkIn (σ.st 0) a:=by
    by_cases e:hkIn (σ.st 0) a
    ·exact e
    ·exfalso;unfold hkAt at ez;rw [if_neg e]at ez;exact ez rfl
   have hic:hkIn (h.st 0) c↔hkIn (σ.st 0) c:=by rw [est];unfold hkIn;simp
   have eo:Go.Proofs.YtfcjdinlcehpmaaGreatDoor.objE σ 0 a=0:=by unfold Go.Proofs.YtfcjdinlcehpmaaGreatDoor.objE;rw [if_pos hia,if_neg ez]
   by_cases hb:hkIn (h.st 0) c∧0≤b∧b<(σ.np (q:Int):Int)
   ·obtain⟨B,hB⟩:=Int.eq_ofNat_of_zero_le hb.2.1
    refine(there_in hS h1 hm h0 ht' hn a b c v hB ob hr hb.1 (by have:=hb.2.2;omega)).mono ?_
    rintro e' w' ⟨rfl,g⟩
    exact⟨no _ g,_,true,rfl,.inl ⟨rfl,rfl,q,A q+1+B,⟨q1,q2,hia,hq,fun _=>hic.1 hb.1,.inl ⟨.inr rfl,B,hB,by have:=hb.2.2;omega,rfl⟩⟩,rfl⟩⟩
   ·refine(there_out hS h1 hm h0 ht' hn a b c v ob hr hb).mono ?_
    rintro e' w' ⟨rfl,g⟩
    refine⟨no _ g,0,false,rfl,.inr ⟨rfl,rfl,fun _=>?_⟩⟩
    unfold Go.Proofs.YtfcjdinlcehpmaaGreatDoor.storeE
    simp only [eo,hq]
    split
    ·rename_i hc
     rw [if_neg (by decide),if_neg (fun f=>hb ⟨hic.2 hc,f.1,f.2⟩)]
     decide
    ·decide
 ·refine(there_not hS h1 o hk).mono ?_
  rintro e' w' ⟨rfl,g⟩
  exact⟨no _ g,0,false,rfl,.inr ⟨rfl,rfl,fun h=>absurd h hk⟩⟩
end
def lgW(mg is:Bool)(was:Int):List Value:=if mg=true∧is=true∧was≠0 then [.int .u64 was] else []
def LgJ(n:Nat)(l:List Value)(mg is:Bool)(was:Int)(o:Po)(V:WS)(h:HS)(σ:GS)(A:Nat→Nat)(Γ:WG):Prop:=
 V.sy=false∧V.mg=mg ∧
 ((V.nx 0=n∧(V.mu 0).st≠6∧ThG h σ A o was is∧((V.mu 0).st≠4→Γ.ox 0=l)∧((V.mu 0).st=4→Γ.ox 0=l++lgW mg is was)) ∨
 (V.nx 0=n+1∧((V.mu 0).st=0∨(V.mu 0).st=6)∧Γ.ox 0=l++lgW mg is was))
section
variable {W w w':World}{L:HL}{X:HX}{h h':HS}{x x':HT}{s k:Nat}{E:Blks}{D DX:Nat→Prop}{Q QX:World→Prop}{Λ:WL}{Γ Γ':WG}{hb g t n:Nat}{V V':WS}{σ σ':GS}{A A':Nat→Nat}{rv rv':Nat→Option (Nat×Nat)}{B M T:Nat}{Ops:Nat→Nat→Po}{On:Nat→Nat}{Nt:Prop}{l:List Value}{mg is:Bool}{was:Int}{o:Po}
theorem Looked.same{q I:Nat}(a:Looked σ A t o q I)(hA:∀o,o≤σ.N→A' o=A o):Looked σ A' t o q I:=
 ⟨a.q1,a.q2,a.a,a.r,a.c,by rw [hA q a.q2];exact a.f⟩
theorem ThG.same(a:ThG h σ A o was is)(hf:h'.f=h.f)(hA:∀o,o≤σ.N→A' o=A o):ThG h' σ A' o was is:=by
 rcases a with⟨h1,h2,q,I,h3,h4⟩ | a
 ·exact .inl ⟨h1,h2,q,I,h3.same hA,by rw [hf];exact h4⟩
 ·exact .inr a
theorem ThG.no(a:ThG h σ A o was is)(hk:o.k≠3)(mg:Bool):lgW mg is was=[]:=by
 rcases a with⟨h1,h2,_⟩ | ⟨h1,_⟩
 ·exact absurd h2 hk
 ·unfold lgW;rw [h1];simp
theorem LgJ.step(H:AtD DX QX W w L s k Λ g M T Ops On V h x σ A Γ)(H':AtD DX QX W w' L s k Λ g M T Ops On V' h' x' σ' A' Γ')(r:WR 0 On Ops h h' Γ Γ' V V' σ σ' A A')(ht:0<T)(ho:Ops 0 n=o)(hn:n<On 0)(hg:V.nx 0=n∨(V.mu 0).st≠0)
  (J:LgJ n l mg is was o V h σ A Γ):LgJ n l mg is was o V' h' σ' A' Γ':=by
 obtain⟨e,X,rv,h1,P⟩:=H
 obtain⟨e',X',rv',h1',P'⟩:=H'
 obtain⟨j1,j2,j⟩:=J
 obtain⟨r1,r2,-,-,-,-,rA,r⟩:=r
 refine⟨r1.trans j1,r2.trans j2,?_⟩
 rcases j with⟨jn,j6,jT,j4,j5⟩ | ⟨jn,js,jo⟩
 ·have ph:=P.wi.ph 0 ht
  have cur:=P.cur 0 ht
  have opk:(V.mu 0).st≠0→(V.mu 0).op=o:=fun q=>by rw [(cur q j6).2,jn,ho]
  have k1:(V.mu 0).st=5→o.k=1:=fun q=>by
   rcases ph with p | p | p | p | p | p | p
   ·omega
   ·omega
   ·omega
   ·omega
   ·rw [← opk (by omega)];exact p.2.1
   ·omega
   ·omega
  have k2:(V.mu 0).st=2→o.k=1:=fun q=>by
   rcases ph with p | p | p | p | p | p | p
   ·omega
   ·omega
   ·rw [← opk (by omega)];exact p.2.1
   ·omega
   ·omega
   ·omega
   ·omega
  have k3:(V.mu 0).st=3→∃q I:Nat,Looked σ A 0 o q I∧(V.mu 0).ad=(I:Int):=fun q=>by
   rcases ph with p | p | p | p | p | p | p
   ·omega
   ·omega
   ·omega
   ·obtain⟨p1,p2,q,I,p3,p4,p5⟩:=p
    rw [opk (by omega)]at p3
    exact⟨q,I,p3,p5⟩
   ·omega
   ·omega
   ·omega
  have hst:(V.mu 0).st=0∨(V.mu 0).st=1∨(V.mu 0).st=2∨(V.mu 0).st=3∨(V.mu 0).st=5∨(V.mu 0).st=4:=by
   rcases ph with p | p | p | p | p | p | p <;> (have:=p.1;omega)
  have key:o.k=3→∀q I:Nat,Looked σ A 0 o q I→is=true∧was=(h.f I:Int):=fun hk q I lk=>by
   rcases jT with⟨t1,t2,q',I',t3,t4⟩ | ⟨t1,t2,t3⟩
   ·exact⟨t1,by rw [t4,t3.one lk hk]⟩
   ·exact absurd (lk.storeE hk) (t3 hk)
  have rk4:rkM 4=2:=by decide
  have rk3:rkM 3=3:=by decide
  have rk5:rkM 5=2:=by decide
  rcases r with r | ⟨q1,q2,q3,q4,q5,q6,q7,q8,q9⟩ | ⟨q0,q1,q2,q3,q4,q5,q6,q7,I,q8,q9,q10⟩ | ⟨q1,-⟩ | ⟨q1,q2,q3,q4,q5,q6,q7⟩ | ⟨q0,q1,q2,q3,q4,q5,q6,q7⟩ | ⟨q0,-⟩
  ·have:=r.2.1
   omega
  ·subst q6
   refine .inl ⟨q1.trans jn,by rcases q4 with q | q | ⟨q,-⟩ <;> omega,jT.same q7 rA,fun q=>?_,fun q=>?_⟩
   ·rw [q8]
    refine j4 (fun q'=>?_)
    rw [if_neg (by omega),q']at q5
    rcases q4 with q4 | q4 | ⟨q4,_⟩
    ·rw [q4]at q5;omega
    ·rw [q4]at q5;omega
    ·exact q q4
   ·rw [q8]
    have h3:(V.mu 0).st=3:=by
     rcases q4 with q4 | q4 | ⟨_,q4⟩
     ·omega
     ·omega
     ·exact q4
    have j4':=j4 (by omega)
    obtain⟨qq,I,lk,had⟩:=k3 h3
    obtain⟨I2,hI2,hz⟩:=q9 h3
    have eI:I=I2:=by omega
    subst eI
    rw [j4']
    by_cases hk:o.k=3
    ·obtain⟨_,hw⟩:=key hk _ _ lk
     unfold lgW
     rw [if_neg (fun c=>c.2.2 (by rw [hw,hz];rfl))]
     simp
    ·rw [jT.no hk];simp
  ·subst q6 q7
   refine .inl ⟨q1.trans jn,by omega,jT.same rfl rA,fun q=>absurd q5 q,fun _=>?_⟩
   rw [jn,ho]at q4
   obtain⟨qq,I2,lk,had⟩:=k3 q3
   have eI:I2=I:=by omega
   subst eI
   obtain⟨hi,hw⟩:=key q4 _ _ lk
   rw [q10]
   have:setF Γ.ox 0 (Γ.ox 0++[.int .u64 (h'.f I2:Int)]) 0=Γ.ox 0++[.int .u64 (h'.f I2:Int)]:=setF_at _ _ _
   rw [this,j4 (by omega)]
   unfold lgW
   rw [if_pos ⟨by rw [← j2];exact q0,hi,by rw [hw];omega⟩,hw]
  ·exact absurd q1 j6
  ·refine .inr ⟨by omega,q4,?_⟩
   rw [q5]
   rw [jn,ho]at q6 q7
   by_cases h4:(V.mu 0).st=4
   ·exact j5 h4
   ·rw [j4 h4]
    by_cases hk:o.k=3
    ·rcases hst with e | e | e | e | e | e
     ·rcases jT with⟨_,_,q,I,lk,_⟩ | ⟨t1,_⟩
      ·exact absurd (lk.storeE hk) (q6 (.inl e) hk)
      ·unfold lgW;rw [t1];simp
     ·rcases jT with⟨_,_,q,I,lk,_⟩ | ⟨t1,_⟩
      ·exact absurd (lk.storeE hk) (q6 (.inr e) hk)
      ·unfold lgW;rw [t1];simp
     ·have:=k2 e;omega
     ·cases hmg:mg with
      | false=>unfold lgW;simp
      | true=>
       obtain⟨qq,I,lk,had⟩:=k3 e
       obtain⟨I2,hI2,hz⟩:=q7 e hk (by rw [j2];exact hmg)
       have eI:I=I2:=by omega
       subst eI
       obtain⟨_,hw⟩:=key hk _ _ lk
       unfold lgW
       rw [if_neg (fun c=>c.2.2 (by rw [hw,hz];rfl))]
       simp
     ·have:=k1 e;omega
     ·exact absurd e h4
    ·rw [jT.no hk];simp
  ·refine .inr ⟨by omega,.inl q4,?_⟩
   rw [q6]
   rw [jn,ho]at q7
   by_cases h4:(V.mu 0).st=4
   ·exact j5 h4
   ·rw [j4 h4,jT.no (by omega)];simp
  ·rw [j1]at q0;cases q0
 ·have h6:(V.mu 0).st=6:=by
   rcases js with e | e
   ·rcases hg with g | g
    ·omega
    ·exact absurd e g
   ·exact e
  refine .inr ?_
  rcases r with r | ⟨_,_,q3,_⟩ | ⟨_,_,_,q3,_⟩ | ⟨q1,q2,q3,q4,q5,q6⟩ | ⟨q1,_⟩ | ⟨_,q1,_⟩ | ⟨_,q1,_⟩
  ·have:=r.1;omega
  ·exact absurd h6 q3
  ·omega
  ·exact⟨q3.trans jn,.inl q2,by rw [q6];exact jo⟩
  ·exact absurd h6 q1
  ·exact absurd h6 q1
  ·exact absurd h6 q1
end
def AtL(wA:Option Addr)(wn wc:Nat)(wG:List Nat)(l:List Value)(W w:World)(L:HL)(s k:Nat)(Λ:WL)(g M T:Nat)(Ops:Nat→Nat→Po)(On:Nat→Nat)(V:WS)(h:HS)(x:HT)(σ:GS)(A:Nat→Nat)(Γ:WG):Prop:=
 AtD (fun b=>b∈wG) (fun w=>Lr w 45 wA wn wc wG l) W w L s k Λ g M T Ops On V h x σ A Γ
section
variable {W w w' wq w2:World}{L:HL}{X:HX}{h h':HS}{x x':HT}{s k:Nat}{E:Blks}{D DX:Nat→Prop}{Q QX:World→Prop}{Λ:WL}{Γ Γ':WG}{hb g t n:Nat}{V V':WS}{σ σ':GS}{A A':Nat→Nat}{rv rv':Nat→Option (Nat×Nat)}{B M T:Nat}{Ops:Nat→Nat→Po}{On:Nat→Nat}{Nt:Prop}{l l':List Value}{wA wA':Option Addr}{wn wc wn' wc':Nat}{wG wG':List Nat}
theorem lLives(wA:Option Addr)(wn wc:Nat)(wG:List Nat)(l:List Value):Lives (fun b=>b∈wG) (fun w=>Lr w 45 wA wn wc wG l):=Lives.lr _ _ _ _ _ _
theorem rLives(Λ:WL)(Γ:WG)(T B M:Nat)(σ:GS):Lives (fun b=>b∈Λ.mG∨(b∈Γ.dG∨((Γ.tg b).1≠0∨∃i,i<T∧b∈Γ.oG i))) (fun w=>Lr w 48 Λ.mA T Λ.mc Λ.mG (ptrs Λ.P T)∧(Lr w 3 Γ.dA Γ.dl.length Γ.dc Γ.dG (zv Γ.dl) ∧
  (MAt w Γ.tg Γ.g T B M σ∧∀i,i<T→Lr w 45 (Γ.oA i) (Γ.on i) (Γ.oc i) (Γ.oG i) (Γ.ox i)))):=
 (Lives.lr _ _ _ _ _ _).and ((Lives.lr _ _ _ _ _ _).and ((livesM Γ.tg Γ.g T B M σ).and (Lives.all fun i _=>Lives.lr _ _ _ _ _ _)))
theorem WP.dx'(P:WP W B h x DX Λ Γ M T V σ A rv Ops On Nt){DX':Nat→Prop}(hd:∀b,DX' b→b∉Λ.mG∧b∉Γ.dG∧(Γ.tg b).1=0∧∀i,i<T→b∉Γ.oG i):WP W B h x DX' Λ Γ M T V σ A rv Ops On Nt:=
 ⟨⟨hd,P.dj.m,P.dj.d,P.dj.t,P.dj.o⟩,P.wi,P.gd,P.vd,P.vo,P.ops,P.ok,P.ol,P.nx,P.cur,P.dn,P.dx,P.N,P.lg,P.nt,P.dl,P.no⟩
theorem AtL.start(hT:Tab W)(H:HM W w L X h x s k (wE Λ L.hb Γ.g T V++[]) (gD (fun _=>False) Λ Γ (·<T)) (gQ (fun _=>True) Λ Γ (·<T) T L.B M σ))(P:WP W L.B h x (fun _=>False) Λ Γ M T V σ A rv Ops On True) :
  AtL none 0 0 [] [] W w L s k Λ Γ.g M T Ops On V h x σ A Γ:=
 ⟨rfl,X,rv,H.re hT (fun b hb=>by
  rcases hb with hb | hb
  ·cases hb
  ·exact .inr hb) ⟨Lr.nil w 45,H.q.2⟩,P.dx' (fun b hb=>by cases hb)⟩
theorem AtL.push(hT:Tab W)(H:AtL wA wn wc wG l W w L s k Λ g M T Ops On V h x σ A Γ)(hf:Fr [] w wq)(hL:Lr w2 45 wA' wn' wc' wG' l')(hg:Fr wG wq w2)(hG:∀b,b∈wG'→b∈wG∨wq.heap.size≤b) :
  AtL wA' wn' wc' wG' l' W w2 L s k Λ g M T Ops On V h x σ A Γ:=by
 obtain⟨e,X,rv,h1,P⟩:=AtD.fr0 (lLives _ _ _ _ _) H hf
 have hS:=rLives Λ Γ T L.B M σ
 have hq:=h1.q.2
 have hd:∀b,b∈wG→¬ (b∈Λ.mG∨(b∈Γ.dG∨((Γ.tg b).1≠0∨∃i,i<T∧b∈Γ.oG i))):=fun b hb hx=>by
  obtain⟨a1,a2,a3,a4⟩:=P.dj.x b hb
  rcases hx with hx | hx | hx | ⟨i,hi,hx⟩
  ·exact a1 hx
  ·exact a2 hx
  ·exact hx a3
  ·exact a4 i hi hx
 have hq2:=hS.stay _ w2 wG hq hg hd
 refine⟨e,X,rv,h1.live hT hg (fun b hb=>.inl hb) (fun b hb=>?_) ⟨hL,hq2⟩,P.dx' (fun b hb=>?_)⟩
 ·rcases hb with hb | hb
  ·rcases hG b hb with e | e
   ·exact .inl (.inl e)
   ·exact .inr e
  ·exact .inl (.inr hb)
 ·rcases hG b hb with e | e
  ·exact P.dj.x b e
  ·have no:¬ (b∈Λ.mG∨(b∈Γ.dG∨((Γ.tg b).1≠0∨∃i,i<T∧b∈Γ.oG i))):=fun hx=>by
    have:=hS.lt _ hq b hx
    omega
   refine⟨fun hx=>no (.inl hx),fun hx=>no (.inr (.inl hx)),?_,fun i hi hx=>no (.inr (.inr (.inr ⟨i,hi,hx⟩)))⟩
   by_cases e0:(Γ.tg b).1=0
   ·exact e0
   ·exact absurd (.inr (.inr (.inl e0))) no
end
section
variable {W w w':World}{L:HL}{s k:Nat}{Λ:WL}{g M T:Nat}{Ops:Nat→Nat→Po}{On:Nat→Nat}{V V':WS}{h h':HS}{x:HT}{σ σ':GS}{A A':Nat→Nat}{Γ Γ':WG}{t:Nat}{P:WS→HS→HT→GS→(Nat→Nat)→WG→Prop}
set_option maxHeartbeats 3200000 in
end
def mW(Λ:WL)(on:Nat)(w:World):Nat:=
 match w.cell? ⟨Λ.nb,0,none⟩,w.cell? ⟨Λ.P 0,9,none⟩with
 | some (.int _ nx),some (.int _ st)=>leftW (fun _=>on) { WS.new with nx:=fun _=>nx.toNat,mu:=fun _=>{ MU.zero 0 with st:=st } } 0
 | _,_=>0
section
variable {W w w' wq w2:World}{L:HL}{X:HX}{h h':HS}{x x':HT}{s k:Nat}{E:Blks}{D DX:Nat→Prop}{Q QX:World→Prop}{Λ:WL}{Γ Γ':WG}{hb g t n:Nat}{V V':WS}{σ σ':GS}{A A':Nat→Nat}{B M T:Nat}{Ops:Nat→Nat→Po}{On:Nat→Nat}
theorem AtD.mu(H:AtD DX QX W w L s k Λ g M T Ops On V h x σ A Γ)(ht:t<T):Blk w (Λ.P t) 96 (muV L.hb t Λ.sb (V.mu t)):=by
 obtain⟨e,X,rv,h1,P⟩:=H
 exact(h1.wTake ht).blk (List.mem_cons_self ..)
theorem AtD.idle(H:AtD DX QX W w L s k Λ g M T Ops On V h x σ A Γ)(ht:t<T):Calls Tryz.prog 7 #[.pointer (some ⟨Λ.P t,0,none⟩)] w fun e w'=>e=.returned (.bool ((V.mu t).st==0))∧w=w':=
 midle_any (H.mu ht)
theorem AtD.mW(H:AtD DX QX W w L s k Λ g M T Ops On V h x σ A Γ)(ht:0<T):mW Λ (On 0) w=leftW On V 0:=by
 obtain⟨gm,om,oA,oc,-,-,-,-,-,-,-,dn,-⟩:=H.cells ht
 have c9:w.cell? ⟨Λ.P 0,9,none⟩=some (.int .i64 (V.mu 0).st):=(H.mu ht).cell 9
 unfold Go.Proofs.YtfcjdinlcehpmaaGreatDoor.mW
 rw [dn,c9]
 simp only [leftW,Int.toNat_natCast]
end
end Go.Proofs.YtfcjdinlcehpmaaGreatDoor
