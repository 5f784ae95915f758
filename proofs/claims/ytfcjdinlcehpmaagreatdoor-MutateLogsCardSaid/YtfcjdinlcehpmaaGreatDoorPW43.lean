/- Several texts joined (pack.py): Zv Yr Yy Vp Hh Hi Hj. -/
import Derived.Test.YtfcjdinlcehpmaaGreatDoorPW42
import Derived.Test.YtfcjdinlcehpmaaGreatDoorPW08
import Derived.Test.YtfcjdinlcehpmaaGreatDoorPW17
import Derived.Test.YtfcjdinlcehpmaaGreatDoorPW18
import Derived.Test.YtfcjdinlcehpmaaGreatDoorPW14
import Derived.Test.YtfcjdinlcehpmaaGreatDoorPW16
import Derived.Test.YtfcjdinlcehpmaaGreatDoorPW13
import Derived.Test.YtfcjdinlcehpmaaGreatDoorProg
import Derived.Test.YtfcjdinlcehpmaaGreatDoorPW00
import Derived.WalkKit
import Derived.BigQuiet
import Derived.Test.YtfcjdinlcehpmaaGreatDoorPW31
import Derived.Deep.CutRange
import Derived.Deep.RegionHeld3
namespace Go.Proofs.YtfcjdinlcehpmaaGreatDoor
set_option linter.unusedVariables false
set_option linter.unusedSimpArgs false
set_option maxRecDepth 100000
open Go.RowKit Go.Gl HS
def ops15(on:Nat)(zn:Nat→Nat)(f:Nat→Nat→Po)(i j:Nat):Po:=if i<on∧j<zn i then f i j else ⟨0,0,0,0,0⟩
def on15(on:Nat)(zn:Nat→Nat)(i:Nat):Nat:=if i<on then (if zn i<60 then zn i else 60) else 0
def V15(on:Nat)(zA:Nat→Option Addr)(zn zc:Nat→Nat):WS:={ WS.new with OP:=opV15 on zA zn zc }
def Γ15(g:Nat)(tg:TG):WG:=⟨g,tg,none,0,[],[],fun _=>none,fun _=>0,fun _=>0,fun _=>[],fun _=>[],fun _=>0⟩
def BegA(w:World)(c:Cfg)(on:Nat)(zA:Nat→Option Addr)(zn zc:Nat→Nat)(f:Nat→Nat→Po)(e:Ending)(w':World):Prop:=
 (e=.returned (.tuple #[.pointer none,.bool true])∧Fr [] w w') ∨
 ∃(T M g s k:Nat) (tg:TG) (L:HL) (X:HX) (Λ:WL) (h:HS) (x:HT),e=.returned (.tuple #[.pointer (some ⟨Λ.wb,0,none⟩),.bool true])∧c.threads=(T:Int)∧1≤T∧T≤64 ∧
  HM w w' L X h x s k (wE Λ L.hb (Γ15 g tg).g T (V15 on zA zn zc)++[]) (gD (fun _=>False) Λ (Γ15 g tg) (·<T)) (gQ (fun _=>True) Λ (Γ15 g tg) (·<T) T L.B M G0) ∧
  WP w L.B h x (fun _=>False) Λ (Γ15 g tg) M T (V15 on zA zn zc) G0 (fun _=>0) (fun _=>none) (ops15 on zn f) (on15 on zn) True
theorem ovO_wE{Λ:WL}{hb g T:Nat}{on:Nat}{zA:Nat→Option Addr}{zn zc:Nat→Nat}:∀q,q∈wE Λ hb g T (V15 on zA zn zc)→q∈ovO Λ hb g T T (opV15 on zA zn zc):=fun q hq=>by
 simp only [wE,w4E,List.mem_cons,List.mem_append,List.mem_map,List.not_mem_nil,or_false]at hq
 simp only [ovO,List.mem_cons,List.mem_map]
 rcases hq with e | (e | e | e | e) | ⟨i,hi,e⟩
 ·exact .inr (.inr (.inl e))
 ·exact .inl e
 ·exact .inr (.inl e)
 ·exact .inr (.inr (.inr (.inl e)))
 ·exact .inr (.inr (.inr (.inr (.inl e))))
 ·exact .inr (.inr (.inr (.inr (.inr ⟨i,hi,e⟩))))
theorem sim_new{g:Geo}{W R n T:Nat}:Sim (HSn g W R n T) G0 (fun _=>0) (fun _=>none):=by
 have no:∀o:Nat,1≤o→o≤G0.N→False:=fun o h1 h2=>by
  have h2:o≤0:=h2
  omega
 have nu:∀u,¬ (HSn g W R n T).Used u:=fun u hu=>hu.2.1 rfl
 refine⟨⟨fun i hi hb=>?_,fun i j hi hj hne hb=>?_⟩,fun i hi=>rfl,fun o h1 h2=>(no o h1 h2).elim,fun o h1 h2=>(no o h1 h2).elim,fun o h1 h2=>(no o h1 h2).elim,fun o h1 h2=>(no o h1 h2).elim,fun o h1 h2=>(no o h1 h2).elim,fun o p h1 h2=>(no o h1 h2).elim,
  fun i hi a z e=>(by cases e),fun i hi a z e=>(by cases e),fun i hi a z e=>(by cases e),fun i j hi hj hne a z b y e=>(by cases e),[],⟨fun a z P hm=>(by cases hm),fun a z P hm=>(by cases hm),fun a z P hm=>(by cases hm),fun a z P hm=>(by cases hm),fun a z P b y Q hm=>(by cases hm),fun a z P hm=>(by cases hm),
  fun o h1 h2=>(no o h1 h2).elim,fun i hi a z e=>(by cases e),fun u hu=>(nu u hu).elim,fun r hr h4=>?_⟩⟩
 ·have hb:(0:Int)<0:=hb
  omega
 ·have hb:(0:Int)<0:=hb
  omega
 ·have h4:(0:Int)=4:=h4
  omega
theorem beg_of{w w':World}{L:HL}{X:HX}{c:Cfg}{W0 R C P qm s k T B M g:Nat}{tg:TG}{Λ:WL}{on:Nat}{oA:Option Addr}{zA:Nat→Option Addr}{zn zc:Nat→Nat}{f:Nat→Nat→Po}(hT:Tab w)(ok:NwOk c W0 R C P T B qm s k)(hM:c.geo.max=(M:Int))(hM1:1≤M)(hM2:M≤1048576)
  (hB:L.B=B) (hO:OpsIn w oA on zA zn zc f) (hwf:∀i j,i<on→j<zn i→PoOk (f i j)∧0≤(f i j).v∧(f i j).v<18446744073709551616)
  (H:OvO w w' L X (HSn c.geo W0 R (R*W0) T) (HTn C P R qm (R*W0)) s k [] (fun b=>(tg b).1≠0) (fun w=>MAt w tg g T B M G0) g T Λ (opV15 on zA zn zc)) :
  BegA w c on zA zn zc f (.returned (.tuple #[.pointer (some ⟨Λ.wb,0,none⟩),.bool true])) w':=by
 subst hB
 obtain⟨H,h2,-⟩:=H
 have z0:PoOk ⟨0,0,0,0,0⟩:=⟨⟨by decide,by decide⟩,⟨by decide,by decide⟩⟩
 have H1:=H.sub (E':=wE Λ L.hb g T (V15 on zA zn zc)++[]) (fun q hq=>by
  rw [List.append_nil]at hq ⊢
  exact ovO_wE q hq)
 have hw0:∀c:Nat,wbit (HTn C P R qm (R*W0)).C c=false:=fun c=>wbit_zero _ _
 have hl0:∀T,waitL (HTn C P R qm (R*W0)) T=[]:=fun T=>by
  show []++catL (fun _=>[]) T=[]
  rw [catL_none (fun _ _=>rfl)]
  rfl
 refine .inr ⟨T,M,g,s,k,tg,L,X,Λ,_,_,rfl,ok.th,ok.t1,ok.t2,H1.re hT (fun b hb=>?_) ⟨trivial,H.q.1,Lr.nil _ _,H.q.2,fun i _=>Lr.nil _ _⟩,?_⟩
 ·rcases hb with hb | hb | hb | hb | ⟨i,_,hb⟩
  ·exact hb.elim
  ·exact .inl hb
  ·cases hb
  ·exact .inr hb
  ·cases hb
 ·refine⟨⟨fun b hb=>hb.elim,fun b hb=>⟨fun hx=>(by cases hx),?_,fun i _ hx=>(by cases hx)⟩,fun b hb=>(by cases hb),fun b _ i _ hx=>(by cases hx),fun i j _ _ _ b hb=>(by cases hb)⟩,
   ⟨sim_new,GOk.zero _ _,rfl,fun i _=>.inl ⟨rfl,rfl⟩,⟨ok.t1,ok.t2,ok.q2,Nat.zero_le _,fun i _=>Nat.zero_le _⟩,fun i _ h0=>absurd rfl h0,ok.b2,hM,hM2⟩,⟨ok.t2,ok.b2,hM1,hM2⟩,rfl,fun i _=>rfl,fun i hi=>?_,fun i j=>?_,fun i=>?_,fun i _=>Nat.zero_le _,fun i _ h0=>absurd rfl h0,fun i _=>rfl,fun i _=>Nat.zero_le _,Nat.zero_le _,fun i _=>Nat.zero_le _,fun i _=>Nat.zero_le _,Nat.zero_le _,fun _=>⟨fun o j h1 h2=>?_,fun z=>?_,fun c _=>?_,fun z hz=>?_⟩⟩
  ·by_cases e:(tg b).1=0
   ·exact e
   ·exact absurd e (h2 b hb)
  ·show OpsAt w (opV15 on zA zn zc i) (on15 on zn i) (ops15 on zn f i)
   unfold opV15 on15
   by_cases e:i<on
   ·rw [if_pos e,if_pos e]
    obtain⟨A,c0,e1,e2⟩:=hO.ops i e
    injection e1 with e1 e3 e4
    subst e1 e4
    refine⟨_,_,rfl,fun hp=>?_⟩
    have hle:(if zn i<60 then zn i else 60)≤zn i:=by split <;> omega
    obtain⟨b,off,e5,e6,e7⟩:=e2 (by omega)
    refine⟨b,off,e5,e6,fun j hj=>?_⟩
    have:ops15 on zn f i j=f i j:=by unfold ops15;rw [if_pos ⟨e,by omega⟩]
    rw [this]
    exact e7 j (by omega)
   ·rw [if_neg e,if_neg e]
    exact⟨none,0,rfl,fun hp=>absurd hp (by omega)⟩
  ·unfold ops15
   split
   ·rename_i e
    exact hwf i j e.1 e.2
   ·exact⟨z0,by decide,by decide⟩
  ·unfold on15
   split
   ·split <;> omega
   ·omega
  ·have h2:o≤0:=h2
   omega
  ·rw [hl0];simp [Γ15]
  ·rw [hl0,hw0];simp [Γ15]
  ·rw [hl0]at hz;simp [Γ15]at hz
set_option maxHeartbeats 3200000 in
theorem begin_any(c:Cfg)(w:World)(hT:Tab w){oA:Option Addr}{on oc:Nat}{zA:Nat→Option Addr}{zn zc:Nat→Nat}{f:Nat→Nat→Po}(hO:OpsIn w oA on zA zn zc f)(hwf:∀i j,i<on→j<zn i→PoOk (f i j)∧0≤(f i j).v∧(f i j).v<18446744073709551616) :
  Calls Tryz.prog 5 #[c.val,.slice oA on oc] w (BegA w c on zA zn zc f):=by
 have HT:=hide hT
 have HOI:=hide hO
 have HWf:=hide hwf
 clear hT hO hwf
 by_cases hm:mayB c=false
 ·have HG:Hid (∀w',Calls Tryz.prog 15 #[c.val] w' fun e w''=>e=.returned (.tuple #[.agg #[.int .i64 0,.int .i64 0,.int .i64 0,.int .i64 0,.int .i64 0,.int .i64 0],.int .i64 20])∧Fr [] w' w''):=fun w'=>(gnew_any c w').mono fun e w'' ⟨h1,h2⟩=>⟨by rw [h1];unfold Cfg.ans Cfg.err;rw [hm];rfl,h2⟩
  have HP:Hid (∀w',Fr [] w w'→BegA w c on zA zn zc f (.returned (.tuple #[.pointer none,.bool true])) w'):=fun w' hf=>.inl ⟨rfl,hf⟩
  unfold Cfg.val at HG ⊢
  generalize BegA w c on zA zn zc f=Post at *
  clear hm
  go_enter Tryz.func5,Tryz.ntmps5
  go_wp2_with fail
  refine(HG.out _).mono ?_
  rintro e w2 ⟨rfl,hf⟩
  have HF2:Hid (Fr [] w w2):=((Fr.refl _ _).alloc _).trans_same hf
  clear hf
  go_wp2_with fail
  exact HP.out _ (HF2.out.alloc _)
 ·have hm:mayB c=true:=by simpa using hm
  obtain⟨W0,R,C,P,T,B,qm,s,k,ok⟩:=nwOk_of hm
  obtain⟨M,hM,hM1,hM2⟩:=geo_max ok.ok
  have HG:Hid (∀w',Calls Tryz.prog 15 #[c.val] w' fun e w''=>e=.returned (.tuple #[c.geo.val,.int .i64 0])∧Fr [] w' w''):=fun w'=>(gnew_any c w').mono fun e w'' ⟨h1,h2⟩=>⟨by rw [h1];unfold Cfg.ans Cfg.err;rw [hm];rfl,h2⟩
  have HN:Hid (∀w',Tab w'→Calls Tryz.prog 9 #[c.val] w' (HNewP w' c c.geo W0 R (R*W0) T C P qm B s k)):=fun w' hT=>heapnew_ok hm ok w' hT
  have HR:Hid (∀w',Calls Tryz.prog 16 #[.int .i64 (T:Int),.int .i64 (B:Int),.int .i64 (M:Int)] w' (MNew w' T B M)):=fun w'=>mnew_ok T B M ok.t1 ok.b1 ⟨ok.t2,ok.b2,hM1,hM2⟩ w'
  have HP1:Hid (∀w',Fr [] w w'→BegA w c on zA zn zc f (.returned (.tuple #[.pointer none,.bool true])) w'):=fun w' hf=>.inl ⟨rfl,hf⟩
  have HP2:Hid (∀w' g tg L X Λ,L.B=B→OvO w w' L X (HSn c.geo W0 R (R*W0) T) (HTn C P R qm (R*W0)) s k [] (fun b=>(tg b).1≠0) (fun w=>MAt w tg g T B M G0) g T Λ (opV15 on zA zn zc)→BegA w c on zA zn zc f (.returned (.tuple #[.pointer (some ⟨Λ.wb,0,none⟩),.bool true])) w'):=fun w' g tg L X Λ hLB hO=>beg_of HT.out ok hM hM1 hM2 hLB HOI.out HWf.out hO
  have hth:=hide ok.th
  have hro:=hide ok.ro
  obtain⟨h0,hh0⟩:∃h0,h0=HSn c.geo W0 R (R*W0) T:=⟨_,rfl⟩
  have HT0:Hid (h0.T=T):=by rw [hh0];rfl
  have HH0:=hide hh0
  rw [← hh0]at HP2
  obtain⟨g,hg⟩:∃g,g=c.geo:=⟨_,rfl⟩
  rw [← hg]at HG HN hM
  have HGg:=hide hg
  have HM0:=hide hM
  generalize BegA w c on zA zn zc f=Post at *
  have HBC:=hide (Blk.new w 23 c.cells)
  clear hm ok hg hh0 hM
  unfold Cfg.val at HG HN ⊢
  unfold Geo.val at HG
  go_enter Tryz.func5,Tryz.ntmps5
  go_wp2_with fail
  refine(HG.out _).mono ?_
  rintro e w2 ⟨rfl,hf⟩
  have HF2:Hid (Fr [] w w2):=((Fr.refl _ _).alloc _).trans_same hf
  have HB2:=hide (HBC.out.fr hf (by simp))
  have HGB:Hid (Blk (w2.alloc (.cells #[.int .i64 g.words,.int .i64 g.rw,.int .i64 g.cw,.int .i64 g.regions,.int .i64 g.cards,.int .i64 g.max] 65)) w2.heap.size 65 g.cells):=Blk.new _ _ _
  obtain⟨a0,a1,a2,a3,a4,a5,a6,a7,a8,a9,a10,a11,a12,a13⟩:=CfgAt.of HB2.out
  have N0:w.heap.size<w2.heap.size:=lt_of_cell a0
  clear hf HBC
  by_cases hbig:g.words>8192
  ·have hb1:decide (g.words>8192)=true:=by simpa using hbig
   have hb2:decide (8192<g.words)=true:=by simpa using hbig
   go_wp2_with fail
   exact HP1.out _ (HF2.out.alloc _)
  ·have hb1:decide (g.words>8192)=false:=by simpa using hbig
   have hb2:decide (8192<g.words)=false:=by simpa using hbig
   go_wp2_with fail
   refine(HN.out _ ((HT.out.fr HF2.out (by simp)).alloc _)).mono ?_
   intro e w4 hP
   obtain⟨L,X,own,rfl,hH,hB,hcf,hf,hown⟩:=hP.at (HF2.out.alloc _)
   rw [HGg.out,← HH0.out]at hH
   have HM4:=hide (HM.of0 hH)
   have HLB:=hide hB
   have HF4:Hid (Fr [] w w4):=HM4.out.fr
   have HB4:=(HB2.out.alloc (.cells #[.int .i64 g.words,.int .i64 g.rw,.int .i64 g.cw,.int .i64 g.regions,.int .i64 g.cards,.int .i64 g.max] 65)).fr hf (by simp)
   have HG4:=HGB.out.fr hf (by simp)
   have e3:w4.cell? ⟨w.heap.size,3,none⟩=some (.int .i64 (T:Int)):=by rw [← hth.out];exact HB4.cell 3
   have e4:w4.cell? ⟨w.heap.size,4,none⟩=some (.int .i64 (B:Int)):=by rw [← hro.out];exact HB4.cell 4
   have e5:w4.cell? ⟨w2.heap.size,5,none⟩=some (.int .i64 (M:Int)):=by rw [← HM0.out];exact HG4.cell 5
   clear hP hH hB hcf hf hown HB4 HG4 HN HG HB2 HF2 a0 a1 a2 a3 a4 a5 a6 a7 a8 a9 a10 a11 a12 a13
   go_wp2_with fail
   refine(HR.out _).mono ?_
   intro e w5 hR
   unfold MNew at hR
   obtain⟨gb,tg,rfl,hq,hf5,hn5⟩:=hR
   have hM5:HM w w5 L X h0 _ s k [] (fun b=>(tg b).1≠0) (fun w=>MAt w tg gb T B M G0):=HM4.out.live HT.out (F:=[]) hf5 (fun b hb=>by cases hb) (fun b hb=>.inr (hn5 b hb)) hq
   have HOv:=hide (over_any (oc:=oc) (livesM tg gb T B M G0) HT.out hM5 gb HOI.out)
   clear hq hf5 hn5 hM5 HR HM4 e3 e4 e5
   go_wp2_with fail
   refine HOv.out.mono ?_
   rintro e w6 ⟨Λ,rfl,hO⟩
   rw [HT0.out]at hO
   have HO6:=hide hO
   clear hO HOv
   go_wp2_with fail
   exact HP2.out _ _ _ _ _ _ HLB.out HO6.out
open Go.RowKit Go.Gl
structure Named(σ τ:GS)(T:Nat)(φ:Int→Int):Prop where
 zero:φ 0=0
 inj:∀a b,0≤a→a≤(σ.N:Int)→0≤b→b≤(σ.N:Int)→φ a=φ b→a=b
 st:∀t,t<T→τ.st t=(σ.st t).map φ
 np:∀r,1≤r→r≤(σ.N:Int)→τ.np (φ r)=σ.np r
 nw:∀r,1≤r→r≤(σ.N:Int)→τ.nw (φ r)=σ.nw r
 ref:∀r,1≤r→r≤(σ.N:Int)→∀j:Nat,j<σ.np r→τ.ref (φ r) (j:Int)=φ (σ.ref r (j:Int))
 dat:∀r,1≤r→r≤(σ.N:Int)→∀j:Nat,j<σ.nw r→τ.dat (φ r) (j:Int)=σ.dat r (j:Int)
section
variable {σ τ:GS}{T:Nat}{φ:Int→Int}
def InN(σ:GS)(r:Int):Prop:=0≤r∧r≤(σ.N:Int)
end
def Thing(σ:GS)(A:Nat→Nat)(Zs:List (Nat×Nat×Nat))(a z P:Nat):Prop:=(∃o,1≤o∧o≤σ.N∧a=A o∧z=osz σ o∧P=σ.np (o:Int))∨(a,z,P)∈Zs
section
variable {h:HS}{σ:GS}{A:Nat→Nat}{rv:Nat→Option (Nat×Nat)}{s k:Nat}{Zs:List (Nat×Nat×Nat)}{a z P b y Q r u:Nat}
end
def cfg14:Cfg:=⟨6,4,3,1,4,0,0,1,0,0,0,0,0,0⟩
def f14:Nat→Nat:=upd (updRow (fun _=>0) 0 3 (fun _=>0)) 0 (objW 3 1)
def h14:HS:=⟨cfg14.geo,64,4,256,f14,put1 (fun _=>0) 0 3,put1 (fun k=>((k*64:Nat):Int)) 0 3,1,fun _=>0,fun _=>0,setN (fun _=>[]) 0 [1]⟩
def numRow(N:Nat)(L:List Int):Array Value:=rowF (N+1) fun j=>.int .u64 (num L (j:Int))
def TrAt(W w:World)(N nb:Nat)(A:Option Addr)(n c:Nat)(L:List Int):Prop:=
 Fr [] W w∧∃G,Lr w 3 A n c G (zv L)∧Blk w nb 42 (numRow N L)∧(∀g,g∈G→W.heap.size≤g)∧W.heap.size≤nb
section
variable {W w w1 w':World}{N nb n c:Nat}{A:Option Addr}{L:List Int}
end
def OrdPost(W:World)(N:Nat)(O:List Int)(e:Ending)(w':World):Prop:=
 ∃A n c nb,e=.returned (.tuple #[.slice A n c,.slice (some ⟨nb,0,none⟩) (N+1) (N+1)])∧n=O.length∧TrAt W w' N nb A n c O
section
variable {W:World}{tg:TG}{Λ:ML}{T B M:Nat}{σ:GS}
structure MV(w:World)(Λ:ML)(K T B M:Nat)(σ:GS):Prop where
 st:Blk w Λ.m 102 #[.int .i64 (M:Int),Λ.ov,.slice Λ.sA K Λ.sc,.slice (some ⟨Λ.db,0,none⟩) T T]
 obj:R2 w 182 Λ.ov σ.N (fun k=>Λ.rv ((k:Int)+1)) (fun k=>Λ.dv ((k:Int)+1))
 refs:∀r,1≤r→r≤(σ.N:Int)→∃A c G,Λ.rv r=.slice A (kids σ r).length c∧Lr w 45 A (kids σ r).length c G (refV (kids σ r))
 data:∀r,1≤r→r≤(σ.N:Int)→∃A c,Λ.dv r=.slice A (datas σ r).length c∧Sl w A (datas σ r).length (fun k=>.int .u64 ((datas σ r).getD k 0))
 row:Lr w 124 Λ.sA K Λ.sc Λ.sG (ptrs Λ.S K)
 stk:∀i,i<K→∃F,HkR w (Λ.S i) F B (σ.st i)
end
def ReadAt(w1:World)(Λ:ML)(σ:GS)(A:Option Addr)(k:Nat)(r:Int):Prop:=
  ∃(b cc q gl ol:Nat) (rA:Option Addr) (rc:Nat) (dA:Option Addr) (dc:Nat) (dG:List Nat),A=some ⟨gl,ol,none⟩∧r=(q:Int)+1∧q<σ.N∧(∀w,Fr [] w1 w →
   w.cell? ⟨Λ.m,1,none⟩=some (.slice (some ⟨b,0,none⟩) σ.N cc)∧w.cell? ⟨gl,ol+k,none⟩=some (.int .i64 ((q:Int)+1))∧w.cell? ⟨b,q*2,none⟩=some (.slice rA (σ.np r) rc)∧w.cell? ⟨b,q*2+1,none⟩=some (.slice dA (σ.nw r) dc) ∧
   Sl w rA (σ.np r) (fun j=>.int .u64 ((kids σ r).getD j 0))∧Sl w dA (σ.nw r) (fun j=>.int .u64 ((datas σ r).getD j 0)))
section
variable {W w1:World}{tg:TG}{Λ:ML}{T B M:Nat}{σ:GS}{nb n c:Nat}{A:Option Addr}{O:List Int}
end
end Go.Proofs.YtfcjdinlcehpmaaGreatDoor
