/- Several texts joined (pack.py): Hi Hj Hl Zw. -/
import Derived.Test.YtimkofiempcfdaaGreatDoorPW43
import Derived.WalkKit
import Derived.BigQuiet
import Derived.Deep.CutRange
import Derived.Deep.RegionHeld3
import Derived.Test.YtimkofiempcfdaaGreatDoorPW19
import Derived.Test.YtimkofiempcfdaaGreatDoorPW41
set_option linter.unusedVariables false
set_option linter.unusedSimpArgs false
set_option maxHeartbeats 3200000
set_option maxRecDepth 100000
open List renaming getElem_cons_succ->D6,getElem_cons_zero->D7,getElem_toArray->D8,setIfInBounds_toArray->D9,set_cons_zero->Ea,set_cons_succ->Eb
open Int renaming eq_ofNat_of_zero_le->Ed
open Nat renaming le_trans->Eh,zero_le->Ei
namespace Go.Proofs.YtimkofiempcfdaaGreatDoor
open Go.RowKit Go.Gl
def Ai(W:World)(N:Nat)(O:List Int)(e:Ending)(w':World):Prop:=
 ∃A n c nb,e=.returned (.tuple #[.slice A n c,.slice (some ⟨nb,0,none⟩) (N+1) (N+1)])/\n=O.length/\eO W w' N nb A n c O
section
variable {W:World}{tg:TG}{Λ:ML}{T B M:Nat}{σ:GS}
theorem eO.new(W:World)(N:Nat):eO W (W.alloc (.cells (aJ (N+1) λ_=>.int .u64 0) 64)) N W.heap.size none 0 0 []:=
 ⟨(Fr.refl _ _).alloc _,[],Lr.nil _ _,Blk.new _ _ _,λg hg=>(by cases hg),Nat.le_refl _⟩
structure MV(w:World)(Λ:ML)(K T B M:Nat)(σ:GS):Prop where
 st:Blk w Λ.m 94 #[.int .i64 (M:Int),Λ.ov,.slice Λ.sA K Λ.sc,.slice (some ⟨Λ.db,0,none⟩) T T]
 obj:R2 w 178 Λ.ov σ.N (λk=>Λ.rv ((k:Int)+1)) (λk=>Λ.dv ((k:Int)+1))
 refs:∀r,1<=r->r<=(σ.N:Int)->∃A c G,Λ.rv r=.slice A (kids σ r).length c/\Lr w 67 A (kids σ r).length c G (bf (kids σ r))
 data:∀r,1<=r->r<=(σ.N:Int)->∃A c,Λ.dv r=.slice A (bp σ r).length c/\Sl w A (bp σ r).length (λk=>.int .u64 ((bp σ r).getD k 0))
 row:Lr w 153 Λ.sA K Λ.sc Λ.sG (aO Λ.S K)
 stk:∀i,i<K->∃F,HkR w (Λ.S i) F B (σ.st i)
theorem MG.toV{K:Nat}(h:MG W tg Λ K T B M σ):MV W Λ K T B M σ:=
 ⟨h.st,h.obj,λr h1 h2=>by obtain⟨A,c,G,e1,e2,_⟩:=h.refs r h1 h2;exact⟨A,c,G,e1,e2⟩,λr h1 h2=>(h.data r h1 h2).sl,h.row,λi hi=>by obtain⟨F,k1,_⟩:=h.stk i hi;exact⟨F,k1⟩⟩
theorem Aj{w:World}{A:Option Addr}{xs:List Int}{n:Nat}(hn:xs.length=n)(h:Sl w A n (λk=>.int .u64 (xs.getD k 0))):0<n->∃ad,A=some ad/\∀j u,(bf xs)[j]?=some u->w.cell? (ad.add j)=some u:=λh0=>by
 obtain⟨b,off,h1,_,h3⟩:=h h0;refine⟨_,h1,λj u hu=>?_⟩;have hj:j<xs.length:=by have:=(List.getElem?_eq_some_iff.1 hu).1;simpa[bf] using this
 rw[show(⟨b,off,none⟩:Addr).add j=⟨b,off+j,none⟩ from Go.WideShapes.add_plain _ _ _,h3 j (by omega),<- hu];simp[bf,hj]
theorem MV.fr0{w':World}{K:Nat}(h:MV W Λ K T B M σ)(hf:Fr [] W w'):MV w' Λ K T B M σ:=
 ⟨h.st.fr hf (by simp),h.obj.fr hf (λ_ _=>by simp),λr h1 h2=>by obtain⟨A,c,G,e1,e2⟩:=h.refs r h1 h2;exact⟨A,c,G,e1,e2.fr0 hf⟩,λr h1 h2=>by obtain⟨A,c,e1,e2⟩:=h.data r h1 h2;exact⟨A,c,e1,e2.fr hf (by simp)⟩,h.row.fr0 hf,λi hi=>by obtain⟨F,k1⟩:=h.stk i hi;exact⟨F,k1.fr0 hf⟩⟩
theorem MV.c1{K:Nat}(h:MV W Λ K T B M σ):W.cell? ⟨Λ.m,1,none⟩=some Λ.ov:=by rw[h.st.cell];rfl
theorem MV.c2{K:Nat}(h:MV W Λ K T B M σ):W.cell? ⟨Λ.m,2,none⟩=some (.slice Λ.sA K Λ.sc):=by rw[h.st.cell];rfl
theorem MV.ob{K:Nat}(h:MV W Λ K T B M σ){r:Int}(h1:1<=r)(h2:r<=(σ.N:Int)):∃(b c k:Nat),r=(k:Int)+1/\k<σ.N/\Λ.ov=.slice (some ⟨b,0,none⟩) σ.N c/\b<W.heap.size /\
  W.cell? ⟨b,k*2,none⟩=some (Λ.rv r)/\W.cell? ⟨b,k*2+1,none⟩=some (Λ.dv r):=by
 obtain⟨k,hk⟩:∃k:Nat,r-1=(k:Int):=Ed (by omega);have hr:r=(k:Int)+1:=by omega
 obtain⟨b,c,e1,e2,_,e3⟩:=h.obj.pos (by omega);obtain⟨e4,e5⟩:=e3 k (by omega);rw[<- hr]at e4 e5;exact⟨b,c,k,hr,by omega,e1,e2,e4,e5⟩
theorem MV.rsl{K:Nat}(h:MV W Λ K T B M σ){r:Int}(h1:1<=r)(h2:r<=(σ.N:Int)):∃A c,Λ.rv r=.slice A (kids σ r).length c/\Sl W A (kids σ r).length (λk=>.int .u64 ((kids σ r).getD k 0)):=by
 obtain⟨A,c,G,e1,e2⟩:=h.refs r h1 h2;exact⟨A,c,e1,kZ e2⟩
theorem MV.CH(h:MV W Λ T T B M σ){t:Nat}(ht:t<T):∃g off A c,Λ.sA=some ⟨g,off,none⟩/\g<W.heap.size/\W.cell? ⟨g,off+t,none⟩=some (.pointer (some ⟨Λ.S t,0,none⟩))/\W.cell? ⟨Λ.S t,1,none⟩=some (.slice A (σ.st t).length c)/\Sl W A (σ.st t).length (λk=>.int .u64 ((σ.st t).getD k 0)):=by
 obtain⟨g,off,e1,_,e2,e3,_,_⟩:=h.row.pos (by omega);obtain⟨G,k1⟩:=h.stk t ht;obtain⟨A,c,c1,_,hs⟩:=k1.sl;exact⟨g,off,A,c,e1,e2,by rw[e3 t ht];exact kK _ ht,c1,hs⟩
theorem tI(h:MV W Λ T T B M σ)(ok:GOk T B σ)(hd:dX T B M)(hN:σ.N<4096):Calls Tryz.prog 73 #[.pointer (some ⟨Λ.m,0,none⟩)] W (Ai W σ.N (order σ T)):=by
 obtain⟨O,hO⟩:∃O,O=order σ T:=⟨_,rfl⟩;have hOl:O.length<=4096:=by rw[hO];have:=m9 (T:=T) ok;omega
 have HPR:Hid (∀t,t<T->av (av [] (aP σ t)) (σ.st t) <+: O):=λt ht=>by
  rw[hO,<- cn,<- cu];have e:∀n,t+1<=n->av [] (aP σ (t+1)) <+: av [] (aP σ n):=λn hn=>by
   induction n with
  |zero=>omega
  |succ n ih=>
    rcases Nat.eq_or_lt_of_le hn with e|e
    ·rw[e];exact List.prefix_refl _
    ·rw[cu σ n,cn];exact(ih (by omega)).trans (dS _ _)
  exact(e T (by omega)).trans (m8 ok 0)
 have HMEET:Hid (∀w' nb A n c L la l lc,eO W w' σ.N nb A n c L->n=L.length->Sl W la l.length (λk=>.int .u64 (l.getD k 0))->(∀r,r∈l->0<=r/\r<=(σ.N:Int))->l.length<=1048576->(0:Int)∉L->av L l <+: O ->
   Calls Tryz.prog 126 #[.slice A n c,.slice (some ⟨nb,0,none⟩) (σ.N+1) (σ.N+1),.slice la l.length lc] w' λe w''=>∃A' n' c',e=.returned (.slice A' n' c')/\n'=(av L l).length/\eO W w'' σ.N nb A' n' c' (av L l)):=
  λw' nb A n c L la l lc a1 a2 a3 a4 a5 a6 a7=>wj a1 a2 a3 a4 (by omega) a5 a6 a7 hOl
 have HST:Hid (∀t,t<T->∃g off A c,Λ.sA=some ⟨g,off,none⟩/\g<W.heap.size/\W.cell? ⟨g,off+t,none⟩=some (.pointer (some ⟨Λ.S t,0,none⟩))/\W.cell? ⟨Λ.S t,1,none⟩=some (.slice A (σ.st t).length c)/\Sl W A (σ.st t).length (λk=>.int .u64 ((σ.st t).getD k 0))/\(∀r,r∈σ.st t->0<=r/\r<=(σ.N:Int))/\(σ.st t).length<=1048576):=λt ht=>by
  obtain⟨g,off,A,c,e1,e2,e3,e4,e5⟩:=h.CH ht;exact⟨g,off,A,c,e1,e2,e3,e4,e5,ok.mem t,by have:=ok.len t;have:=hd.b;omega⟩
 have HRZ:Hid (∀t,(0:Int)∉av [] (aP σ t)):=λt hm=>by
  rw[cp]at hm;rcases hm with hm|⟨_,hm⟩
  ·cases hm
  ·exact hm rfl
 have HBZ:Hid (∀k,(0:Int)∉bfs σ T k):=λk hm=>by have:=jW ok k 0 hm;omega
 have HBP:Hid (∀k,bfs σ T k <+: O):=λk=>hO ▸ m8 ok k;have HBE:Hid (∀k,(bfs σ T k).length<=k->O=bfs σ T k):=λk hk=>hO ▸ zd ok hk;have HOB:Hid (∀k r,(bfs σ T k)[k]?=some r->∃(b cc q:Nat) (A:Option Addr) (c:Nat),r=(q:Int)+1/\q<σ.N/\Λ.ov=.slice (some ⟨b,0,none⟩) σ.N cc/\b<W.heap.size/\W.cell? ⟨b,q*2,none⟩=some (.slice A (kids σ r).length c)/\Sl W A (kids σ r).length (λk=>.int .u64 ((kids σ r).getD k 0))/\(∀x,x∈kids σ r->0<=x/\x<=(σ.N:Int))/\(kids σ r).length<=1048576):=λk r hr=>by
  obtain⟨h1,h2⟩:=jW ok k r (List.mem_of_getElem? hr);obtain⟨b,cc,q,q1,q2,q3,q5,q6,q7⟩:=h.ob h1 h2;obtain⟨A,c,e1,e2⟩:=h.rsl h1 h2;refine⟨b,cc,q,A,c,q1,q2,q3,q5,by rw[q6,e1],e2,λx hx=>?_,by rw[ew];exact ok.np r⟩;obtain⟨j,_,rfl⟩:=jB.1 hx;exact ok.ref r j
 obtain⟨oA,oc,hov,_⟩:=h.obj.form;have c1:=h.c1;have c2:=h.c2;rw[hov]at c1;have HC1:=aa c1;have HC2:=aa c2;have hT:=hd.t;have NM:Λ.m<W.heap.size:=h.st.lt;have HOV:=aa hov;have HO:=aa hO;have hw0:IntKind.i64.wrap ((σ.N:Int)+1)=(σ.N:Int)+1:=IntWalk.i64_in _ ⟨by omega,by omega⟩;have hmk:∀w',(Instr.makeSlice 96 (.int .i64 ((σ.N:Int)+1)) (.int .i64 ((σ.N:Int)+1))).run Tryz.prog w'=.ok (.slice (some ⟨w'.heap.size,0,none⟩) (σ.N+1) (σ.N+1)) (w'.alloc (.cells (aJ (σ.N+1) λ_=>.int .u64 0) 64)):=λw'=>by
  have:=iV (P:=Tryz.prog) (t:=96) (e:=64) (z:=.int .u64 0) Tryz.underlying96 Tryz.nP rfl (n:=σ.N+1) (by omega) w';rwa[show((σ.N+1:Nat):Int)=(σ.N:Int)+1 by omega]at this
 have HOL:=aa hOl;have HT0:=aa (eO.new W σ.N);have hbfs0:Hid (bfs σ T 0=av [] (aP σ T)):=rfl;clear h ok hd hO hOl hov;rw[<- HO.out];go_enter Tryz.func73,Tryz.ntmps73
 go_wp2_with fail
 clear hmk hw0;generalize W.alloc (.cells (aJ (σ.N+1) λ_=>.int .u64 0) 64)=w0 at *;obtain⟨nb,hnb⟩:∃nb,nb=W.heap.size:=⟨_,rfl⟩;rw[<- hnb]at HT0 ⊢;have HNB:=aa hnb;clear hnb c1 c2;go_loopw [4,6] (λs i wr=>∃(t:Nat) (A':Option Addr) (n' c':Nat),i=.int .i64 t/\s=.slice A' n' c'/\n'=(av [] (aP σ t)).length/\t<=T/\eO W wr σ.N nb A' n' c' (av [] (aP σ t))) (λ_ i _=>T-(intOf i).toNat)
 case atStart=>exact⟨0,none,0,0,rfl,rfl,rfl,Ei _,HT0.out⟩
 case round=>
  obtain⟨t,A1,n1,c1',rfl,rfl,hn1,htT,ht1⟩:=hrel;have x2:wr.cell? ⟨Λ.m,2,none⟩=some (.slice Λ.sA T Λ.sc):=by rw[ht1.1.cell (p:=⟨Λ.m,2,none⟩) NM (by simp)];exact HC2.out
  by_cases hlt:t<T
  ·have hlt1:(t:Int)<(T:Int):=by omega
   obtain⟨g,off,A2,c2,s1,s2,s3,s4,s5,s6,s7⟩:=HST.out t hlt;rw[s1]at x2;have y1:wr.cell? ⟨g,off+t,none⟩=some (.pointer (some ⟨Λ.S t,0,none⟩)):=by rw[ht1.1.cell (p:=⟨g,off+t,none⟩) s2 (by simp)];exact s3
   have y2:wr.cell? ⟨Λ.S t,1,none⟩=some (.slice A2 (σ.st t).length c2):=by rw[ht1.1.cell (p:=⟨Λ.S t,1,none⟩) (ae s4) (by simp)];exact s4
   have HM:=aa (HMEET.out wr nb A1 n1 c1' _ A2 (σ.st t) c2 ht1 hn1 s5 s6 s7 (HRZ.out t) (HPR.out t hlt));rw[<- cn,<- cu]at HM;have HLT:=aa hlt;clear ht1 hn1 s1 s2 s3 s4 s5 s6 s7 HT0;generalize (σ.st t).length=ll at *;go_wp2_with fail
   refine HM.out.mono ?_;rintro e w3 ⟨A3,n3,c3,rfl,hn3,ht3⟩;have HR:Hid (n3=(av [] (aP σ (t+1))).length/\eO W w3 σ.N nb A3 n3 c3 (av [] (aP σ (t+1)))):=⟨hn3,ht3⟩;clear hn3 ht3 HM x2 y1 y2;go_wp2_with fail
   go_roundw
   case rel=>exact⟨t+1,A3,n3,c3,by go_num,rfl,HR.out.1,by have:=HLT.out;omega,HR.out.2⟩
   case measure=>simp[intOf];have:=HLT.out;omega
  ·obtain rfl:t=T:=by omega
   have HR:Hid (n1=(bfs σ t 0).length/\eO W wr σ.N nb A1 n1 c1' (bfs σ t 0)):=⟨hn1,ht1⟩;clear ht1 hn1 HT0;go_wp2_with fail
   go_loopw [4,7] (λs i wr=>∃(k:Nat) (A':Option Addr) (n' c':Nat),i=.int .i64 k/\s=.slice A' n' c'/\n'=(bfs σ t k).length/\k<=4096/\eO W wr σ.N nb A' n' c' (bfs σ t k)) (λ_ i _=>4096-(intOf i).toNat)
   case atStart=>exact⟨0,A1,n1,c1',rfl,rfl,HR.out.1,by omega,HR.out.2⟩
   case round=>
    obtain⟨k,A2,n2,c2,rfl,rfl,hn2,hk,ht2⟩:=hrel;by_cases hlt2:k<n2
    ·have hlt3:(k:Int)<(n2:Int):=by omega
     obtain⟨r,hr⟩:∃r,(bfs σ t k)[k]?=some r:=⟨_,List.getElem?_eq_getElem (by omega)⟩;obtain⟨b,cc,q,A4,c4,s1,s2,s3,s4,s5,s6,s7,s8⟩:=HOB.out k r hr;have hst:=dq σ t hr;have HM:=aa (HMEET.out wr.drew nb A2 n2 c2 _ A4 (kids σ r) c4 (ht2.fr0 ((Fr.refl _ _).drew)) hn2 s6 s7 s8 (HBZ.out k) (by rw[<- hst];exact HBP.out (k+1)));rw[<- hst]at HM;have hk5:k<4096:=by
      have:=(HBP.out k).length_le;have:=HOL.out;omega
     have z1:wr.cell? ⟨Λ.m,1,none⟩=some (.slice (some ⟨b,0,none⟩) σ.N cc):=by rw[ht2.1.cell (p:=⟨Λ.m,1,none⟩) NM (by simp),HC1.out,<- HOV.out,s3]
     have z2:wr.cell? ⟨b,q*2,none⟩=some (.slice A4 (kids σ r).length c4):=by rw[ht2.1.cell (p:=⟨b,q*2,none⟩) s4 (by simp)];exact s5
     obtain⟨hf,G,k1,k2,k3,k4⟩:=ht2;obtain⟨gl,ol,rfl,_,_,hcell,_,_⟩:=k1.pos (by omega);have z3:wr.cell? ⟨gl,ol+k,none⟩=some (.int .i64 ((q:Int)+1)):=by
      rw[hcell k hlt2,rN _ (by omega),<- s1];simp[hr]
     have hw1:IntKind.i64.wrap ((q:Int)+1-1)=(q:Int):=by
      rw[show(q:Int)+1-1=(q:Int)by omega];exact IntWalk.i64_in _ ⟨by omega,by omega⟩
     have hq1:(q:Int)<(σ.N:Int):=by omega
     have hqb:q<4096:=by omega
     have hw2:IntKind.i64.wrap (q:Int)=(q:Int):=IntWalk.i64_in _ ⟨by omega,by omega⟩;have HK5:=aa hk5;clear hf k1 k2 k3 k4 hn2 hcell s1 s2 s3 s4 s5 s6 s7 s8 hst hr HR x2;generalize (kids σ r).length=ll at *;go_wp2_with fail
     refine br 14 (by kernel_rfl) (by kernel_rfl) ?_;simp only[List.take_succ_cons,List.take_zero,List.drop_succ_cons,List.drop_zero]
     repeat still_step
     refine wpStill_nil ?_;go_wp2_with fail
     refine HM.out.mono ?_;rintro e w3 ⟨A3,n3,c3,rfl,hn3,ht3⟩;have HR:Hid (n3=(bfs σ t (k+1)).length/\eO W w3 σ.N nb A3 n3 c3 (bfs σ t (k+1))):=⟨hn3,ht3⟩;clear hn3 ht3 HM z1 z2 z3;go_wp2_with fail
     go_roundw
     case rel=>exact⟨k+1,A3,n3,c3,by go_num,rfl,HR.out.1,by have:=HK5.out;omega,HR.out.2⟩
     case measure=>simp[intOf];have:=HK5.out;omega
    ·have hOe:=HBE.out k (by omega);have HE:Hid (n2=O.length/\eO W wr σ.N nb A2 n2 c2 O):=by rw[hOe];exact⟨hn2,ht2⟩
     clear ht2 hn2 hOe HR x2;have hlt3:¬ (k:Int)<(n2:Int):=by omega
     go_wp2_with fail
     go_ret2
     exact⟨A2,n2,c2,nb,rfl,HE.out.1,HE.out.2⟩
end
def yF(w1:World)(Λ:ML)(σ:GS)(A:Option Addr)(k:Nat)(r:Int):Prop:=
  ∃(b cc q gl ol:Nat) (rA:Option Addr) (rc:Nat) (dA:Option Addr) (dc:Nat) (dG:List Nat),A=some ⟨gl,ol,none⟩/\r=(q:Int)+1/\q<σ.N/\(∀w,Fr [] w1 w ->
   w.cell? ⟨Λ.m,1,none⟩=some (.slice (some ⟨b,0,none⟩) σ.N cc)/\w.cell? ⟨gl,ol+k,none⟩=some (.int .i64 ((q:Int)+1))/\w.cell? ⟨b,q*2,none⟩=some (.slice rA (σ.np r) rc)/\w.cell? ⟨b,q*2+1,none⟩=some (.slice dA (σ.nw r) dc) /\
   Sl w rA (σ.np r) (λj=>.int .u64 ((kids σ r).getD j 0))/\Sl w dA (σ.nw r) (λj=>.int .u64 ((bp σ r).getD j 0)))
section
variable {W w1:World}{tg:TG}{Λ:ML}{T B M:Nat}{σ:GS}{nb n c:Nat}{A:Option Addr}{O:List Int}
theorem MV.read(h:MV W Λ T T B M σ)(ok:GOk T B σ)(ht:eO W w1 σ.N nb A n c (order σ T))(hn:n=(order σ T).length){k:Nat}{r:Int}(hr:(order σ T)[k]?=some r):yF w1 Λ σ A k r:=by
 obtain⟨h1,h2⟩:=xp ok (List.mem_of_getElem? hr);obtain⟨b,cc,q,q1,q2,q3,q5,q6,q7⟩:=h.ob h1 h2;obtain⟨rA,rc,e1,e2⟩:=h.rsl h1 h2;obtain⟨dA,dc,e3,e4⟩:=h.data r h1 h2;have hdl:(bp σ r).length=σ.nw r:=by simp[bp]
 rw[ew]at e1 e2;rw[hdl]at e3 e4;obtain⟨hf,G,k1,k2,k3,k4⟩:=ht;obtain⟨hk,_⟩:=List.getElem?_eq_some_iff.1 hr;obtain⟨gl,ol,rfl,_,hgl,hcell,_,_⟩:=k1.pos (by omega);refine⟨b,cc,q,gl,ol,rA,rc,dA,dc,[],rfl,q1,q2,λw hw=>?_⟩;have hfw:=hf.af hw;have c1:=h.c1;refine⟨?_,?_,?_,?_,e2.fr hfw (by simp),e4.fr hfw (by simp)⟩
 ·rw[hfw.cell (p:=⟨Λ.m,1,none⟩) h.st.lt (by simp),c1,q3]
 ·rw[hw.cell (p:=⟨gl,ol+k,none⟩) hgl (by simp),hcell k (by omega),rN _ hk,<- q1];simp[hr]
 ·rw[hfw.cell (p:=⟨b,q*2,none⟩) q5 (by simp),q6,e1]
 ·rw[hfw.cell (p:=⟨b,q*2+1,none⟩) q5 (by simp),q7,e3]
theorem eO.num(ht:eO W w1 σ.N nb A n c O){q:Nat}(hq:q<=σ.N){w:World}(hw:Fr [] w1 w):w.cell? ⟨nb,q,none⟩=some (.int .u64 (num O (q:Int))):=by
 obtain⟨hf,G,k1,k2,k3,k4⟩:=ht;rw[(k2.fr hw (by simp)).cell];exact cg (by omega)
end
def dg(w1 w:World)(A:Option Addr)(n c:Nat)(out:List Int):Prop:=Fr [] w1 w/\∃G,Lr w 64 A n c G (bf out)/\∀g,g∈G->w1.heap.size<=g
theorem dg.app{w1 w wa w':World}{Go G':List Nat}{A':Option Addr}{n' c':Nat}{out':List Int}(hf:Fr [] w1 w)(k4:∀g,g∈Go->w1.heap.size<=g)(hfa:Fr [] w wa)(hF:Fr Go wa w')(hL:Lr w' 64 A' n' c' G' (bf out'))(hG:∀g,g∈G'->g∈Go\/w.heap.size<=g):dg w1 w' A' n' c' out':=
 ⟨(hf.af hfa).trans hF (λx hx=>.inr (k4 x hx)),G',hL,λg hg=>(hG g hg).elim (k4 g) (λh=>Eh hf.size h)⟩
theorem dg.fr0{w1 w w':World}{A:Option Addr}{n c:Nat}{out:List Int}(h:dg w1 w A n c out)(hf:Fr [] w w'):dg w1 w' A n c out:=by
 obtain⟨h1,G,h2,h3⟩:=h;exact⟨h1.af hf,G,h2.fr0 hf,h3⟩
section
variable {W w1:World}{tg:TG}{Λ:ML}{T B M:Nat}{σ:GS}
theorem Ak(h:MV W Λ T T B M σ)(ok:GOk T B σ)(hd:dX T B M)(hN:σ.N<4096):Calls Tryz.prog 36 #[.pointer (some ⟨Λ.m,0,none⟩)] W (iS W (shape σ T)):=by
 obtain⟨i0,hi,hz0,hz1,hz2⟩:=info_parts Tryz.nP;have HO:=aa (tI h ok hd hN);have hOl:(order σ T).length<=4096:=by have:=m9 (T:=T) ok;omega
 have HOL:=aa hOl;have HH:=aa h;have HK:=aa ok;have NM:Λ.m<W.heap.size:=h.st.lt;have hT:=hd.t;have HB64:Hid (B<=64):=hd.b;have HLEN:Hid (∀t,(σ.st t).length<=64):=λt=>Eh (ok.len t) hd.b;have HMEM:Hid (∀t k,k<(σ.st t).length->∃q:Nat,(σ.st t).getD k 0=(q:Int)/\q<=σ.N):=λt k hk=>by
  have:=ok.mem t ((σ.st t).getD k 0) (by simp[hk]);obtain⟨q,hq⟩:=Ed this.1;exact⟨q,hq,by omega⟩
 have HKM:Hid (∀r j,j<σ.np r->∃q:Nat,(kids σ r).getD j 0=(q:Int)/\q<=σ.N):=λr j hj=>by
  rw[lp σ r hj];obtain⟨q,hq⟩:=Ed (ok.ref r j).1;exact⟨q,hq,by have:=(ok.ref r j).2;omega⟩
 have HSH:Hid (shape σ T=(List.range T).flatMap (bh σ (order σ T))++(order σ T).flatMap (bS σ (order σ T))):=rfl;clear h ok hd hOl;go_enter Tryz.func36,Tryz.ntmps36
 go_wp2_with fail
 refine HO.out.mono ?_;rintro e w1 ⟨A,n,c,nb,rfl,hn,ht⟩;have HR:Hid (∀k r,(order σ T)[k]?=some r->yF w1 Λ σ A k r):=λk r hr=>HH.out.read HK.out ht hn hr;have HNUM:Hid (∀(q:Nat) (w:World),q<=σ.N->Fr [] w1 w->w.cell? ⟨nb,q,none⟩=some (.int .u64 (num (order σ T) (q:Int)))):=λq w hq hw=>ht.num hq hw;have HF1:=aa ht.1;have HN:=aa hn;have HNB:Hid (∀q:Nat,0<=num (order σ T) (q:Int)/\num (order σ T) (q:Int)<=4096):=λq=>by have:=lk (order σ T) (q:Int);have:=HOL.out;omega
 have HROW:Hid (∀w t,Fr [] w1 w->t<T->∃g off A2 c2,Λ.sA=some ⟨g,off,none⟩/\w.cell? ⟨g,off+t,none⟩=some (.pointer (some ⟨Λ.S t,0,none⟩))/\w.cell? ⟨Λ.S t,1,none⟩=some (.slice A2 (σ.st t).length c2)/\Sl w A2 (σ.st t).length (λk=>.int .u64 ((σ.st t).getD k 0))):=λw t hw htT=>by
  obtain⟨g,off,A2,c2,s1,s2,s3,s4,s5⟩:=HH.out.CH htT;have hfw:=HF1.out.af hw;exact⟨g,off,A2,c2,s1,by rw[hfw.cell (p:=⟨g,off+t,none⟩) s2 (by simp)];exact s3,by rw[hfw.cell (p:=⟨Λ.S t,1,none⟩) (ae s4) (by simp)];exact s4,s5.fr hfw (by simp)⟩
 have HC2:Hid (∀w,Fr [] w1 w->w.cell? ⟨Λ.m,2,none⟩=some (.slice Λ.sA T Λ.sc)/\Λ.m<w.heap.size):=λw hw=>⟨(HH.out.fr0 (HF1.out.af hw)).c2,(HH.out.fr0 (HF1.out.af hw)).st.lt⟩;clear hn ht HO NM;generalize hO:order σ T=O at *;clear hO;go_wp2_with fail
 go_loopw [5,6] (λs i wr=>∃(t:Nat) (A':Option Addr) (n' c':Nat),i=.int .i64 t/\s=.slice A' n' c'/\n'<=t*65/\t<=T/\dg w1 wr A' n' c' ((List.range t).flatMap (bh σ O))) (λ_ i _=>T-(intOf i).toNat)
 case atStart=>exact⟨0,none,0,0,rfl,rfl,Ei _,Ei _,Fr.refl _ _,[],Lr.nil _ _,λg hg=>by cases hg⟩
 case round=>
  obtain⟨t,A1,n1,c1,rfl,rfl,hn1,htT,hs1⟩:=hrel;obtain⟨x2,NM⟩:=HC2.out wr hs1.1;by_cases hlt:t<T
  ·have hlt1:(t:Int)<(T:Int):=by omega
   obtain⟨g,off,A2,c2,s1,y1,y2,s5⟩:=HROW.out wr t hs1.1 hlt;rw[s1]at x2;have HLT:=aa hlt;have HLN:=HLEN.out t;obtain⟨ln,hln⟩:∃ln,ln=(σ.st t).length:=⟨_,rfl⟩;have HLL:=aa hln;rw[<- hln]at y2 HLN;have hwl:IntKind.u64.wrap (ln:Int)=(ln:Int):=IntWalk.u64_in _ ⟨by omega,by omega⟩;obtain⟨hf,Go,k2,k4⟩:=hs1;have HF:=aa hf;have K4:=aa k4;have HB:Hid (n1+1<=maxLen/\(n1+1)*8<=140737488355328):=⟨by unfold maxLen;omega,by omega⟩;have HLR2:Hid (Lr (wr.alloc (.cells #[.int .u64 (ln:Int)] 64)) 64 A1 n1 c1 Go (bf ((List.range t).flatMap (bh σ O)))):=k2.alloc _;have NG:=ae y1;have NS:=ae y2;clear hf k2 k4 hln s1 s5;go_wp2_with (first|(at_builtin;refine aF rfl _ _ 96 rfl 64 i0 (.int .u64 0) 8 Tryz.underlying96 hi hz0 hz1 hz2 rfl rfl HLR2.out rfl (by rfl) (λ_=>cG wr (.int .u64 (ln:Int)) 64 rfl _ (Fr.refl _ _)) (by intro u hu;simp at hu;subst hu;rfl) HB.out.1 HB.out.2 ?_;intro A' c' G' w4 HLn HFn HGn))
   have HS:Hid (dg w1 w4 A' (n1+1) c' ((List.range t).flatMap (bh σ O)++[(ln:Int)])):=dg.app HF.out K4.out ((Fr.refl [] wr).alloc _) HFn.out (by rw[kg];exact HLn.out) (λg hg=>(HGn.out g hg).imp id (λh=>by rw[h.1];simp));clear HF K4 HB HLR2 HLn HFn HGn hwl x2 y1 y2 NG NS NM;have hn2:n1+1<=t*65+1:=by omega
   clear hn1;generalize n1+1=n2 at *;go_loopw [5,7] (λs i wr=>∃(k:Nat) (A':Option Addr) (n' c':Nat),i=.int .i64 k/\s=.slice A' n' c'/\n'<=t*65+1+k/\k<=ln/\dg w1 wr A' n' c' ((List.range t).flatMap (bh σ O)++[(ln:Int)]++((σ.st t).take k).map (num O))) (λ_ i _=>ln-(intOf i).toNat)
   case atStart=>exact⟨0,A',n2,c',rfl,rfl,by omega,Ei _,by simpa using HS.out⟩
   case round=>
    obtain⟨k,A5,n5,c5,rfl,rfl,hn5,hk,hs5⟩:=hrel;obtain⟨x2,NM⟩:=HC2.out wr hs5.1;obtain⟨g,off,A2,c2,s1,y1,y2,s5⟩:=HROW.out wr t hs5.1 HLT.out;rw[s1]at x2;rw[<- HLL.out]at y2 s5;by_cases hkl:k<ln
    ·have hkl1:(k:Int)<(ln:Int):=by omega
     have hks:k<(σ.st t).length:=by have:=HLL.out;omega
     obtain⟨q,hq,hqN⟩:=HMEM.out t k hks;obtain⟨gs,os,rfl,_,hcs⟩:=s5 (by omega);have y3:wr.cell? ⟨gs,os+k,none⟩=some (.int .u64 (q:Int)):=by rw[<- hq];exact hcs k hkl
     have y4:=HNUM.out q wr hqN hs5.1;have hq1:(q:Int)<((σ.N:Int)+1):=by omega
     obtain⟨hf,Go,k2,k4⟩:=hs5;have HF:=aa hf;have K4:=aa k4;have HB:Hid (n5+1<=maxLen/\(n5+1)*8<=140737488355328):=⟨by unfold maxLen;omega,by omega⟩;have HQ:=aa hq;have HKS:=aa hks;have HLT2:=aa hkl;obtain⟨y,hy⟩:∃y,y=num O (q:Int):=⟨_,rfl⟩;rw[<- hy]at y4;have HY:=aa hy;have HLR2:Hid (Lr (wr.alloc (.cells #[.int .u64 y] 64)) 64 A5 n5 c5 Go (bf ((List.range t).flatMap (bh σ O)++[(ln:Int)]++((σ.st t).take k).map (num O)))):=k2.alloc _;clear hf k2 k4 hcs hq hks hy s1 s5 HS;go_wp2_with (first|(at_builtin;refine aF rfl _ _ 96 rfl 64 i0 (.int .u64 0) 8 Tryz.underlying96 hi hz0 hz1 hz2 rfl rfl HLR2.out rfl (by rfl) (λ_=>cG wr (.int .u64 y) 64 rfl _ (Fr.refl _ _)) (by intro u hu;simp at hu;subst hu;rfl) HB.out.1 HB.out.2 ?_;intro A' c' G' w4 HLn HFn HGn))
     have HS':Hid (dg w1 w4 A' (n5+1) c' ((List.range t).flatMap (bh σ O)++[(ln:Int)]++((σ.st t).take (k+1)).map (num O))):=dg.app HF.out K4.out ((Fr.refl [] wr).alloc _) HFn.out (by rw[iF HKS.out,List.map_append,<- List.append_assoc,show [(σ.st t).getD k 0].map (num O)=[y]by rw[HY.out,HQ.out];rfl,kg];exact HLn.out) (λg hg=>(HGn.out g hg).imp id (λh=>by rw[h.1];simp));go_roundw
     case rel=>exact⟨k+1,A',n5+1,c',by go_num,rfl,by omega,by have:=HLT2.out;omega,HS'.out⟩
     case measure=>simp[intOf];have:=HLT2.out;omega
    ·obtain rfl:k=ln:=by omega
     have htk:(σ.st t).take k=σ.st t:=by rw[List.take_of_length_le];have:=HLL.out;omega
     rw[htk]at hs5;have HS5:Hid (dg w1 wr A5 n5 c5 ((List.range (t+1)).flatMap (bh σ O))):=by
      rw[List.range_succ,List.flatMap_append];have e:[t].flatMap (bh σ O)=[(k:Int)]++(σ.st t).map (num O):=by simp[bh,HLL.out]
      rw[e,<- List.append_assoc];exact hs5
     have hn6:n5<=(t+1)*65:=by omega
     clear hs5 htk HS s1 s5;go_wp2_with fail
     go_roundw
     case rel=>exact⟨t+1,A5,n5,c5,by go_num,rfl,hn6,by have:=HLT.out;omega,HS5.out⟩
     case measure=>simp[intOf];have:=HLT.out;omega
  ·obtain rfl:t=T:=by omega
   have HS1:=aa hs1;have hn2:n1<=4160:=by omega
   have HN2:=aa hn2;clear hs1 hn1;go_wp2_with fail
   clear x2 NM;go_loopw [5,8] (λs i wr=>∃(k:Nat) (A':Option Addr) (n' c':Nat),i=.int .i64 k/\s=.slice A' n' c'/\n'<=4160+k*2097154/\k<=n/\dg w1 wr A' n' c' ((List.range t).flatMap (bh σ O)++(O.take k).flatMap (bS σ O))) (λ_ i _=>n-(intOf i).toNat)
   case atStart=>exact⟨0,A1,n1,c1,rfl,rfl,by omega,Ei _,by simpa using HS1.out⟩
   case round=>
    obtain⟨k,A2,n2,c2,rfl,rfl,hn3,hk,hs2⟩:=hrel;by_cases hlt2:k<n
    ·have hlt3:(k:Int)<(n:Int):=by omega
     obtain⟨r,hr⟩:∃r,O[k]?=some r:=⟨_,List.getElem?_eq_getElem (by have:=HN.out;omega)⟩;obtain⟨b,cc,q,gl,ol,rA,rc,dA,dc,dG,rfl,q1,q2,q3⟩:=HR.out k r hr;have hnp:=HK.out.np r;have hnw:=HK.out.nw r;have hkb:k<4096:=by have:=HN.out;have:=HOL.out;omega
     have HOK:=aa hr;obtain⟨rn,hrn⟩:∃rn,rn=σ.np r:=⟨_,rfl⟩;obtain⟨dn,hdn⟩:∃dn,dn=σ.nw r:=⟨_,rfl⟩;have HRN:=aa hrn;have HDN:=aa hdn;have HSC:Hid (∀w':World,Fr [] wr w'->(λw':World=>w'.cell? ⟨Λ.m,1,none⟩=some (.slice (some ⟨b,0,none⟩) σ.N cc)/\w'.cell? ⟨gl,ol+k,none⟩=some (.int .i64 ((q:Int)+1))/\w'.cell? ⟨b,q*2,none⟩=some (.slice rA rn rc)/\w'.cell? ⟨b,q*2+1,none⟩=some (.slice dA dn dc)) w'):=λw' hw=>by
      obtain⟨a1,a2,a3,a4,_,_⟩:=q3 w' (hs2.1.af hw);rw[hrn,hdn];exact⟨a1,a2,a3,a4⟩
     have HKD:Hid (∀w',Fr [] w1 w'->Sl w' rA rn (λj=>.int .u64 ((kids σ r).getD j 0))/\Sl w' dA dn (λj=>.int .u64 ((bp σ r).getD j 0))):=λw' hw=>by
      obtain⟨_,_,_,_,a5,a6⟩:=q3 w' hw;rw[hrn,hdn];exact⟨a5,a6⟩
     rw[<- hrn]at hnp;rw[<- hdn]at hnw;have hw1:IntKind.i64.wrap ((q:Int)+1-1)=(q:Int):=by
      rw[show(q:Int)+1-1=(q:Int)by omega];exact IntWalk.i64_in _ ⟨by omega,by omega⟩
     have hw2:IntKind.i64.wrap (q:Int)=(q:Int):=IntWalk.i64_in _ ⟨by omega,by omega⟩;have hw3:IntKind.u64.wrap (rn:Int)=(rn:Int):=IntWalk.u64_in _ ⟨by omega,by omega⟩;have hw4:IntKind.u64.wrap (dn:Int)=(dn:Int):=IntWalk.u64_in _ ⟨by omega,by omega⟩;have hqb:q<4096:=by omega
     have hq1:(q:Int)<(σ.N:Int):=by omega
     have HS2:=aa hs2;have HLT:=aa hlt2;have HFD:Hid (Fr [] wr wr.drew):=(Fr.refl _ _).drew;clear q3 hr hrn hdn q1 HS1 hs2 HR;go_upto_region 14 with fail
     go_cut [9] from 74 to 123 (λp wc=>∃xb,p=.pointer (some ⟨xb,0,none⟩)/\Blk wc xb 178 #[.slice rA rn rc,.slice dA dn dc]/\Fr [] wr wc)
     case first=>
      refine wp_region_held_drew (S:=λw'=>w'.cell? ⟨Λ.m,1,none⟩=some (.slice (some ⟨b,0,none⟩) σ.N cc)/\w'.cell? ⟨gl,ol+k,none⟩=some (.int .i64 ((q:Int)+1))/\w'.cell? ⟨b,q*2,none⟩=some (.slice rA rn rc)/\w'.cell? ⟨b,q*2+1,none⟩=some (.slice dA dn dc)) (by kernel_rfl) (HSC.out _ HFD.out) (λhHeld=>?_);refine wpAnyH_take (i:=0) (v:=?v0x12) rfl (by kernel_rfl) (by kernel_rfl) (by kernel_rfl) (λ_ _ _ h=>h) (Or.inl ⟨by rfl,?hy0x12⟩) (by assumption) ?rest0x12;case hy0x12=>(intro w' hSw;(try dsimp only at hSw);(try simp only[D8,D6,D7]);(first|(go_simp;done)|(go_simp;with_reducible rfl)))
      (try simp only[Act.put,D8,D6,D7,D9,Ea,Eb])
      refine wpAnyH_take (i:=1) (v:=?v1x13) rfl (by kernel_rfl) (by kernel_rfl) (by kernel_rfl) (λ_ _ _ h=>h) (Or.inl ⟨by rfl,?hy1x13⟩) (by assumption) ?rest1x13;case hy1x13=>(intro w' hSw;(try dsimp only at hSw);(try simp only[D8,D6,D7]);(first|(go_simp;done)|(go_simp;with_reducible rfl)))
      (try simp only[Act.put,D8,D6,D7,D9,Ea,Eb])
      refine wpAnyH_take (i:=2) (v:=?v2x14) rfl (by kernel_rfl) (by kernel_rfl) (by kernel_rfl) (λ_ _ _ h=>h) (Or.inl ⟨by rfl,?hy2x14⟩) (by assumption) ?rest2x14;case hy2x14=>(intro w' hSw;(try dsimp only at hSw);(try simp only[D8,D6,D7]);(first|(go_simp;done)|(go_simp;with_reducible rfl)))
      (try simp only[Act.put,D8,D6,D7,D9,Ea,Eb])
      refine wpAnyH_take (i:=3) (v:=?v3x15) rfl (by kernel_rfl) (by kernel_rfl) (by kernel_rfl) (λ_ _ _ h=>h) (Or.inl ⟨by rfl,?hy3x15⟩) (by assumption) ?rest3x15;case hy3x15=>(intro w' hSw;(try dsimp only at hSw);(try simp only[D8,D6,D7]);(first|(go_simp;done)|(go_simp;with_reducible rfl)))
      (try simp only[Act.put,D8,D6,D7,D9,Ea,Eb])
      refine wpAnyH_take (i:=4) (v:=?v4x16) rfl (by kernel_rfl) (by kernel_rfl) (by kernel_rfl) (λ_ _ _ h=>h) (Or.inl ⟨by rfl,?hy4x16⟩) (by assumption) ?rest4x16;case hy4x16=>(intro w' hSw;(try dsimp only at hSw);(try simp only[D8,D6,D7]);(first|(go_simp;done)|(go_simp;with_reducible rfl)))
      (try simp only[Act.put,D8,D6,D7,D9,Ea,Eb])
      refine wpAnyH_take (i:=5) (v:=?v5x17) rfl (by kernel_rfl) (by kernel_rfl) (by kernel_rfl) (λ_ _ _ h=>h) (Or.inl ⟨by rfl,?hy5x17⟩) (by assumption) ?rest5x17;case hy5x17=>(intro w' hSw;(try dsimp only at hSw);(try simp only[D8,D6,D7]);(first|(go_simp;done)|(go_simp;with_reducible rfl)))
      (try simp only[Act.put,D8,D6,D7,D9,Ea,Eb])
      refine wpAnyH_take (i:=6) (v:=?v6x18) rfl (by kernel_rfl) (by kernel_rfl) (by kernel_rfl) (λ_ _ _ h=>h) (Or.inl ⟨by rfl,?hy6x18⟩) (by assumption) ?rest6x18;case hy6x18=>(intro w' hSw;(try dsimp only at hSw);(try simp only[D8,D6,D7]);(first|(go_simp;done)|(go_simp;with_reducible rfl)))
      (try simp only[Act.put,D8,D6,D7,D9,Ea,Eb])
      refine wpAnyH_take (i:=7) (v:=?v7x19) rfl (by kernel_rfl) (by kernel_rfl) (by kernel_rfl) (λ_ _ _ h=>h) (Or.inl ⟨by rfl,?hy7x19⟩) (by assumption) ?rest7x19;case hy7x19=>(intro w' hSw;(try dsimp only at hSw);(try simp only[D8,D6,D7]);(first|(go_simp;done)|(go_simp;with_reducible rfl)))
      (try simp only[Act.put,D8,D6,D7,D9,Ea,Eb])
      refine wpAnyH_take (i:=8) (v:=?v8x20) rfl (by kernel_rfl) (by kernel_rfl) (by kernel_rfl) (λ_ _ _ h=>h) (Or.inl ⟨by rfl,?hy8x20⟩) (by assumption) ?rest8x20;case hy8x20=>(intro w' hSw;(try dsimp only at hSw);(try simp only[D8,D6,D7]);(first|(go_simp;done)|(go_simp;with_reducible rfl)))
      (try simp only[Act.put,D8,D6,D7,D9,Ea,Eb])
      refine wpAnyH_take (i:=9) (v:=?v9x21) rfl (by kernel_rfl) (by kernel_rfl) (by kernel_rfl) (λ_ _ _ h=>h) (Or.inl ⟨by rfl,?hy9x21⟩) (by assumption) ?rest9x21;case hy9x21=>(intro w' hSw;(try dsimp only at hSw);(try simp only[D8,D6,D7]);(first|(go_simp;done)|(go_simp;with_reducible rfl)))
      (try simp only[Act.put,D8,D6,D7,D9,Ea,Eb])
      refine wpAnyH_take (i:=10) (v:=?v10x22) rfl (by kernel_rfl) (by kernel_rfl) (by kernel_rfl) (λ_ _ _ h=>h) (Or.inl ⟨by rfl,?hy10x22⟩) (by assumption) ?rest10x22;case hy10x22=>(intro w' hSw;(try dsimp only at hSw);(try simp only[D8,D6,D7]);(first|(go_simp;done)|(go_simp;with_reducible rfl)))
      (try simp only[Act.put,D8,D6,D7,D9,Ea,Eb])
      refine wpAnyH_ready (rs:=[11]) (by kernel_rfl) (by simp) ?_;refine AllReadyH.cons rfl (λK hK=>?_) AllReadyH.nil;(try simp only[D8,D6,D7])
      go_simp
      refine hK.out _ _ ((HSC.out _ (HFD.out.alloc _))) (λhHeld=>?_);clear hK K;(try simp only[Act.put,D9,Ea,Eb])
      refine wpAnyH_ready (rs:=[12]) (by kernel_rfl) (by simp) ?_;refine AllReadyH.cons rfl (λK hK=>?_) AllReadyH.nil;(try simp only[D8,D6,D7])
      go_simp
      refine hK.out _ _ ((HSC.out _ (HFD.out.alloc _))) (λhHeld=>?_);clear hK K;(try simp only[Act.put,D9,Ea,Eb])
      refine wpAnyH_done (by kernel_rfl) ?_ _;go_wp2_with fail
      go_meet
      case rel=>exact⟨_,rfl,Blk.aV _ _ (by simp),HFD.out.alloc _⟩
     case rest=>
      obtain⟨xb,rfl,hx,hf⟩:=hcut;have hsc:=HS2.out.fr0 hf;have HSC2:=aa hsc;have HXB:=aa hx;have HX:Hid (∀w',Fr [] wc w'->w'.cell? ⟨xb,0,none⟩=some (.slice rA rn rc)/\w'.cell? ⟨xb,1,none⟩=some (.slice dA dn dc)/\xb<w'.heap.size):=λw' hw=>by
       have hb:=hx.fr hw (by simp);exact⟨by rw[hb.cell];rfl,by rw[hb.cell];rfl,hb.lt⟩
      obtain⟨x0,x1,NX⟩:=HX.out wc (Fr.refl _ _);obtain⟨hf5,Go,k2,k4⟩:=hsc;have HXlt:Hid (w1.heap.size<=xb->True):=λ_=>trivial;have HF:=aa hf5;have K4:=aa k4;have HB:Hid (n2+2<=maxLen/\(n2+2)*8<=140737488355328):=⟨by unfold maxLen;omega,by omega⟩;have HLR2:Hid (Lr (wc.alloc (.cells #[.int .u64 (rn:Int),.int .u64 (dn:Int)] 64)) 64 A2 n2 c2 Go (bf ((List.range t).flatMap (bh σ O)++(O.take k).flatMap (bS σ O)))):=k2.alloc _;have HXG:Hid (xb∉Go):=k2.apart hx (by decide);have HGX:Hid (∀w',Fr Go wc w'->Blk w' xb 178 #[.slice rA rn rc,.slice dA dn dc]):=λw' hF=>hx.fr hF HXG.out;clear hf hf5 hx k2 k4 HSC HFD;go_wp2_with (first|(at_builtin;refine aF rfl _ _ 96 rfl 64 i0 (.int .u64 0) 8 Tryz.underlying96 hi hz0 hz1 hz2 rfl rfl HLR2.out rfl (by rfl) (λ_=>zQ wc #[.int .u64 (rn:Int),.int .u64 (dn:Int)] 64 rfl _ (Fr.refl _ _)) (by intro u hu;simp at hu;rcases hu with rfl|rfl <;> rfl) HB.out.1 HB.out.2 ?_;intro A' c' G' w4 HLn HFn HGn))
      have HS4:Hid (dg w1 w4 A' (n2+2) c' ((List.range t).flatMap (bh σ O)++(O.take k).flatMap (bS σ O)++[(rn:Int),(dn:Int)])/\Blk w4 xb 178 #[.slice rA rn rc,.slice dA dn dc]):=
       ⟨dg.app HF.out K4.out ((Fr.refl [] wc).alloc _) HFn.out (by rw[ix];exact HLn.out) (λg hg=>(HGn.out g hg).imp id (λh=>by rw[h.1];simp)),(HXB.out.alloc _).fr HFn.out HXG.out⟩
      clear HF K4 HB HLR2 HLn HFn HGn HXG HGX HSC2 HXB HX x0 x1 NX HXlt HS2;have hn4:n2+2<=4160+k*2097154+2:=by omega
      clear hn3;generalize n2+2=n3 at *;go_loopw [5,10] (λs i wr=>∃(j:Nat) (A':Option Addr) (n' c':Nat),i=.int .i64 j/\s=.slice A' n' c'/\n'<=4160+k*2097154+2+j/\j<=rn/\dg w1 wr A' n' c' ((List.range t).flatMap (bh σ O)++(O.take k).flatMap (bS σ O)++[(rn:Int),(dn:Int)]++((kids σ r).take j).map (num O))/\Blk wr xb 178 #[.slice rA rn rc,.slice dA dn dc]) (λ_ i _=>rn-(intOf i).toNat)
      case atStart=>exact⟨0,A',n3,c',rfl,rfl,by omega,Ei _,by simpa using HS4.out.1,HS4.out.2⟩
      case round=>
       obtain⟨j,A5,n5,c5,rfl,rfl,hn5,hj,hs5,hx5⟩:=hrel;have x0:wr.cell? ⟨xb,0,none⟩=some (.slice rA rn rc):=by rw[hx5.cell];rfl
       have x1:wr.cell? ⟨xb,1,none⟩=some (.slice dA dn dc):=by rw[hx5.cell];rfl
       have NX:xb<wr.heap.size:=hx5.lt;by_cases hjl:j<rn
       ·have hjl1:(j:Int)<(rn:Int):=by omega
        have hjs:j<σ.np r:=by have:=HRN.out;omega
        obtain⟨q,hq,hqN⟩:=HKM.out r j hjs;obtain⟨gs,os,rfl,_,hcs⟩:=(HKD.out wr hs5.1).1 (by omega);have y3:wr.cell? ⟨gs,os+j,none⟩=some (.int .u64 (q:Int)):=by rw[<- hq];exact hcs j hjl
        have y4:=HNUM.out q wr hqN hs5.1;have hq1:(q:Int)<((σ.N:Int)+1):=by omega
        obtain⟨hf,Go,k2,k4⟩:=hs5;have HF:=aa hf;have K4:=aa k4;have HB:Hid (n5+1<=maxLen/\(n5+1)*8<=140737488355328):=⟨by unfold maxLen;omega,by omega⟩;have HQ:=aa hq;have HKS:=aa hjs;have HLT2:=aa hjl;obtain⟨y,hy⟩:∃y,y=num O (q:Int):=⟨_,rfl⟩;rw[<- hy]at y4;have HY:=aa hy;have HXG:Hid (xb∉Go):=k2.apart hx5 (by decide);have HXB:=aa hx5;have HLR2:Hid (Lr (wr.alloc (.cells #[.int .u64 y] 64)) 64 A5 n5 c5 Go (bf ((List.range t).flatMap (bh σ O)++(O.take k).flatMap (bS σ O)++[(rn:Int),(dn:Int)]++((kids σ r).take j).map (num O)))):=k2.alloc _;clear hf k2 k4 hcs hq hjs hy HS4 hx5 x1;go_wp2_with (first|(at_builtin;refine aF rfl _ _ 96 rfl 64 i0 (.int .u64 0) 8 Tryz.underlying96 hi hz0 hz1 hz2 rfl rfl HLR2.out rfl (by rfl) (λ_=>cG wr (.int .u64 y) 64 rfl _ (Fr.refl _ _)) (by intro u hu;simp at hu;subst hu;rfl) HB.out.1 HB.out.2 ?_;intro A' c' G' w4 HLn HFn HGn))
        have HS':Hid (dg w1 w4 A' (n5+1) c' ((List.range t).flatMap (bh σ O)++(O.take k).flatMap (bS σ O)++[(rn:Int),(dn:Int)]++((kids σ r).take (j+1)).map (num O))/\Blk w4 xb 178 #[.slice (some ⟨gs,os,none⟩) rn rc,.slice dA dn dc]):=
         ⟨dg.app HF.out K4.out ((Fr.refl [] wr).alloc _) HFn.out (by rw[iF (by rw[ew];exact HKS.out),List.map_append,<- List.append_assoc,show [(kids σ r).getD j 0].map (num O)=[y]by rw[HY.out,HQ.out];rfl,kg];exact HLn.out) (λg hg=>(HGn.out g hg).imp id (λh=>by rw[h.1];simp)),(HXB.out.alloc _).fr HFn.out HXG.out⟩
        go_roundw
        case rel=>exact⟨j+1,A',n5+1,c',by go_num,rfl,by omega,by have:=HLT2.out;omega,HS'.out.1,HS'.out.2⟩
        case measure=>simp[intOf];have:=HLT2.out;omega
       ·obtain rfl:j=rn:=by omega
        have htk:(kids σ r).take j=kids σ r:=by rw[List.take_of_length_le];rw[ew];have:=HRN.out;omega
        rw[htk]at hs5;obtain⟨hf,Go,k2,k4⟩:=hs5;have HDL:=aa (Aj (by have:=HDN.out;simp[bp];omega) (HKD.out wr hf).2);have HF:=aa hf;have K4:=aa k4;have hdl:(bf (bp σ r)).length=dn:=by rw[gz];have:=HDN.out;simp[bp];omega
        have HB:Hid ((bf (bp σ r)).length=dn/\(∀u∈bf (bp σ r),u.oneCell'=true)/\n5+dn<=maxLen/\(n5+dn)*8<=140737488355328):=⟨hdl,pW _,by unfold maxLen;omega,by omega⟩;have HLR2:Hid (Lr wr 64 A5 n5 c5 Go (bf ((List.range t).flatMap (bh σ O)++(O.take k).flatMap (bS σ O)++[(j:Int),(dn:Int)]++(kids σ r).map (num O)))):=k2;have HJN:Hid (j=σ.np r):=by have:=HRN.out;show j=σ.np r;omega
        have HNX:Hid (n5+dn<=4160+(k+1)*2097154):=by show _<=_;omega
        clear hf k2 k4 htk HS4 hdl hx5;go_upto_region 20 with fail
        go_wp2_with (at_builtin;refine aF rfl _ _ 96 rfl 64 i0 (.int .u64 0) 8 Tryz.underlying96 hi hz0 hz1 hz2 rfl rfl HLR2.out rfl HB.out.1 HDL.out HB.out.2.1 HB.out.2.2.1 HB.out.2.2.2 ?_;intro A' c' G' w4 HLn HFn HGn)
        have HS':Hid (dg w1 w4 A' (n5+dn) c' ((List.range t).flatMap (bh σ O)++(O.take (k+1)).flatMap (bS σ O))):=by
         have e1:O.take (k+1)=O.take k++[r]:=by rw[List.take_add_one,HOK.out];rfl
         have e2:(List.range t).flatMap (bh σ O)++(O.take (k+1)).flatMap (bS σ O)=((List.range t).flatMap (bh σ O)++(O.take k).flatMap (bS σ O)++[(j:Int),(dn:Int)]++(kids σ r).map (num O))++bp σ r:=by
          rw[e1,List.flatMap_append,show [r].flatMap (bS σ O)=bS σ O r by simp];unfold bS;rw[HJN.out,HDN.out];simp[List.append_assoc]
         rw[e2];exact dg.app HF.out K4.out (Fr.refl [] wr) HFn.out (by rw[ix];exact HLn.out) (λg hg=>(HGn.out g hg).imp id (λh=>by rw[h.1];exact Nat.le_refl _))
        go_roundw
        case rel=>exact⟨k+1,A',n5+dn,c',by go_num,rfl,HNX.out,by have:=HLT.out;omega,HS'.out⟩
        case measure=>simp[intOf];have:=HLT.out;omega
    ·obtain rfl:k=n:=by omega
     have hlt3:¬ (k:Int)<(k:Int):=by omega
     have HE:Hid (iS W (shape σ t) (.returned (.slice A2 n2 c2)) wr):=by
      obtain⟨hf,Go,k2,k4⟩:=hs2;refine⟨A2,n2,c2,Go,rfl,?_,HF1.out.af hf,λg hg=>Eh HF1.out.size (k4 g hg)⟩;rw[HSH.out];rwa[List.take_of_length_le (by have:=HN.out;omega)]at k2
     clear hs2 HR HS1;go_wp2_with fail
     go_ret
     exact HE.out
theorem tJ(h:MG W tg Λ T T B M σ)(ok:GOk T B σ)(hd:dX T B M)(hN:σ.N<4096):Calls Tryz.prog 36 #[.pointer (some ⟨Λ.m,0,none⟩)] W (iS W (shape σ T)):=Ak h.toV ok hd hN
end
open Go.RowKit Go.Gl HS
def gP(W w:World)(L:HL)(s k:Nat)(Λ:WL)(g M T:Nat)(Ops:Nat->Nat->Po)(On:Nat->Nat)(V:WS)(h:HS)(x:HT)(σ:GS)(A:Nat->Nat)(Γ:WG):Prop:=
 Γ.g=g/\∃(X:HX) (rv:Nat->Option (Nat×Nat)),HM W w L X h x s k (wE Λ L.hb Γ.g T V++[]) (gD (λ_=>False) Λ Γ (·<T)) (gQ (λ_=>True) Λ Γ (·<T) T L.B M σ)/\WP W L.B h x (λ_=>False) Λ Γ M T V σ A rv Ops On True
def gR(W w:World)(L:HL)(s k:Nat)(Λ:WL)(g M T:Nat)(Ops:Nat->Nat->Po)(On:Nat->Nat)(P:WS->HS->HT->GS->(Nat->Nat)->WG->Prop):Prop:=
 ∃V h x σ A Γ,gP W w L s k Λ g M T Ops On V h x σ A Γ/\P V h x σ A Γ
section
variable {W w w':World}{L:HL}{s k:Nat}{Λ:WL}{g M T:Nat}{Ops:Nat->Nat->Po}{On:Nat->Nat}{V V':WS}{h h':HS}{x:HT}{σ σ':GS}{A A':Nat->Nat}{Γ Γ':WG}{t:Nat}{P:WS->HS->HT->GS->(Nat->Nat)->WG->Prop}
theorem gP.fr0(H:gP W w L s k Λ g M T Ops On V h x σ A Γ)(hf:Fr [] w w'):gP W w' L s k Λ g M T Ops On V h x σ A Γ:=by
 obtain⟨e,X,rv,h1,h2⟩:=H;exact⟨e,X,rv,h1.fr0 (dZ ah.none _ _ _ _ _ _ _) hf,h2⟩
theorem gP.fr(H:gP W w L s k Λ g M T Ops On V h x σ A Γ):Fr [] W w:=by
 obtain⟨e,X,rv,h1,h2⟩:=H;exact h1.fr
theorem gR.fr(H:gR W w L s k Λ g M T Ops On P):Fr [] W w:=by
 obtain⟨V,h,x,σ,A,Γ,h1,h2⟩:=H;exact h1.fr
theorem gP.step(hT:Tab W)(H:gP W w L s k Λ g M T Ops On V h x σ A Γ)(ht:t<T) :
  Calls Tryz.prog 9 #[.pointer (some ⟨Λ.wb,0,none⟩),.int .i64 (t:Int)] w λe w'=>e=.returned (.bool true)/\∃V' h' x' σ' A' Γ',gP W w' L s k Λ g M T Ops On V' h' x' σ' A' Γ'/\WR t On Ops h h' Γ Γ' V V' σ σ' A A':=by
 obtain⟨e,X,rv,h1,h2⟩:=H;have fin:∀e' w',WSP W L h s k [] (λ_=>False) (λ_=>True) Λ Γ t M T V σ A Ops On True e' w'->e'=.returned (.bool true)/\∃V' h' x' σ' A' Γ',gP W w' L s k Λ g M T Ops On V' h' x' σ' A' Γ'/\WR t On Ops h h' Γ Γ' V V' σ σ' A A':=λe' w' ⟨q1,X',h',x',V',σ',A',rv',Γ',q2,q3,q4⟩=>⟨q1,V',h',x',σ',A',Γ',⟨q4.2.2.2.1.trans e,X',rv',q2,q3⟩,q4⟩;by_cases hst:(V.mu t).st=0
 ·by_cases hn:On t<=V.nx t
  ·exact(tG ah.none hT h1 h2 ht hst hn).mono fin
  ·exact(rp ah.none hT h1 (λq hq=>by cases hq) h2 ht (.inr (by omega))).mono fin
 ·exact(rp ah.none hT h1 (λq hq=>by cases hq) h2 ht (.inl hst)).mono fin
theorem yG(s:Int):rkM s<=4:=by unfold rkM;split <;> (try split) <;> (try split) <;> (try split) <;> omega
theorem ur{s:Int}(h0:s≠0)(h6:s≠6):2<=rkM s:=by unfold rkM;rw[if_neg h0,if_neg h6];split <;> (try split) <;> omega
theorem WR.rk(r:WR t On Ops h h' Γ Γ' V V' σ σ' A A')(hs:V.sy=false)(h0:(V.mu t).st≠0):rkM (V'.mu t).st<rkM (V.mu t).st:=by
 obtain⟨-,-,-,-,-,-,-,r⟩:=r;rcases r with r|⟨-,-,-,-,r,-⟩|⟨-,-,-,r1,-,r2,-⟩|⟨r1,r2,-⟩|⟨r1,-,-,r2,-⟩|⟨-,r1,-,-,r2,-⟩|r
 ·exact absurd r.1 h0
 ·rw[if_neg h0]at r;exact r
 ·rw[r1,r2];decide
 ·rw[r1,r2];decide
 ·have:=ur h0 r1;rcases r2 with r2|r2 <;> (rw[r2];first|(have:rkM 0=0:=by decide);omega|(have:rkM 6=1:=by decide);omega)
 ·have:=ur h0 r1;have e:rkM 0=0:=by decide
  rw[r2];omega
 ·rw[hs]at r;cases r.1
theorem WR.sy(r:WR t On Ops h h' Γ Γ' V V' σ σ' A A'):V'.sy=V.sy/\V'.mg=V.mg/\∀i,i≠t->V'.mu i=V.mu i/\V'.nx i=V.nx i:=⟨r.1,r.2.1,r.2.2.2.2.1⟩
def ic(On:Nat->Nat)(V:WS)(t:Nat):Nat:=if (V.mu t).st=0 then 6*(On t-V.nx t) else if (V.mu t).st=6 then 6*(On t-V.nx t)+1 else 6*(On t-V.nx t-1)+rkM (V.mu t).st
theorem WR.left(r:WR t On Ops h h' Γ Γ' V V' σ σ' A A')(hs:V.sy=false)(hc:(V.mu t).st≠0->(V.mu t).st≠6->V.nx t<On t)(hg:(V.mu t).st≠0\/V.nx t<On t):ic On V' t<ic On V t:=by
 obtain⟨-,-,-,-,-,-,-,r⟩:=r;have r0:rkM 0=0:=by decide
 have r6:rkM 6=1:=by decide
 unfold ic;rcases r with r|⟨r1,r2,r3,r4,r5,-⟩|⟨-,r1,r2,r3,-,r4,-⟩|⟨r1,r2,r3,-⟩|⟨r1,r2,r3,r4,-⟩|⟨-,r1,r2,r3,r4,-⟩|r
 ·rcases hg with e|e
  ·exact absurd r.1 e
  ·omega
 ·have h0:(V'.mu t).st≠0:=by rcases r4 with e|e|e <;> (rw[e];decide)
  have h6:(V'.mu t).st≠6:=by rcases r4 with e|e|e <;> (rw[e];decide)
  rw[if_neg h0,if_neg h6,r1];by_cases e0:(V.mu t).st=0
  ·rw[if_pos e0]at r5 ⊢;have:rkM 1=4:=by decide
   omega
  ·rw[if_neg e0]at r5;rw[if_neg e0,if_neg r3];omega
 ·rw[r4,r3,r1];have a:rkM 4=2:=by decide
  have b:rkM 3=3:=by decide
  simp;omega
 ·rw[r1,r2,r3];simp
 ·have hl:∀n,6*(On t-(V.nx t+1))+1<6*(On t-V.nx t-1)+2+n:=λn=>by omega
  have key:6*(On t-(V.nx t+1))+1<(if (V.mu t).st=0 then 6*(On t-V.nx t) else if (V.mu t).st=6 then 6*(On t-V.nx t)+1 else 6*(On t-V.nx t-1)+rkM (V.mu t).st):=by
   by_cases e0:(V.mu t).st=0
   ·rw[if_pos e0];omega
   ·rw[if_neg e0,if_neg r1];have:=ur e0 r1;omega
  refine Nat.lt_of_le_of_lt ?_ key;rw[r3];rcases r4 with r4|r4 <;> (rw[r4];simp)
 ·rw[r4,r3];simp;by_cases e0:(V.mu t).st=0
  ·rw[if_pos e0];omega
  ·rw[if_neg e0,if_neg r1];have:=ur e0 r1;omega
 ·rw[hs]at r;cases r.1
theorem yH(On:Nat->Nat)(V:WS)(t:Nat)(h:On t<=60):ic On V t<=364:=by
 unfold ic;have:=yG (V.mu t).st;split
 ·omega
 ·split <;> omega
end
theorem yI(p:Int)(hp:-9223372036854775808<=p/\p<=9223372036854775807){n:Nat}(h1:1<=n)(h2:n<=64)(w:World):Calls Tryz.prog 10 #[.int .i64 p,.int .i64 (n:Int)] w λe w'=>∃t:Nat,t<n/\e=.returned (.int .i64 (t:Int))/\w=w':=by
 have hne:¬ (n:Int)=0:=by omega
 have a1:-(n:Int)<p.tmod (n:Int)/\p.tmod (n:Int)<(n:Int):=⟨by have:=Int.lt_tmod_of_pos p (show(0:Int)<(n:Int)by omega);omega,Int.tmod_lt_of_pos p (by omega)⟩;have hw1:IntKind.i64.wrap (p.tmod (n:Int))=p.tmod (n:Int):=IntWalk.i64_in _ ⟨by omega,by omega⟩;have hw2:IntKind.i64.wrap (p.tmod (n:Int)+(n:Int))=p.tmod (n:Int)+(n:Int):=IntWalk.i64_in _ ⟨by omega,by omega⟩;have a2:0<=(p.tmod (n:Int)+(n:Int)).tmod (n:Int)/\(p.tmod (n:Int)+(n:Int)).tmod (n:Int)<(n:Int):=⟨Int.tmod_nonneg _ (by omega),Int.tmod_lt_of_pos _ (by omega)⟩;have a3:(p.tmod (n:Int)+(n:Int)).tmod (n:Int)=(p.tmod (n:Int)+(n:Int)) % (n:Int):=Int.tmod_eq_emod_of_nonneg (by omega);have a4:(p.tmod (n:Int)+(n:Int)) % (n:Int)=p.tmod (n:Int) % (n:Int):=by rw[Int.add_emod_right]
 obtain⟨t,ht⟩:=Ed a2.1;have hw3:IntKind.i64.wrap ((p.tmod (n:Int)+(n:Int)).tmod (n:Int))=(t:Int):=by rw[<- ht];exact IntWalk.i64_in _ ⟨by omega,by omega⟩
 have hE:Hid (t<n):=by show t<n;omega
 go_enter Tryz.func10,Tryz.ntmps10
 go_wp2_with fail
 go_ret
 exact⟨t,hE.out,by rw[show p.tmod (n:Int) % (n:Int)=(t:Int)by rw[<- a4,<- a3,ht]];rfl,rfl⟩
end Go.Proofs.YtimkofiempcfdaaGreatDoor
