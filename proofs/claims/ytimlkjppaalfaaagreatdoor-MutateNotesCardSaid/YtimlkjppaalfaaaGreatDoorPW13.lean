/- Several texts joined (pack.py): Ss Sm. -/
import Derived.Test.YtimlkjppaalfaaaGreatDoorPW03
import Derived.Test.YtimlkjppaalfaaaGreatDoorProg
import Derived.DeepKeys4
import Derived.WalkKit
import Derived.Test.YtimlkjppaalfaaaGreatDoorPW01
import Derived.Test.YtimlkjppaalfaaaGreatDoorPW05
import Derived.Test.YtimlkjppaalfaaaGreatDoorPW12
import Derived.Test.YtimlkjppaalfaaaGreatDoorShelf
import Derived.BigRegion
import Derived.Deep.RegionLaw
import Derived.Deep.RegionWith
import Derived.Deep.CutRange
import Derived.BigQuiet
import Derived.StillTailTactics
import Derived.WalkSpells
import Derived.Deep.RegionHeld3
set_option linter.unusedVariables false
set_option linter.unusedSimpArgs false
set_option maxHeartbeats 1600000
set_option maxRecDepth 100000
open Int renaming eq_ofNat_of_zero_le->Da
namespace Go.Proofs.YtimlkjppaalfaaaGreatDoor
open Go.RowKit Go.Gl
open Go.Maps (Keyed)
theorem Tryz.laidOut:laidOutB Tryz.prog=true:=by kernel_rfl
theorem Tryz.zD:Keyed Tryz.prog 223:=Keyed.of_law (deep_law_laid Tryz.laidOut (m:=2) (by omega) (of_decide_eq_true (by kernel_rfl)) (by kernel_rfl) (by kernel_rfl))
def eO(h s:Int):Value:=.agg #[.int .i64 h,.int .i64 s]
theorem ng{h s h' s':Int}(e:eO h s=eO h' s'):h=h'/\s=s':=by
 unfold eO at e;injection e with e;simp at e;exact e
theorem Tryz.pk2:2<=Tryz.prog.types.size:=of_decide_eq_true (by kernel_rfl)
theorem Tryz.pkC:Tryz.prog.cellsOf 223=2:=by kernel_rfl
theorem Tryz.pkI:Tryz.prog.cellsOf 3=1:=by kernel_rfl
theorem Tryz.pkT:Tryz.prog.keyType 223=true:=by kernel_rfl
theorem zE(h s:Int)(wh:(Lit.int .i64 h).wf=true)(ws:(Lit.int .i64 s).wf=true):∃l,keyOf Tryz.prog 223 (eO h s)=some l:=by
 obtain⟨m,hm⟩:∃m,Tryz.prog.types.size=m+2:=⟨Tryz.prog.types.size-2,by have:=Tryz.pk2;omega⟩;unfold keyOf eO;rw[Tryz.underlying223];show ∃l,(if (Tryz.prog.keyType 223&&Value.formed Tryz.prog 223 _)=true then _ else none)=some l;rw[Tryz.pkT,hm];simp[Tryz.underlying223,Value.formed,Tryz.pkC,Program.keyLits,Value.cells,Tryz.pkI,Tryz.underlying3,wh,ws]
def jD(way:Int)(few many:Value):Value:=.agg #[.int .i64 way,few,many]
theorem zF(w:World):(zeroValue 221).run Tryz.prog w=.ok (jD 0 (.slice none 0 0) (.pointer none)) w:=by kernel_rfl
theorem lu(w:World):(zeroValue 95).run Tryz.prog w=.ok (.agg #[]) w:=by kernel_rfl
theorem Br{n:Nat}(h:n<=4611686018427387904):(Lit.int .i64 (n:Int)).wf=true:=WalkArith.wf_i64 (by omega)
structure RS where
 way:Nat->Nat->Nat
 has:Nat->Nat->Bool
abbrev Tg:=Nat->Nat×Nat×Nat
structure Dim(per n:Nat):Prop where
 n1:1<=n
 n2:n<=65536
 p1:1<=per
 p2:n*per<=4194304
theorem Dim.p3{per n:Nat}(h:Dim per n):per<=4194304:=Nat.le_trans (Nat.le_mul_of_pos_left per h.n1) h.p2
theorem Dim.div{per n c:Nat}(h:Dim per n)(hc:c<n*per):c / per<n:=Nat.div_lt_of_lt_mul (by rw[Nat.mul_comm];exact hc)
theorem Dim.back{per n c:Nat}(h:Dim per n):c / per*per+c % per=c/\c % per<per:=⟨by rw[Nat.mul_comm];exact Nat.div_add_mod c per,Nat.mod_lt _ h.p1⟩
def St(w:World)(sb kb sB hB fB per n:Nat):Prop:=
 Blk w sb 183 #[.int .i64 ((n*per:Nat):Int),.int .i64 (per:Int),.map (some kb),.slice (some ⟨sB,0,none⟩) n n,.slice (some ⟨hB,0,none⟩) n n,.slice (some ⟨fB,0,none⟩) n n]
structure B2(per:Nat)(has:Nat->Bool)(s:Nat)(l:List Int):Prop where
 up:l.Pairwise (·<·)
 mem:∀x,x∈l↔∃c:Nat,x=(c:Int)/\c / per=s/\has c=true
 len:l.length<=4
def qi(w:World)(tg:Tg)(per:Nat)(has:Nat->Bool)(way h s:Nat)(v:Value):Prop:=
 (way=1/\∃A c G l,v=jD 1 (.slice A l.length c) (.pointer none)/\Lr w 3 A l.length c G (zv l)/\(∀g,g∈G->tg g=(9,h,s))/\B2 per has s l) \/
 (way=2/\∃bs bw ws,v=jD 2 (.slice none 0 0) (.pointer (some ⟨bs,0,none⟩))/\ch w bs bw per ws/\tg bs=(10,h,s)/\tg bw=(10,h,s)/\∀i,i<per->bH ws i=has (s*per+i)) \/
 (way=3/\v=jD 3 (.slice none 0 0) (.pointer none))
structure Kn(w:World)(tg:Tg)(kb per n:Nat)(σ:RS)(fk:Value->Option Value):Prop where
 mp:Mp Tryz.prog 223 w kb fk
 tag:tg kb=(2,0,0)
 key:∀x v,fk x=some v->∃h s:Nat,h<n/\s<n/\x=eO h s/\σ.way h s≠0
 mem:∀h s:Nat,h<n->s<n->σ.way h s≠0->∃v,fk (eO h s)=some v/\qi w tg per (σ.has h) (σ.way h s) h s v
def zG(w:World)(tg:Tg)(kd n r:Nat)(p:Nat->Prop)(v:Value):Prop:=
 (v=.map none/\∀x,x<n->¬ p x) \/
 ∃b f,v=.map (some b)/\Mp Tryz.prog 3 w b f/\tg b=(kd,r,0)/\(∀x v,f x=some v->∃s:Nat,s<n/\x=.int .i64 (s:Int))/\∀s:Nat,s<n->(f (.int .i64 (s:Int))≠none↔p s)
structure Ix(w:World)(tg:Tg)(kd rB n:Nat)(p:Nat->Nat->Prop)(V:Nat->Value):Prop where
 row:Blk w rB 91 (aI n V)
 tag:tg rB=(kd-3,0,0)
 own:∀r,r<n->zG w tg kd n r (p r) (V r)
def zH(w:World)(tg:Tg)(n h:Nat)(p:Nat->Prop)(v:Value):Prop:=
 ∃A c G,∃l:List Nat,v=.slice A l.length c/\Lr w 3 A l.length c G (zv (ints l))/\(∀g,g∈G->tg g=(8,h,0))/\l.Nodup/\∀s,s∈l↔s<n/\p s
structure Fi(w:World)(tg:Tg)(fB n:Nat)(p:Nat->Nat->Prop)(V:Nat->Value):Prop where
 row:Blk w fB 25 (aI n V)
 tag:tg fB=(5,0,0)
 own:∀h,h<n->zH w tg n h (p h) (V h)
def B3(w:World)(tg:Tg):Prop:=∀b,(tg b).1≠0->b<w.heap.size
def kB(w:World)(tg tg':Tg):Prop:=∀b,b<w.heap.size->tg' b=tg b
theorem kB.refl(w:World)(tg:Tg):kB w tg tg:=λ_ _=>rfl
section
variable {w w':World}{tg tg':Tg}{F:List Nat}{per n h s kb sb sB hB fB rB kd way:Nat}{has:Nat->Bool}{v:Value}{σ:RS}{fk:Value->Option Value}{p:Nat->Nat->Prop}{V:Nat->Value}
theorem qi.fr(hm:qi w tg per has way h s v)(hf:Fr F w w')(hF:∀b,b∈F->tg b≠(9,h,s)/\tg b≠(10,h,s))(hu:kB w tg tg'):qi w' tg' per has way h s v:=by
 rcases hm with⟨e,A,c,G,l,e1,e2,e3,e4⟩|⟨e,bs,bw,ws,e1,e2,e3,e4,e5⟩|hm
 ·exact .inl ⟨e,A,c,G,l,e1,e2.fr hf (λg hg hgF=>(hF g hgF).1 (e3 g hg)),λg hg=>(hu g (e2.lt g hg)).trans (e3 g hg),e4⟩
 ·exact .inr (.inl ⟨e,bs,bw,ws,e1,e2.fr hf (λhb=>(hF _ hb).2 e3) (λhb=>(hF _ hb).2 e4),(hu _ e2.set.lt).trans e3,(hu _ e2.row.lt).trans e4,e5⟩)
 ·exact .inr (.inr hm)
theorem Kn.fr(hk:Kn w tg kb per n σ fk)(hf:Fr F w w')(hF:∀b,b∈F->(tg b).1≠2/\(tg b).1≠9/\(tg b).1≠10)(hu:kB w tg tg'):Kn w' tg' kb per n σ fk:=
 ⟨hk.mp.fr hf (λhb=>(hF _ hb).1 (by rw[hk.tag])),(hu _ hk.mp.lt).trans hk.tag,hk.key,λh s hh hs hw=>by
  obtain⟨v,e1,e2⟩:=hk.mem h s hh hs hw;exact⟨v,e1,e2.fr hf (λb hb=>⟨λe=>(hF b hb).2.1 (by rw[e]),λe=>(hF b hb).2.2 (by rw[e])⟩) hu⟩⟩
theorem zG.fr{r:Nat}{p:Nat->Prop}(hi:zG w tg kd n r p v)(hf:Fr F w w')(hF:∀b,b∈F->tg b≠(kd,r,0))(hu:kB w tg tg'):zG w' tg' kd n r p v:=by
 rcases hi with hi|⟨b,f,e1,e2,e3,e4⟩
 ·exact .inl hi
 ·exact .inr ⟨b,f,e1,e2.fr hf (λhb=>hF _ hb e3),(hu _ e2.lt).trans e3,e4⟩
theorem Ix.fr(hi:Ix w tg kd rB n p V)(hf:Fr F w w')(hF:∀b,b∈F->(tg b).1≠kd-3/\(tg b).1≠kd)(hu:kB w tg tg'):Ix w' tg' kd rB n p V:=
 ⟨hi.row.fr hf (λhb=>(hF _ hb).1 (by rw[hi.tag])),(hu _ hi.row.lt).trans hi.tag,λr hr=>(hi.own r hr).fr hf (λb hb e=>(hF b hb).2 (by rw[e])) hu⟩
theorem zH.fr{p:Nat->Prop}(hi:zH w tg n h p v)(hf:Fr F w w')(hF:∀b,b∈F->tg b≠(8,h,0))(hu:kB w tg tg'):zH w' tg' n h p v:=by
 obtain⟨A,c,G,l,e1,e2,e3,e4⟩:=hi;exact⟨A,c,G,l,e1,e2.fr hf (λg hg hgF=>hF g hgF (e3 g hg)),λg hg=>(hu g (e2.lt g hg)).trans (e3 g hg),e4⟩
theorem Fi.fr(hi:Fi w tg fB n p V)(hf:Fr F w w')(hF:∀b,b∈F->(tg b).1≠5/\(tg b).1≠8)(hu:kB w tg tg'):Fi w' tg' fB n p V:=
 ⟨hi.row.fr hf (λhb=>(hF _ hb).1 (by rw[hi.tag])),(hu _ hi.row.lt).trans hi.tag,λr hr=>(hi.own r hr).fr hf (λb hb e=>(hF b hb).2 (by rw[e])) hu⟩
end
structure SOk(per n:Nat)(σ:RS):Prop where
 dim:Dim per n
 rng:∀h s,σ.way h s≠0->h<n/\s<n/\h≠s/\σ.way h s<=3
 can:∀h c,σ.has h c=true->c<n*per/\(σ.way h (c / per)=1\/σ.way h (c / per)=2)
structure Rs(w:World)(tg:Tg)(sb kb sB hB fB per n:Nat)(σ:RS)(fk:Value->Option Value)(Vs Vh Vf:Nat->Value):Prop where
 ok:SOk per n σ
 st:St w sb kb sB hB fB per n
 tst:tg sb=(1,0,0)
 tok:B3 w tg
 kn:Kn w tg kb per n σ fk
 src:Ix w tg 6 sB n (λh s=>σ.way h s≠0) Vs
 hom:Ix w tg 7 hB n (λs h=>σ.way h s≠0) Vh
 fin:Fi w tg fB n (λh s=>σ.way h s=2) Vf
section
variable {w w':World}{tg:Tg}{F:List Nat}{sb kb sB hB fB per n:Nat}{σ:RS}{fk:Value->Option Value}{Vs Vh Vf:Nat->Value}
theorem St.fr(h:St w sb kb sB hB fB per n)(hf:Fr F w w')(hb:sb∉F):St w' sb kb sB hB fB per n:=Blk.fr h hf hb
theorem St.c0(h:St w sb kb sB hB fB per n):w.cell? ⟨sb,0,none⟩=some (.int .i64 ((n*per:Nat):Int)):=by rw[Blk.cell h];rfl
theorem St.c1(h:St w sb kb sB hB fB per n):w.cell? ⟨sb,1,none⟩=some (.int .i64 (per:Int)):=by rw[Blk.cell h];rfl
theorem St.c2(h:St w sb kb sB hB fB per n):w.cell? ⟨sb,2,none⟩=some (.map (some kb)):=by rw[Blk.cell h];rfl
theorem Rs.fr(h:Rs w tg sb kb sB hB fB per n σ fk Vs Vh Vf)(hf:Fr F w w')(hF:∀b,b∈F->(tg b).1=0):Rs w' tg sb kb sB hB fB per n σ fk Vs Vh Vf:=
 ⟨h.ok,h.st.fr hf (λhb=>by have:=hF _ hb;rw[h.tst]at this;cases this),h.tst,λb hb=>Nat.lt_of_lt_of_le (h.tok b hb) hf.size,
 h.kn.fr hf (λb hb=>by rw[hF b hb];decide) (kB.refl _ _),h.src.fr hf (λb hb=>by rw[hF b hb];decide) (kB.refl _ _),
 h.hom.fr hf (λb hb=>by rw[hF b hb];decide) (kB.refl _ _),h.fin.fr hf (λb hb=>by rw[hF b hb];decide) (kB.refl _ _)⟩
end
theorem Kn.at{w:World}{tg:Tg}{kb per n:Nat}{σ:RS}{fk:Value->Option Value}(h:Kn w tg kb per n σ fk)(ok:SOk per n σ)(a b:Int) :
  (∃h s:Nat,a=h/\b=s/\h<n/\s<n/\σ.way h s≠0/\∃v,fk (eO a b)=some v/\qi w tg per (σ.has h) (σ.way h s) h s v) \/
  (fk (eO a b)=none/\¬ ∃h s:Nat,a=h/\b=s/\σ.way h s≠0):=by
 by_cases e:∃h s:Nat,a=h/\b=s/\σ.way h s≠0
 ·obtain⟨x,s,rfl,rfl,hw⟩:=e;obtain⟨h1,h2,_⟩:=ok.rng x s hw;exact .inl ⟨x,s,rfl,rfl,h1,h2,hw,h.mem x s h1 h2 hw⟩
 ·refine .inr ⟨?_,e⟩;cases hf:fk (eO a b)with
 |none=>rfl
 |some v=>
   obtain⟨x,s,_,_,e1,hw⟩:=h.key _ _ hf;obtain⟨rfl,rfl⟩:=ng e1;exact absurd ⟨x,s,rfl,rfl,hw⟩ e
open Go.RowKit Go.Gl Go.Shelf Go.Maps Go.Sort
theorem qj{w:World}{A:Option Addr}{c:Nat}{l:List Int}(h:Sl w A l.length (λk=>.int .i64 (l.getD k 0)))(hl:l.length<=4611686018427387904)(x:Int) :
  Calls Tryz.prog 118 #[.slice A l.length c,.int .i64 x] w λe w'=>e=.returned (.bool (decide (x∈l)))/\w=w':=by
 rcases Nat.eq_zero_or_pos l.length with h0|h0
 ·obtain rfl:l=[]:=List.eq_nil_of_length_eq_zero h0;refine(Any.slices_Contains_int_empty Tryz.shContains A c x w).mono ?_;rintro e w' ⟨rfl,rfl⟩;exact⟨by simp,rfl⟩
 ·obtain⟨b,off,rfl,_,hc⟩:=h h0;refine(Any.slices_Contains_int Tryz.shContains b off l.length c l x w (Nat.le_refl _) (by omega) hc).mono ?_;rintro e w' ⟨rfl,rfl⟩;exact⟨by simp,rfl⟩
section
variable {w:World}{sb kb sB hB fB per n:Nat}
theorem rV(h:St w sb kb sB hB fB per n)(hd:Dim per n)(c:Int):Calls Tryz.prog 116 #[.pointer (some ⟨sb,0,none⟩),.int .i64 c] w λe w'=>e=.returned (.bool (decide (0<=c/\c<((n*per:Nat):Int))))/\w=w':=by
 have c0:=h.c0;have hn:=hd.p2;generalize n*per=nc at *;clear h hd;go_enter Tryz.func116,Tryz.ntmps116
 go_wp2
 all_goals go_ret
 all_goals
  rename_i hi
  refine⟨bd ?_,rfl⟩;first|(simp[hi];done)|(simp;omega)
theorem oe(h:St w sb kb sB hB fB per n)(hd:Dim per n){c:Nat}(hc:c<n*per):Calls Tryz.prog 117 #[.pointer (some ⟨sb,0,none⟩),.int .i64 (c:Int)] w λe w'=>e=.returned (.int .i64 ((c / per:Nat):Int))/\w=w':=by
 have c1:=h.c1;have hp:=hd.p1;have h3:=hd.p3;have h2:=hd.p2;have hp0:¬ ((per:Int)=0):=by omega
 have hq:c / per<=c:=Nat.div_le_self _ _;have HQ:(c:Int) / (per:Int)=((c / per:Nat):Int):=by simp
 have HQ':(c:Int).tdiv (per:Int)=((c / per:Nat):Int):=by rw[Int.tdiv_eq_ediv_of_nonneg (Int.natCast_nonneg _)];simp
 generalize c / per=q at *;have hq2:q<=4194304:=by omega
 clear h hd;go_enter Tryz.func117,Tryz.ntmps117
 go_wp2
 all_goals go_ret
 all_goals exact⟨bo (by go_num),rfl⟩
theorem qk(h:St w sb kb sB hB fB per n)(hd:Dim per n){c:Nat}(hc:c<n*per):Calls Tryz.prog 119 #[.pointer (some ⟨sb,0,none⟩),.int .i64 (c:Int)] w λe w'=>e=.returned (.int .i64 ((c % per:Nat):Int))/\w=w':=by
 have c1:=h.c1;have hp:=hd.p1;have h3:=hd.p3;have hp0:¬ ((per:Int)=0):=by omega
 have hq:c % per<per:=Nat.mod_lt _ hp;have HQ:(c:Int) % (per:Int)=((c % per:Nat):Int):=by simp
 have HQ':(c:Int).tmod (per:Int)=((c % per:Nat):Int):=by rw[Int.tmod_eq_emod_of_nonneg (Int.natCast_nonneg _)];simp
 generalize c % per=q at *;have hq2:q<=4194304:=by omega
 clear h hd;go_enter Tryz.func119,Tryz.ntmps119
 go_wp2
 all_goals go_ret
 all_goals exact⟨bo (by go_num),rfl⟩
end
def jE(tg:Tg)(b:Nat)(t:Nat×Nat×Nat):Tg:=λx=>if x=b then t else tg x
theorem il(tg:Tg)(b:Nat)(t):jE tg b t b=t:=by simp[jE]
theorem bR(tg:Tg){b x:Nat}(t)(h:x≠b):jE tg b t x=tg x:=by simp[jE,h]
def RS.put(σ:RS)(per h s k:Nat)(g:Nat->Bool):RS:=⟨λa b=>if a=h/\b=s then k else σ.way a b,λa c=>if a=h/\c / per=s then g c else σ.has a c⟩
open Go.WideElems (Fit rd rg rd_key rg_of rd_mk)
theorem uM(w:World)(i q:Nat):(w.drewN i).drewN q=w.drewN (i+q):=by simp[World.drewN,Nat.add_assoc]
def gR(σ:RS)(per n:Nat)(a c:Int):Bool:=decide (0<=c/\c<((n*per:Nat):Int))&&decide (0<=a)&&(σ.way a.toNat (c.toNat / per)==3||σ.has a.toNat c.toNat)
def jZ(σ:RS)(per h c:Nat):Bool:=σ.way h (c / per)==3||σ.has h c
theorem zI{σ:RS}{per n:Nat}{a c:Int}(h:¬ (0<=c/\c<((n*per:Nat):Int))):gR σ per n a c=false:=by unfold gR;rw[decide_eq_false h];rfl
section
variable {w:World}{tg:Tg}{sb kb sB hB fB per n:Nat}{σ:RS}{fk:Value->Option Value}{Vs Vh Vf:Nat->Value}
theorem xK(h:Rs w tg sb kb sB hB fB per n σ fk Vs Vh Vf)(a c:Int)(wa:(Lit.int .i64 a).wf=true) :
  Calls Tryz.prog 71 #[.pointer (some ⟨sb,0,none⟩),.int .i64 a,.int .i64 c] w λe w'=>e=.returned (.bool (gR σ per n a c))/\Fr [] w w':=by
 have HC:Hid (∀c,Calls Tryz.prog 116 #[.pointer (some ⟨sb,0,none⟩),.int .i64 c] w λe w'=>e=.returned (.bool (decide (0<=c/\c<((n*per:Nat):Int))))/\w=w'):=λc=>rV h.st h.ok.dim c;by_cases hc:0<=c/\c<((n*per:Nat):Int);case neg=>
  have hI:=zI (σ:=σ) (a:=a) hc;have hdec:decide (0<=c/\c<((n*per:Nat):Int))=false:=by simp only[hc];rfl
  have HC1:=HC.out c;rw[hdec]at HC1;rw[hI];clear hdec hI HC h;go_enter Tryz.func71,Tryz.ntmps71
  go_wp2_with (go_at_call 116;refine HC1.mono ?_;rintro e w' ⟨rfl,rfl⟩)
  go_ret
  exact⟨rfl,Fr.refl _ _⟩
 case pos=>
  have hdec:decide (0<=c/\c<((n*per:Nat):Int))=true:=by simp only[hc];rfl
  have HC1:=HC.out c;rw[hdec]at HC1;obtain⟨hc0,hc1⟩:=hc;obtain⟨m,rfl⟩:=Da hc0;have hm:m<n*per:=by omega
  have hd:=h.ok.dim;have hb:=hd.back (c:=m);have hsn:=hd.div hm;have HS:Hid (∀w',Fr [] w w'->Calls Tryz.prog 117 #[.pointer (some ⟨sb,0,none⟩),.int .i64 (m:Int)] w' λe w''=>e=.returned (.int .i64 ((m / per:Nat):Int))/\w'=w''):=λw' hf=>oe (h.st.fr hf (by simp)) hd hm;have HW:Hid (∀w',Fr [] w w'->Calls Tryz.prog 119 #[.pointer (some ⟨sb,0,none⟩),.int .i64 (m:Int)] w' λe w''=>e=.returned (.int .i64 ((m % per:Nat):Int))/\w'=w''):=λw' hf=>qk (h.st.fr hf (by simp)) hd hm;obtain⟨l,hl⟩:=zE a ((m / per:Nat):Int) wa (Br (by have:=hd.p2;have:=Nat.div_le_self m per;omega));have c2:=h.st.c2;have N0:sb<w.heap.size:=Blk.lt h.st;have HL:Hid (∀w' v,Fr [] w w'->(fk (eO a ((m / per:Nat):Int))).getD (jD 0 (.slice none 0 0) (.pointer none))=v->(Instr.lookup 179 (.map (some kb)) (.agg #[.int .i64 a,.int .i64 ((m / per:Nat):Int)]) false).run Tryz.prog w'=.ok v w'):=λw' v hf hv=>by
   rw[<- hv];exact(h.kn.mp.fr0 hf).look Tryz.zD Tryz.underlying179 (zF w') hl
  have hat:=h.kn.at h.ok a ((m / per:Nat):Int);have HI:gR σ per n a (m:Int)=(decide (0<=a)&&jZ σ per a.toNat m):=by unfold gR jZ;rw[hdec];simp
  rw[HI];have HA:Hid (∃(W:Nat) (A:Option Addr) (ln c:Nat) (k:Option Addr),(fk (eO a ((m / per:Nat):Int))).getD (jD 0 (.slice none 0 0) (.pointer none))=.agg #[.int .i64 (W:Int),.slice A ln c,.pointer k] /\
    ((W=1/\k=none/\∃l:List Int,ln=l.length/\Sl w A l.length (λk=>.int .i64 (l.getD k 0))/\l.length<=4/\(decide (0<=a)&&jZ σ per a.toNat m)=decide ((m:Int)∈l)) \/
    (W=2/\∃bs bw ws,k=some ⟨bs,0,none⟩/\ch w bs bw per ws/\(decide (0<=a)&&jZ σ per a.toNat m)=fY ws ((m % per:Nat):Int)) \/
    (W=3/\(decide (0<=a)&&jZ σ per a.toNat m)=true) \/
    (W=0/\(decide (0<=a)&&jZ σ per a.toNat m)=false))):=by
   rcases hat with⟨x,s,rfl,es,hx,hs,hw,v,e1,e2⟩|⟨e1,e2⟩
   ·obtain rfl:m / per=s:=by exact_mod_cast es
    have EA:(decide (0<=(x:Int))&&jZ σ per (x:Int).toNat m)=jZ σ per x m:=by simp
    rw[EA,e1];rcases e2 with⟨e,A,k,G,l',rfl,hl1,_,hl2⟩|⟨e,bs,bw,ws,rfl,hl1,_,_,hl2⟩|⟨e,rfl⟩
    ·refine⟨1,_,_,_,_,rfl,.inl ⟨rfl,rfl,l',rfl,hl1.slz,hl2.len,?_⟩⟩;unfold jZ;rw[e];have:=hl2.mem (m:Int);cases hh:σ.has x m with
    |true=>
          have h2:(m:Int)∈l':=this.2 ⟨m,rfl,rfl,hh⟩;simp[h2]
    |false=>
      have h2:(m:Int)∉l':=λh2=>by
       obtain⟨c,hc,_,hc2⟩:=this.1 h2;obtain rfl:m=c:=by omega
       rw[hh]at hc2;cases hc2
      simp[h2]
    ·refine⟨2,_,_,_,_,rfl,.inr (.inl ⟨rfl,bs,bw,ws,rfl,hl1,?_⟩)⟩;unfold jZ fY;rw[e];have:=hl2 (m % per) hb.2;rw[hb.1]at this;have e3:decide ((0:Int)<=((m % per:Nat):Int))=true:=decide_eq_true (Int.natCast_nonneg _);rw[e3,Int.toNat_natCast,this];simp
    ·exact⟨3,_,_,_,_,rfl,.inr (.inr (.inl ⟨rfl,by unfold jZ;rw[e];simp⟩))⟩
   ·refine⟨0,none,0,0,none,by rw[e1];rfl,.inr (.inr (.inr ⟨rfl,?_⟩))⟩;by_cases ha:0<=a
    ·obtain⟨x,rfl⟩:=Da ha;have hw0:σ.way x (m / per)=0:=by
      rcases Nat.eq_zero_or_pos (σ.way x (m / per))with h0|h0
      ·exact h0
      ·exact absurd ⟨x,m / per,rfl,rfl,by omega⟩ e2
     have hh:σ.has x m=false:=by
      cases hh:σ.has x m with
     |false=>rfl
     |true=>rcases(h.ok.can x m hh).2 with h1|h1 <;> omega
     simp[jZ,hw0,hh]
    ·simp[ha]
  obtain⟨W,A,ln,ca,k,hget,HX⟩:=HA.out;have HX1:=aa HX;have K1:=HL.out w.drew _ ((Fr.refl _ _).drew) hget;have K2:=λo=>HL.out (w.alloc o).drew _ (((Fr.refl _ _).alloc o).drew) hget;generalize (decide (0<=a)&&jZ σ per a.toNat m)=B at *;generalize m / per=q at *;generalize m % per=r at *;clear HL HA HX hget hat hdec HI HC h hl hd hb;go_enter Tryz.func71,Tryz.ntmps71
  go_wp2_with (go_at_call 116;refine HC1.mono ?_;rintro e w' ⟨rfl,rfl⟩)
  go_cut [7] from 16 to 25 (λp wx=>p=.pointer (some ⟨w.heap.size,0,none⟩)/\wx=(w.alloc (.cells #[.int .i64 (W:Int),.slice A ln ca,.pointer k] 221)).drew)
  case first=>
   go_region_with (go_at_call 117;first|(refine(HS.out _ ((Fr.refl _ _).drew)).mono ?_;rintro e w' ⟨rfl,rfl⟩)|(refine(HS.out _ (((Fr.refl _ _).alloc _).drew)).mono ?_;rintro e w' ⟨rfl,rfl⟩))
   all_goals
    go_wp2_with fail
    go_meet
    case rel=>exact⟨rfl,rfl⟩
  case rest=>
   obtain⟨rfl,rfl⟩:=hcut;have hF:Fr [] w (w.alloc (.cells #[.int .i64 (W:Int),.slice A ln ca,.pointer k] 221)).drew:=((Fr.refl _ _).alloc _).drew;have hb:=(Blk.new w 221 #[.int .i64 (W:Int),.slice A ln ca,.pointer k]).drew;have HF:=aa hF;rcases HX1.out with⟨rfl,rfl,l',rfl,hsl,hlen,rfl⟩|⟨rfl,bs,bw,ws,rfl,hset,rfl⟩|⟨rfl,rfl⟩|⟨rfl,rfl⟩
   ·have HQ:=aa (qj (c:=ca) (hsl.fr hF (by simp)) (by omega) (m:Int));clear HX1 K1 K2 hF hsl;have hb0:=hb.cell 0;have hb1:=hb.cell 1;simp only[List.getElem?_toArray,List.getElem?_cons_zero,List.getElem?_cons_succ]at hb0 hb1;generalize (w.alloc (.cells #[.int .i64 ((1:Nat):Int),.slice A l'.length ca,.pointer none] 221)).drew=w2 at *;go_wp2_with (go_at_call 118;refine HQ.out.mono ?_;rintro e w' ⟨rfl,rfl⟩)
    go_ret
    exact⟨rfl,HF.out⟩
   ·have HW1:Hid (∀i,Calls Tryz.prog 119 #[.pointer (some ⟨sb,0,none⟩),.int .i64 (m:Int)] (((w.alloc (.cells #[.int .i64 ((2:Nat):Int),.slice A ln ca,.pointer (some ⟨bs,0,none⟩)] 221)).drew).drewN i) λe w''=>e=.returned (.int .i64 (r:Int))/\((w.alloc (.cells #[.int .i64 ((2:Nat):Int),.slice A ln ca,.pointer (some ⟨bs,0,none⟩)] 221)).drew).drewN i=w''):=λi=>HW.out _ (hF.drewN i);have HQ:Hid (∀i,Calls Tryz.prog 32 #[.pointer (some ⟨bs,0,none⟩),.int .i64 (r:Int)] (((w.alloc (.cells #[.int .i64 ((2:Nat):Int),.slice A ln ca,.pointer (some ⟨bs,0,none⟩)] 221)).drew).drewN i) λe w''=>e=.returned (.bool (fY ws (r:Int)))/\∃m,w''=((w.alloc (.cells #[.int .i64 ((2:Nat):Int),.slice A ln ca,.pointer (some ⟨bs,0,none⟩)] 221)).drew).drewN m):=λi=>(kG ((hset.fr hF (by simp) (by simp)).drewN i) (r:Int)).mono λe w' h=>⟨h.1,by obtain⟨q,hq⟩:=h.2;exact⟨i+q,by rw[hq,uM]⟩⟩;clear HX1 K1 K2 hF hset HW;have hb0:=hb.cell 0;have hb2:=hb.cell 2;simp only[List.getElem?_toArray,List.getElem?_cons_zero,List.getElem?_cons_succ]at hb0 hb2;generalize (w.alloc (.cells #[.int .i64 ((2:Nat):Int),.slice A ln ca,.pointer (some ⟨bs,0,none⟩)] 221)).drew=w2 at *;go_wp2_with fail
    go_quiet ((first|(go_at_call 119;exact aC (HW1.out _))|(go_at_call 32;exact HQ.out _)))
    go_wp2
    go_ret
    exact⟨rfl,HF.out.drewN _⟩
   ·clear HX1 K1 K2 hF HW;have hb0:=hb.cell 0;simp only[List.getElem?_toArray,List.getElem?_cons_zero]at hb0;generalize (w.alloc (.cells #[.int .i64 ((3:Nat):Int),.slice A ln ca,.pointer k] 221)).drew=w2 at *;go_wp2_with fail
    go_ret
    exact⟨rfl,HF.out⟩
   ·clear HX1 K1 K2 hF HW;have hb0:=hb.cell 0;simp only[List.getElem?_toArray,List.getElem?_cons_zero]at hb0;generalize (w.alloc (.cells #[.int .i64 ((0:Nat):Int),.slice A ln ca,.pointer k] 221)).drew=w2 at *;go_wp2_with fail
    go_ret
    exact⟨rfl,HF.out⟩
end
open Go.RowKit Go.Gl Go.Shelf Go.Sort
def RS.clear(σ:RS)(h:Nat):RS:=⟨λa b=>if a=h then 0 else σ.way a b,λa c=>if a=h then false else σ.has a c⟩
end Go.Proofs.YtimlkjppaalfaaaGreatDoor
