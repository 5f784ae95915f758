/- Several texts joined (pack.py): Vr Rt4 Vt. -/
import Derived.Test.YteacgfeiedcdiaaGreatDoorPW22
import Derived.Test.YteacgfeiedcdiaaGreatDoorPW25
import Derived.Test.YteacgfeiedcdiaaGreatDoorPW08
import Derived.Deep.RegionHeld3
namespace Go.Proofs.YteacgfeiedcdiaaGreatDoor
set_option linter.unusedVariables false
set_option linter.unusedSimpArgs false
set_option maxRecDepth 100000
open Go.RowKit Go.Gl
def HpAt(W w:World)(L:HL)(X:HX)(own:Nat→Nat)(h:HS)(x:HT)(s k:Nat):Prop:=
 ∃tg FS,Hw w L X tg own FS h x s k∧Fr [] W w∧∀b,own b≠0→W.heap.size≤b
def HKp(w:World)(own:Nat→Nat)(w':World)(own':Nat→Nat):Prop:=(∃F,Fr F w w'∧∀b,b∈F→own b≠0)∧∀b,b<w.heap.size→own' b=own b
def HpPost(W w:World)(L:HL)(X:HX)(own:Nat→Nat)(h:HS)(x:HT)(s k:Nat)(v:Value)(e:Ending)(w':World):Prop:=
 ∃own',e=.returned v∧HpAt W w' L X own' h x s k∧HKp w own w' own'
section
variable {W w w' w'':World}{L:HL}{X:HX}{own own' own'':Nat→Nat}{h:HS}{x:HT}{s k:Nat}{F:List Nat}
theorem HKp.refl(w:World)(own:Nat→Nat):HKp w own w own:=⟨⟨[],Fr.refl _ _,fun b hb=>(by cases hb)⟩,fun _ _=>rfl⟩
theorem HKp.trans(h:HKp w own w' own')(j:HKp w' own' w'' own''):HKp w own w'' own'':=by
 obtain⟨⟨F,f1,f2⟩,u1⟩:=h
 obtain⟨⟨G,g1,g2⟩,u2⟩:=j
 have hs:=f1.size
 refine⟨⟨F++G.filter (fun b=>decide (b<w.heap.size)),(f1.mono (fun b hb=>.inl (List.mem_append.2 (.inl hb)))).trans g1 (fun b hb=>?_),fun b hb=>?_⟩,fun b hb=>(u2 b (by omega)).trans (u1 b hb)⟩
 ·by_cases e:b<w.heap.size
  ·exact .inl (List.mem_append.2 (.inr (List.mem_filter.2 ⟨hb,by simpa using e⟩)))
  ·exact .inr (by omega)
 ·rcases List.mem_append.1 hb with hb | hb
  ·exact f2 b hb
  ·obtain⟨h1,h2⟩:=List.mem_filter.1 hb
   simp at h2
   rw [← u1 b h2]
   exact g2 b h1
theorem HKp.fr0(hf:Fr [] w w'):HKp w own w' own:=⟨⟨[],hf,fun b hb=>(by cases hb)⟩,fun _ _=>rfl⟩
theorem HKp.blk(h:HKp w own w' own'){b:Nat}{t:TypeId}{cs:Array Value}(hb:Blk w b t cs)(h0:own b=0):Blk w' b t cs∧own' b=0:=by
 obtain⟨⟨F,f1,f2⟩,u⟩:=h
 exact⟨hb.fr f1 (fun hx=>f2 b hx h0),(u b hb.lt).trans h0⟩
theorem HKp.fr(h:HKp w own w' own'):∃F,Fr F w w'∧∀b,b∈F→own b≠0:=h.1
theorem HpAt.in(H:HpAt W w L X own h x s k)(hk:HKp w own w' own'):Fr [] W w':=by
 obtain⟨tg,FS,_,hf,ho⟩:=H
 obtain⟨⟨F,f1,f2⟩,_⟩:=hk
 exact hf.trans f1 (fun b hb=>.inr (ho b (f2 b hb)))
theorem HpAt.hr(H:HpAt W w L X own h x s k):Hr w L h s k:=by
 obtain⟨tg,FS,H,_⟩:=H
 exact H.hr
theorem HpAt.fr0(H:HpAt W w L X own h x s k)(hf:Fr [] w w'):HpAt W w' L X own h x s k:=by
 obtain⟨tg,FS,H,h1,h2⟩:=H
 exact⟨tg,FS,H.fr0 hf,h1.trans_same hf,h2⟩
theorem HpAt.other(H:HpAt W w L X own h x s k)(hf:Fr F w w')(hF:∀b,b∈F→own b=0∧W.heap.size≤b)(hg:0∉F):HpAt W w' L X own h x s k:=by
 obtain⟨tg,FS,H,h1,h2⟩:=H
 have n:∀ {b d:Nat},own b=d→d≠0→b∉F:=fun h1 h2 h3=>h2 (h1.symm.trans (hF _ h3).1)
 refine⟨tg,FS,⟨H.st.fr hf (n H.o1.1 (by decide)),?_,H.rg.fr hf (n H.o3.1 (by decide)) (n H.o3.2.1 (by decide)) (n H.o3.2.2.1 (by decide)) (n H.o3.2.2.2 (by decide)),H.row.fr hf (fun g hg=>n (H.o1.2.2 g hg) (by decide)),fun i hi=>(H.stk i hi).fr hf (fun g hg=>n (H.o100 i hi g hg) (by omega)),H.buf.fr hf (n H.o1.2.1 (by decide)),H.ok,H.tab.fr hf hg,H.dim,
  H.of.fr hf (n H.o4.1 (by decide)) (n H.o4.2 (by decide)),H.ct.fr hf (n H.o5.1 (by decide)) (n H.o5.2.1 (by decide)) (n H.o5.2.2 (by decide)),H.qu.fr hf (fun g hg=>n (H.o6 g hg) (by decide)),H.se.fr hf (fun b hb=>?_),H.ma.fr hf (n H.o8.1 (by decide)) (n H.o8.2 (by decide)),H.vo,H.vc,H.vq,H.vs,H.vm,H.o1,H.o2,H.o3,H.o4,H.o5,H.o6,H.o7,H.o8,H.o100,H.o0,fun b hb=>Nat.lt_of_lt_of_le (H.lt b hb) hf.size⟩,h1.trans hf (fun b hb=>.inr (hF b hb).2),h2⟩
 ·obtain⟨a,ha⟩:=H.ar
  exact⟨a,ha.fr hf (n H.o2.1 (by decide)) (n H.o2.2 (by decide))⟩
 ·by_cases e2:(tg b).1=0
  ·exact e2
  ·exact absurd (hF b hb).1 (by rw [H.o7 b e2];decide)
theorem HpAt.claim(H:HpAt W w L X own h x s k){y:Int}(hy:Filled y){j:Nat}(hl:LowFree h.s h.R j) :
  Calls Tryz.prog 84 #[.pointer (some ⟨L.tb,0,none⟩),.int .i64 y] w (HpPost W w L X own { h with s:=put1 h.s j y } x s k (.tuple #[.int .i64 (j:Int),.int .i64 0])):=by
 obtain⟨tg,FS,H,h1,h2⟩:=H
 refine(claim_at H.rg hy hl).mono ?_
 rintro e w' ⟨rfl,hr,hf⟩
 have hF:∀b,b∈[L.sb,L.pb,L.mb]→own b=3:=fun b hb=>by
  simp at hb
  rcases hb with rfl | rfl | rfl
  ·exact H.o3.2.1
  ·exact H.o3.2.2.1
  ·exact H.o3.2.2.2
 exact⟨own,rfl,⟨tg,FS,H.regs hf hF hr,h1.trans hf (fun b hb=>.inr (h2 b (by rw [hF b hb];decide))),h2⟩,⟨_,hf,fun b hb=>by rw [hF b hb];decide⟩,fun _ _=>rfl⟩
theorem HpAt.bump(H:HpAt W w L X own h x s k){j:Nat}(hj:j<h.R)(hy:Filled (h.s j)){c:Int}(hc:1≤c)(hfit:h.t j+c≤((j*h.W+h.W:Nat):Int)) :
  Calls Tryz.prog 83 #[.pointer (some ⟨L.tb,0,none⟩),.int .i64 (j:Int),.int .i64 c] w (HpPost W w L X own { h with t:=put1 h.t j (h.t j+c) } x s k (.tuple #[.int .i64 (h.t j),.int .i64 0])):=by
 obtain⟨tg,FS,H,h1,h2⟩:=H
 refine(bump_at H.rg hj hy hc hfit).mono ?_
 rintro e w' ⟨rfl,hr,hf⟩
 have hF:∀b,b∈[L.sb,L.pb,L.mb]→own b=3:=fun b hb=>by
  simp at hb
  rcases hb with rfl | rfl | rfl
  ·exact H.o3.2.1
  ·exact H.o3.2.2.1
  ·exact H.o3.2.2.2
 exact⟨own,rfl,⟨tg,FS,H.regs hf hF hr,h1.trans hf (fun b hb=>.inr (h2 b (by rw [hF b hb];decide))),h2⟩,⟨_,hf,fun b hb=>by rw [hF b hb];decide⟩,fun _ _=>rfl⟩
theorem HpAt.make(H:HpAt W w L X own h x s k){I S P:Nat}(hS:1≤S∧S≤1048576)(hP:P<S)(hn:I+S≤h.n) :
  Calls Tryz.prog 35 #[.pointer (some ⟨L.ab,0,none⟩),.int .i64 (I:Int),.int .i64 (S:Int),.int .i64 (P:Int)] w (HpPost W w L X own { h with f:=upd (updRow h.f I S (fun _=>0)) I (objW S P) } x s k (.int .i64 0)):=by
 obtain⟨tg,FS,H,h1,h2⟩:=H
 obtain⟨a,ha⟩:=H.ar
 have hm:=make_in h.f hS hP hn
 refine(pmake_any ha I S P (by have:=ha.max;omega)).mono ?_
 rintro e w' ⟨c',rfl,hr,hf⟩
 rw [hm.1]
 rw [hm.2]at hr
 have hF:∀b,b∈[L.ab,L.aw]→own b=2:=fun b hb=>by
  simp at hb
  rcases hb with rfl | rfl
  ·exact H.o2.1
  ·exact H.o2.2
 exact⟨own,rfl,⟨tg,FS,H.arena hf hF hr,h1.trans hf (fun b hb=>.inr (h2 b (by rw [hF b hb];decide))),h2⟩,⟨_,hf,fun b hb=>by rw [hF b hb];decide⟩,fun _ _=>rfl⟩
theorem HpAt.push(H:HpAt W w L X own h x s k){i:Nat}(hi:i<h.T)(hB:L.B≤64)(hl:(h.st i).length<L.B){r:Int}(hr:0≤r∧r<18446744073709551616) :
  Calls Tryz.prog 39 #[.pointer (some ⟨L.S i,0,none⟩),.int .u64 r] w (HpPost W w L X own { h with st:=setN h.st i (h.st i++[r]) } x s k (.int .i64 0)):=by
 obtain⟨tg,FS,H,h1,h2⟩:=H
 refine(hpush_any (H.stk i hi) (Nat.le_of_lt hl) hB r).mono ?_
 rintro e w' ⟨F',rfl,hq,hf,hn⟩
 have e1:hkPush L.B (h.st i) r=h.st i++[r]:=if_pos hl
 have e2:hkPushE L.B (h.st i)=0:=if_pos hl
 rw [e2]
 rw [e1]at hq
 obtain⟨own',k1,k2,k3⟩:=H.stack hi hf hq hn (by simp;omega) (fun q hq=>by
  rcases List.mem_append.1 hq with h3 | h3
  ·exact H.ok.rok i hi q h3
  ·simp at h3
   subst h3
   exact hr)
 have hF:∀b,b∈FS i→own b≠0:=fun b hb=>by rw [H.o100 i hi b hb];omega
 have hsz:=h1.size
 refine⟨own',rfl,⟨tg,_,k1,h1.trans hf (fun b hb=>.inr (h2 b (hF b hb))),fun b hb=>?_⟩,⟨_,hf,hF⟩,k3⟩
 ·rcases k2 b hb with h3 | h3
  ·exact h2 b h3
  ·omega
theorem HpAt.addSet(H:HpAt W w L X own h x s k)(a c:Int) :
  Calls Tryz.prog 89 #[.pointer (some ⟨X.zb,0,none⟩),.int .i64 a,.int .i64 c] w (HpPost W w L X own h { x with σ:=(addR x.σ x.per h.R a c).2.2 } s k (.tuple #[.bool (addR x.σ x.per h.R a c).1,.int .i64 (addR x.σ x.per h.R a c).2.1])):=by
 obtain⟨tg,FS,H,h1,h2⟩:=H
 refine(H.se.add a c).mono ?_
 rintro e w' ⟨tg',F,rfl,hq,hf,hF,hu⟩
 obtain⟨own',k1,k2,k3⟩:=H.sets hf hF hu hq
 have hsz:=h1.size
 have hF':∀b,b∈F→own b≠0:=fun b hb=>by rw [H.o7 b (hF b hb)];decide
 refine⟨own',rfl,⟨tg',FS,k1,h1.trans hf (fun b hb=>.inr (h2 b (hF' b hb))),fun b hb=>?_⟩,⟨_,hf,hF'⟩,k3⟩
 rcases k2 b hb with h3 | h3
 ·exact h2 b h3
 ·omega
theorem HpAt.store(H:HpAt W w L X own h x s k){i y:Int}{j v:Nat}(hi:i=(j:Int))(hj:j<h.n)(hy:y=(v:Int))(hv:v<18446744073709551616) :
  Calls Tryz.prog 37 #[.pointer (some ⟨L.ab,0,none⟩),.int .i64 i,.int .u64 y] w (HpPost W w L X own { h with f:=upd h.f j v } x s k (.int .i64 0)):=by
 obtain⟨tg,FS,H,h1,h2⟩:=H
 obtain⟨a,ha⟩:=H.ar
 refine(store_at ha hi hj hy hv).mono ?_
 rintro e w' ⟨rfl,hr,hf⟩
 have hF:∀b,b∈[L.ab,L.aw]→own b=2:=fun b hb=>by
  simp at hb
  rcases hb with rfl | rfl
  ·exact H.o2.1
  ·exact H.o2.2
 exact⟨own,rfl,⟨tg,FS,H.arena hf hF hr,h1.trans hf (fun b hb=>.inr (h2 b (by rw [hF b hb];decide))),h2⟩,⟨_,hf,fun b hb=>by rw [hF b hb];decide⟩,fun _ _=>rfl⟩
theorem HpAt.looked(H:HpAt W w L X own h x s k)(hr:Hr w' L h s k)(hf:Fr [L.ab] w w'):HpAt W w' L X own h x s k∧HKp w own w' own:=by
 obtain⟨tg,FS,H,h1,h2⟩:=H
 have hF:∀b,b∈[L.ab]→own b≠0:=fun b hb=>by simp at hb;subst hb;rw [H.o2.1];decide
 exact⟨⟨tg,FS,H.looked hr hf,h1.trans hf (fun b hb=>.inr (h2 b (hF b hb))),h2⟩,⟨_,hf,hF⟩,fun _ _=>rfl⟩
theorem HpAt.fr(H:HpAt W w L X own h x s k):Fr [] W w:=by
 obtain⟨tg,FS,H,h1,h2⟩:=H
 exact h1
theorem HNewP.at{c:Cfg}{g:Geo}{W0 R n T C P qm B s k:Nat}{e:Ending}(hP:HNewP w c g W0 R n T C P qm B s k e w')(hW:Fr [] W w) :
  ∃L X own,e=.returned (.tuple #[.pointer (some ⟨L.hb,0,none⟩),.int .i64 0])∧HpAt W w' L X own (HSn g W0 R n T) (HTn C P R qm n) s k∧L.B=B∧L.cfg=c∧Fr [] w w'∧∀b,b<w.heap.size→own b=0:=by
 obtain⟨L,X,tg,own,FS,rfl,h1,h2,h3,h4,h5⟩:=hP
 refine⟨L,X,own,rfl,⟨tg,FS,h1,hW.trans_same h2,fun b hb=>Nat.le_trans hW.size (h3 b hb)⟩,h4,h5,h2,fun b hb=>?_⟩
 by_cases e:own b=0
 ·exact e
 ·have:=h3 b e
  omega
end
def those(s:Nat→Int)(x:Int)(n:Nat):List Nat:=(List.range n).filter fun j=>decide (s j=x)
theorem those_succ(s:Nat→Int)(x:Int)(n:Nat):those s x (n+1)=those s x n++if s n=x then [n] else []:=by
 unfold those
 rw [List.range_succ,List.filter_append]
 by_cases h:s n=x <;> simp [h]
theorem those_len(s:Nat→Int)(x:Int)(n:Nat):(those s x n).length≤n:=by
 unfold those
 exact Nat.le_trans (List.length_filter_le _ _) (by simp)
theorem those_mem{s:Nat→Int}{x:Int}{n j:Nat}:j∈those s x n↔j<n∧s j=x:=by simp [those]
def ListPost7(w:World)(l:List Nat)(e:Ending)(w':World):Prop:=∃v,e=.returned v∧w'.ownsRow w.heap.size 3 1 v l.length (nums l)∧Fr [] w w'
theorem rlist_any{w:World}{tb sb pb mb W n:Nat}{s t m:Nat→Int}(h:Rg w tb sb pb mb W n s t m)(x:Int) :
  Calls Tryz.prog 113 #[.pointer (some ⟨tb,0,none⟩),.int .i64 x] w (ListPost7 w (those s x n)):=by
 obtain⟨i0,hi,hz0,hz1,hz2⟩:=info_parts Tryz.info_int
 have H:=hide h
 have c1:=h.c1
 have hn:=h.nmax
 clear h
 go_enter Tryz.func113,Tryz.ntmps113
 go_wp2_with fail
 go_loopw [5,15] (fun v i wr=>∃k:Nat,i=.int .i64 k∧k≤n∧wr.ownsRow w.heap.size 3 1 v (those s x k).length (nums (those s x k))∧Fr [] w wr) (fun _ i _=>n-(intOf i).toNat)
 case atStart=>exact⟨0,rfl,Nat.zero_le _,World.ownsRow_nil _ _ _ _,Fr.refl _ _⟩
 case round=>
  obtain⟨k,rfl,hk,hown,hfr⟩:=hrel
  have HO:=hide hown
  have HF:=hide hfr
  have HR:=hide (H.out.fr0 hfr)
  clear hown hfr
  by_cases hlt:k<n
  ·have hlt':(k:Int)<(n:Int):=by omega
   have hc:=HR.out.cs hlt
   have ht:=those_succ s x k
   have hl:=those_len s x k
   by_cases hx:s k=x
   ·rw [if_pos hx]at ht
    rw [hx]at hc
    have HT:=hide ht
    clear ht hx
    go_wp2_with (at_builtin;refine wpList_append_own _ rfl _ _ 31 rfl w.heap.size 3 i0 (.int .i64 0) 1 8 Tryz.underlying31 hi hz0 hz1 hz2 rfl (by decide) _ _ _ rfl (HO.out.alloc _) ⟨_,0,none⟩ 1 1 [.int .i64 (k:Int)] rfl rfl (one_at _ _ _) ?c2 ?c3 ?c4 ?c5 ?_)
    case c2=>intro u hu;simp at hu;subst hu;rfl
    case c3=>unfold maxLen;omega
    case c4=>omega
    case c5=>have:=HF.out.size;simp;omega
    intro v' w6 hown6 hgr6 _
    have HV6:Hid (w6.ownsRow w.heap.size 3 1 v' (those s x (k+1)).length (nums (those s x (k+1)))):=by
     rw [HT.out,nums_app,List.length_append];exact hown6
    have HF6:Hid (Fr [] w w6):=own_grown (HF.out.alloc _) HO.out hgr6
    clear hown6 hgr6
    go_wp2
    go_roundw
    case rel=>exact⟨k+1,by go_num,by omega,HV6.out,HF6.out⟩
    case measure=>simp [intOf];omega
   ·rw [if_neg hx,List.append_nil]at ht
    generalize hy:s k=y at hc hx
    go_wp2_with fail
    go_roundw
    case rel=>exact⟨k+1,by go_num,by omega,by rw [ht];exact HO.out,HF.out⟩
    case measure=>simp [intOf];omega
  ·have hlt':¬ (k:Int)<(n:Int):=by omega
   obtain rfl:k=n:=by omega
   go_wp2_with fail
   go_ret
   exact⟨_,rfl,HO.out,HF.out⟩
def spanE(W:Nat)(z:Int):Int:=if z<1 then 0 else (z-1) / (W:Int)+1
theorem spanE_iff{W c:Nat}(hW:1≤W)(hc:1≤c)(z:Int):(c:Int)=spanE W z↔((c:Int)-1)*(W:Int)<z∧z≤(c:Int)*(W:Int):=by
 unfold spanE
 have hWp:(0:Int)<(W:Int):=by omega
 have h1:=Int.le_ediv_iff_mul_le (a:=(c:Int)-1) (b:=z-1) hWp
 have h2:=Int.ediv_lt_iff_lt_mul (a:=z-1) (b:=(c:Int)) hWp
 have h3:0≤((c:Int)-1)*(W:Int):=Int.mul_nonneg (by omega) (by omega)
 split
 ·constructor
  ·intro h;omega
  ·intro h;omega
 ·constructor
  ·intro h
   have a1:=h1.1 (by omega)
   have a2:=h2.1 (by omega)
   omega
  ·intro h
   have a1:=h1.2 (by omega)
   have a2:=h2.2 (by omega)
   omega
theorem rspan_any{w:World}{tb sb pb mb W n:Nat}{s t m:Nat→Int}(h:Rg w tb sb pb mb W n s t m)(hn1:1≤n){z:Int}(hz:z≤9223372036854775807) :
  Calls Tryz.prog 131 #[.pointer (some ⟨tb,0,none⟩),.int .i64 z] w fun e w'=>e=.returned (.int .i64 (spanE W z))∧w=w':=by
 have c0:=h.c0
 have hW:=h.pos
 have hWm:=h.wmax (k:=0) (by omega)
 clear h
 unfold spanE
 by_cases h1:z<1
 ·rw [if_pos h1]
  go_enter Tryz.func131,Tryz.ntmps131
  go_wp2
  go_ret
  exact⟨rfl,rfl⟩
 ·rw [if_neg h1]
  have e1:(z-1).tdiv (W:Int)=(z-1) / (W:Int):=Int.tdiv_eq_ediv_of_nonneg (by omega)
  have e2:0≤(z-1) / (W:Int):=Int.ediv_nonneg (by omega) (by omega)
  have e3:(z-1) / (W:Int)≤z-1:=Int.ediv_le_self _ (by omega)
  have E:=hide (And.intro e1 (And.intro e2 e3))
  have hw0:¬ (W:Int)=0:=by omega
  clear e1 e2 e3
  go_enter Tryz.func131,Tryz.ntmps131
  go_wp2
  go_ret
  refine⟨ret_int ?_,rfl⟩
  obtain⟨e1,e2,e3⟩:=E.out
  first
   | (rw [IntWalk.wrap64_in (z-1) ⟨by omega,by omega⟩,e1,IntWalk.wrap64_in _ ⟨by omega,by omega⟩,IntWalk.wrap64_in _ ⟨by omega,by omega⟩])
   | (rw [e1,IntWalk.wrap64_in _ ⟨by omega,by omega⟩,IntWalk.wrap64_in _ ⟨by omega,by omega⟩])
   | (rw [e1,IntWalk.wrap64_in _ ⟨by omega,by omega⟩])
   | (rw [IntWalk.wrap64_in _ ⟨by omega,by omega⟩])
   | rfl
def FreeRun(s:Nat→Int)(c f:Nat):Prop:=∀j,f≤j→j<f+c→s j=0
def LowRun(s:Nat→Int)(n c f:Nat):Prop:=f+c≤n∧FreeRun s c f∧∀g,g<f→¬ FreeRun s c g
def NoRun(s:Nat→Int)(n c:Nat):Prop:=∀f,f+c≤n→¬ FreeRun s c f
theorem LowRun.unique{s:Nat→Int}{n c f g:Nat}(h:LowRun s n c f)(h':LowRun s n c g):f=g:=by
 rcases Nat.lt_trichotomy f g with hl | hl | hl
 ·exact absurd h.2.1 (h'.2.2 f hl)
 ·exact hl
 ·exact absurd h'.2.1 (h.2.2 g hl)
theorem run_ways(s:Nat→Int)(n c:Nat)(hc:1≤c):(∃f,LowRun s n c f)∨NoRun s n c:=by
 have key:∀k,(∃f,LowRun s n c f)∨∀f,f<k→f+c≤n→¬ FreeRun s c f:=by
  intro k
  induction k with
  | zero=>exact .inr fun f hf=>by omega
  | succ k ih=>
   rcases ih with ih | ih
   ·exact .inl ih
   ·by_cases h:k+c≤n∧FreeRun s c k
    ·exact .inl ⟨k,h.1,h.2,fun g hg=>ih g hg (by omega)⟩
    ·refine .inr fun f hf hn hr=>?_
     rcases Nat.lt_or_ge f k with hl | hl
     ·exact ih f hl hn hr
     ·obtain rfl:f=k:=by omega
      exact h ⟨hn,hr⟩
 rcases key (n+1)with h | h
 ·exact .inl h
 ·exact .inr fun f hf=>h f (by omega) hf
def LPost(w:World)(s:Nat→Int)(n c:Nat)(e:Ending)(w':World):Prop:=
 ∃z:Int,e=.returned (.int .i64 z)∧w=w'∧((∃f:Nat,z=f∧LowRun s n c f)∨(z=-1∧NoRun s n c))
structure Met(s:Nat→Int)(c i a:Nat):Prop where
 le:a≤i
 lt:a<c
 free:∀j,i-a≤j→j<i→s j=0
 stop:a<i→s (i-a-1)≠0
 none:∀f,f+c≤i→¬ FreeRun s c f
theorem Met.zero(s:Nat→Int){c:Nat}(hc:1≤c):Met s c 0 0:=⟨by omega,by omega,fun j _ hj=>by omega,fun h=>by omega,fun f hf=>by omega⟩
theorem Met.taken{s:Nat→Int}{c i a:Nat}(h:Met s c i a)(hs:s i≠0):Met s c (i+1) 0:=
 ⟨by omega,by have:=h.lt;omega,fun j hj hj2=>by omega,fun _=>by simpa using hs,fun f hf hr=>by
  rcases Nat.lt_or_ge i (f+c)with hl | hl
  ·exact hs (hr i (by have:=h.lt;omega) hl)
  ·exact h.none f hl hr⟩
theorem Met.more{s:Nat→Int}{c i a:Nat}(h:Met s c i a)(hs:s i=0)(hc:a+1<c):Met s c (i+1) (a+1):=
 ⟨by have:=h.le;omega,hc,fun j hj hj2=>by
  rcases Nat.lt_or_ge j i with hl | hl
  ·exact h.free j (by omega) hl
  ·obtain rfl:j=i:=by omega
   exact hs,fun hlt=>by
  have:=h.stop (by omega)
  rwa [show i+1-(a+1)-1=i-a-1 by omega],fun f hf hr=>by
  rcases Nat.lt_or_ge i (f+c)with hl | hl
  ·have h1:=h.le
   exact h.stop (by omega) (hr _ (by omega) (by omega))
  ·exact h.none f hl hr⟩
theorem Met.found{s:Nat→Int}{c i a n:Nat}(h:Met s c i a)(hs:s i=0)(hc:a+1=c)(hn:i<n):LowRun s n c (i-a):=
 ⟨by have:=h.le;omega,fun j hj hj2=>by
  have:=h.le
  rcases Nat.lt_or_ge j i with hl | hl
  ·exact h.free j (by omega) hl
  ·obtain rfl:j=i:=by omega
   exact hs,fun g hg hr=>h.none g (by have:=h.le;omega) hr⟩
theorem lowrun_any{w:World}{tb sb pb mb W n:Nat}{s t m:Nat→Int}(h:Rg w tb sb pb mb W n s t m){c:Nat}(hc:1≤c)(hcm:c≤9223372036854775807) :
  Calls Tryz.prog 132 #[.pointer (some ⟨tb,0,none⟩),.int .i64 (c:Int)] w (LPost w s n c):=by
 have H:=hide h
 have c1:=h.c1
 have hn:=h.nmax
 clear h
 go_enter Tryz.func132,Tryz.ntmps132
 go_wp2_with fail
 go_loopw [5,13] (fun a i wr=>∃k q:Nat,i=.int .i64 k∧a=.int .i64 q∧k≤n∧w=wr∧Met s c k q) (fun _ i _=>n-(intOf i).toNat)
 case atStart=>exact⟨0,0,rfl,rfl,Nat.zero_le _,rfl,Met.zero s hc⟩
 case round=>
  obtain⟨k,q,rfl,rfl,hk,rfl,hm⟩:=hrel
  have HM:=hide hm
  have hq:=hm.le
  have hq2:=hm.lt
  clear hm
  by_cases hlt:k<n
  ·have hlt':(k:Int)<(n:Int):=by omega
   have hcell:=H.out.cs hlt
   by_cases h0:s k=0
   ·have H0:=hide h0
    rw [h0]at hcell
    clear h0
    by_cases hf:q+1=c
    ·have HE:=hide (HM.out.found H0.out hf hlt)
     subst hf
     go_wp2_with fail
     go_ret
     have:=HE.out
     refine⟨_,rfl,rfl,.inl ⟨k-q,?_,this⟩⟩
     push_cast
     omega
    ·have HE:=hide (HM.out.more H0.out (by omega))
     have hf':¬ (q:Int)+1=(c:Int):=by omega
     go_wp2_with fail
     go_roundw
     case rel=>exact⟨k+1,q+1,by go_num,by go_num,by omega,trivial,HE.out⟩
     case measure=>simp [intOf];omega
   ·have HE:=hide (HM.out.taken h0)
    generalize s k=x at hcell h0
    go_wp2_with fail
    go_roundw
    case rel=>exact⟨k+1,0,by go_num,rfl,by omega,trivial,HE.out⟩
    case measure=>simp [intOf];omega
  ·have hlt':¬ (k:Int)<(n:Int):=by omega
   obtain rfl:k=n:=by omega
   go_wp2_with fail
   go_ret
   exact⟨_,rfl,rfl,.inr ⟨rfl,HM.out.none⟩⟩
def runTop(W f z:Nat):Nat→Int:=fun j=>if ((j*W+W:Nat):Int)<((f*W+z:Nat):Int) then ((j*W+W:Nat):Int) else ((f*W+z:Nat):Int)
theorem runTop_ok{W f z c j:Nat}(h1:(c-1)*W<z)(hj:f≤j)(hj2:j<f+c):((j*W:Nat):Int)≤runTop W f z j∧runTop W f z j≤((j*W+W:Nat):Int):=by
 have a1:(j-f)*W≤(c-1)*W:=Nat.mul_le_mul_right W (by omega)
 have a2:j*W=f*W+(j-f)*W:=by rw [← Nat.add_mul];congr 1;omega
 unfold runTop
 split <;> omega
set_option maxHeartbeats 800000 in
theorem run_at{w:World}{tb sb pb mb W n:Nat}{s t m:Nat→Int}(h:Rg w tb sb pb mb W n s t m){c f z:Nat}(hc:1≤c)(hz1:(c-1)*W<z)(hz2:z≤c*W)(hl:LowRun s n c f) :
  Calls Tryz.prog 80 #[.pointer (some ⟨tb,0,none⟩),.int .i64 (c:Int),.int .i64 (z:Int)] w
   (RPost w tb sb pb mb W n (put1 (put2 s f (f+c) fun _=>5) f 4) (put2 t f (f+c) (runTop W f z)) m (.tuple #[.int .i64 (f:Int),.int .i64 0])):=by
 have hfc:=hl.1
 have hn:=h.nmax
 have hW:=h.pos
 have hzb:f*W+z≤4194304:=by
  have a1:(f+c)*W≤n*W:=Nat.mul_le_mul_right W hfc
  have a2:=h.max
  rw [Nat.add_mul]at a1
  omega
 have hcs:(c:Int)=spanE W (z:Int):=(spanE_iff hW hc _).2 ⟨by
  have:((c-1:Nat):Int)=(c:Int)-1:=by omega
  rw [← this,← Int.natCast_mul];omega,by rw [← Int.natCast_mul];omega⟩
 have HS:Hid (Calls Tryz.prog 131 #[.pointer (some ⟨tb,0,none⟩),.int .i64 (z:Int)] w fun e w'=>e=.returned (.int .i64 (c:Int))∧w=w'):=by
  have:=rspan_any h (by omega) (z:=(z:Int)) (by omega)
  rw [← hcs]at this
  exact this
 have HL:Hid (Calls Tryz.prog 132 #[.pointer (some ⟨tb,0,none⟩),.int .i64 (c:Int)] w fun e w'=>e=.returned (.int .i64 (f:Int))∧w=w'):=(lowrun_any h hc (by omega)).mono fun e w' ⟨x,he,hw,hx⟩=>by
  rcases hx with⟨f',rfl,hf'⟩ | ⟨_,hno⟩
  ·rw [he,hl.unique hf'];exact⟨rfl,hw⟩
  ·exact absurd hl.2.1 (hno f hfc)
 have HB:=hide (base_at h (k:=f) (by omega))
 have H:=hide h
 have HZ:=hide hz1
 have HBE:Hid (∀j,f≤j→j<f+c→((j*W:Nat):Int)≤runTop W f z j∧runTop W f z j≤((j*W+W:Nat):Int)):=fun j hj hj2=>runTop_ok hz1 hj hj2
 have HT:Hid (∀j,runTop W f z j=if ((j*W+W:Nat):Int)<((f*W+z:Nat):Int) then ((j*W+W:Nat):Int) else ((f*W+z:Nat):Int)):=fun j=>rfl
 unfold RPost
 clear h hl hz1 hz2 hcs
 generalize runTop W f z=rt at *
 obtain⟨B,hB⟩:∃B,B=f*W:=⟨_,rfl⟩
 rw [← hB]at HB hzb HT
 clear hB
 go_enter Tryz.func80,Tryz.ntmps80
 go_wp2_with (first | (go_at_call 131;refine HS.out.mono ?_;rintro e w' ⟨rfl,rfl⟩) | (go_at_call 132;refine HL.out.mono ?_;rintro e w' ⟨rfl,rfl⟩) | (go_at_call 133;refine HB.out.mono ?_;rintro e w' ⟨rfl,rfl⟩))
 go_loopw [10] (fun i wr=>∃j:Nat,i=.int .i64 (j:Nat)∧f≤j∧j≤f+c∧Rg wr tb sb pb mb W n (put2 s f j fun _=>5) (put2 t f j rt) m∧Fr [sb,pb,mb] w wr) (fun i _=>f+c-(intOf i).toNat)
 case atStart=>exact⟨f,rfl,Nat.le_refl _,by omega,by rw [put2_none (Nat.le_refl _),put2_none (Nat.le_refl _)];exact H.out,Fr.refl _ _⟩
 case round=>
  obtain⟨j,rfl,hj1,hj2,hr,hfr⟩:=hrel
  have HR:=hide hr
  have HF:=hide hfr
  by_cases hlt:j<f+c
  ·have hlt':(j:Int)<(f:Int)+(c:Int):=by omega
   have hj:j<n:=by omega
   have hj':(j:Int)<(n:Int):=by omega
   have c1:=hr.c1
   have cs:=hr.cs hj
   have cz:=hr.st.frozen j
   have HP:=hide (hr.putS j 5 (by decide))
   have es:=put2_end s (a:=f) (k:=j) 5 hj1 (fun _=>5) rfl
   rw [es]at HP
   clear hr hfr es
   generalize (put2 s f j fun _=>5) j=y at *
   go_wp2_with fail
   have HF1:Hid (Fr [sb,pb,mb] w (wr.setCell ⟨sb,j,none⟩ (.int .i64 5))):=HF.out.setCell (p:=⟨sb,j,none⟩) (.inl (by simp)) _
   generalize wr.setCell ⟨sb,j,none⟩ (.int .i64 5)=w1 at *
   clear c1 cs cz
   have HE:Hid (∀w',Rg w' tb sb pb mb W n (put2 s f (j+1) fun _=>5) (put2 t f j rt) m→Calls Tryz.prog 134 #[.pointer (some ⟨tb,0,none⟩),.int .i64 (j:Int)] w' fun e w''=>e=.returned (.int .i64 ((j*W+W:Nat):Int))∧∃q,w''=w'.drewN q):=fun w' h'=>end_at h' hj
   have c2:=HP.out.c2
   have ct:=HP.out.ct hj
   have cz:=HP.out.tops.frozen j
   have hbe:=HBE.out j (by omega) (by omega)
   have hrt:=HT.out j
   have HP2:=hide (HP.out.putT j (rt j) (fun _=>hbe))
   have es:=put2_end t (a:=f) (k:=j) (rt j) hj1 rt rfl
   rw [es]at HP2
   clear es hbe
   have hE4:=HP.out.base_le hj
   generalize put2 t f j rt j=T at *
   generalize j*W+W=E at *
   have HP1:=hide HP.out.drew
   generalize rt j=R at *
   have k2:(w1.setCell ⟨pb,j,none⟩ (.int .i64 R)).cell? ⟨tb,2,none⟩=some (.slice (some ⟨pb,0,none⟩) n n):=HP2.out.c2
   rw [Int.natCast_add B z]at hrt
   subst hrt
   have hmin:min ((B:Int)+(z:Int)) (E:Int)=if (E:Int)<(B:Int)+(z:Int) then (E:Int) else (B:Int)+(z:Int):=by rw [Int.min_def];split <;> split <;> omega
   go_region_held3 (fun w'=>w'.cell? ⟨tb,2,none⟩=some (.slice (some ⟨pb,0,none⟩) n n))
    (first | exact c2 | exact k2 | go_keep)
    (first | (go_at_call 134;refine(HE.out _ HP1.out).mono ?_;rintro e w' ⟨rfl,q,rfl⟩))
   go_wp2_with fail
   go_roundw
   case rel=>exact⟨j+1,by go_num,by omega,by omega,HP2.out.drewN _,(HF1.out.setCell (p:=⟨pb,j,none⟩) (.inl (by simp)) _).drewN _⟩
   case measure=>simp [intOf];omega
  ·have hlt':¬ (j:Int)<(f:Int)+(c:Int):=by omega
   obtain rfl:j=f+c:=by omega
   have hj:f<n:=by omega
   have hj':(f:Int)<(n:Int):=by omega
   have c1:=hr.c1
   have cs:=hr.cs hj
   have cz:=hr.st.frozen f
   have HP:=hide (hr.putS f 4 (by decide))
   clear hr hfr
   generalize (put2 s f (f+c) fun _=>5) f=y at *
   go_wp2_with fail
   go_ret2
   exact⟨rfl,HP.out,HF.out.setCell (p:=⟨sb,f,none⟩) (.inl (by simp)) _⟩
theorem run_full{w:World}{tb sb pb mb W n:Nat}{s t m:Nat→Int}(h:Rg w tb sb pb mb W n s t m)(hn1:1≤n){c:Nat}{z:Int}(hc:1≤c)(hcm:c≤9223372036854775807)(hzm:z≤9223372036854775807)(hz:((c:Int)-1)*(W:Int)<z∧z≤(c:Int)*(W:Int))(hl:NoRun s n c) :
  Calls Tryz.prog 80 #[.pointer (some ⟨tb,0,none⟩),.int .i64 (c:Int),.int .i64 z] w fun e w'=>e=.returned (.tuple #[.int .i64 0,.int .i64 6])∧w=w':=by
 have hcs:(c:Int)=spanE W z:=(spanE_iff h.pos hc _).2 hz
 have HS:Hid (Calls Tryz.prog 131 #[.pointer (some ⟨tb,0,none⟩),.int .i64 z] w fun e w'=>e=.returned (.int .i64 (c:Int))∧w=w'):=by
  have:=rspan_any h hn1 (z:=z) hzm
  rw [← hcs]at this
  exact this
 have HL:Hid (Calls Tryz.prog 132 #[.pointer (some ⟨tb,0,none⟩),.int .i64 (c:Int)] w fun e w'=>e=.returned (.int .i64 (-1))∧w=w'):=(lowrun_any h hc hcm).mono fun e w' ⟨x,he,hw,hx⟩=>by
  rcases hx with⟨f',rfl,hf'⟩ | ⟨hx,hno⟩
  ·exact absurd hf'.2.1 (hl f' hf'.1)
  ·rw [he,hx];exact⟨rfl,hw⟩
 clear h hl hz hcs
 go_enter Tryz.func80,Tryz.ntmps80
 go_wp2_with (first | (go_at_call 131;refine HS.out.mono ?_;rintro e w' ⟨rfl,rfl⟩) | (go_at_call 132;refine HL.out.mono ?_;rintro e w' ⟨rfl,rfl⟩))
 go_ret2
 exact⟨rfl,rfl⟩
section
variable {W w w' w'':World}{L:HL}{X:HX}{own own' own'':Nat→Nat}{h:HS}{x:HT}{s k:Nat}{F:List Nat}
theorem HpAt.run(H:HpAt W w L X own h x s k){c f z:Nat}(hc:1≤c)(hz1:(c-1)*h.W<z)(hz2:z≤c*h.W)(hl:LowRun h.s h.R c f) :
  Calls Tryz.prog 80 #[.pointer (some ⟨L.tb,0,none⟩),.int .i64 (c:Int),.int .i64 (z:Int)] w
   (HpPost W w L X own { h with s:=put1 (put2 h.s f (f+c) fun _=>5) f 4,t:=put2 h.t f (f+c) (runTop h.W f z) } x s k (.tuple #[.int .i64 (f:Int),.int .i64 0])):=by
 obtain⟨tg,FS,H,h1,h2⟩:=H
 refine(run_at H.rg hc hz1 hz2 hl).mono ?_
 rintro e w' ⟨rfl,hr,hf⟩
 have hF:∀b,b∈[L.sb,L.pb,L.mb]→own b=3:=fun b hb=>by
  simp at hb
  rcases hb with rfl | rfl | rfl
  ·exact H.o3.2.1
  ·exact H.o3.2.2.1
  ·exact H.o3.2.2.2
 exact⟨own,rfl,⟨tg,FS,H.regs hf hF hr,h1.trans hf (fun b hb=>.inr (h2 b (by rw [hF b hb];decide))),h2⟩,⟨_,hf,fun b hb=>by rw [hF b hb];decide⟩,fun _ _=>rfl⟩
theorem HpAt.claim_no(H:HpAt W w L X own h x s k){y:Int}(hy:Filled y)(hl:NoneFree h.s h.R) :
  Calls Tryz.prog 84 #[.pointer (some ⟨L.tb,0,none⟩),.int .i64 y] w fun e w'=>e=.returned (.tuple #[.int .i64 0,.int .i64 6])∧w=w':=by
 obtain⟨tg,FS,H,h1,h2⟩:=H
 exact claim_full H.rg hy hl
theorem HpAt.bump_no(H:HpAt W w L X own h x s k){j:Nat}(hj:j<h.R)(hy:Filled (h.s j)){c:Int}(hc:1≤c)(hfit:¬ h.t j+c≤((j*h.W+h.W:Nat):Int)) :
  Calls Tryz.prog 83 #[.pointer (some ⟨L.tb,0,none⟩),.int .i64 (j:Int),.int .i64 c] w fun e w'=>e=.returned (.tuple #[.int .i64 0,.int .i64 6])∧∃q,w'=w.drewN q:=by
 obtain⟨tg,FS,H,h1,h2⟩:=H
 exact bump_full H.rg hj hy hc hfit
theorem HpAt.run_no(H:HpAt W w L X own h x s k){c:Nat}{z:Int}(hc:1≤c)(hcm:c≤9223372036854775807)(hzm:z≤9223372036854775807)(hz:((c:Int)-1)*(h.W:Int)<z∧z≤(c:Int)*(h.W:Int))(hl:NoRun h.s h.R c) :
  Calls Tryz.prog 80 #[.pointer (some ⟨L.tb,0,none⟩),.int .i64 (c:Int),.int .i64 z] w fun e w'=>e=.returned (.tuple #[.int .i64 0,.int .i64 6])∧w=w':=by
 obtain⟨tg,FS,H,h1,h2⟩:=H
 exact run_full H.rg (by have:=H.dim.r2;omega) hc hcm hzm hz hl
theorem HpAt.offsPut(H:HpAt W w L X own h x s k){a z:Nat}(hz:1≤z)(hm:a+z≤h.n) :
  Calls Tryz.prog 36 #[.pointer (some ⟨X.ob,0,none⟩),.int .i64 (a:Int),.int .i64 (z:Int)] w (HpPost W w L X own h { x with O:=obj x.cw x.O a z } s k (.int .i64 0)):=by
 obtain⟨tg,FS,H,h1,h2⟩:=H
 refine(oput_at H.of hz (by rw [H.dim.wcards];have:=H.ok.nn;omega)).mono ?_
 rintro e w' ⟨rfl,hr,hf⟩
 have hF:∀b,b∈[X.oo]→own b=4:=fun b hb=>by
  simp at hb
  subst hb
  exact H.o4.2
 exact⟨own,rfl,⟨tg,FS,H.offs hf hF hr,h1.trans hf (fun b hb=>.inr (h2 b (by rw [hF b hb];decide))),h2⟩,⟨_,hf,fun b hb=>by rw [hF b hb];decide⟩,fun _ _=>rfl⟩
end
end Go.Proofs.YteacgfeiedcdiaaGreatDoor
