/- Package heap: the whole of a heap in memory, its parts apart from one another; what a geometry's numbers are to each table. -/
import Derived.Test.YteacgfeiedcdiaaGreatDoorPW10
import Derived.Test.YteacgfeiedcdiaaGreatDoorPW14
import Derived.Test.YteacgfeiedcdiaaGreatDoorPW16
import Derived.Test.YteacgfeiedcdiaaGreatDoorPW08
import Derived.Test.YteacgfeiedcdiaaGreatDoorPW01
import Derived.Test.YteacgfeiedcdiaaGreatDoorPW20
namespace Go.Proofs.YteacgfeiedcdiaaGreatDoor
set_option linter.unusedVariables false
set_option linter.unusedSimpArgs false
set_option maxRecDepth 100000
open Go.RowKit Go.Gl
structure GDims(g:Geo)(W R C P:Nat):Prop where
 rw:g.rw=(W:Int)
 cw:g.cw=(C:Int)
 rg:g.regions=(R:Int)
 wd:g.words=((R*W:Nat):Int)
 cd:g.cards=((R*P:Nat):Int)
 wp:W=P*C
 p1:1≤P
 c1:1≤C
 c8:8≤C
 r2:2≤R
 r3:R≤65536
 mx:R*W≤4194304
theorem geo_dims{g:Geo}{s k:Nat}(h:g.Ok s k):∃R,GDims g (2 ^ s) R (2 ^ k) (2 ^ (s-k)):=by
 obtain⟨R,hR⟩:=Int.eq_ofNat_of_zero_le h.regions0
 have hR:g.regions=(R:Int):=hR
 have hk:=h.ks
 have e1:2 ^ s=2 ^ (s-k)*2 ^ k:=by rw [← Nat.pow_add];congr 1;omega
 have hw:g.words=((R*2 ^ s:Nat):Int):=by rw [h.words,hR,pw_nat,Int.natCast_mul]
 have h8:8≤2 ^ k:=Nat.le_trans (show 8≤2 ^ 3 by decide) (Nat.pow_le_pow_right (by decide) h.k3)
 refine⟨R,⟨h.rw.trans (pw_nat s),h.cw.trans (pw_nat k),hR,hw,?_,e1,Nat.pos_of_ne_zero (by simp),by omega,h8,by have:=h.r2;omega,by have:=h.r65536;omega,by have:=h.wmax;omega⟩⟩
 have hc:=h.cards
 rw [hw,e1,← Nat.mul_assoc,pw_nat,Int.natCast_mul (R*2 ^ (s-k))]at hc
 exact Int.eq_of_mul_eq_mul_right (by
                   have:0<2 ^ k:=by omega
                   omega) hc
section
variable {g:Geo}{W R cw per:Nat}
theorem GDims.pm(h:GDims g W R cw per):R*per≤4194304:=by
 have h1:=h.mx
 rw [h.wp,← Nat.mul_assoc]at h1
 exact Nat.le_trans (Nat.le_mul_of_pos_right _ h.c1) h1
theorem GDims.wpos(h:GDims g W R cw per):1≤W:=by rw [h.wp];exact Nat.mul_pos h.p1 h.c1
theorem GDims.wcards(h:GDims g W R cw per):cw*(R*per)=R*W:=by rw [h.wp,Nat.mul_comm cw,Nat.mul_assoc]
theorem GDims.cwm(h:GDims g W R cw per):cw≤4194304:=by
 have h1:=h.mx
 rw [← h.wcards]at h1
 exact Nat.le_trans (Nat.le_mul_of_pos_right _ (Nat.mul_pos (by have:=h.r2;omega) h.p1)) h1
theorem GDims.offs(h:GDims g W R cw per):OkGeo g cw (R*per):=
 ⟨h.c1,by have:=h.cwm;omega,by rw [h.wcards];exact h.mx,by rw [h.wcards];exact h.wd,h.cw,h.cd⟩
theorem GDims.regs(h:GDims g W R cw per):OkGeo7 g W R:=⟨by have:=h.r2;omega,h.r3,h.wpos,h.mx,h.wd,h.rw,h.rg⟩
theorem GDims.sets(h:GDims g W R cw per):OkG g per R:=by
 have hd:Dim per R:=⟨by have:=h.r2;omega,h.r3,h.p1,h.pm⟩
 have hc:=h.c1
 have hr:=h.r2
 refine⟨hd,h.rg,h.cd,?_,by rw [h.cw];omega,?_,?_,?_,?_,?_,?_,?_,?_⟩
 ·rw [h.rw,h.cw,h.wp,Int.tdiv_eq_ediv_of_nonneg (by omega),← Int.natCast_ediv,Nat.mul_div_cancel _ (by omega)]
 ·rw [h.rg];omega
 ·rw [h.rg];have:=h.r3;omega
 ·rw [h.cw];omega
 ·rw [h.rw];have:=h.wpos;omega
 ·rw [h.rw,h.rg]
  have h1:W≤4194304 / R:=(Nat.le_div_iff_mul_le (by omega)).2 (by rw [Nat.mul_comm];exact h.mx)
  have h2:(4194304:Int) / (R:Int)=((4194304 / R:Nat):Int):=by rw [Int.natCast_ediv];rfl
  rw [h2]
  omega
 ·rw [h.rw,h.cw,h.wp,← Int.natCast_emod,Nat.mul_mod_left];rfl
 ·rw [h.wd,h.rg,h.rw,Int.natCast_mul]
 ·rw [h.cd,h.wd,h.cw,h.wp,← Nat.mul_assoc,← Int.natCast_ediv,Nat.mul_div_cancel _ (by omega)]
end
structure HX where
 ob:Nat
 oo:Nat
 cb:Nat
 cs:Nat
 cr:Nat
 qb:Nat
 qF:List Nat
 zb:Nat
 mb:Nat
 mr:Nat
structure HT where
 cw:Nat
 per:Nat
 O:Nat→Int
 C:List Nat
 qm:Nat
 qc:List Int
 ql:Nat→List Int
 σ:RS
 M:List Nat
structure Hw(w:World)(L:HL)(X:HX)(tg:Tg)(own:Nat→Nat)(FS:Nat→List Nat)(h:HS)(x:HT)(s k:Nat):Prop where
 st:Blk w L.hb 50 (L.cells h.g h.T)
 ar:∃c,Ar w L.ab L.aw h.n h.f c
 rg:Rg w L.tb L.sb L.pb L.mb h.W h.R h.s h.t L.m
 row:Lr w 88 L.rA h.T L.rc L.rG (stkV L.S h.T)
 stk:∀i,i<h.T→HkP w (L.S i) (FS i) L.B (h.st i)
 buf:Blk w L.bb 214 (bufV h.T h.bx h.be)
 ok:h.Ok s k
 tab:Tab w
 dim:GDims h.g h.W h.R x.cw x.per
 of:Of w X.ob X.oo x.cw (h.R*x.per) x.O
 ct:Ct w X.cb X.cs X.cr (h.R*x.per) x.C
 qu:Qq w X.qb X.qF h.T x.qm x.qc x.ql
 se:SAt w tg X.zb x.per h.R x.σ
 ma:BSet w X.mb X.mr h.n x.M
 vo:L.vo=.pointer (some ⟨X.ob,0,none⟩)
 vc:L.vc=.pointer (some ⟨X.cb,0,none⟩)
 vq:L.vq=.pointer (some ⟨X.qb,0,none⟩)
 vs:L.vs=.pointer (some ⟨X.zb,0,none⟩)
 vm:L.vm=.pointer (some ⟨X.mb,0,none⟩)
 o1:own L.hb=1∧own L.bb=1∧∀b,b∈L.rG→own b=1
 o2:own L.ab=2∧own L.aw=2
 o3:own L.tb=3∧own L.sb=3∧own L.pb=3∧own L.mb=3
 o4:own X.ob=4∧own X.oo=4
 o5:own X.cb=5∧own X.cs=5∧own X.cr=5
 o6:∀b,b∈X.qF→own b=6
 o7:∀b,(tg b).1≠0→own b=7
 o8:own X.mb=8∧own X.mr=8
 o100:∀i,i<h.T→∀b,b∈FS i→own b=100+i
 o0:own 0=0
 lt:∀b,own b≠0→b<w.heap.size
section
variable {w w':World}{L:HL}{X:HX}{tg:Tg}{own:Nat→Nat}{FS:Nat→List Nat}{h:HS}{x:HT}{s k:Nat}
theorem Hw.hr(H:Hw w L X tg own FS h x s k):Hr w L h s k:=⟨H.st,H.ar,H.rg,H.row,fun i hi=>⟨FS i,H.stk i hi⟩,H.buf,H.ok,H.tab⟩
end
abbrev ptr(b:Nat):Value:=.pointer (some ⟨b,0,none⟩)
def nwCells(c:Cfg)(g:Geo)(T bb:Nat)(v0 v1 v2 v3 v4 v5 v6 vR:Value):Array Value:=
 #[.int .i64 c.shift,.int .i64 c.regions,.int .i64 c.cardShift,.int .i64 c.threads,.int .i64 c.roots,.int .i64 c.refiners,.int .i64 c.markers,.int .i64 c.young,.int .i64 c.tenure,.int .i64 c.queue,.int .i64 c.stack,.int .i64 c.budget,.int .i64 c.percent,.int .i64 c.fail,
  .int .i64 g.words,.int .i64 g.rw,.int .i64 g.cw,.int .i64 g.regions,.int .i64 g.cards,.int .i64 g.max,
  v0,v1,v2,v3,v4,v5,v6,vR,.slice (some ⟨bb,0,none⟩) T T]
structure NwSt(w:World)(cb gb hb bb T:Nat)(c:Cfg)(g:Geo)(cs:Array Value):Prop where
 c:Blk w cb 23 c.cells
 g:Blk w gb 39 g.cells
 h:Blk w hb 50 cs
 b:Blk w bb 214 (bufV T (fun _=>0) (fun _=>0))
 t:Tab w
 n:hb≠0
section
variable {w w':World}{cb gb hb bb T:Nat}{c:Cfg}{g:Geo}{cs:Array Value}{F:List Nat}
theorem NwSt.fr(h:NwSt w cb gb hb bb T c g cs)(hf:Fr F w w')(h1:cb∉F)(h2:gb∉F)(h3:hb∉F)(h4:bb∉F)(h5:0∉F):NwSt w' cb gb hb bb T c g cs:=⟨h.c.fr hf h1,h.g.fr hf h2,h.h.fr hf h3,h.b.fr hf h4,h.t.fr hf h5,h.n⟩
theorem NwSt.fr0(h:NwSt w cb gb hb bb T c g cs)(hf:Fr [] w w'):NwSt w' cb gb hb bb T c g cs:=h.fr hf (by simp) (by simp) (by simp) (by simp) (by simp)
theorem NwSt.put(h:NwSt w cb gb hb bb T c g cs)(k:Nat)(v:Value):NwSt (w.setCell ⟨hb,k,none⟩ v) cb gb hb bb T c g (cs.setIfInBounds k v):=by
 have hf:Fr [hb] w (w.setCell ⟨hb,k,none⟩ v):=(Fr.refl _ _).setCell (p:=⟨hb,k,none⟩) (.inl (by simp)) _
 refine⟨h.c.fr hf ?_,h.g.fr hf ?_,h.h.put k v,h.b.fr hf ?_,h.t.fr hf (by simpa using h.n.symm),h.n⟩
 ·simpa using h.c.apart h.h (by decide)
 ·simpa using h.g.apart h.h (by decide)
 ·simpa using h.b.apart h.h (by decide)
end
structure NwLp(w0 w:World)(cb gb hb bb T:Nat)(c:Cfg)(g:Geo)(v0 v1 v2 v3 v4 v5 v6:Value)(B k:Nat)(rA:Option Addr)(rc:Nat)(rG:List Nat)(S:Nat→Nat)(FS:Nat→List Nat)(f:Nat→Nat):Prop where
 st:NwSt w cb gb hb bb T c g (nwCells c g T bb v0 v1 v2 v3 v4 v5 v6 (.slice rA k rc))
 row:Lr w 88 rA k rc rG (stkV S k)
 stk:∀i,i<k→HkP w (S i) (FS i) B []
 oG:∀b,b∈rG→f b=1
 oF:∀i,i<k→∀b,b∈FS i→f b=100+i
 ofn:∀b,f b≠0→w0.heap.size≤b∧b<w.heap.size
 fr:Fr [hb] w0 w
 h0:hb<w0.heap.size
 n0:0<w0.heap.size
def setN{α:Type}(f:Nat→α)(k:Nat)(v:α):Nat→α:=fun i=>if i=k then v else f i
theorem setN_at{α:Type}(f:Nat→α)(k:Nat)(v:α):setN f k v k=v:=if_pos rfl
theorem setN_ne{α:Type}(f:Nat→α){k i:Nat}(v:α)(h:i≠k):setN f k v i=f i:=if_neg h
theorem stkV_succ(S:Nat→Nat)(k s:Nat):stkV (setN S k s) (k+1)=stkV S k++[ptr s]:=by
 unfold stkV
 rw [List.range_succ,List.map_append]
 congr 1
 ·refine List.map_congr_left fun i hi=>?_
  rw [setN_ne _ _ (by have:=List.mem_range.1 hi;omega)]
 ·simp [setN_at]
theorem NwSt.begin{w:World}{cb gb hb bb T:Nat}{c:Cfg}{g:Geo}{v0 v1 v2 v3 v4 v5 v6:Value}{B:Nat}(h:NwSt w cb gb hb bb T c g (nwCells c g T bb v0 v1 v2 v3 v4 v5 v6 (.slice none 0 0))):NwLp w w cb gb hb bb T c g v0 v1 v2 v3 v4 v5 v6 B 0 none 0 [] (fun _=>0) (fun _=>[]) (fun _=>0):=
 ⟨h,Lr.nil _ _,fun i hi=>absurd hi (by omega),fun b hb=>(by cases hb),fun i hi=>absurd hi (by omega),fun b hb=>absurd rfl hb,Fr.refl _ _,h.h.lt,lt_of_cell (h.t 0 (by decide))⟩
theorem NwLp.add{w0 w w1 w2:World}{cb gb hb bb T:Nat}{c:Cfg}{g:Geo}{v0 v1 v2 v3 v4 v5 v6:Value}{B k:Nat}{rA:Option Addr}{rc:Nat}{rG:List Nat}{S:Nat→Nat}{FS:Nat→List Nat}{f:Nat→Nat}
  (h:NwLp w0 w cb gb hb bb T c g v0 v1 v2 v3 v4 v5 v6 B k rA rc rG S FS f) {s:Nat} {F:List Nat} (hf1:Fr [] w w1) (hs:HkP w1 s F B []) (hn:∀x,x∈F→w.heap.size≤x) {o:Obj} {A':Option Addr} {c':Nat} {G':List Nat}
  (hr:Lr w2 88 A' (k+1) c' G' (stkV S k++[ptr s])) (hf2:Fr rG (w1.alloc o) w2) (hG:∀x,x∈G'→x∈rG∨x=(w1.alloc o).heap.size) :
  ∃S' FS' f',NwLp w0 (w2.setCell ⟨hb,27,none⟩ (.slice A' (k+1) c')) cb gb hb bb T c g v0 v1 v2 v3 v4 v5 v6 B (k+1) A' c' G' S' FS' f':=by
 have hf3:Fr [hb] w2 (w2.setCell ⟨hb,27,none⟩ (.slice A' (k+1) c')):=(Fr.refl _ _).setCell (p:=⟨hb,27,none⟩) (.inl (by simp)) _
 have hfa:Fr [] w (w1.alloc o):=hf1.alloc _
 have s1:=hf1.size
 have s2:=hf2.size
 have s3:=hf3.size
 have s0:=h.fr.size
 have h0:=h.h0
 have n0:=h.n0
 simp at s2
 have rlt:∀x,x∈rG→w0.heap.size≤x∧x<w.heap.size:=fun x hx=>h.ofn x (by rw [h.oG x hx];decide)
 have st2:NwSt w2 cb gb hb bb T c g (nwCells c g T bb v0 v1 v2 v3 v4 v5 v6 (.slice rA k rc)):=
  (h.st.fr0 hfa).fr hf2 (h.row.apart h.st.c (by decide)) (h.row.apart h.st.g (by decide)) (h.row.apart h.st.h (by decide)) (h.row.apart h.st.b (by decide)) (fun hx=>by have:=(rlt _ hx).1;omega)
 have Flt:=hs.lt
 have e2:(w1.alloc o).heap.size=w1.heap.size+1:=by simp
 rw [e2]at hG
 refine⟨setN S k s,setN FS k F,fun x=>if x<w.heap.size then f x else if x∈F then 100+k else if x∈G' then 1 else 0,st2.put 27 _,?_,fun i hi=>?_,fun b hb'=>?_,fun i hi b hb'=>?_,fun b hb'=>?_,?_,h0,n0⟩
 ·rw [stkV_succ]
  refine hr.fr hf3 fun x hx hx'=>?_
  simp at hx'
  subst hx'
  rcases hG x hx with h1 | h1
  ·have:=(rlt _ h1).1;omega
  ·omega
 ·by_cases e:i=k
  ·subst e
   rw [setN_at,setN_at]
   refine(((hs.fr0 ((Fr.refl _ _).alloc o)).fr hf2 fun x hx hx'=>?_)).fr hf3 fun x hx hx'=>?_
   ·have:=hn x hx
    have:=(rlt _ hx').2
    omega
   ·simp at hx'
    have:=hn x hx
    omega
  ·rw [setN_ne _ _ e,setN_ne _ _ e]
   have hi':i<k:=by omega
   refine(((h.stk i hi').fr0 hfa).fr hf2 fun x hx hx'=>?_).fr hf3 fun x hx hx'=>?_
   ·have h1:=h.oF i hi' x hx
    rw [h.oG x hx']at h1
    omega
   ·simp at hx'
    have:=(h.ofn x (by rw [h.oF i hi' x hx];omega)).1
    omega
 ·rcases hG b hb' with h1 | h1
  ·show(if b<w.heap.size then f b else _)=1
   rw [if_pos (rlt b h1).2]
   exact h.oG b h1
  ·show(if b<w.heap.size then f b else if b∈F then 100+k else if b∈G' then 1 else 0)=1
   rw [if_neg (by omega),if_neg (fun hx=>by have:=Flt b hx;omega),if_pos hb']
 ·by_cases e:i=k
  ·subst e
   rw [setN_at]at hb'
   show(if b<w.heap.size then f b else if b∈F then 100+i else if b∈G' then 1 else 0)=100+i
   rw [if_neg (by have:=hn b hb';omega),if_pos hb']
  ·rw [setN_ne _ _ e]at hb'
   have hi':i<k:=by omega
   have h1:=h.oF i hi' b hb'
   show(if b<w.heap.size then f b else if b∈F then 100+k else if b∈G' then 1 else 0)=100+i
   rw [if_pos ((h.ofn b (by rw [h1];omega)).2)]
   exact h1
 ·have hb2:(if b<w.heap.size then f b else if b∈F then 100+k else if b∈G' then 1 else 0)≠0:=hb'
  by_cases e1:b<w.heap.size
  ·rw [if_pos e1]at hb2
   have:=h.ofn b hb2
   omega
  ·rw [if_neg e1]at hb2
   by_cases e3:b∈F
   ·have:=Flt b e3
    omega
   ·rw [if_neg e3]at hb2
    by_cases e4:b∈G'
    ·have:=hr.lt b e4
     omega
    ·rw [if_neg e4]at hb2
     exact absurd rfl hb2
 ·exact((h.fr.trans hfa (fun x hx=>by cases hx)).trans hf2 (fun x hx=>.inr (rlt x hx).1)).trans_same hf3
def HSn(g:Geo)(W R n T:Nat):HS:=⟨g,W,R,n,fun _=>0,fun _=>0,fun k=>((k*W:Nat):Int),T,fun _=>0,fun _=>0,fun _=>[]⟩
def HTn(C P R qm nW:Nat):HT:=⟨C,P,fun _=>0,List.replicate ((R*P+63) / 64) 0,qm,[],fun _=>[],freshS,List.replicate ((nW+63) / 64) 0⟩
theorem HSn.ok{g:Geo}{W R C P s k T:Nat}(h:g.Ok s k)(d:GDims g W R C P)(hT:T≤64):(HSn g W R (R*W) T).Ok s k:=
 ⟨h,d.rw,d.rg,d.wd,rfl,fun i=>(by show(0:Nat)<18446744073709551616;decide),fun i hi=>⟨(by show(0:Int)≤0;decide),(by show(0:Int)≤5;decide)⟩,fun i hi=>⟨Int.le_refl _,(by show((i*W:Nat):Int)≤((i*W+W:Nat):Int);omega)⟩,hT,fun i hi=>⟨Int.le_refl _,Int.le_refl _,(by show(0:Int)≤4194304;decide)⟩,fun i hi r hr=>(by cases hr),fun i hi=>(by show 0≤64;decide)⟩
def ownR(a0 a1 a2 a3 a4 a5 a6 a7 a8:Nat)(f:Nat→Nat)(x:Nat):Nat:=
 if x<a0 then 0 else if x<a1 then 1 else if x<a2 then 2 else if x<a3 then 3 else if x<a4 then 4 else if x<a5 then 5 else if x<a6 then 6 else if x<a7 then 7 else if x<a8 then 8 else f x
section
variable {a0 a1 a2 a3 a4 a5 a6 a7 a8 x:Nat}{f:Nat→Nat}
theorem ownR1(h:a0≤x∧x<a1):ownR a0 a1 a2 a3 a4 a5 a6 a7 a8 f x=1:=by unfold ownR;rw [if_neg (by omega),if_pos (by omega)]
theorem ownR2(m:a0≤a1)(h:a1≤x∧x<a2):ownR a0 a1 a2 a3 a4 a5 a6 a7 a8 f x=2:=by unfold ownR;rw [if_neg (by omega),if_neg (by omega),if_pos (by omega)]
theorem ownR3(m:a0≤a1∧a1≤a2)(h:a2≤x∧x<a3):ownR a0 a1 a2 a3 a4 a5 a6 a7 a8 f x=3:=by unfold ownR;rw [if_neg (by omega),if_neg (by omega),if_neg (by omega),if_pos (by omega)]
theorem ownR4(m:a0≤a1∧a1≤a2∧a2≤a3)(h:a3≤x∧x<a4):ownR a0 a1 a2 a3 a4 a5 a6 a7 a8 f x=4:=by unfold ownR;rw [if_neg (by omega),if_neg (by omega),if_neg (by omega),if_neg (by omega),if_pos (by omega)]
theorem ownR5(m:a0≤a1∧a1≤a2∧a2≤a3∧a3≤a4)(h:a4≤x∧x<a5):ownR a0 a1 a2 a3 a4 a5 a6 a7 a8 f x=5:=by unfold ownR;rw [if_neg (by omega),if_neg (by omega),if_neg (by omega),if_neg (by omega),if_neg (by omega),if_pos (by omega)]
theorem ownR6(m:a0≤a1∧a1≤a2∧a2≤a3∧a3≤a4∧a4≤a5)(h:a5≤x∧x<a6):ownR a0 a1 a2 a3 a4 a5 a6 a7 a8 f x=6:=by unfold ownR;rw [if_neg (by omega),if_neg (by omega),if_neg (by omega),if_neg (by omega),if_neg (by omega),if_neg (by omega),if_pos (by omega)]
theorem ownR7(m:a0≤a1∧a1≤a2∧a2≤a3∧a3≤a4∧a4≤a5∧a5≤a6)(h:a6≤x∧x<a7):ownR a0 a1 a2 a3 a4 a5 a6 a7 a8 f x=7:=by unfold ownR;rw [if_neg (by omega),if_neg (by omega),if_neg (by omega),if_neg (by omega),if_neg (by omega),if_neg (by omega),if_neg (by omega),if_pos (by omega)]
theorem ownR8(m:a0≤a1∧a1≤a2∧a2≤a3∧a3≤a4∧a4≤a5∧a5≤a6∧a6≤a7)(h:a7≤x∧x<a8):ownR a0 a1 a2 a3 a4 a5 a6 a7 a8 f x=8:=by unfold ownR;rw [if_neg (by omega),if_neg (by omega),if_neg (by omega),if_neg (by omega),if_neg (by omega),if_neg (by omega),if_neg (by omega),if_neg (by omega),if_pos (by omega)]
theorem ownR9(m:a0≤a1∧a1≤a2∧a2≤a3∧a3≤a4∧a4≤a5∧a5≤a6∧a6≤a7∧a7≤a8)(h:a8≤x):ownR a0 a1 a2 a3 a4 a5 a6 a7 a8 f x=f x:=by unfold ownR;rw [if_neg (by omega),if_neg (by omega),if_neg (by omega),if_neg (by omega),if_neg (by omega),if_neg (by omega),if_neg (by omega),if_neg (by omega),if_neg (by omega)]
theorem ownR0(h:ownR a0 a1 a2 a3 a4 a5 a6 a7 a8 f x≠0):a0≤x∧(x<a1∨x<a2∨x<a3∨x<a4∨x<a5∨x<a6∨x<a7∨x<a8∨f x≠0):=by
 unfold ownR at h
 by_cases h0:x<a0
 ·rw [if_pos h0]at h;exact absurd rfl h
 refine⟨by omega,?_⟩
 by_cases e:x<a1∨x<a2∨x<a3∨x<a4∨x<a5∨x<a6∨x<a7∨x<a8
 ·omega
 ·rw [if_neg (by omega),if_neg (by omega),if_neg (by omega),if_neg (by omega),if_neg (by omega),if_neg (by omega),if_neg (by omega),if_neg (by omega),if_neg (by omega)]at h
  simp [h]
end
def HNewP(w:World)(c:Cfg)(g:Geo)(W R n T C P qm B s k:Nat)(e:Ending)(w':World):Prop:=
 ∃L X tg own FS,e=.returned (.tuple #[.pointer (some ⟨L.hb,0,none⟩),.int .i64 0])∧Hw w' L X tg own FS (HSn g W R n T) (HTn C P R qm n) s k∧Fr [] w w'∧(∀b,own b≠0→w.heap.size≤b)∧L.B=B∧L.cfg=c
theorem nw_end{w w3 w4 w5 w6 w7 w8 w9 w10 wr:World}{c:Cfg}{g:Geo}{W R C P nW nC T B qm s k cb gb hb bb ab aw tb sb pb mb ob oo kb ks kr qb zb mk mr:Nat}{qF:List Nat}{tg:Tg}
  {rA:Option Addr} {rc:Nat} {rG:List Nat} {S:Nat→Nat} {FS:Nat→List Nat} {f:Nat→Nat}
  (tab:Tab w) (dm:GDims g W R C P) (eC:nC=R*P) (ok:(HSn g W R nW T).Ok s k)
  (h0:NwSt w3 cb gb hb bb T c g (nwCells c g T bb (.pointer none) (.pointer none) (.pointer none) (.pointer none) (.pointer none) (.pointer none) (.pointer none) (.slice none 0 0))) (f0:Fr [] w w3) (m0:w.heap.size≤hb∧w.heap.size≤bb)
  (hA:Ar w4 ab aw nW (fun _=>0) 0) (fA:Fr [hb] w3 w4) (mA:w3.heap.size≤ab∧w3.heap.size≤aw)
  (hR:Rg w5 tb sb pb mb W R (fun _=>0) (fun k=>((k*W:Nat):Int)) (fun k=>((k*W:Nat):Int))) (fR:Fr [hb] w4 w5) (mR:w4.heap.size≤tb∧w4.heap.size≤sb∧w4.heap.size≤pb∧w4.heap.size≤mb)
  (hO:Of w6 ob oo C (R*P) (fun _=>0)) (fO:Fr [hb] w5 w6) (mO:w5.heap.size≤ob∧w5.heap.size≤oo)
  (hC:Ct w7 kb ks kr nC (List.replicate ((nC+63) / 64) 0)) (fC:Fr [hb] w6 w7) (mC:w6.heap.size≤kb∧w6.heap.size≤ks∧w6.heap.size≤kr)
  (hQ:Qq w8 qb qF T qm [] (fun _=>[])) (fQ:Fr [hb] w7 w8) (mQ:∀x,x∈qF→w7.heap.size≤x)
  (hS:SAt w9 tg zb P R freshS) (fS:Fr [hb] w8 w9) (mS:∀b,b<w8.heap.size→(tg b).1=0)
  (hM:BSet w10 mk mr nW (List.replicate ((nW+63) / 64) 0)) (fM:Fr [hb] w9 w10) (mM:w9.heap.size≤mk∧w9.heap.size≤mr)
  (hL:NwLp w10 wr cb gb hb bb T c g (ptr ab) (ptr tb) (ptr ob) (ptr kb) (ptr qb) (ptr zb) (ptr mk) B T rA rc rG S FS f) :
  HNewP w c g W R nW T C P qm B s k (.returned (.tuple #[ptr hb,.int .i64 0])) wr:=by
 subst eC
 have h3:=h0.h.lt
 have h3b:=h0.b.lt
 have s0:=f0.size
 have s3:=fA.size
 have s4:=fR.size
 have s5:=fO.size
 have s6:=fC.size
 have s7:=fQ.size
 have s8:=fS.size
 have s9:=fM.size
 have s10:=hL.fr.size
 have F9:Fr [hb] w9 wr:=fM.trans_same hL.fr
 have F8:Fr [hb] w8 wr:=fS.trans_same F9
 have F7:Fr [hb] w7 wr:=fQ.trans_same F8
 have F6:Fr [hb] w6 wr:=fC.trans_same F7
 have F5:Fr [hb] w5 wr:=fO.trans_same F6
 have F4:Fr [hb] w4 wr:=fR.trans_same F5
 have F3:Fr [hb] w3 wr:=fA.trans_same F4
 have nb:∀ {x:Nat},hb<x→x∉[hb]:=fun hx h=>by simp at h;omega
 have eA:=hA.set.lt
 have eA2:=hA.row.lt
 have eR1:=hR.set.lt
 have eR2:=hR.st.lt
 have eR3:=hR.tops.lt
 have eR4:=hR.tams.lt
 have eO1:=hO.set.lt
 have eO2:=hO.row.lt
 have eC1:=hC.tab.lt
 have eC2:=hC.set.set.lt
 have eC3:=hC.set.row.lt
 have eQ:=hQ.lt
 have eS:∀b,(tg b).1≠0→w8.heap.size≤b∧b<w9.heap.size:=fun b hb'=>⟨by
  rcases Nat.lt_or_ge b w8.heap.size with h1 | h1
  ·exact absurd (mS b h1) hb'
  ·exact h1,hS.tok b hb'⟩
 have eM1:=hM.set.lt
 have eM2:=hM.row.lt
 have rlt:∀x,x∈rG→w10.heap.size≤x:=fun x hx=>(hL.ofn x (by rw [hL.oG x hx];decide)).1
 refine⟨⟨hb,ab,aw,tb,sb,pb,mb,ptr ob,ptr kb,ptr qb,ptr zb,ptr mk,c,fun k=>((k*W:Nat):Int),rA,rc,rG,S,bb,B⟩,⟨ob,oo,kb,ks,kr,qb,qF,zb,mk,mr⟩,tg,
  ownR w.heap.size w3.heap.size w4.heap.size w5.heap.size w6.heap.size w7.heap.size w8.heap.size w9.heap.size w10.heap.size f,FS,rfl,?_,?_,fun b hb'=>(ownR0 hb').1,rfl,rfl⟩
 ·refine⟨hL.st.h,⟨0,hA.fr F4 (nb (by omega)) (nb (by omega))⟩,hR.fr F5 (nb (by omega)) (nb (by omega)) (nb (by omega)) (nb (by omega)),hL.row,hL.stk,hL.st.b,ok,hL.st.t,dm,
   hO.fr F6 (nb (by omega)) (nb (by omega)),hC.fr F7 (nb (by omega)) (nb (by omega)) (nb (by omega)),hQ.fr F8 (fun x hx=>nb (by have:=mQ x hx;omega)),hS.fr F9 (fun b hb'=>by simp at hb';exact mS b (by omega)),hM.fr hL.fr (nb (by omega)) (nb (by omega)),
   rfl,rfl,rfl,rfl,rfl,⟨ownR1 ⟨m0.1,h3⟩,ownR1 ⟨m0.2,h3b⟩,fun b hb'=>(ownR9 (by omega) (rlt b hb')).trans (hL.oG b hb')⟩,⟨ownR2 (by omega) ⟨mA.1,eA⟩,ownR2 (by omega) ⟨mA.2,eA2⟩⟩,⟨ownR3 (by omega) ⟨mR.1,eR1⟩,ownR3 (by omega) ⟨mR.2.1,eR2⟩,ownR3 (by omega) ⟨mR.2.2.1,eR3⟩,ownR3 (by omega) ⟨mR.2.2.2,eR4⟩⟩,
   ⟨ownR4 (by omega) ⟨mO.1,eO1⟩,ownR4 (by omega) ⟨mO.2,eO2⟩⟩,⟨ownR5 (by omega) ⟨mC.1,eC1⟩,ownR5 (by omega) ⟨mC.2.1,eC2⟩,ownR5 (by omega) ⟨mC.2.2,eC3⟩⟩,fun b hb'=>ownR6 (by omega) ⟨mQ b hb',eQ b hb'⟩,fun b hb'=>ownR7 (by omega) (eS b hb'),⟨ownR8 (by omega) ⟨mM.1,eM1⟩,ownR8 (by omega) ⟨mM.2,eM2⟩⟩,
   fun i hi b hb'=>(ownR9 (by omega) (hL.ofn b (by rw [hL.oF i hi b hb'];omega)).1).trans (hL.oF i hi b hb'),(by unfold ownR;exact if_pos (lt_of_cell (tab 0 (by decide)))),fun b hb'=>?_⟩
  have h2:=(ownR0 hb').2
  by_cases e:f b=0
  ·omega
  ·exact(hL.ofn b e).2
 ·exact f0.trans F3 (fun x hx=>by simp at hx;right;omega)
end Go.Proofs.YteacgfeiedcdiaaGreatDoor
