/- Several texts joined (pack.py): P1 Rn. -/
import Derived.Test.YteacgfeiedcdiaaGreatDoorPW06
import Derived.Test.YteacgfeiedcdiaaGreatDoorPW03
import Derived.Test.YteacgfeiedcdiaaGreatDoorPW01
import Derived.Test.YteacgfeiedcdiaaGreatDoorPW00
namespace Go.Proofs.YteacgfeiedcdiaaGreatDoor
set_option linter.unusedVariables false
set_option maxRecDepth 100000
open Go.RowKit Go.Gl
theorem pbounds_any{w:World}{ab aw n:Nat}{f:Nat→Nat}{c:Int}(h:Ar w ab aw n f c)(a b:Int) :
  Calls Tryz.prog 155 #[.pointer (some ⟨ab,0,none⟩),.int .i64 a,.int .i64 b] w fun e w'=>e=.returned (.int .i64 (bndE n a b))∧w=w':=by
 have HL:=hide (alen_any h)
 have HW:=hide (bnd_ways n a b)
 clear h
 rcases HW.out with⟨A,B,rfl,rfl,h1,h2,he⟩ | ⟨h1,he⟩ | ⟨h1,h2,he⟩ | ⟨h1,h2,h3,he⟩
 ·rw [he]
  clear he
  have c1:¬ ((B:Int)<(A:Int)):=by omega
  have c2:¬ ((n:Int)<(B:Int)):=by omega
  go_enter Tryz.func155,Tryz.ntmps155
  go_wp2_with (go_at_call 157;refine HL.out.mono ?_;rintro e w' ⟨rfl,rfl⟩)
  go_ret
  exact⟨rfl,rfl⟩
 all_goals
  rw [he]
  clear he
  go_enter Tryz.func155,Tryz.ntmps155
  go_wp2_with (go_at_call 157;refine HL.out.mono ?_;rintro e w' ⟨rfl,rfl⟩)
  go_ret
  exact⟨rfl,rfl⟩
def inRowB(k:Int):Bool:=decide (k=1)||decide (k=2)
theorem pinRow_any(h:Hd)(w:World):Calls Tryz.prog 156 #[h.val] w fun e w'=>e=.returned (.bool (inRowB h.kind))∧Fr [] w w':=by
 obtain⟨k,s,p,a,t⟩:=h
 unfold Hd.val
 by_cases h1:k=1
 ·subst h1
  go_enter Tryz.func156,Tryz.ntmps156
  go_wp2
  go_ret
  exact⟨rfl,(Fr.refl _ _).alloc _⟩
 ·by_cases h2:k=2
  ·subst h2
   go_enter Tryz.func156,Tryz.ntmps156
   go_wp2
   go_ret
   exact⟨rfl,(Fr.refl _ _).alloc _⟩
  ·have HE:Hid (false=inRowB k):=by show _=_;unfold inRowB;simp [h1,h2]
   go_enter Tryz.func156,Tryz.ntmps156
   go_wp2
   go_ret
   exact⟨ret_bool (by rw [← HE.out];simp;omega),(Fr.refl _ _).alloc _⟩
def AtPost(w:World)(ab aw n:Nat)(f:Nat→Nat)(i:Int)(e:Ending)(w':World):Prop:=
 ∃c',e=.returned (.tuple #[(atH n f i).val,.int .i64 (atE n f i)])∧Ar w' ab aw n f c'∧Fr [ab] w w'
def AtPostC(w:World)(ab aw n:Nat)(f:Nat→Nat)(c i:Int)(e:Ending)(w':World):Prop:=
 ∃c',e=.returned (.tuple #[(atH n f i).val,.int .i64 (atE n f i)])∧Ar w' ab aw n f c'∧Fr [ab] w w'∧(c'=c∨c'=wrap64 (c+1))
set_option maxHeartbeats 3200000 in
theorem pat_anyC{w:World}{ab aw n:Nat}{f:Nat→Nat}{c:Int}(h:Ar w ab aw n f c)(i:Int) :
  Calls Tryz.prog 146 #[.pointer (some ⟨ab,0,none⟩),.int .i64 i] w (AtPostC w ab aw n f c i):=by
 have HA:Hid (Ar (w.alloc (.cells Hd.zero.cells 157)) ab aw n f c):=h.fr ((Fr.refl [] _).alloc _) (by simp) (by simp)
 have q1:=h.set.lt
 have HQ:Hid (ab<w.heap.size∧aw<w.heap.size):=⟨q1,h.row.lt⟩
 clear q1
 unfold AtPostC
 rcases at_ways n f i with⟨k,rfl,hk,h1,h2,h3,h4⟩ | ⟨k,rfl,hk,h1,h2,h3,h4⟩ | ⟨k,rfl,hk,h1,h2,h3,h4,h5⟩ | ⟨hi,h1,h2⟩
 iterate 2
  ·obtain⟨x,hx⟩:∃x,f k=x:=⟨_,rfl⟩
   have HU:=hide (hunpack_any x (by rw [← hx];exact h.ok k))
   have HL:=hide (load_at HA.out rfl hk hx)
   rw [hx]at h1 h2
   rw [h1,h2]at HU
   rw [h3,h4]
   clear h h1 h2 h3 h4 hx
   go_enter Tryz.func146,Tryz.ntmps146
   go_wp2_with fail
   refine HL.out.mono ?_
   rintro e w1 ⟨rfl,ha1,hf1⟩
   have HA1:=hide ha1
   have HF1:=hide hf1
   clear ha1 hf1
   go_wp2_with fail
   refine(HU.out _).mono ?_
   rintro e w2 ⟨rfl,hf2⟩
   have HF2:=hide hf2
   obtain⟨⟨z0,z1,z2,z3,z4⟩,f0,f1,f2,f3,f4⟩:=Hd.zero_cells (((Blk.new w 157 Hd.zero.cells).fr HF1.out (by simp;exact Nat.ne_of_gt HQ.out.1)).fr hf2 (by simp))
   have N0:w.heap.size<w2.heap.size:=lt_of_cell z0
   clear hf2
   unfold Hd.val Hd.zero
   go_wp2_with fail
   refine bodyPost_ret (v:=.tuple #[.agg #[.int .i64 0,.int .i64 0,.int .i64 0,.int .i64 0,.int .i64 0],.int .i64 30]) (by simp [results,Tryz.results146,go_sem, *]) rfl ⟨wrap64 (c+1),rfl,?_,?_,.inr rfl⟩
   ·have:=HQ.out
    exact HA1.out.fr (F:=[w.heap.size]) (((HF2.out.mono (fun x hx=>by cases hx)).five (.inl (by simp)) _ _ _ _ _).alloc _) (by simp;omega) (by simp;omega)
   ·exact((((((Fr.refl [ab] w).alloc _).trans_same HF1.out).trans_nil HF2.out).five (.inr (Nat.le_refl _)) _ _ _ _ _).alloc _)
 ·obtain⟨x,hx⟩:∃x,f k=x:=⟨_,rfl⟩
  have HU:=hide (hunpack_any x (by rw [← hx];exact h.ok k))
  have HL:=hide (load_at HA.out rfl hk hx)
  rw [hx]at h1 h2 h3 h4
  rw [h1]at HU
  rw [h4,h5]
  generalize Hd.of (x:Int)=g at *
  clear h h1 h3 h4 h5 hx
  go_enter Tryz.func146,Tryz.ntmps146
  go_wp2_with fail
  refine HL.out.mono ?_
  rintro e w1 ⟨rfl,ha1,hf1⟩
  have HA1:=hide ha1
  have HF1:=hide hf1
  clear ha1 hf1
  go_wp2_with fail
  refine(HU.out _).mono ?_
  rintro e w2 ⟨rfl,hf2⟩
  have HF2:=hide hf2
  obtain⟨⟨z0,z1,z2,z3,z4⟩,f0,f1,f2,f3,f4⟩:=Hd.zero_cells (((Blk.new w 157 Hd.zero.cells).fr HF1.out (by simp;exact Nat.ne_of_gt HQ.out.1)).fr hf2 (by simp))
  have N0:w.heap.size<w2.heap.size:=lt_of_cell z0
  clear hf2
  obtain⟨K,s,p,a,t⟩:=g
  simp only at h2
  unfold Hd.val
  go_wp2_with fail
  refine bodyPost_ret (v:=.tuple #[.agg #[.int .i64 K,.int .i64 s,.int .i64 p,.int .i64 a,.int .i64 t],.int .i64 0]) (by simp [results,Tryz.results146,go_sem, *]) rfl ⟨wrap64 (c+1),rfl,?_,?_,.inr rfl⟩
  ·have:=HQ.out
   exact HA1.out.fr (F:=[w.heap.size]) (((HF2.out.mono (fun x hx=>by cases hx)).five (.inl (by simp)) _ _ _ _ _).alloc _) (by simp;omega) (by simp;omega)
  ·exact((((((Fr.refl [ab] w).alloc _).trans_same HF1.out).trans_nil HF2.out).five (.inr (Nat.le_refl _)) _ _ _ _ _).alloc _)
 ·have HL:=hide (load_any HA.out i)
  rw [h1,h2]
  have HI:=hide hi
  clear h h1 h2 hi
  go_enter Tryz.func146,Tryz.ntmps146
  go_wp2_with fail
  refine HL.out.mono ?_
  rintro e w1 ⟨v,er,c',rfl,ha1,hf1,ht⟩
  have HA1:=hide ha1
  have HF1:=hide hf1
  obtain⟨rfl,rfl,rfl⟩:v=0∧er=2∧c'=c:=by
   rcases ht with⟨a1,a2,_⟩ | ⟨_,a1,a2,a3⟩
   ·exact absurd ⟨a1,a2⟩ HI.out
   ·exact⟨a1,a2,a3⟩
  obtain⟨⟨z0,z1,z2,z3,z4⟩,f0,f1,f2,f3,f4⟩:=Hd.zero_cells ((Blk.new w 157 Hd.zero.cells).fr hf1 (by simp;exact Nat.ne_of_gt HQ.out.1))
  clear ha1 hf1 ht
  go_wp2_with fail
  refine bodyPost_ret (v:=.tuple #[.agg #[.int .i64 0,.int .i64 0,.int .i64 0,.int .i64 0,.int .i64 0],.int .i64 2]) (by simp [results,Tryz.results146,go_sem, *]) rfl ⟨c',rfl,?_,?_,.inl rfl⟩
  ·have:=HQ.out
   exact HA1.out.fr (F:=[w.heap.size]) ((Fr.refl _ _).five (.inl (by simp)) _ _ _ _ _) (by simp;omega) (by simp;omega)
  ·exact(((Fr.refl [ab] w).alloc _).trans_same HF1.out).five (.inr (Nat.le_refl _)) _ _ _ _ _
theorem pat_any{w:World}{ab aw n:Nat}{f:Nat→Nat}{c:Int}(h:Ar w ab aw n f c)(i:Int) :
  Calls Tryz.prog 146 #[.pointer (some ⟨ab,0,none⟩),.int .i64 i] w (AtPost w ab aw n f i):=
 (pat_anyC h i).mono fun _ _ ⟨c',e1,e2,e3,_⟩=>⟨c',e1,e2,e3⟩
def WritePost(w:World)(ab aw n:Nat)(er:Int)(f':Nat→Nat)(e:Ending)(w':World):Prop:=
 ∃c',e=.returned (.int .i64 er)∧Ar w' ab aw n f' c'∧Fr [ab,aw] w w'
theorem pack_right{h:Hd}(r:h.Right)(w:World):Calls Tryz.prog 85 #[h.val] w fun e w'=>e=.returned (.tuple #[.int .u64 h.word,.int .i64 0])∧Fr [] w w':=by
 have:=hpack_any h w
 unfold Hd.ans Hd.err at this
 rw [if_pos (Hd.rightB_iff.2 r),if_pos (Hd.rightB_iff.2 r)]at this
 exact this
theorem pack_wrong{h:Hd}(r:¬ h.Right)(w:World):Calls Tryz.prog 85 #[h.val] w fun e w'=>e=.returned (.tuple #[.int .u64 0,.int .i64 3])∧Fr [] w w':=by
 have:=hpack_any h w
 unfold Hd.ans Hd.err at this
 rw [if_neg (fun x=>r (Hd.rightB_iff.1 x)),if_neg (fun x=>r (Hd.rightB_iff.1 x))]at this
 exact this
theorem pmake_any{w:World}{ab aw n:Nat}{f:Nat→Nat}{c:Int}(h:Ar w ab aw n f c)(i s p:Int)(hi:i≤9223372036854775807) :
  Calls Tryz.prog 35 #[.pointer (some ⟨ab,0,none⟩),.int .i64 i,.int .i64 s,.int .i64 p] w (WritePost w ab aw n (makeE n i s p) (makeF n f i s p)):=by
 have H:=hide h
 have HI:=hide hi
 have hw:=make_ways n f i s p
 clear h
 unfold WritePost
 rcases hw with⟨r,h1,h2⟩ | ⟨r,hr,h1,h2⟩ | ⟨I,S,P,rfl,rfl,rfl,hS,hP,hIS,r,hword,h1,h2⟩
 ·rw [h1,h2]
  have HP:=hide (pack_wrong r)
  unfold objH Hd.val at HP
  clear h1 h2 r hi
  go_enter Tryz.func35,Tryz.ntmps35
  go_wp2_with fail
  refine(HP.out _).mono ?_
  rintro e w1 ⟨rfl,hf1⟩
  have HF1:=hide hf1
  clear hf1
  go_wp2_with fail
  go_ret
  exact⟨c,rfl,H.out.fr HF1.out (by simp) (by simp),HF1.out.mono (fun x hx=>by cases hx)⟩
 ·rw [h1,h2]
  have HP:=hide (pack_right r)
  unfold objH Hd.val at HP
  generalize Hd.word _=x at HP
  have HR:Hid (¬ HasRow n i s):=hr
  clear h1 h2 r hr hi
  go_enter Tryz.func35,Tryz.ntmps35
  go_wp2_with fail
  refine(HP.out _).mono ?_
  rintro e w1 ⟨rfl,hf1⟩
  have HF1:=hide hf1
  clear hf1
  go_wp2_with fail
  refine(zero_any (H.out.fr HF1.out (by simp) (by simp)) i s HI.out).mono ?_
  rintro e w2 ⟨er,f2,rfl,ha2,hf2,ht2⟩
  obtain⟨rfl,rfl⟩:er=2∧f2=f:=by
   rcases ht2 with⟨a1,_⟩ | ⟨_,a2,a3⟩
   ·exact absurd a1 HR.out
   ·exact⟨a2,a3⟩
  have HA2:=hide ha2
  have HF2:=hide hf2
  clear ha2 hf2 ht2
  go_wp2_with fail
  go_ret
  exact⟨c,rfl,HA2.out,(HF1.out.mono (fun x hx=>by cases hx)).trans HF2.out (fun x hx=>by simp at hx;simp [hx])⟩
 ·rw [h1,h2]
  have HP:=hide (pack_right r)
  rw [hword]at HP
  unfold objH Hd.val at HP
  have HX:Hid (objW S P<18446744073709551616):=objW_lt hS.2 hP
  generalize objW S P=x at *
  have HN:Hid (I+S≤n∧I<n):=⟨hIS,by omega⟩
  clear h1 h2 r hword hi hS hP hIS
  go_enter Tryz.func35,Tryz.ntmps35
  go_wp2_with fail
  refine(HP.out _).mono ?_
  rintro e w1 ⟨rfl,hf1⟩
  have HF1:=hide hf1
  clear hf1
  go_wp2_with fail
  refine(zero_at (H.out.fr HF1.out (by simp) (by simp)) rfl rfl HN.out.1).mono ?_
  rintro e w2 ⟨rfl,ha2,hf2⟩
  have HA2:=hide ha2
  have HF2:=hide hf2
  clear ha2 hf2
  go_wp2_with fail
  refine(store_at HA2.out rfl HN.out.2 rfl HX.out).mono ?_
  rintro e w3 ⟨rfl,ha3,hf3⟩
  have HA3:=hide ha3
  have HF3:=hide hf3
  clear ha3 hf3
  go_wp2_with fail
  go_ret
  exact⟨_,rfl,HA3.out,((HF1.out.mono (G:=[ab,aw]) (fun x hx=>by cases hx)).trans HF2.out (fun x hx=>by simp at hx;simp [hx])).trans_same HF3.out⟩
def ListAns(w:World)(ab aw n:Nat)(f:Nat→Nat)(l:List Int)(er:Int)(e:Ending)(w':World):Prop:=
 ∃(A:Option Addr) (cap:Nat) (c':Int),e=.returned (.tuple #[.slice A l.length cap,.int .i64 er])∧Own w.heap.size w' A l∧Ar w' ab aw n f c'∧Fr [ab] w w'
set_option maxHeartbeats 3200000 in
theorem pstarts_any{w:World}{ab aw n:Nat}{f:Nat→Nat}{c:Int}(h:Ar w ab aw n f c)(a b:Int) :
  Calls Tryz.prog 117 #[.pointer (some ⟨ab,0,none⟩),.int .i64 a,.int .i64 b] w (ListAns w ab aw n f (startsL n f a b) (startsE n f a b)):=by
 have H:=hide h
 have HB:=hide (pbounds_any h a b)
 have hmax:=h.max
 have hout:bndE n a b=2∨∃A B:Nat,a=(A:Int)∧b=(B:Int)∧A≤B∧B≤n∧bndE n a b=0:=by
  rcases bnd_ways n a b with h1 | h1 | h1 | h1
  ·exact .inr h1
  ·exact .inl h1.2
  ·exact .inl h1.2.2
  ·exact .inl h1.2.2.2
 obtain⟨i0,hi,hz0,hz1,hz2⟩:=info_parts Tryz.info_int
 have HQ:Hid (ab<w.heap.size∧aw<w.heap.size):=⟨h.set.lt,h.row.lt⟩
 clear h
 unfold ListAns
 rcases hout with he | ⟨A,B,rfl,rfl,hAB,hBn,he⟩
 ·rw [he]at HB
  rw [(starts_out he).1,(starts_out he).2]
  clear he
  go_enter Tryz.func117,Tryz.ntmps117
  go_wp2_with (go_at_call 155;refine HB.out.mono ?_;rintro e w' ⟨rfl,rfl⟩)
  go_ret2
  exact⟨_,_,c,rfl,Own.nil _ _ _,H.out,Fr.refl _ _⟩
 ·have HSm:Hid (∀l,startsO f A B=some l→startsL n f A B=l∧startsE n f A B=0):=fun l hl=>starts_some he hl
  have HNo:Hid (startsO f A B=none→startsL n f A B=[]∧startsE n f A B=30):=fun hl=>starts_none he hl
  rw [he]at HB
  have HG:=hide (Going.start f hAB)
  generalize startsL n f A B=L at *
  generalize startsE n f A B=E at *
  generalize startsO f A B=O at *
  clear he
  go_enter Tryz.func117,Tryz.ntmps117
  go_wp2_with (go_at_call 155;refine HB.out.mono ?_;rintro e w' ⟨rfl,rfl⟩)
  go_loopw [1,9] (fun i v wr=>∃(k:Nat) (acc:List Int) (c1:Int),i=.int .i64 k∧Going f O B k acc∧wr.ownsRow w.heap.size 3 1 v acc.length (vals acc)∧Ar wr ab aw n f c1∧Fr [ab] w wr) (fun i _ _=>B-(intOf i).toNat)
  case atStart=>exact⟨A,[],c,rfl,HG.out,World.ownsRow_nil _ _ _ _,H.out,Fr.refl _ _⟩
  case round=>
   obtain⟨k,acc,c1,rfl,hg,hown,ha,hf⟩:=hrel
   have HG1:=hide hg
   have HO1:=hide hown
   have HA1:=hide ha
   have HF1:=hide hf
   clear hg hown ha hf
   have hkB:=HG1.out.le
   have hacc:=HG1.out.len
   by_cases hlt:k<B
   ·have hlt':(k:Int)<(B:Int):=by omega
    have hkn:k<n:=by omega
    obtain⟨ea,ee⟩:=at_in (f:=f) hkn
    have HC:=hide (pat_any HA1.out (k:Int))
    have hstep:StepOk f k B↔((Hd.of (f k)).kind=1∨(Hd.of (f k)).kind=2)∧(Hd.of (f k)).size≤(B:Int)-(k:Int):=Iff.rfl
    have hnext:=fun (hs:StepOk f k B) (s:Nat) (e:(Hd.of (f k)).size=(s:Int)) (h1:1≤s)=>HG1.out.next hlt hs e h1
    have hbad:=fun (hs:¬ StepOk f k B)=>HG1.out.broken hlt hs
    have hcase:=at_out n f (k:Int)
    unfold AtPost at HC
    rw [ea,ee]at HC hcase
    generalize Hd.of (f k)=g at *
    have HNext:=hide hnext
    have HBad:=hide hbad
    clear hnext hbad ea ee
    obtain⟨K,s,p,q,t⟩:=g
    simp only at hstep HC hcase HNext
    have HI:=hide (pinRow_any ⟨K,s,p,q,t⟩)
    unfold Hd.val at HI HC
    simp only at HI HC
    have hway:(K=0∧¬ StepOk f k B)∨(¬ K=0∧inRowB K=false∧¬ StepOk f k B)∨(¬ K=0∧inRowB K=true∧(B:Int)-(k:Int)<s∧¬ StepOk f k B)∨(¬ K=0∧inRowB K=true∧∃S:Nat,s=(S:Int)∧(S:Int)≤(B:Int)-(k:Int)∧1≤S∧StepOk f k B):=by
     rw [hstep]
     unfold inRowB
     by_cases h0:K=0
     ·exact .inl ⟨h0,by omega⟩
     ·refine .inr ?_
      by_cases h1:K=1∨K=2
      ·have hb:(decide (K=1)||decide (K=2))=true:=by simpa using h1
       rw [hb]
       refine .inr ?_
       have hr:1≤s:=by
        rcases hcase with⟨_,x,_⟩ | ⟨h30,_⟩ | ⟨_,_,_,r⟩
        ·omega
        ·rw [if_neg h0]at h30;omega
        ·have:=r.ways;simp only at this;omega
       by_cases h2:(B:Int)-(k:Int)<s
       ·exact .inl ⟨h0,rfl,h2,by omega⟩
       ·exact .inr ⟨h0,rfl,s.toNat,by omega,by omega,by omega,h1,by omega⟩
      ·have hb:(decide (K=1)||decide (K=2))=false:=by simpa using h1
       rw [hb]
       exact .inl ⟨h0,rfl,by omega⟩
    clear hstep hcase
    rcases hway with⟨rfl,hns⟩ | ⟨h0,hb,hns⟩ | ⟨h0,hb,hs,hns⟩ | ⟨h0,hb,S,rfl,hs,hs1,hst⟩
    ·rw [if_pos rfl]at HC
     have HR:=hide (HNo.out (HBad.out hns))
     clear hns
     go_wp2_with fail
     refine HC.out.mono ?_
     rintro e w2 ⟨c2,rfl,ha2,hf2⟩
     have HA2:=hide ha2
     have HF2:=hide hf2
     clear ha2 hf2
     go_wp2_with fail
     go_ret2
     rw [HR.out.1,HR.out.2]
     exact⟨_,_,c2,rfl,Own.nil _ _ _,HA2.out.fr ((Fr.refl [] _).alloc _) (by simp) (by simp),(HF1.out.trans_same HF2.out).alloc _⟩
    ·rw [if_neg h0]at HC
     rw [hb]at HI
     have HR:=hide (HNo.out (HBad.out hns))
     clear hns hb
     go_wp2_with fail
     refine HC.out.mono ?_
     rintro e w2 ⟨c2,rfl,ha2,hf2⟩
     have HA2:=hide ha2
     have HF2:=hide hf2
     clear ha2 hf2
     go_wp2_with fail
     refine(HI.out _).mono ?_
     rintro e w3 ⟨rfl,hf3⟩
     have HF3:=hide hf3
     clear hf3
     go_wp2_with fail
     go_ret2
     rw [HR.out.1,HR.out.2]
     exact⟨_,_,c2,rfl,Own.nil _ _ _,HA2.out.fr (((Fr.refl [] _).alloc _).trans_same HF3.out) (by simp) (by simp),((HF1.out.trans_same HF2.out).alloc _).trans_nil HF3.out⟩
    ·rw [if_neg h0]at HC
     rw [hb]at HI
     have HR:=hide (HNo.out (HBad.out hns))
     clear hns hb
     go_wp2_with fail
     refine HC.out.mono ?_
     rintro e w2 ⟨c2,rfl,ha2,hf2⟩
     have HA2:=hide ha2
     have HF2:=hide hf2
     clear ha2 hf2
     go_wp2_with fail
     refine(HI.out _).mono ?_
     rintro e w3 ⟨rfl,hf3⟩
     obtain⟨d0,d1,d2,d3,d4⟩:=HdAt.of (h:=⟨K,s,p,q,t⟩) ((Blk.new w2 157 _).fr hf3 (by simp))
     simp only at d0 d1 d2 d3 d4
     have HF3:=hide hf3
     clear hf3
     go_wp2_with fail
     go_ret2
     rw [HR.out.1,HR.out.2]
     exact⟨_,_,c2,rfl,Own.nil _ _ _,HA2.out.fr (((Fr.refl [] _).alloc _).trans_same HF3.out) (by simp) (by simp),((HF1.out.trans_same HF2.out).alloc _).trans_nil HF3.out⟩
    ·rw [if_neg h0]at HC
     rw [hb]at HI
     have HR:=hide (HNext.out hst S rfl hs1)
     have HM:Hid (k+S≤B):=by show k+S≤B;omega
     clear hst hb
     go_wp2_with fail
     refine HC.out.mono ?_
     rintro e w2 ⟨c2,rfl,ha2,hf2⟩
     have HA2:=hide ha2
     have HF2:=hide hf2
     clear ha2 hf2
     go_wp2_with fail
     refine(HI.out _).mono ?_
     rintro e w3 ⟨rfl,hf3⟩
     obtain⟨d0,d1,d2,d3,d4⟩:=HdAt.of (h:=⟨K,(S:Int),p,q,t⟩) ((Blk.new w2 157 _).fr hf3 (by simp))
     simp only at d0 d1 d2 d3 d4
     have HF3:=hide hf3
     have HB3:=hide ((Blk.new w2 157 #[.int .i64 K,.int .i64 (S:Int),.int .i64 p,.int .i64 q,.int .i64 t]).fr hf3 (by simp))
     clear hf3
     have HO3:=hide (own_fr HO1.out ((HF2.out.alloc _).trans_nil HF3.out) (fun g hg=>by simpa using own_ne HO1.out HA1.out.set (by decide) g hg))
     have hac:acc.length+1≤4194305:=by omega
     go_wp2_with (at_builtin;refine wpList_append_own _ rfl _ _ 31 rfl w.heap.size 3 i0 (.int .i64 0) 1 8 Tryz.underlying31 hi hz0 hz1 hz2 rfl (by decide) _ _ _ rfl (HO3.out.alloc _) ⟨_,0,none⟩ 1 1 [.int .i64 (k:Int)] rfl rfl (one_at _ _ _) ?c2 ?c3 ?c4 ?c5 ?_)
     case c2=>intro u hu;simp at hu;subst hu;rfl
     case c3=>unfold maxLen;omega
     case c4=>omega
     case c5=>have:=HF1.out.size;have:=HF2.out.size;have:=HF3.out.size;simp at *;omega
     intro v' w4 hown4 hgr4 _
     have HO4:Hid (w4.ownsRow w.heap.size 3 1 v' (acc++[(k:Int)]).length (vals (acc++[(k:Int)]))):=by
      rw [vals_app,List.length_append];exact hown4
     have HF4:Hid (Fr [ab] w w4):=own_grown ((((HF1.out.trans_same HF2.out).alloc _).trans_nil HF3.out).alloc _) HO3.out hgr4
     have HA4:=hide ((HA2.out.fr ((((Fr.refl [] _).alloc _).trans_same HF3.out).alloc _) (by simp) (by simp)).fr (grown_fr hgr4) (own_far HO3.out HQ.out.1) (own_far HO3.out HQ.out.2))
     have e0:w4.cell? ⟨w2.heap.size,1,none⟩=some (.int .i64 (S:Int)):=
      ((HB3.out.alloc _).fr (grown_fr hgr4) (fun hx=>own_ne HO3.out HB3.out (by decide) _ (by simpa using hx) rfl)).cell 1
     clear hown4 hgr4
     go_wp2_with fail
     go_roundw
     case rel=>exact⟨k+S,_,_,by go_num,HR.out,HO4.out,HA4.out,HF4.out⟩
     case measure=>simp [intOf];omega
   ·have HR:=hide (HSm.out _ (HG1.out.done hlt))
    obtain⟨A9,c9,rfl,ho9⟩:=Own.row HO1.out
    have HO9:=hide ho9
    clear ho9
    go_wp2_with fail
    go_ret2
    rw [HR.out.1,HR.out.2]
    exact⟨_,_,c1,rfl,HO9.out,HA1.out,HF1.out⟩
set_option maxHeartbeats 3200000 in
theorem pfields_any{w:World}{ab aw n:Nat}{f:Nat→Nat}{c:Int}(h:Ar w ab aw n f c)(i:Int) :
  Calls Tryz.prog 120 #[.pointer (some ⟨ab,0,none⟩),.int .i64 i] w (ListAns w ab aw n f (fieldsL n f i) (fieldsE n f i)):=by
 have H:=hide h
 have hmax:=h.max
 have HQ:Hid (ab<w.heap.size∧aw<w.heap.size):=⟨h.set.lt,h.row.lt⟩
 have HC:=hide (pat_any h i)
 unfold AtPost at HC
 obtain⟨i0,hi,hz0,hz1,hz2⟩:=info_parts Tryz.info_int
 have hway:(¬ atE n f i=0)∨(atE n f i=0∧¬ (atH n f i).kind=1)∨(atE n f i=0∧(atH n f i).kind=1∧(0≤i∧i<(n:Int))∧(n:Int)-i<(atH n f i).size) ∨
   (atE n f i=0∧(atH n f i).kind=1∧∃I S P:Nat,i=(I:Int)∧I<n∧(atH n f i).size=(S:Int)∧(atH n f i).ptrs=(P:Int)∧P<S∧I+S≤n):=by
  rcases at_out n f i with⟨h1,_⟩ | ⟨h1,_⟩ | ⟨h1,h2,h3,h4⟩
  ·exact .inl (by omega)
  ·exact .inl (by omega)
  ·refine .inr ?_
   by_cases hk:(atH n f i).kind=1
   ·by_cases hs:(n:Int)-i<(atH n f i).size
    ·exact .inr (.inl ⟨h1,hk,h2,hs⟩)
    ·have:=h4.ways
     exact .inr (.inr ⟨h1,hk,i.toNat,(atH n f i).size.toNat,(atH n f i).ptrs.toNat,by omega,by omega,by omega,by omega,by omega,by omega⟩)
   ·exact .inl ⟨h1,hk⟩
 have hbad:=fields_err (n:=n) (f:=f) (i:=i)
 have hno:=fields_no (n:=n) (f:=f) (i:=i)
 have hyes:=fields_yes (n:=n) (f:=f) (i:=i)
 unfold FieldsOk at hno hyes
 clear h
 unfold ListAns
 generalize atH n f i=g at *
 generalize atE n f i=E at *
 generalize fieldsL n f i=L at *
 generalize fieldsE n f i=R at *
 obtain⟨K,s,p,q,t⟩:=g
 simp only at hway hno hyes HC
 unfold Hd.val at HC
 simp only at HC
 rcases hway with h1 | ⟨rfl,h1⟩ | ⟨rfl,rfl,hin,h1⟩ | ⟨rfl,rfl,I,S,P,rfl,hI,rfl,rfl,hP,hS⟩
 ·obtain⟨rfl,rfl⟩:=hbad h1
  clear hno hyes
  go_enter Tryz.func120,Tryz.ntmps120
  go_wp2_with fail
  refine HC.out.mono ?_
  rintro e w2 ⟨c2,rfl,ha2,hf2⟩
  have HA2:=hide ha2
  have HF2:=hide hf2
  clear ha2 hf2
  go_wp2_with fail
  go_ret2
  exact⟨_,_,c2,rfl,Own.nil _ _ _,HA2.out.fr ((Fr.refl [] _).alloc _) (by simp) (by simp),HF2.out.alloc _⟩
 ·obtain⟨rfl,rfl⟩:=hno rfl (by omega)
  clear hbad hyes hno
  go_enter Tryz.func120,Tryz.ntmps120
  go_wp2_with fail
  refine HC.out.mono ?_
  rintro e w2 ⟨c2,rfl,ha2,hf2⟩
  have HA2:=hide ha2
  have HF2:=hide hf2
  clear ha2 hf2
  go_wp2_with fail
  go_quiet (fail)
  go_wp2_with fail
  go_ret2
  exact⟨_,_,c2,rfl,Own.nil _ _ _,(HA2.out.fr ((Fr.refl [] _).alloc _) (by simp) (by simp)).drewN _,(HF2.out.alloc _).drewN _⟩
 ·obtain⟨rfl,rfl⟩:=hno rfl (by omega)
  clear hbad hyes hno
  go_enter Tryz.func120,Tryz.ntmps120
  go_wp2_with fail
  refine HC.out.mono ?_
  rintro e w2 ⟨c2,rfl,ha2,hf2⟩
  have HA2:=hide ha2
  have HF2:=hide hf2
  have HA3:=hide (ha2.fr ((Fr.refl [] _).alloc (.cells #[.int .i64 1,.int .i64 s,.int .i64 p,.int .i64 q,.int .i64 t] 157)) (by simp) (by simp))
  clear ha2 hf2
  have D:Hid (∀m,Calls Tryz.prog 157 #[.pointer (some ⟨ab,0,none⟩)] ((w2.alloc (.cells #[.int .i64 1,.int .i64 s,.int .i64 p,.int .i64 q,.int .i64 t] 157)).drewN m) fun e w'=>e=.returned (.int .i64 (n:Int))∧∃k,w'=((w2.alloc (.cells #[.int .i64 1,.int .i64 s,.int .i64 p,.int .i64 q,.int .i64 t] 157)).drewN m).drewN k):=
   fun m=>(alen_any (HA3.out.drewN m)).mono fun e w' ⟨he,hw⟩=>⟨he,0,hw.symm⟩
  go_wp2_with fail
  go_quiet ((go_at_call 157;exact Calls.quiet_of (D.out _)))
  go_wp2_with fail
  go_ret2
  exact⟨_,_,c2,rfl,Own.nil _ _ _,HA3.out.drewN _,(HF2.out.alloc _).drewN _⟩
 ·obtain⟨rfl,rfl⟩:=hyes rfl (by omega)
  clear hbad hyes hno
  rw [Int.toNat_natCast,Int.toNat_natCast]
  go_enter Tryz.func120,Tryz.ntmps120
  go_wp2_with fail
  refine HC.out.mono ?_
  rintro e w2 ⟨c2,rfl,ha2,hf2⟩
  have HA2:=hide ha2
  have HF2:=hide hf2
  have HA3:=hide (ha2.fr ((Fr.refl [] _).alloc (.cells #[.int .i64 1,.int .i64 (S:Int),.int .i64 (P:Int),.int .i64 q,.int .i64 t] 157)) (by simp) (by simp))
  clear ha2 hf2
  have D:Hid (∀m,Calls Tryz.prog 157 #[.pointer (some ⟨ab,0,none⟩)] ((w2.alloc (.cells #[.int .i64 1,.int .i64 (S:Int),.int .i64 (P:Int),.int .i64 q,.int .i64 t] 157)).drewN m) fun e w'=>e=.returned (.int .i64 (n:Int))∧∃k,w'=((w2.alloc (.cells #[.int .i64 1,.int .i64 (S:Int),.int .i64 (P:Int),.int .i64 q,.int .i64 t] 157)).drewN m).drewN k):=
   fun m=>(alen_any (HA3.out.drewN m)).mono fun e w' ⟨he,hw⟩=>⟨he,0,hw.symm⟩
  go_wp2_with fail
  go_quiet ((go_at_call 157;exact Calls.quiet_of (D.out _)))
  go_wp2_with (at_make;refine wpList_make_full _ rfl _ _ 31 rfl w.heap.size 3 i0 (.int .i64 0) 1 Tryz.underlying31 hi hz0 hz1 _ _ _ _ P rfl rfl rfl rfl (by rw [hz2];omega) (by unfold maxLen;omega) ?c4 ?_)
  case c4=>have:=HF2.out.size;simp;omega
  intro w3 hown hgr
  rw [show(madeCells #[Value.int .i64 0] P).toList=List.replicate P (.int .i64 0) from made_one (.int .i64 0) rfl P]at hown
  have HB3:=hide (own_full hown)
  rw [memI_zero]at HB3
  have HF3:Hid (Fr [] (w2.alloc (.cells #[.int .i64 1,.int .i64 (S:Int),.int .i64 (P:Int),.int .i64 q,.int .i64 t] 157)) w3):=((Fr.refl _ _).drewN _).grown hgr (fun _ hk=>by cases hk)
  have HA4:=hide (HA3.out.fr HF3.out (by simp) (by simp))
  have HL2:Hid (w.heap.size≤w2.heap.size+1∧ab<w2.heap.size∧aw<w2.heap.size):=⟨by have:=HF2.out.size;omega,HA2.out.set.lt,HA2.out.row.lt⟩
  have HF4:Hid (Fr [ab] w w3):=(HF2.out.alloc _).trans_nil HF3.out
  clear hown hgr
  go_wp2_with fail
  go_loopw [36] (fun i wr=>∃(k:Nat) (g:Nat→Int),i=.int .i64 k∧k≤P∧(∀j,j<k→g j=(I:Int)+1+(j:Int))∧Blk wr (w2.heap.size+1) 3 (memI P g)∧Fr [w2.heap.size+1] w3 wr) (fun i _=>P-(intOf i).toNat)
  case atStart=>exact⟨0,_,rfl,Nat.zero_le _,fun j hj=>absurd hj (by omega),HB3.out,Fr.refl _ _⟩
  case round=>
   obtain⟨k,g,rfl,hk,hg,hb,hf⟩:=hrel
   have HG:=hide hg
   have HB:=hide hb
   have HF:=hide hf
   have hz:=hb.frozen k
   clear hg hb hf
   by_cases hlt:k<P
   ·have hlt':(k:Int)<(P:Int):=by omega
    have hcell:wr.cell? ⟨w2.heap.size+1,k,none⟩=some (.int .i64 (g k)):=by rw [HB.out.cell,memI_at hlt]
    have HN:=hide (HB.out.put k (.int .i64 ((I:Int)+1+(k:Int))))
    rw [memI_set]at HN
    have HG2:Hid (∀j,j<k+1→updI g k ((I:Int)+1+(k:Int)) j=(I:Int)+1+(j:Int)):=fun j hj=>by
     unfold updI
     by_cases h:j=k
     ·rw [if_pos h,h]
     ·rw [if_neg h];exact HG.out j (by omega)
    go_wp2_with fail
    exact⟨⟨k+1,_,by go_num,by omega,HG2.out,HN.out,HF.out.setCell (p:=⟨w2.heap.size+1,k,none⟩) (.inl (by simp)) _⟩,by simp [intOf];omega⟩
   ·have hke:k=P:=by omega
    subst hke
    have HE:Hid (memI k g=(vals (refs I k)).toArray):=by
     have:=memI_vals (l:=refs I k) (g:=g) (fun j hj=>by rw [refs_len]at hj;rw [HG.out j hj,refs_at hj])
     rw [refs_len]at this
     exact this
    go_wp2_with fail
    go_ret2
    have hb5:=HB.out
    rw [HE.out]at hb5
    have hl2:=HL2.out
    refine⟨some ⟨w2.heap.size+1,0,none⟩,k,c2,by rw [refs_len];rfl,Own.blk hb5 hl2.1,HA4.out.fr HF.out (by simp;omega) (by simp;omega),HF4.out.trans HF.out (fun x hx=>?_)⟩
    simp at hx
    subst hx
    exact .inr hl2.1
end Go.Proofs.YteacgfeiedcdiaaGreatDoor
namespace Go.Gl
set_option linter.unusedVariables false
open Go.RowKit
def rowV(q:IntKind)(n:Nat)(f:Nat→Int):Array Value:=((List.range n).map fun k=>Value.int q (f k)).toArray
def put1(f:Nat→Int)(k:Nat)(x:Int):Nat→Int:=fun j=>if j=k then x else f j
def put2(f:Nat→Int)(a b:Nat)(g:Nat→Int):Nat→Int:=fun j=>if a≤j∧j<b then g j else f j
theorem rowV_size(q:IntKind)(n:Nat)(f:Nat→Int):(rowV q n f).size=n:=by simp [rowV]
theorem rowV_get(q:IntKind)(n:Nat)(f:Nat→Int)(k:Nat):(rowV q n f)[k]?=if k<n then some (.int q (f k)) else none:=by
 unfold rowV
 by_cases h:k<n
 ·simp [h]
 ·simp [h]
theorem rowV_at{q:IntKind}{n:Nat}{f:Nat→Int}{k:Nat}(h:k<n):(rowV q n f)[k]?=some (.int q (f k)):=by rw [rowV_get,if_pos h]
theorem rowV_ext{q:IntKind}{n:Nat}{f:Nat→Int}{cs:Array Value}(hs:cs.size=n)(h:∀k,k<n→cs[k]?=some (.int q (f k))):cs=rowV q n f:=by
 apply Array.ext
 ·rw [hs,rowV_size]
 ·intro i h1 h2
  have a1:=h i (by omega)
  have a2:=rowV_at (q:=q) (f:=f) (show i<n by omega)
  rw [Array.getElem?_eq_getElem h1]at a1
  rw [Array.getElem?_eq_getElem h2]at a2
  exact Option.some.inj (a1.trans a2.symm)
theorem rowV_congr{q:IntKind}{n:Nat}{f g:Nat→Int}(h:∀k,k<n→f k=g k):rowV q n f=rowV q n g:=
 rowV_ext (rowV_size _ _ _) fun k hk=>by rw [rowV_at hk,h k hk]
theorem rowV_set(q:IntKind)(n:Nat)(f:Nat→Int)(k:Nat)(x:Int):(rowV q n f).setIfInBounds k (.int q x)=rowV q n (put1 f k x):=by
 refine rowV_ext (by simp [rowV_size]) fun j hj=>?_
 rw [Array.getElem?_setIfInBounds]
 unfold put1
 by_cases h:k=j
 ·subst h
  rw [if_pos rfl,if_pos (by rw [rowV_size];exact hj),if_pos rfl]
 ·rw [if_neg h,if_neg (Ne.symm h),rowV_at hj]
theorem rowV_const(q:IntKind)(n:Nat)(x:Int):rowV q n (fun _=>x)=(List.replicate n (Value.int q x)).toArray:=by
 unfold rowV
 congr 1
 apply List.ext_getElem <;> simp
theorem put2_none{f g:Nat→Int}{a b:Nat}(h:b≤a):put2 f a b g=f:=by
 funext j
 unfold put2
 rw [if_neg (by omega)]
theorem put2_step{f:Nat→Int}{a k:Nat}{x:Int}(h:a≤k):put1 (put2 f a k fun _=>x) k x=put2 f a (k+1) fun _=>x:=by
 funext j
 unfold put1 put2
 by_cases h1:j=k
 ·rw [if_pos h1,if_pos (by omega)]
 ·rw [if_neg h1]
  by_cases h2:a≤j∧j<k
  ·rw [if_pos h2,if_pos (by omega)]
  ·rw [if_neg h2,if_neg (by omega)]
def cellsQ(q:IntKind)(f:Nat→Int)(k:Nat):List Value:=(List.range k).map fun j=>Value.int q (f j)
theorem Blk.putRow{w:World}{g:Nat}{t:TypeId}{q:IntKind}{n:Nat}{f:Nat→Int}(h:Blk w g t (rowV q n f))(k:Nat)(x:Int):Blk (w.setCell ⟨g,k,none⟩ (.int q x)) g t (rowV q n (put1 f k x)):=by
 have:=h.put k (.int q x)
 rw [rowV_set]at this
 exact this
end Go.Gl
