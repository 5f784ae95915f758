/- Several texts joined (pack.py): Rt Bu. -/
import Derived.Test.YteacgfeiedcdiaaGreatDoorProg
import Derived.Test.YteacgfeiedcdiaaGreatDoorPW07
import Derived.Test.YteacgfeiedcdiaaGreatDoorPW01
import Derived.Test.YteacgfeiedcdiaaGreatDoorPW02
import Derived.WalkKit
import Derived.BigQuiet
import Derived.Deep.RegionHeld3
import Derived.Deep.CutRange
import Derived.Test.YteacgfeiedcdiaaGreatDoorPW00
namespace Go.Proofs.YteacgfeiedcdiaaGreatDoor
set_option linter.unusedVariables false
open Go.RowKit Go.Gl
def Filled(x:Int):Prop:=x=1∨x=2∨x=3
instance (x:Int):Decidable (Filled x):=by unfold Filled;infer_instance
structure Rg(w:World)(tb sb pb mb W n:Nat)(s t m:Nat→Int):Prop where
 set:Blk w tb 198 #[.int .i64 (W:Int),.slice (some ⟨sb,0,none⟩) n n,.slice (some ⟨pb,0,none⟩) n n,.slice (some ⟨mb,0,none⟩) n n]
 st:Blk w sb 59 (rowV .i64 n s)
 tops:Blk w pb 3 (rowV .i64 n t)
 tams:Blk w mb 3 (rowV .i64 n m)
 pm:pb≠mb
 pos:1≤W
 max:n*W≤4194304
 sok:∀k,k<n→0≤s k∧s k≤5
 tok:∀k,k<n→((k*W:Nat):Int)≤t k∧t k≤((k*W+W:Nat):Int)
 mok:∀k,k<n→((k*W:Nat):Int)≤m k∧m k≤((k*W+W:Nat):Int)
section
variable {w w':World}{tb sb pb mb W n:Nat}{s t m:Nat→Int}{F:List Nat}
theorem Rg.fr(h:Rg w tb sb pb mb W n s t m)(hf:Fr F w w')(h1:tb∉F)(h2:sb∉F)(h3:pb∉F)(h4:mb∉F):Rg w' tb sb pb mb W n s t m:=⟨h.set.fr hf h1,h.st.fr hf h2,h.tops.fr hf h3,h.tams.fr hf h4,h.pm,h.pos,h.max,h.sok,h.tok,h.mok⟩
theorem Rg.fr0(h:Rg w tb sb pb mb W n s t m)(hf:Fr [] w w'):Rg w' tb sb pb mb W n s t m:=h.fr hf (by simp) (by simp) (by simp) (by simp)
theorem Rg.drewN(h:Rg w tb sb pb mb W n s t m)(k:Nat):Rg (w.drewN k) tb sb pb mb W n s t m:=⟨h.set,h.st,h.tops,h.tams,h.pm,h.pos,h.max,h.sok,h.tok,h.mok⟩
theorem Rg.drew(h:Rg w tb sb pb mb W n s t m):Rg w.drew tb sb pb mb W n s t m:=⟨h.set,h.st,h.tops,h.tams,h.pm,h.pos,h.max,h.sok,h.tok,h.mok⟩
theorem Rg.c0(h:Rg w tb sb pb mb W n s t m):w.cell? ⟨tb,0,none⟩=some (.int .i64 (W:Int)):=by rw [h.set.cell];rfl
theorem Rg.c1(h:Rg w tb sb pb mb W n s t m):w.cell? ⟨tb,1,none⟩=some (.slice (some ⟨sb,0,none⟩) n n):=by rw [h.set.cell];rfl
theorem Rg.c2(h:Rg w tb sb pb mb W n s t m):w.cell? ⟨tb,2,none⟩=some (.slice (some ⟨pb,0,none⟩) n n):=by rw [h.set.cell];rfl
theorem Rg.c3(h:Rg w tb sb pb mb W n s t m):w.cell? ⟨tb,3,none⟩=some (.slice (some ⟨mb,0,none⟩) n n):=by rw [h.set.cell];rfl
theorem Rg.cs(h:Rg w tb sb pb mb W n s t m){k:Nat}(hk:k<n):w.cell? ⟨sb,k,none⟩=some (.int .i64 (s k)):=by rw [h.st.cell,rowV_at hk]
theorem Rg.ct(h:Rg w tb sb pb mb W n s t m){k:Nat}(hk:k<n):w.cell? ⟨pb,k,none⟩=some (.int .i64 (t k)):=by rw [h.tops.cell,rowV_at hk]
theorem Rg.cm(h:Rg w tb sb pb mb W n s t m){k:Nat}(hk:k<n):w.cell? ⟨mb,k,none⟩=some (.int .i64 (m k)):=by rw [h.tams.cell,rowV_at hk]
theorem Rg.ts(h:Rg w tb sb pb mb W n s t m):tb≠sb:=h.set.apart h.st (by decide)
theorem Rg.tp(h:Rg w tb sb pb mb W n s t m):tb≠pb:=h.set.apart h.tops (by decide)
theorem Rg.tm(h:Rg w tb sb pb mb W n s t m):tb≠mb:=h.set.apart h.tams (by decide)
theorem Rg.sp(h:Rg w tb sb pb mb W n s t m):sb≠pb:=h.st.apart h.tops (by decide)
theorem Rg.sm(h:Rg w tb sb pb mb W n s t m):sb≠mb:=h.st.apart h.tams (by decide)
theorem Rg.nmax(h:Rg w tb sb pb mb W n s t m):n≤4194304:=Nat.le_trans (Nat.le_mul_of_pos_right n h.pos) h.max
theorem Rg.base_le(h:Rg w tb sb pb mb W n s t m){k:Nat}(hk:k<n):k*W+W≤4194304:=by
 have h1:(k+1)*W≤n*W:=Nat.mul_le_mul_right W hk
 have h2:=h.max
 rw [Nat.add_mul,Nat.one_mul]at h1
 omega
theorem Rg.wmax(h:Rg w tb sb pb mb W n s t m){k:Nat}(hk:k<n):W≤4194304:=by have:=h.base_le hk;omega
end
theorem has_in{w:World}{tb sb pb mb W n:Nat}{s t m:Nat→Int}(h:Rg w tb sb pb mb W n s t m){k:Nat}(hk:k<n) :
  Calls Tryz.prog 116 #[.pointer (some ⟨tb,0,none⟩),.int .i64 (k:Int)] w fun e w'=>e=.returned (.bool true)∧w=w':=by
 have c1:=h.c1
 have hn:=h.nmax
 have hk':(k:Int)<(n:Int):=by omega
 clear h
 go_enter Tryz.func116,Tryz.ntmps116
 go_wp2
 go_ret
 exact⟨rfl,rfl⟩
theorem has_out{w:World}{tb sb pb mb W n:Nat}{s t m:Nat→Int}(h:Rg w tb sb pb mb W n s t m){r:Int}(hr:¬ (0≤r∧r<(n:Int))) :
  Calls Tryz.prog 116 #[.pointer (some ⟨tb,0,none⟩),.int .i64 r] w fun e w'=>e=.returned (.bool false)∧w=w':=by
 have c1:=h.c1
 have hn:=h.nmax
 clear h
 by_cases c0:r<0
 ·clear hr
  go_enter Tryz.func116,Tryz.ntmps116
  go_wp2
  go_ret
  exact⟨rfl,rfl⟩
 ·have c2:(n:Int)≤r:=by omega
  clear hr
  go_enter Tryz.func116,Tryz.ntmps116
  go_wp2
  go_ret
  exact⟨ret_bool (by simp;omega),rfl⟩
theorem base_cell{w:World}{tb W k:Nat}(c0:w.cell? ⟨tb,0,none⟩=some (.int .i64 (W:Int)))(hb:k*W≤4194304) :
  Calls Tryz.prog 133 #[.pointer (some ⟨tb,0,none⟩),.int .i64 (k:Int)] w fun e w'=>e=.returned (.int .i64 ((k*W:Nat):Int))∧w=w':=by
 have HB:=hide hb
 clear hb
 go_enter Tryz.func133,Tryz.ntmps133
 go_wp2
 go_ret
 refine⟨ret_int ?_,rfl⟩
 have:=HB.out
 rw [← Int.natCast_mul,IntWalk.wrap64_in _ ⟨by omega,by omega⟩]
theorem base_at{w:World}{tb sb pb mb W n:Nat}{s t m:Nat→Int}(h:Rg w tb sb pb mb W n s t m){k:Nat}(hk:k<n) :
  Calls Tryz.prog 133 #[.pointer (some ⟨tb,0,none⟩),.int .i64 (k:Int)] w fun e w'=>e=.returned (.int .i64 ((k*W:Nat):Int))∧w=w':=
 base_cell h.c0 (by have:=h.base_le hk;omega)
theorem end_at{w:World}{tb sb pb mb W n:Nat}{s t m:Nat→Int}(h:Rg w tb sb pb mb W n s t m){k:Nat}(hk:k<n) :
  Calls Tryz.prog 134 #[.pointer (some ⟨tb,0,none⟩),.int .i64 (k:Int)] w fun e w'=>e=.returned (.int .i64 ((k*W+W:Nat):Int))∧∃q,w'=w.drewN q:=by
 have c0:=h.c0
 have hb:=hide (h.base_le hk)
 have HB:Hid (∀q,Calls Tryz.prog 133 #[.pointer (some ⟨tb,0,none⟩),.int .i64 (k:Int)] (w.drewN q) fun e w'=>e=.returned (.int .i64 ((k*W:Nat):Int))∧∃m,w'=(w.drewN q).drewN m):=fun q=>(base_at (h.drewN q) hk).mono fun e w' ⟨he,hw⟩=>⟨he,0,hw.symm⟩
 have hw:=hide (Int.natCast_add (k*W) W)
 clear h
 generalize k*W=x at *
 go_enter Tryz.func134,Tryz.ntmps134
 go_wp2_with fail
 go_quiet ((go_at_call 133;exact Calls.quiet_of (HB.out _)))
 go_wp2
 go_ret
 refine⟨ret_int ?_,_,rfl⟩
 have:=hb.out
 rw [hw.out,IntWalk.wrap64_in _ ⟨by omega,by omega⟩]
theorem filled_yes{x:Int}(hx:Filled x)(w:World):Calls Tryz.prog 135 #[.int .i64 x] w fun e w'=>e=.returned (.bool true)∧w=w':=by
 rcases hx with rfl | rfl | rfl
 all_goals
  go_enter Tryz.func135,Tryz.ntmps135
  go_wp2
  go_ret
  exact⟨rfl,rfl⟩
theorem state_at{w:World}{tb sb pb mb W n:Nat}{s t m:Nat→Int}(h:Rg w tb sb pb mb W n s t m){k:Nat}(hk:k<n) :
  Calls Tryz.prog 62 #[.pointer (some ⟨tb,0,none⟩),.int .i64 (k:Int)] w fun e w'=>e=.returned (.int .i64 (s k))∧w=w':=by
 have H:=hide (has_in h hk)
 have c1:=h.c1
 have cr:=h.cs hk
 have hn:=h.nmax
 have hk':(k:Int)<(n:Int):=by omega
 generalize s k=x at *
 clear h
 go_enter Tryz.func62,Tryz.ntmps62
 go_wp2_with (go_at_call 116;refine H.out.mono ?_;rintro e w' ⟨rfl,rfl⟩)
 go_ret
 exact⟨rfl,rfl⟩
theorem state_out{w:World}{tb sb pb mb W n:Nat}{s t m:Nat→Int}(h:Rg w tb sb pb mb W n s t m){r:Int}(hr:¬ (0≤r∧r<(n:Int))) :
  Calls Tryz.prog 62 #[.pointer (some ⟨tb,0,none⟩),.int .i64 r] w fun e w'=>e=.returned (.int .i64 0)∧w=w':=by
 have H:=hide (has_out h hr)
 clear h hr
 go_enter Tryz.func62,Tryz.ntmps62
 go_wp2_with (go_at_call 116;refine H.out.mono ?_;rintro e w' ⟨rfl,rfl⟩)
 go_ret
 exact⟨rfl,rfl⟩
theorem top_at{w:World}{tb sb pb mb W n:Nat}{s t m:Nat→Int}(h:Rg w tb sb pb mb W n s t m){k:Nat}(hk:k<n) :
  Calls Tryz.prog 143 #[.pointer (some ⟨tb,0,none⟩),.int .i64 (k:Int)] w fun e w'=>e=.returned (.int .i64 (t k))∧w=w':=by
 have H:=hide (has_in h hk)
 have c1:=h.c2
 have cr:=h.ct hk
 have hn:=h.nmax
 have hk':(k:Int)<(n:Int):=by omega
 generalize t k=x at *
 clear h
 go_enter Tryz.func143,Tryz.ntmps143
 go_wp2_with (go_at_call 116;refine H.out.mono ?_;rintro e w' ⟨rfl,rfl⟩)
 go_ret
 exact⟨rfl,rfl⟩
section
variable {w w':World}{tb sb pb mb W n:Nat}{s t m:Nat→Int}{F:List Nat}
theorem put1_all{f:Nat→Int}{k n:Nat}{x:Int}{p:Nat→Int→Prop}(h:∀j,j<n→p j (f j))(hx:k<n→p k x):∀j,j<n→p j (put1 f k x j):=fun j hj=>by
 unfold put1
 split
 ·next e=>subst e;exact hx hj
 ·exact h j hj
theorem Rg.putS(h:Rg w tb sb pb mb W n s t m)(k:Nat)(x:Int)(hx:0≤x∧x≤5):Rg (w.setCell ⟨sb,k,none⟩ (.int .i64 x)) tb sb pb mb W n (put1 s k x) t m:=
 ⟨h.set.far (p:=⟨sb,k,none⟩) h.ts _,h.st.putRow k x,h.tops.far (p:=⟨sb,k,none⟩) h.sp.symm _,h.tams.far (p:=⟨sb,k,none⟩) h.sm.symm _,h.pm,h.pos,h.max,put1_all (p:=fun _ x=>0≤x∧x≤5) h.sok (fun _=>hx),h.tok,h.mok⟩
theorem Rg.putT(h:Rg w tb sb pb mb W n s t m)(k:Nat)(x:Int)(hx:k<n→((k*W:Nat):Int)≤x∧x≤((k*W+W:Nat):Int)):Rg (w.setCell ⟨pb,k,none⟩ (.int .i64 x)) tb sb pb mb W n s (put1 t k x) m:=
 ⟨h.set.far (p:=⟨pb,k,none⟩) h.tp _,h.st.far (p:=⟨pb,k,none⟩) h.sp _,h.tops.putRow k x,h.tams.far (p:=⟨pb,k,none⟩) h.pm.symm _,h.pm,h.pos,h.max,h.sok,put1_all (p:=fun j x=>((j*W:Nat):Int)≤x∧x≤((j*W+W:Nat):Int)) h.tok hx,h.mok⟩
theorem Rg.putM(h:Rg w tb sb pb mb W n s t m)(k:Nat)(x:Int)(hx:k<n→((k*W:Nat):Int)≤x∧x≤((k*W+W:Nat):Int)):Rg (w.setCell ⟨mb,k,none⟩ (.int .i64 x)) tb sb pb mb W n s t (put1 m k x):=
 ⟨h.set.far (p:=⟨mb,k,none⟩) h.tm _,h.st.far (p:=⟨mb,k,none⟩) h.sm _,h.tops.far (p:=⟨mb,k,none⟩) h.pm _,h.tams.putRow k x,h.pm,h.pos,h.max,h.sok,h.tok,put1_all (p:=fun j x=>((j*W:Nat):Int)≤x∧x≤((j*W+W:Nat):Int)) h.mok hx⟩
end
theorem put2_end(f:Nat→Int){a k:Nat}(x:Int)(h:a≤k)(g:Nat→Int)(hx:x=g k):put1 (put2 f a k g) k x=put2 f a (k+1) g:=by
 funext j
 unfold put1 put2
 by_cases h1:j=k
 ·subst h1
  rw [if_pos rfl,if_pos (by omega),hx]
 ·rw [if_neg h1]
  by_cases h2:a≤j∧j<k
  ·rw [if_pos h2,if_pos (by omega)]
  ·rw [if_neg h2,if_neg (by omega)]
def LowFree(s:Nat→Int)(n k:Nat):Prop:=k<n∧s k=0∧∀j,j<k→s j≠0
def NoneFree(s:Nat→Int)(n:Nat):Prop:=∀j,j<n→s j≠0
theorem LowFree.unique{s:Nat→Int}{n k k':Nat}(h:LowFree s n k)(h':LowFree s n k'):k=k':=by
 rcases Nat.lt_trichotomy k k' with hl | hl | hl
 ·exact absurd h.2.1 (h'.2.2 k hl)
 ·exact hl
 ·exact absurd h'.2.1 (h.2.2 k' hl)
theorem free_ways(s:Nat→Int)(n:Nat):(∃k,LowFree s n k)∨NoneFree s n:=by
 induction n with
 | zero=>exact .inr fun j hj=>by omega
 | succ n ih=>
  rcases ih with⟨k,h1,h2,h3⟩ | ih
  ·exact .inl ⟨k,by omega,h2,h3⟩
  ·by_cases h:s n=0
   ·exact .inl ⟨n,by omega,h,ih⟩
   ·refine .inr fun j hj=>?_
    rcases Nat.lt_or_ge j n with hl | hl
    ·exact ih j hl
    ·obtain rfl:j=n:=by omega
     exact h
def RPost(w:World)(tb sb pb mb W n:Nat)(s' t' m':Nat→Int)(v:Value)(e:Ending)(w':World):Prop:=
 e=.returned v∧Rg w' tb sb pb mb W n s' t' m'∧Fr [sb,pb,mb] w w'
def IPost(w:World)(s:Nat→Int)(n:Nat)(e:Ending)(w':World):Prop:=
 ∃z:Int,e=.returned (.int .i64 z)∧w=w'∧((∃k:Nat,z=k∧LowFree s n k)∨(z=-1∧NoneFree s n))
theorem index_any{w:World}{tb sb pb mb W n:Nat}{s t m:Nat→Int}(h:Rg w tb sb pb mb W n s t m) :
  Calls Tryz.prog 136 #[.slice (some ⟨sb,0,none⟩) n n,.int .i64 0] w (IPost w s n):=by
 have H:=hide h
 have hn:=h.nmax
 clear h
 go_enter Tryz.func136,Tryz.ntmps136
 go_wp2_with fail
 go_loopw [8] (fun i wr=>∃k:Nat,i=.int .i64 k∧k≤n∧w=wr∧∀j,j<k→s j≠0) (fun i _=>n-(intOf i).toNat)
 case atStart=>exact⟨0,rfl,Nat.zero_le _,rfl,fun j hj=>by omega⟩
 case round=>
  obtain⟨k,rfl,hk,rfl,hno⟩:=hrel
  have HN:=hide hno
  clear hno
  by_cases hlt:k<n
  ·have hlt':(k:Int)<(n:Int):=by omega
   have hc:=H.out.cs hlt
   by_cases h0:s k=0
   ·rw [h0]at hc
    have H0:=hide h0
    clear h0
    go_wp2_with fail
    go_ret
    exact⟨_,rfl,rfl,.inl ⟨k,rfl,hlt,H0.out,HN.out⟩⟩
   ·have H0:=hide h0
    generalize s k=x at hc h0
    have h0':¬ 0=x:=fun h=>h0 h.symm
    go_wp2_with fail
    go_roundw
    case rel=>
     refine⟨k+1,by go_num,by omega,trivial,fun j hj=>?_⟩
     rcases Nat.lt_or_ge j k with hl | hl
     ·exact HN.out j hl
     ·obtain rfl:j=k:=by omega
      exact H0.out
    case measure=>simp [intOf];omega
  ·have hlt':¬ (k:Int)<(n:Int):=by omega
   obtain rfl:k=n:=by omega
   go_wp2_with fail
   go_ret
   exact⟨_,rfl,rfl,.inr ⟨rfl,HN.out⟩⟩
theorem claim_at{w:World}{tb sb pb mb W n:Nat}{s t m:Nat→Int}(h:Rg w tb sb pb mb W n s t m){x:Int}(hx:Filled x){k:Nat}(hl:LowFree s n k) :
  Calls Tryz.prog 84 #[.pointer (some ⟨tb,0,none⟩),.int .i64 x] w (RPost w tb sb pb mb W n (put1 s k x) t m (.tuple #[.int .i64 (k:Int),.int .i64 0])):=by
 have HI:Hid (Calls Tryz.prog 136 #[.slice (some ⟨sb,0,none⟩) n n,.int .i64 0] w fun e w'=>e=.returned (.int .i64 (k:Int))∧w=w'):=(index_any h).mono fun e w' ⟨z,he,hw,hz⟩=>by
  rcases hz with⟨k',rfl,hk'⟩ | ⟨_,hno⟩
  ·rw [he,hl.unique hk'];exact⟨rfl,hw⟩
  ·exact absurd hl.2.1 (hno k hl.1)
 have HF:=hide (filled_yes hx)
 have hk:=hl.1
 have hk':(k:Int)<(n:Int):=by omega
 have hn:=h.nmax
 have c1:=h.c1
 have cr:=h.cs hk
 have cz:=h.st.frozen k
 have HP:Hid (Rg (w.setCell ⟨sb,k,none⟩ (.int .i64 x)) tb sb pb mb W n (put1 s k x) t m):=h.putS k x (by rcases hx with rfl | rfl | rfl <;> decide)
 rw [hl.2.1]at cr
 unfold RPost
 clear h hl hx
 go_enter Tryz.func84,Tryz.ntmps84
 go_wp2_with (first | (go_at_call 135;refine(HF.out _).mono ?_;rintro e w' ⟨rfl,rfl⟩) | (go_at_call 136;refine HI.out.mono ?_;rintro e w' ⟨rfl,rfl⟩))
 go_ret2
 exact⟨rfl,HP.out,(Fr.refl _ _).setCell (p:=⟨sb,k,none⟩) (.inl (by simp)) _⟩
theorem claim_full{w:World}{tb sb pb mb W n:Nat}{s t m:Nat→Int}(h:Rg w tb sb pb mb W n s t m){x:Int}(hx:Filled x)(hl:NoneFree s n) :
  Calls Tryz.prog 84 #[.pointer (some ⟨tb,0,none⟩),.int .i64 x] w fun e w'=>e=.returned (.tuple #[.int .i64 0,.int .i64 6])∧w=w':=by
 have HI:Hid (Calls Tryz.prog 136 #[.slice (some ⟨sb,0,none⟩) n n,.int .i64 0] w fun e w'=>e=.returned (.int .i64 (-1))∧w=w'):=(index_any h).mono fun e w' ⟨z,he,hw,hz⟩=>by
  rcases hz with⟨k',rfl,hk'⟩ | ⟨hz,hno⟩
  ·exact absurd hk'.2.1 (hl k' hk'.1)
  ·rw [he,hz];exact⟨rfl,hw⟩
 have HF:=hide (filled_yes hx)
 have hn:=h.nmax
 have c1:=h.c1
 clear h hl hx
 go_enter Tryz.func84,Tryz.ntmps84
 go_wp2_with (first | (go_at_call 135;refine(HF.out _).mono ?_;rintro e w' ⟨rfl,rfl⟩) | (go_at_call 136;refine HI.out.mono ?_;rintro e w' ⟨rfl,rfl⟩))
 go_ret2
 exact⟨rfl,rfl⟩
theorem bump_at{w:World}{tb sb pb mb W n:Nat}{s t m:Nat→Int}(h:Rg w tb sb pb mb W n s t m){k:Nat}(hk:k<n)(hx:Filled (s k)){c:Int}(hc:1≤c)(hfit:t k+c≤((k*W+W:Nat):Int)) :
  Calls Tryz.prog 83 #[.pointer (some ⟨tb,0,none⟩),.int .i64 (k:Int),.int .i64 c] w (RPost w tb sb pb mb W n s (put1 t k (t k+c)) m (.tuple #[.int .i64 (t k),.int .i64 0])):=by
 have HF:=hide (filled_yes hx)
 have HH:=hide (has_in h hk)
 have HE:=hide (end_at h hk)
 have hk':(k:Int)<(n:Int):=by omega
 have hn:=h.nmax
 have c1:=h.c1
 have c2:=h.c2
 have cr:=h.cs hk
 have ct:=h.ct hk
 have cz:=h.tops.frozen k
 have hb:=h.base_le hk
 obtain⟨t1,t2⟩:=h.tok k hk
 have HP:=hide (h.putT k (t k+c) (fun _=>⟨by omega,hfit⟩))
 unfold RPost
 have t0:0≤t k:=by omega
 have t3:t k≤4194304:=by omega
 clear h hx
 generalize k*W+W=E at *
 generalize s k=y at *
 generalize put1 t k (t k+c)=t' at *
 generalize t k=T at *
 have hfit':¬ (E:Int)-T<c:=by omega
 have hc1:c≤4194304:=by omega
 clear t1
 go_enter Tryz.func83,Tryz.ntmps83
 go_wp2_with (first | (go_at_call 116;refine HH.out.mono ?_;rintro e w' ⟨rfl,rfl⟩) | (go_at_call 135;refine(HF.out _).mono ?_;rintro e w' ⟨rfl,rfl⟩) | (go_at_call 134;refine HE.out.mono ?_;rintro e w' ⟨rfl,q,rfl⟩))
 go_ret2
 exact⟨rfl,HP.out.drewN _,((Fr.refl _ _).setCell (p:=⟨pb,k,none⟩) (.inl (by simp)) _).drewN _⟩
theorem bump_full{w:World}{tb sb pb mb W n:Nat}{s t m:Nat→Int}(h:Rg w tb sb pb mb W n s t m){k:Nat}(hk:k<n)(hx:Filled (s k)){c:Int}(hc:1≤c)(hfit:¬ t k+c≤((k*W+W:Nat):Int)) :
  Calls Tryz.prog 83 #[.pointer (some ⟨tb,0,none⟩),.int .i64 (k:Int),.int .i64 c] w fun e w'=>e=.returned (.tuple #[.int .i64 0,.int .i64 6])∧∃q,w'=w.drewN q:=by
 have HF:=hide (filled_yes hx)
 have HH:=hide (has_in h hk)
 have HE:=hide (end_at h hk)
 have hk':(k:Int)<(n:Int):=by omega
 have hn:=h.nmax
 have c1:=h.c1
 have c2:=h.c2
 have cr:=h.cs hk
 have ct:=h.ct hk
 have hb:=h.base_le hk
 obtain⟨t1,t2⟩:=h.tok k hk
 have t0:0≤t k:=by omega
 have t3:t k≤4194304:=by omega
 clear h hx
 generalize k*W+W=E at *
 generalize s k=y at *
 generalize t k=T at *
 have hfit':(E:Int)-T<c:=by omega
 clear t1 hfit
 go_enter Tryz.func83,Tryz.ntmps83
 go_wp2_with (first | (go_at_call 116;refine HH.out.mono ?_;rintro e w' ⟨rfl,rfl⟩) | (go_at_call 135;refine(HF.out _).mono ?_;rintro e w' ⟨rfl,rfl⟩) | (go_at_call 134;refine HE.out.mono ?_;rintro e w' ⟨rfl,q,rfl⟩))
 go_ret2
 exact⟨rfl,_,rfl⟩
set_option maxRecDepth 100000
structure Rg0(w:World)(tb sb pb mb W n:Nat)(s t m:Nat→Int):Prop where
 set:Blk w tb 198 #[.int .i64 (W:Int),.slice (some ⟨sb,0,none⟩) n n,.slice (some ⟨pb,0,none⟩) n n,.slice (some ⟨mb,0,none⟩) n n]
 st:Blk w sb 59 (rowV .i64 n s)
 tops:Blk w pb 3 (rowV .i64 n t)
 tams:Blk w mb 3 (rowV .i64 n m)
 pm:pb≠mb
 pos:1≤W
 max:n*W≤4194304
section
variable {w w':World}{tb sb pb mb W n:Nat}{s t m:Nat→Int}{F:List Nat}
theorem Rg0.rg(h:Rg0 w tb sb pb mb W n s t m)(sok:∀k,k<n→0≤s k∧s k≤5)(tok:∀k,k<n→((k*W:Nat):Int)≤t k∧t k≤((k*W+W:Nat):Int))(mok:∀k,k<n→((k*W:Nat):Int)≤m k∧m k≤((k*W+W:Nat):Int)):Rg w tb sb pb mb W n s t m:=
 ⟨h.set,h.st,h.tops,h.tams,h.pm,h.pos,h.max,sok,tok,mok⟩
theorem Rg0.drew(h:Rg0 w tb sb pb mb W n s t m):Rg0 w.drew tb sb pb mb W n s t m:=⟨h.set,h.st,h.tops,h.tams,h.pm,h.pos,h.max⟩
theorem Rg0.c0(h:Rg0 w tb sb pb mb W n s t m):w.cell? ⟨tb,0,none⟩=some (.int .i64 (W:Int)):=by rw [h.set.cell];rfl
theorem Rg0.c1(h:Rg0 w tb sb pb mb W n s t m):w.cell? ⟨tb,1,none⟩=some (.slice (some ⟨sb,0,none⟩) n n):=by rw [h.set.cell];rfl
theorem Rg0.c2(h:Rg0 w tb sb pb mb W n s t m):w.cell? ⟨tb,2,none⟩=some (.slice (some ⟨pb,0,none⟩) n n):=by rw [h.set.cell];rfl
theorem Rg0.c3(h:Rg0 w tb sb pb mb W n s t m):w.cell? ⟨tb,3,none⟩=some (.slice (some ⟨mb,0,none⟩) n n):=by rw [h.set.cell];rfl
theorem Rg0.cs(h:Rg0 w tb sb pb mb W n s t m){k:Nat}(hk:k<n):w.cell? ⟨sb,k,none⟩=some (.int .i64 (s k)):=by rw [h.st.cell,rowV_at hk]
theorem Rg0.ct(h:Rg0 w tb sb pb mb W n s t m){k:Nat}(hk:k<n):w.cell? ⟨pb,k,none⟩=some (.int .i64 (t k)):=by rw [h.tops.cell,rowV_at hk]
theorem Rg0.cm(h:Rg0 w tb sb pb mb W n s t m){k:Nat}(hk:k<n):w.cell? ⟨mb,k,none⟩=some (.int .i64 (m k)):=by rw [h.tams.cell,rowV_at hk]
theorem Rg0.nmax(h:Rg0 w tb sb pb mb W n s t m):n≤4194304:=Nat.le_trans (Nat.le_mul_of_pos_right n h.pos) h.max
theorem Rg0.base_le(h:Rg0 w tb sb pb mb W n s t m){k:Nat}(hk:k<n):k*W≤4194304:=Nat.le_trans (Nat.mul_le_mul_right W (by omega)) h.max
theorem Rg0.putS(h:Rg0 w tb sb pb mb W n s t m)(k:Nat)(x:Int):Rg0 (w.setCell ⟨sb,k,none⟩ (.int .i64 x)) tb sb pb mb W n (put1 s k x) t m:=
 ⟨h.set.far (p:=⟨sb,k,none⟩) (h.set.apart h.st (by decide)) _,h.st.putRow k x,h.tops.far (p:=⟨sb,k,none⟩) (h.tops.apart h.st (by decide)) _,h.tams.far (p:=⟨sb,k,none⟩) (h.tams.apart h.st (by decide)) _,h.pm,h.pos,h.max⟩
theorem Rg0.putT(h:Rg0 w tb sb pb mb W n s t m)(k:Nat)(x:Int):Rg0 (w.setCell ⟨pb,k,none⟩ (.int .i64 x)) tb sb pb mb W n s (put1 t k x) m:=
 ⟨h.set.far (p:=⟨pb,k,none⟩) (h.set.apart h.tops (by decide)) _,h.st.far (p:=⟨pb,k,none⟩) (h.st.apart h.tops (by decide)) _,h.tops.putRow k x,h.tams.far (p:=⟨pb,k,none⟩) h.pm.symm _,h.pm,h.pos,h.max⟩
theorem Rg0.putM(h:Rg0 w tb sb pb mb W n s t m)(k:Nat)(x:Int):Rg0 (w.setCell ⟨mb,k,none⟩ (.int .i64 x)) tb sb pb mb W n s t (put1 m k x):=
 ⟨h.set.far (p:=⟨mb,k,none⟩) (h.set.apart h.tams (by decide)) _,h.st.far (p:=⟨mb,k,none⟩) (h.st.apart h.tams (by decide)) _,h.tops.far (p:=⟨mb,k,none⟩) h.pm _,h.tams.putRow k x,h.pm,h.pos,h.max⟩
end
def RPost0(w:World)(tb sb pb mb W n:Nat)(s' t' m':Nat→Int)(v:Value)(e:Ending)(w':World):Prop:=
 e=.returned v∧Rg0 w' tb sb pb mb W n s' t' m'∧Fr [sb,pb,mb] w w'
theorem empty0{w:World}{tb sb pb mb W n:Nat}{s t m:Nat→Int}(h:Rg0 w tb sb pb mb W n s t m){k:Nat}(hk:k<n) :
  Calls Tryz.prog 127 #[.pointer (some ⟨tb,0,none⟩),.int .i64 (k:Int)] w (RPost0 w tb sb pb mb W n (put1 s k 0) (put1 t k ((k*W:Nat):Int)) (put1 m k ((k*W:Nat):Int)) (.tuple #[])):=by
 have hk':(k:Int)<(n:Int):=by omega
 have hn:=h.nmax
 have c1:=h.c1
 have cs:=h.cs hk
 have cz:=h.st.frozen k
 have HP:=hide (h.putS k 0)
 obtain⟨B,hB⟩:∃B,B=k*W:=⟨_,rfl⟩
 have EB:=hide hB
 rw [← hB]
 clear hB
 unfold RPost0
 clear h
 generalize put1 s k 0=s' at *
 generalize s k=y at *
 go_enter Tryz.func127,Tryz.ntmps127
 go_wp2_with fail
 have HF1:Hid (Fr [sb,pb,mb] w (w.setCell ⟨sb,k,none⟩ (.int .i64 0))):=(Fr.refl _ _).setCell (p:=⟨sb,k,none⟩) (.inl (by simp)) _
 generalize w.setCell ⟨sb,k,none⟩ (.int .i64 0)=w1 at *
 clear c1 cs cz
 have H1:=HP.out.drew
 have HB1:=hide (base_cell H1.c0 (H1.base_le hk))
 rw [← EB.out]at HB1
 have c2:=HP.out.c2
 have ct:=HP.out.ct hk
 have cz:=HP.out.tops.frozen k
 have HP2:=hide (HP.out.putT k (B:Int))
 clear H1
 generalize t k=T at *
 refine region_tail 9 (by kernel_rfl) (by kernel_rfl) ?_
 simp only [List.take_succ_cons,List.take_zero,List.drop_succ_cons,List.drop_zero]
 repeat still_step
 still_call (call_right HB1.out)
 repeat still_step
 refine wpStill_nil ?_
 go_wp2_with fail
 have HF2:Hid (Fr [sb,pb,mb] w ((w1.setCell ⟨pb,k,none⟩ (.int .i64 (B:Int))).drew)):=(HF1.out.setCell (p:=⟨pb,k,none⟩) (.inl (by simp)) _).drew
 have HP2':=hide HP2.out.drew
 generalize (w1.setCell ⟨pb,k,none⟩ (.int .i64 (B:Int))).drew=w2 at *
 clear c2 ct cz
 have H2:=HP2'.out.drew
 have HB2:=hide (base_cell H2.c0 (H2.base_le hk))
 rw [← EB.out]at HB2
 have c3:=HP2'.out.c3
 have cm:=HP2'.out.cm hk
 have cz:=HP2'.out.tams.frozen k
 have HP3:=hide (HP2'.out.putM k (B:Int))
 clear H2
 generalize m k=M at *
 refine region_tail 9 (by kernel_rfl) (by kernel_rfl) ?_
 simp only [List.take_succ_cons,List.take_zero,List.drop_succ_cons,List.drop_zero]
 repeat still_step
 still_call (call_right HB2.out)
 repeat still_step
 refine wpStill_nil ?_
 go_wp2
 go_end0
 exact⟨rfl,HP3.out.drew,(HF2.out.setCell (p:=⟨mb,k,none⟩) (.inl (by simp)) _).drew⟩
structure OkGeo7(g:Geo)(W n:Nat):Prop where
 npos:1≤n
 nmax:n≤65536
 pos:1≤W
 max:n*W≤4194304
 words:g.words=((n*W:Nat):Int)
 rw:g.rw=(W:Int)
 regions:g.regions=(n:Int)
theorem rmay_ok(g:Geo){W n:Nat}(ok:OkGeo7 g W n)(w:World):Calls Tryz.prog 126 #[g.val] w fun e w'=>e=.returned (.bool true)∧Fr [] w w':=by
 obtain⟨Wd,rw',C,R,N,M⟩:=g
 obtain⟨h1,h2,h3,h4,h5,h6,h7⟩:=ok
 simp only at h5 h6 h7
 have e1:(W:Int)≤4194304 / (n:Int):=by
  rw [Int.le_ediv_iff_mul_le (by omega),Int.mul_comm,← Int.natCast_mul]
  omega
 have e2:Wd=R*rw':=by rw [h5,h6,h7,Int.natCast_mul]
 rw [← h6,← h7]at e1
 have hR:1≤R∧R≤65536:=by omega
 obtain⟨hR1,hR2⟩:=hR
 have hr:1≤rw':=by omega
 have hWd:0≤Wd∧Wd≤4194304:=by omega
 have e3:wrap64 (R*rw')=Wd:=by rw [← e2];exact IntWalk.wrap64_in Wd ⟨by omega,by omega⟩
 obtain⟨hW1,hW2⟩:=hWd
 clear h1 h2 h3 h4 h5 h6 h7 e2
 have e4:(4194304:Int).tdiv R=4194304 / R:=Int.tdiv_eq_ediv_of_nonneg (by decide)
 have e5:0≤4194304 / R:=Int.ediv_nonneg (by decide) (by omega)
 have e6:4194304 / R≤4194304:=Int.ediv_le_self _ (by decide)
 generalize 4194304 / R=Q at *
 have hR0:¬ R=0:=by omega
 unfold Geo.val
 go_enter Tryz.func126,Tryz.ntmps126
 go_wp2_with fail
 go_quiet (fail)
 go_wp2
 go_ret
 exact⟨rfl,((Fr.refl _ _).alloc _).drewN _⟩
theorem Tryz.info_state:(Tryz.prog.info? 59).map (fun i=>(i.zero,i.size,i.bytes))=some (some (.int .i64 0),1,8):=by kernel_rfl
theorem make_row{P:Program}{t e:TypeId}{i:TypeInfo}(ht:P.underlying t=some (.slice e))(hi:P.info? e=some i)(hz:i.zero=some (.int .i64 0))(h1:i.size=1)(h8:i.bytes=8){n:Nat}(hn:n≤4194304)(w:World) :
  (Instr.makeSlice t (.int .i64 (n:Int)) (.int .i64 (n:Int))).run P w=.ok (.slice (some ⟨w.heap.size,0,none⟩) n n) (w.alloc (.cells (rowV .i64 n fun _=>0) e)):=by
 have hr:=run_make (P:=P) w t e i (.int .i64 0) ht hi hz .i64 .i64 n n (by omega) (Int.le_refl _) (by rw [h8];omega) (by omega)
 simp only [Int.toNat_natCast]at hr
 rw [hr,h1,Nat.mul_one]
 congr 3
 rw [rowV_const,← made_one (.int .i64 0) rfl n,Array.toArray_toList]
section
variable (w:World)(t:TypeId)(cs:Array Value)(o1 o2 o3 o4:Obj)
theorem blk4_1:Blk ((((w.alloc (.cells cs t)).alloc o2).alloc o3).alloc o4).drew w.heap.size t cs:=((((Blk.new w t cs).alloc o2).alloc o3).alloc o4).drew
theorem blk4_2:Blk ((((w.alloc o1).alloc (.cells cs t)).alloc o3).alloc o4).drew (w.heap.size+1) t cs:=(((Blk.new_at (w:=w.alloc o1) t cs (by simp)).alloc o3).alloc o4).drew
theorem blk4_3:Blk ((((w.alloc o1).alloc o2).alloc (.cells cs t)).alloc o4).drew (w.heap.size+1+1) t cs:=((Blk.new_at (w:=(w.alloc o1).alloc o2) t cs (by simp)).alloc o4).drew
theorem blk4_4:Blk ((((w.alloc o1).alloc o2).alloc o3).alloc (.cells cs t)).drew (w.heap.size+1+1+1) t cs:=(Blk.new_at (w:=((w.alloc o1).alloc o2).alloc o3) t cs (by simp)).drew
end
def RMade(w1:World)(W n:Nat)(p:Value)(w':World):Prop:=
 ∃tb sb pb mb,p=.pointer (some ⟨tb,0,none⟩)∧Rg0 w' tb sb pb mb W n (fun _=>0) (fun _=>0) (fun _=>0)∧Fr [] w1 w'∧w1.heap.size≤tb∧w1.heap.size≤sb∧w1.heap.size≤pb∧w1.heap.size≤mb
def RNew(w:World)(W n:Nat)(e:Ending)(w':World):Prop:=
 ∃tb sb pb mb,e=.returned (.tuple #[.pointer (some ⟨tb,0,none⟩),.int .i64 0])∧Rg w' tb sb pb mb W n (fun _=>0) (fun k=>((k*W:Nat):Int)) (fun k=>((k*W:Nat):Int))∧Fr [] w w'∧w.heap.size≤tb∧w.heap.size≤sb∧w.heap.size≤pb∧w.heap.size≤mb
set_option maxHeartbeats 800000 in
theorem rnew_ok(g:Geo){W n:Nat}(ok:OkGeo7 g W n)(w:World):Calls Tryz.prog 73 #[g.val] w (RNew w W n):=by
 have hm:=rmay_ok g ok
 obtain⟨i0,hi,hz0,hz1,hz2⟩:=info_parts Tryz.info_state
 obtain⟨j0,hj,hj0,hj1,hj2⟩:=info_parts Tryz.info_int
 have HOk:=hide ok
 have hn:=ok.nmax
 obtain⟨Wd,rw',C,R,N,M⟩:=g
 obtain rfl:rw'=(W:Int):=ok.rw
 obtain rfl:R=(n:Int):=ok.regions
 have HM:=hide hm
 unfold Geo.val
 clear ok hm
 go_enter Tryz.func73,Tryz.ntmps73
 go_wp2_with fail
 refine(HM.out _).mono ?_
 rintro e w1 ⟨rfl,hf⟩
 have hg:=GeoAt.of ((Blk.new w 39 (Geo.cells ⟨Wd,(W:Int),C,(n:Int),N,M⟩)).fr hf (by simp))
 have g1:=hg.c1
 have g3:=hg.c3
 have HF:Hid (Fr [] w w1):=((Fr.refl _ _).alloc _).trans_same hf
 clear hf hg
 go_wp2_with fail
 have hmk1:∀w',(Instr.makeSlice 196 (.int .i64 (n:Int)) (.int .i64 (n:Int))).run Tryz.prog w'=.ok (.slice (some ⟨w'.heap.size,0,none⟩) n n) (w'.alloc (.cells (rowV .i64 n fun _=>0) 59)):=make_row Tryz.underlying196 hi hz0 hz1 hz2 (by omega)
 have hmk2:∀w',(Instr.makeSlice 31 (.int .i64 (n:Int)) (.int .i64 (n:Int))).run Tryz.prog w'=.ok (.slice (some ⟨w'.heap.size,0,none⟩) n n) (w'.alloc (.cells (rowV .i64 n fun _=>0) 3)):=make_row Tryz.underlying31 hj hj0 hj1 hj2 (by omega)
 have K:∀w2,Fr [] w1 w2→w2.cell? ⟨w.heap.size,1,none⟩=some (.int .i64 (W:Int))∧w2.cell? ⟨w.heap.size,3,none⟩=some (.int .i64 (n:Int)):=fun w2 hf=>⟨(hf.cell (lt_of_cell g1) (by simp)).trans g1,(hf.cell (lt_of_cell g3) (by simp)).trans g3⟩
 have K0:=K _ (Fr.refl [] w1).drew
 have K1:=fun o1=>K _ ((Fr.refl [] w1).alloc o1).drew
 have K2:=fun o1 o2=>K _ (((Fr.refl [] w1).alloc o1).alloc o2).drew
 have K3:=fun o1 o2 o3=>K _ ((((Fr.refl [] w1).alloc o1).alloc o2).alloc o3).drew
 have K4:=fun o1 o2 o3 o4=>K _ (((((Fr.refl [] w1).alloc o1).alloc o2).alloc o3).alloc o4).drew
 have HK:=hide K0
 clear K
 go_cut [4] from 9 to 21 (fun p w'=>RMade w1 W n p w')
 case first=>
  go_region_held3 (fun w'=>w'.cell? ⟨w.heap.size,1,none⟩=some (.int .i64 (W:Int))∧w'.cell? ⟨w.heap.size,3,none⟩=some (.int .i64 (n:Int)))
   (first | with_reducible exact K0 | with_reducible exact K1 _ | with_reducible exact K2 _ _ | with_reducible exact K3 _ _ _ | with_reducible exact K4 _ _ _ _)
   (first | fail)
  all_goals
   go_wp2_with fail
   go_meet
   case rel=>
    refine⟨_,_,_,_,rfl,⟨blk4_4 _ _ _ _ _ _,?c1,?c2,?c3,?c4,HOk.out.pos,HOk.out.max⟩,((((((Fr.refl [] w1).alloc _).alloc _).alloc _).alloc _).drew),by omega,by omega,by omega,by omega⟩
    case c1=>first | with_reducible exact blk4_1 _ _ _ _ _ _ | with_reducible exact blk4_2 _ _ _ _ _ _ | with_reducible exact blk4_3 _ _ _ _ _ _
    case c2=>first | with_reducible exact blk4_1 _ _ _ _ _ _ | with_reducible exact blk4_2 _ _ _ _ _ _ | with_reducible exact blk4_3 _ _ _ _ _ _
    case c3=>first | with_reducible exact blk4_1 _ _ _ _ _ _ | with_reducible exact blk4_2 _ _ _ _ _ _ | with_reducible exact blk4_3 _ _ _ _ _ _
    case c4=>omega
 case rest=>
  obtain⟨tb,sb,pb,mb,rfl,hr,hf,l1,l2,l3,l4⟩:=hcut
  have HR:=hide hr
  have HF1:Hid (Fr [] w wc):=HF.out.trans_same hf
  have HL:Hid (w.heap.size≤tb∧w.heap.size≤sb∧w.heap.size≤pb∧w.heap.size≤mb):=by have:=HF.out.size;exact⟨by omega,by omega,by omega,by omega⟩
  have c1:=hr.c1
  clear hr hf l1 l2 l3 l4 hmk1 hmk2 K0 K1 K2 K3 K4 g1 g3 HK
  have hn4:n≤4194304:=by omega
  go_wp2_with fail
  go_loopw [27] (fun i wr=>∃k:Nat,i=.int .i64 k∧k≤n∧Rg0 wr tb sb pb mb W n (fun _=>0) (put2 (fun _=>0) 0 k fun j=>((j*W:Nat):Int)) (put2 (fun _=>0) 0 k fun j=>((j*W:Nat):Int))∧Fr [] w wr) (fun i _=>n-(intOf i).toNat)
  case atStart=>exact⟨0,rfl,Nat.zero_le _,by rw [put2_none (Nat.le_refl _)];exact HR.out,HF1.out⟩
  case round=>
   obtain⟨k,rfl,hk,hr,hfr⟩:=hrel
   have HR2:=hide hr
   have HF2:=hide hfr
   by_cases hlt:k<n
   ·have hlt':(k:Int)<(n:Int):=by omega
    have HE:=hide (empty0 hr hlt)
    unfold RPost0 at HE
    rw [put2_end (fun _=>0) (a:=0) (k:=k) ((k*W:Nat):Int) (by omega) (fun j=>((j*W:Nat):Int)) rfl,show put1 (fun _=>(0:Int)) k 0=fun _=>0 from by funext j;unfold put1;split <;> rfl]at HE
    clear hr hfr
    go_wp2_with fail
    refine HE.out.mono ?_
    rintro e w4 ⟨rfl,hr4,hf4⟩
    have HR4:=hide hr4
    have HF4:Hid (Fr [] w w4):=HF2.out.trans hf4 (fun x hx=>by have:=HL.out;simp at hx;omega)
    clear hr4 hf4
    go_wp2_with fail
    go_roundw
    case rel=>exact⟨k+1,by go_num,by omega,HR4.out,HF4.out⟩
    case measure=>simp [intOf];omega
   ·have hlt':¬ (k:Int)<(n:Int):=by omega
    obtain rfl:k=n:=by omega
    clear hr hfr
    go_wp2_with fail
    go_ret2
    have h:=HR2.out
    have hrow:rowV .i64 k (put2 (fun _=>0) 0 k fun j=>((j*W:Nat):Int))=rowV .i64 k fun j=>((j*W:Nat):Int):=rowV_congr fun j hj=>by unfold put2;rw [if_pos (by omega)]
    refine⟨tb,sb,pb,mb,rfl,⟨h.set,h.st,?_,?_,h.pm,h.pos,h.max,fun _ _=>by decide,fun j hj=>by omega,fun j hj=>by omega⟩,HF2.out,HL.out⟩
    ·rw [← hrow];exact h.tops
    ·rw [← hrow];exact h.tams
structure Bu(w:World)(g:Nat)(t:TypeId)(x y:Int):Prop where
 blk:Blk w g t #[.int .i64 x,.int .i64 y]
 low:0≤x
 ord:x≤y
 max:y≤4194304
section
variable {w w':World}{g:Nat}{t:TypeId}{x y:Int}{F:List Nat}
theorem Bu.fr(h:Bu w g t x y)(hf:Fr F w w')(h1:g∉F):Bu w' g t x y:=⟨h.blk.fr hf h1,h.low,h.ord,h.max⟩
theorem Bu.fr0(h:Bu w g t x y)(hf:Fr [] w w'):Bu w' g t x y:=h.fr hf (by simp)
theorem Bu.drewN(h:Bu w g t x y)(k:Nat):Bu (w.drewN k) g t x y:=⟨h.blk,h.low,h.ord,h.max⟩
theorem Bu.drew(h:Bu w g t x y):Bu w.drew g t x y:=⟨h.blk,h.low,h.ord,h.max⟩
theorem Bu.c0(h:Bu w g t x y):w.cell? ⟨g,0,none⟩=some (.int .i64 x):=by rw [h.blk.cell];rfl
theorem Bu.c1(h:Bu w g t x y):w.cell? ⟨g,1,none⟩=some (.int .i64 y):=by rw [h.blk.cell];rfl
theorem Bu.clear(h:Bu w g t x y):Bu ((w.setCell ⟨g,0,none⟩ (.int .i64 0)).setCell ⟨g,1,none⟩ (.int .i64 0)) g t 0 0:=
 ⟨(h.blk.put 0 (.int .i64 0)).put 1 (.int .i64 0),by decide,by decide,by decide⟩
theorem Bu.made(w:World)(t:TypeId){x y:Int}(h0:0≤x)(h1:x≤y)(h2:y≤4194304):Bu (w.alloc (.cells #[.int .i64 x,.int .i64 y] t)) w.heap.size t x y:=⟨Blk.new _ _ _,h0,h1,h2⟩
end
def nuB(a b:Int):Bool:=decide (0≤a∧a≤b∧b≤4194304)
def nuX(a b:Int):Int:=if 0≤a∧a<b∧b≤4194304 then a else 0
def nuY(a b:Int):Int:=if 0≤a∧a<b∧b≤4194304 then b else 0
def nuE(a b:Int):Int:=if 0≤a∧a≤b∧b≤4194304 then 0 else 2
def nuV(a b:Int):Value:=.tuple #[.agg #[.int .i64 (nuX a b),.int .i64 (nuY a b)],.int .i64 (nuE a b)]
theorem brest_any{w:World}{g:Nat}{x y:Int}(h:Bu w g 214 x y):Calls Tryz.prog 142 #[.pointer (some ⟨g,0,none⟩)] w fun e w'=>e=.returned (.tuple #[.int .i64 x,.int .i64 y])∧∃k,w'=w.drewN k:=by
 have c0:=h.c0
 have c1:=h.c1
 clear h
 go_enter Tryz.func142,Tryz.ntmps142
 go_wp2_with fail
 go_quiet (fail)
 go_wp2
 go_ret2
 exact⟨rfl,_,rfl⟩
def tkA(x y n:Int):Int:=if 1≤n∧n≤y-x then x else 0
def tkE(x y n:Int):Int:=if n<1 then 2 else if y-x<n then 6 else 0
def tkX(x y n:Int):Int:=if 1≤n∧n≤y-x then x+n else x
def tkV(x y n:Int):Value:=.tuple #[.int .i64 (tkA x y n),.int .i64 (tkE x y n)]
end Go.Proofs.YteacgfeiedcdiaaGreatDoor
