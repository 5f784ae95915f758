/- Headers as plain numbers, and their words. -/
import Derived.Test.YteacgfeiedcdiaaGreatDoorPW00
import Derived.IntWalk
import Derived.Laws.BitsAllLaws
namespace Go.Gl
open Go.RowKit Go.IntWalk
set_option linter.unusedVariables false
structure Hd where
 (kind size ptrs age to:Int)
def Hd.val(h:Hd):Value:=.agg #[.int .i64 h.kind,.int .i64 h.size,.int .i64 h.ptrs,.int .i64 h.age,.int .i64 h.to]
def Hd.cells(h:Hd):Array Value:=#[.int .i64 h.kind,.int .i64 h.size,.int .i64 h.ptrs,.int .i64 h.age,.int .i64 h.to]
def Hd.zero:Hd:=⟨0,0,0,0,0⟩
def inB(n lo hi:Int):Bool:=decide (lo≤n)&&decide (n≤hi)
theorem inB_iff{n lo hi:Int}:inB n lo hi=true↔lo≤n∧n≤hi:=by unfold inB;simp
theorem inB_no{n lo hi:Int}:inB n lo hi=false↔¬ (lo≤n∧n≤hi):=by rw [← inB_iff];simp
structure Hd.Right(h:Hd):Prop where
 ways:(h.kind=0∧h.size=0∧h.ptrs=0∧h.age=0∧h.to=0) ∨
  (h.kind=1∧(1≤h.size∧h.size≤1048576)∧(0≤h.ptrs∧h.ptrs<h.size)∧(0≤h.age∧h.age≤7)∧h.to=0) ∨
  (h.kind=2∧(1≤h.size∧h.size≤1048576)∧h.ptrs=0∧h.age=0∧h.to=0) ∨
  (h.kind=3∧(1≤h.size∧h.size≤1048576)∧h.ptrs=0∧h.age=0∧(0≤h.to∧h.to<4194304))
open Classical in
noncomputable def Hd.rightB (h:Hd):Bool:=decide h.Right
theorem Hd.rightB_iff{h:Hd}:h.rightB=true↔h.Right:=by unfold Hd.rightB;simp
theorem Hd.rightB_no{h:Hd}:h.rightB=false↔¬ h.Right:=by rw [← Hd.rightB_iff];simp
def Hd.word(h:Hd):Int:=h.kind+4*h.size+8388608*(h.ptrs+h.to)+17592186044416*h.age
def Hd.split(w:Int):Hd:=
 ⟨w % 4,w / 4 % 2097152,if w % 4=1 then w / 8388608 % 2097152 else 0,if w % 4=1 then w / 17592186044416 % 8 else 0,if w % 4=3 then w / 8388608 % 4194304 else 0⟩
theorem Hd.Right.back{h:Hd}(r:h.Right):Hd.split h.word=h:=by
 obtain⟨k,s,p,a,t⟩:=h
 have:=r.ways
 simp only at this
 unfold Hd.split Hd.word
 simp only [Hd.mk.injEq]
 rcases this with⟨_,_,_,_,_⟩ | ⟨_,_,_,_,_⟩ | ⟨_,_,_,_,_⟩ | ⟨_,_,_,_,_⟩
 all_goals
  have e:(k+4*s+8388608*(p+t)+17592186044416*a) % 4=k:=by omega
  rw [e]
  refine⟨rfl,by omega,?_,?_,?_⟩ <;> split <;> omega
noncomputable def Hd.of (w:Int):Hd:=if (Hd.split w).rightB=true∧(Hd.split w).word=w then Hd.split w else Hd.zero
noncomputable def Hd.ofErr (w:Int):Int:=if (Hd.split w).rightB=true∧(Hd.split w).word=w then 0 else 30
noncomputable def Hd.ans (h:Hd):Int:=if h.rightB=true then h.word else 0
noncomputable def Hd.err (h:Hd):Int:=if h.rightB=true then 0 else 3
theorem Hd.Right.of{h:Hd}(r:h.Right):Hd.of h.word=h∧Hd.ofErr h.word=0:=by
 unfold Hd.of Hd.ofErr
 have e:=r.back
 have hc:(Hd.split h.word).rightB=true∧(Hd.split h.word).word=h.word:=by rw [e];exact⟨Hd.rightB_iff.2 r,rfl⟩
 rw [if_pos hc,if_pos hc]
 exact⟨e,rfl⟩
theorem Hd.of_ways(w:Int):(Hd.ofErr w=0∧(Hd.of w).Right∧(Hd.of w).word=w)∨(Hd.ofErr w=30∧Hd.of w=Hd.zero):=by
 unfold Hd.of Hd.ofErr
 by_cases hc:(Hd.split w).rightB=true∧(Hd.split w).word=w
 ·rw [if_pos hc,if_pos hc];exact .inl ⟨rfl,Hd.rightB_iff.1 hc.1,hc.2⟩
 ·rw [if_neg hc,if_neg hc];exact .inr ⟨rfl,rfl⟩
structure HdAt(w:World)(b:Nat)(h:Hd):Prop where
 c0:w.cell? ⟨b,0,none⟩=some (.int .i64 h.kind)
 c1:w.cell? ⟨b,1,none⟩=some (.int .i64 h.size)
 c2:w.cell? ⟨b,2,none⟩=some (.int .i64 h.ptrs)
 c3:w.cell? ⟨b,3,none⟩=some (.int .i64 h.age)
 c4:w.cell? ⟨b,4,none⟩=some (.int .i64 h.to)
theorem HdAt.of{w:World}{b:Nat}{t:TypeId}{h:Hd}(hb:Blk w b t h.cells):HdAt w b h:=⟨hb.cell 0,hb.cell 1,hb.cell 2,hb.cell 3,hb.cell 4⟩
theorem HdAt.fr{w w':World}{b:Nat}{h:Hd}{F:List Nat}(hb:HdAt w b h)(hf:Fr F w w')(hF:b∉F):HdAt w' b h:=
 ⟨(hf.cell (lt_of_cell hb.c0) hF).trans hb.c0,(hf.cell (lt_of_cell hb.c1) hF).trans hb.c1,(hf.cell (lt_of_cell hb.c2) hF).trans hb.c2,(hf.cell (lt_of_cell hb.c3) hF).trans hb.c3,(hf.cell (lt_of_cell hb.c4) hF).trans hb.c4⟩
theorem Hd.zero_cells{w:World}{b:Nat}{t:TypeId}(h:Blk w b t Hd.zero.cells) :
  (w.cell? ⟨b,0,none⟩=some (.int .i64 0)∧w.cell? ⟨b,1,none⟩=some (.int .i64 0)∧w.cell? ⟨b,2,none⟩=some (.int .i64 0)∧w.cell? ⟨b,3,none⟩=some (.int .i64 0)∧w.cell? ⟨b,4,none⟩=some (.int .i64 0)) ∧
  w.frozen? ⟨b,0,none⟩=false∧w.frozen? ⟨b,1,none⟩=false∧w.frozen? ⟨b,2,none⟩=false∧w.frozen? ⟨b,3,none⟩=false∧w.frozen? ⟨b,4,none⟩=false:=
 ⟨⟨h.cell 0,h.cell 1,h.cell 2,h.cell 3,h.cell 4⟩,h.frozen 0,h.frozen 1,h.frozen 2,h.frozen 3,h.frozen 4⟩
theorem part_bits(x s k:Nat)(hx:x<18446744073709551616)(hk:k<63) :
  wrap64 (bits BinOp.and IntKind.u64 ((x:Int) / 2 ^ s) (IntKind.u64.wrap (IntKind.u64.wrap (2 ^ k)-1)))=((x / 2 ^ s % 2 ^ k:Nat):Int):=by
 have hp:2 ^ k<9223372036854775808:=Nat.pow_lt_pow_of_lt (a:=2) (n:=k) (m:=63) (by decide) hk
 have hp0:0<2 ^ k:=Nat.two_pow_pos _
 have e0:(2:Int) ^ k=((2 ^ k:Nat):Int):=(Int.natCast_pow 2 _).symm
 have e2:(x:Int) / 2 ^ s=((x / 2 ^ s:Nat):Int):=by push_cast;rfl
 have e1:IntKind.u64.wrap (IntKind.u64.wrap (2 ^ k)-1)=((2 ^ k-1:Nat):Int):=by
  rw [e0,IntKind.wrap_u64,IntKind.wrap_u64]
  generalize 2 ^ k=p at *
  omega
 have h1:x / 2 ^ s<18446744073709551616:=Nat.lt_of_le_of_lt (Nat.div_le_self _ _) hx
 rw [e1,e2,u64_and_nat _ _ h1 (by omega),Nat.and_two_pow_sub_one_eq_mod]
 have h2:x / 2 ^ s % 2 ^ k<2 ^ k:=Nat.mod_lt _ hp0
 exact IntWalk.wrap64_in _ ⟨by omega,by omega⟩
theorem or_add{x y i:Nat}(hx:x<2 ^ i):x ||| 2 ^ i*y=x+2 ^ i*y:=by
 rw [Nat.or_comm,Nat.add_comm,Nat.two_pow_add_eq_or_of_lt hx]
theorem u64_or_add(i:Nat){x y:Nat}(hx:x<2 ^ i)(hi:2 ^ i≤18446744073709551616)(hy:2 ^ i*y<18446744073709551616) :
  bits .or .u64 (x:Int) ((2 ^ i*y:Nat):Int)=((x+2 ^ i*y:Nat):Int):=by
 rw [u64_or_nat _ _ (by omega) hy,or_add hx]
theorem u64_or_mul(i:Nat){x y M:Int}(hM:M=((2 ^ i:Nat):Int))(x0:0≤x)(x1:x<M)(hm:M≤18446744073709551616)(y0:0≤y)(y1:y*M<18446744073709551616) :
  bits .or .u64 x (y*M)=x+y*M:=by
 obtain⟨X,rfl⟩:=Int.eq_ofNat_of_zero_le x0
 obtain⟨Y,rfl⟩:=Int.eq_ofNat_of_zero_le y0
 subst hM
 have e:(Y:Int)*((2 ^ i:Nat):Int)=((2 ^ i*Y:Nat):Int):=by rw [Int.natCast_mul,Int.mul_comm]
 rw [e]at y1 ⊢
 rw [u64_or_add i (by omega) (by omega) (by omega),Int.natCast_add]
theorem u64_or_zero{x:Int}(x0:0≤x)(hx:x<18446744073709551616):bits .or .u64 x 0=x:=by
 obtain⟨X,rfl⟩:=Int.eq_ofNat_of_zero_le x0
 have:=u64_or_nat X 0 (by omega) (by decide)
 simpa using this
theorem Hd.Right.join{k s p a t:Int}(r:(Hd.mk k s p a t).Right) :
  bits .or .u64 (bits .or .u64 (bits .or .u64 (bits .or .u64 k (s*4)) (p*8388608)) (a*17592186044416)) (t*8388608)=(Hd.mk k s p a t).word:=by
 have hw:=r.ways
 simp only at hw
 have hb:(0≤k∧k≤3)∧(0≤s∧s≤1048576)∧(0≤p∧p<1048576)∧(0≤a∧a≤7)∧(0≤t∧t<4194304)∧((p=0∧a=0)∨t=0):=by omega
 obtain⟨⟨k0,k1⟩,⟨s0,s1⟩,⟨p0,p1⟩,⟨a0,a1⟩,⟨t0,t1⟩,ht⟩:=hb
 unfold Hd.word
 simp only
 rw [u64_or_mul 2 (M:=4) (by decide) k0 (by omega) (by decide) s0 (by omega)]
 rcases ht with⟨rfl,rfl⟩ | rfl
 ·rw [Int.zero_mul,Int.zero_mul,u64_or_zero (x:=k+s*4) (by omega) (by omega),u64_or_zero (x:=k+s*4) (by omega) (by omega),u64_or_mul 23 (M:=8388608) (by decide) (by omega) (by omega) (by decide) t0 (by omega)]
  omega
 ·rw [u64_or_mul 23 (M:=8388608) (by decide) (by omega) (by omega) (by decide) p0 (by omega),u64_or_mul 44 (M:=17592186044416) (by decide) (by omega) (by omega) (by decide) a0 (by omega),Int.zero_mul,u64_or_zero (by omega) (by omega)]
  omega
theorem b_true{b:Bool}(h:¬ b=true):b=false:=by simpa using h
theorem Hd.ways(h:Hd) :
  (h.kind=0∧h.size=0∧h.ptrs=0∧h.age=0∧h.to=0∧Hid (h.rightB=true))∨(h.kind=0∧¬ h.size=0∧Hid (h.rightB=false))∨(h.kind=0∧h.size=0∧¬ h.ptrs=0∧Hid (h.rightB=false))∨(h.kind=0∧h.size=0∧h.ptrs=0∧¬ h.age=0∧Hid (h.rightB=false))∨(h.kind=0∧h.size=0∧h.ptrs=0∧h.age=0∧¬ h.to=0∧Hid (h.rightB=false)) ∨
  (h.kind=1∧inB h.size 1 1048576=true∧inB h.ptrs 0 (h.size-1)=true∧inB h.age 0 7=true∧h.to=0∧Hid (h.rightB=true))∨(h.kind=1∧inB h.size 1 1048576=false∧Hid (h.rightB=false))∨(h.kind=1∧inB h.size 1 1048576=true∧inB h.ptrs 0 (h.size-1)=false∧Hid (h.rightB=false))∨(h.kind=1∧inB h.size 1 1048576=true∧inB h.ptrs 0 (h.size-1)=true∧inB h.age 0 7=false∧Hid (h.rightB=false))∨(h.kind=1∧inB h.size 1 1048576=true∧inB h.ptrs 0 (h.size-1)=true∧inB h.age 0 7=true∧¬ h.to=0∧Hid (h.rightB=false)) ∨
  (h.kind=2∧inB h.size 1 1048576=true∧h.ptrs=0∧h.age=0∧h.to=0∧Hid (h.rightB=true))∨(h.kind=2∧inB h.size 1 1048576=false∧Hid (h.rightB=false))∨(h.kind=2∧inB h.size 1 1048576=true∧¬ h.ptrs=0∧Hid (h.rightB=false))∨(h.kind=2∧inB h.size 1 1048576=true∧h.ptrs=0∧¬ h.age=0∧Hid (h.rightB=false))∨(h.kind=2∧inB h.size 1 1048576=true∧h.ptrs=0∧h.age=0∧¬ h.to=0∧Hid (h.rightB=false)) ∨
  (h.kind=3∧inB h.size 1 1048576=true∧inB h.to 0 4194303=true∧h.ptrs=0∧h.age=0∧Hid (h.rightB=true))∨(h.kind=3∧inB h.size 1 1048576=false∧Hid (h.rightB=false))∨(h.kind=3∧inB h.size 1 1048576=true∧inB h.to 0 4194303=false∧Hid (h.rightB=false))∨(h.kind=3∧inB h.size 1 1048576=true∧inB h.to 0 4194303=true∧¬ h.ptrs=0∧Hid (h.rightB=false))∨(h.kind=3∧inB h.size 1 1048576=true∧inB h.to 0 4194303=true∧h.ptrs=0∧¬ h.age=0∧Hid (h.rightB=false)) ∨
  (¬ h.kind=0∧¬ h.kind=1∧¬ h.kind=2∧¬ h.kind=3∧Hid (h.rightB=false)):=by
 unfold Hid
 have H:h.Right↔_:=⟨fun r=>r.ways,fun r=>⟨r⟩⟩
 simp only [Hd.rightB_iff,Hd.rightB_no]
 by_cases k0:h.kind=0
 ·simp only [k0,true_and,not_true,false_and,or_false,show ¬ (0:Int)=1 by decide,show ¬ (0:Int)=2 by decide,show ¬ (0:Int)=3 by decide]at H ⊢
  rw [H]
  clear H
  omega
 ·by_cases k1:h.kind=1
  ·simp only [k1,true_and,not_true,false_and,or_false,false_or,show ¬ (1:Int)=0 by decide,show ¬ (1:Int)=2 by decide,show ¬ (1:Int)=3 by decide,inB_iff,inB_no]at H ⊢
   rw [H]
   clear H
   omega
  ·by_cases k2:h.kind=2
   ·simp only [k2,true_and,not_true,false_and,or_false,false_or,show ¬ (2:Int)=0 by decide,show ¬ (2:Int)=1 by decide,show ¬ (2:Int)=3 by decide,inB_iff,inB_no]at H ⊢
    rw [H]
    clear H
    omega
   ·by_cases k3:h.kind=3
    ·simp only [k3,true_and,not_true,false_and,false_or,show ¬ (3:Int)=0 by decide,show ¬ (3:Int)=1 by decide,show ¬ (3:Int)=2 by decide,inB_iff,inB_no]at H ⊢
     rw [H]
     clear H
     omega
    ·simp only [k0,k1,k2,k3,false_and,or_false,false_or,not_false_eq_true,true_and]at H ⊢
     exact fun h=>H.1 h
open Go.RowKit
theorem Hd.of_cases(w:Int):(Hd.ofErr w=30∧Hd.of w=Hd.zero)∨(Hd.ofErr w=0∧Hd.of w=Hd.zero)∨(Hd.ofErr w=0∧¬ (Hd.of w).kind=0∧(Hd.of w).Right):=by
 rcases Hd.of_ways w with⟨h1,r,h2⟩ | ⟨h1,h2⟩
 ·by_cases hk:(Hd.of w).kind=0
  ·refine .inr (.inl ⟨h1,?_⟩)
   have hw:=r.ways
   generalize Hd.of w=h at *
   obtain⟨k,s,p,a,t⟩:=h
   simp only at hk hw
   unfold Hd.zero
   rw [Hd.mk.injEq]
   omega
  ·exact .inr (.inr ⟨h1,hk,r⟩)
 ·exact .inl ⟨h1,h2⟩
noncomputable def atH (n:Nat) (f:Nat→Nat) (i:Int):Hd:=if 0≤i∧i<(n:Int) then Hd.of (f i.toNat) else Hd.zero
noncomputable def atE (n:Nat) (f:Nat→Nat) (i:Int):Int:=if 0≤i∧i<(n:Int) then (if (Hd.of (f i.toNat)).kind=0 then 30 else 0) else 2
theorem at_in{n:Nat}{f:Nat→Nat}{k:Nat}(hk:k<n):atH n f (k:Int)=Hd.of (f k)∧atE n f (k:Int)=if (Hd.of (f k)).kind=0 then 30 else 0:=by
 unfold atH atE
 rw [if_pos (by omega),if_pos (by omega),Int.toNat_natCast]
 exact⟨rfl,rfl⟩
theorem at_ways(n:Nat)(f:Nat→Nat)(i:Int) :
  (∃k:Nat,i=(k:Int)∧k<n∧Hd.ofErr (f k)=30∧Hd.of (f k)=Hd.zero∧atH n f i=Hd.zero∧atE n f i=30) ∨
  (∃k:Nat,i=(k:Int)∧k<n∧Hd.ofErr (f k)=0∧Hd.of (f k)=Hd.zero∧atH n f i=Hd.zero∧atE n f i=30) ∨
  (∃k:Nat,i=(k:Int)∧k<n∧Hd.ofErr (f k)=0∧¬ (Hd.of (f k)).kind=0∧(Hd.of (f k)).Right∧atH n f i=Hd.of (f k)∧atE n f i=0) ∨
  (¬ (0≤i∧i<(n:Int))∧atH n f i=Hd.zero∧atE n f i=2):=by
 by_cases hi:0≤i∧i<(n:Int)
 ·obtain⟨k,rfl⟩:=Int.eq_ofNat_of_zero_le hi.1
  have hk:k<n:=by omega
  obtain⟨e1,e2⟩:=at_in (f:=f) hk
  rcases Hd.of_cases (f k)with⟨h1,h2⟩ | ⟨h1,h2⟩ | ⟨h1,h2,h3⟩
  ·exact .inl ⟨k,rfl,hk,h1,h2,by rw [e1,h2],by rw [e2,h2];rfl⟩
  ·exact .inr (.inl ⟨k,rfl,hk,h1,h2,by rw [e1,h2],by rw [e2,h2];rfl⟩)
  ·exact .inr (.inr (.inl ⟨k,rfl,hk,h1,h2,h3,e1,by rw [e2,if_neg h2]⟩))
 ·exact .inr (.inr (.inr ⟨hi,by unfold atH;rw [if_neg hi],by unfold atE;rw [if_neg hi]⟩))
theorem at_out(n:Nat)(f:Nat→Nat)(i:Int) :
  (atE n f i=2∧¬ (0≤i∧i<(n:Int))∧atH n f i=Hd.zero)∨(atE n f i=30∧(0≤i∧i<(n:Int))∧atH n f i=Hd.zero)∨(atE n f i=0∧(0≤i∧i<(n:Int))∧¬ (atH n f i).kind=0∧(atH n f i).Right):=by
 rcases at_ways n f i with⟨k,rfl,hk,h1,h2,h3,h4⟩ | ⟨k,rfl,hk,h1,h2,h3,h4⟩ | ⟨k,rfl,hk,h1,h2,h3,h4,h5⟩ | ⟨hi,h1,h2⟩
 ·exact .inr (.inl ⟨h4,by omega,h3⟩)
 ·exact .inr (.inl ⟨h4,by omega,h3⟩)
 ·exact .inr (.inr ⟨h5,by omega,by rw [h4];exact h2,by rw [h4];exact h3⟩)
 ·exact .inl ⟨h2,hi,h1⟩
def bndE(n:Nat)(a b:Int):Int:=if 0≤a∧a≤b∧b≤(n:Int) then 0 else 2
theorem bnd_ways(n:Nat)(a b:Int):(∃A B:Nat,a=(A:Int)∧b=(B:Int)∧A≤B∧B≤n∧bndE n a b=0)∨(a<0∧bndE n a b=2)∨(0≤a∧b<a∧bndE n a b=2)∨(0≤a∧a≤b∧(n:Int)<b∧bndE n a b=2):=by
 unfold bndE
 by_cases h:0≤a∧a≤b∧b≤(n:Int)
 ·rw [if_pos h]
  exact .inl ⟨a.toNat,b.toNat,by omega,by omega,by omega,by omega,rfl⟩
 ·rw [if_neg h]
  omega
def StepOk(f:Nat→Nat)(a b:Nat):Prop:=((Hd.of (f a)).kind=1∨(Hd.of (f a)).kind=2)∧(Hd.of (f a)).size≤(b:Int)-(a:Int)
open Classical in
noncomputable def strF (f:Nat→Nat) (b:Nat):Nat→Nat→Option (List Int)
 | 0,a=>if a<b then none else some []
 | k+1,a=>if a<b then (if StepOk f a b then (strF f b k (a+(Hd.of (f a)).size.toNat)).map ((a:Int)::·) else none) else some []
theorem rowF_end{f:Nat→Nat}{b k a:Nat}(h:¬ a<b):strF f b k a=some []:=by
 cases k <;> simp [strF,h]
theorem rowF_no{f:Nat→Nat}{b k a:Nat}(h:a<b)(hs:¬ StepOk f a b):strF f b k a=none:=by
 cases k <;> simp [strF,h,hs]
theorem rowF_go{f:Nat→Nat}{b k a s:Nat}(h:a<b)(hs:StepOk f a b)(e:(Hd.of (f a)).size=(s:Int)):strF f b (k+1) a=(strF f b k (a+s)).map ((a:Int)::·):=by
 simp only [strF,if_pos h,if_pos hs,e,Int.toNat_natCast]
noncomputable def startsO (f:Nat→Nat) (a b:Nat):Option (List Int):=strF f b (b-a) a
noncomputable def startsL (n:Nat) (f:Nat→Nat) (a b:Int):List Int:=if bndE n a b=0 then (startsO f a.toNat b.toNat).getD [] else []
noncomputable def startsE (n:Nat) (f:Nat→Nat) (a b:Int):Int:=if bndE n a b=0 then (match startsO f a.toNat b.toNat with | some _=>0 | none=>30) else 2
theorem starts_out{n:Nat}{f:Nat→Nat}{a b:Int}(h:bndE n a b=2):startsL n f a b=[]∧startsE n f a b=2:=by
 unfold startsL startsE
 rw [h]
 exact⟨rfl,rfl⟩
theorem starts_some{n:Nat}{f:Nat→Nat}{A B:Nat}{l:List Int}(h:bndE n A B=0)(hs:startsO f A B=some l):startsL n f A B=l∧startsE n f A B=0:=by
 unfold startsL startsE
 rw [h,Int.toNat_natCast,Int.toNat_natCast,hs]
 exact⟨rfl,rfl⟩
theorem starts_none{n:Nat}{f:Nat→Nat}{A B:Nat}(h:bndE n A B=0)(hs:startsO f A B=none):startsL n f A B=[]∧startsE n f A B=30:=by
 unfold startsL startsE
 rw [h,Int.toNat_natCast,Int.toNat_natCast,hs]
 exact⟨rfl,rfl⟩
structure Going(f:Nat→Nat)(O:Option (List Int))(b A:Nat)(acc:List Int):Prop where
 le:A≤b
 len:acc.length≤A
 eq:∃k,b-A≤k∧O=(strF f b k A).map (acc++·)
theorem Going.start(f:Nat→Nat){a b:Nat}(h:a≤b):Going f (startsO f a b) b a []:=⟨h,Nat.zero_le _,b-a,Nat.le_refl _,by simp [startsO]⟩
theorem Going.done{f:Nat→Nat}{O:Option (List Int)}{b A:Nat}{acc:List Int}(g:Going f O b A acc)(h:¬ A<b):O=some acc:=by
 obtain⟨k,_,e⟩:=g.eq
 rw [e,rowF_end h];simp
theorem Going.broken{f:Nat→Nat}{O:Option (List Int)}{b A:Nat}{acc:List Int}(g:Going f O b A acc)(h:A<b)(hs:¬ StepOk f A b):O=none:=by
 obtain⟨k,_,e⟩:=g.eq
 rw [e,rowF_no h hs];rfl
theorem Going.next{f:Nat→Nat}{O:Option (List Int)}{b A s:Nat}{acc:List Int}(g:Going f O b A acc)(h:A<b)(hs:StepOk f A b)(e:(Hd.of (f A)).size=(s:Int))(hs1:1≤s):Going f O b (A+s) (acc++[(A:Int)]):=by
 obtain⟨k,hk,eq⟩:=g.eq
 have:=hs.2
 refine⟨by omega,by have:=g.len;simp;omega,?_⟩
 match k,hk with
 | 0,hk=>omega
 | k+1,hk=>
  refine⟨k,by omega,?_⟩
  rw [eq,rowF_go h hs e,Option.map_map]
  congr 1
  funext l
  simp
def refs(a p:Nat):List Int:=(List.range p).map fun (j:Nat)=>(a:Int)+1+(j:Int)
theorem refs_len(a p:Nat):(refs a p).length=p:=by simp [refs]
theorem refs_at{a p j:Nat}(h:j<p):(refs a p).getD j 0=(a:Int)+1+(j:Int):=by simp [refs,h]
def FieldsOk(n:Nat)(f:Nat→Nat)(i:Int):Prop:=(atH n f i).kind=1∧(atH n f i).size≤(n:Int)-i
open Classical in
noncomputable def fieldsL (n:Nat) (f:Nat→Nat) (i:Int):List Int:=if atE n f i=0∧FieldsOk n f i then refs i.toNat (atH n f i).ptrs.toNat else []
open Classical in
noncomputable def fieldsE (n:Nat) (f:Nat→Nat) (i:Int):Int:=if atE n f i=0 then (if FieldsOk n f i then 0 else 30) else atE n f i
theorem fields_err{n:Nat}{f:Nat→Nat}{i:Int}(h:¬ atE n f i=0):fieldsL n f i=[]∧fieldsE n f i=atE n f i:=by
 unfold fieldsL fieldsE
 rw [if_neg (fun x=>h x.1),if_neg h]
 exact⟨rfl,rfl⟩
theorem fields_no{n:Nat}{f:Nat→Nat}{i:Int}(h:atE n f i=0)(h2:¬ FieldsOk n f i):fieldsL n f i=[]∧fieldsE n f i=30:=by
 unfold fieldsL fieldsE
 rw [if_neg (fun x=>h2 x.2),if_pos h,if_neg h2]
 exact⟨rfl,rfl⟩
theorem fields_yes{n:Nat}{f:Nat→Nat}{i:Int}(h:atE n f i=0)(h2:FieldsOk n f i):fieldsL n f i=refs i.toNat (atH n f i).ptrs.toNat∧fieldsE n f i=0:=by
 unfold fieldsL fieldsE
 rw [if_pos ⟨h,h2⟩,if_pos h,if_pos h2]
 exact⟨rfl,rfl⟩
def objH(size ptrs:Int):Hd:=⟨1,size,ptrs,0,0⟩
def fillH(size:Int):Hd:=⟨2,size,0,0,0⟩
theorem objH_right{size ptrs:Int}:(objH size ptrs).Right↔(1≤size∧size≤1048576)∧0≤ptrs∧ptrs<size:=by
 refine⟨fun r=>?_,fun h=>⟨?_⟩⟩
 ·have:=r.ways;unfold objH at this;simp only at this;omega
 ·unfold objH;exact .inr (.inl ⟨rfl,h.1,h.2,(by simp only;omega),rfl⟩)
def fillW(s:Nat):Nat:=2+4*s
def objW(s p:Nat):Nat:=1+4*s+8388608*p
theorem objH_word(s p:Nat):(objH (s:Int) (p:Int)).word=((objW s p:Nat):Int):=by unfold objH Hd.word objW;simp only;omega
theorem of_objW{s p:Nat}(h:1≤s∧s≤1048576)(hp:p<s):Hd.of ((objW s p:Nat):Int)=objH s p:=by
 have:=(objH_right (size:=(s:Int)) (ptrs:=(p:Int)).2 (by omega)).of.1
 rw [objH_word]at this
 exact this
def MakeOk(n:Nat)(i:Int)(size:Int):Prop:=0≤i∧0≤size∧i+size≤(n:Int)
open Classical in
noncomputable def makeE (n:Nat) (i size ptrs:Int):Int:=if (objH size ptrs).Right then (if MakeOk n i size then 0 else 2) else 3
open Classical in
noncomputable def makeF (n:Nat) (f:Nat→Nat) (i size ptrs:Int):Nat→Nat:=
 if (objH size ptrs).Right∧MakeOk n i size then upd (updRow f i.toNat size.toNat (fun _=>0)) i.toNat (objW size.toNat ptrs.toNat) else f
theorem make_ways(n:Nat)(f:Nat→Nat)(i size ptrs:Int) :
  (¬ (objH size ptrs).Right∧makeE n i size ptrs=3∧makeF n f i size ptrs=f) ∨
  ((objH size ptrs).Right∧¬ MakeOk n i size∧makeE n i size ptrs=2∧makeF n f i size ptrs=f) ∨
  (∃I S P:Nat,i=(I:Int)∧size=(S:Int)∧ptrs=(P:Int)∧(1≤S∧S≤1048576)∧P<S∧I+S≤n∧(objH size ptrs).Right∧(objH size ptrs).word=((objW S P:Nat):Int)∧makeE n i size ptrs=0∧makeF n f i size ptrs=upd (updRow f I S (fun _=>0)) I (objW S P)):=by
 unfold makeE makeF
 by_cases h1:(objH size ptrs).Right
 ·by_cases h2:MakeOk n i size
  ·refine .inr (.inr ⟨i.toNat,size.toNat,ptrs.toNat,?_⟩)
   have h3:=objH_right.1 h1
   have h4:=h2
   unfold MakeOk at h4
   have a1:i=(i.toNat:Int):=by omega
   have a2:size=(size.toNat:Int):=by omega
   have a3:ptrs=(ptrs.toNat:Int):=by omega
   refine⟨a1,a2,a3,by omega,by omega,by omega,h1,?_,by rw [if_pos h1,if_pos h2],by rw [if_pos ⟨h1,h2⟩]⟩
   rw [← objH_word,← a2,← a3]
  ·exact .inr (.inl ⟨h1,h2,by rw [if_pos h1,if_neg h2],by rw [if_neg (fun x=>h2 x.2)]⟩)
 ·exact .inl ⟨h1,by rw [if_neg h1],by rw [if_neg (fun x=>h1 x.1)]⟩
theorem objW_lt{S P:Nat}(h:S≤1048576)(hp:P<S):objW S P<18446744073709551616:=by unfold objW;omega
def fillF:Nat→(Nat→Nat)→Nat→Nat→(Nat→Nat)
 | 0,f,_,_=>f
 | k+1,f,a,b=>if a<b then fillF k (upd f a (fillW (min (b-a) 1048576))) (a+min (b-a) 1048576) b else f
theorem fillF_end{k:Nat}{f:Nat→Nat}{a b:Nat}(h:¬ a<b):fillF k f a b=f:=by
 cases k <;> simp [fillF,h]
def IsRow(f:Nat→Nat):Nat→List Int→Nat→Prop
 | a,[],b=>a=b
 | a,x::l,b=>x=(a:Int)∧∃s:Nat,1≤s∧(Hd.of (f a)).size=(s:Int)∧((Hd.of (f a)).kind=1∨(Hd.of (f a)).kind=2)∧a+s≤b∧IsRow f (a+s) l b
theorem IsRow.le{f:Nat→Nat}:∀ {l:List Int} {a b:Nat},IsRow f a l b→a+l.length≤b:=by
 intro l
 induction l with
 | nil=>intro a b h;unfold IsRow at h;simp;omega
 | cons x l ih=>
  intro a b h
  obtain⟨_,s,h1,_,_,h2,h3⟩:=h
  have:=ih h3
  simp
  omega
theorem IsRow.starts{f:Nat→Nat}{b:Nat}:∀ {l:List Int} {a:Nat} (k:Nat),b-a≤k→IsRow f a l b→strF f b k a=some l:=by
 intro l
 induction l with
 | nil=>intro a k _ h;unfold IsRow at h;exact rowF_end (by omega)
 | cons x l ih=>
  intro a k hk h
  obtain⟨rfl,s,h1,h2,h3,h4,h5⟩:=h
  match k,hk with
  | 0,hk=>omega
  | k+1,hk=>rw [rowF_go (by omega) ⟨h3,by omega⟩ h2,ih k (by omega) h5];rfl
theorem IsRow.broken{f:Nat→Nat}{b c:Nat}(hbc:b<c)(hs:¬ StepOk f b c):∀ {l:List Int} {a:Nat} (k:Nat),c-a≤k→IsRow f a l b→strF f c k a=none:=by
 intro l
 induction l with
 | nil=>intro a k _ h;unfold IsRow at h;subst h;exact rowF_no hbc hs
 | cons x l ih=>
  intro a k hk h
  obtain⟨rfl,s,h1,h2,h3,h4,h5⟩:=h
  match k,hk with
  | 0,hk=>omega
  | k+1,hk=>rw [rowF_go (by omega) ⟨h3,by omega⟩ h2,ih k (by omega) h5];rfl
theorem IsRow.same{f f':Nat→Nat}{b:Nat}(hf:∀j,j<b→f' j=f j):∀ {l:List Int} {a:Nat},IsRow f a l b→IsRow f' a l b:=by
 intro l
 induction l with
 | nil=>intro a h;exact h
 | cons x l ih=>
  intro a h
  obtain⟨rfl,s,h1,h2,h3,h4,h5⟩:=h
  refine⟨rfl,s,h1,?_,?_,h4,ih h5⟩
  ·rw [hf a (by omega)];exact h2
  ·rw [hf a (by omega)];exact h3
theorem IsRow.snoc{f:Nat→Nat}{b s:Nat}(h1:1≤s)(h2:(Hd.of (f b)).size=(s:Int))(h3:(Hd.of (f b)).kind=1∨(Hd.of (f b)).kind=2):∀ {l:List Int} {a:Nat},IsRow f a l b→IsRow f a (l++[(b:Int)]) (b+s):=by
 intro l
 induction l with
 | nil=>
  intro a h
  unfold IsRow at h
  subst h
  exact⟨rfl,s,h1,h2,h3,Nat.le_refl _,rfl⟩
 | cons x l ih=>
  intro a h
  obtain⟨rfl,t,g1,g2,g3,g4,g5⟩:=h
  exact⟨rfl,t,g1,g2,g3,by omega,ih g5⟩
theorem bndE_in{n A B:Nat}(h1:A≤B)(h2:B≤n):bndE n (A:Int) (B:Int)=0:=by
 unfold bndE;rw [if_pos (by omega)]
theorem IsRow.ans{n:Nat}{f:Nat→Nat}{A B:Nat}{l:List Int}(hn:B≤n)(h:IsRow f A l B):startsL n f A B=l∧startsE n f A B=0:=
 starts_some (bndE_in (by have:=h.le;omega) hn) (h.starts _ (Nat.le_refl _))
theorem rowF_len{f:Nat→Nat}{b:Nat}:∀ {k a:Nat} {l:List Int},strF f b k a=some l→l.length≤k:=by
 intro k
 induction k with
 | zero=>
  intro a l h
  by_cases hab:a<b
  ·simp [strF,hab]at h
  ·rw [rowF_end hab]at h;injection h with h;subst h;simp
 | succ k ih=>
  intro a l h
  by_cases hab:a<b
  ·by_cases hs:StepOk f a b
   ·simp only [strF,if_pos hab,if_pos hs]at h
    cases hr:strF f b k (a+(Hd.of (f a)).size.toNat)with
    | none=>rw [hr]at h;cases h
    | some l'=>
     rw [hr]at h
     injection h with h
     subst h
     have:=ih hr
     simp;omega
   ·rw [rowF_no hab hs]at h;cases h
  ·rw [rowF_end hab]at h;injection h with h;subst h;simp
theorem starts_len(n:Nat)(f:Nat→Nat)(a b:Int):(startsL n f a b).length≤n:=by
 unfold startsL
 by_cases h:bndE n a b=0
 ·rw [if_pos h]
  cases hr:startsO f a.toNat b.toNat with
  | none=>simp
  | some l=>
   have:=rowF_len hr
   have hb:b≤(n:Int):=by
    rcases bnd_ways n a b with⟨_,_,h1,h2,h3,h4,_⟩ | h1 | h1 | h1 <;> omega
   simp
   omega
 ·rw [if_neg h];simp
theorem fields_len(n:Nat)(f:Nat→Nat)(i:Int):(fieldsL n f i).length≤1048576:=by
 by_cases h:atE n f i=0
 ·by_cases h2:FieldsOk n f i
  ·rw [(fields_yes h h2).1,refs_len]
   rcases at_out n f i with⟨h3,_⟩ | ⟨h3,_⟩ | ⟨_,_,_,r⟩
   ·omega
   ·omega
   ·have:=r.ways;omega
  ·rw [(fields_no h h2).1];simp
 ·rw [(fields_err h).1];simp
theorem make_in{n I S P:Nat}(f:Nat→Nat)(hS:1≤S∧S≤1048576)(hP:P<S)(hn:I+S≤n):makeE n I S P=0∧makeF n f I S P=upd (updRow f I S (fun _=>0)) I (objW S P):=by
 have r:(objH (S:Int) (P:Int)).Right:=objH_right.2 (by omega)
 have m:MakeOk n (I:Int) (S:Int):=by unfold MakeOk;omega
 unfold makeE makeF
 rw [if_pos r,if_pos m,if_pos ⟨r,m⟩]
 exact⟨rfl,rfl⟩
structure Filling(F f:Nat→Nat)(b A:Nat):Prop where
 le:A≤b
 eq:∃k,b-A≤k∧F=fillF k f A b
theorem Filling.start(f:Nat→Nat){a b:Nat}(h:a≤b):Filling (fillF (b-a) f a b) f b a:=⟨h,b-a,Nat.le_refl _,rfl⟩
theorem Filling.done{F f:Nat→Nat}{b A:Nat}(g:Filling F f b A)(h:¬ A<b):F=f:=by
 obtain⟨k,_,e⟩:=g.eq
 rw [e,fillF_end h]
theorem Filling.next{F f:Nat→Nat}{b A s:Nat}(g:Filling F f b A)(h:A<b)(hs:s=min (b-A) 1048576):Filling F (upd f A (fillW s)) b (A+s):=by
 obtain⟨k,hk,e⟩:=g.eq
 refine⟨by omega,?_⟩
 match k,hk with
 | 0,hk=>omega
 | k+1,hk=>
  refine⟨k,by omega,?_⟩
  rw [e,fillF,if_pos h,hs]
def fillN(n:Nat)(f:Nat→Nat)(a b:Int):Nat→Nat:=if bndE n a b=0 then fillF (b.toNat-a.toNat) f a.toNat b.toNat else f
def vals(l:List Int):List Value:=l.map (Value.int .i64)
theorem vals_app(a b:List Int):vals (a++b)=vals a++vals b:=by simp [vals]
def memI(n:Nat)(f:Nat→Int):Array Value:=((List.range n).map fun (k:Nat)=>Value.int .i64 (f k)).toArray
def updI(f:Nat→Int)(k:Nat)(x:Int):Nat→Int:=fun j=>if j=k then x else f j
theorem memI_size(n:Nat)(f:Nat→Int):(memI n f).size=n:=by simp [memI]
theorem memI_at{n:Nat}{f:Nat→Int}{k:Nat}(h:k<n):(memI n f)[k]?=some (.int .i64 (f k)):=by
 unfold memI
 simp [h]
theorem memI_ext{n:Nat}{f:Nat→Int}{cs:Array Value}(hs:cs.size=n)(h:∀k,k<n→cs[k]?=some (.int .i64 (f k))):cs=memI n f:=by
 apply Array.ext
 ·rw [hs,memI_size]
 ·intro i h1 h2
  have a1:=h i (by omega)
  have a2:=memI_at (f:=f) (show i<n by omega)
  rw [Array.getElem?_eq_getElem h1]at a1
  rw [Array.getElem?_eq_getElem h2]at a2
  exact Option.some.inj (a1.trans a2.symm)
theorem memI_set(n:Nat)(f:Nat→Int)(k:Nat)(x:Int):(memI n f).setIfInBounds k (.int .i64 x)=memI n (updI f k x):=by
 refine memI_ext (by simp [memI_size]) fun j hj=>?_
 rw [Array.getElem?_setIfInBounds]
 unfold updI
 by_cases h:k=j
 ·subst h
  rw [if_pos rfl,if_pos (by rw [memI_size];exact hj),if_pos rfl]
 ·rw [if_neg h,if_neg (Ne.symm h),memI_at hj]
theorem memI_zero(n:Nat):(List.replicate n (Value.int .i64 0)).toArray=memI n (fun _=>0):=memI_ext (by simp) fun k hk=>by simp [hk]
theorem memI_vals{l:List Int}{g:Nat→Int}(h:∀j,j<l.length→g j=l.getD j 0):memI l.length g=(vals l).toArray:=by
 refine(memI_ext (by simp [vals]) fun k hk=>?_).symm
 rw [h k hk]
 simp [vals,hk]
theorem Fr.five{F:List Nat}{a b:World}(h:Fr F a b){g:Nat}(hg:g∈F∨a.heap.size≤g)(u0 u1 u2 u3 u4:Value) :
  Fr F a (((((b.setCell ⟨g,0,none⟩ u0).setCell ⟨g,1,none⟩ u1).setCell ⟨g,2,none⟩ u2).setCell ⟨g,3,none⟩ u3).setCell ⟨g,4,none⟩ u4):=
 ((((h.setCell (p:=⟨g,0,none⟩) hg u0).setCell (p:=⟨g,1,none⟩) hg u1).setCell (p:=⟨g,2,none⟩) hg u2).setCell (p:=⟨g,3,none⟩) hg u3).setCell (p:=⟨g,4,none⟩) hg u4
def Own(base:Nat)(w:World)(A:Option Addr)(l:List Int):Prop:=
 0<l.length→∃b off,A=some ⟨b,off,none⟩∧base≤b∧b<w.heap.size∧∀k,k<l.length→w.cell? ⟨b,off+k,none⟩=some (.int .i64 (l.getD k 0))
theorem Own.nil(base:Nat)(w:World)(A:Option Addr):Own base w A []:=fun h=>absurd h (by decide)
theorem Own.fr{F:List Nat}{base:Nat}{w w':World}{A:Option Addr}{l:List Int}(h:Own base w A l)(hf:Fr F w w')(hF:∀x,x∈F→x<base∨w.heap.size≤x):Own base w' A l:=fun hn=>by
 obtain⟨b,off,h1,h2,h3,h4⟩:=h hn
 refine⟨b,off,h1,h2,Nat.lt_of_lt_of_le h3 hf.size,fun k hk=>(hf.cell (p:=⟨b,off+k,none⟩) h3 (fun hx=>?_)).trans (h4 k hk)⟩
 have:=hF _ hx
 simp only at this
 omega
theorem Own.low{base base':Nat}{w:World}{A:Option Addr}{l:List Int}(h:Own base w A l)(hb:base'≤base):Own base' w A l:=fun hn=>by
 obtain⟨b,off,h1,h2,h3⟩:=h hn
 exact⟨b,off,h1,by omega,h3⟩
theorem Own.sl{base:Nat}{w:World}{A:Option Addr}{l:List Int}(h:Own base w A l):Sl w A l.length (fun k=>.int .i64 (l.getD k 0)):=fun hn=>by
 obtain⟨b,off,h1,_,h3,h4⟩:=h hn
 exact⟨b,off,h1,h3,h4⟩
theorem Own.row{w:World}{base:Nat}{e:TypeId}{v:Value}{l:List Int}(h:w.ownsRow base e 1 v l.length (vals l)):∃A c,v=.slice A l.length c∧Own base w A l:=by
 rcases own_blk h with⟨rfl,h0,_⟩ | ⟨g,cap,cur,rfl,hb0,hb,h1,_,h2,h3,h4⟩
 ·obtain rfl:l=[]:=List.eq_nil_of_length_eq_zero h0
  exact⟨none,0,rfl,Own.nil _ _ _⟩
 ·refine⟨_,_,rfl,fun _=>⟨g,0,rfl,hb0,hb.lt,fun k hk=>?_⟩⟩
  rw [hb.cell,Nat.zero_add,← Array.getElem?_toList]
  have e1:(cur.toList.take l.length)[k]?=(vals l)[k]?:=by rw [h3]
  rw [List.getElem?_take_of_lt hk]at e1
  rw [e1]
  simp [vals,hk]
theorem Own.blk{w:World}{base g:Nat}{e:TypeId}{l:List Int}(h:Blk w g e (vals l).toArray)(hb:base≤g):Own base w (some ⟨g,0,none⟩) l:=fun _=>
 ⟨g,0,rfl,hb,h.lt,fun k hk=>by
  rw [h.cell,Nat.zero_add]
  simp [vals,hk]⟩
structure Grew(f f':Nat→Nat)(a s:Nat):Prop where
 low:∀j,j<a→f' j=f j
 high:∀j,a+s≤j→f' j=f j
end Go.Gl
