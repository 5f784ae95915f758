/- Several texts joined (pack.py): A1 H1. -/
import Derived.Test.YteacgfeiedcdiaaGreatDoorProg
import Derived.Test.YteacgfeiedcdiaaGreatDoorPW00
import Derived.WalkKit
import Derived.BigQuiet
import Derived.Test.YteacgfeiedcdiaaGreatDoorPW03
namespace Go.Proofs.YteacgfeiedcdiaaGreatDoor
set_option linter.unusedVariables false
set_option maxRecDepth 100000
open Go.RowKit Go.Gl
structure Ar(w:World)(ab aw n:Nat)(f:Nat→Nat)(c:Int):Prop where
 set:Blk w ab 120 #[.slice (some ⟨aw,0,none⟩) n n,.int .i64 c]
 row:Blk w aw 87 (memV n f)
 max:n≤4194304
 ok:∀k,f k<18446744073709551616
section
variable {w w':World}{ab aw n:Nat}{f:Nat→Nat}{c:Int}{F:List Nat}
theorem Ar.fr(h:Ar w ab aw n f c)(hf:Fr F w w')(h1:ab∉F)(h2:aw∉F):Ar w' ab aw n f c:=⟨h.set.fr hf h1,h.row.fr hf h2,h.max,h.ok⟩
theorem Ar.drewN(h:Ar w ab aw n f c)(k:Nat):Ar (w.drewN k) ab aw n f c:=⟨h.set,h.row,h.max,h.ok⟩
theorem Ar.drew(h:Ar w ab aw n f c):Ar w.drew ab aw n f c:=⟨h.set,h.row,h.max,h.ok⟩
theorem Ar.c0(h:Ar w ab aw n f c):w.cell? ⟨ab,0,none⟩=some (.slice (some ⟨aw,0,none⟩) n n):=by rw [h.set.cell];rfl
theorem Ar.c1(h:Ar w ab aw n f c):w.cell? ⟨ab,1,none⟩=some (.int .i64 c):=by rw [h.set.cell];rfl
theorem Ar.cw(h:Ar w ab aw n f c){k:Nat}(hk:k<n):w.cell? ⟨aw,k,none⟩=some (.int .u64 (f k:Int)):=by rw [h.row.cell,memV_at hk]
theorem Ar.ne(h:Ar w ab aw n f c):ab≠aw:=h.set.apart h.row (by decide)
theorem Ar.counted(h:Ar w ab aw n f c)(c':Int):Ar (w.setCell ⟨ab,1,none⟩ (.int .i64 c')) ab aw n f c':=
 ⟨h.set.put 1 (.int .i64 c'),h.row.far (p:=⟨ab,1,none⟩) h.ne.symm _,h.max,h.ok⟩
theorem Ar.stored(h:Ar w ab aw n f c)(k:Nat){x:Nat}(hx:x<18446744073709551616):Ar (w.setCell ⟨aw,k,none⟩ (.int .u64 (x:Int))) ab aw n (upd f k x) c:=by
 refine⟨h.set.far (p:=⟨aw,k,none⟩) h.ne _,?_,h.max,fun j=>?_⟩
 ·have:=h.row.put k (.int .u64 (x:Int))
  rw [memV_set]at this
  exact this
 ·unfold upd
  split
  ·exact hx
  ·exact h.ok j
end
theorem Tryz.info_u64a:(Tryz.prog.info? 87).map (fun i=>(i.zero,i.size,i.bytes))=some (some (.int .u64 0),1,8):=by kernel_rfl
def ArenaPost(w:World)(n:Nat)(e:Ending)(w':World):Prop:=
 ∃ab aw,e=.returned (.tuple #[.pointer (some ⟨ab,0,none⟩),.int .i64 0])∧Ar w' ab aw n (fun _=>0) 0∧Fr [] w w'∧w.heap.size≤ab∧w.heap.size≤aw
theorem anew_any(n:Nat)(h:n≤4194304)(w:World):Calls Tryz.prog 72 #[.int .i64 (n:Int)] w (ArenaPost w n):=by
 obtain⟨i0,hi,hz0,hz1,hz2⟩:=info_parts Tryz.info_u64a
 go_enter Tryz.func72,Tryz.ntmps72
 go_wp2_with (at_make;refine wpList_make_full _ rfl _ _ 60 rfl w.heap.size 87 i0 (.int .u64 0) 1 Tryz.underlying60 hi hz0 hz1 _ _ _ _ n rfl rfl rfl rfl (by rw [hz2];omega) (by unfold maxLen;omega) (Nat.le_refl _) ?_;intro w1 hown hgr;have HO:=hide hown;have HG:=hide hgr;clear hown hgr)
 go_ret2
 have hown:=HO.out
 rw [Nat.mul_one,made_one _ rfl]at hown
 have hb:=own_full hown
 refine⟨w1.heap.size,w.heap.size,rfl,⟨Blk.new _ _ _,?_,h,fun _=>by decide⟩,((Fr.refl _ _).grown HG.out (fun _ hk=>by cases hk)).alloc _,HG.out.size,Nat.le_refl _⟩
 have:memV n (fun _=>0)=(List.replicate n (Value.int .u64 0)).toArray:=by
  unfold memV
  congr 1
  apply List.ext_getElem <;> simp
 rw [this];exact hb.alloc _
theorem alen_any{w:World}{ab aw n:Nat}{f:Nat→Nat}{c:Int}(h:Ar w ab aw n f c):Calls Tryz.prog 157 #[.pointer (some ⟨ab,0,none⟩)] w fun e w'=>e=.returned (.int .i64 (n:Int))∧w=w':=by
 have h0:=h.c0
 clear h
 go_enter Tryz.func157,Tryz.ntmps157
 go_wp2
 go_ret
 exact⟨rfl,rfl⟩
theorem access_out{w:World}{ab aw n:Nat}{f:Nat→Nat}{c:Int}(h:Ar w ab aw n f c){i:Int}(hi:¬ (0≤i∧i<(n:Int))) :
  Calls Tryz.prog 88 #[.pointer (some ⟨ab,0,none⟩),.int .i64 i] w fun e w'=>e=.returned (.tuple #[.pointer none,.int .i64 2])∧w=w':=by
 have h0:=h.c0
 clear h
 by_cases c1:i<0
 ·clear hi
  go_enter Tryz.func88,Tryz.ntmps88
  go_wp2
  go_ret2
  exact⟨rfl,rfl⟩
 ·have c2:(n:Int)≤i:=by omega
  clear hi
  go_enter Tryz.func88,Tryz.ntmps88
  go_wp2
  go_ret2
  exact⟨rfl,rfl⟩
theorem access_in{w:World}{ab aw n:Nat}{f:Nat→Nat}{c:Int}(h:Ar w ab aw n f c){k:Nat}(hk:k<n) :
  Calls Tryz.prog 88 #[.pointer (some ⟨ab,0,none⟩),.int .i64 (k:Int)] w fun e w'=>
   e=.returned (.tuple #[.pointer (some ⟨aw,k,none⟩),.int .i64 0])∧w'=w.setCell ⟨ab,1,none⟩ (.int .i64 (wrap64 (c+1))):=by
 have h0:=h.c0
 have h1:=h.c1
 have hz:=h.set.frozen 1
 have h0':=(h.counted (wrap64 (c+1))).c0
 have c1:(k:Int)<(n:Int):=by omega
 clear h
 go_enter Tryz.func88,Tryz.ntmps88
 go_wp2
 go_ret2
 exact⟨rfl,rfl⟩
def Loaded(n:Nat)(f:Nat→Nat)(c:Int)(i:Int)(v:Nat)(er c':Int):Prop:=
 (0≤i∧i<(n:Int)∧v=f i.toNat∧er=0∧c'=wrap64 (c+1))∨(¬ (0≤i∧i<(n:Int))∧v=0∧er=2∧c'=c)
def LoadPost(w:World)(ab aw n:Nat)(f:Nat→Nat)(c i:Int)(e:Ending)(w':World):Prop:=
 ∃(v:Nat) (er c':Int),e=.returned (.tuple #[.int .u64 (v:Int),.int .i64 er])∧Ar w' ab aw n f c'∧Fr [ab] w w'∧Loaded n f c i v er c'
theorem load_any{w:World}{ab aw n:Nat}{f:Nat→Nat}{c:Int}(h:Ar w ab aw n f c)(i:Int) :
  Calls Tryz.prog 147 #[.pointer (some ⟨ab,0,none⟩),.int .i64 i] w (LoadPost w ab aw n f c i):=by
 by_cases hi:0≤i∧i<(n:Int)
 ·obtain⟨hi0,hi1⟩:=hi
  obtain⟨k,rfl⟩:=Int.eq_ofNat_of_zero_le hi0
  have hk:k<n:=by omega
  have HA:=hide (access_in h hk)
  have HC:=hide (h.counted (wrap64 (c+1)))
  have hw:=(h.counted (wrap64 (c+1))).cw hk
  clear h
  go_enter Tryz.func147,Tryz.ntmps147
  go_wp2_with (go_at_call 88;refine HA.out.mono ?_;rintro e w' ⟨rfl,rfl⟩)
  go_ret2
  exact⟨f k,0,_,rfl,HC.out,(Fr.refl _ _).setCell (p:=⟨ab,1,none⟩) (.inl (by simp)) _,.inl ⟨hi0,hi1,by rw [Int.toNat_natCast],rfl,rfl⟩⟩
 ·have HA:=hide (access_out h hi)
  have HI:=hide hi
  have H:=hide h
  clear h hi
  go_enter Tryz.func147,Tryz.ntmps147
  go_wp2_with (go_at_call 88;refine HA.out.mono ?_;rintro e w' ⟨rfl,rfl⟩)
  go_ret2
  exact⟨0,2,c,rfl,H.out,Fr.refl _ _,.inr ⟨HI.out,rfl,rfl,rfl⟩⟩
def Stored(n:Nat)(f:Nat→Nat)(c:Int)(i:Int)(x:Nat)(er:Int)(f':Nat→Nat)(c':Int):Prop:=
 (0≤i∧i<(n:Int)∧er=0∧f'=upd f i.toNat x∧c'=wrap64 (c+1))∨(¬ (0≤i∧i<(n:Int))∧er=2∧f'=f∧c'=c)
def StorePost(w:World)(ab aw n:Nat)(f:Nat→Nat)(c i:Int)(x:Nat)(e:Ending)(w':World):Prop:=
 ∃(er:Int) (f':Nat→Nat) (c':Int),e=.returned (.int .i64 er)∧Ar w' ab aw n f' c'∧Fr [ab,aw] w w'∧Stored n f c i x er f' c'
theorem store_any{w:World}{ab aw n:Nat}{f:Nat→Nat}{c:Int}(h:Ar w ab aw n f c)(i:Int)(x:Nat)(hx:x<18446744073709551616) :
  Calls Tryz.prog 37 #[.pointer (some ⟨ab,0,none⟩),.int .i64 i,.int .u64 (x:Int)] w (StorePost w ab aw n f c i x):=by
 by_cases hi:0≤i∧i<(n:Int)
 ·obtain⟨hi0,hi1⟩:=hi
  obtain⟨k,rfl⟩:=Int.eq_ofNat_of_zero_le hi0
  have hk:k<n:=by omega
  have HA:=hide (access_in h hk)
  have HC:=hide ((h.counted (wrap64 (c+1))).stored k hx)
  have hw:=(h.counted (wrap64 (c+1))).cw hk
  have hz:=(h.counted (wrap64 (c+1))).row.frozen k
  clear h
  go_enter Tryz.func37,Tryz.ntmps37
  go_wp2_with (go_at_call 88;refine HA.out.mono ?_;rintro e w' ⟨rfl,rfl⟩)
  go_ret
  exact⟨0,_,_,rfl,HC.out,((Fr.refl _ _).setCell (p:=⟨ab,1,none⟩) (.inl (by simp)) _).setCell (p:=⟨aw,k,none⟩) (.inl (by simp)) _,.inl ⟨hi0,hi1,rfl,by rw [Int.toNat_natCast],rfl⟩⟩
 ·have HA:=hide (access_out h hi)
  have HI:=hide hi
  have H:=hide h
  clear h hi
  go_enter Tryz.func37,Tryz.ntmps37
  go_wp2_with (go_at_call 88;refine HA.out.mono ?_;rintro e w' ⟨rfl,rfl⟩)
  go_ret
  exact⟨2,f,c,rfl,H.out,Fr.refl _ _,.inr ⟨HI.out,rfl,rfl,rfl⟩⟩
def HasRow(n:Nat)(i m:Int):Prop:=0≤i∧0≤m∧i+m≤(n:Int)
theorem row_out{w:World}{ab aw n:Nat}{f:Nat→Nat}{c:Int}(h:Ar w ab aw n f c){i m:Int}(hi1:i≤9223372036854775807)(hi:¬ HasRow n i m) :
  Calls Tryz.prog 139 #[.pointer (some ⟨ab,0,none⟩),.int .i64 i,.int .i64 m] w fun e w'=>e=.returned (.tuple #[.slice none 0 0,.int .i64 2])∧w=w':=by
 have h0:=h.c0
 have hmax:=h.max
 unfold HasRow at hi
 clear h
 by_cases c1:i<0
 ·clear hi
  go_enter Tryz.func139,Tryz.ntmps139
  go_wp2
  go_ret2
  exact⟨rfl,rfl⟩
 ·by_cases c2:m<0
  ·clear hi
   go_enter Tryz.func139,Tryz.ntmps139
   go_wp2
   go_ret2
   exact⟨rfl,rfl⟩
  ·have c3:(n:Int)-i<m:=by omega
   clear hi
   go_enter Tryz.func139,Tryz.ntmps139
   go_wp2
   go_ret2
   exact⟨rfl,rfl⟩
theorem ret_slice2{A:Option Addr}{c L m:Nat}{v:Value}(h:L=m):Ending.returned (.tuple #[.slice A L c,v])=.returned (.tuple #[.slice A m c,v]):=by rw [h]
def RowPost(w:World)(aw i m:Nat)(e:Ending)(w':World):Prop:=
 ∃A c,e=.returned (.tuple #[.slice A m c,.int .i64 0])∧(0<m→A=some ⟨aw,i,none⟩)∧w=w'
theorem row_in{w:World}{ab aw n:Nat}{f:Nat→Nat}{c:Int}(h:Ar w ab aw n f c){i m:Nat}(hi:i+m≤n) :
  Calls Tryz.prog 139 #[.pointer (some ⟨ab,0,none⟩),.int .i64 (i:Int),.int .i64 (m:Int)] w (RowPost w aw i m):=by
 have h0:=h.c0
 have hmax:=h.max
 clear h
 have c3:(m:Int)≤(n:Int)-(i:Int):=by omega
 by_cases hc:n=i
 ·have HC:=hide hc
  have HM:Hid (m=0):=by show m=0;omega
  go_enter Tryz.func139,Tryz.ntmps139
  go_wp2
  go_ret2
  have:=HM.out
  exact⟨_,_,ret_slice2 (by omega),fun h=>by omega,rfl⟩
 ·go_enter Tryz.func139,Tryz.ntmps139
  go_wp2
  go_ret2
  exact⟨_,_,ret_slice2 (by omega),fun _=>rfl,rfl⟩
theorem Tryz.zero_u64(w:World):(zeroValue 87).run Tryz.prog w=.ok (.int .u64 0) w:=by kernel_rfl
def Zeroed(n:Nat)(f:Nat→Nat)(i m:Int)(er:Int)(f':Nat→Nat):Prop:=
 (HasRow n i m∧er=0∧f'=updRow f i.toNat m.toNat (fun _=>0))∨(¬ HasRow n i m∧er=2∧f'=f)
def ZeroPost(w:World)(ab aw n:Nat)(f:Nat→Nat)(c i m:Int)(e:Ending)(w':World):Prop:=
 ∃(er:Int) (f':Nat→Nat),e=.returned (.int .i64 er)∧Ar w' ab aw n f' c∧Fr [aw] w w'∧Zeroed n f i m er f'
theorem zero_any{w:World}{ab aw n:Nat}{f:Nat→Nat}{c:Int}(h:Ar w ab aw n f c)(i m:Int)(hi1:i≤9223372036854775807) :
  Calls Tryz.prog 86 #[.pointer (some ⟨ab,0,none⟩),.int .i64 i,.int .i64 m] w (ZeroPost w ab aw n f c i m):=by
 by_cases hr:HasRow n i m
 ·obtain⟨h1,h2,h3⟩:=hr
  obtain⟨I,rfl⟩:=Int.eq_ofNat_of_zero_le h1
  obtain⟨M,rfl⟩:=Int.eq_ofNat_of_zero_le h2
  have hfit:I+M≤n:=by omega
  have HR:=hide (row_in h hfit)
  have H:=hide h
  have HE:=hide (memV_splice (n:=n) (f:=f) (off:=I) (m:=M) (cs:=List.replicate M (.int .u64 0)) (g:=fun _=>0) (by simp) hfit (fun j hj=>by simp [hj]))
  have HS:Hid ((memV n f).size=n):=memV_size _ _
  clear h
  go_enter Tryz.func86,Tryz.ntmps86
  go_wp2_with fail
  refine HR.out.mono ?_
  rintro e w' ⟨A,cc,rfl,hA,rfl⟩
  have HA:=hide hA
  clear hA
  go_wp2_with (with_reducible refine wpList_clear_blk rfl _ 60 rfl 87 Tryz.underlying60 Tryz.zero_u64 rfl rfl A M cc rfl aw I (memV n f) 87 H.out.row HA.out (by rw [HS.out];exact hfit) ?_)
  intro w2 hb hf
  go_wp2
  go_ret
  refine⟨0,_,rfl,⟨H.out.set.fr hf.out (by simpa using H.out.ne),?_,H.out.max,?_⟩,hf.out,.inl ⟨⟨h1,h2,h3⟩,rfl,rfl⟩⟩
  ·rw [Int.toNat_natCast,Int.toNat_natCast,← HE.out];exact hb.out
  ·intro j
   unfold updRow
   split
   ·show(0:Nat)<18446744073709551616
    decide
   ·exact H.out.ok j
 ·have HR:=hide (row_out h hi1 hr)
  have HI:=hide hr
  have H:=hide h
  clear h hr
  go_enter Tryz.func86,Tryz.ntmps86
  go_wp2_with (go_at_call 139;refine HR.out.mono ?_;rintro e w' ⟨rfl,rfl⟩)
  go_ret
  exact⟨2,f,rfl,H.out,Fr.refl _ _,.inr ⟨HI.out,rfl,rfl⟩⟩
theorem load_at{w:World}{ab aw n:Nat}{f:Nat→Nat}{c:Int}(h:Ar w ab aw n f c){i:Int}{k v:Nat}(hi:i=(k:Int))(hk:k<n)(hv:f k=v) :
  Calls Tryz.prog 147 #[.pointer (some ⟨ab,0,none⟩),.int .i64 i] w fun e w'=>e=.returned (.tuple #[.int .u64 (v:Int),.int .i64 0])∧Ar w' ab aw n f (wrap64 (c+1))∧Fr [ab] w w':=by
 subst hi hv
 refine(load_any h (k:Int)).mono ?_
 rintro e w' ⟨v,er,c',rfl,ha,hf,ht⟩
 rcases ht with⟨_,_,rfl,rfl,rfl⟩ | ⟨h1,_⟩
 ·exact⟨by rw [Int.toNat_natCast],ha,hf⟩
 ·exact absurd ⟨by omega,by omega⟩ h1
theorem store_at{w:World}{ab aw n:Nat}{f:Nat→Nat}{c:Int}(h:Ar w ab aw n f c){i y:Int}{k x:Nat}(hi:i=(k:Int))(hk:k<n)(hy:y=(x:Int))(hx:x<18446744073709551616) :
  Calls Tryz.prog 37 #[.pointer (some ⟨ab,0,none⟩),.int .i64 i,.int .u64 y] w fun e w'=>e=.returned (.int .i64 0)∧Ar w' ab aw n (upd f k x) (wrap64 (c+1))∧Fr [ab,aw] w w':=by
 subst hi hy
 refine(store_any h (k:Int) x hx).mono ?_
 rintro e w' ⟨er,f',c',rfl,ha,hf,ht⟩
 rcases ht with⟨_,_,rfl,rfl,rfl⟩ | ⟨h1,_⟩
 ·exact⟨rfl,by rw [Int.toNat_natCast]at ha;exact ha,hf⟩
 ·exact absurd ⟨by omega,by omega⟩ h1
theorem zero_at{w:World}{ab aw n:Nat}{f:Nat→Nat}{c:Int}(h:Ar w ab aw n f c){i m:Int}{I M:Nat}(hi:i=(I:Int))(hm:m=(M:Int))(h1:I+M≤n) :
  Calls Tryz.prog 86 #[.pointer (some ⟨ab,0,none⟩),.int .i64 i,.int .i64 m] w fun e w'=>e=.returned (.int .i64 0)∧Ar w' ab aw n (updRow f I M (fun _=>0)) c∧Fr [aw] w w':=by
 subst hi hm
 have hmax:=h.max
 refine(zero_any h (I:Int) (M:Int) (by omega)).mono ?_
 rintro e w' ⟨er,f',rfl,ha,hf,ht⟩
 rcases ht with⟨_,rfl,rfl⟩ | ⟨h2,_⟩
 ·exact⟨rfl,by simpa using ha,hf⟩
 ·exact absurd ⟨by omega,by omega,by omega⟩ h2
theorem hwithin_any(n lo hi:Int)(w:World):Calls Tryz.prog 161 #[.int .i64 n,.int .i64 lo,.int .i64 hi] w fun e w'=>e=.returned (.bool (inB n lo hi))∧w=w':=by
 go_enter Tryz.func161,Tryz.ntmps161
 go_wp2
 all_goals
  go_ret
  exact⟨ret_bool (by unfold inB;first | (simp [*];done) | (simp;omega)),rfl⟩
theorem hisSize_any(n:Int)(w:World):Calls Tryz.prog 160 #[.int .i64 n] w fun e w'=>e=.returned (.bool (inB n 1 1048576))∧w=w':=by
 go_enter Tryz.func160,Tryz.ntmps160
 go_wp2_with (go_at_call 161;refine(hwithin_any _ _ _ _).mono ?_;rintro e w' ⟨rfl,rfl⟩)
 go_ret
 exact⟨rfl,rfl⟩
theorem hpart_any(x:Nat)(hx:x<18446744073709551616)(s k:Nat)(hs:s<64)(hk:k<63)(w:World) :
  Calls Tryz.prog 197 #[.int .u64 (x:Int),.int .u64 (s:Int),.int .u64 (k:Int)] w fun e w'=>e=.returned (.int .i64 ((x / 2 ^ s % 2 ^ k:Nat):Int))∧w=w':=by
 go_enter Tryz.func197,Tryz.ntmps197
 go_wp2
 go_ret
 exact⟨ret_int (part_bits x s k hx hk),rfl⟩
theorem hjoin_any(h:Hd)(r:h.Right)(w:World):Calls Tryz.prog 138 #[h.val] w fun e w'=>e=.returned (.int .u64 h.word)∧Fr [] w w':=by
 obtain⟨k,s,p,a,t⟩:=h
 have hw:=r.ways
 have hb:(0≤k∧k≤3)∧(0≤s∧s≤1048576)∧(0≤p∧p<1048576)∧(0≤a∧a≤7)∧(0≤t∧t<4194304):=by simp only at hw;omega
 obtain⟨⟨k0,k1⟩,⟨s0,s1⟩,⟨p0,p1⟩,⟨a0,a1⟩,t0,t1⟩:=hb
 have R:=hide r
 clear hw r
 unfold Hd.val
 go_enter Tryz.func138,Tryz.ntmps138
 go_wp2
 go_ret
 exact⟨ret_int R.out.join,(Fr.refl _ _).alloc _⟩
set_option maxHeartbeats 3200000 in
theorem hisRight_any(h:Hd)(w:World):Calls Tryz.prog 137 #[h.val] w fun e w'=>e=.returned (.bool h.rightB)∧Fr [] w w':=by
 have hs:=hisSize_any h.size
 have hp:=hwithin_any h.ptrs 0 (h.size-1)
 have ha:=hwithin_any h.age 0 7
 have ht:=hwithin_any h.to 0 4194303
 have hw:=h.ways
 obtain⟨k,s,p,a,t⟩:=h
 simp only at hs hp ha ht hw
 unfold Hd.val
 simp only
 rcases hw with⟨rfl,rfl,rfl,rfl,rfl,HR⟩ | ⟨rfl,h1,HR⟩ | ⟨rfl,rfl,h1,HR⟩ | ⟨rfl,rfl,rfl,h1,HR⟩ | ⟨rfl,rfl,rfl,rfl,h1,HR⟩ | hw
 iterate 5
  ·clear hs hp ha ht
   go_enter Tryz.func137,Tryz.ntmps137
   go_wp2
   go_ret
   exact⟨ret_bool (by first | (rw [HR.out];done) | (rw [HR.out];simpa using h1)),(Fr.refl _ _).alloc _⟩
 rcases hw with⟨rfl,e1,e2,e3,rfl,HR⟩ | ⟨rfl,e1,HR⟩ | ⟨rfl,e1,e2,HR⟩ | ⟨rfl,e1,e2,e3,HR⟩ | ⟨rfl,e1,e2,e3,h1,HR⟩ | hw
 iterate 5
  ·have b1:=inB_iff (n:=s) (lo:=1) (hi:=1048576)
   simp only [e1,true_iff,false_iff,Bool.false_eq_true]at b1
   rw [e1]at hs
   try rw [e2]at hp
   try rw [e3]at ha
   have HS:=hide hs
   have HP:=hide hp
   have HA:=hide ha
   clear hs hp ha ht e1
   try clear e2
   try clear e3
   go_enter Tryz.func137,Tryz.ntmps137
   go_wp2_with (first | (go_at_call 160;refine(HS.out _).mono ?_;rintro e w' ⟨rfl,rfl⟩) | (go_at_call 161;(first | (with_reducible refine(HP.out _).mono ?_) | (with_reducible refine(HA.out _).mono ?_));rintro e w' ⟨rfl,rfl⟩))
   go_ret
   exact⟨ret_bool (by first | (rw [HR.out];done) | (rw [HR.out];simpa using h1)),(Fr.refl _ _).alloc _⟩
 rcases hw with⟨rfl,e1,rfl,rfl,rfl,HR⟩ | ⟨rfl,e1,HR⟩ | ⟨rfl,e1,e2,HR⟩ | ⟨rfl,e1,rfl,e3,HR⟩ | ⟨rfl,e1,rfl,rfl,h1,HR⟩ | hw
 iterate 5
  ·have b1:=inB_iff (n:=s) (lo:=1) (hi:=1048576)
   simp only [e1,true_iff,false_iff,Bool.false_eq_true]at b1
   rw [e1]at hs
   have HS:=hide hs
   clear hs hp ha ht e1
   go_enter Tryz.func137,Tryz.ntmps137
   go_wp2_with (first | (go_at_call 160;refine(HS.out _).mono ?_;rintro e w' ⟨rfl,rfl⟩))
   go_ret
   exact⟨ret_bool (by first | (rw [HR.out];done) | (rw [HR.out];simpa using h1)),(Fr.refl _ _).alloc _⟩
 rcases hw with⟨rfl,e1,e2,rfl,rfl,HR⟩ | ⟨rfl,e1,HR⟩ | ⟨rfl,e1,e2,HR⟩ | ⟨rfl,e1,e2,h1,HR⟩ | ⟨rfl,e1,e2,rfl,h1,HR⟩ | ⟨h0,h1,h2,h3,HR⟩
 iterate 5
  ·have b1:=inB_iff (n:=s) (lo:=1) (hi:=1048576)
   simp only [e1,true_iff,false_iff,Bool.false_eq_true]at b1
   rw [e1]at hs
   try rw [e2]at ht
   have HS:=hide hs
   have HT:=hide ht
   clear hs hp ha ht e1
   try clear e2
   go_enter Tryz.func137,Tryz.ntmps137
   go_wp2_with (first | (go_at_call 160;refine(HS.out _).mono ?_;rintro e w' ⟨rfl,rfl⟩) | (go_at_call 161;(with_reducible refine(HT.out _).mono ?_);rintro e w' ⟨rfl,rfl⟩))
   go_ret
   exact⟨ret_bool (by first | (rw [HR.out];done) | (rw [HR.out];simpa using h1)),(Fr.refl _ _).alloc _⟩
 clear hs hp ha ht
 go_enter Tryz.func137,Tryz.ntmps137
 go_wp2_with fail
 go_ret
 exact⟨ret_bool (by first | (rw [HR.out];done) | (rw [HR.out];simpa using h1)),(Fr.refl _ _).alloc _⟩
theorem hparts(x:Nat)(hx:x<18446744073709551616) :
  (∀w,Calls Tryz.prog 197 #[.int .u64 (x:Int),.int .u64 0,.int .u64 2] w fun e w'=>e=.returned (.int .i64 ((x:Int) % 4))∧w=w') ∧
  (∀w,Calls Tryz.prog 197 #[.int .u64 (x:Int),.int .u64 2,.int .u64 21] w fun e w'=>e=.returned (.int .i64 ((x:Int) / 4 % 2097152))∧w=w') ∧
  (∀w,Calls Tryz.prog 197 #[.int .u64 (x:Int),.int .u64 23,.int .u64 21] w fun e w'=>e=.returned (.int .i64 ((x:Int) / 8388608 % 2097152))∧w=w') ∧
  (∀w,Calls Tryz.prog 197 #[.int .u64 (x:Int),.int .u64 44,.int .u64 3] w fun e w'=>e=.returned (.int .i64 ((x:Int) / 17592186044416 % 8))∧w=w') ∧
  (∀w,Calls Tryz.prog 197 #[.int .u64 (x:Int),.int .u64 23,.int .u64 22] w fun e w'=>e=.returned (.int .i64 ((x:Int) / 8388608 % 4194304))∧w=w'):=by
 refine⟨fun w=>?_,fun w=>?_,fun w=>?_,fun w=>?_,fun w=>?_⟩
 ·have:=hpart_any x hx 0 2 (by decide) (by decide) w
  rw [show((x / 2 ^ 0 % 2 ^ 2:Nat):Int)=(x:Int) % 4 by omega]at this
  exact this
 ·have:=hpart_any x hx 2 21 (by decide) (by decide) w
  rw [show((x / 2 ^ 2 % 2 ^ 21:Nat):Int)=(x:Int) / 4 % 2097152 by omega]at this
  exact this
 ·have:=hpart_any x hx 23 21 (by decide) (by decide) w
  rw [show((x / 2 ^ 23 % 2 ^ 21:Nat):Int)=(x:Int) / 8388608 % 2097152 by omega]at this
  exact this
 ·have:=hpart_any x hx 44 3 (by decide) (by decide) w
  rw [show((x / 2 ^ 44 % 2 ^ 3:Nat):Int)=(x:Int) / 17592186044416 % 8 by omega]at this
  exact this
 ·have:=hpart_any x hx 23 22 (by decide) (by decide) w
  rw [show((x / 2 ^ 23 % 2 ^ 22:Nat):Int)=(x:Int) / 8388608 % 4194304 by omega]at this
  exact this
theorem hsplit_any(x:Nat)(hx:x<18446744073709551616)(w:World) :
  Calls Tryz.prog 184 #[.int .u64 (x:Int)] w fun e w'=>e=.returned (Hd.split x).val∧Fr [] w w':=by
 obtain⟨p0,p1,p2,p3,p4⟩:=hparts x hx
 have hways:((x:Int) % 4=1∧Hid (Hd.split x=⟨1,(x:Int) / 4 % 2097152,(x:Int) / 8388608 % 2097152,(x:Int) / 17592186044416 % 8,0⟩))∨((x:Int) % 4=3∧Hid (Hd.split x=⟨3,(x:Int) / 4 % 2097152,0,0,(x:Int) / 8388608 % 4194304⟩)) ∨
   (∃k,(x:Int) % 4=k∧¬ k=1∧¬ k=3∧Hid (Hd.split x=⟨k,(x:Int) / 4 % 2097152,0,0,0⟩)):=by
  unfold Hid Hd.split
  by_cases h1:(x:Int) % 4=1
  ·exact .inl ⟨h1,by rw [if_pos h1,if_pos h1,if_neg (by omega),h1]⟩
  ·by_cases h3:(x:Int) % 4=3
   ·exact .inr (.inl ⟨h3,by rw [if_neg h1,if_neg h1,if_pos h3,h3]⟩)
   ·exact .inr (.inr ⟨_,rfl,h1,h3,by rw [if_neg h1,if_neg h1,if_neg h3]⟩)
 generalize (x:Int) / 4 % 2097152=s at *
 generalize (x:Int) / 8388608 % 2097152=p at *
 generalize (x:Int) / 17592186044416 % 8=a at *
 generalize (x:Int) / 8388608 % 4194304=t at *
 rcases hways with⟨h1,HR⟩ | ⟨h1,HR⟩ | ⟨k,h1,n1,n3,HR⟩
 all_goals
  rw [h1]at p0
  have P0:=hide p0
  have P1:=hide p1
  have P2:=hide p2
  have P3:=hide p3
  have P4:=hide p4
  clear p0 p1 p2 p3 p4 h1
  go_enter Tryz.func184,Tryz.ntmps184
  go_wp2_with (go_at_call 197;(first | (with_reducible refine(P0.out _).mono ?_) | (with_reducible refine(P1.out _).mono ?_) | (with_reducible refine(P2.out _).mono ?_) | (with_reducible refine(P3.out _).mono ?_) | (with_reducible refine(P4.out _).mono ?_));rintro e w' ⟨rfl,rfl⟩)
 ·refine bodyPost_ret (v:=.agg #[.int .i64 1,.int .i64 s,.int .i64 p,.int .i64 a,.int .i64 0]) (by simp [results,Tryz.results184,go_sem]) rfl ⟨?_,?_⟩
  ·rw [HR.out];rfl
  ·exact((Fr.refl _ _).alloc _).alloc _
 ·refine bodyPost_ret (v:=.agg #[.int .i64 3,.int .i64 s,.int .i64 0,.int .i64 0,.int .i64 t]) (by simp [results,Tryz.results184,go_sem]) rfl ⟨?_,?_⟩
  ·rw [HR.out];rfl
  ·exact((Fr.refl _ _).alloc _).alloc _
 ·refine bodyPost_ret (v:=.agg #[.int .i64 k,.int .i64 s,.int .i64 0,.int .i64 0,.int .i64 0]) (by simp [results,Tryz.results184,go_sem]) rfl ⟨?_,?_⟩
  ·rw [HR.out];rfl
  ·exact((Fr.refl _ _).alloc _).alloc _
theorem hpack_any(h:Hd)(w:World):Calls Tryz.prog 85 #[h.val] w fun e w'=>e=.returned (.tuple #[.int .u64 h.ans,.int .i64 h.err])∧Fr [] w w':=by
 have hi:=hisRight_any h
 by_cases hr:h.rightB=true
 ·rw [hr]at hi
  have HI:=hide hi
  have HJ:=hide (hjoin_any h (Hd.rightB_iff.1 hr))
  have HE:Hid (h.ans=h.word∧h.err=0):=by unfold Hd.ans Hd.err;rw [if_pos hr,if_pos hr];exact⟨rfl,rfl⟩
  clear hi hr
  generalize h.word=x at *
  have hb:∀w:World,Blk (w.alloc (.cells h.cells 157)) w.heap.size 157 h.cells:=fun w=>Blk.new _ _ _
  have HB:=hide hb
  clear hb
  unfold Hd.val
  go_enter Tryz.func85,Tryz.ntmps85
  go_wp2_with fail
  refine(HI.out _).mono ?_
  rintro e w1 ⟨rfl,hf⟩
  obtain⟨c0,c1,c2,c3,c4⟩:=HdAt.of ((HB.out w).fr hf (by simp))
  have HF:=hide hf
  clear hf
  go_wp2_with fail
  refine(HJ.out _).mono ?_
  rintro e w2 ⟨rfl,hf2⟩
  have HF2:=hide hf2
  clear hf2
  go_wp2_with fail
  go_ret2
  exact⟨ret_ii HE.out.1.symm HE.out.2.symm,(((Fr.refl _ _).alloc _).trans_same HF.out).trans_same HF2.out⟩
 ·rw [b_true hr]at hi
  have HI:=hide hi
  have HE:Hid (h.ans=0∧h.err=3):=by unfold Hd.ans Hd.err;rw [if_neg hr,if_neg hr];exact⟨rfl,rfl⟩
  clear hi hr
  unfold Hd.val
  go_enter Tryz.func85,Tryz.ntmps85
  go_wp2_with fail
  refine(HI.out _).mono ?_
  rintro e w1 ⟨rfl,hf⟩
  have HF:=hide hf
  clear hf
  go_wp2_with fail
  go_ret2
  exact⟨ret_ii HE.out.1.symm HE.out.2.symm,((Fr.refl _ _).alloc _).trans_same HF.out⟩
theorem of_way(x:Int):(∃y,(Hd.split x).Right∧(Hd.split x).rightB=true∧(Hd.split x).word=y∧Hid (y=x)∧Hid (Hd.of x=Hd.split x∧Hd.ofErr x=0)) ∨
  (∃y,(Hd.split x).Right∧(Hd.split x).rightB=true∧(Hd.split x).word=y∧Hid (¬ y=x)∧Hid (Hd.of x=Hd.zero∧Hd.ofErr x=30))∨((Hd.split x).rightB=false∧Hid (Hd.of x=Hd.zero∧Hd.ofErr x=30)):=by
 unfold Hid Hd.of Hd.ofErr
 by_cases h1:(Hd.split x).rightB=true
 ·by_cases h2:(Hd.split x).word=x
  ·exact .inl ⟨_,Hd.rightB_iff.1 h1,h1,rfl,h2,by rw [if_pos ⟨h1,h2⟩,if_pos ⟨h1,h2⟩];exact⟨rfl,rfl⟩⟩
  ·exact .inr (.inl ⟨_,Hd.rightB_iff.1 h1,h1,rfl,h2,by rw [if_neg (fun h=>h2 h.2),if_neg (fun h=>h2 h.2)];exact⟨rfl,rfl⟩⟩)
 ·exact .inr (.inr ⟨b_true h1,by rw [if_neg (fun h=>h1 h.1),if_neg (fun h=>h1 h.1)];exact⟨rfl,rfl⟩⟩)
theorem hunpack_any(x:Nat)(hx:x<18446744073709551616)(w:World) :
  Calls Tryz.prog 166 #[.int .u64 (x:Int)] w fun e w'=>e=.returned (.tuple #[(Hd.of x).val,.int .i64 (Hd.ofErr x)])∧Fr [] w w':=by
 have hs:=hsplit_any x hx
 have hways:=of_way x
 generalize Hd.split x=h at *
 have hi:=hisRight_any h
 have hj:=hjoin_any h
 have hB:∀(w:World) (n:Nat),w.heap.size=n→Blk (w.alloc (.cells h.cells 157)) n 157 h.cells:=fun w n hn=>Blk.new_at _ _ hn
 rcases hways with⟨y,r,h1,h2,h3,HE⟩ | ⟨y,r,h1,h2,h3,HE⟩ | ⟨h1,HE⟩
 ·rw [h1]at hi
  have HI:=hide hi
  have HJ:=hide (hj r)
  rw [h2]at HJ
  have HS:=hide hs
  have HB:=hide hB
  clear hi hj h1 h2 hs hB r
  obtain rfl:=h3.out
  clear h3
  go_enter Tryz.func166,Tryz.ntmps166
  go_wp2_with fail
  refine(HS.out _).mono ?_
  rintro e w1 ⟨rfl,hf1⟩
  have HF1:=hide hf1
  unfold Hd.val
  have HZ:=hide ((Blk.new w 157 Hd.zero.cells).fr hf1 (by simp))
  have HL:Hid (w.heap.size<w1.heap.size):=by have:=hf1.size;simp at this;unfold Hid;omega
  clear hf1
  go_wp2_with fail
  refine(HI.out _).mono ?_
  rintro e w2 ⟨rfl,hf2⟩
  obtain⟨c0,c1,c2,c3,c4⟩:=HdAt.of ((HB.out w1 _ rfl).fr hf2 (by simp))
  have HF2:=hide hf2
  clear hf2
  go_wp2_with fail
  refine(HJ.out _).mono ?_
  rintro e w3 ⟨rfl,hf3⟩
  obtain⟨d0,d1,d2,d3,d4⟩:=(HdAt.fr ⟨c0,c1,c2,c3,c4⟩ hf3 (by simp))
  obtain⟨⟨z0,z1,z2,z3,z4⟩,f0,f1,f2,f3,f4⟩:=Hd.zero_cells (((HZ.out.alloc _).fr HF2.out (by simp)).fr hf3 (by simp))
  have HF3:=hide hf3
  clear hf3 c0 c1 c2 c3 c4
  go_wp2_with fail
  refine bodyPost_ret (v:=.tuple #[.agg #[.int .i64 h.kind,.int .i64 h.size,.int .i64 h.ptrs,.int .i64 h.age,.int .i64 h.to],.int .i64 0]) (by simp [results,Tryz.results166,go_sem, *]) rfl ⟨?_,?_⟩
  ·rw [HE.out.1,HE.out.2];rfl
  ·iterate 5 (refine Fr.setCell ?_ (.inr (Nat.le_refl _)) _)
   exact(((((Fr.refl _ _).alloc _).trans_same HF1.out).alloc _).trans_same HF2.out).trans_same HF3.out
 ·rw [h1]at hi
  have HI:=hide hi
  have HJ:=hide (hj r)
  rw [h2]at HJ
  have HS:=hide hs
  have HB:=hide hB
  clear hi hj h1 h2 hs hB r
  have n3:=h3.out
  clear h3
  go_enter Tryz.func166,Tryz.ntmps166
  go_wp2_with fail
  refine(HS.out _).mono ?_
  rintro e w1 ⟨rfl,hf1⟩
  have HF1:=hide hf1
  unfold Hd.val
  have HZ:=hide ((Blk.new w 157 Hd.zero.cells).fr hf1 (by simp))
  have HL:Hid (w.heap.size<w1.heap.size):=by have:=hf1.size;simp at this;unfold Hid;omega
  clear hf1
  go_wp2_with fail
  refine(HI.out _).mono ?_
  rintro e w2 ⟨rfl,hf2⟩
  obtain⟨c0,c1,c2,c3,c4⟩:=HdAt.of ((HB.out w1 _ rfl).fr hf2 (by simp))
  have HF2:=hide hf2
  clear hf2
  go_wp2_with fail
  refine(HJ.out _).mono ?_
  rintro e w3 ⟨rfl,hf3⟩
  obtain⟨d0,d1,d2,d3,d4⟩:=(HdAt.fr ⟨c0,c1,c2,c3,c4⟩ hf3 (by simp))
  obtain⟨⟨z0,z1,z2,z3,z4⟩,f0,f1,f2,f3,f4⟩:=Hd.zero_cells (((HZ.out.alloc _).fr HF2.out (by simp)).fr hf3 (by simp))
  have HF3:=hide hf3
  clear hf3 c0 c1 c2 c3 c4
  go_wp2_with fail
  refine bodyPost_ret (v:=.tuple #[.agg #[.int .i64 0,.int .i64 0,.int .i64 0,.int .i64 0,.int .i64 0],.int .i64 30]) (by simp [results,Tryz.results166,go_sem, *]) rfl ⟨?_,?_⟩
  ·rw [HE.out.1,HE.out.2];rfl
  ·iterate 5 (refine Fr.setCell ?_ (.inr (Nat.le_refl _)) _)
   exact(((((Fr.refl _ _).alloc _).trans_same HF1.out).alloc _).trans_same HF2.out).trans_same HF3.out
 ·rw [h1]at hi
  have HI:=hide hi
  have HS:=hide hs
  have HB:=hide hB
  clear hi hj h1 hs hB
  go_enter Tryz.func166,Tryz.ntmps166
  go_wp2_with fail
  refine(HS.out _).mono ?_
  rintro e w1 ⟨rfl,hf1⟩
  have HF1:=hide hf1
  unfold Hd.val
  have HZ:=hide ((Blk.new w 157 Hd.zero.cells).fr hf1 (by simp))
  have HL:Hid (w.heap.size<w1.heap.size):=by have:=hf1.size;simp at this;unfold Hid;omega
  clear hf1
  go_wp2_with fail
  refine(HI.out _).mono ?_
  rintro e w2 ⟨rfl,hf2⟩
  obtain⟨⟨z0,z1,z2,z3,z4⟩,f0,f1,f2,f3,f4⟩:=Hd.zero_cells ((HZ.out.alloc _).fr hf2 (by simp))
  have HF2:=hide hf2
  clear hf2
  go_wp2_with fail
  refine bodyPost_ret (v:=.tuple #[.agg #[.int .i64 0,.int .i64 0,.int .i64 0,.int .i64 0,.int .i64 0],.int .i64 30]) (by simp [results,Tryz.results166,go_sem, *]) rfl ⟨?_,?_⟩
  ·rw [HE.out.1,HE.out.2];rfl
  ·iterate 5 (refine Fr.setCell ?_ (.inr (Nat.le_refl _)) _)
   exact(((((Fr.refl _ _).alloc _).trans_same HF1.out).alloc _).trans_same HF2.out)
end Go.Proofs.YteacgfeiedcdiaaGreatDoor
