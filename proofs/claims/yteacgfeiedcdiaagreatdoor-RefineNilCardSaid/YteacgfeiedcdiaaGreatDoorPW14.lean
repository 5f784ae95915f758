/- The block-offset table: its numbers, and what each call of the package offs answers of a table that lies in memory, and what it leaves there. -/
import Derived.Test.YteacgfeiedcdiaaGreatDoorProg
import Derived.Test.YteacgfeiedcdiaaGreatDoorPW09
import Derived.Test.YteacgfeiedcdiaaGreatDoorPW07
import Derived.Test.YteacgfeiedcdiaaGreatDoorPW02
import Derived.WalkKit
import Derived.BigQuiet
import Derived.Deep.RegionHeld3
namespace Go.Proofs.YteacgfeiedcdiaaGreatDoor
set_option linter.unusedVariables false
open Go.RowKit Go.Gl
def oS(cw:Nat):Nat:=Lib.ctz 64 cw
def oD(cw:Nat):Nat:=cw / 2 ^ oS cw
theorem oS_lt{cw:Nat}(h:1≤cw)(hm:cw<9223372036854775808):oS cw<63:=by
 obtain⟨h1,h2,_⟩:=ctz_low cw h (by omega)
 have:=Nat.ge_two_pow_of_testBit h2
 rcases Nat.lt_or_ge (oS cw) 63 with hl | hl
 ·exact hl
 ·have h3:2 ^ 63≤2 ^ oS cw:=Nat.pow_le_pow_right (by decide) hl
  unfold oS at h3
  omega
theorem oD_mul{cw:Nat}(h:1≤cw)(hm:cw<9223372036854775808):2 ^ oS cw*oD cw=cw∧1≤oD cw:=by
 obtain⟨m,hm',hk⟩:=Lib.ctzFrom_spec 64 cw h (by omega)
 have hc:oS cw=Lib.ctzFrom 64 cw:=by unfold oS Lib.ctz;rw [if_neg (by omega)]
 unfold oD
 rw [hc]
 generalize Lib.ctzFrom 64 cw=k at *
 have hp:0<2 ^ k:=Nat.two_pow_pos k
 have e:cw / 2 ^ k=2*m+1:=by rw [hm',Nat.mul_comm,Nat.mul_div_cancel _ hp]
 rw [e]
 exact⟨hm'.symm,by omega⟩
def cb(cw a:Nat):Nat:=if a=0 then 0 else (a-1) / cw+1
theorem cb_lt{cw a k:Nat}(h:1≤cw):k<cb cw a↔k*cw<a:=by
 unfold cb
 split
 ·omega
 ·rw [Nat.lt_succ_iff,Nat.le_div_iff_mul_le (by omega)];omega
theorem cb_le{cw a n:Nat}(h:1≤cw)(ha:a≤cw*n):cb cw a≤n:=by
 rcases Nat.lt_or_ge n (cb cw a)with hl | hl
 ·rw [cb_lt h,Nat.mul_comm]at hl;omega
 ·exact hl
theorem cb_mono{cw a b:Nat}(h:1≤cw)(hab:a≤b):cb cw a≤cb cw b:=by
 rcases Nat.lt_or_ge (cb cw b) (cb cw a)with hl | hl
 ·rw [cb_lt h]at hl
  have:=(not_congr (cb_lt (k:=cb cw b) (a:=b) h)).1 (by omega)
  omega
 ·exact hl
structure Of(w:World)(tb rb cw n:Nat)(f:Nat→Int):Prop where
 set:Blk w tb 160 #[.int .i64 ((cw*n:Nat):Int),.int .u64 ((oS cw:Nat):Int),.int .i64 ((oD cw:Nat):Int),.slice (some ⟨rb,0,none⟩) n n]
 row:Blk w rb 161 (rowV .u32 n f)
 pos:1≤cw
 cwm:cw<9223372036854775808
 max:cw*n≤4194304
 ok:∀k,0≤f k∧f k≤4194304
section
variable {w w':World}{tb rb cw n:Nat}{f:Nat→Int}{F:List Nat}
theorem Of.fr(h:Of w tb rb cw n f)(hf:Fr F w w')(h1:tb∉F)(h2:rb∉F):Of w' tb rb cw n f:=⟨h.set.fr hf h1,h.row.fr hf h2,h.pos,h.cwm,h.max,h.ok⟩
theorem Of.drewN(h:Of w tb rb cw n f)(k:Nat):Of (w.drewN k) tb rb cw n f:=⟨h.set,h.row,h.pos,h.cwm,h.max,h.ok⟩
theorem Of.drew(h:Of w tb rb cw n f):Of w.drew tb rb cw n f:=⟨h.set,h.row,h.pos,h.cwm,h.max,h.ok⟩
theorem Of.c0(h:Of w tb rb cw n f):w.cell? ⟨tb,0,none⟩=some (.int .i64 ((cw*n:Nat):Int)):=by rw [h.set.cell];rfl
theorem Of.c1(h:Of w tb rb cw n f):w.cell? ⟨tb,1,none⟩=some (.int .u64 ((oS cw:Nat):Int)):=by rw [h.set.cell];rfl
theorem Of.c2(h:Of w tb rb cw n f):w.cell? ⟨tb,2,none⟩=some (.int .i64 ((oD cw:Nat):Int)):=by rw [h.set.cell];rfl
theorem Of.c3(h:Of w tb rb cw n f):w.cell? ⟨tb,3,none⟩=some (.slice (some ⟨rb,0,none⟩) n n):=by rw [h.set.cell];rfl
theorem Of.cr(h:Of w tb rb cw n f){k:Nat}(hk:k<n):w.cell? ⟨rb,k,none⟩=some (.int .u32 (f k)):=by rw [h.row.cell,rowV_at hk]
theorem Of.ne(h:Of w tb rb cw n f):tb≠rb:=h.set.apart h.row (by decide)
theorem Of.nmax(h:Of w tb rb cw n f):n≤4194304:=Nat.le_trans (Nat.le_mul_of_pos_left n h.pos) h.max
end
theorem below_any{w:World}{tb rb cw n:Nat}{f:Nat→Int}(h:Of w tb rb cw n f)(a:Nat)(ha:a≤cw*n) :
  Calls Tryz.prog 140 #[.pointer (some ⟨tb,0,none⟩),.int .i64 (a:Int)] w fun e w'=>e=.returned (.int .i64 ((cb cw a:Nat):Int))∧∃k,w'=w.drewN k:=by
 have c1:=h.c1
 have c2:=h.c2
 have hs:=oS_lt h.pos h.cwm
 obtain⟨hd,hd1⟩:=oD_mul h.pos h.cwm
 have hmax:=h.max
 have ha':a≤4194304:=by omega
 by_cases h0:a=0
 ·subst h0
  clear h hd hs hd1 c1 c2 ha hmax
  go_enter Tryz.func140,Tryz.ntmps140
  go_wp2
  go_ret
  exact⟨rfl,0,rfl⟩
 ·obtain⟨b,rfl⟩:∃b,a=b+1:=⟨a-1,by omega⟩
  have HV:Hid ((b:Int) / 2 ^ oS cw / (oD cw:Int)=((b / cw:Nat):Int)):=by
   show _=_
   rw [show(2:Int) ^ oS cw=((2 ^ oS cw:Nat):Int) from (Int.natCast_pow 2 _).symm,← Int.natCast_ediv,← Int.natCast_ediv,Nat.div_div_eq_div_mul,hd]
  have HB:Hid (cb cw (b+1)=b / cw+1):=by unfold cb;rfl
  have HL:Hid (b / cw≤4194304):=Nat.le_trans (Nat.div_le_self _ _) (by omega)
  generalize oS cw=s at *
  generalize oD cw=d at *
  clear h hd ha hmax
  go_enter Tryz.func140,Tryz.ntmps140
  go_wp2_with fail
  go_quiet (fail)
  go_wp2
  go_ret
  refine⟨ret_int ?_,_,rfl⟩
  have h1:=HL.out
  rw [HB.out,Int.tdiv_eq_ediv_of_nonneg (Int.ediv_nonneg (Int.natCast_nonneg _) (Int.le_of_lt (Int.pow_pos (by decide)))),HV.out]
  generalize b / cw=q at *
  rw [IntWalk.wrap64_in (q:Int) ⟨by omega,by omega⟩,IntWalk.wrap64_in _ ⟨by omega,by omega⟩]
  rfl
def BegPost(w:World)(rb i m:Nat)(e:Ending)(w':World):Prop:=
 ∃A c,e=.returned (.slice A m c)∧(0<m→A=some ⟨rb,i,none⟩)∧∃k,w'=w.drewN k
theorem ret_slice{A:Option Addr}{c L m:Nat}(h:L=m):Ending.returned (.slice A L c)=.returned (.slice A m c):=by rw [h]
theorem beginning_any{w:World}{tb rb cw n:Nat}{f:Nat→Int}(h:Of w tb rb cw n f)(a b:Nat)(hab:a≤b)(hb:b≤cw*n) :
  Calls Tryz.prog 87 #[.pointer (some ⟨tb,0,none⟩),.int .i64 (a:Int),.int .i64 (b:Int)] w (BegPost w rb (cb cw a) (cb cw b-cb cw a)):=by
 have c3:=h.c3
 have hx:=cb_mono h.pos hab
 have hy:=cb_le h.pos hb
 have hn:=h.nmax
 have HA:Hid (∀k,Calls Tryz.prog 140 #[.pointer (some ⟨tb,0,none⟩),.int .i64 (a:Int)] (w.drewN k) fun e w'=>e=.returned (.int .i64 ((cb cw a:Nat):Int))∧∃m,w'=(w.drewN k).drewN m):=
  fun k=>below_any (h.drewN k) a (Nat.le_trans hab hb)
 have HB:Hid (∀k,Calls Tryz.prog 140 #[.pointer (some ⟨tb,0,none⟩),.int .i64 (b:Int)] (w.drewN k) fun e w'=>e=.returned (.int .i64 ((cb cw b:Nat):Int))∧∃m,w'=(w.drewN k).drewN m):=
  fun k=>below_any (h.drewN k) b hb
 generalize cb cw a=x at *
 generalize cb cw b=y at *
 clear h hb hab
 by_cases hc:n=x
 ·have HC:=hide hc
  have HM:Hid (y-x=0):=by show y-x=0;omega
  go_enter Tryz.func87,Tryz.ntmps87
  go_wp2_with fail
  go_quiet ((go_at_call 140;first | (with_reducible exact Calls.quiet_of (HA.out _)) | (with_reducible exact Calls.quiet_of (HB.out _))))
  go_wp2
  go_ret
  exact⟨_,_,ret_slice rfl,fun h=>absurd HM.out (by omega),nq,rfl⟩
 ·go_enter Tryz.func87,Tryz.ntmps87
  go_wp2_with fail
  go_quiet ((go_at_call 140;first | (with_reducible exact Calls.quiet_of (HA.out _)) | (with_reducible exact Calls.quiet_of (HB.out _))))
  go_wp2
  go_ret
  exact⟨_,_,ret_slice rfl,fun _=>rfl,nq,rfl⟩
theorem ofirst_at{w:World}{tb rb cw n:Nat}{f:Nat→Int}(h:Of w tb rb cw n f){c:Nat}(hc:c<n) :
  Calls Tryz.prog 145 #[.pointer (some ⟨tb,0,none⟩),.int .i64 (c:Int)] w fun e w'=>e=.returned (.tuple #[.int .i64 (if f c=0 then 0 else f c-1),.int .i64 (if f c=0 then 5 else 0)])∧w=w':=by
 have c3:=h.c3
 have cr:=h.cr hc
 have hn:=h.nmax
 obtain⟨ok1,ok2⟩:=h.ok c
 have hc':(c:Int)<(n:Int):=by omega
 clear h
 generalize f c=x at *
 by_cases hx:x=0
 ·subst hx
  go_enter Tryz.func145,Tryz.ntmps145
  go_wp2
  go_ret2
  exact⟨rfl,rfl⟩
 ·rw [if_neg hx,if_neg hx]
  go_enter Tryz.func145,Tryz.ntmps145
  go_wp2
  go_ret2
  exact⟨rfl,rfl⟩
def obj(cw:Nat)(f:Nat→Int)(a s:Nat):Nat→Int:=put2 f (cb cw a) (cb cw (a+s)) fun _=>(a:Int)+1
def OPut(w:World)(tb rb cw n:Nat)(f':Nat→Int)(e:Ending)(w':World):Prop:=
 e=.returned (.int .i64 0)∧Of w' tb rb cw n f'∧Fr [rb] w w'
theorem Of.turned{w w':World}{tb rb cw n:Nat}{f f':Nat→Int}(h:Of w tb rb cw n f)(hf:Fr [rb] w w')(hb:Blk w' rb 161 (rowV .u32 n f'))(hok:∀k,0≤f' k∧f' k≤4194304):Of w' tb rb cw n f':=
 ⟨h.set.fr hf (by simpa using h.ne),hb,h.pos,h.cwm,h.max,hok⟩
theorem put2_ok{f g:Nat→Int}{a b:Nat}(h:∀k,0≤f k∧f k≤4194304)(hg:∀k,a≤k→k<b→0≤g k∧g k≤4194304):∀k,0≤put2 f a b g k∧put2 f a b g k≤4194304:=fun k=>by
 unfold put2
 split
 ·exact hg k (by omega) (by omega)
 ·exact h k
theorem oput_at{w:World}{tb rb cw n:Nat}{f:Nat→Int}(h:Of w tb rb cw n f){a s:Nat}(hs:1≤s)(hm:a+s≤cw*n) :
  Calls Tryz.prog 36 #[.pointer (some ⟨tb,0,none⟩),.int .i64 (a:Int),.int .i64 (s:Int)] w (OPut w tb rb cw n (obj cw f a s)):=by
 have c0:=h.c0
 have hmax:=h.max
 have hn:=h.nmax
 have HB:=hide (beginning_any h a (a+s) (by omega) hm)
 have hxy:=cb_mono (a:=a) (b:=a+s) h.pos (by omega)
 have hyn:=cb_le h.pos hm
 have H:=hide h
 unfold obj
 have ha4:a<4194304:=by omega
 generalize cb cw a=x at *
 generalize cb cw (a+s)=y at *
 have hm':(s:Int)≤((cw*n:Nat):Int)-(a:Int):=by omega
 generalize cw*n=m at *
 unfold OPut
 clear h hm
 go_enter Tryz.func36,Tryz.ntmps36
 go_wp2_with fail
 rw [show(a:Int)+(s:Int)=((a+s:Nat):Int) from (Int.natCast_add a s).symm]
 refine HB.out.mono ?_
 rintro e w1 ⟨A,c,rfl,hA,k1,rfl⟩
 have HA:=hide hA
 clear hA
 go_wp2_with fail
 go_loopw [39] (fun i wr=>∃k:Nat,i=.int .i64 k∧k≤y-x∧Of wr tb rb cw n (put2 f x (x+k) fun _=>(a:Int)+1)∧Fr [rb] w wr) (fun i _=>(y-x)-(intOf i).toNat)
 case atStart=>exact⟨0,rfl,Nat.zero_le _,by rw [Nat.add_zero,put2_none (Nat.le_refl _)];exact H.out.drewN _,(Fr.refl _ _).drewN _⟩
 case round=>
  obtain⟨k,rfl,hk,ho,hfr⟩:=hrel
  have HO:=hide ho
  have HF:=hide hfr
  by_cases hlt:k<y-x
  ·obtain rfl:=HA.out (by omega)
   have hc:=ho.cr (k:=x+k) (by omega)
   have hz:=ho.row.frozen (x+k)
   have HP:=hide (ho.row.putRow (x+k) ((a:Int)+1))
   have HG:Hid (Fr [rb] wr (wr.setCell ⟨rb,x+k,none⟩ (.int .u32 ((a:Int)+1)))):=(Fr.refl _ _).setCell (p:=⟨rb,x+k,none⟩) (.inl (by simp)) _
   have hlt':(k:Int)<((y-x:Nat):Int):=by omega
   clear ho hfr
   generalize put2 f x (x+k) (fun _=>(a:Int)+1) (x+k)=old at *
   go_wp2_with fail
   go_roundw
   case rel=>
    refine⟨k+1,by go_num,by omega,HO.out.turned HG.out ?_ ?_,HF.out.trans_same HG.out⟩
    ·rw [← Nat.add_assoc,← put2_step (by omega)];exact HP.out
    ·exact put2_ok H.out.ok (fun _ _ _=>by omega)
   case measure=>simp [intOf];omega
  ·have hlt':¬ (k:Int)<((y-x:Nat):Int):=by omega
   obtain rfl:k=y-x:=by omega
   clear ho hfr
   go_wp2_with fail
   go_ret
   refine⟨rfl,?_,HF.out⟩
   have:=HO.out
   rw [show x+(y-x)=y by omega]at this
   exact this
structure OkGeo(g:Geo)(cw n:Nat):Prop where
 pos:1≤cw
 cwm:cw<9223372036854775808
 max:cw*n≤4194304
 words:g.words=((cw*n:Nat):Int)
 cw:g.cw=(cw:Int)
 cards:g.cards=(n:Int)
theorem OkGeo.rem{cw n:Nat}(h:1≤cw):((cw*n:Nat):Int) % (cw:Int)=0∧(n:Int)=((cw*n:Nat):Int) / (cw:Int):=by
 constructor
 ·rw [← Int.natCast_emod,Nat.mul_mod_right];rfl
 ·rw [← Int.natCast_ediv,Nat.mul_div_cancel_left _ (by omega)]
theorem omay_ok(g:Geo){cw n:Nat}(ok:OkGeo g cw n)(w:World):Calls Tryz.prog 128 #[g.val] w fun e w'=>e=.returned (.bool true)∧Fr [] w w':=by
 obtain⟨W,rw',C,R,N,M⟩:=g
 obtain⟨h1,h2,h3,h4,h5,h6⟩:=ok
 simp only at h4 h5 h6
 obtain⟨h7,h8⟩:=OkGeo.rem (n:=n) h1
 rw [← h4,← h5]at h7 h8
 rw [← h6]at h8
 have hW:0≤W∧W≤4194304:=by omega
 obtain⟨hW1,hW2⟩:=hW
 have hC:1≤C∧C≤9223372036854775807:=by omega
 obtain⟨hC1,hC2⟩:=hC
 clear h1 h2 h3 h4 h5 h6
 unfold Geo.val
 go_enter Tryz.func128,Tryz.ntmps128
 go_wp2_with fail
 go_quiet (fail)
 go_wp2
 go_ret
 exact⟨rfl,((Fr.refl _ _).alloc _).drewN _⟩
theorem Tryz.info_u32o:(Tryz.prog.info? 161).map (fun i=>(i.zero,i.size,i.bytes))=some (some (.int .u32 0),1,4):=by kernel_rfl
def ONew(w:World)(cw n:Nat)(e:Ending)(w':World):Prop:=
 ∃tb rb,e=.returned (.tuple #[.pointer (some ⟨tb,0,none⟩),.int .i64 0])∧Of w' tb rb cw n (fun _=>0)∧Fr [] w w'∧w.heap.size≤tb∧w.heap.size≤rb
theorem onew_ok(g:Geo){cw n:Nat}(ok:OkGeo g cw n)(w:World)(hT:Tab w):Calls Tryz.prog 74 #[g.val] w (ONew w cw n):=by
 have hm:=omay_ok g ok
 obtain⟨i0,hi,hz0,hz1,hz2⟩:=info_parts Tryz.info_u32o
 have HOk:=hide ok
 have HT:=hide hT
 have hs:=oS_lt ok.pos ok.cwm
 have hc1:=ok.pos
 have hc2:=ok.cwm
 have hn:n≤4194304:=Nat.le_trans (Nat.le_mul_of_pos_left n ok.pos) ok.max
 have HD:Hid ((cw:Int) / 2 ^ oS cw=((oD cw:Nat):Int)):=by
  show _=_
  unfold oD
  rw [show(2:Int) ^ oS cw=((2 ^ oS cw:Nat):Int) from (Int.natCast_pow 2 _).symm,← Int.natCast_ediv]
 have HZ:Hid (∀w',Tab w'→Calls Tryz.prog 102 #[.int .u64 (cw:Int)] w' fun e w''=>e=.returned (.int .i64 ((oS cw:Nat):Int))∧w'=w''):=fun w' hT'=>tz_any cw (by omega) (by omega) w' hT'
 obtain⟨W,rw',C,R,N,M⟩:=g
 have h4:W=((cw*n:Nat):Int):=ok.words
 obtain rfl:C=(cw:Int):=ok.cw
 obtain rfl:N=(n:Int):=ok.cards
 have HW:=hide h4
 have HM:=hide hm
 unfold Geo.val
 have HS:Hid (oS cw=oS cw):=rfl
 generalize hsd:oS cw=s at *
 have HSD:=hide hsd
 clear hT ok hm h4 HS hsd
 go_enter Tryz.func74,Tryz.ntmps74
 go_wp2_with fail
 refine(HM.out _).mono ?_
 rintro e w1 ⟨rfl,hf⟩
 have hg:=GeoAt.of ((Blk.new w 39 (Geo.cells ⟨W,rw',(cw:Int),R,(n:Int),M⟩)).fr hf (by simp))
 have HT1:=hide ((HT.out.alloc _).fr hf (by simp))
 have g0:=hg.c0
 have g2:=hg.c2
 have g4:=hg.c4
 have HF:Hid (Fr [] w w1):=((Fr.refl _ _).alloc _).trans_same hf
 clear hf hg
 go_wp2_with fail
 refine(HZ.out _ HT1.out).mono ?_
 rintro e w' ⟨rfl,rfl⟩
 go_wp2_with fail
 obtain⟨w2,hrun,r1,r2⟩:=run_make_full (P:=Tryz.prog) w1.drew w1.heap.size 158 161 i0 (.int .u32 0) 1 Tryz.underlying158 hi hz0 hz1 .i64 .i64 n (by rw [hz2];omega) (by unfold maxLen;omega) (Nat.le_refl _)
 have HO:=hide r1
 have HG:=hide r2
 have k0:w2.cell? ⟨w.heap.size,0,none⟩=some (.int .i64 W):=(((Fr.refl [] w1).drew.grown r2 (fun _ hk=>by cases hk)).cell (lt_of_cell g0) (by simp)).trans g0
 have k2:w2.cell? ⟨w.heap.size,2,none⟩=some (.int .i64 (cw:Int)):=(((Fr.refl [] w1).drew.grown r2 (fun _ hk=>by cases hk)).cell (lt_of_cell g2) (by simp)).trans g2
 have k4:w2.cell? ⟨w.heap.size,4,none⟩=some (.int .i64 (n:Int)):=(((Fr.refl [] w1).drew.grown r2 (fun _ hk=>by cases hk)).cell (lt_of_cell g4) (by simp)).trans g4
 have N0:=World.new_ne w2 _ k0
 clear r1 r2
 go_region_held3 (fun w'=>w'.cell? ⟨w.heap.size,0,none⟩=some (.int .i64 W)∧w'.cell? ⟨w.heap.size,2,none⟩=some (.int .i64 (cw:Int))∧w'.cell? ⟨w.heap.size,4,none⟩=some (.int .i64 (n:Int)))
  (first | exact⟨g0,g2,g4⟩ | exact⟨k0,k2,k4⟩ | go_keep)
  (first | fail)
 go_wp2
 go_ret2
 have hown:=HO.out
 rw [Nat.mul_one,made_one _ rfl]at hown
 have hb:=own_full hown
 have HG2:Fr [] w1 w2:=((Fr.refl _ w1).drew).grown HG.out (fun _ hk=>by cases hk)
 refine⟨w2.heap.size,w1.heap.size,rfl,⟨?_,?_,HOk.out.pos,HOk.out.cwm,HOk.out.max,fun _=>by decide⟩,HF.out.trans_same (HG2.alloc _),Nat.le_trans HF.out.size HG2.size,HF.out.size⟩
 ·rw [← HW.out,HSD.out,← HD.out]
  exact Blk.new _ _ _
 ·rw [rowV_const];exact hb.alloc _
end Go.Proofs.YteacgfeiedcdiaaGreatDoor
