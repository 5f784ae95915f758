/- Several texts joined (pack.py): Nm Qu Qv. -/
import Derived.Test.YteacgfeiedcdiaaGreatDoorProg
import Derived.Test.YteacgfeiedcdiaaGreatDoorPW00
import Derived.WalkKit
import Derived.BigQuiet
import Derived.Lib.AppendZerosOnto
import Derived.Deep.RegionLaw
namespace Go.Proofs.YteacgfeiedcdiaaGreatDoor
set_option linter.unusedVariables false
open Go.RowKit Go.Gl
theorem Tryz.info_int:(Tryz.prog.info? 3).map (fun i=>(i.zero,i.size,i.bytes))=some (some (.int .i64 0),1,8):=by kernel_rfl
def nums(l:List Nat):List Value:=l.map fun (x:Nat)=>.int .i64 (x:Int)
theorem nums_app(a b:List Nat):nums (a++b)=nums a++nums b:=by simp [nums]
theorem one_at(w:World)(v:Value)(t:TypeId):∀(j:Nat) u,[v][j]?=some u→(w.alloc (.cells #[v] t)).cell? (Addr.add ⟨w.heap.size,0,none⟩ j)=some u:=by
 intro j u hj
 match j,hj with
 | 0,hj=>
  simp only [List.getElem?_cons_zero,Option.some.injEq]at hj
  subst hj
  have:=(Blk.new w t #[v]).cell 0
  exact this
def ints(l:List Nat):List Int:=l.map fun (x:Nat)=>(x:Int)
theorem ints_len(l:List Nat):(ints l).length=l.length:=by simp [ints]
end Go.Proofs.YteacgfeiedcdiaaGreatDoor
namespace Go.Gl
set_option linter.unusedVariables false
open Go.RowKit
def catL(L:Nat→List Int):Nat→List Int
 | 0=>[]
 | n+1=>catL L n++L n
theorem catL_le{L:Nat→List Int}{b:Nat}:∀ {n:Nat},(∀i,i<n→(L i).length≤b)→(catL L n).length≤n*b
 | 0,_=>by simp [catL]
 | n+1,h=>by
  have h1:=catL_le (fun i hi=>h i (by omega)) (n:=n) (b:=b)
  have h2:=h n (by omega)
  unfold catL
  rw [List.length_append,Nat.succ_mul]
  omega
theorem catL_mono{L:Nat→List Int}{j:Nat}:∀ {n:Nat},j≤n→(catL L j).length≤(catL L n).length
 | 0,h=>by
       obtain rfl:j=0:=by omega
       exact Nat.le_refl _
 | n+1,h=>by
  rcases Nat.lt_or_ge j (n+1)with h1 | h1
  ·have:=catL_mono (L:=L) (j:=j) (n:=n) (by omega)
   simp only [catL,List.length_append];omega
  ·obtain rfl:j=n+1:=by omega
   exact Nat.le_refl _
theorem Sl.src{w:World}{A:Option Addr}{l:List Int}(h:Sl w A l.length (fun k=>.int .i64 (l.getD k 0))):0<l.length→∃ad,A=some ad∧∀j u,(zv l)[j]?=some u→w.cell? (ad.add j)=some u:=fun hn=>by
 obtain⟨b,off,rfl,_,hc⟩:=h hn
 refine⟨_,rfl,fun j u hu=>?_⟩
 have hj:j<l.length:=by have:=(List.getElem?_eq_some_iff.1 hu).1;rwa [zv_len]at this
 rw [show(⟨b,off,none⟩:Addr).add j=⟨b,off+j,none⟩ from Go.WideShapes.add_plain _ _ _,hc j hj,← zv_get l hj,hu]
structure Qc(ti ts tq:TypeId)(lay:Value→Value→Array Value)(w:World)(q tb n:Nat)(A:Option Addr)(c:Nat)(C:List Int)(G0:List Nat)(V:Nat→Value)(G:Nat→List Nat)(O:Nat→List Int):Prop where
 st:Blk w q tq (lay (.slice A C.length c) (.slice (some ⟨tb,0,none⟩) n n))
 com:Lr w ti A C.length c G0 (zv C)
 ls:Ls ti ts w tb n V G O
 d0:∀i,i<n→∀g,g∈G i→g∉G0
def foot(q tb n:Nat)(G0:List Nat)(G:Nat→List Nat):List Nat:=q::tb::(G0++(List.range n).flatMap G)
theorem mem_foot{q tb n:Nat}{G0:List Nat}{G:Nat→List Nat}{x:Nat}:x∈foot q tb n G0 G↔x=q∨x=tb∨x∈G0∨∃i,i<n∧x∈G i:=by
 simp [foot,List.mem_flatMap]
section
variable {ti ts tq:TypeId}{lay:Value→Value→Array Value}{w w':World}{q tb n:Nat}{A:Option Addr}{c:Nat}{C:List Int}{G0:List Nat}{V:Nat→Value}{G:Nat→List Nat}{O:Nat→List Int}{F:List Nat}
theorem Qc.fr(h:Qc ti ts tq lay w q tb n A c C G0 V G O)(hf:Fr F w w')(hd:∀x,x∈foot q tb n G0 G→x∉F):Qc ti ts tq lay w' q tb n A c C G0 V G O:=
 ⟨h.st.fr hf (hd q (mem_foot.2 (.inl rfl))),h.com.fr hf (fun g hg=>hd g (mem_foot.2 (.inr (.inr (.inl hg))))),h.ls.fr hf (hd tb (mem_foot.2 (.inr (.inl rfl)))) (fun i hi g hg=>hd g (mem_foot.2 (.inr (.inr (.inr ⟨i,hi,hg⟩))))),h.d0⟩
theorem Qc.fr0(h:Qc ti ts tq lay w q tb n A c C G0 V G O)(hf:Fr [] w w'):Qc ti ts tq lay w' q tb n A c C G0 V G O:=h.fr hf (fun _ _=>by simp)
theorem Qc.lt(h:Qc ti ts tq lay w q tb n A c C G0 V G O):∀x,x∈foot q tb n G0 G→x<w.heap.size:=by
 intro x hx
 rcases mem_foot.1 hx with rfl | rfl | hx | ⟨i,hi,hx⟩
 ·exact h.st.lt
 ·exact h.ls.tab.lt
 ·exact h.com.lt x hx
 ·exact h.ls.lt hi x hx
theorem Qc.congr{O':Nat→List Int}(h:Qc ti ts tq lay w q tb n A c C G0 V G O)(ho:∀i,i<n→O i=O' i):Qc ti ts tq lay w q tb n A c C G0 V G O':=
 ⟨h.st,h.com,⟨h.ls.tab,fun i hi=>by rw [← ho i hi];exact h.ls.own i hi,h.ls.apart⟩,h.d0⟩
theorem Qc.own_fr(h:Qc ti ts tq lay w q tb n A c C G0 V G O){k:Nat}(hk:k<n)(hf:Fr (G k) w w')(v:Value):Fr (foot q tb n G0 G) w (w'.setCell ⟨tb,k,none⟩ v):=
 (hf.mono (fun x hx=>.inl (mem_foot.2 (.inr (.inr (.inr ⟨k,hk,hx⟩)))))).setCell (p:=⟨tb,k,none⟩) (.inl (mem_foot.2 (.inr (.inl rfl)))) v
theorem Qc.com_put(h:Qc ti ts tq lay w q tb n A c C G0 V G O)(h1:ti≠ts)(h2:ti≠tq)(h3:ts≠tq){ci:Nat}(hci:∀a b u,(lay a b).setIfInBounds ci u=lay u b){A1:Option Addr}{c1:Nat}{G1:List Nat}{l:List Int}(hf:Fr G0 w w')(hl:Lr w' ti A1 l.length c1 G1 (zv l))(hg:∀g,g∈G1→g∈G0∨w.heap.size≤g) :
  Qc ti ts tq lay (w'.setCell ⟨q,ci,none⟩ (.slice A1 l.length c1)) q tb n A1 c1 l G1 V G O:=by
 have hne:tb≠q:=h.ls.tab.apart h.st h3
 have hq:q∉G0:=h.com.apart h.st h2
 have ht:tb∉G0:=h.com.apart h.ls.tab h1
 have hF:Fr [q] w' (w'.setCell ⟨q,ci,none⟩ (.slice A1 l.length c1)):=(Fr.refl _ _).setCell (p:=⟨q,ci,none⟩) (.inl (by simp)) _
 have hst:=h.st.fr hf hq
 have hls:=h.ls.fr hf ht (fun i hi g hgi=>h.d0 i hi g hgi)
 refine⟨?_,hl.fr hF (fun g hg=>?_),hls.fr hF (by simpa using hne) (fun i hi g hg=>?_),fun i hi g hgi hg1=>?_⟩
 ·have:=hst.put ci (.slice A1 l.length c1)
  rw [hci]at this
  exact this
 ·have:=hl.apart hst h2
  intro h0
  simp at h0
  subst h0
  exact this hg
 ·obtain⟨A',c',_,e2⟩:=hls.own i hi
  have:=e2.apart hst h2
  intro h0
  simp at h0
  subst h0
  exact this hg
 ·rcases hg g hg1 with h4 | h4
  ·exact h.d0 i hi g hgi h4
  ·have:=h.ls.lt hi g hgi
   omega
theorem Qc.clear(h:Qc ti ts tq lay w q tb n A c C G0 V G O)(h1:ti≠ts)(h3:ts≠tq)(hb:Blk w' tb ts (rowF n fun _=>.slice none 0 0))(hf:Fr [tb] w w') :
  Qc ti ts tq lay w' q tb n A c C G0 (fun _=>.slice none 0 0) (fun _=>[]) (fun _=>[]):=
 ⟨h.st.fr hf (by simpa using (h.ls.tab.apart h.st h3).symm),h.com.fr hf (fun g hg h0=>by
  simp at h0
  subst h0
  exact h.com.apart h.ls.tab h1 hg),⟨hb,fun i hi=>⟨none,0,rfl,Lr.nil _ _⟩,fun i j _ _ _ g hg=>by cases hg⟩,fun i hi g hg=>by cases hg⟩
def Qs(ti ts tq:TypeId)(lay:Value→Value→Array Value)(w:World)(q:Nat)(F:List Nat)(n:Nat)(C:List Int)(O:Nat→List Int):Prop:=
 ∃tb A c G0 V G,Qc ti ts tq lay w q tb n A c C G0 V G O∧F=foot q tb n G0 G
theorem Qs.fr{F':List Nat}(h:Qs ti ts tq lay w q F n C O)(hf:Fr F' w w')(hd:∀x,x∈F→x∉F'):Qs ti ts tq lay w' q F n C O:=by
 obtain⟨tb,A,c,G0,V,G,h,rfl⟩:=h
 exact⟨tb,A,c,G0,V,G,h.fr hf hd,rfl⟩
theorem Qs.fr0(h:Qs ti ts tq lay w q F n C O)(hf:Fr [] w w'):Qs ti ts tq lay w' q F n C O:=h.fr hf (fun _ _=>by simp)
theorem Qs.lt(h:Qs ti ts tq lay w q F n C O):∀x,x∈F→x<w.heap.size:=by
 obtain⟨tb,A,c,G0,V,G,h,rfl⟩:=h
 exact h.lt
theorem Qs.drewN(h:Qs ti ts tq lay w q F n C O)(k:Nat):Qs ti ts tq lay (w.drewN k) q F n C O:=h.fr0 ((Fr.refl _ _).drewN k)
end
end Go.Gl
namespace Go.Proofs.YteacgfeiedcdiaaGreatDoor
set_option linter.unusedVariables false
open Go.RowKit Go.Gl
def GrowPost(w:World)(e:Ending)(w':World):Prop:=∃A c G,e=.returned (.slice A 0 c)∧Lr w' 3 A 0 c G []∧Fr [] w w'∧∀g,g∈G→w.heap.size≤g
theorem grow_none(n:Nat)(hn:n≤17592186044416)(w:World):Calls Tryz.prog 108 #[.slice none 0 0,.int .i64 n] w (GrowPost w):=by
 obtain⟨i0,hi,hz0,hz1,hz2⟩:=info_parts Tryz.info_int
 rcases Nat.eq_zero_or_pos n with h0 | h0
 ·subst h0
  go_enter Tryz.func108,Tryz.ntmps108
  go_wp2
  go_ret
  exact⟨none,0,[],rfl,Lr.nil _ _,Fr.refl _ _,fun _ h=>by cases h⟩
 ·have hneg:¬ ((n:Int)<0):=by omega
  have hpos:(n:Int)>0:=by omega
  have hGn:n≤grownCap w n 0 3:=grownCap_ge w _ _ _
  have hG63:grownCap w n 0 3≤maxLen:=grownCap_le_maxLen w n 0 3 (by unfold maxLen;omega)
  have hrz:∀ty,(Builtin.append_ #[31,3] ty #[.slice none 0 0,.int .i64 (n:Int)]).run Tryz.prog w=.ok (.slice (some ⟨w.heap.size,0,none⟩) n (grownCap w n 0 3)) (w.drew.alloc (.cells (Builtin.zeroCells (Value.int .i64 0).cells n++Builtin.zeroCells (Value.int .i64 0).cells (grownCap w n 0 3-n)) 3)):=fun ty=>
   Lib.run_append_nil_zeros w 31 3 ty 3 i0 (.int .i64 0) .i64 .i64 Tryz.underlying31 Tryz.underlying3 hi hz0 n h0 (by rw [hz1];decide) (by omega) (by rw [hz2];omega)
  obtain⟨M,hM⟩:∃M,M=grownCap w n 0 3:=⟨_,rfl⟩
  rw [← hM]at hrz hGn hG63
  have HM:=hide hG63
  have HL:Hid (Lr (w.drew.alloc (.cells (Builtin.zeroCells (Value.int .i64 0).cells n++Builtin.zeroCells (Value.int .i64 0).cells (M-n)) 3)) 3 (some ⟨w.heap.size,0,none⟩) 0 M [w.heap.size] []):=
   ⟨rfl,Nat.zero_le _,hG63,fun h=>absurd h (by omega),fun _=>⟨_,0,_,rfl,rfl,Blk.new w.drew _ _,by simp [size_zeroCells,Value.cells];omega,by simp⟩⟩
  unfold maxLen at hG63
  clear hM
  go_enter Tryz.func108,Tryz.ntmps108
  go_wp2_with (at_builtin;refine Lib.wpList_append_run _ rfl _ _ _ _ rfl _ _ rfl rfl _ _ (hrz _) ?_)
  all_goals
   go_ret
   exact⟨_,_,_,rfl,HL.out,((Fr.refl _ _).drew).alloc _,fun g hg=>by simp at hg;omega⟩
def CatPost(w:World)(l:List Int)(e:Ending)(w':World):Prop:=∃A c G,e=.returned (.slice A l.length c)∧Lr w' 3 A l.length c G (zv l)∧Fr [] w w'∧∀g,g∈G→w.heap.size≤g
set_option maxHeartbeats 1600000 in
theorem concat_any{w:World}{ab k kc:Nat}{A:Nat→Option Addr}{c:Nat→Nat}{L:Nat→List Int}(hk:k≤4611686018427387904)(hrow:∀j,j<k→w.cell? ⟨ab,j,none⟩=some (.slice (A j) (L j).length (c j)))
  (hsl:∀j,j<k→Sl w (A j) (L j).length (fun i=>.int .i64 ((L j).getD i 0))) (hb:(catL L k).length≤17592186044416) :
  Calls Tryz.prog 58 #[.slice (some ⟨ab,0,none⟩) k kc] w (CatPost w (catL L k)):=by
 obtain⟨i0,hi,hz0,hz1,hz2⟩:=info_parts Tryz.info_int
 have HR:=hide hrow
 have HS:=hide hsl
 have HB:=hide hb
 clear hrow hsl hb
 go_enter Tryz.func58,Tryz.ntmps58
 go_wp2
 go_loop [3,11] (fun s i=>∃j:Nat,i=.int .i64 j∧j≤k∧s=.int .i64 (((catL L j).length:Nat):Int)) (fun _ i=>k-(intOf i).toNat)
 case atStart=>exact⟨0,rfl,Nat.zero_le _,rfl⟩
 case round=>
  obtain⟨j,rfl,hj,rfl⟩:=hrel
  have hm:=Nat.le_trans (catL_mono (L:=L) hj) HB.out
  by_cases hlt:j<k
  ·have hlt1:(j:Int)<(k:Int):=by omega
   have hc:=HR.out j hlt
   have hm1:=Nat.le_trans (catL_mono (L:=L) (show j+1≤k from hlt)) HB.out
   have HE:Hid ((catL L (j+1)).length=(catL L j).length+(L j).length):=by show _=_;simp [catL]
   rw [HE.out]at hm1
   have HE0:Hid (Value.int .i64 (((catL L (j+1)).length:Nat):Int)=.int .i64 (((catL L j).length:Int)+((L j).length:Int))):=by show _=_;rw [HE.out];go_num
   clear HE
   generalize hS:(catL L (j+1)).length=s1 at *
   have ES:=hide hS
   clear hS
   generalize (catL L j).length=s0 at *
   generalize (L j).length=l0 at *
   have hneg:¬ ((s0:Int)+(l0:Int)<0):=by omega
   go_wp2
   go_round
   case rel=>exact⟨j+1,by go_num,by omega,by rw [ES.out];exact HE0.out.symm⟩
   case measure=>simp [intOf];omega
  ·obtain rfl:k=j:=by omega
   go_wp2_with fail
   refine(grow_none _ HB.out _).mono ?_
   rintro e w1 ⟨A1,c1,G1,rfl,hl,hf,hg⟩
   have HL:Hid (Lr w1 3 A1 0 c1 G1 (zv (catL L 0))):=hl
   have HF:=hide hf
   have HG:=hide hg
   clear hl hf hg
   go_wp2_with fail
   go_loopw [6,27] (fun v i wr=>∃(j:Nat) (A2:Option Addr) (c2:Nat) (G2:List Nat),i=.int .i64 j∧j≤k∧v=.slice A2 (catL L j).length c2∧Lr wr 3 A2 (catL L j).length c2 G2 (zv (catL L j))∧Fr [] w wr∧∀g,g∈G2→w.heap.size≤g) (fun _ i _=>k-(intOf i).toNat)
   case atStart=>exact⟨0,_,_,_,rfl,Nat.zero_le _,rfl,HL.out,HF.out,HG.out⟩
   case round=>
    obtain⟨j,A2,c2,G2,rfl,hj2,rfl,hl,hf,hg⟩:=hrel
    have HL2:=hide hl
    have HF2:=hide hf
    have HG2:=hide hg
    clear hl hf hg
    by_cases hlt:j<k
    ·have hlt1:(j:Int)<(k:Int):=by omega
     have hc:=(HF2.out.cell (p:=⟨ab,j,none⟩) (lt_of_cell (HR.out j hlt)) (by simp)).trans (HR.out j hlt)
     have hm1:=Nat.le_trans (catL_mono (L:=L) (show j+1≤k from hlt)) HB.out
     have HE:Hid ((catL L (j+1)).length=(catL L j).length+(L j).length∧zv (catL L (j+1))=zv (catL L j)++zv (L j)):=by
      refine⟨?_,?_⟩
      ·simp [catL]
      ·simp [catL,zv_app]
     rw [HE.out.1]at hm1
     have HX:=hide (((HS.out j hlt).fr HF2.out (fun x hx=>by cases hx)).src)
     have HN:Hid ((zv (L j)).length=(L j).length∧∀u∈zv (L j),u.oneCell'=true):=⟨zv_len _,zv_one _⟩
     have HM1:=hide hm1
     clear hm1
     go_wp2_with (first | (at_builtin;go_loud (refine wpList_append_lr rfl _ _ 31 rfl 3 i0 (.int .i64 0) 8 Tryz.underlying31 hi hz0 hz1 hz2 rfl rfl HL2.out rfl HN.out.1 HX.out HN.out.2 (by have:=HM1.out;unfold maxLen;omega) (by have:=HM1.out;omega) ?_;intro A3 c3 G3 w3 HL3 HF3 HG3)))
     have HL4:Hid (Lr w3 3 A3 (catL L (j+1)).length c3 G3 (zv (catL L (j+1)))):=by
      show Lr _ _ _ _ _ _ _
      rw [HE.out.1,HE.out.2];exact HL3.out
     have HF4:Hid (Fr [] w w3):=HF2.out.trans HF3.out (fun x hx=>.inr (HG2.out x hx))
     have HG4:Hid (∀g,g∈G3→w.heap.size≤g):=fun g hg=>by
      rcases HG3.out g hg with h | ⟨h,_⟩
      ·exact HG2.out g h
      ·have:=HF2.out.size;omega
     go_roundw
     case rel=>exact⟨j+1,A3,c3,G3,by go_num,by omega,by rw [HE.out.1],HL4.out,HF4.out,HG4.out⟩
     case measure=>simp [intOf];omega
    ·obtain rfl:k=j:=by omega
     go_wp2_with fail
     go_ret
     exact⟨A2,c2,G2,rfl,HL2.out,HF2.out,HG2.out⟩
theorem Tryz.info_ints:(Tryz.prog.info? 31).map (fun i=>(i.zero,i.size,i.bytes))=some (some (.slice none 0 0),1,24):=by kernel_rfl
def layQ(B:Nat):Value→Value→Array Value:=fun a b=>#[a,.int .i64 (B:Int),b]
abbrev Qq(w:World)(q:Nat)(F:List Nat)(n B:Nat)(C:List Int)(O:Nat→List Int):Prop:=Qs 3 31 118 (layQ B) w q F n C O
abbrev Qk(w:World)(q tb n B:Nat)(A:Option Addr)(c:Nat)(C:List Int)(G0:List Nat)(V:Nat→Value)(G:Nat→List Nat)(O:Nat→List Int):Prop:=Qc 3 31 118 (layQ B) w q tb n A c C G0 V G O
structure QOk(n B:Nat)(C:List Int)(O:Nat→List Int):Prop where
 n1:1≤n
 n2:n≤64
 b:B≤65536
 c:C.length≤B
 o:∀i,i<n→(O i).length≤3
theorem QOk.cat{n B:Nat}{C:List Int}{O:Nat→List Int}(h:QOk n B C O):(catL O n).length≤192:=by
 have:=catL_le h.o
 have:=h.n2
 omega
section
variable {w:World}{q tb n B:Nat}{A:Option Addr}{c:Nat}{C:List Int}{G0:List Nat}{V:Nat→Value}{G:Nat→List Nat}{O:Nat→List Int}{F:List Nat}
theorem Qk.c0(h:Qk w q tb n B A c C G0 V G O):w.cell? ⟨q,0,none⟩=some (.slice A C.length c):=by rw [h.st.cell];rfl
theorem Qk.c1(h:Qk w q tb n B A c C G0 V G O):w.cell? ⟨q,1,none⟩=some (.int .i64 (B:Int)):=by rw [h.st.cell];rfl
theorem Qk.c2(h:Qk w q tb n B A c C G0 V G O):w.cell? ⟨q,2,none⟩=some (.slice (some ⟨tb,0,none⟩) n n):=by rw [h.st.cell];rfl
theorem Qk.cw(h:Qk w q tb n B A c C G0 V G O){k:Nat}(hk:k<n):w.cell? ⟨tb,k,none⟩=some (V k):=h.ls.cw hk
end
def QNew(n B:Nat)(w:World)(e:Ending)(w':World):Prop:=
 ∃q F,e=.returned (.tuple #[.pointer (some ⟨q,0,none⟩),.int .i64 0])∧Qq w' q F n B [] (fun _=>[])∧Fr [] w w'∧∀x,x∈F→w.heap.size≤x
theorem qnew_ok(n B:Nat)(h1:1≤n)(h2:n≤64)(h3:B≤65536)(w:World):Calls Tryz.prog 76 #[.int .i64 (n:Int),.int .i64 (B:Int)] w (QNew n B w):=by
 obtain⟨i0,hi,hz0,hz1,hz2⟩:=info_parts Tryz.info_ints
 have g1:¬ ((n:Int)<1):=by omega
 have g2:¬ ((n:Int)>64):=by omega
 have g3:¬ ((B:Int)<0):=by omega
 have g4:¬ ((B:Int)>65536):=by omega
 go_enter Tryz.func76,Tryz.ntmps76
 go_wp2_with (first | (at_make;refine wpList_make_full _ rfl _ _ 25 rfl w.heap.size 31 i0 (.slice none 0 0) 1 Tryz.underlying25 hi hz0 hz1 _ _ _ _ n rfl rfl rfl rfl (by rw [hz2];omega) (by unfold maxLen;omega) (Nat.le_refl _) ?_;intro w1 hown hgr;have HO:=hide hown;have HG:=hide hgr;clear hown hgr))
 go_ret2
 have hown:=HO.out
 rw [Nat.mul_one,made_one _ rfl]at hown
 have hb:=own_full hown
 have HF:Fr [] w w1:=(Fr.refl [] w).grown HG.out (fun _ hk=>by cases hk)
 refine⟨w1.heap.size,_,rfl,⟨w.heap.size,none,0,[],fun _=>.slice none 0 0,fun _=>[],⟨Blk.new _ _ _,Lr.nil _ _,⟨?_,fun i hi=>⟨none,0,rfl,Lr.nil _ _⟩,fun i j _ _ _ g hg=>by cases hg⟩,fun i hi g hg=>by cases hg⟩,rfl⟩,HF.alloc _,fun x hx=>?_⟩
 ·rw [rowF_const];exact hb.alloc _
 ·rcases mem_foot.1 hx with rfl | rfl | hx | ⟨i,_,hx⟩
  ·exact HF.size
  ·exact Nat.le_refl _
  ·cases hx
  ·cases hx
def QPop(w:World)(F:List Nat)(Q:World→List Nat→Prop)(x er:Int)(e:Ending)(w':World):Prop:=
 ∃F',e=.returned (.tuple #[.int .i64 x,.int .i64 er])∧Q w' F'∧Fr F w w'∧∀x,x∈F'→x∈F∨w.heap.size≤x
set_option maxRecDepth 100000
def QRes(w:World)(F:List Nat)(Q:World→List Nat→Prop)(over:List Int)(er:Int)(e:Ending)(w':World):Prop:=
 ∃F' A c G,e=.returned (.tuple #[.slice A over.length c,.int .i64 er])∧Q w' F'∧Lr w' 3 A over.length c G (zv over)∧Fr F w w'∧(∀x,x∈F'→x∈F∨w.heap.size≤x)∧∀g,g∈G→g∉F'∧(g∈F∨w.heap.size≤g)
def QLst(w:World)(F:List Nat)(Q:World→List Nat→Prop)(over:List Int)(e:Ending)(w':World):Prop:=
 ∃F' A c G,e=.returned (.slice A over.length c)∧Q w' F'∧Lr w' 3 A over.length c G (zv over)∧Fr F w w'∧(∀x,x∈F'→x∈F∨w.heap.size≤x)∧∀g,g∈G→g∉F'∧(g∈F∨w.heap.size≤g)
def pushC(B:Nat)(C:List Int)(O:Nat→List Int)(t:Nat)(x:Int):List Int:=if (O t).length<3 then C else C++(O t++[x]).take (B-C.length)
def pushO(O:Nat→List Int)(t:Nat)(x:Int):Nat→List Int:=if (O t).length<3 then putF O t (O t++[x]) else putF O t []
def pushV(B:Nat)(C:List Int)(O:Nat→List Int)(t:Nat)(x:Int):List Int:=if (O t).length<3 then [] else (O t++[x]).drop (B-C.length)
theorem QOk.push{n B:Nat}{C:List Int}{O:Nat→List Int}(h:QOk n B C O){t:Nat}(ht:t<n)(x:Int):QOk n B (pushC B C O t x) (pushO O t x):=by
 have hc:=h.c
 unfold pushC pushO
 by_cases h3:(O t).length<3
 ·rw [if_pos h3,if_pos h3]
  refine⟨h.n1,h.n2,h.b,h.c,fun i hi=>?_⟩
  by_cases hit:i=t
  ·subst hit;rw [putF_at,List.length_append];simp;omega
  ·rw [putF_ne _ _ hit];exact h.o i hi
 ·rw [if_neg h3,if_neg h3]
  refine⟨h.n1,h.n2,h.b,by rw [List.length_append,List.length_take];omega,fun i hi=>?_⟩
  by_cases hit:i=t
  ·subst hit;rw [putF_at];simp
  ·rw [putF_ne _ _ hit];exact h.o i hi
end Go.Proofs.YteacgfeiedcdiaaGreatDoor
