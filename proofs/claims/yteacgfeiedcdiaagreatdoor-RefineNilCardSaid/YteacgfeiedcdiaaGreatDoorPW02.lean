/- Several texts joined (pack.py): Qw Bn Geo Wa. -/
import Derived.Test.YteacgfeiedcdiaaGreatDoorPW01
import Derived.Deep.RegionWith
import Derived.Laws.BitsAllLaws
import Derived.Laws.Bits128
import Derived.Lib.TrailingZeros
import Derived.Test.YteacgfeiedcdiaaGreatDoorPW00
import Derived.IntWalk
namespace Go.Proofs.YteacgfeiedcdiaaGreatDoor
set_option maxRecDepth 100000
set_option linter.unusedVariables false
open Go.RowKit Go.Gl
theorem Tryz.zero_ints:∀w,(zeroValue 31).run Tryz.prog w=.ok (.slice none 0 0) w:=fun w=>by
 obtain⟨i0,hi,hz0,_,_⟩:=info_parts Tryz.info_ints
 simp [zeroValue,typeInfo,hi,hz0]
theorem splice_whole{l r:List Value}(h:r.length=l.length):splice l 0 r=r:=by
 unfold splice
 rw [List.take_zero,Nat.zero_add,h,List.drop_length]
 simp
theorem concat_two{w:World}{ab n c n1 c1:Nat}{A A1:Option Addr}{l l1:List Int}(h0:w.cell? ⟨ab,0,none⟩=some (.slice A l.length c))(h1:w.cell? ⟨ab,1,none⟩=some (.slice A1 l1.length c1))
  (s0:Sl w A l.length (fun i=>.int .i64 (l.getD i 0))) (s1:Sl w A1 l1.length (fun i=>.int .i64 (l1.getD i 0))) (hb:(l++l1).length≤17592186044416) :
  Calls Tryz.prog 58 #[.slice (some ⟨ab,0,none⟩) 2 2] w (CatPost w (l++l1)):=by
 have:=concat_any (w:=w) (ab:=ab) (k:=2) (kc:=2) (A:=fun j=>if j=0 then A else A1) (c:=fun j=>if j=0 then c else c1) (L:=fun j=>if j=0 then l else l1) (by decide)
  (fun j hj=>by
   obtain rfl | rfl:j=0∨j=1:=by omega
   ·exact h0
   ·exact h1)
  (fun j hj=>by
   obtain rfl | rfl:j=0∨j=1:=by omega
   ·exact s0
   ·exact s1) (by simpa [catL] using hb)
 simpa [catL] using this
def QFresh(w:World)(F:List Nat)(Q:World→List Nat→Prop)(over:List Int)(e:Ending)(w':World):Prop:=
 ∃F' A c G,e=.returned (.slice A over.length c)∧Q w' F'∧Lr w' 3 A over.length c G (zv over)∧Fr F w w'∧(∀x,x∈F'→x∈F∨w.heap.size≤x)∧∀g,g∈G→g∉F'∧w.heap.size≤g
set_option maxHeartbeats 3200000 in
theorem qdrain_new{w:World}{q:Nat}{F:List Nat}{n B:Nat}{C:List Int}{O:Nat→List Int}(h:Qq w q F n B C O)(hk:QOk n B C O) :
  Calls Tryz.prog 59 #[.pointer (some ⟨q,0,none⟩)] w (QFresh w F (fun w' F'=>Qq w' q F' n B [] (fun _=>[])) (C++catL O n)):=by
 obtain⟨tb,A,c,G0,V,G,h,rfl⟩:=h
 have c0:=Qk.c0 h
 have c2:=Qk.c2 h
 have H:=hide h
 have HK:=hide hk
 have N1:q<w.heap.size:=h.st.lt
 obtain⟨A',hA'⟩:∃A':Nat→Option Addr,∀i,A' i=(match V i with | .slice a _ _=>a | _=>none):=⟨_,fun _=>rfl⟩
 obtain⟨c',hc'⟩:∃c':Nat→Nat,∀i,c' i=(match V i with | .slice _ _ k=>k | _=>0):=⟨_,fun _=>rfl⟩
 have HI:Hid (∀w',Fr [] w w'→Calls Tryz.prog 58 #[.slice (some ⟨tb,0,none⟩) n n] w' (CatPost w' (catL O n))):=fun w' hf=>by
  have h':=H.out.fr0 hf
  refine concat_any (A:=A') (c:=c') (by have:=HK.out.n2;omega) (fun j hj=>?_) (fun j hj=>?_) (by have:=HK.out.cat;omega)
  ·obtain⟨A1,c1,e1,_⟩:=h'.ls.own j hj
   rw [Qk.cw h' hj,hA',hc',e1]
  ·obtain⟨A1,c1,e1,e2⟩:=h'.ls.own j hj
   rw [hA',e1]
   exact e2.slz
 have HJ:Hid (∀w1 A1 c1 G1,Fr [] w w1→Lr w1 3 A1 (catL O n).length c1 G1 (zv (catL O n))→Calls Tryz.prog 58 #[.slice (some ⟨w1.heap.size,0,none⟩) 2 2] (w1.alloc (.cells #[.slice A C.length c,.slice A1 (catL O n).length c1] 31)) (CatPost (w1.alloc (.cells #[.slice A C.length c,.slice A1 (catL O n).length c1] 31)) (C++catL O n))):=fun w1 A1 c1 G1 hf hl=>by
  have hb:=Blk.new w1 31 #[.slice A C.length c,.slice A1 (catL O n).length c1]
  refine concat_two (n:=0) (n1:=0) (c:=c) (c1:=c1) (by rw [hb.cell];rfl) (by rw [hb.cell];rfl) ((H.out.com.fr0 hf).alloc _).slz (hl.alloc _).slz ?_
  have:=HK.out.cat
  have:=HK.out.c
  have:=HK.out.b
  rw [List.length_append];omega
 have HZ:Hid (∀w',Fr [] w w'→w'.cell? ⟨q,0,none⟩=some (.slice A C.length c)):=fun w' hf=>Qk.c0 (H.out.fr0 hf)
 have HI0:=hide (HI.out w.drew (Fr.refl _ _).drew)
 clear h hk hA' hc' HI
 go_enter Tryz.func59,Tryz.ntmps59
 go_wp2_with fail
 go_region_with (go_at_call 58;first | ((with_reducible refine Calls.mono HI0.out ?_);rintro e w1 ⟨A1,c1,G1,rfl,hl,hf,hg⟩;have HL1:=hide hl;have HF1:=hide ((Fr.refl [] w).drew.trans_same hf);have HG1:=hide hg;have d0:=HZ.out _ HF1.out;have HJ1:=hide (HJ.out _ _ _ _ HF1.out HL1.out);clear hl hf hg) | ((with_reducible refine Calls.mono HJ1.out ?_);rintro e w2 ⟨A2,c2',G2,rfl,hl2,hf2,hg2⟩) | fail)
 all_goals
  have HF2:Hid (Fr [] w w2):=(HF1.out.alloc _).trans_same hf2
  have HL2:=hide hl2
  have HG2:Hid (∀g,g∈G2→w.heap.size≤g):=fun g hg=>Nat.le_trans (HF1.out.alloc _).size (hg2 g hg)
  have HLN:Hid ((C++catL O n).length=C.length+(catL O n).length):=List.length_append
  clear hl2 hf2 hg2 d0 HJ1
  have HQ:=hide (H.out.fr0 HF2.out)
  have e0:=Qk.c0 HQ.out
  have z0:=HQ.out.st.frozen 0
  have HQ1:Hid (Qk (w2.setCell ⟨q,0,none⟩ (.slice none 0 0)) q tb n B none 0 [] [] V G O):=HQ.out.com_put (by decide) (by decide) (by decide) (ci:=0) (l:=[]) (fun _ _ _=>rfl) (Fr.refl _ _) (Lr.nil _ _) (fun _ h=>by cases h)
  have HF3:Hid (Fr (foot q tb n G0 G) w (w2.setCell ⟨q,0,none⟩ (.slice none 0 0))):=(HF2.out.mono (fun x hx=>by cases hx)).setCell (p:=⟨q,0,none⟩) (.inl (mem_foot.2 (.inl rfl))) _
  have HL3:Hid (Lr (w2.setCell ⟨q,0,none⟩ (.slice none 0 0)) 3 A2 (C++catL O n).length c2' G2 (zv (C++catL O n))):=HL2.out.fr (F:=[q]) ((Fr.refl _ _).setCell (p:=⟨q,0,none⟩) (.inl (by simp)) _) (fun g hg=>by have:=HG2.out g hg;simp;omega)
  have f2:=Qk.c2 HQ1.out
  have HSZ:Hid ((rowF n V).size=n):=rowF_size _ _
  go_wp2_with (with_reducible refine wpList_clear_blk rfl _ 25 rfl 31 Tryz.underlying25 Tryz.zero_ints rfl rfl (some ⟨tb,0,none⟩) n n rfl tb 0 (rowF n V) 31 HQ1.out.ls.tab (fun _=>rfl) (by rw [HSZ.out];omega) ?_)
  intro w4 HB4 HF4
  have HB5:Blk w4 tb 31 (rowF n fun _=>.slice none 0 0):=by
   have:=HB4.out
   rw [splice_whole (by simp [rowF_size]),← rowF_const]at this
   exact this
  have HQ4:Hid (Qk w4 q tb n B none 0 [] [] (fun _=>.slice none 0 0) (fun _=>[]) (fun _=>[])):=HQ1.out.clear (by decide) (by decide) HB5 HF4.out
  have HL4:Hid (Lr w4 3 A2 (C++catL O n).length c2' G2 (zv (C++catL O n))):=HL3.out.fr HF4.out (fun g hg=>by have:=HG2.out g hg;have:=H.out.ls.tab.lt;simp;omega)
  have HF5:Hid (Fr (foot q tb n G0 G) w w4):=HF3.out.trans HF4.out (fun x hx=>.inl (by simp at hx;exact mem_foot.2 (.inr (.inl hx))))
  clear HB5
  go_wp2_with fail
  go_ret
  refine⟨_,A2,c2',G2,by rw [HLN.out];rfl,⟨_,_,_,_,_,_,HQ4.out,rfl⟩,HL4.out,HF5.out,fun x hx=>?_,fun g hg=>⟨fun hx=>?_,HG2.out g hg⟩⟩
  ·rcases mem_foot.1 hx with rfl | rfl | hx | ⟨i,_,hx⟩
   ·exact .inl (mem_foot.2 (.inl rfl))
   ·exact .inl (mem_foot.2 (.inr (.inl rfl)))
   ·cases hx
   ·cases hx
  ·have h1:=HG2.out g hg
   rcases mem_foot.1 hx with rfl | rfl | hx | ⟨i,_,hx⟩
   ·have:=H.out.st.lt;omega
   ·have:=H.out.ls.tab.lt;omega
   ·cases hx
   ·cases hx
end Go.Proofs.YteacgfeiedcdiaaGreatDoor
namespace Go.Gl
set_option linter.unusedVariables false
def cnt(p:Nat→Bool)(a:Nat):Nat→Nat
 | 0=>0
 | n+1=>cnt p a n+(if p (a+n) then 1 else 0)
theorem cnt_le(p:Nat→Bool)(a n:Nat):cnt p a n≤n:=by
 induction n with
 | zero=>simp [cnt]
 | succ n ih=>simp only [cnt];split <;> omega
theorem cnt_congr{p q:Nat→Bool}{a b n:Nat}(h:∀j,j<n→p (a+j)=q (b+j)):cnt p a n=cnt q b n:=by
 induction n with
 | zero=>rfl
 | succ n ih=>simp only [cnt];rw [ih (fun j hj=>h j (by omega)),h n (by omega)]
theorem cnt_add(p:Nat→Bool)(a m n:Nat):cnt p a (m+n)=cnt p a m+cnt p (a+m) n:=by
 induction n with
 | zero=>rfl
 | succ n ih=>rw [← Nat.add_assoc];simp only [cnt];rw [ih,Nat.add_assoc a m n];omega
theorem cnt_none{p:Nat→Bool}{a n:Nat}(h:∀j,j<n→p (a+j)=false):cnt p a n=0:=by
 induction n with
 | zero=>rfl
 | succ n ih=>simp only [cnt];rw [ih (fun j hj=>h j (by omega)),h n (by omega)];rfl
def pc(x:Nat):Nat:=cnt x.testBit 0 64
def rep(c:Nat):Nat→Nat
 | 0=>0
 | n+1=>c+256*rep c n
def mapb(g:Nat→Nat):Nat→Nat→Nat
 | 0,_=>0
 | n+1,x=>g (x % 256)+256*mapb g n (x / 256)
theorem tb_cons(a q j:Nat)(ha:a<256):(a+256*q).testBit j=if j<8 then a.testBit j else q.testBit (j-8):=by
 rw [Nat.add_comm]
 exact Nat.testBit_two_pow_mul_add q (i:=8) ha j
theorem and_cons(a q c d:Nat)(ha:a<256)(hc:c<256):(a+256*q) &&& (c+256*d)=(a &&& c)+256*(q &&& d):=by
 have hac:a &&& c<256:=Nat.lt_of_le_of_lt Nat.and_le_left ha
 apply Nat.eq_of_testBit_eq
 intro j
 rw [Nat.testBit_and,tb_cons a q j ha,tb_cons c d j hc,tb_cons _ _ j hac,Nat.testBit_and,Nat.testBit_and]
 split <;> rfl
def g1(a:Nat):Nat:=(a / 2 &&& 85)+(a &&& 85)
def g2(a:Nat):Nat:=(a / 4 &&& 51)+(a &&& 51)
def g3(a:Nat):Nat:=(a / 16+a) % 16
def pcb(a:Nat):Nat:=cnt a.testBit 0 8
theorem g1_mask:∀(a:Fin 256) (r:Fin 2),(a.val / 2+128*r.val) &&& 85=a.val / 2 &&& 85:=by decide +kernel
theorem g2_mask:∀(a:Fin 256) (r:Fin 4),(a.val / 4+64*r.val) &&& 51=a.val / 4 &&& 51:=by decide +kernel
theorem g123:∀a:Fin 256,g3 (g2 (g1 a.val))=pcb a.val∧g2 (g1 a.val)≤68∧g2 (g1 a.val) % 16≤4∧g1 a.val<256∧pcb a.val≤8:=by decide +kernel
theorem s1_eq(n:Nat):∀x,(x / 2 &&& rep 85 n)+(x &&& rep 85 n)=mapb g1 n x:=by
 induction n with
 | zero=>intro x;simp [rep,mapb]
 | succ n ih=>
  intro x
  have hm:=g1_mask ⟨x % 256,by omega⟩ ⟨x / 256 % 2,by omega⟩
  simp only at hm
  have e1:x / 2=(x % 256 / 2+128*(x / 256 % 2))+256*(x / 256 / 2):=by omega
  have e2:x &&& rep 85 (n+1)=(x % 256 &&& 85)+256*(x / 256 &&& rep 85 n):=by
   rw [rep,← and_cons _ _ _ _ (by omega) (by omega)]
   congr 1;omega
  rw [e2,e1,rep,and_cons _ _ _ _ (by omega) (by omega),hm,mapb,← ih (x / 256),g1]
  omega
theorem s2_eq(n:Nat):∀x,(x / 4 &&& rep 51 n)+(x &&& rep 51 n)=mapb g2 n x:=by
 induction n with
 | zero=>intro x;simp [rep,mapb]
 | succ n ih=>
  intro x
  have hm:=g2_mask ⟨x % 256,by omega⟩ ⟨x / 256 % 4,by omega⟩
  simp only at hm
  have e1:x / 4=(x % 256 / 4+64*(x / 256 % 4))+256*(x / 256 / 4):=by omega
  have e2:x &&& rep 51 (n+1)=(x % 256 &&& 51)+256*(x / 256 &&& rep 51 n):=by
   rw [rep,← and_cons _ _ _ _ (by omega) (by omega)]
   congr 1;omega
  rw [e2,e1,rep,and_cons _ _ _ _ (by omega) (by omega),hm,mapb,← ih (x / 256),g2]
  omega
theorem mapb_mapb(g h:Nat→Nat)(hg:∀a,a<256→g a<256)(n:Nat):∀x,mapb h n (mapb g n x)=mapb (fun a=>h (g a)) n x:=by
 induction n with
 | zero=>intro x;rfl
 | succ n ih=>
  intro x
  have hlt:=hg (x % 256) (by omega)
  simp only [mapb]
  rw [show(g (x % 256)+256*mapb g n (x / 256)) % 256=g (x % 256)by omega,show(g (x % 256)+256*mapb g n (x / 256)) / 256=mapb g n (x / 256)by omega,ih]
theorem mapb_congr(g h:Nat→Nat)(hg:∀a,a<256→g a=h a)(n:Nat):∀x,mapb g n x=mapb h n x:=by
 induction n with
 | zero=>intro x;rfl
 | succ n ih=>intro x;simp only [mapb];rw [hg _ (by omega),ih]
theorem and15(u:Nat):u &&& 15=u % 16:=Nat.and_two_pow_sub_one_eq_mod u 4
theorem s3_eq(g:Nat→Nat)(hg:∀a,a<256→g a≤68∧g a % 16≤4)(n:Nat):∀x,(mapb g n x / 16+mapb g n x) &&& rep 15 n=mapb (fun a=>g3 (g a)) n x:=by
 induction n with
 | zero=>intro x;simp [rep,mapb]
 | succ n ih=>
  intro x
  have ha:=hg (x % 256) (by omega)
  have hq:mapb g n (x / 256) % 16≤4:=by
   cases n with
   | zero=>simp [mapb]
   | succ n=>have:=hg (x / 256 % 256) (by omega);simp only [mapb];omega
  have e:mapb g (n+1) x / 16+mapb g (n+1) x=(g (x % 256) / 16+g (x % 256)+16*(mapb g n (x / 256) % 16))+256*(mapb g n (x / 256) / 16+mapb g n (x / 256)):=by
   simp only [mapb];omega
  rw [e,rep,and_cons _ _ _ _ (by omega) (by omega),ih,mapb,and15,g3]
  omega
theorem cnt_mapb(n:Nat):∀x,cnt x.testBit 0 (8*n)=(match n with | 0=>0 | n+1=>pcb (x % 256)+cnt (x / 256).testBit 0 (8*n)):=by
 intro x
 cases n with
 | zero=>rfl
 | succ n=>
  have hx:x=x % 256+256*(x / 256):=by omega
  rw [show 8*(n+1)=8+8*n by omega,cnt_add]
  congr 1
  ·refine cnt_congr fun j hj=>?_
   simp only [Nat.zero_add]
   conv=>lhs;rw [hx]
   rw [tb_cons _ _ _ (by omega),if_pos hj]
  ·refine cnt_congr fun j hj=>?_
   simp only [Nat.zero_add]
   conv=>lhs;rw [hx]
   rw [tb_cons _ _ _ (by omega),if_neg (by omega),show 8+j-8=j by omega]
theorem swar(x a b c d e f:Nat)(ha:a=(x / 2 &&& 6148914691236517205)+(x &&& 6148914691236517205))(hb:b=(a / 4 &&& 3689348814741910323)+(a &&& 3689348814741910323))
  (hc:c=(b / 16+b) &&& 1085102592571150095) (hd:d=c+c / 256) (he:e=d+d / 65536) (hf:f=e+e / 4294967296) :
  f % 128=pc x∧c≤578721382704613384:=by
 have r1:(6148914691236517205:Nat)=rep 85 8:=by decide +kernel
 have r2:(3689348814741910323:Nat)=rep 51 8:=by decide +kernel
 have r3:(1085102592571150095:Nat)=rep 15 8:=by decide +kernel
 rw [r1,s1_eq]at ha
 rw [r2,s2_eq,ha,mapb_mapb _ _ (fun a h=>(g123 ⟨a,h⟩).2.2.2.1)]at hb
 rw [r3,hb,s3_eq _ (fun a h=>⟨(g123 ⟨a,h⟩).2.1,(g123 ⟨a,h⟩).2.2.1⟩),mapb_congr _ pcb (fun a h=>(g123 ⟨a,h⟩).1)]at hc
 have hp:pc x=pcb (x % 256)+(pcb (x / 256 % 256)+(pcb (x / 256 / 256 % 256)+(pcb (x / 256 / 256 / 256 % 256)+(pcb (x / 256 / 256 / 256 / 256 % 256)+(pcb (x / 256 / 256 / 256 / 256 / 256 % 256)+(pcb (x / 256 / 256 / 256 / 256 / 256 / 256 % 256)+pcb (x / 256 / 256 / 256 / 256 / 256 / 256 / 256 % 256))))))):=by
  unfold pc
  rw [show 64=8*8 from rfl]
  iterate 8 (rw [cnt_mapb];dsimp only)
  rfl
 simp only [mapb,Nat.mul_zero,Nat.add_zero]at hc
 rw [hp]
 have k0:=(g123 ⟨x % 256,by omega⟩).2.2.2.2
 have k1:=(g123 ⟨x / 256 % 256,by omega⟩).2.2.2.2
 have k2:=(g123 ⟨x / 256 / 256 % 256,by omega⟩).2.2.2.2
 have k3:=(g123 ⟨x / 256 / 256 / 256 % 256,by omega⟩).2.2.2.2
 have k4:=(g123 ⟨x / 256 / 256 / 256 / 256 % 256,by omega⟩).2.2.2.2
 have k5:=(g123 ⟨x / 256 / 256 / 256 / 256 / 256 % 256,by omega⟩).2.2.2.2
 have k6:=(g123 ⟨x / 256 / 256 / 256 / 256 / 256 / 256 % 256,by omega⟩).2.2.2.2
 have k7:=(g123 ⟨x / 256 / 256 / 256 / 256 / 256 / 256 / 256 % 256,by omega⟩).2.2.2.2
 simp only at k0 k1 k2 k3 k4 k5 k6 k7
 generalize pcb (x % 256)=c0 at *
 generalize pcb (x / 256 % 256)=c1 at *
 generalize pcb (x / 256 / 256 % 256)=c2 at *
 generalize pcb (x / 256 / 256 / 256 % 256)=c3 at *
 generalize pcb (x / 256 / 256 / 256 / 256 % 256)=c4 at *
 generalize pcb (x / 256 / 256 / 256 / 256 / 256 % 256)=c5 at *
 generalize pcb (x / 256 / 256 / 256 / 256 / 256 / 256 % 256)=c6 at *
 generalize pcb (x / 256 / 256 / 256 / 256 / 256 / 256 / 256 % 256)=c7 at *
 clear hp ha hb r1 r2 r3
 have hd':d=(c0+c1)+256*(c1+c2)+65536*(c2+c3)+16777216*(c3+c4)+4294967296*(c4+c5)+1099511627776*(c5+c6)+281474976710656*(c6+c7)+72057594037927936*c7:=by omega
 clear hd
 refine⟨?_,by omega⟩
 clear hc
 have he':e=(c0+c1+c2+c3)+256*(c1+c2+c3+c4)+65536*(c2+c3+c4+c5)+16777216*(c3+c4+c5+c6)+4294967296*(c4+c5+c6+c7)+1099511627776*(c5+c6+c7)+281474976710656*(c6+c7)+72057594037927936*c7:=by omega
 clear he hd'
 have hq:e / 4294967296=(c4+c5+c6+c7)+256*(c5+c6+c7)+65536*(c6+c7)+16777216*c7:=by omega
 rw [hq]at hf
 clear hq
 have hf':f=(c0+c1+c2+c3+c4+c5+c6+c7)+128*(2*((c1+c2+c3+c4)+(c5+c6+c7))+512*((c2+c3+c4+c5)+(c6+c7))+131072*((c3+c4+c5+c6)+c7)+33554432*(c4+c5+c6+c7)+8589934592*(c5+c6+c7)+2199023255552*(c6+c7)+562949953421312*c7):=by omega
 clear hf he'
 omega
theorem i64_and63(n:Int):bits .and .i64 n 63=n % 64:=by
 have h127:(BitVec.ofInt 64 63).toNat=2 ^ 6-1:=by decide
 have key:(BitVec.ofInt 64 n &&& BitVec.ofInt 64 63).toNat=(n % ((2 ^ 64:Nat):Int)).toNat % 2 ^ 6:=by
  rw [BitVec.toNat_and,BitVec.toNat_ofInt,h127,Nat.and_two_pow_sub_one_eq_mod]
 show IntKind.i64.wrap ((BitVec.ofInt 64 n &&& BitVec.ofInt 64 63).toNat:Nat)=n % 64
 rw [key,IntKind.wrap_i64]
 omega
theorem pow_lt64{k:Nat}(h:k<64):2 ^ k<18446744073709551616:=Nat.pow_lt_pow_of_lt (a:=2) (n:=k) (m:=64) (by decide) h
def hi(s:Nat):Nat:=18446744073709551615*2 ^ s % 18446744073709551616
def lo(s:Nat):Nat:=18446744073709551615 / 2 ^ s
theorem hi_lt(s:Nat):hi s<18446744073709551616:=Nat.mod_lt _ (by decide)
theorem lo_lt(s:Nat):lo s<18446744073709551616:=Nat.lt_of_le_of_lt (Nat.div_le_self _ _) (by decide)
theorem hi_bit(s j:Nat):(hi s).testBit j=(decide (s≤j)&&decide (j<64)):=by
 unfold hi
 rw [show(18446744073709551616:Nat)=2 ^ 64 from rfl,Nat.testBit_mod_two_pow,Nat.testBit_mul_two_pow,show(18446744073709551615:Nat)=2 ^ 64-1 from rfl,Nat.testBit_two_pow_sub_one]
 by_cases h1:s≤j <;> by_cases h2:j<64 <;> simp [h1,h2]
 omega
theorem lo_bit(s j:Nat):(lo s).testBit j=decide (j+s<64):=by
 unfold lo
 rw [Nat.testBit_div_two_pow,show(18446744073709551615:Nat)=2 ^ 64-1 from rfl,Nat.testBit_two_pow_sub_one]
def IsMask(a f t:Int)(m:Nat):Prop:=m<18446744073709551616∧∀j:Nat,j<64→m.testBit j=decide (f≤a*64+j∧a*64+j<t)
theorem mask_hl{a f t:Int}(ht:t<(a+1)*64):IsMask a f t (hi (f-a*64).toNat &&& lo ((a+1)*64-t).toNat):=
 ⟨Nat.lt_of_le_of_lt Nat.and_le_left (hi_lt _),fun j hj=>by
  rw [Nat.testBit_and,hi_bit,lo_bit]
  by_cases h1:f≤a*64+j <;> by_cases h2:a*64+j<t <;> simp [h1,h2,hj] <;> omega⟩
theorem mask_h{a f t:Int}(ht:(a+1)*64≤t):IsMask a f t (hi (f-a*64).toNat):=
 ⟨hi_lt _,fun j hj=>by
  rw [hi_bit]
  by_cases h1:f≤a*64+j <;> simp [h1,hj] <;> omega⟩
theorem mask_l{a f t:Int}(hf:f≤a*64)(ht:t<(a+1)*64):IsMask a f t (lo ((a+1)*64-t).toNat):=
 ⟨lo_lt _,fun j hj=>by
  rw [lo_bit]
  by_cases h2:a*64+j<t <;> simp [h2] <;> omega⟩
theorem mask_all{a f t:Int}(hf:f≤a*64)(ht:(a+1)*64≤t):IsMask a f t 18446744073709551615:=
 ⟨by decide,fun j hj=>by
  rw [show(18446744073709551615:Nat)=2 ^ 64-1 from rfl,Nat.testBit_two_pow_sub_one]
  simp [hj];omega⟩
theorem u64_hi(s:Nat):IntKind.u64.wrap (18446744073709551615*2 ^ s)=((hi s:Nat):Int):=by
 rw [IntKind.wrap_u64];unfold hi;simp
theorem u64_lo(s:Nat):(18446744073709551615:Int) / 2 ^ s=((lo s:Nat):Int):=by
 unfold lo;simp
theorem ones_and(m:Nat)(h:m<18446744073709551616):18446744073709551615 &&& m=m:=by
 rw [Nat.and_comm,show(18446744073709551615:Nat)=2 ^ 64-1 from rfl,Nat.and_two_pow_sub_one_eq_mod]
 exact Nat.mod_eq_of_lt h
def wbit(ws:List Nat)(i:Nat):Bool:=(ws.getD (i / 64) 0).testBit (i % 64)
def Words(ws:List Nat):Prop:=∀k,ws.getD k 0<18446744073709551616
theorem words_set{ws:List Nat}(h:Words ws){k x:Nat}(hx:x<18446744073709551616):Words (ws.set k x):=by
 intro j
 have hj:=h j
 simp only [List.getD_eq_getElem?_getD,List.getElem?_set]at hj ⊢
 split
 ·split <;> simp [hx]
 ·exact hj
theorem wbit_set{ws:List Nat}{k x:Nat}(hk:k<ws.length)(i:Nat):wbit (ws.set k x) i=if i / 64=k then x.testBit (i % 64) else wbit ws i:=by
 unfold wbit
 simp only [List.getD_eq_getElem?_getD,List.getElem?_set]
 by_cases h:k=i / 64
 ·subst h;simp [hk]
 ·rw [if_neg h,if_neg (fun e=>h e.symm)]
theorem and_pow_ne{x i:Nat}:((x &&& 2 ^ i) !=0)=x.testBit i:=by
 rw [Nat.testBit,Nat.and_comm,Nat.shiftRight_eq_div_pow]
 rw [Nat.and_comm,nat_bit]
 have h2:x / 2 ^ i % 2=0∨x / 2 ^ i % 2=1:=by omega
 have hp:0<2 ^ i:=Nat.two_pow_pos _
 have e:1 &&& (x / 2 ^ i)=x / 2 ^ i % 2:=by rw [Nat.and_comm];exact Nat.and_two_pow_sub_one_eq_mod _ 1
 rw [e]
 rcases h2 with h2 | h2
 ·simp [h2]
 ·rw [h2];simp
theorem xor_pow_bit(x i j:Nat):(x ^^^ 2 ^ i).testBit j=if i=j then !(x.testBit j) else x.testBit j:=by
 rw [Nat.testBit_xor,Nat.testBit_two_pow]
 by_cases h:i=j <;> simp [h]
theorem ctz_low(x:Nat)(h0:0<x)(h:x<18446744073709551616):Lib.ctz 64 x<64∧x.testBit (Lib.ctz 64 x)=true∧∀j,j<Lib.ctz 64 x→x.testBit j=false:=by
 obtain⟨m,hm,hk⟩:=Lib.ctzFrom_spec 64 x h0 h
 have hc:Lib.ctz 64 x=Lib.ctzFrom 64 x:=by unfold Lib.ctz;rw [if_neg (by omega)]
 rw [hc]
 generalize Lib.ctzFrom 64 x=k at *
 refine⟨hk,?_,fun j hj=>?_⟩
 ·rw [hm,Nat.mul_comm,Nat.testBit_mul_two_pow];simp
 ·rw [hm,Nat.mul_comm,Nat.testBit_mul_two_pow];simp;omega
open Go.RowKit Go.IntWalk
structure Cfg where
 (shift regions cardShift threads roots refiners markers young tenure queue stack budget percent fail:Int)
structure Geo where
 (words rw cw regions cards max:Int)
def Cfg.val(c:Cfg):Value:=.agg #[.int .i64 c.shift,.int .i64 c.regions,.int .i64 c.cardShift,.int .i64 c.threads,.int .i64 c.roots,.int .i64 c.refiners,.int .i64 c.markers,.int .i64 c.young,.int .i64 c.tenure,.int .i64 c.queue,.int .i64 c.stack,.int .i64 c.budget,.int .i64 c.percent,.int .i64 c.fail]
def Geo.val(g:Geo):Value:=.agg #[.int .i64 g.words,.int .i64 g.rw,.int .i64 g.cw,.int .i64 g.regions,.int .i64 g.cards,.int .i64 g.max]
def Geo.cells(g:Geo):Array Value:=#[.int .i64 g.words,.int .i64 g.rw,.int .i64 g.cw,.int .i64 g.regions,.int .i64 g.cards,.int .i64 g.max]
def Cfg.cells(c:Cfg):Array Value:=#[.int .i64 c.shift,.int .i64 c.regions,.int .i64 c.cardShift,.int .i64 c.threads,.int .i64 c.roots,.int .i64 c.refiners,.int .i64 c.markers,.int .i64 c.young,.int .i64 c.tenure,.int .i64 c.queue,.int .i64 c.stack,.int .i64 c.budget,.int .i64 c.percent,.int .i64 c.fail]
structure GeoAt(w:World)(b:Nat)(g:Geo):Prop where
 c0:w.cell? ⟨b,0,none⟩=some (.int .i64 g.words)
 c1:w.cell? ⟨b,1,none⟩=some (.int .i64 g.rw)
 c2:w.cell? ⟨b,2,none⟩=some (.int .i64 g.cw)
 c3:w.cell? ⟨b,3,none⟩=some (.int .i64 g.regions)
 c4:w.cell? ⟨b,4,none⟩=some (.int .i64 g.cards)
 c5:w.cell? ⟨b,5,none⟩=some (.int .i64 g.max)
theorem GeoAt.of{w:World}{b:Nat}{t:TypeId}{g:Geo}(h:Blk w b t g.cells):GeoAt w b g:=⟨h.cell 0,h.cell 1,h.cell 2,h.cell 3,h.cell 4,h.cell 5⟩
theorem GeoAt.fr{w w':World}{b:Nat}{g:Geo}{F:List Nat}(h:GeoAt w b g)(hf:Fr F w w')(hF:b∉F):GeoAt w' b g:=
 ⟨(hf.cell (lt_of_cell h.c0) hF).trans h.c0,(hf.cell (lt_of_cell h.c1) hF).trans h.c1,(hf.cell (lt_of_cell h.c2) hF).trans h.c2,(hf.cell (lt_of_cell h.c3) hF).trans h.c3,(hf.cell (lt_of_cell h.c4) hF).trans h.c4,(hf.cell (lt_of_cell h.c5) hF).trans h.c5⟩
structure CfgAt(w:World)(b:Nat)(c:Cfg):Prop where
 c0:w.cell? ⟨b,0,none⟩=some (.int .i64 c.shift)
 c1:w.cell? ⟨b,1,none⟩=some (.int .i64 c.regions)
 c2:w.cell? ⟨b,2,none⟩=some (.int .i64 c.cardShift)
 c3:w.cell? ⟨b,3,none⟩=some (.int .i64 c.threads)
 c4:w.cell? ⟨b,4,none⟩=some (.int .i64 c.roots)
 c5:w.cell? ⟨b,5,none⟩=some (.int .i64 c.refiners)
 c6:w.cell? ⟨b,6,none⟩=some (.int .i64 c.markers)
 c7:w.cell? ⟨b,7,none⟩=some (.int .i64 c.young)
 c8:w.cell? ⟨b,8,none⟩=some (.int .i64 c.tenure)
 c9:w.cell? ⟨b,9,none⟩=some (.int .i64 c.queue)
 c10:w.cell? ⟨b,10,none⟩=some (.int .i64 c.stack)
 c11:w.cell? ⟨b,11,none⟩=some (.int .i64 c.budget)
 c12:w.cell? ⟨b,12,none⟩=some (.int .i64 c.percent)
 c13:w.cell? ⟨b,13,none⟩=some (.int .i64 c.fail)
theorem CfgAt.of{w:World}{b:Nat}{t:TypeId}{c:Cfg}(h:Blk w b t c.cells):CfgAt w b c:=⟨h.cell 0,h.cell 1,h.cell 2,h.cell 3,h.cell 4,h.cell 5,h.cell 6,h.cell 7,h.cell 8,h.cell 9,h.cell 10,h.cell 11,h.cell 12,h.cell 13⟩
def wiB(n lo hi:Int):Bool:=decide (lo≤n)&&decide (n≤hi)
theorem wiB_iff{n lo hi:Int}:wiB n lo hi=true↔lo≤n∧n≤hi:=by unfold wiB;simp
def pw(n:Int):Int:=((2 ^ n.toNat:Nat):Int)
theorem pw_pos(n:Int):0<pw n:=by unfold pw;exact Int.natCast_pos.2 (Nat.two_pow_pos _)
theorem pw_nat(k:Nat):pw (k:Int)=((2 ^ k:Nat):Int):=rfl
theorem pw_pow(k:Nat):(2:Int) ^ k=pw (k:Int):=by rw [pw_nat,Int.natCast_pow];rfl
theorem pw_le{a b:Int}(h:a≤b):pw a≤pw b:=by unfold pw;exact Int.ofNat_le.2 (Nat.pow_le_pow_right (by decide) (by omega))
theorem pw_add{a b:Int}(ha:0≤a)(hb:0≤b):pw (a+b)=pw a*pw b:=by
 unfold pw;rw [Int.toNat_add ha hb,Nat.pow_add];push_cast;rfl
theorem pw_succ{a:Int}(ha:0≤a):pw (a+1)=2*pw a:=by rw [pw_add ha (by decide)];show pw a*2=_;omega
theorem pw_bound{n m:Int}(h:n≤m)(hm:m≤62):pw n≤4611686018427387904:=Int.le_trans (pw_le (Int.le_trans h hm)) (by decide)
def lieB(c:Cfg):Bool:=wiB c.shift 6 20&&(wiB c.regions 2 65536&&(decide (c.regions≤4194304 / pw c.shift)&&wiB c.cardShift 3 c.shift))
def mayB(c:Cfg):Bool:=
 lieB c&&(wiB c.threads 1 64&&(wiB c.roots 1 64&&(wiB c.refiners 0 8&&(wiB c.markers 0 8&&(wiB c.young 1 c.regions&&(wiB c.tenure 0 7&&(wiB c.queue 0 65536&&(wiB c.stack 0 65536&&(wiB c.budget 0 4194304&&(wiB c.percent 0 100&&wiB c.fail 0 65536))))))))))
theorem lieB_iff{c:Cfg}:lieB c=true↔(6≤c.shift∧c.shift≤20)∧(2≤c.regions∧c.regions≤65536)∧c.regions≤4194304 / pw c.shift∧3≤c.cardShift∧c.cardShift≤c.shift:=by
 unfold lieB;simp only [Bool.and_eq_true,wiB_iff,decide_eq_true_eq]
theorem mayB_lie{c:Cfg}(h:mayB c=true):lieB c=true:=by
 unfold mayB at h;rw [Bool.and_eq_true]at h;exact h.1
def Cfg.geo(c:Cfg):Geo:=⟨c.regions*pw c.shift,pw c.shift,pw c.cardShift,c.regions,c.regions*pw c.shift / pw c.cardShift,min 1048576 ((c.regions-1)*pw c.shift)⟩
def Geo.zero:Geo:=⟨0,0,0,0,0,0⟩
def Cfg.ans(c:Cfg):Geo:=if mayB c=true then c.geo else Geo.zero
def Cfg.err(c:Cfg):Int:=if mayB c=true then 0 else 20
structure Geo.Ok(g:Geo)(s k:Nat):Prop where
 s6:6≤s
 s20:s≤20
 k3:3≤k
 ks:k≤s
 rw:g.rw=pw s
 cw:g.cw=pw k
 r2:2≤g.regions
 r65536:g.regions≤65536
 words:g.words=g.regions*pw s
 cards:g.cards*pw k=g.words
 wmax:g.words≤4194304
 max:g.max=min 1048576 ((g.regions-1)*pw s)
theorem Geo.Ok.k20{g:Geo}{s k:Nat}(h:g.Ok s k):k≤20:=Nat.le_trans h.ks h.s20
theorem Geo.Ok.base_max{g:Geo}{s k:Nat}(h:g.Ok s k){r:Int}(h0:0≤r)(h1:r<g.regions):0≤r*g.rw∧r*g.rw≤4194304:=by
 rw [h.rw]
 have hp:=pw_pos s
 refine⟨Int.mul_nonneg h0 (Int.le_of_lt hp),Int.le_trans (Int.mul_le_mul_of_nonneg_right (Int.le_of_lt h1) (Int.le_of_lt hp)) ?_⟩
 rw [← h.words]
 exact h.wmax
theorem Geo.Ok.first_max{g:Geo}{s k:Nat}(h:g.Ok s k){c:Int}(h0:0≤c)(h1:c<g.cards):0≤c*g.cw∧c*g.cw≤4194304:=by
 rw [h.cw]
 have hp:=pw_pos k
 refine⟨Int.mul_nonneg h0 (Int.le_of_lt hp),Int.le_trans (Int.mul_le_mul_of_nonneg_right (Int.le_of_lt h1) (Int.le_of_lt hp)) ?_⟩
 rw [h.cards]
 exact h.wmax
theorem Geo.Ok.words0{g:Geo}{s k:Nat}(h:g.Ok s k):0≤g.words:=by
 rw [h.words];exact Int.mul_nonneg (by have:=h.r2;omega) (Int.le_of_lt (pw_pos _))
theorem Geo.Ok.rw_max{g:Geo}{s k:Nat}(h:g.Ok s k):g.rw≤4194304:=by
 rw [h.rw];exact Int.le_trans (pw_le (b:=20) (by have:=h.s20;omega)) (by decide)
theorem Geo.Ok.regions0{g:Geo}{s k:Nat}(h:g.Ok s k):0≤g.regions:=by have:=h.r2;omega
theorem Geo.Ok.regions_max{g:Geo}{s k:Nat}(h:g.Ok s k):g.regions≤4194304:=by have:=h.r65536;omega
theorem Cfg.geo_ok{c:Cfg}(h:lieB c=true):c.geo.Ok c.shift.toNat c.cardShift.toNat:=by
 obtain⟨⟨h1,h2⟩,⟨h3,h4⟩,h5,h6,h7⟩:=lieB_iff.1 h
 have e1:((c.shift.toNat:Nat):Int)=c.shift:=Int.toNat_of_nonneg (by omega)
 have e2:((c.cardShift.toNat:Nat):Int)=c.cardShift:=Int.toNat_of_nonneg (by omega)
 refine⟨by omega,by omega,by omega,by omega,?_,?_,h3,h4,?_,?_,?_,?_⟩
 ·rw [e1];rfl
 ·rw [e2];rfl
 ·rw [e1];rfl
 ·rw [e2]
  show c.regions*pw c.shift / pw c.cardShift*pw c.cardShift=c.regions*pw c.shift
  have:pw c.shift=pw (c.shift-c.cardShift)*pw c.cardShift:=by rw [← pw_add (by omega) (by omega)];congr 1;omega
  refine Int.ediv_mul_cancel ?_
  rw [this,← Int.mul_assoc]
  exact Int.dvd_mul_left _ _
 ·show c.regions*pw c.shift≤4194304
  have:=Int.mul_le_mul_of_nonneg_right h5 (Int.le_of_lt (pw_pos c.shift))
  exact Int.le_trans this (Int.ediv_mul_le _ (Int.ne_of_gt (pw_pos _)))
 ·rw [e1];rfl
theorem Cfg.wraps{c:Cfg}{s k:Nat}(hl:lieB c=true)(hs:c.shift=s)(hk:c.cardShift=k) :
  wrap64 (c.regions*2 ^ s)=c.regions*pw s∧wrap64 (2 ^ s)=pw s∧wrap64 (2 ^ k)=pw k∧wrap64 ((c.regions-1)*2 ^ s)=(c.regions-1)*pw s:=by
 have ok:=Cfg.geo_ok hl
 have l:=lieB_iff.1 hl
 rw [hs,hk]at ok
 have hw:=ok.wmax
 rw [ok.words]at hw
 have e:c.geo.regions=c.regions:=rfl
 simp only [Int.toNat_natCast,e]at hw
 have p1:=pw_pos (s:Int)
 have p2:=pw_pos (k:Int)
 have l1:pw (s:Int)≤pw 20:=pw_le (by omega)
 have l2:pw (k:Int)≤pw 20:=pw_le (by omega)
 have l3:pw 20=1048576:=by decide
 have h1:0≤c.regions*pw s:=Int.mul_nonneg (by omega) (by omega)
 have h2:0≤(c.regions-1)*pw s:=Int.mul_nonneg (by omega) (by omega)
 have h3:(c.regions-1)*pw s=c.regions*pw s-pw s:=by rw [Int.sub_mul,Int.one_mul]
 rw [pw_pow,pw_pow]
 exact⟨IntWalk.wrap64_in _ ⟨by omega,by omega⟩,IntWalk.wrap64_in _ ⟨by omega,by omega⟩,IntWalk.wrap64_in _ ⟨by omega,by omega⟩,IntWalk.wrap64_in _ ⟨by omega,by omega⟩⟩
theorem Cfg.geo_val{c:Cfg}{s k:Nat}(hl:lieB c=true)(hs:c.shift=s)(hk:c.cardShift=k)(m:Int)(hm:m=if wrap64 ((c.regions-1)*2 ^ s)<1048576 then wrap64 ((c.regions-1)*2 ^ s) else 1048576) :
  (.agg #[.int .i64 (wrap64 (c.regions*2 ^ s)),.int .i64 (wrap64 (2 ^ s)),.int .i64 (wrap64 (2 ^ k)),.int .i64 c.regions,.int .i64 (wrap64 (c.regions*2 ^ s) / 2 ^ k),.int .i64 m]:Value)=c.geo.val:=by
 obtain⟨e1,e2,e3,e4⟩:=Cfg.wraps hl hs hk
 rw [e4]at hm
 rw [e1,e2,e3,hm,pw_pow,← hs,← hk]
 unfold Cfg.geo Geo.val
 have:min 1048576 ((c.regions-1)*pw c.shift)=if (c.regions-1)*pw c.shift<1048576 then (c.regions-1)*pw c.shift else 1048576:=by
  split <;> omega
 rw [this]
def Geo.regionOf(g:Geo)(a:Int):Int:=if 0≤a∧a<g.words then a / g.rw else -1
def Geo.cardOf(g:Geo)(a:Int):Int:=if 0≤a∧a<g.words then a / g.cw else -1
def Geo.crossB(g:Geo)(a b:Int):Bool:=(decide (0≤a)&&decide (a<g.words))&&((decide (0≤b)&&decide (b<g.words))&&decide (a / g.rw≠b / g.rw))
def Geo.bigB(g:Geo)(n:Int):Bool:=decide (g.rw / 2<n)
def Geo.spanOf(g:Geo)(n:Int):Int:=if n<1 then 0 else (n-1) / g.rw+1
theorem xor_shift(A B s:Nat):((A ^^^ B) / 2 ^ s=0)↔A / 2 ^ s=B / 2 ^ s:=by
 rw [← Nat.shiftRight_eq_div_pow,← Nat.shiftRight_eq_div_pow,← Nat.shiftRight_eq_div_pow,Nat.shiftRight_xor_distrib]
 refine⟨fun h=>?_,fun h=>by rw [h,Nat.xor_self]⟩
 refine Nat.eq_of_testBit_eq fun i=>?_
 have:=congrArg (fun x=>x.testBit i) h
 simpa using this
theorem i64_xor_nat(a b:Nat)(ha:a<9223372036854775808)(hb:b<9223372036854775808):bits .xor .i64 (a:Int) (b:Int)=((a ^^^ b:Nat):Int):=by
 have hx:a ^^^ b<2 ^ 63:=Nat.xor_lt_two_pow (by omega) (by omega)
 have e:∀n:Nat,n<9223372036854775808→(BitVec.ofInt 64 (n:Int)).toNat=n:=fun n hn=>by
  rw [BitVec.toNat_ofInt];omega
 show IntKind.i64.wrap ((BitVec.ofInt 64 (a:Int) ^^^ BitVec.ofInt 64 (b:Int)).toNat:Int)=_
 rw [BitVec.toNat_xor,e a ha,e b hb,IntKind.wrap_i64]
 omega
theorem xor_cross(a b:Int)(s:Nat)(a0:0≤a)(a1:a<9223372036854775808)(b0:0≤b)(b1:b<9223372036854775808) :
  (bits .xor .i64 a b / 2 ^ s !=0)=decide (a / pw s≠b / pw s):=by
 obtain⟨A,rfl⟩:=Int.eq_ofNat_of_zero_le a0
 obtain⟨B,rfl⟩:=Int.eq_ofNat_of_zero_le b0
 rw [i64_xor_nat A B (by omega) (by omega),pw_pow,pw_nat,← Int.natCast_ediv,← Int.natCast_ediv,← Int.natCast_ediv]
 have h:=xor_shift A B s
 rw [Bool.eq_iff_iff,bne_iff_ne,decide_eq_true_eq,Ne,Ne,Int.natCast_eq_zero,Int.natCast_inj,h]
theorem ctz_pow(k:Nat)(h:k<64):Lib.ctz 64 (2 ^ k)=k:=by
 obtain⟨_,h2,_⟩:=ctz_low (2 ^ k) (Nat.two_pow_pos k) (pow_lt64 h)
 rw [Nat.testBit_two_pow,decide_eq_true_eq]at h2
 exact h2.symm
theorem CfgAt.fr{w w':World}{b:Nat}{c:Cfg}(h:CfgAt w b c)(hf:Fr [] w w'):CfgAt w' b c:=
 ⟨(hf.cell (lt_of_cell h.c0) (by simp)).trans h.c0,(hf.cell (lt_of_cell h.c1) (by simp)).trans h.c1,(hf.cell (lt_of_cell h.c2) (by simp)).trans h.c2,(hf.cell (lt_of_cell h.c3) (by simp)).trans h.c3,(hf.cell (lt_of_cell h.c4) (by simp)).trans h.c4,(hf.cell (lt_of_cell h.c5) (by simp)).trans h.c5,(hf.cell (lt_of_cell h.c6) (by simp)).trans h.c6,(hf.cell (lt_of_cell h.c7) (by simp)).trans h.c7,(hf.cell (lt_of_cell h.c8) (by simp)).trans h.c8,(hf.cell (lt_of_cell h.c9) (by simp)).trans h.c9,(hf.cell (lt_of_cell h.c10) (by simp)).trans h.c10,(hf.cell (lt_of_cell h.c11) (by simp)).trans h.c11,(hf.cell (lt_of_cell h.c12) (by simp)).trans h.c12,(hf.cell (lt_of_cell h.c13) (by simp)).trans h.c13⟩
end Go.Gl
namespace Go.Proofs.YteacgfeiedcdiaaGreatDoor
set_option linter.unusedVariables false
set_option linter.unusedSimpArgs false
set_option maxRecDepth 100000
open Go.RowKit Go.Gl
structure PT where
 st:Int
 rf:List Int
 dt:List Int
def PT.sz(t:PT):Nat:=1+t.rf.length+t.dt.length
structure Pl where
 c:Cfg
 n:Nat
 T:Nat→PT
 m:Nat
 H:Nat→List Int
structure PA where
 tb:Nat
 to:Nat
 tc:Nat
 tA:Option Addr
 rA:Nat→Option Addr
 rc:Nat→Nat
 dA:Nat→Option Addr
 dc:Nat→Nat
 hb:Nat
 ho:Nat
 hc:Nat
 hA:Option Addr
 lA:Nat→Option Addr
 lc:Nat→Nat
def PA.val(Q:PA)(p:Pl):Value:=.agg #[.int .i64 p.c.shift,.int .i64 p.c.regions,.int .i64 p.c.cardShift,.int .i64 p.c.threads,.int .i64 p.c.roots,.int .i64 p.c.refiners,.int .i64 p.c.markers,.int .i64 p.c.young,.int .i64 p.c.tenure,.int .i64 p.c.queue,.int .i64 p.c.stack,.int .i64 p.c.budget,.int .i64 p.c.percent,.int .i64 p.c.fail,.slice Q.tA p.n Q.tc,.slice Q.hA p.m Q.hc]
def PA.cells(Q:PA)(p:Pl):Array Value:=#[.int .i64 p.c.shift,.int .i64 p.c.regions,.int .i64 p.c.cardShift,.int .i64 p.c.threads,.int .i64 p.c.roots,.int .i64 p.c.refiners,.int .i64 p.c.markers,.int .i64 p.c.young,.int .i64 p.c.tenure,.int .i64 p.c.queue,.int .i64 p.c.stack,.int .i64 p.c.budget,.int .i64 p.c.percent,.int .i64 p.c.fail,.slice Q.tA p.n Q.tc,.slice Q.hA p.m Q.hc]
def PA.thing(Q:PA)(p:Pl)(i:Nat):Value:=.agg #[.int .i64 (p.T i).st,.slice (Q.rA i) (p.T i).rf.length (Q.rc i),.slice (Q.dA i) (p.T i).dt.length (Q.dc i)]
def PA.tcells(Q:PA)(p:Pl)(i:Nat):Array Value:=#[.int .i64 (p.T i).st,.slice (Q.rA i) (p.T i).rf.length (Q.rc i),.slice (Q.dA i) (p.T i).dt.length (Q.dc i)]
structure PlAt(w:World)(Q:PA)(p:Pl):Prop where
 nm:p.n≤9223372036854775807
 mm:p.m≤9223372036854775807
 ta:0<p.n→Q.tA=some ⟨Q.tb,Q.to,none⟩
 t0:∀i,i<p.n→w.cell? ⟨Q.tb,Q.to+i*3,none⟩=some (.int .i64 (p.T i).st)
 t1:∀i,i<p.n→w.cell? ⟨Q.tb,Q.to+i*3+1,none⟩=some (.slice (Q.rA i) (p.T i).rf.length (Q.rc i))
 t2:∀i,i<p.n→w.cell? ⟨Q.tb,Q.to+i*3+2,none⟩=some (.slice (Q.dA i) (p.T i).dt.length (Q.dc i))
 rm:∀i,i<p.n→(p.T i).rf.length≤9223372036854775807
 dm:∀i,i<p.n→(p.T i).dt.length≤9223372036854775807
 rs:∀i,i<p.n→Sl w (Q.rA i) (p.T i).rf.length fun j=>.int .i64 ((p.T i).rf.getD j 0)
 ds:∀i,i<p.n→Sl w (Q.dA i) (p.T i).dt.length fun j=>.int .u64 ((p.T i).dt.getD j 0)
 dv:∀i,i<p.n→∀j,0≤(p.T i).dt.getD j 0∧(p.T i).dt.getD j 0<18446744073709551616
 ha:0<p.m→Q.hA=some ⟨Q.hb,Q.ho,none⟩
 h0:∀i,i<p.m→w.cell? ⟨Q.hb,Q.ho+i,none⟩=some (.slice (Q.lA i) (p.H i).length (Q.lc i))
 lm:∀i,i<p.m→(p.H i).length≤9223372036854775807
 ls:∀i,i<p.m→Sl w (Q.lA i) (p.H i).length fun j=>.int .i64 ((p.H i).getD j 0)
section
variable {w w':World}{Q:PA}{p:Pl}
theorem PlAt.fr{F:List Nat}(a:PlAt w Q p)(hf:Fr F w w')(hF:∀x,x∈F→w.heap.size≤x):PlAt w' Q p:=by
 have k:∀ {b o v},w.cell? ⟨b,o,none⟩=some v→w'.cell? ⟨b,o,none⟩=some v:=fun {b o v} h=>(hf.cell (lt_of_cell h) (fun hx=>by have:=hF _ hx;have:=lt_of_cell h;simp at *;omega)).trans h
 exact⟨a.nm,a.mm,a.ta,fun i hi=>k (a.t0 i hi),fun i hi=>k (a.t1 i hi),fun i hi=>k (a.t2 i hi),a.rm,a.dm,fun i hi=>(a.rs i hi).fr hf hF,fun i hi=>(a.ds i hi).fr hf hF,a.dv,a.ha,fun i hi=>k (a.h0 i hi),a.lm,fun i hi=>(a.ls i hi).fr hf hF⟩
theorem PlAt.fr0(a:PlAt w Q p)(hf:Fr [] w w'):PlAt w' Q p:=a.fr hf (fun x hx=>by cases hx)
end
def RefsOk(l:List Int)(n:Nat):Prop:=∀r,r∈l→0≤r∧r≤(n:Int)
open Classical in
noncomputable def refsB (l:List Int) (n:Nat):Bool:=decide (RefsOk l n)
theorem refsB_yes{l:List Int}{n:Nat}:refsB l n=true↔RefsOk l n:=by unfold refsB;simp
theorem refsB_no{l:List Int}{n:Nat}(h:∃j,j<l.length∧¬ (0≤l.getD j 0∧l.getD j 0≤(n:Int))):refsB l n=false:=by
 obtain⟨j,h1,h2⟩:=h
 unfold refsB
 simp
 intro h
 refine h2 (h _ ?_)
 rw [List.getD_eq_getElem?_getD,List.getElem?_eq_getElem h1]
 exact List.getElem_mem h1
theorem refsB_all{l:List Int}{n:Nat}(h:∀j,j<l.length→0≤l.getD j 0∧l.getD j 0≤(n:Int)):refsB l n=true:=by
 rw [refsB_yes]
 intro r hr
 obtain⟨j,hj,rfl⟩:=List.getElem_of_mem hr
 have:=h j hj
 rwa [List.getD_eq_getElem?_getD,List.getElem?_eq_getElem hj]at this
theorem refs14_any{w:World}{A:Option Addr}{c:Nat}{l:List Int}{n:Nat}(hA:Sl w A l.length fun j=>.int .i64 (l.getD j 0))(hm:l.length≤9223372036854775807) :
  Calls Tryz.prog 32 #[.slice A l.length c,.int .i64 (n:Int)] w fun e w'=>e=.returned (.bool (refsB l n))∧∃k,w'=w.drewN k:=by
 have HA:=hide hA
 obtain⟨B,hB⟩:∃B,refsB l n=B:=⟨_,rfl⟩
 have HB:=hide hB
 obtain⟨z,hz⟩:∃z,l.length=z:=⟨_,rfl⟩
 have HZ:=hide hz
 rw [hz]at hm ⊢
 rw [hB]
 clear hA hB hz
 go_enter Tryz.func32,Tryz.ntmps32
 go_wp2
 go_loopw [5] (fun i wr=>∃k q:Nat,i=.int .i64 k∧k≤z∧(∀j,j<k→0≤l.getD j 0∧l.getD j 0≤(n:Int))∧wr=w.drewN q) (fun i _=>z-(intOf i).toNat)
 case atStart=>exact⟨0,0,rfl,Nat.zero_le _,fun j hj=>absurd hj (by omega),rfl⟩
 case round=>
  obtain⟨k,q,rfl,hk,hs,rfl⟩:=hrel
  have HS:=hide hs
  clear hs
  by_cases hlt:k<z
  ·have hlt1:(k:Int)<(z:Int):=by omega
   obtain⟨b,off,rfl,hl,hcell⟩:=HA.out (by have:=HZ.out;omega)
   have c0:w.cell? ⟨b,off+k,none⟩=some (.int .i64 (l.getD k 0)):=hcell k (by have:=HZ.out;omega)
   obtain⟨x,hx⟩:∃x,l.getD k 0=x:=⟨_,rfl⟩
   rw [hx]at c0
   have HX:=hide hx
   clear hcell hx
   by_cases h1:x<0
   ·go_wp2_with fail
    go_ret
    exact⟨ret_bool (by rw [← HB.out];exact(refsB_no ⟨k,by have:=HZ.out;omega,by rw [HX.out];omega⟩).symm),_,rfl⟩
   ·by_cases h2:(n:Int)<x
    ·go_wp2_with fail
     go_ret
     exact⟨ret_bool (by rw [← HB.out];exact(refsB_no ⟨k,by have:=HZ.out;omega,by rw [HX.out];omega⟩).symm),_,rfl⟩
    ·go_wp2_with fail
     go_roundw
     case rel=>
      refine⟨k+1,_,by go_num,by omega,fun j hj=>?_,rfl⟩
      by_cases e:j=k
      ·subst e;rw [HX.out];omega
      ·exact HS.out j (by omega)
     case measure=>simp [intOf];omega
  ·go_wp2_with fail
   go_ret
   exact⟨ret_bool (by rw [← HB.out];exact(refsB_all (fun j hj=>HS.out j (by have:=HZ.out;omega))).symm),_,rfl⟩
theorem size14_any{A D:Option Addr}{a b c d:Nat}(st:Int)(ha:a≤9223372036854775807)(hb:b≤9223372036854775807)(w:World) :
  Calls Tryz.prog 31 #[.agg #[.int .i64 st,.slice A a c,.slice D b d]] w fun e w'=>e=.returned (.int .i64 (wrap64 ((1+a+b:Nat):Int)))∧Fr [] w w':=by
 go_enter Tryz.func31,Tryz.ntmps31
 go_wp2_with fail
 go_ret
 exact⟨ret_int (by unfold wrap64;omega),(Fr.refl _ _).alloc _⟩
end Go.Proofs.YteacgfeiedcdiaaGreatDoor
