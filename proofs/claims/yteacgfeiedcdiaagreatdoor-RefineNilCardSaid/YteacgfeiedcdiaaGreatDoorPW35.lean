/- gleanerlaw14.Build: a heap is laid by hand. -/
import Derived.Test.YteacgfeiedcdiaaGreatDoorPW29
import Derived.Deep.AppendSrc
namespace Go.Proofs.YteacgfeiedcdiaaGreatDoor
set_option linter.unusedVariables false
set_option linter.unusedSimpArgs false
set_option maxRecDepth 100000
open Go.RowKit Go.Gl
theorem mvF{α:Type}{a b c d:α}:∀q,q∈([]++(a::b::c::d::[]):List α)→q∈b::a::c::d::[]:=by
 intro q hq
 simp only [List.mem_cons,List.mem_append,List.not_mem_nil,or_false]at hq ⊢
 grind
theorem mvA{α:Type}{R:List α}{a b c d:α}:∀q,q∈b::(R++(a::c::d::[]))→q∈R++(a::b::c::d::[]):=by
 intro q hq
 simp only [List.mem_cons,List.mem_append,List.not_mem_nil,or_false]at hq ⊢
 grind
theorem mvB{α:Type}{R:List α}{a b c d:α}:∀q,q∈R++(a::b::c::d::[])→q∈b::(R++(a::c::d::[])):=by
 intro q hq
 simp only [List.mem_cons,List.mem_append,List.not_mem_nil,or_false]at hq ⊢
 grind
theorem mvC{α:Type}{R:List α}{a b c d:α}:∀q,q∈a::(R++(b::c::d::[]))→q∈R++(a::b::c::d::[]):=by
 intro q hq
 simp only [List.mem_cons,List.mem_append,List.not_mem_nil,or_false]at hq ⊢
 grind
theorem mvD{α:Type}{R:List α}{a b c d:α}:∀q,q∈R++(a::b::c::d::[])→q∈a::(R++(b::c::d::[])):=by
 intro q hq
 simp only [List.mem_cons,List.mem_append,List.not_mem_nil,or_false]at hq ⊢
 grind
structure Smt(W w:World)(L:HL)(X:HX)(p:Pl)(x0:HT)(R0 W0 s k bb ob rb pb i:Nat)(pc:Array Value):Prop where
 out:∃(h:HS) (x:HT) (o:Nat→Int) (A:Nat→Nat) (A0:Option Addr) (c:Nat) (R:Blks) (d:Nat→Nat→Nat),
  HE W w L X h x s k (R++((bb,33,#[.pointer (some ⟨L.hb,0,none⟩),.slice A0 i c])::(ob,3,rowV .i64 4 o)::(rb,33,#[.pointer none,.slice none 0 0])::(pb,27,pc)::[])) ∧
  Row R A0 c (places A i)∧(c=0→A0=none)∧(∀q,q∈R→q.1≠bb∧q.1≠ob∧q.1≠rb∧q.1≠pb)∧Lay p A i (fun _ _=>0) d h∧(∀a,a<i→∀j,j<(p.T a).dt.length→d a j=dta p a j)∧OpenOk o h ∧
  h.g=p.c.geo∧p.c.threads=(h.T:Int)∧h.st=(fun _=>[])∧Trk p x0 R0 W0 i h.s h.t o A x∧h.R=R0∧h.W=W0
theorem HE.cO{W w:World}{L:HL}{X:HX}{h:HS}{x:HT}{s k:Nat}{E:Blks}(H:HE W w L X h x s k E):w.cell? ⟨L.hb,22,none⟩=some (.pointer (some ⟨X.ob,0,none⟩)):=by
 obtain⟨own,⟨tg,FS,H,_⟩,_⟩:=H
 have:=H.st.cell 22
 rw [← H.vo]
 exact this
theorem Lay.stk{p:Pl}{A:Nat→Nat}{k:Nat}{w d:Nat→Nat→Nat}{h:HS}(l:Lay p A k w d h)(σ:Nat→List Int):Lay p A k w d { h with st:=σ }:=
 ⟨l.bx,l.be,l.W1,l.nn,l.tok,l.free,l.y,l.st,l.row,l.big,l.hum,l.top,l.dis,l.zm,l.hdr,l.ref,l.dat⟩
theorem ref14_zero(v:Value)(A0:Option Addr)(n c:Nat)(A:Nat→Nat)(w:World):Calls Tryz.prog 40 #[.agg #[v,.slice A0 n c],.int .i64 0] w fun e w'=>e=.returned (.int .u64 (lnk A 0:Int))∧Fr [] w w':=by
 go_enter Tryz.func40,Tryz.ntmps40
 go_wp2_with fail
 go_ret
 exact⟨by simp [lnk],(Fr.refl _ _).alloc _⟩
theorem HE.start{W w w':World}{L:HL}{X:HX}{h:HS}{x:HT}{s k:Nat}{own:Nat→Nat}{b1 b2:Nat}{t1 t2:TypeId}{c1 c2:Array Value}(H:HpAt W w' L X own h x s k)(hf:Fr [] w w')(ho:∀b,b<w.heap.size→own b=0)
  (h1:Blk w b1 t1 c1) (h2:Blk w b2 t2 c2) (g1:W.heap.size≤b1) (g2:W.heap.size≤b2):HE W w' L X h x s k ((b1,t1,c1)::(b2,t2,c2)::[]):=
 ⟨own,H,fun q hq=>by
  simp only [List.mem_cons,List.not_mem_nil,or_false]at hq
  rcases hq with rfl | rfl
  ·exact⟨h1.fr hf (by simp),ho _ h1.lt,g1⟩
  ·exact⟨h2.fr hf (by simp),ho _ h2.lt,g2⟩⟩
theorem lay_none{p:Pl}{A:Nat→Nat}{g:Geo}{W0 R T s k:Nat}(ok:(HSn g W0 R (R*W0) T).Ok s k):Lay p A 0 (fun _ _=>0) (fun _ _=>0) (HSn g W0 R (R*W0) T):=
 ⟨rfl,rfl,by have:=ok.wpos;show 1≤W0;have e:(HSn g W0 R (R*W0) T).W=W0:=rfl;omega,rfl,ok.tok,fun r hr hs=>rfl,fun i hi=>absurd hi (by omega),fun i hi=>absurd hi (by omega),
  fun r hr hs=>by
   have e:(HSn g W0 R (R*W0) T).s r=0:=rfl
   omega,fun i hi=>absurd hi (by omega),fun r hr hs=>by
   have e:(HSn g W0 R (R*W0) T).s r=0:=rfl
   omega,fun i hi=>absurd hi (by omega),fun i j hi=>absurd hi (by omega),fun i hi=>absurd hi (by omega),fun i hi=>absurd hi (by omega),fun i hi=>absurd hi (by omega),fun i hi=>absurd hi (by omega)⟩
set_option maxHeartbeats 3200000 in
theorem build14_exact{W w:World}{Q:PA}{p:Pl}(hT:Tab W)(hf:Fr [] W w)(hP:PlAt W Q p)(hR:p.Right):Calls Tryz.prog 8 #[Q.val p] w (BuiltX W p):=by
 obtain⟨W0,RR,C,P,T,B,qm,s,k,ok⟩:=nwOk_of hR.may
 have HN:Hid (∀w',Tab w'→Calls Tryz.prog 33 #[p.c.val] w' (HNewP w' p.c p.c.geo W0 RR (RR*W0) T C P qm B s k)):=fun w' hT=>heapnew_ok hR.may ok w' hT
 obtain⟨i0,hy,hy0,hy1,hy2⟩:=info_parts Tryz.info_int
 have HP:=hide hP
 have HRt:=hide hR
 have HTW:=hide hT
 have HOK0:=hide (HSn.ok (T:=T) ok.ok ok.dm ok.t2)
 have HNW:=hide ok
 have HTh:=hide (show p.c.threads=(T:Int)∧p.c.roots=(B:Int)∧B≤64∧T≤64 from ⟨ok.th,ok.ro,ok.b2,ok.t2⟩)
 have hn:=hR.n
 obtain⟨tA,htA⟩:∃y,y=Q.tA:=⟨_,rfl⟩
 obtain⟨hAd,hhA⟩:∃y,y=Q.hA:=⟨_,rfl⟩
 unfold PA.val
 rw [← htA,← hhA]
 have HTA:=hide htA
 have HHA:=hide hhA
 have HF0:=hide hf
 have hpb:Blk ((w.alloc (.cells #[.int .i64 p.c.shift,.int .i64 p.c.regions,.int .i64 p.c.cardShift,.int .i64 p.c.threads,.int .i64 p.c.roots,.int .i64 p.c.refiners,.int .i64 p.c.markers,.int .i64 p.c.young,.int .i64 p.c.tenure,.int .i64 p.c.queue,.int .i64 p.c.stack,.int .i64 p.c.budget,.int .i64 p.c.percent,.int .i64 p.c.fail,.slice tA p.n Q.tc,.slice hAd p.m Q.hc] 27)).alloc (.cells #[.pointer none,.slice none 0 0] 33)) w.heap.size 27 #[.int .i64 p.c.shift,.int .i64 p.c.regions,.int .i64 p.c.cardShift,.int .i64 p.c.threads,.int .i64 p.c.roots,.int .i64 p.c.refiners,.int .i64 p.c.markers,.int .i64 p.c.young,.int .i64 p.c.tenure,.int .i64 p.c.queue,.int .i64 p.c.stack,.int .i64 p.c.budget,.int .i64 p.c.percent,.int .i64 p.c.fail,.slice tA p.n Q.tc,.slice hAd p.m Q.hc]:=(Blk.new _ _ _).alloc _
 have hrb:Blk ((w.alloc (.cells #[.int .i64 p.c.shift,.int .i64 p.c.regions,.int .i64 p.c.cardShift,.int .i64 p.c.threads,.int .i64 p.c.roots,.int .i64 p.c.refiners,.int .i64 p.c.markers,.int .i64 p.c.young,.int .i64 p.c.tenure,.int .i64 p.c.queue,.int .i64 p.c.stack,.int .i64 p.c.budget,.int .i64 p.c.percent,.int .i64 p.c.fail,.slice tA p.n Q.tc,.slice hAd p.m Q.hc] 27)).alloc (.cells #[.pointer none,.slice none 0 0] 33)) (w.heap.size+1) 33 #[.pointer none,.slice none 0 0]:=Blk.new_at _ _ (by simp)
 have HPB:=hide hpb
 have HRB:=hide hrb
 have hsz0:=hf.size
 have HSz0:=hide hsz0
 clear htA hhA hP hR hT ok hf hpb hrb
 unfold Cfg.val at HN
 go_enter Tryz.func8,Tryz.ntmps8
 go_wp2_with fail
 refine(HN.out _ ((HTW.out.fr HF0.out (by simp)).alloc _ |>.alloc _)).mono ?_
 intro e w4 hPn
 obtain⟨L,X,own,rfl,hH,hB,hcf,hf4,hown⟩:=hPn.at ((HF0.out.alloc _).alloc _)
 have HA0:=hide (HE.start hH hf4 hown HRB.out HPB.out (by omega) (by omega))
 have HLB:=hide hB
 have HCF:=hide hcf
 have hne0:w.heap.size+1≠w.heap.size:=by omega
 have hlt0:w.heap.size+1<w4.heap.size:=lt_of_cell ((HA0.out.blk (List.mem_cons_self ..)).cell 0)
 clear hPn hH hB hcf hf4 hown HN HRB HPB
 have HD:Hid (w.heap.size<w.heap.size+1∧w.heap.size+1<w4.heap.size):=⟨by omega,hlt0⟩
 clear hne0
 generalize w.heap.size+1=rb at *
 generalize w.heap.size=pb at *
 go_wp2_with fail
 have e1:(w4.alloc (.cells #[.pointer (some ⟨L.hb,0,none⟩),.slice none 0 0] 33)).heap.size=w4.heap.size+1:=by simp
 have h6:=(HA0.out.alloc 33 #[.pointer (some ⟨L.hb,0,none⟩),.slice none 0 0]).alloc 3 #[.int .i64 (-1),.int .i64 (-1),.int .i64 (-1),.int .i64 (-1)]
 rw [e1]at h6
 have HA1:Hid (HE W ((w4.alloc (.cells #[.pointer (some ⟨L.hb,0,none⟩),.slice none 0 0] 33)).alloc (.cells #[.int .i64 (-1),.int .i64 (-1),.int .i64 (-1),.int .i64 (-1)] 3)) L X (HSn p.c.geo W0 RR (RR*W0) T) (HTn C P RR qm (RR*W0)) s k ([]++((w4.heap.size,33,#[.pointer (some ⟨L.hb,0,none⟩),.slice none 0 0])::(w4.heap.size+1,3,rowV .i64 4 (fun _=>-1))::(rb,33,#[.pointer none,.slice none 0 0])::(pb,27,#[.int .i64 p.c.shift,.int .i64 p.c.regions,.int .i64 p.c.cardShift,.int .i64 p.c.threads,.int .i64 p.c.roots,.int .i64 p.c.refiners,.int .i64 p.c.markers,.int .i64 p.c.young,.int .i64 p.c.tenure,.int .i64 p.c.queue,.int .i64 p.c.stack,.int .i64 p.c.budget,.int .i64 p.c.percent,.int .i64 p.c.fail,.slice tA p.n Q.tc,.slice hAd p.m Q.hc])::[]))):=by
  rw [show rowV .i64 4 (fun _=>-1)=#[.int .i64 (-1),.int .i64 (-1),.int .i64 (-1),.int .i64 (-1)] from rfl]
  exact h6.sub mvF
 have HD2:Hid (pb<rb∧rb<w4.heap.size∧w4.heap.size<w4.heap.size+1):=⟨HD.out.1,HD.out.2,by omega⟩
 clear e1 h6 HD HA0 hlt0
 obtain⟨w6,hw6⟩:∃w6,w6=(w4.alloc (.cells #[.pointer (some ⟨L.hb,0,none⟩),.slice none 0 0] 33)).alloc (.cells #[.int .i64 (-1),.int .i64 (-1),.int .i64 (-1),.int .i64 (-1)] 3):=⟨_,rfl⟩
 rw [← hw6]at HA1 ⊢
 clear hw6
 generalize w4.heap.size+1=ob at *
 generalize w4.heap.size=bb at *
 clear w4
 go_loopw [9] (fun v wr=>∃i:Nat,v=.int .i64 i∧i≤p.n∧Smt W wr L X p (HTn C P RR qm (RR*W0)) RR W0 s k bb ob rb pb i #[.int .i64 p.c.shift,.int .i64 p.c.regions,.int .i64 p.c.cardShift,.int .i64 p.c.threads,.int .i64 p.c.roots,.int .i64 p.c.refiners,.int .i64 p.c.markers,.int .i64 p.c.young,.int .i64 p.c.tenure,.int .i64 p.c.queue,.int .i64 p.c.stack,.int .i64 p.c.budget,.int .i64 p.c.percent,.int .i64 p.c.fail,.slice tA p.n Q.tc,.slice hAd p.m Q.hc]) (fun v _=>p.n-(intOf v).toNat)
 case atStart=>
  refine⟨0,rfl,Nat.zero_le _,⟨⟨_,_,_,fun _=>0,none,0,[],_,HA1.out,⟨Nat.le_refl _,Nat.zero_le _,fun h=>absurd h (by decide)⟩,fun _=>rfl,fun q hq=>absurd hq (by simp),lay_none HOK0.out,fun a ha=>absurd ha (by omega),fun Y h1 h2=>.inl rfl,rfl,HTh.out.1,rfl,⟨rfl,rfl,rfl,rfl⟩,rfl,rfl⟩⟩⟩
 case round=>
  obtain⟨i,rfl,hi,hS⟩:=hrel
  obtain⟨h,x,o,A,A0,c,R,d,hA,hrow,hnil,hRn,hl,hd,ho,hg,hth,hst,htk,hrr,hww⟩:=hS.out
  have HTrk:=hide htk
  have HRW:=hide (And.intro hrr hww)
  clear htk hrr hww
  have HX:=hide hA
  have HRow:=hide hrow
  have HNil:=hide hnil
  have HRn:=hide hRn
  have HLy:=hide hl
  have HDt:=hide hd
  have HOp:=hide ho
  have HG:=hide hg
  have HTT:=hide hth
  have HST:=hide hst
  have hB:=hA.blk (b:=pb) (t:=27) (cs:=#[.int .i64 p.c.shift,.int .i64 p.c.regions,.int .i64 p.c.cardShift,.int .i64 p.c.threads,.int .i64 p.c.roots,.int .i64 p.c.refiners,.int .i64 p.c.markers,.int .i64 p.c.young,.int .i64 p.c.tenure,.int .i64 p.c.queue,.int .i64 p.c.stack,.int .i64 p.c.budget,.int .i64 p.c.percent,.int .i64 p.c.fail,.slice tA p.n Q.tc,.slice hAd p.m Q.hc]) (List.mem_append_right _ (List.mem_cons_of_mem _ (List.mem_cons_of_mem _ (List.mem_cons_of_mem _ (List.mem_cons_self ..)))))
  have p14:wr.cell? ⟨pb,14,none⟩=some (.slice tA p.n Q.tc):=hB.cell 14
  by_cases hlt:i<p.n
  ·have hlt1:(i:Int)<(p.n:Int):=by omega
   have hPw:=HP.out.fr0 hA.fr
   have ta:=HTA.out.trans (hPw.ta (by omega))
   subst ta
   have y0:=hPw.t0 i hlt
   have y1:=hPw.t1 i hlt
   have y2:=hPw.t2 i hlt
   have HTok:=hide (HRt.out.t i hlt)
   have HRm:=hide (HP.out.rm i hlt)
   have HDm:=hide (HP.out.dm i hlt)
   obtain⟨st,hst'⟩:∃st,(p.T i).st=st:=⟨_,rfl⟩
   obtain⟨rn,hrn⟩:∃rn,(p.T i).rf.length=rn:=⟨_,rfl⟩
   obtain⟨dn,hdn⟩:∃dn,(p.T i).dt.length=dn:=⟨_,rfl⟩
   obtain⟨z,hz⟩:∃z,(p.T i).sz=z:=⟨_,rfl⟩
   obtain⟨rA,hrA⟩:∃rA,Q.rA i=rA:=⟨_,rfl⟩
   obtain⟨dA,hdA⟩:∃dA,Q.dA i=dA:=⟨_,rfl⟩
   rw [hst']at y0
   rw [hrn,hrA]at y1
   rw [hdn,hdA]at y2
   have hzz:z=1+rn+dn:=by rw [← hz,← hrn,← hdn];rfl
   have hz2:2≤z:=by rw [← hz];exact HTok.out.z2
   have hzm:z≤1048576:=by
    have h1:=HTok.out.zm
    rw [hz]at h1
    have h2:p.c.geo.max≤1048576:=Int.min_le_left _ _
    omega
   have hroom:=room_any (rA:=rA) (dA:=dA) (rc:=Q.rc i) (dc:=Q.dc i) (st:=st) (z:=z) (o:=o) (ob:=ob) (E:=R++((bb,33,#[.pointer (some ⟨L.hb,0,none⟩),.slice A0 i c])::(rb,33,#[.pointer none,.slice none 0 0])::(pb,27,#[.int .i64 p.c.shift,.int .i64 p.c.regions,.int .i64 p.c.cardShift,.int .i64 p.c.threads,.int .i64 p.c.roots,.int .i64 p.c.refiners,.int .i64 p.c.markers,.int .i64 p.c.young,.int .i64 p.c.tenure,.int .i64 p.c.queue,.int .i64 p.c.stack,.int .i64 p.c.budget,.int .i64 p.c.percent,.int .i64 p.c.fail,.slice (some ⟨Q.tb,Q.to,none⟩) p.n Q.tc,.slice hAd p.m Q.hc])::[])) HTW.out (hA.sub mvA) (fun q hq=>by
    rcases List.mem_append.1 hq with h1 | h1
    ·exact(HRn.out q h1).2.1
    ·have:=HD2.out
     simp only [List.mem_cons,List.not_mem_nil,or_false]at h1
     rcases h1 with rfl | rfl | rfl
     ·show bb≠ob;omega
     ·show rb≠ob;omega
     ·show pb≠ob;omega) hl.free ho hzz hzm (by rw [HG.out];have:=HTok.out.big;rw [hz,hst']at this;exact this) (by rw [← hst'];exact HTok.out.s1) (by rw [← hst'];exact HTok.out.s4)
   have HRoom:=hide hroom
   have HSt:=hide hst'
   have HRN:=hide hrn
   have HDN:=hide hdn
   have HZ:=hide hz
   have HRA:=hide hrA
   have HDA:=hide hdA
   clear hA hrow hnil hRn hl hd ho hg hth hst hS hB hPw hroom hst' hrn hdn hz hrA hdA HX
   go_wp2_with fail
   refine HRoom.out.mono ?_
   intro e w5 hres
   rcases hres with⟨a,s1,t1,o',rfl,hPl,htok,hA2,ho2,hRR⟩ | ⟨v,h',o',rfl,hA2,hRR⟩
   ·have HX:=hide (hA2.sub mvB)
    have HTr2:Hid (Trk p (HTn C P RR qm (RR*W0)) RR W0 (i+1) s1 t1 o' (setA A i a) (if 3≤st then { x with O:=obj x.cw x.O a z } else x)):=⟨h.s,h.t,o,A,x,a,HTrk.out,by rw [HZ.out,HSt.out,← HRW.out.1,← HRW.out.2];exact hRR,rfl,by rw [HZ.out,HSt.out]⟩
    clear hRR
    have HPl:=hide hPl
    have HTk:=hide htok
    have HO2:=hide ho2
    obtain⟨G,hLr,hGR⟩:=HRow.out.lr (hA2.sub (fun q hq=>List.mem_cons_of_mem _ (List.mem_append_left _ hq))) HNil.out
    rw [places_len]at hLr
    have hbb:=HX.out.blk (List.mem_append_right _ (List.mem_cons_self ..))
    have b1:w5.cell? ⟨bb,1,none⟩=some (.slice A0 i c):=hbb.cell 1
    have N0:bb<w5.heap.size:=hbb.lt
    have HLR:Hid (Lr (w5.alloc (.cells #[.int .i64 (a:Int)] 3)) 3 A0 i c G (zv (places A i))):=hLr.alloc _
    have HN1:Hid (([Value.int .i64 (a:Int)]).length=1∧(∀u∈[Value.int .i64 (a:Int)],u.oneCell'=true)∧i+1≤maxLen∧(i+1)*8≤140737488355328):=⟨rfl,by simp [Value.oneCell'],by unfold maxLen;omega,by omega⟩
    have HGrow:Hid (∀A' c' G' w',Lr w' 3 A' (i+1) c' G' (zv (places A i)++[.int .i64 (a:Int)])→Fr G (w5.alloc (.cells #[.int .i64 (a:Int)] 3)) w'→(∀g,g∈G'→g∈G∨(g=(w5.alloc (.cells #[.int .i64 (a:Int)] 3)).heap.size∧0<1)) →
      ∃R':Blks,HE W w' L X { h with s:=s1,t:=t1 } x s k (R'++((bb,33,#[.pointer (some ⟨L.hb,0,none⟩),.slice A0 i c])::(ob,3,rowV .i64 4 o')::(rb,33,#[.pointer none,.slice none 0 0])::(pb,27,#[.int .i64 p.c.shift,.int .i64 p.c.regions,.int .i64 p.c.cardShift,.int .i64 p.c.threads,.int .i64 p.c.roots,.int .i64 p.c.refiners,.int .i64 p.c.markers,.int .i64 p.c.young,.int .i64 p.c.tenure,.int .i64 p.c.queue,.int .i64 p.c.stack,.int .i64 p.c.budget,.int .i64 p.c.percent,.int .i64 p.c.fail,.slice (some ⟨Q.tb,Q.to,none⟩) p.n Q.tc,.slice hAd p.m Q.hc])::[]))∧Row R' A' c' (places (setA A i a) (i+1))∧∀q,q∈R'→q.1≠bb∧q.1≠ob∧q.1≠rb∧q.1≠pb):=fun A' c' G' w' h1 h2 h3=>by
     have H5:=HX.out.fr0 ((Fr.refl [] w5).alloc (.cells #[.int .i64 (a:Int)] 3))
     have hs5:(w5.alloc (.cells #[.int .i64 (a:Int)] 3)).heap.size=w5.heap.size+1:=by simp
     have hfar:∀g,g∈G→g≠bb∧g≠ob∧g≠rb∧g≠pb:=fun g hg=>by
      obtain⟨cur,hc⟩:=hGR g hg
      exact HRn.out _ hc
     have hold:bb<w5.heap.size∧ob<w5.heap.size∧rb<w5.heap.size∧pb<w5.heap.size:=
      ⟨N0,(HX.out.blk (List.mem_append_right _ (List.mem_cons_of_mem _ (List.mem_cons_self ..)))).lt,(HX.out.blk (List.mem_append_right _ (List.mem_cons_of_mem _ (List.mem_cons_of_mem _ (List.mem_cons_self ..))))).lt,(HX.out.blk (List.mem_append_right _ (List.mem_cons_of_mem _ (List.mem_cons_of_mem _ (List.mem_cons_of_mem _ (List.mem_cons_self ..)))))).lt⟩
     obtain⟨R',k1,k2,k3⟩:=H5.grow HTW.out (G:=G) (G':=G') hGR h2 (fun g hg=>by rcases h3 g hg with h4 | ⟨h4,_⟩;exact .inl h4;exact .inr (by omega)) (fun g hg=>by
      obtain⟨gg,off,cur,e1,e2,e3,_⟩:=h1.blk (by have:=h1.le;omega)
      rw [e2]at hg
      simp at hg
      subst hg
      exact⟨cur,e3⟩) (fun q hq hq2=>by
      obtain⟨f1,f2,f3,f4⟩:=hfar _ hq2
      simp only [List.mem_cons,List.not_mem_nil,or_false]at hq
      rcases hq with rfl | rfl | rfl | rfl
      ·exact f1 rfl
      ·exact f2 rfl
      ·exact f3 rfl
      ·exact f4 rfl)
     have e6:zv (places A i)++[Value.int .i64 (a:Int)]=zv (places (setA A i a) (i+1)):=by rw [places_succ,zv_app];rfl
     rw [e6]at h1
     refine⟨R',k1,Row.of_lr (k1.sub (fun q hq=>List.mem_append_left _ hq)) h1 k2,fun q hq=>?_⟩
     rcases h3 _ (k3 q hq)with h4 | ⟨h4,_⟩
     ·exact hfar _ h4
     ·omega
    have HC14:Hid (∀w' R',HE W w' L X { h with s:=s1,t:=t1 } x s k (R'++((bb,33,#[.pointer (some ⟨L.hb,0,none⟩),.slice A0 i c])::(ob,3,rowV .i64 4 o')::(rb,33,#[.pointer none,.slice none 0 0])::(pb,27,#[.int .i64 p.c.shift,.int .i64 p.c.regions,.int .i64 p.c.cardShift,.int .i64 p.c.threads,.int .i64 p.c.roots,.int .i64 p.c.refiners,.int .i64 p.c.markers,.int .i64 p.c.young,.int .i64 p.c.tenure,.int .i64 p.c.queue,.int .i64 p.c.stack,.int .i64 p.c.budget,.int .i64 p.c.percent,.int .i64 p.c.fail,.slice (some ⟨Q.tb,Q.to,none⟩) p.n Q.tc,.slice hAd p.m Q.hc])::[]))→w'.cell? ⟨pb,14,none⟩=some (.slice (some ⟨Q.tb,Q.to,none⟩) p.n Q.tc)):=fun w' R' q=>(q.blk (List.mem_append_right _ (List.mem_cons_of_mem _ (List.mem_cons_of_mem _ (List.mem_cons_of_mem _ (List.mem_cons_self ..)))))).cell 14
    have HCT:Hid (∀w',Fr [] W w'→w'.cell? ⟨Q.tb,Q.to+i*3,none⟩=some (.int .i64 st)∧w'.cell? ⟨Q.tb,Q.to+i*3+1,none⟩=some (.slice rA rn (Q.rc i))∧w'.cell? ⟨Q.tb,Q.to+i*3+2,none⟩=some (.slice dA dn (Q.dc i))):=fun w' hf=>by
     have q:=HP.out.fr0 hf
     have a0:=q.t0 i hlt
     have a1:=q.t1 i hlt
     have a2:=q.t2 i hlt
     rw [HSt.out]at a0
     rw [HRN.out,HRA.out]at a1
     rw [HDN.out,HDA.out]at a2
     exact⟨a0,a1,a2⟩
    have hqt:Q.tb<W.heap.size:=lt_of_cell (HP.out.t0 i hlt)
    have hne1:pb≠bb:=by have:=HD2.out;omega
    have hne2:Q.tb≠bb:=by have:=HD2.out;have:=HSz0.out;omega
    clear hA2 hPl htok ho2 hLr hbb HRow HNil hGR hqt
    go_wp2_with (first | (at_builtin;refine wpList_append_lr rfl _ _ 31 rfl 3 i0 (.int .i64 0) 8 Tryz.underlying31 hy hy0 hy1 hy2 rfl rfl HLR.out rfl HN1.out.1 (fun _=>one_of w5 _ 3 rfl _ (Fr.refl _ _)) HN1.out.2.1 HN1.out.2.2.1 HN1.out.2.2.2 ?_;intro A' c' G' w' HLn HFn HGn;obtain⟨R',hA3,hrow3,hR3⟩:=HGrow.out A' c' G' w' HLn.out HFn.out HGn.out;have hbb:=hA3.blk (List.mem_append_right _ (List.mem_cons_self ..));have d1:w'.cell? ⟨bb,1,none⟩=some (.slice A0 i c):=hbb.cell 1;have dz:=hbb.frozen 1;have d14:=HC14.out _ _ hA3;have ⟨d15,d16,d17⟩:=HCT.out _ hA3.fr;have HA3:=hide hA3;have HRow3:=hide hrow3;have HR3:=hide hR3;have HBB:=hide hbb;clear hA3 hrow3 hR3 hbb HLn HFn HGn))
    have hH4:=((HA3.out.sub mvC).turn HTW.out (w':=w'.setCell ⟨bb,1,none⟩ (.slice A' (i+1) c')) ((Fr.refl _ _).setCell (.inl (by simp)) _) (HBB.out.put 1 (.slice A' (i+1) c')) (fun q hq=>by
     rcases List.mem_append.1 hq with h1 | h1
     ·exact(HR3.out q h1).1
     ·have:=HD2.out
      simp only [List.mem_cons,List.not_mem_nil,or_false]at h1
      rcases h1 with rfl | rfl | rfl
      ·show ob≠bb;omega
      ·show rb≠bb;omega
      ·show pb≠bb;omega)).sub mvD
    have hs7:(w'.setCell ⟨bb,1,none⟩ (.slice A' (i+1) c')).heap.size=w'.heap.size:=by simp
    have hH7:=hH4.alloc 62 #[.int .i64 st,.slice rA rn (Q.rc i),.slice dA dn (Q.dc i)]
    rw [hs7]at hH7
    have HX7:Hid (HE W ((w'.setCell ⟨bb,1,none⟩ (.slice A' (i+1) c')).alloc (.cells #[.int .i64 st,.slice rA rn (Q.rc i),.slice dA dn (Q.dc i)] 62)) L X { h with s:=s1,t:=t1 } x s k ((w'.heap.size,62,#[.int .i64 st,.slice rA rn (Q.rc i),.slice dA dn (Q.dc i)])::(R'++((bb,33,#[.pointer (some ⟨L.hb,0,none⟩),.slice A' (i+1) c'])::(ob,3,rowV .i64 4 o')::(rb,33,#[.pointer none,.slice none 0 0])::(pb,27,#[.int .i64 p.c.shift,.int .i64 p.c.regions,.int .i64 p.c.cardShift,.int .i64 p.c.threads,.int .i64 p.c.roots,.int .i64 p.c.refiners,.int .i64 p.c.markers,.int .i64 p.c.young,.int .i64 p.c.tenure,.int .i64 p.c.queue,.int .i64 p.c.stack,.int .i64 p.c.budget,.int .i64 p.c.percent,.int .i64 p.c.fail,.slice (some ⟨Q.tb,Q.to,none⟩) p.n Q.tc,.slice hAd p.m Q.hc])::[])))):=hH7
    clear hH4 hH7 hs7 HA3 HBB d1 dz d14 d15 d16 d17 HLR HGrow HC14 HCT y0 y1 y2 p14 HX b1 N0 HRoom hne1 hne2
    generalize (w'.setCell ⟨bb,1,none⟩ (.slice A' (i+1) c')).alloc (.cells #[.int .i64 st,.slice rA rn (Q.rc i),.slice dA dn (Q.dc i)] 62)=w7 at *
    generalize w'.heap.size=tk at *
    clear w' wr
    have HC:Hid (∀h' x' w',HE W w' L X h' x' s k ((tk,62,#[.int .i64 st,.slice rA rn (Q.rc i),.slice dA dn (Q.dc i)])::(R'++((bb,33,#[.pointer (some ⟨L.hb,0,none⟩),.slice A' (i+1) c'])::(ob,3,rowV .i64 4 o')::(rb,33,#[.pointer none,.slice none 0 0])::(pb,27,#[.int .i64 p.c.shift,.int .i64 p.c.regions,.int .i64 p.c.cardShift,.int .i64 p.c.threads,.int .i64 p.c.roots,.int .i64 p.c.refiners,.int .i64 p.c.markers,.int .i64 p.c.young,.int .i64 p.c.tenure,.int .i64 p.c.queue,.int .i64 p.c.stack,.int .i64 p.c.budget,.int .i64 p.c.percent,.int .i64 p.c.fail,.slice (some ⟨Q.tb,Q.to,none⟩) p.n Q.tc,.slice hAd p.m Q.hc])::[])))→w'.cell? ⟨L.hb,20,none⟩=some (.pointer (some ⟨L.ab,0,none⟩))∧w'.cell? ⟨L.hb,22,none⟩=some (.pointer (some ⟨X.ob,0,none⟩))∧w'.cell? ⟨tk,0,none⟩=some (.int .i64 st)∧w'.cell? ⟨tk,1,none⟩=some (.slice rA rn (Q.rc i))∧w'.cell? ⟨tk,2,none⟩=some (.slice dA dn (Q.dc i))):=fun h' x' w' q=>
     ⟨q.hr.cA,q.cO,(q.blk (List.mem_cons_self ..)).cell 0,(q.blk (List.mem_cons_self ..)).cell 1,(q.blk (List.mem_cons_self ..)).cell 2⟩
    have HSz:=hide (fun w=>size_now (w:=w) (rA:=rA) (dA:=dA) (rc:=Q.rc i) (dc:=Q.dc i) st hzz hzm)
    have hfit:=HPl.out.fit
    have HMake:=hide (fun w (q:HE W w L X { h with s:=s1,t:=t1 } x s k ((tk,62,#[.int .i64 st,.slice rA rn (Q.rc i),.slice dA dn (Q.dc i)])::(R'++((bb,33,#[.pointer (some ⟨L.hb,0,none⟩),.slice A' (i+1) c'])::(ob,3,rowV .i64 4 o')::(rb,33,#[.pointer none,.slice none 0 0])::(pb,27,#[.int .i64 p.c.shift,.int .i64 p.c.regions,.int .i64 p.c.cardShift,.int .i64 p.c.threads,.int .i64 p.c.roots,.int .i64 p.c.refiners,.int .i64 p.c.markers,.int .i64 p.c.young,.int .i64 p.c.tenure,.int .i64 p.c.queue,.int .i64 p.c.stack,.int .i64 p.c.budget,.int .i64 p.c.percent,.int .i64 p.c.fail,.slice (some ⟨Q.tb,Q.to,none⟩) p.n Q.tc,.slice hAd p.m Q.hc])::[]))))=>q.post (fun own q=>q.make (I:=a) (S:=z) (P:=rn) ⟨by omega,hzm⟩ (by omega) hfit))
    have HLy2:Hid (Lay p (setA A i a) (i+1) (fun x y=>if x=i then 0 else 0) (fun x y=>if x=i then 0 else d x y) { h with s:=s1,t:=t1,f:=upd (updRow h.f a z fun _=>0) a (objW z rn) }):=by
     have:=HLy.out.add HZ.out hzm HSt.out ⟨by rw [← HSt.out];exact HTok.out.s1,by rw [← HSt.out];exact HTok.out.s4⟩ HPl.out HTk.out
     rw [HRN.out]at this
     exact this
    have hnm:h.n≤4194304:=HX7.out.ok.nmax
    have han:a+z≤h.n:=hfit
    have HOff:=hide (fun h' (hh:h'.n=h.n) w (q:HE W w L X h' x s k ((tk,62,#[.int .i64 st,.slice rA rn (Q.rc i),.slice dA dn (Q.dc i)])::(R'++((bb,33,#[.pointer (some ⟨L.hb,0,none⟩),.slice A' (i+1) c'])::(ob,3,rowV .i64 4 o')::(rb,33,#[.pointer none,.slice none 0 0])::(pb,27,#[.int .i64 p.c.shift,.int .i64 p.c.regions,.int .i64 p.c.cardShift,.int .i64 p.c.threads,.int .i64 p.c.roots,.int .i64 p.c.refiners,.int .i64 p.c.markers,.int .i64 p.c.young,.int .i64 p.c.tenure,.int .i64 p.c.queue,.int .i64 p.c.stack,.int .i64 p.c.budget,.int .i64 p.c.percent,.int .i64 p.c.fail,.slice (some ⟨Q.tb,Q.to,none⟩) p.n Q.tc,.slice hAd p.m Q.hc])::[]))))=>q.post (fun own q=>q.offsPut (a:=a) (z:=z) (by omega) (by rw [hh];exact han)))
    have HZZ:=hide hzz
    clear HLy HPl HTk hfit hzz
    replace HX7:=hide (HX7.out.fr0 (Fr.refl _ _).drew)
    have K0:=HC.out _ _ _ HX7.out
    go_region_held3 (fun w'=>w'.cell? ⟨L.hb,20,none⟩=some (.pointer (some ⟨L.ab,0,none⟩))∧w'.cell? ⟨L.hb,22,none⟩=some (.pointer (some ⟨X.ob,0,none⟩))∧w'.cell? ⟨tk,0,none⟩=some (.int .i64 st)∧w'.cell? ⟨tk,1,none⟩=some (.slice rA rn (Q.rc i))∧w'.cell? ⟨tk,2,none⟩=some (.slice dA dn (Q.dc i)))
     (first | with_reducible exact K0 | go_keep)
     (first | (go_at_call 31;refine(HSz.out _).mono ?_;rintro e w2 ⟨rfl,hf⟩;replace HX7:=hide (HX7.out.fr0 hf);have K0:=HC.out _ _ _ HX7.out;clear hf) | (go_at_call 35;refine(HMake.out _ HX7.out).mono ?_;rintro e w2 ⟨rfl,hA⟩;have HX8:=hide hA;have K0:=HC.out _ _ _ hA;clear hA))
    clear HX7 HMake
    obtain⟨f8,hf8⟩:∃f8,upd (updRow h.f a z fun _=>0) a (objW z rn)=f8:=⟨_,rfl⟩
    rw [hf8]at HX8 HLy2
    clear hf8
    obtain⟨j20,j22,jt0,jt1,jt2⟩:=K0
    go_wp2_with fail
    clear j20 j22 jt0 jt1 jt2
    replace HX8:=hide (HX8.out.fr0 (Fr.refl _ _).drew)
    have hX9:∀(Goal:World→Prop),True:=fun _=>trivial
    by_cases h3:3≤st
    rotate_left
    ·have h3b:decide (3≤st)=false:=decide_eq_false h3
     rw [if_neg h3]at HTr2
     let C8:World→Prop:=fun w'=>HE W w' L X { h with s:=s1,t:=t1,f:=f8 } x s k ((tk,62,#[.int .i64 st,.slice rA rn (Q.rc i),.slice dA dn (Q.dc i)])::(R'++((bb,33,#[.pointer (some ⟨L.hb,0,none⟩),.slice A' (i+1) c'])::(ob,3,rowV .i64 4 o')::(rb,33,#[.pointer none,.slice none 0 0])::(pb,27,#[.int .i64 p.c.shift,.int .i64 p.c.regions,.int .i64 p.c.cardShift,.int .i64 p.c.threads,.int .i64 p.c.roots,.int .i64 p.c.refiners,.int .i64 p.c.markers,.int .i64 p.c.young,.int .i64 p.c.tenure,.int .i64 p.c.queue,.int .i64 p.c.stack,.int .i64 p.c.budget,.int .i64 p.c.percent,.int .i64 p.c.fail,.slice (some ⟨Q.tb,Q.to,none⟩) p.n Q.tc,.slice hAd p.m Q.hc])::[])))
     have hne:Nonempty (Cls C8):=⟨⟨_,HX8.out⟩⟩
     have yt0:∀u:Cls C8,u.w.cell? ⟨tk,0,none⟩=some (.int .i64 st):=fun u=>(HC.out _ _ _ u.ok).2.2.1
     refine wp_region_cls C8 (by kernel_rfl) (by kernel_rfl) HX8.out ?_
     repeat (go_big_quiet_step (fail))
     refine wpQuiet_nil ?_
     rintro _ ⟨u,rfl⟩
     have HX9:=hide u.ok
     go_wp2_with fail
     clear HX8 HOff HSz hX9
     go_loopw [13] (fun v wr=>∃(j:Nat) (f:Nat→Nat) (x9:HT) (dd:Nat→Nat→Nat),v=.int .i64 j∧j≤dn∧x9=x∧HE W wr L X { h with s:=s1,t:=t1,f:=f } x9 s k ((tk,62,#[.int .i64 st,.slice rA rn (Q.rc i),.slice dA dn (Q.dc i)])::(R'++((bb,33,#[.pointer (some ⟨L.hb,0,none⟩),.slice A' (i+1) c'])::(ob,3,rowV .i64 4 o')::(rb,33,#[.pointer none,.slice none 0 0])::(pb,27,#[.int .i64 p.c.shift,.int .i64 p.c.regions,.int .i64 p.c.cardShift,.int .i64 p.c.threads,.int .i64 p.c.roots,.int .i64 p.c.refiners,.int .i64 p.c.markers,.int .i64 p.c.young,.int .i64 p.c.tenure,.int .i64 p.c.queue,.int .i64 p.c.stack,.int .i64 p.c.budget,.int .i64 p.c.percent,.int .i64 p.c.fail,.slice (some ⟨Q.tb,Q.to,none⟩) p.n Q.tc,.slice hAd p.m Q.hc])::[])))∧Lay p (setA A i a) (i+1) (fun x y=>if x=i then 0 else 0) dd { h with s:=s1,t:=t1,f:=f } ∧
       (∀b,b<i→∀y,y<(p.T b).dt.length→dd b y=dta p b y)∧∀y,y<j→dd i y=dta p i y) (fun v _=>dn-(intOf v).toNat)
     case atStart=>exact⟨0,f8,_,_,rfl,Nat.zero_le _,rfl,HX9.out,HLy2.out,fun b hb y hy=>by rw [if_neg (by omega)];exact HDt.out b hb y hy,fun y hy=>absurd hy (by omega)⟩
     case round=>
      obtain⟨j,f,x9,dd,rfl,hj,hx9,hA,hl,hd1,hd2⟩:=hrel
      have HXE:=hide hx9
      clear hx9
      have HXi:=hide hA
      have HLi:=hide hl
      have HD1:=hide hd1
      have HD3:=hide hd2
      clear HX9 HLy2
      by_cases hjl:j<dn
      ·have hjl1:(j:Int)<(dn:Int):=by omega
       obtain⟨db,dof,hdA2,_,_⟩:=HP.out.ds i hlt (by rw [HDN.out];omega)
       have hdA3:=HDA.out.symm.trans hdA2
       subst hdA3
       have hDc:Hid (∀w',Fr [] W w'→w'.cell? ⟨db,dof+j,none⟩=some (.int .u64 ((p.T i).dt.getD j 0))):=fun w' hf=>by
        obtain⟨rb2,ro2,e1,_,h2⟩:=(HP.out.fr0 hf).ds i hlt (by rw [HDN.out];omega)
        have e1:=HDA.out.symm.trans e1
        injection e1 with e1
        injection e1 with e1 e2
        subst e1 e2
        exact h2 j (by rw [HDN.out];omega)
       obtain⟨hv0,hv1⟩:=HP.out.dv i hlt j
       obtain⟨v,hv⟩:∃v:Nat,(p.T i).dt.getD j 0=(v:Int):=⟨((p.T i).dt.getD j 0).toNat,by omega⟩
       have HV:Hid (dta p i j=v):=by unfold Hid dta;rw [hv];rfl
       rw [hv]at hDc hv1
       have hvm:v<18446744073709551616:=by omega
       have hlim:a+1+rn+j<h.n:=by have:=HZZ.out;omega
       have HStore:=hide (fun w (q:HE W w L X { h with s:=s1,t:=t1,f:=f } x9 s k ((tk,62,#[.int .i64 st,.slice rA rn (Q.rc i),.slice (some ⟨db,dof,none⟩) dn (Q.dc i)])::(R'++((bb,33,#[.pointer (some ⟨L.hb,0,none⟩),.slice A' (i+1) c'])::(ob,3,rowV .i64 4 o')::(rb,33,#[.pointer none,.slice none 0 0])::(pb,27,#[.int .i64 p.c.shift,.int .i64 p.c.regions,.int .i64 p.c.cardShift,.int .i64 p.c.threads,.int .i64 p.c.roots,.int .i64 p.c.refiners,.int .i64 p.c.markers,.int .i64 p.c.young,.int .i64 p.c.tenure,.int .i64 p.c.queue,.int .i64 p.c.stack,.int .i64 p.c.budget,.int .i64 p.c.percent,.int .i64 p.c.fail,.slice (some ⟨Q.tb,Q.to,none⟩) p.n Q.tc,.slice hAd p.m Q.hc])::[]))))=>q.post (fun own q=>q.store (i:=(a:Int)+1+(rn:Int)+(j:Int)) (j:=a+1+rn+j) (y:=(v:Int)) (v:=v) (by omega) hlim rfl hvm))
       have HLw:Hid (Lay p (setA A i a) (i+1) (fun x y=>if x=i then 0 else 0) (fun x y=>if x=i∧y=j then v else dd x y) { h with s:=s1,t:=t1,f:=upd f (a+1+rn+j) v }):=by
        have h1:=HLi.out.word (i:=i) (m:=rn+j) (v:=v) (by omega) (by rw [HZ.out];have:=HZZ.out;omega)
        have e1:setA A i a i=a:=by simp [setA]
        rw [e1,show a+1+(rn+j)=a+1+rn+j by omega]at h1
        refine h1.same (fun x hx y hy=>?_) (fun x hx y hy=>?_)
        ·show(if x=i∧y=rn+j then v else _)=_
         rw [if_neg]
         rintro⟨rfl,e⟩
         rw [HRN.out]at hy
         omega
        ·show(if x=i∧(p.T i).rf.length+y=rn+j then v else _)=_
         rw [HRN.out]
         by_cases e:x=i∧y=j
         ·rw [if_pos e,if_pos ⟨e.1,by omega⟩]
         ·rw [if_neg e,if_neg (fun e2=>e ⟨e2.1,by omega⟩)]
       obtain⟨j20,j22,jt0,jt1,jt2⟩:=HC.out _ _ _ hA
       have jd:=hDc.out _ hA.fr
       clear hA hl hd1 hd2 hdA2 hv0 hv1 hv
       go_wp2_with fail
       clear j20 j22 jt0 jt1 jt2 jd
       replace HXi:=hide (HXi.out.fr0 (Fr.refl _ _).drew)
       have HC3:Hid (∀h' x' w',HE W w' L X h' x' s k ((tk,62,#[.int .i64 st,.slice rA rn (Q.rc i),.slice (some ⟨db,dof,none⟩) dn (Q.dc i)])::(R'++((bb,33,#[.pointer (some ⟨L.hb,0,none⟩),.slice A' (i+1) c'])::(ob,3,rowV .i64 4 o')::(rb,33,#[.pointer none,.slice none 0 0])::(pb,27,#[.int .i64 p.c.shift,.int .i64 p.c.regions,.int .i64 p.c.cardShift,.int .i64 p.c.threads,.int .i64 p.c.roots,.int .i64 p.c.refiners,.int .i64 p.c.markers,.int .i64 p.c.young,.int .i64 p.c.tenure,.int .i64 p.c.queue,.int .i64 p.c.stack,.int .i64 p.c.budget,.int .i64 p.c.percent,.int .i64 p.c.fail,.slice (some ⟨Q.tb,Q.to,none⟩) p.n Q.tc,.slice hAd p.m Q.hc])::[])))→w'.cell? ⟨L.hb,20,none⟩=some (.pointer (some ⟨L.ab,0,none⟩))∧w'.cell? ⟨L.hb,22,none⟩=some (.pointer (some ⟨X.ob,0,none⟩))∧w'.cell? ⟨tk,0,none⟩=some (.int .i64 st)∧w'.cell? ⟨tk,1,none⟩=some (.slice rA rn (Q.rc i))∧w'.cell? ⟨tk,2,none⟩=some (.slice (some ⟨db,dof,none⟩) dn (Q.dc i))∧w'.cell? ⟨db,dof+j,none⟩=some (.int .u64 (v:Int))):=fun h' x' w' q=>by
        obtain⟨k1,k2,k3,k4,k5⟩:=HC.out _ _ _ q
        exact⟨k1,k2,k3,k4,k5,hDc.out _ q.fr⟩
       have K0:=HC3.out _ _ _ HXi.out
       go_region_held3 (fun w'=>w'.cell? ⟨L.hb,20,none⟩=some (.pointer (some ⟨L.ab,0,none⟩))∧w'.cell? ⟨L.hb,22,none⟩=some (.pointer (some ⟨X.ob,0,none⟩))∧w'.cell? ⟨tk,0,none⟩=some (.int .i64 st)∧w'.cell? ⟨tk,1,none⟩=some (.slice rA rn (Q.rc i))∧w'.cell? ⟨tk,2,none⟩=some (.slice (some ⟨db,dof,none⟩) dn (Q.dc i))∧w'.cell? ⟨db,dof+j,none⟩=some (.int .u64 (v:Int)))
        (first | with_reducible exact K0 | go_keep)
        (first | (go_at_call 37;rw [IntWalk.i64_in ((a:Int)+1) (by omega),IntWalk.i64_in ((a:Int)+1+(rn:Int)) (by omega),IntWalk.i64_in ((a:Int)+1+(rn:Int)+(j:Int)) (by omega)];refine(HStore.out _ HXi.out).mono ?_;rintro e w2 ⟨rfl,hA⟩;have HXj:=hide hA;have K0:=HC3.out _ _ _ hA;clear hA))
       obtain⟨j20,j22,jt0,jt1,jt2,jd⟩:=K0
       go_wp2_with fail
       exact⟨⟨j+1,_,x9,_,rfl,hjl,HXE.out,HXj.out,HLw.out,fun b hb y hy=>by
         show(if b=i∧y=j then v else dd b y)=_
         rw [if_neg (fun h=>by omega)]
         exact HD1.out b hb y hy,fun y hy=>by
         show(if i=i∧y=j then v else dd i y)=_
         by_cases e:y=j
         ·subst e
          rw [if_pos ⟨rfl,rfl⟩,HV.out]
         ·rw [if_neg (fun h=>e h.2)]
          exact HD3.out y (by omega)⟩,by simp [intOf];omega⟩
      ·obtain rfl:j=dn:=by omega
       obtain⟨j20,j22,jt0,jt1,jt2⟩:=HC.out _ _ _ hA
       clear hA hl hd1 hd2
       go_wp2_with fail
       exact⟨⟨i+1,rfl,hlt,⟨⟨_,x9,o',setA A i a,A',c',R',dd,HXi.out.sub (fun q hq=>List.mem_cons_of_mem _ hq),HRow3.out,fun hc=>by have:=HRow3.out.1;rw [places_len]at this;omega,HR3.out,HLi.out.same (fun x hx y hy=>by split <;> rfl) (fun _ _ _ _=>rfl),fun b hb y hy=>by
        by_cases e:b=i
        ·subst e
         exact HD3.out y (by rw [HDN.out]at hy;exact hy)
        ·exact HD1.out b (by omega) y hy,HO2.out,HG.out,HTT.out,HST.out,by rw [HXE.out];exact HTr2.out,HRW.out.1,HRW.out.2⟩⟩⟩,by simp [intOf];omega⟩
    ·have h3b:decide (3≤st)=true:=decide_eq_true h3
     rw [if_pos h3]at HTr2
     have K0:=HC.out _ _ _ HX8.out
     go_region_held3 (fun w'=>w'.cell? ⟨L.hb,20,none⟩=some (.pointer (some ⟨L.ab,0,none⟩))∧w'.cell? ⟨L.hb,22,none⟩=some (.pointer (some ⟨X.ob,0,none⟩))∧w'.cell? ⟨tk,0,none⟩=some (.int .i64 st)∧w'.cell? ⟨tk,1,none⟩=some (.slice rA rn (Q.rc i))∧w'.cell? ⟨tk,2,none⟩=some (.slice dA dn (Q.dc i)))
      (first | with_reducible exact K0 | go_keep)
      (first | (go_at_call 31;refine(HSz.out _).mono ?_;rintro e w2 ⟨rfl,hf⟩;replace HX8:=hide (HX8.out.fr0 hf);have K0:=HC.out _ _ _ HX8.out;clear hf) | (go_at_call 36;refine(HOff.out { h with s:=s1,t:=t1,f:=f8 } rfl _ HX8.out).mono ?_;rintro e w9 ⟨rfl,hA⟩;have HX9:=hide hA;have K0:=HC.out _ _ _ hA;clear hA))
     go_wp2_with fail
     clear K0 HX8 HOff HSz hX9
     go_loopw [13] (fun v wr=>∃(j:Nat) (f:Nat→Nat) (x9:HT) (dd:Nat→Nat→Nat),v=.int .i64 j∧j≤dn∧x9={ x with O:=obj x.cw x.O a z }∧HE W wr L X { h with s:=s1,t:=t1,f:=f } x9 s k ((tk,62,#[.int .i64 st,.slice rA rn (Q.rc i),.slice dA dn (Q.dc i)])::(R'++((bb,33,#[.pointer (some ⟨L.hb,0,none⟩),.slice A' (i+1) c'])::(ob,3,rowV .i64 4 o')::(rb,33,#[.pointer none,.slice none 0 0])::(pb,27,#[.int .i64 p.c.shift,.int .i64 p.c.regions,.int .i64 p.c.cardShift,.int .i64 p.c.threads,.int .i64 p.c.roots,.int .i64 p.c.refiners,.int .i64 p.c.markers,.int .i64 p.c.young,.int .i64 p.c.tenure,.int .i64 p.c.queue,.int .i64 p.c.stack,.int .i64 p.c.budget,.int .i64 p.c.percent,.int .i64 p.c.fail,.slice (some ⟨Q.tb,Q.to,none⟩) p.n Q.tc,.slice hAd p.m Q.hc])::[])))∧Lay p (setA A i a) (i+1) (fun x y=>if x=i then 0 else 0) dd { h with s:=s1,t:=t1,f:=f } ∧
       (∀b,b<i→∀y,y<(p.T b).dt.length→dd b y=dta p b y)∧∀y,y<j→dd i y=dta p i y) (fun v _=>dn-(intOf v).toNat)
     case atStart=>exact⟨0,f8,_,_,rfl,Nat.zero_le _,rfl,HX9.out,HLy2.out,fun b hb y hy=>by rw [if_neg (by omega)];exact HDt.out b hb y hy,fun y hy=>absurd hy (by omega)⟩
     case round=>
      obtain⟨j,f,x9,dd,rfl,hj,hx9,hA,hl,hd1,hd2⟩:=hrel
      have HXE:=hide hx9
      clear hx9
      have HXi:=hide hA
      have HLi:=hide hl
      have HD1:=hide hd1
      have HD3:=hide hd2
      clear HX9 HLy2
      by_cases hjl:j<dn
      ·have hjl1:(j:Int)<(dn:Int):=by omega
       obtain⟨db,dof,hdA2,_,_⟩:=HP.out.ds i hlt (by rw [HDN.out];omega)
       have hdA3:=HDA.out.symm.trans hdA2
       subst hdA3
       have hDc:Hid (∀w',Fr [] W w'→w'.cell? ⟨db,dof+j,none⟩=some (.int .u64 ((p.T i).dt.getD j 0))):=fun w' hf=>by
        obtain⟨rb2,ro2,e1,_,h2⟩:=(HP.out.fr0 hf).ds i hlt (by rw [HDN.out];omega)
        have e1:=HDA.out.symm.trans e1
        injection e1 with e1
        injection e1 with e1 e2
        subst e1 e2
        exact h2 j (by rw [HDN.out];omega)
       obtain⟨hv0,hv1⟩:=HP.out.dv i hlt j
       obtain⟨v,hv⟩:∃v:Nat,(p.T i).dt.getD j 0=(v:Int):=⟨((p.T i).dt.getD j 0).toNat,by omega⟩
       have HV:Hid (dta p i j=v):=by unfold Hid dta;rw [hv];rfl
       rw [hv]at hDc hv1
       have hvm:v<18446744073709551616:=by omega
       have hlim:a+1+rn+j<h.n:=by have:=HZZ.out;omega
       have HStore:=hide (fun w (q:HE W w L X { h with s:=s1,t:=t1,f:=f } x9 s k ((tk,62,#[.int .i64 st,.slice rA rn (Q.rc i),.slice (some ⟨db,dof,none⟩) dn (Q.dc i)])::(R'++((bb,33,#[.pointer (some ⟨L.hb,0,none⟩),.slice A' (i+1) c'])::(ob,3,rowV .i64 4 o')::(rb,33,#[.pointer none,.slice none 0 0])::(pb,27,#[.int .i64 p.c.shift,.int .i64 p.c.regions,.int .i64 p.c.cardShift,.int .i64 p.c.threads,.int .i64 p.c.roots,.int .i64 p.c.refiners,.int .i64 p.c.markers,.int .i64 p.c.young,.int .i64 p.c.tenure,.int .i64 p.c.queue,.int .i64 p.c.stack,.int .i64 p.c.budget,.int .i64 p.c.percent,.int .i64 p.c.fail,.slice (some ⟨Q.tb,Q.to,none⟩) p.n Q.tc,.slice hAd p.m Q.hc])::[]))))=>q.post (fun own q=>q.store (i:=(a:Int)+1+(rn:Int)+(j:Int)) (j:=a+1+rn+j) (y:=(v:Int)) (v:=v) (by omega) hlim rfl hvm))
       have HLw:Hid (Lay p (setA A i a) (i+1) (fun x y=>if x=i then 0 else 0) (fun x y=>if x=i∧y=j then v else dd x y) { h with s:=s1,t:=t1,f:=upd f (a+1+rn+j) v }):=by
        have h1:=HLi.out.word (i:=i) (m:=rn+j) (v:=v) (by omega) (by rw [HZ.out];have:=HZZ.out;omega)
        have e1:setA A i a i=a:=by simp [setA]
        rw [e1,show a+1+(rn+j)=a+1+rn+j by omega]at h1
        refine h1.same (fun x hx y hy=>?_) (fun x hx y hy=>?_)
        ·show(if x=i∧y=rn+j then v else _)=_
         rw [if_neg]
         rintro⟨rfl,e⟩
         rw [HRN.out]at hy
         omega
        ·show(if x=i∧(p.T i).rf.length+y=rn+j then v else _)=_
         rw [HRN.out]
         by_cases e:x=i∧y=j
         ·rw [if_pos e,if_pos ⟨e.1,by omega⟩]
         ·rw [if_neg e,if_neg (fun e2=>e ⟨e2.1,by omega⟩)]
       obtain⟨j20,j22,jt0,jt1,jt2⟩:=HC.out _ _ _ hA
       have jd:=hDc.out _ hA.fr
       clear hA hl hd1 hd2 hdA2 hv0 hv1 hv
       go_wp2_with fail
       clear j20 j22 jt0 jt1 jt2 jd
       replace HXi:=hide (HXi.out.fr0 (Fr.refl _ _).drew)
       have HC3:Hid (∀h' x' w',HE W w' L X h' x' s k ((tk,62,#[.int .i64 st,.slice rA rn (Q.rc i),.slice (some ⟨db,dof,none⟩) dn (Q.dc i)])::(R'++((bb,33,#[.pointer (some ⟨L.hb,0,none⟩),.slice A' (i+1) c'])::(ob,3,rowV .i64 4 o')::(rb,33,#[.pointer none,.slice none 0 0])::(pb,27,#[.int .i64 p.c.shift,.int .i64 p.c.regions,.int .i64 p.c.cardShift,.int .i64 p.c.threads,.int .i64 p.c.roots,.int .i64 p.c.refiners,.int .i64 p.c.markers,.int .i64 p.c.young,.int .i64 p.c.tenure,.int .i64 p.c.queue,.int .i64 p.c.stack,.int .i64 p.c.budget,.int .i64 p.c.percent,.int .i64 p.c.fail,.slice (some ⟨Q.tb,Q.to,none⟩) p.n Q.tc,.slice hAd p.m Q.hc])::[])))→w'.cell? ⟨L.hb,20,none⟩=some (.pointer (some ⟨L.ab,0,none⟩))∧w'.cell? ⟨L.hb,22,none⟩=some (.pointer (some ⟨X.ob,0,none⟩))∧w'.cell? ⟨tk,0,none⟩=some (.int .i64 st)∧w'.cell? ⟨tk,1,none⟩=some (.slice rA rn (Q.rc i))∧w'.cell? ⟨tk,2,none⟩=some (.slice (some ⟨db,dof,none⟩) dn (Q.dc i))∧w'.cell? ⟨db,dof+j,none⟩=some (.int .u64 (v:Int))):=fun h' x' w' q=>by
        obtain⟨k1,k2,k3,k4,k5⟩:=HC.out _ _ _ q
        exact⟨k1,k2,k3,k4,k5,hDc.out _ q.fr⟩
       have K0:=HC3.out _ _ _ HXi.out
       go_region_held3 (fun w'=>w'.cell? ⟨L.hb,20,none⟩=some (.pointer (some ⟨L.ab,0,none⟩))∧w'.cell? ⟨L.hb,22,none⟩=some (.pointer (some ⟨X.ob,0,none⟩))∧w'.cell? ⟨tk,0,none⟩=some (.int .i64 st)∧w'.cell? ⟨tk,1,none⟩=some (.slice rA rn (Q.rc i))∧w'.cell? ⟨tk,2,none⟩=some (.slice (some ⟨db,dof,none⟩) dn (Q.dc i))∧w'.cell? ⟨db,dof+j,none⟩=some (.int .u64 (v:Int)))
        (first | with_reducible exact K0 | go_keep)
        (first | (go_at_call 37;rw [IntWalk.i64_in ((a:Int)+1) (by omega),IntWalk.i64_in ((a:Int)+1+(rn:Int)) (by omega),IntWalk.i64_in ((a:Int)+1+(rn:Int)+(j:Int)) (by omega)];refine(HStore.out _ HXi.out).mono ?_;rintro e w2 ⟨rfl,hA⟩;have HXj:=hide hA;have K0:=HC3.out _ _ _ hA;clear hA))
       obtain⟨j20,j22,jt0,jt1,jt2,jd⟩:=K0
       go_wp2_with fail
       exact⟨⟨j+1,_,x9,_,rfl,hjl,HXE.out,HXj.out,HLw.out,fun b hb y hy=>by
         show(if b=i∧y=j then v else dd b y)=_
         rw [if_neg (fun h=>by omega)]
         exact HD1.out b hb y hy,fun y hy=>by
         show(if i=i∧y=j then v else dd i y)=_
         by_cases e:y=j
         ·subst e
          rw [if_pos ⟨rfl,rfl⟩,HV.out]
         ·rw [if_neg (fun h=>e h.2)]
          exact HD3.out y (by omega)⟩,by simp [intOf];omega⟩
      ·obtain rfl:j=dn:=by omega
       obtain⟨j20,j22,jt0,jt1,jt2⟩:=HC.out _ _ _ hA
       clear hA hl hd1 hd2
       go_wp2_with fail
       exact⟨⟨i+1,rfl,hlt,⟨⟨_,x9,o',setA A i a,A',c',R',dd,HXi.out.sub (fun q hq=>List.mem_cons_of_mem _ hq),HRow3.out,fun hc=>by have:=HRow3.out.1;rw [places_len]at this;omega,HR3.out,HLi.out.same (fun x hx y hy=>by split <;> rfl) (fun _ _ _ _=>rfl),fun b hb y hy=>by
        by_cases e:b=i
        ·subst e
         exact HD3.out y (by rw [HDN.out]at hy;exact hy)
        ·exact HD1.out b (by omega) y hy,HO2.out,HG.out,HTT.out,HST.out,by rw [HXE.out];exact HTr2.out,HRW.out.1,HRW.out.2⟩⟩⟩,by simp [intOf];omega⟩
   ·have HX:=hide (hA2.sub mvB)
    have hrb:=HX.out.blk (List.mem_append_right _ (List.mem_cons_of_mem _ (List.mem_cons_of_mem _ (List.mem_cons_self ..))))
    have r0:w5.cell? ⟨rb,0,none⟩=some (.pointer none):=hrb.cell 0
    have r1:w5.cell? ⟨rb,1,none⟩=some (.slice none 0 0):=hrb.cell 1
    have z0:=hrb.frozen 0
    have z1:=hrb.frozen 1
    have N0:rb<w5.heap.size:=hrb.lt
    have HF:=hide (HX.out.fr)
    have HRb:Hid (W.heap.size≤rb):=by have:=HD2.out;have:=HSz0.out;unfold Hid;omega
    have HRR:Hid (RoomR RR W0 h.s h.t o (p.T i).sz (p.T i).st none):=by show RoomR _ _ _ _ _ _ _ _;rw [HZ.out,HSt.out,← HRW.out.1,← HRW.out.2];exact hRR
    clear hA2 hrb hRR
    go_wp2_with fail
    refine bodyPost_ret (v:=.tuple #[.agg #[.pointer none,.slice none 0 0],.bool false,.bool false]) (by simp [results,Tryz.results8,go_sem, *]) rfl ⟨W0,RR,C,P,T,B,qm,s,k,HNW.out,.inr ⟨rfl,?_,i,x,h.s,h.t,o,A,hlt,HTrk.out,HRR.out⟩⟩
    exact((HF.out.setCell (.inr HRb.out) _).setCell (.inr HRb.out) _)
  ·obtain rfl:i=p.n:=by omega
   obtain⟨E0,hE0⟩:∃E0:Blks,E0=R++((bb,33,#[.pointer (some ⟨L.hb,0,none⟩),.slice A0 p.n c])::(ob,3,rowV .i64 4 o)::(rb,33,#[.pointer none,.slice none 0 0])::(pb,27,#[.int .i64 p.c.shift,.int .i64 p.c.regions,.int .i64 p.c.cardShift,.int .i64 p.c.threads,.int .i64 p.c.roots,.int .i64 p.c.refiners,.int .i64 p.c.markers,.int .i64 p.c.young,.int .i64 p.c.tenure,.int .i64 p.c.queue,.int .i64 p.c.stack,.int .i64 p.c.budget,.int .i64 p.c.percent,.int .i64 p.c.fail,.slice tA p.n Q.tc,.slice hAd p.m Q.hc])::[]):=⟨_,rfl⟩
   rw [← hE0]at HX
   have HMb:Hid ((bb,33,#[.pointer (some ⟨L.hb,0,none⟩),.slice A0 p.n c])∈E0):=by rw [hE0];exact List.mem_append_right _ (List.mem_cons_self ..)
   have HMr:Hid ((rb,33,#[.pointer none,.slice none 0 0])∈E0):=by rw [hE0];exact List.mem_append_right _ (List.mem_cons_of_mem _ (List.mem_cons_of_mem _ (List.mem_cons_self ..)))
   have HMp:Hid ((pb,27,#[.int .i64 p.c.shift,.int .i64 p.c.regions,.int .i64 p.c.cardShift,.int .i64 p.c.threads,.int .i64 p.c.roots,.int .i64 p.c.refiners,.int .i64 p.c.markers,.int .i64 p.c.young,.int .i64 p.c.tenure,.int .i64 p.c.queue,.int .i64 p.c.stack,.int .i64 p.c.budget,.int .i64 p.c.percent,.int .i64 p.c.fail,.slice tA p.n Q.tc,.slice hAd p.m Q.hc])∈E0):=by rw [hE0];exact List.mem_append_right _ (List.mem_cons_of_mem _ (List.mem_cons_of_mem _ (List.mem_cons_of_mem _ (List.mem_cons_self ..))))
   have HRow2:=hide (HRow.out.sub (E':=E0) (fun q hq=>by rw [hE0];exact List.mem_append_left _ hq))
   have HRowR:=HRow
   have HSub:Hid (∀q,q∈R→q∈E0∧q.1≠rb):=fun q hq=>⟨by rw [hE0];exact List.mem_append_left _ hq,(HRn.out q hq).2.2.1⟩
   clear hA hrow hnil hRn hl hd ho hg hth hst hS hB HRow HNil HRn HOp hE0 HA1 hi hlt
   obtain⟨w7,hw7⟩:∃w7,w7=wr:=⟨_,rfl⟩
   subst hw7
   go_wp2_with fail
   clear p14
   go_loopw [14] (fun v wr=>∃(i:Nat) (h':HS) (x':HT) (wd:Nat→Nat→Nat),v=.int .i64 i∧i≤p.n∧HE W wr L X h' x' s k E0∧Lay p A p.n wd d h'∧(∀a,a<i→∀j,j<(p.T a).rf.length→wd a j=lnk A ((p.T a).rf.getD j 0))∧h'.g=p.c.geo∧p.c.threads=(h'.T:Int)∧h'.st=(fun _=>[])∧h'.s=h.s∧h'.t=h.t∧h'.R=h.R∧h'.W=h.W∧∃σ':RS,x'={ x with σ:=σ' }) (fun v _=>p.n-(intOf v).toNat)
   case atStart=>exact⟨0,h,x,_,rfl,Nat.zero_le _,HX.out,HLy.out,fun a ha=>absurd ha (by omega),HG.out,HTT.out,HST.out,rfl,rfl,rfl,rfl,x.σ,rfl⟩
   case round=>
    clear HX HLy HG HTT HST
    obtain⟨i,h',x',wd,rfl,hi,hA,hl,hdn,hg,hth,hst,hkp⟩:=hrel
    have HKp:=hide hkp
    clear hkp
    have HX:=hide hA
    have HLy:=hide hl
    have HDn:=hide hdn
    have HG:=hide hg
    have HTT:=hide hth
    have HST:=hide hst
    have hB:=hA.blk HMp.out
    have hBb:=hA.blk HMb.out
    have b0:wr.cell? ⟨bb,0,none⟩=some (.pointer (some ⟨L.hb,0,none⟩)):=hBb.cell 0
    have b1:wr.cell? ⟨bb,1,none⟩=some (.slice A0 p.n c):=hBb.cell 1
    have p0:wr.cell? ⟨pb,0,none⟩=some (.int .i64 p.c.shift):=hB.cell 0
    have p1:wr.cell? ⟨pb,1,none⟩=some (.int .i64 p.c.regions):=hB.cell 1
    have p2:wr.cell? ⟨pb,2,none⟩=some (.int .i64 p.c.cardShift):=hB.cell 2
    have p3:wr.cell? ⟨pb,3,none⟩=some (.int .i64 p.c.threads):=hB.cell 3
    have p4:wr.cell? ⟨pb,4,none⟩=some (.int .i64 p.c.roots):=hB.cell 4
    have p5:wr.cell? ⟨pb,5,none⟩=some (.int .i64 p.c.refiners):=hB.cell 5
    have p6:wr.cell? ⟨pb,6,none⟩=some (.int .i64 p.c.markers):=hB.cell 6
    have p7:wr.cell? ⟨pb,7,none⟩=some (.int .i64 p.c.young):=hB.cell 7
    have p8:wr.cell? ⟨pb,8,none⟩=some (.int .i64 p.c.tenure):=hB.cell 8
    have p9:wr.cell? ⟨pb,9,none⟩=some (.int .i64 p.c.queue):=hB.cell 9
    have p10:wr.cell? ⟨pb,10,none⟩=some (.int .i64 p.c.stack):=hB.cell 10
    have p11:wr.cell? ⟨pb,11,none⟩=some (.int .i64 p.c.budget):=hB.cell 11
    have p12:wr.cell? ⟨pb,12,none⟩=some (.int .i64 p.c.percent):=hB.cell 12
    have p13:wr.cell? ⟨pb,13,none⟩=some (.int .i64 p.c.fail):=hB.cell 13
    have p14:wr.cell? ⟨pb,14,none⟩=some (.slice tA p.n Q.tc):=hB.cell 14
    have p15:wr.cell? ⟨pb,15,none⟩=some (.slice hAd p.m Q.hc):=hB.cell 15
    by_cases hlt:i<p.n
    ·have hlt1:(i:Int)<(p.n:Int):=by omega
     have hlk:=link14_any HTW.out HP.out HRt.out hA HRow2.out hl hlt
     unfold PA.val at hlk
     rw [← HTA.out,← HHA.out]at hlk
     have HLk:=hide hlk
     clear hlk hA hl hdn hg hth hst hB hBb
     go_wp2_with fail
     refine HLk.out.mono ?_
     rintro e w8 ⟨rfl,f,σ,wd',hA2,hl2,hw1,hw2⟩
     have HR2:Hid (∃(i_1:Nat) (h':HS) (x':HT) (wd:Nat→Nat→Nat),Value.int .i64 ((i:Int)+1)=.int .i64 (i_1:Int)∧i_1≤p.n∧HE W w8 L X h' x' s k E0∧Lay p A p.n wd d h'∧(∀a,a<i_1→∀j,j<(p.T a).rf.length→wd a j=lnk A ((p.T a).rf.getD j 0))∧h'.g=p.c.geo∧p.c.threads=(h'.T:Int)∧h'.st=(fun _=>[])∧h'.s=h.s∧h'.t=h.t∧h'.R=h.R∧h'.W=h.W∧∃σ':RS,x'={ x with σ:=σ' }):=
      ⟨i+1,_,_,wd',rfl,hlt,hA2,hl2,fun a ha j hj=>by
       by_cases e:a=i
       ·subst e;exact hw1 j hj
       ·rw [hw2 a e j];exact HDn.out a (by omega) j hj,HG.out,HTT.out,HST.out,HKp.out.1,HKp.out.2.1,HKp.out.2.2.1,HKp.out.2.2.2.1,σ,by obtain⟨σ',e⟩:=HKp.out.2.2.2.2;rw [e]⟩
     clear hA2 hl2 hw1 hw2 HLk b0 b1 p0 p1 p2 p3 p4 p5 p6 p7 p8 p9 p10 p11 p12 p13 p14 p15 HX HLy
     go_wp2_with fail
     exact⟨HR2.out,by simp [intOf];omega⟩
    ·obtain rfl:i=p.n:=by omega
     clear hA hl hdn hg hth hst hB hBb b0 b1 p0 p1 p2 p3 p4 p5 p6 p7 p8 p9 p10 p11 p12 p13 hi hlt
     obtain⟨w9,hw9⟩:∃w9,w9=wr:=⟨_,rfl⟩
     subst hw9
     go_wp2_with fail
     clear p14 p15
     have HX2:Hid (HE W w9 L X { h' with st:=fun _=>[] } x' s k E0):=by
      have:=HX.out
      rw [← HST.out]
      exact this
     clear HX
     go_loopw [15] (fun v wr=>∃(t:Nat) (σt:Nat→List Int),v=.int .i64 t∧t≤p.m∧HE W wr L X { h' with st:=σt } x' s k E0∧∀q,σt q=if q<t then (p.H q).map (fun r=>(lnk A r:Int)) else []) (fun v _=>p.m-(intOf v).toNat)
     case atStart=>exact⟨0,_,rfl,Nat.zero_le _,HX2.out,fun q=>by rw [if_neg (by omega)]⟩
     case round=>
      obtain⟨t,σt,rfl,ht,hA,hσ⟩:=hrel
      have HX:=hide hA
      have HSg:=hide hσ
      have hB:=hA.blk HMp.out
      have p15:wr.cell? ⟨pb,15,none⟩=some (.slice hAd p.m Q.hc):=hB.cell 15
      by_cases hlt:t<p.m
      ·have hlt1:(t:Int)<(p.m:Int):=by omega
       have hmm:=HP.out.mm
       have hPw:=HP.out.fr0 hA.fr
       have ha:=HHA.out.trans (hPw.ha (by omega))
       subst ha
       have y0:=hPw.h0 t hlt
       obtain⟨ln,hln⟩:∃ln,(p.H t).length=ln:=⟨_,rfl⟩
       obtain⟨lA,hlA⟩:∃lA,Q.lA t=lA:=⟨_,rfl⟩
       rw [hln,hlA]at y0
       have HLN:=hide hln
       have HLA:=hide hlA
       have hlm:ln≤9223372036854775807:=by rw [← hln];exact HP.out.lm t hlt
       have hlb:(ln:Int)≤p.c.roots:=by rw [← hln];exact HRt.out.hl t hlt
       have hlb2:ln≤L.B:=by have:=HTh.out.2.1;have:=HLB.out;omega
       have hB64:L.B≤64:=by have:=HTh.out.2.2.1;have:=HLB.out;omega
       have htT:t<h'.T:=by have:=HRt.out.m;have:=HTT.out;omega
       have HBig:Hid (ln≤L.B∧L.B≤64∧t<h'.T):=⟨hlb2,hB64,htT⟩
       clear hln hlA hA hσ hB hPw hlb hlb2 hB64
       obtain⟨w10,hw10⟩:∃w10,w10=wr:=⟨_,rfl⟩
       subst hw10
       go_wp2_with fail
       clear p15 y0
       go_loopw [16] (fun v wr=>∃(kk:Nat) (σ2:Nat→List Int),v=.int .i64 kk∧kk≤ln∧HE W wr L X { h' with st:=σ2 } x' s k E0∧∀q,σ2 q=if q<t then (p.H q).map (fun r=>(lnk A r:Int)) else if q=t then ((p.H t).take kk).map (fun r=>(lnk A r:Int)) else []) (fun v _=>ln-(intOf v).toNat)
       case atStart=>
        refine⟨0,σt,rfl,Nat.zero_le _,HX.out,fun q=>?_⟩
        rw [HSg.out q]
        by_cases e:q<t
        ·rw [if_pos e,if_pos e]
        ·rw [if_neg e,if_neg e]
         split <;> simp
       case round=>
        clear HX HSg
        obtain⟨kk,σ2,rfl,hk,hA,hσ⟩:=hrel
        have HX:=hide hA
        have HSg:=hide hσ
        have HY0:Hid (∀w',Fr [] W w'→w'.cell? ⟨Q.hb,Q.ho+t,none⟩=some (.slice lA ln (Q.lc t))):=fun w' hf=>by
         have:=(HP.out.fr0 hf).h0 t hlt
         rw [HLN.out,HLA.out]at this
         exact this
        have p15:wr.cell? ⟨pb,15,none⟩=some (.slice (some ⟨Q.hb,Q.ho,none⟩) p.m Q.hc):=(hA.blk HMp.out).cell 15
        have y0:=HY0.out _ hA.fr
        by_cases hkl:kk<ln
        ·have hkl1:(kk:Int)<(ln:Int):=by omega
         obtain⟨lb,lo,hlA2,_,_⟩:=HP.out.ls t hlt (by rw [HLN.out];omega)
         have hlA3:=HLA.out.symm.trans hlA2
         subst hlA3
         obtain⟨r,hr⟩:∃r,(p.H t).getD kk 0=r:=⟨_,rfl⟩
         have HRv:=hide hr
         have hRc:Hid (∀w',Fr [] W w'→w'.cell? ⟨lb,lo+kk,none⟩=some (.int .i64 r)):=fun w' hf=>by
          obtain⟨rb2,ro2,e1,_,h2⟩:=(HP.out.fr0 hf).ls t hlt (by rw [HLN.out];omega)
          have e1:=HLA.out.symm.trans e1
          injection e1 with e1
          injection e1 with e1 e2
          subst e1 e2
          rw [← HRv.out]
          exact h2 kk (by rw [HLN.out];omega)
         obtain⟨hr0,hr1⟩:0≤r∧r≤(p.n:Int):=by
          rw [← hr]
          refine HRt.out.hr t hlt _ ?_
          rw [List.getD_eq_getElem?_getD,List.getElem?_eq_getElem (by rw [HLN.out];exact hkl)]
          exact List.getElem_mem _
         obtain⟨gr,offr,hrA,_⟩:=hA.hr.row.pos (show 0<h'.T by omega)
         have HRA:=hide hrA
         have HC:Hid (∀σ w',HE W w' L X { h' with st:=σ } x' s k E0→w'.cell? ⟨L.hb,27,none⟩=some (.slice (some ⟨gr,offr,none⟩) h'.T L.rc)∧w'.cell? ⟨gr,offr+t,none⟩=some (.pointer (some ⟨L.S t,0,none⟩))∧w'.cell? ⟨bb,0,none⟩=some (.pointer (some ⟨L.hb,0,none⟩))∧w'.cell? ⟨bb,1,none⟩=some (.slice A0 p.n c)∧w'.cell? ⟨pb,15,none⟩=some (.slice (some ⟨Q.hb,Q.ho,none⟩) p.m Q.hc)∧w'.cell? ⟨Q.hb,Q.ho+t,none⟩=some (.slice (some ⟨lb,lo,none⟩) ln (Q.lc t))∧w'.cell? ⟨lb,lo+kk,none⟩=some (.int .i64 r)):=fun σ w' q=>by
          obtain⟨g2,off2,e1,_,_,h2,_⟩:=q.hr.row.pos (show 0<h'.T by omega)
          have e1:=HRA.out.symm.trans e1
          injection e1 with e1
          injection e1 with e1 e2
          subst e1 e2
          have c27:=q.hr.cR
          rw [HRA.out]at c27
          exact⟨c27,(h2 t htT).trans (stkV_at _ htT),(q.blk HMb.out).cell 0,(q.blk HMb.out).cell 1,(q.blk HMp.out).cell 15,HY0.out _ q.fr,hRc.out _ q.fr⟩
         obtain⟨v,hv⟩:∃v,lnk A r=v:=⟨_,rfl⟩
         have HV:=hide hv
         have hAm:∀j,j<p.n→A j<4194304:=fun j hj=>by have:=HLy.out.alt hj;have:=hA.ok.nmax;have e:({ h' with st:=σ2 }:HS).n=h'.n:=rfl;omega
         have hvm:v<18446744073709551616:=by
          rw [← hv]
          unfold lnk
          split
          ·decide
          ·have:=hAm (r.toNat-1) (by omega);omega
         have HRef:Hid (∀σ w',HE W w' L X { h' with st:=σ } x' s k E0→Calls Tryz.prog 40 #[.agg #[.pointer (some ⟨L.hb,0,none⟩),.slice A0 p.n c],.int .i64 r] w' fun e w''=>e=.returned (.int .u64 (v:Int))∧Fr [] w' w''):=fun σ w' q=>by
          rw [← HV.out]
          by_cases e0:r=0
          ·subst e0
           exact ref14_zero _ _ _ _ _ _
          ·obtain⟨g,off,hA0,hcell⟩:=HRow2.out.cell (W:=W) (L:=L) (X:=X) (s:=s) (k:=k) (by rw [places_len];omega)
           rw [hA0]
           refine ref14_any (fun j hj=>?_) hAm hr0 hr1 hn
           rw [hcell q j (by rw [places_len];exact hj),places_at A hj]
         have hlen:(σ2 t).length=kk:=by
          rw [hσ t,if_neg (by omega),if_pos rfl,List.length_map,List.length_take,HLN.out]
          omega
         have HPush:Hid (∀w',HE W w' L X { h' with st:=σ2 } x' s k E0→Calls Tryz.prog 39 #[.pointer (some ⟨L.S t,0,none⟩),.int .u64 (v:Int)] w' fun e w''=>e=.returned (.int .i64 0)∧HE W w'' L X { h' with st:=setN σ2 t (σ2 t++[(v:Int)]) } x' s k E0):=fun w' q=>
          q.post (fun own q=>q.push (i:=t) HBig.out.2.2 HBig.out.2.1 (by have:=HBig.out.1;show(σ2 t).length<L.B;omega) ⟨by omega,by omega⟩)
         have HNew:Hid (∀q,setN σ2 t (σ2 t++[(v:Int)]) q=if q<t then (p.H q).map (fun r=>(lnk A r:Int)) else if q=t then ((p.H t).take (kk+1)).map (fun r=>(lnk A r:Int)) else []):=fun q=>by
          by_cases e:q=t
          ·subst e
           rw [setN_at,if_neg (by omega),if_pos rfl,hσ q,if_neg (by omega),if_pos rfl,List.take_add_one,List.map_append]
           congr 1
           rw [List.getElem?_eq_getElem (by rw [HLN.out];exact hkl)]
           have e3:(p.H q)[kk]'(by rw [HLN.out];exact hkl)=r:=by
            rw [← HRv.out,List.getD_eq_getElem?_getD,List.getElem?_eq_getElem (by rw [HLN.out];exact hkl)]
            rfl
           simp [e3,HV.out]
          ·rw [setN_ne _ _ e,hσ q]
           by_cases e2:q<t
           ·rw [if_pos e2,if_pos e2]
           ·rw [if_neg e2,if_neg e2,if_neg e,if_neg e]
         clear hA hσ hlA2 hr hrA hv hAm hlen
         obtain⟨k0,k1,k2,k3,k4,k5,k6⟩:=HC.out _ _ HX.out
         go_wp2_with fail
         clear k0 k1 k2 k3 k4 k5 k6 p15 y0
         replace HX:=hide (HX.out.fr0 (Fr.refl _ _).drew)
         have K0:=HC.out _ _ HX.out
         go_region_held3 (fun w'=>w'.cell? ⟨L.hb,27,none⟩=some (.slice (some ⟨gr,offr,none⟩) h'.T L.rc)∧w'.cell? ⟨gr,offr+t,none⟩=some (.pointer (some ⟨L.S t,0,none⟩))∧w'.cell? ⟨bb,0,none⟩=some (.pointer (some ⟨L.hb,0,none⟩))∧w'.cell? ⟨bb,1,none⟩=some (.slice A0 p.n c)∧w'.cell? ⟨pb,15,none⟩=some (.slice (some ⟨Q.hb,Q.ho,none⟩) p.m Q.hc)∧w'.cell? ⟨Q.hb,Q.ho+t,none⟩=some (.slice (some ⟨lb,lo,none⟩) ln (Q.lc t))∧w'.cell? ⟨lb,lo+kk,none⟩=some (.int .i64 r))
          (first | with_reducible exact K0 | go_keep)
          (first | (go_at_call 40;refine(HRef.out _ _ HX.out).mono ?_;rintro e w2 ⟨rfl,hf⟩;replace HX:=hide (HX.out.fr0 hf);have K0:=HC.out _ _ HX.out;clear hf) | (go_at_call 39;refine(HPush.out _ HX.out).mono ?_;rintro e w2 ⟨rfl,hA⟩;have HZ:=hide hA;have K0:=HC.out _ _ hA;clear hA))
         obtain⟨k0,k1,k2,k3,k4,k5,k6⟩:=K0
         go_wp2_with fail
         exact⟨⟨kk+1,_,rfl,hkl,HZ.out,HNew.out⟩,by simp [intOf];omega⟩
        ·obtain rfl:kk=ln:=by omega
         have HF:Hid (∃(t_1:Nat) (σt:Nat→List Int),Value.int .i64 ((t:Int)+1)=.int .i64 (t_1:Int)∧t_1≤p.m∧HE W wr L X { h' with st:=σt } x' s k E0∧∀q,σt q=if q<t_1 then (p.H q).map (fun r=>(lnk A r:Int)) else []):=⟨t+1,σ2,rfl,hlt,HX.out,fun q=>by
          rw [hσ q]
          by_cases e:q<t
          ·rw [if_pos e,if_pos (by omega)]
          ·rw [if_neg e]
           by_cases e2:q=t
           ·subst e2
            rw [if_pos rfl,if_pos (by omega),← HLN.out,List.take_length]
           ·rw [if_neg e2,if_neg (by omega)]⟩
         clear hA hσ
         go_wp2_with fail
         exact⟨HF.out,by simp [intOf];omega⟩
      ·obtain rfl:t=p.m:=by omega
       have hBb:=hA.blk HMb.out
       have hBr:=hA.blk HMr.out
       have b0:wr.cell? ⟨bb,0,none⟩=some (.pointer (some ⟨L.hb,0,none⟩)):=hBb.cell 0
       have b1:wr.cell? ⟨bb,1,none⟩=some (.slice A0 p.n c):=hBb.cell 1
       have r0:wr.cell? ⟨rb,0,none⟩=some (.pointer none):=hBr.cell 0
       have r1:wr.cell? ⟨rb,1,none⟩=some (.slice none 0 0):=hBr.cell 1
       have z0:=hBr.frozen 0
       have z1:=hBr.frozen 1
       have HRb:=hide hBr
       clear hA hσ hB hBb hBr
       go_wp2_with fail
       have hE:HE W ((wr.setCell ⟨rb,0,none⟩ (.pointer (some ⟨L.hb,0,none⟩))).setCell ⟨rb,1,none⟩ (.slice A0 p.n c)) L X { h' with st:=σt } x' s k R:=by
        refine HE.sub (HE.turn (cs:=#[.pointer none,.slice none 0 0]) HTW.out (HX.out.sub (fun q hq=>?_)) (((Fr.refl _ _).setCell (.inl (by simp)) _).setCell (.inl (by simp)) _) ((HRb.out.put 0 _).put 1 _) (fun q hq=>(HSub.out q hq).2)) (fun q hq=>List.mem_cons_of_mem _ hq)
        rcases List.mem_cons.1 hq with rfl | hq
        ·exact HMr.out
        ·exact(HSub.out q hq).1
       obtain⟨σ',hσ'⟩:=HKp.out.2.2.2.2
       have HFin:Hid (BuiltX W p (.returned (.tuple #[.agg #[.pointer (some ⟨L.hb,0,none⟩),.slice A0 p.n c],.bool true,.bool false])) ((wr.setCell ⟨rb,0,none⟩ (.pointer (some ⟨L.hb,0,none⟩))).setCell ⟨rb,1,none⟩ (.slice A0 p.n c))):=
        ⟨W0,RR,C,P,T,B,qm,s,k,HNW.out,.inl ⟨L,X,_,x',x,o,σ',A,A0,c,R,rfl,hE,HRowR.out,⟨(HLy.out.stk σt).same (fun a ha j hj=>HDn.out a ha j hj) (fun a ha j hj=>HDt.out a ha j hj),HG.out,HTT.out,by rw [HLB.out];exact HTh.out.2.1,fun q hq=>HSg.out q⟩,by show Trk p _ RR W0 p.n h'.s h'.t o A x;rw [HKp.out.1,HKp.out.2.1];exact HTrk.out,hσ',HKp.out.2.2.1.trans HRW.out.1,HKp.out.2.2.2.1.trans HRW.out.2,HCF.out⟩⟩
       clear hE HRb hσ'
       refine bodyPost_ret (v:=.tuple #[.agg #[.pointer (some ⟨L.hb,0,none⟩),.slice A0 p.n c],.bool true,.bool false]) (by simp [results,Tryz.results8,go_sem, *]) rfl HFin.out
end Go.Proofs.YteacgfeiedcdiaaGreatDoor
