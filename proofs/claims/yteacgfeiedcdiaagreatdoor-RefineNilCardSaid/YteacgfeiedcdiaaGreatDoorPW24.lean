/- Package heap: the map of what is known; has, references. -/
import Derived.Test.YteacgfeiedcdiaaGreatDoorPW23
import Derived.Test.YteacgfeiedcdiaaGreatDoorPW04
namespace Go.Gl
set_option linter.unusedVariables false
open Go.RowKit Go.ChangeMaps Go.MapKept
open Go.Maps (Keyed)
theorem Mp.look2{P:Program}{k:TypeId}{w:World}{b:Nat}{f:Value→Option Value}{t e:TypeId}{z key:Value}{kl:Lit}(h:Mp P k w b f)(K:Keyed P k)(ht:P.underlying t=some (.map k e))(hz:(zeroValue e).run P w=.ok z w)(hkey:keyOf P k key=some kl) :
  (Instr.lookup t (.map (some b)) key true).run P w=.ok (.tuple #[(f key).getD z,.bool (f key).isSome]) w:=by
 obtain⟨es,clock,hb,E⟩:=h
 rcases K.find w hkey es.toList E.key with⟨h1,h2⟩ | ⟨j,e0,h1,h2,h3⟩
 ·have:f key=none:=by
   cases hf:f key with
   | none=>rfl
   | some v=>obtain⟨x,hx,h5,_⟩:=E.ofF key v hf;exact absurd h5 (h2 x hx)
  simp [Instr.lookup,run_underlying ht,MapKept.run_getObj_map hb,K.check w _ hkey,h1,hz,Result.andThen,this]
 ·have:f key=some e0.val:=h3 ▸ E.val e0 (List.mem_of_getElem? h2)
  simp [Instr.lookup,run_underlying ht,MapKept.run_getObj_map hb,K.check w _ hkey,h1,Result.andThen,this]
end Go.Gl
namespace Go.Proofs.YteacgfeiedcdiaaGreatDoor
set_option linter.unusedVariables false
set_option linter.unusedSimpArgs false
set_option maxRecDepth 100000
open Go.RowKit Go.Gl
theorem zeroUnit(w:World):(zeroValue 113).run Tryz.prog w=.ok (.agg #[]) w:=by kernel_rfl
def KnownAt(w:World)(mb:Nat)(o:List Int):Prop:=
 ∃f,Mp Tryz.prog 90 w mb f∧(∀x v,f x=some v→v=.agg #[])∧∀r:Int,0≤r→r<18446744073709551616→(f (.int .u64 r)).isSome=decide (r-1∈o)
theorem KnownAt.fr{w w':World}{mb:Nat}{o:List Int}{F:List Nat}(h:KnownAt w mb o)(hf:Fr F w w')(hb:mb∉F):KnownAt w' mb o:=by
 obtain⟨f,h1,h2⟩:=h
 exact⟨f,h1.fr hf hb,h2⟩
theorem KnownAt.lt{w:World}{mb:Nat}{o:List Int}(h:KnownAt w mb o):mb<w.heap.size:=by
 obtain⟨f,h1,h2⟩:=h
 exact h1.lt
theorem KnownAt.look{w:World}{mb:Nat}{o:List Int}(h:KnownAt w mb o){r:Int}(h0:0≤r)(h1:r<18446744073709551616) :
  (Instr.lookup 185 (.map (some mb)) (.int .u64 r) true).run Tryz.prog w=.ok (.tuple #[.agg #[],.bool (decide (r-1∈o))]) w:=by
 obtain⟨f,k1,k2,k3⟩:=h
 rw [k1.look2 Tryz.refLaw Tryz.underlying185 (zeroUnit w) (refKey r (wf_u64_of ⟨h0,h1⟩)),k3 r h0 h1]
 have:(f (.int .u64 r)).getD (.agg #[])=.agg #[]:=by
  cases hf:f (.int .u64 r)with
  | none=>rfl
  | some v=>exact k2 _ _ hf
 rw [this]
def knownB(l o:List Int):Bool:=l.all fun r=>decide (r=0∨r-1∈o)
theorem knownB_iff{l o:List Int}:knownB l o=true↔HS.Known l o:=by simp [knownB,HS.Known]
set_option maxHeartbeats 1600000 in
theorem hhas_any{w:World}{mb:Nat}{o:List Int}(hm:KnownAt w mb o)(lv:Value)(h1:lv.oneCell'=true){A:Option Addr}{c:Nat}{l:List Int}(hl:Sl w A l.length (fun k=>.int .u64 (l.getD k 0)))(hb:∀r,r∈l→0≤r∧r<18446744073709551616)(hn:l.length≤4611686018427387904) :
  Calls Tryz.prog 110 #[.agg #[lv,.map (some mb)],.slice A l.length c] w fun e w'=>e=.returned (.bool (knownB l o))∧Fr [] w w':=by
 have HS0:=hide hl
 have HM:=hide hm
 have HBD:Hid (∀j,j<l.length→0≤l.getD j 0∧l.getD j 0<18446744073709551616):=fun j hj=>hb _ (by simp [hj])
 have HT:Hid ((∀j,j<l.length→l.getD j 0=0∨l.getD j 0-1∈o)→knownB l o=true):=fun h=>knownB_iff.2 fun r hr=>by
  obtain⟨j,hj,rfl⟩:=List.getElem_of_mem hr
  have:=h j hj
  simpa [hj] using this
 have HFl:Hid (∀j,j<l.length→¬ (l.getD j 0=0∨l.getD j 0-1∈o)→knownB l o=false):=fun j hj h=>by
  rw [Bool.eq_false_iff]
  intro hk
  exact h (knownB_iff.1 hk _ (by simp [hj]))
 obtain⟨n,hn0⟩:∃n,n=l.length:=⟨_,rfl⟩
 rw [← hn0]at HS0 HBD HT HFl hn ⊢
 clear hm hl hb hn0
 go_enter Tryz.func110,Tryz.ntmps110
 go_wp2_with fail
 have HB:Hid (Blk (w.alloc (.cells #[lv,.map (some mb)] 187)) w.heap.size 187 #[lv,.map (some mb)]):=Blk.new _ _ _
 have HW0:Hid (Fr [] w (w.alloc (.cells #[lv,.map (some mb)] 187))):=(Fr.refl _ _).alloc _
 generalize w.alloc (.cells #[lv,.map (some mb)] 187)=w0 at *
 generalize w.heap.size=ob at *
 go_loopw [11] (fun i wr=>∃j:Nat,i=.int .i64 j∧j≤n∧(∀m,m<j→l.getD m 0=0∨l.getD m 0-1∈o)∧Fr [] w0 wr) (fun i _=>n-(intOf i).toNat)
 case atStart=>exact⟨0,rfl,Nat.zero_le _,(fun m hm=>absurd hm (by omega)),Fr.refl _ _⟩
 case round=>
  obtain⟨j,rfl,hj,hk,hf⟩:=hrel
  have HK:=hide hk
  have HF:=hide hf
  have B1:=HB.out.fr hf (by simp)
  have x1:wr.cell? ⟨ob,1,none⟩=some (.map (some mb)):=B1.cell 1
  have hM:=(HM.out.fr (HW0.out.trans_same hf) (by simp))
  have HSl:Hid (Sl wr A n (fun k=>.int .u64 (l.getD k 0))):=HS0.out.fr (HW0.out.trans_same hf) (by simp)
  clear hk hf B1
  by_cases hlt:j<n
  ·have hlt1:(j:Int)<(n:Int):=by omega
   obtain⟨b,off,rfl,_,hc⟩:=HSl.out (by omega)
   have c0:wr.cell? ⟨b,off+j,none⟩=some (.int .u64 (l.getD j 0)):=hc j hlt
   have hbd:=HBD.out j hlt
   have HO1:Hid ((l.getD j 0=0∨l.getD j 0-1∈o)→∀m,m<j+1→l.getD m 0=0∨l.getD m 0-1∈o):=fun h m hm=>by
    rcases Nat.lt_or_ge m j with h3 | h3
    ·exact HK.out m h3
    ·obtain rfl:m=j:=by omega
     exact h
   have HF1:=hide (HFl.out j hlt)
   obtain⟨r,hr⟩:∃r,r=l.getD j 0:=⟨_,rfl⟩
   rw [← hr]at c0 hbd HO1 HF1
   clear hr hc
   have hlk:=hM.look hbd.1 hbd.2
   clear hM
   by_cases h0:r=0
   ·subst h0
    have HN:=hide (HO1.out (.inl rfl))
    generalize decide ((0:Int)-1∈o)=bb at *
    go_wp2_with fail
    go_roundw
    case rel=>exact⟨j+1,by go_num,by omega,HN.out,HF.out.alloc _⟩
    case measure=>simp [intOf];omega
   ·have h0':(r !=0)=true:=by simpa using h0
    by_cases h2:r-1∈o
    ·have HN:=hide (HO1.out (.inr h2))
     rw [decide_eq_true h2]at hlk
     clear h2
     go_wp2_with fail
     go_roundw
     case rel=>exact⟨j+1,by go_num,by omega,HN.out,HF.out.alloc _⟩
     case measure=>simp [intOf];omega
    ·have HN:Hid (knownB l o=false):=HF1.out (fun h=>h.elim h0 h2)
     rw [decide_eq_false h2]at hlk
     clear h2
     go_wp2_with fail
     go_ret
     exact⟨by rw [HN.out];rfl,(HW0.out.trans_same HF.out).alloc _⟩
  ·obtain rfl:j=n:=by omega
   have HN:Hid (knownB l o=true):=HT.out HK.out
   clear hM
   go_wp2_with fail
   go_ret
   exact⟨by rw [HN.out];rfl,HW0.out.trans_same HF.out⟩
theorem Lr.of_blk{w:World}{e:TypeId}{g n:Nat}{xs:List Value}(h:Blk w g e xs.toArray)(hl:xs.length=n)(hm:n≤maxLen):Lr w e (some ⟨g,0,none⟩) n n (if n=0 then [] else [g]) xs:=
 ⟨hl,Nat.le_refl _,hm,fun h0=>if_pos h0,fun hc=>⟨g,0,xs.toArray,rfl,if_neg (by omega),h,by simp [hl],by simp [← hl]⟩⟩
def HrR(w:World)(L:HL)(h:HS)(s k:Nat)(l:List Int)(e:Ending)(w':World):Prop:=
 ∃A cap G,e=.returned (.slice A l.length cap)∧Lr w' 90 A l.length cap G (refV l)∧(∀g,g∈G→w.heap.size≤g)∧Hr w' L h s k∧Fr [L.ab] w w'
section
variable {w:World}{L:HL}{h:HS}{s k:Nat}
set_option maxHeartbeats 3200000 in
theorem hrefs_any(H:Hr w L h s k){i S P:Nat}(o:HS.ObjAt h i S P):Calls Tryz.prog 111 #[.pointer (some ⟨L.hb,0,none⟩),.int .i64 (i:Int)] w (HrR w L h s k (h.refsAt (i:Int))):=by
 obtain⟨i0,hi,hz0,hz1,hz2⟩:=info_parts Tryz.info_ref
 have c0:=H.cA
 have HH:=hide H
 have hlen:(h.refsAt (i:Int)).length=P:=by rw [o.refs];simp
 have HFD:Hid (Calls Tryz.prog 120 #[.pointer (some ⟨L.ab,0,none⟩),.int .i64 (i:Int)] w (ListAns w L.ab L.aw h.n h.f (Go.Gl.refs i P) 0)):=by
  obtain⟨c,hc⟩:=H.ar
  have:=pfields_any hc (i:Int)
  rw [o.fields.1,o.fields.2]at this
  exact this
 unfold ListAns at HFD
 have HP:Hid (P<S∧S≤1048576∧i+S≤h.n∧i<h.n):=⟨o.ps,o.max,o.fit,o.lt⟩
 have HR0:=hide o.refs
 have HWD:Hid (∀w',Hr w' L h s k→∀a,a<h.n→Calls Tryz.prog 122 #[.pointer (some ⟨L.hb,0,none⟩),.int .i64 (a:Int)] w' (HrP w' L h s k (.int .u64 (h.f a:Int)))):=fun w' h' a ha=>hword_at h' ha
 have HRL:=hide (refs_len i P)
 have HRA:Hid (∀j,j<P→(Go.Gl.refs i P).getD j 0=((i+1+j:Nat):Int)):=fun j hj=>by rw [refs_at hj];omega
 rw [HRL.out]at HFD
 have hPm:P≤1048576:=by have:=HP.out;omega
 unfold HrR
 rw [hlen]
 clear H hlen
 go_enter Tryz.func111,Tryz.ntmps111
 go_wp2_with fail
 refine HFD.out.mono ?_
 rintro e w1 ⟨A,cap,c',rfl,ho,ha,hf⟩
 have HO:Hid (Own w.heap.size w1 A (Go.Gl.refs i P)):=ho
 have HH1:=hide (HH.out.fr1 hf ⟨_,ha⟩)
 have HF1:=hide hf
 clear ho ha hf HFD
 go_wp2_with (at_make;refine wpList_make_full _ rfl _ _ 167 rfl w.heap.size 90 i0 (.int .u64 0) 1 Tryz.underlying167 hi hz0 hz1 _ _ _ _ P rfl rfl rfl rfl (by rw [hz2];omega) (by unfold maxLen;omega) ?c4 ?_)
 case c4=>have:=HF1.out.size;simp;omega
 intro w2 hown hgr
 rw [show(madeCells #[Value.int .u64 0] P).toList=List.replicate P (.int .u64 0) from made_one (.int .u64 0) rfl P]at hown
 have HB2:Hid (Blk w2 w1.heap.size 90 (rowV .u64 P fun _=>0)):=by
  have:=own_full hown
  rw [← rowV_const]at this
  exact this
 have HF2:Hid (Fr [] w1 w2):=(Fr.refl _ _).grown hgr (fun _ hk=>by cases hk)
 have HN2:Hid (L.ab<w.heap.size∧L.aw<w.heap.size∧w.heap.size≤w1.heap.size):=by
  obtain⟨c9,h9⟩:=HH.out.ar
  exact⟨h9.set.lt,h9.row.lt,HF1.out.size⟩
 clear hown hgr
 go_wp2_with fail
 go_loopw [24] (fun q wr=>∃(j:Nat) (x:Nat→Int),q=.int .i64 j∧j≤P∧(∀m,m<j→x m=(h.f (i+1+m):Int))∧Blk wr w1.heap.size 90 (rowV .u64 P x)∧Hr wr L h s k∧Fr [L.ab] w1 wr) (fun q _=>P-(intOf q).toNat)
 case atStart=>exact⟨0,_,rfl,Nat.zero_le _,(fun m hm=>absurd hm (by omega)),HB2.out,HH1.out.fr0 HF2.out,HF2.out.mono (fun x hx=>by cases hx)⟩
 case round=>
  obtain⟨j,x,rfl,hj,hx,hb,hH,hf⟩:=hrel
  have HX:=hide hx
  have HB:=hide hb
  have HH3:=hide hH
  have HF3:=hide hf
  clear hx hb hH hf
  by_cases hlt:j<P
  ·have hlt1:(j:Int)<(P:Int):=by omega
   have ho3:=HO.out.fr HF3.out (fun y hy=>.inl (by simp at hy;rw [hy];exact HN2.out.1))
   obtain⟨b,off,rfl,hb0,hb1,hcl⟩:=ho3 (by rw [HRL.out];omega)
   have x0:wr.cell? ⟨b,off+j,none⟩=some (.int .i64 ((i+1+j:Nat):Int)):=by rw [hcl j (by rw [HRL.out];exact hlt),HRA.out j hlt]
   have hin:i+1+j<h.n:=by have:=HP.out;omega
   have HW:=hide (HWD.out wr HH3.out (i+1+j) hin)
   unfold HrP at HW
   obtain⟨y,hy⟩:∃y,y=h.f (i+1+j):=⟨_,rfl⟩
   rw [← hy]at HW
   have HY:=hide hy
   clear ho3 hcl hb0 hb1 hy
   generalize hij:i+1+j=ij at *
   go_wp2_with fail
   refine HW.out.mono ?_
   rintro e w3 ⟨rfl,hH4,hf4⟩
   have hB4:=HB.out.fr hf4 (by have:=HN2.out;simp;omega)
   have HB4:Hid (Blk (w3.setCell ⟨w1.heap.size,j,none⟩ (.int .u64 (y:Int))) w1.heap.size 90 (rowV .u64 P (put1 x j (y:Int)))):=hB4.putRow j _
   have z4:=hB4.frozen j
   have c4:w3.cell? ⟨w1.heap.size,j,none⟩=some (.int .u64 (x j)):=by rw [hB4.cell,rowV_at hlt]
   have HF4:Hid (Fr [L.ab] w1 (w3.setCell ⟨w1.heap.size,j,none⟩ (.int .u64 (y:Int)))):=(HF3.out.trans_same hf4).setCell (p:=⟨w1.heap.size,j,none⟩) (.inr (Nat.le_refl _)) _
   have HH4:Hid (Hr (w3.setCell ⟨w1.heap.size,j,none⟩ (.int .u64 (y:Int))) L h s k):=by
    obtain⟨c9,h9⟩:=hH4.ar
    exact HH.out.fr1 (HF1.out.trans_same HF4.out) ⟨c9,h9.fr (F:=[w1.heap.size]) ((Fr.refl _ _).setCell (p:=⟨w1.heap.size,j,none⟩) (.inl (by simp)) _) (by have:=HN2.out;simp;omega) (by have:=HN2.out;simp;omega)⟩
   have HX4:Hid (∀m,m<j+1→put1 x j (y:Int) m=(h.f (i+1+m):Int)):=fun m hm=>by
    unfold put1
    by_cases e:m=j
    ·subst e
     rw [if_pos rfl,HY.out,hij]
    ·rw [if_neg e]
     exact HX.out m (by omega)
   clear hH4 hf4 hB4
   go_wp2_with fail
   go_roundw
   case rel=>exact⟨j+1,_,by go_num,by omega,HX4.out,HB4.out,HH4.out,HF4.out⟩
   case measure=>simp [intOf];omega
  ·obtain rfl:j=P:=by omega
   have HL9:Hid (Lr wr 90 (some ⟨w1.heap.size,0,none⟩) j j (if j=0 then [] else [w1.heap.size]) (refV (h.refsAt (i:Int)))):=by
    refine Lr.of_blk ?_ (by rw [refV_len,HR0.out];simp) (by unfold maxLen;omega)
    have e:rowV .u64 j x=(refV (h.refsAt (i:Int))).toArray:=by
     rw [HR0.out]
     unfold rowV refV
     rw [List.map_map]
     congr 1
     apply List.map_congr_left
     intro m hm
     show Value.int .u64 (x m)=.int .u64 _
     rw [HX.out m (List.mem_range.1 hm)]
    rw [← e]
    exact HB.out
   go_wp2_with fail
   go_ret
   refine⟨_,_,_,rfl,HL9.out,fun g hg=>?_,HH3.out,HF1.out.trans_same HF3.out⟩
   split at hg
   ·cases hg
   ·simp at hg
    rw [hg]
    exact HN2.out.2.2
end
theorem Fr_union{F G:List Nat}{a b c:World}(h:Fr F a b)(k:Fr G b c):Fr (F++G) a c:=
 (h.mono (G:=F++G) (fun x hx=>.inl (by simp [hx]))).trans k (fun x hx=>.inl (by simp [hx]))
def Keep(B:Nat)(a b:World):Prop:=∃F,Fr F a b∧∀x,x∈F→x<B∨a.heap.size≤x
theorem Keep.refl(B:Nat)(a:World):Keep B a a:=⟨[],Fr.refl _ _,fun x hx=>by cases hx⟩
theorem Keep.step{B:Nat}{a b c:World}{G:List Nat}(h:Keep B a b)(hf:Fr G b c)(hG:∀x,x∈G→x<B∨a.heap.size≤x):Keep B a c:=by
 obtain⟨F,h1,h2⟩:=h
 exact⟨F++G,Fr_union h1 hf,fun x hx=>(List.mem_append.1 hx).elim (h2 x) (hG x)⟩
theorem Keep.own{B:Nat}{a b:World}{A:Option Addr}{l:List Int}(h:Keep B a b)(ho:Own B a A l):Own B b A l:=by
 obtain⟨F,h1,h2⟩:=h
 exact ho.fr h1 h2
theorem strF_len{f:Nat→Nat}{b:Nat}:∀(k a:Nat) {l:List Int},strF f b k a=some l→l.length≤k
 | 0,a,l,h=>by
  by_cases h1:a<b
  ·simp [strF,h1]at h
  ·rw [rowF_end h1]at h
   cases h
   simp
 | k+1,a,l,h=>by
  by_cases h1:a<b
  ·by_cases h2:StepOk f a b
   ·simp only [strF,if_pos h1,if_pos h2]at h
    cases hr:strF f b k (a+(Hd.of (f a)).size.toNat)with
    | none=>rw [hr]at h;cases h
    | some l'=>
     rw [hr]at h
     simp at h
     subst h
     have:=strF_len k _ hr
     simp
     omega
   ·rw [rowF_no h1 h2]at h
    cases h
  ·rw [rowF_end h1]at h
   cases h
   simp
theorem starts_len(n:Nat)(f:Nat→Nat)(a b:Int):(startsL n f a b).length≤n:=by
 unfold startsL
 split
 ·rename_i hb
  rcases bnd_ways n a b with⟨A,B,rfl,rfl,h1,h2,_⟩ | h1 | h1 | h1
  ·rw [Int.toNat_natCast,Int.toNat_natCast]
   unfold startsO
   cases hr:strF f B (B-A) A with
   | none=>simp
   | some l=>
    have:=strF_len _ _ hr
    simp
    omega
  ·omega
  ·omega
  ·omega
 ·simp
section
variable {h:HS}{s k:Nat}
theorem rowL_len(ok:h.Ok s k)(a:Int):(h.rowL a).length≤h.n:=by
 have hw:=ok.wpos
 rcases rowE_ways h a with⟨_,_,e⟩ | ⟨r,rfl,hr,⟨_,_,e⟩ | ⟨_,_,e⟩ | ⟨_,_,_,_,_,e⟩⟩
 ·rw [e];simp
 ·rw [e];exact starts_len _ _ _ _
 ·have:=ok.base_le hr
  rw [e]
  split <;> simp
  omega
 ·rw [e];simp
theorem rowL_mem(ok:h.Ok s k){a x:Int}(hx:x∈h.rowL a):∃i:Nat,x=(i:Int)∧i<h.n:=by
 have hw:=ok.wpos
 rcases rowE_ways h a with⟨_,_,e⟩ | ⟨r,rfl,hr,⟨_,_,e⟩ | ⟨_,_,e⟩ | ⟨_,_,_,_,_,e⟩⟩
 ·rw [e]at hx;cases hx
 ·rw [e]at hx
  obtain⟨i,rfl,h1,h2,h3,_⟩:=starts_mem hx
  exact⟨i,rfl,by omega⟩
 ·have:=ok.base_le hr
  rw [e]at hx
  split at hx
  ·simp at hx
   exact⟨r*h.W,by simpa using hx,by omega⟩
  ·cases hx
 ·rw [e]at hx;cases hx
end
theorem KnownAt.new(w:World){b:Nat}(hb:w.heap.size=b):KnownAt (w.alloc (.map #[] 0)) b []:=by
 subst hb
 exact⟨fun _=>none,Mp.made w,(fun x v h=>by cases h),(fun r _ _=>by simp)⟩
theorem KnownAt.add{w':World}{mb:Nat}{o:List Int}{f:Value→Option Value}(h2:∀x v,f x=some v→v=.agg #[])(h3:∀r:Int,0≤r→r<18446744073709551616→(f (.int .u64 r)).isSome=decide (r-1∈o)){a:Int}
  (hm:Mp Tryz.prog 90 w' mb (upF f (.int .u64 (a+1)) (.agg #[]))):KnownAt w' mb (o++[a]):=by
 refine⟨_,hm,fun x v hx=>?_,fun r h0 h1=>?_⟩
 ·by_cases e:x=.int .u64 (a+1)
  ·subst e
   rw [upF_at]at hx
   exact(Option.some.inj hx).symm
  ·rw [upF_ne _ _ e]at hx
   exact h2 x v hx
 ·by_cases e:r=a+1
  ·subst e
   rw [upF_at]
   simp
  ·rw [upF_ne _ _ (fun e1=>e (by injection e1)),h3 r h0 h1]
   have:r-1≠a:=by omega
   simp [this]
structure OAt(W w:World)(L:HL)(h:HS)(s k:Nat)(t q mb:Nat)(Pg:Nat→Prop)(acc:List Int):Prop where
 hr:Hr w L h s k
 fr:Fr [L.ab] W w
 res:Blk w t 187 #[.slice none 0 0,.map none]
 own:∃A c G,Blk w q 187 #[.slice A acc.length c,.map (some mb)]∧Lr w 3 A acc.length c G (zv acc)∧∀g,g∈G→W.heap.size≤g∧Pg g
 kn:KnownAt w mb acc
theorem OAt.look{W w w':World}{L:HL}{h:HS}{s k:Nat}{t q mb:Nat}{Pg:Nat→Prop}{acc:List Int}(a1:OAt W w L h s k t q mb Pg acc)(hH:Hr w' L h s k)(hf:Fr [L.ab] w w'):OAt W w' L h s k t q mb Pg acc:=by
 obtain⟨A,c,G,b1,b2,b3⟩:=a1.own
 obtain⟨c9,h9⟩:=a1.hr.ar
 have hab:∀ {b:Nat} {t:TypeId} {cs:Array Value},Blk w b t cs→t≠120→b∉[L.ab]:=fun hb ht hx=>by
  simp only [List.mem_singleton]at hx
  exact hb.apart h9.set ht hx
 refine⟨hH,a1.fr.trans_same hf,a1.res.fr hf (hab a1.res (by decide)),⟨A,c,G,b1.fr hf (hab b1 (by decide)),b2.fr hf (fun g hg hx=>?_),b3⟩,a1.kn.fr hf (fun hx=>?_)⟩
 ·simp only [List.mem_singleton]at hx
  subst hx
  exact b2.apart h9.set (by decide) hg
 ·simp only [List.mem_singleton]at hx
  obtain⟨f,k1,_⟩:=a1.kn
  exact k1.blk_ne h9.set hx
theorem OAt.look0{W w w':World}{L:HL}{h:HS}{s k:Nat}{t q mb:Nat}{Pg:Nat→Prop}{acc:List Int}(a1:OAt W w L h s k t q mb Pg acc)(hf:Fr [] w w'):OAt W w' L h s k t q mb Pg acc:=a1.look (a1.hr.fr0 hf) (hf.mono (fun x hx=>by cases hx))
theorem OAt.weak{W w:World}{L:HL}{h:HS}{s k:Nat}{t q mb:Nat}{Pg Pg':Nat→Prop}{acc:List Int}(a1:OAt W w L h s k t q mb Pg acc)(hp:∀g,g<w.heap.size→Pg g→Pg' g):OAt W w L h s k t q mb Pg' acc:=by
 obtain⟨A,c,G,b1,b2,b3⟩:=a1.own
 exact⟨a1.hr,a1.fr,a1.res,⟨A,c,G,b1,b2,fun g hg=>⟨(b3 g hg).1,hp g (b2.lt g hg) (b3 g hg).2⟩⟩,a1.kn⟩
theorem kn_far{w:World}{mb:Nat}{o:List Int}{e:TypeId}{A:Option Addr}{n c:Nat}{G:List Nat}{xs:List Value}(h:KnownAt w mb o)(hl:Lr w e A n c G xs):mb∉G:=fun hg=>by
 obtain⟨f,k,_⟩:=h
 rcases Nat.eq_zero_or_pos c with hc | hc
 ·rw [hl.zero hc]at hg;cases hg
 ·obtain⟨g,off,cur,_,q2,q3,_⟩:=hl.blk hc
  rw [q2]at hg
  simp at hg
  exact k.blk_ne q3 hg
theorem OAt.put{W w wa w3 w5:World}{L:HL}{h:HS}{s k:Nat}{t q mb:Nat}{Pg:Nat→Prop}{ac ac':List Int}(H0:Hr W L h s k)(a1:OAt W w L h s k t q mb Pg ac){A A':Option Addr}{c c' n n':Nat}{G G':List Nat}
  (b1:Blk w q 187 #[.slice A n c,.map (some mb)]) (b2:Lr w 3 A n c G (zv ac)) (b3:∀g,g∈G→W.heap.size≤g∧Pg g) (htq:t≠q) (hWq:W.heap.size≤q) (hWm:W.heap.size≤mb) (hPg:∀g,w.heap.size≤g→Pg g)
  (h0:Fr [] w wa) (hF:Fr G wa w3) (hl:Lr w3 3 A' n' c' G' (zv ac')) (hn:n'=ac'.length) (hg:∀g,g∈G'→g∈G∨wa.heap.size≤g) (hf5:Fr [mb] (w3.setCell ⟨q,0,none⟩ (.slice A' n' c')) w5) (hkn:KnownAt w5 mb ac'):OAt W w5 L h s k t q mb Pg ac':=by
 obtain⟨c9,h9⟩:=a1.hr.ar
 obtain⟨f,kf,_⟩:=a1.kn
 have hmG:mb∉G:=kn_far a1.kn b2
 have hqm:mb≠q:=kf.blk_ne b1
 have htm:mb≠t:=kf.blk_ne a1.res
 have hqG:q∉G:=b2.apart b1 (by decide)
 have hb3:=(b1.fr h0 (by simp)).fr hF hqG
 have hk3:=(a1.kn.fr h0 (by simp)).fr hF hmG
 have hmG':mb∉G':=kn_far hk3 hl
 have hqG':q∉G':=hl.apart hb3 (by decide)
 have hfs:Fr [q] w3 (w3.setCell ⟨q,0,none⟩ (.slice A' n' c')):=(Fr.refl _ _).setCell (p:=⟨q,0,none⟩) (.inl (by simp)) _
 have hfr:Fr [L.ab] W w5:=(((a1.fr.trans_nil h0).trans hF (fun g hg=>.inr (b3 g hg).1)).trans hfs (fun x hx=>.inr (by simp at hx;rw [hx];exact hWq))).trans hf5 (fun x hx=>.inr (by simp at hx;rw [hx];exact hWm))
 have ha:Ar w5 L.ab L.aw h.n h.f c9:=by
  have e1:=(h9.fr h0 (by simp) (by simp)).fr hF (b2.apart h9.set (by decide)) (b2.apart h9.row (by decide))
  have n1:q≠L.ab:=b1.apart h9.set (by decide)
  have n2:q≠L.aw:=b1.apart h9.row (by decide)
  have n3:mb≠L.ab:=kf.blk_ne h9.set
  have n4:mb≠L.aw:=kf.blk_ne h9.row
  exact(e1.fr hfs (by simp;exact n1.symm) (by simp;exact n2.symm)).fr hf5 (by simp;exact n3.symm) (by simp;exact n4.symm)
 refine⟨H0.fr1 hfr ⟨c9,ha⟩,hfr,(((a1.res.fr h0 (by simp)).fr hF (b2.apart a1.res (by decide))).fr hfs (by simpa using htq)).fr hf5 (by simpa using htm.symm),⟨A',c',G',?_,?_,fun g hg'=>?_⟩,hkn⟩
 ·have:=(hb3.put 0 (.slice A' n' c')).fr hf5 (by simpa using hqm.symm)
  rw [← hn]
  simpa using this
 ·rw [← hn]
  exact(hl.fr hfs (fun g hg' hx=>hqG' (by simp at hx;rw [← hx];exact hg'))).fr hf5 (fun g hg' hx=>hmG' (by simp at hx;rw [← hx];exact hg'))
 ·rcases hg g hg' with h1 | h1
  ·exact b3 g h1
  ·have h2:=h0.size
   exact⟨by have:=a1.fr.size;omega,hPg g (by omega)⟩
def ObjsP(w:World)(L:HL)(h:HS)(s k:Nat)(e:Ending)(w':World):Prop:=
 Hr w' L h s k∧Fr [L.ab] w w' ∧
 ((∃A c G mb,e=.returned (.tuple #[.agg #[.slice A h.objL.length c,.map (some mb)],.int .i64 0])∧(∀r,r<h.R→h.rowE (r:Int)=0)∧Lr w' 3 A h.objL.length c G (zv h.objL)∧KnownAt w' mb h.objL∧(∀g,g∈G→w.heap.size≤g)∧w.heap.size≤mb) ∨
 (∃r,r<h.R∧h.rowE (r:Int)≠0∧e=.returned (.tuple #[.agg #[.slice none 0 0,.map none],.int .i64 (h.rowE (r:Int))])))
theorem Blk.two{w:World}{g:Nat}{t:TypeId}{a b:Value}(h:Blk w g t #[a,b])(u0 u1:Value):Blk ((w.setCell ⟨g,0,none⟩ u0).setCell ⟨g,1,none⟩ u1) g t #[u0,u1]:=by
 have:=(h.put 0 u0).put 1 u1
 simpa using this
section
variable {w:World}{L:HL}{h:HS}{s k:Nat}
set_option maxHeartbeats 6400000 in
theorem hobjects_any(H:Hr w L h s k):Calls Tryz.prog 109 #[.pointer (some ⟨L.hb,0,none⟩)] w (ObjsP w L h s k):=by
 obtain⟨i0,hi,hz0,hz1,hz2⟩:=info_parts Tryz.info_int
 have HH:=hide H
 have HOK:=hide H.ok
 have hRb:h.R≤65536:=by have:=H.ok.geo.r65536;have:=H.ok.rg;omega
 have hnm:=H.ok.nmax
 have HQ:Hid (L.ab<w.heap.size∧L.aw<w.heap.size∧L.hb<w.heap.size):=by
  obtain⟨c,hc⟩:=H.ar
  exact⟨hc.set.lt,hc.row.lt,H.st.lt⟩
 have HGC:Hid (∀w',Hr w' L h s k→w'.cell? ⟨L.hb,17,none⟩=some (.int .i64 (h.R:Int))):=fun w' h'=>by rw [h'.geo.2.2.2.1,h'.ok.rg]
 have g3:=HGC.out w H
 have hmm:=@run_makeMap Tryz.prog
 have g4:(((w.alloc (.cells #[.slice none 0 0,.map none] 187)).alloc (.map #[] 0)).alloc (.cells #[.slice none 0 0,.map (some (w.heap.size+1))] 187)).cell? ⟨L.hb,17,none⟩=some (.int .i64 (h.R:Int)):=((((Fr.refl [] w).alloc _).alloc _).alloc _ |>.cell (p:=⟨L.hb,17,none⟩) HQ.out.2.2 (by simp)).trans g3
 have NH:=HQ.out.2.2
 have HRow:Hid (∀w' (r:Nat),Hr w' L h s k→r<h.R→Calls Tryz.prog 63 #[.pointer (some ⟨L.hb,0,none⟩),.int .i64 (r:Int)] w' (HrL w' L h s k (h.rowL (r:Int)) (h.rowE (r:Int)))):=fun w' r h' _=>hrow_any h' (r:Int)
 unfold HrL at HRow
 have HObj:Hid (∀w' (i:Nat),Hr w' L h s k→i<h.n→Calls Tryz.prog 114 #[.pointer (some ⟨L.hb,0,none⟩),.int .u64 ((i:Int)+1)] w' (HrP w' L h s k (.tuple #[(h.objV ((i:Int)+1)).val,.int .i64 (h.objE ((i:Int)+1))]))):=fun w' i h' hi=>hobject_any h' (by omega) (by omega)
 unfold HrP at HObj
 have HRM:Hid (∀(r:Nat) m,m<(h.rowL (r:Int)).length→∃i:Nat,(h.rowL (r:Int)).getD m 0=(i:Int)∧i<h.n):=fun r m hm=>rowL_mem HOK.out (a:=(r:Int)) (by simp [hm])
 have HRL:Hid (∀r:Nat,(h.rowL (r:Int)).length≤h.n):=fun r=>rowL_len HOK.out _
 have HRef:Hid (∀(i:Nat) w',i<h.n→Calls Tryz.prog 115 #[.int .i64 (i:Int)] w' fun e w''=>e=.returned (.int .u64 ((i:Int)+1))∧w'=w''):=fun i w' hi=>reference_any (by omega) w'
 clear H
 go_enter Tryz.func109,Tryz.ntmps109
 go_wp2_with fail
 have HO0:Hid (OAt w (((w.alloc (.cells #[.slice none 0 0,.map none] 187)).alloc (.map #[] 0)).alloc (.cells #[.slice none 0 0,.map (some (w.heap.size+1))] 187)) L h s k w.heap.size (w.heap.size+1+1) (w.heap.size+1) (fun _=>True) []):=by
  have f1:Fr [L.ab] w (((w.alloc (.cells #[.slice none 0 0,.map none] 187)).alloc (.map #[] 0)).alloc (.cells #[.slice none 0 0,.map (some (w.heap.size+1))] 187)):=(((Fr.refl _ _).alloc _).alloc _).alloc _
  refine⟨(((HH.out.fr0 ((Fr.refl _ _).alloc _)).fr0 ((Fr.refl _ _).alloc _)).fr0 ((Fr.refl _ _).alloc _)),f1,((Blk.new w 187 _).alloc _).alloc _,⟨none,0,[],Blk.new_at _ _ (by simp),Lr.nil _ _,(fun g hg=>by cases hg)⟩,(KnownAt.new (w.alloc (.cells #[.slice none 0 0,.map none] 187)) (by simp)).fr ((Fr.refl [] _).alloc _) (by simp)⟩
 clear g3 g4 hmm NH
 generalize ((w.alloc (.cells #[.slice none 0 0,.map none] 187)).alloc (.map #[] 0)).alloc (.cells #[.slice none 0 0,.map (some (w.heap.size+1))] 187)=w0 at *
 have HD:Hid (w.heap.size≤w.heap.size+1+1∧w.heap.size≤w.heap.size+1∧w.heap.size≠w.heap.size+1+1):=⟨by omega,by omega,by omega⟩
 obtain⟨q,hq⟩:∃q,q=w.heap.size+1+1:=⟨_,rfl⟩
 rw [← hq]at HO0 HD ⊢
 clear hq
 obtain⟨mb,hmb⟩:∃mb,mb=w.heap.size+1:=⟨_,rfl⟩
 rw [← hmb]at HO0 HD
 (try rw [← hmb])
 clear hmb
 obtain⟨t,ht⟩:∃t,t=w.heap.size:=⟨_,rfl⟩
 have HTW:Hid (w.heap.size≤t):=by rw [ht];exact Nat.le_refl _
 rw [← ht]at HO0 HD ⊢
 have HTE:=hide ht
 have HDW:Hid (w.heap.size≤q∧w.heap.size≤mb):=by have:=HD.out;rw [ht]at this;exact⟨this.1,this.2.1⟩
 clear ht
 go_loopw [19] (fun i wr=>∃j:Nat,i=.int .i64 j∧j≤h.R∧(∀m:Nat,m<j→h.rowE (m:Int)=0)∧OAt w wr L h s k t q mb (fun _=>True) ((List.range j).flatMap h.objsK)∧((List.range j).flatMap h.objsK).length≤j*4194304) (fun i _=>h.R-(intOf i).toNat)
 case atStart=>exact⟨0,rfl,Nat.zero_le _,(fun m hm=>absurd hm (by omega)),HO0.out,by simp⟩
 case round=>
  obtain⟨j,rfl,hj,hrw,ho,hlen⟩:=hrel
  obtain⟨wo,hwo⟩:∃wo,wo=wr:=⟨_,rfl⟩
  subst hwo
  have HRW:=hide hrw
  have HO:=hide ho
  have HLEN:=hide hlen
  clear hrw ho hlen HO0
  by_cases hlt:j<h.R
  ·have hlt1:(j:Int)<(h.R:Int):=by omega
   have HC:=hide (HRow.out wo j HO.out.hr hlt)
   have HL0:=HRL.out j
   have HM0:=hide (HRM.out j)
   have HFL:Hid ((List.range (j+1)).flatMap h.objsK=(List.range j).flatMap h.objsK++(h.rowL (j:Int)).filter h.isObj):=by
    show _=_
    rw [List.range_succ,List.flatMap_append]
    simp [HS.objsK]
   generalize (List.range j).flatMap h.objsK=acc at *
   by_cases hE:h.rowE (j:Int)=0
   ·rw [hE]at HC
    have HRW1:Hid (∀m:Nat,m<j+1→h.rowE (m:Int)=0):=fun m hm=>by
     rcases Nat.lt_or_ge m j with h3 | h3
     ·exact HRW.out m h3
     ·obtain rfl:m=j:=by omega
      exact hE
    generalize h.rowL (j:Int)=l at *
    clear hE
    go_wp2_with fail
    refine HC.out.mono ?_
    rintro e w1 ⟨A1,cap1,rfl,ho1,hH1,hf1⟩
    have HO1:Hid (OAt w w1 L h s k t q mb (fun g=>g<wo.heap.size∨w1.heap.size≤g) (acc++(l.take 0).filter h.isObj)):=by
     rw [List.take_zero,List.filter_nil,List.append_nil]
     exact(HO.out.weak (fun g hg _=>.inl hg)).look hH1 hf1
    have HOW:=hide ho1
    have HBW:Hid (L.ab<wo.heap.size∧q<wo.heap.size∧mb<wo.heap.size):=by
     obtain⟨A,c,G,b1,_⟩:=HO.out.own
     obtain⟨c9,h9⟩:=HO.out.hr.ar
     exact⟨h9.set.lt,b1.lt,HO.out.kn.lt⟩
    obtain⟨n,hn⟩:∃n,n=l.length:=⟨_,rfl⟩
    have HN:=hide hn
    rw [← hn]at HL0 ⊢
    clear ho1 hH1 hf1 hn HC
    go_wp2_with fail
    go_loopw [34] (fun i wr=>∃m:Nat,i=.int .i64 m∧m≤n∧OAt w wr L h s k t q mb (fun g=>g<wo.heap.size∨w1.heap.size≤g) (acc++(l.take m).filter h.isObj)∧Keep wo.heap.size w1 wr) (fun i _=>n-(intOf i).toNat)
    case atStart=>exact⟨0,rfl,Nat.zero_le _,HO1.out,Keep.refl _ _⟩
    case round=>
     obtain⟨m,rfl,hm,ho2,hk⟩:=hrel
     have HO2:=hide ho2
     have HK:=hide hk
     clear ho2 hk
     by_cases hltm:m<n
     ·have hltm1:(m:Int)<(n:Int):=by omega
      have hln:m<l.length:=by have:=HN.out;omega
      obtain⟨i,hgi,hin⟩:=HM0.out m hln
      obtain⟨b,off,rfl,hb0,hb1,hcl⟩:=(HK.out.own HOW.out) (by omega)
      have x0:wr.cell? ⟨b,off+m,none⟩=some (.int .i64 (i:Int)):=by rw [hcl m hln,hgi]
      have HR2:=hide (HRef.out i)
      have HC2:=hide (HObj.out wr i HO2.out.hr hin)
      have HTK:Hid ((l.take (m+1)).filter h.isObj=(l.take m).filter h.isObj++(if h.objE ((i:Int)+1)=0 then [(i:Int)] else [])):=by
       show _=_
       rw [take_getD hln,hgi,List.filter_append]
       congr 1
       by_cases e:h.objE ((i:Int)+1)=0
       ·rw [if_pos e];simp [HS.isObj,e]
       ·rw [if_neg e];simp [HS.isObj,e]
      have HLN:Hid ((acc++(l.take m).filter h.isObj).length≤274877906944+4194304):=by
       show _≤_
       have h1:=HLEN.out
       have h2:=List.length_filter_le h.isObj (l.take m)
       rw [List.length_take]at h2
       rw [List.length_append]
       have h3:j*4194304≤65536*4194304:=Nat.mul_le_mul_right _ (by omega)
       omega
      generalize h.objV ((i:Int)+1)=V at *
      obtain⟨v0,v1,v2,v3,v4⟩:=V
      unfold Hd.val at HC2
      simp only at HC2
      obtain⟨ac,hac⟩:∃ac,ac=acc++(l.take m).filter h.isObj:=⟨_,rfl⟩
      have HAC:Hid (acc++(l.take (m+1)).filter h.isObj=ac++(if h.objE ((i:Int)+1)=0 then [(i:Int)] else [])):=by
       show _=_
       rw [HTK.out,hac,List.append_assoc]
      rw [← hac]at HO2 HLN
      clear hcl hb0 hb1 hac HTK hgi
      by_cases hE2:h.objE ((i:Int)+1)=0
      ·rw [hE2]at HC2
       rw [if_pos hE2]at HAC
       clear hE2
       obtain⟨an,han⟩:∃an,an=ac.length:=⟨_,rfl⟩
       have HANE:=hide han
       have HNB:Hid (an+1≤maxLen∧(an+1)*8≤140737488355328):=by
        have:=HLN.out
        rw [← han]at this
        exact⟨by unfold maxLen;omega,by omega⟩
       have HAN1:Hid (an+1=(acc++(l.take (m+1)).filter h.isObj).length):=by
        show _=_
        rw [HAC.out,List.length_append,← han];rfl
       have HAN2:Hid (zv ac++[.int .i64 (i:Int)]=zv (acc++(l.take (m+1)).filter h.isObj)):=by
        show _=_
        rw [HAC.out,zv_app];rfl
       clear han
       go_wp2_with (first | (go_at_call 115;refine(HR2.out _ hin).mono ?_;rintro e w' ⟨rfl,rfl⟩) | (go_at_call 114;refine HC2.out.mono ?_;rintro e w2 ⟨rfl,hH2,hf2⟩;have ho3:=HO2.out.look hH2 hf2;have HK3:Hid (Keep wo.heap.size w1 w2):=HK.out.step hf2 (fun x hx=>.inl (by simp at hx;rw [hx];exact HBW.out.1));have HO3:=hide ho3;obtain⟨A,c,G,b1,b2,b3⟩:=ho3.own;rw [← HANE.out]at b1 b2;have y0:w2.cell? ⟨q,0,none⟩=some (.slice A an c):=b1.cell 0;have NQ:=b1.lt;have HB1:=hide b1;have HB2:=hide b2;have HB3:=hide b3;have HQG:Hid (q∉G∧mb∉G):=⟨b2.apart b1 (by decide),kn_far ho3.kn b2⟩;have HLA:Hid (Lr ((w2.alloc (.cells #[.int .i64 v0,.int .i64 v1,.int .i64 v2,.int .i64 v3,.int .i64 v4] 157)).alloc (.cells #[.int .i64 (i:Int)] 3)) 3 A an c G (zv ac)):=(b2.alloc _).alloc _;have HFZ:Hid (∀w',Fr G ((w2.alloc (.cells #[.int .i64 v0,.int .i64 v1,.int .i64 v2,.int .i64 v3,.int .i64 v4] 157)).alloc (.cells #[.int .i64 (i:Int)] 3)) w'→Blk w' q 187 #[.slice A an c,.map (some mb)]):=fun w' hf=>((b1.alloc _).alloc _).fr hf HQG.out.1;clear ho3 hH2 hf2 b1 b2 b3) | (at_builtin;refine wpList_append_lr rfl _ _ 31 rfl 3 i0 (.int .i64 0) 8 Tryz.underlying31 hi hz0 hz1 hz2 rfl rfl HLA.out rfl (by rfl) (fun _=>one_of (w2.alloc (.cells #[.int .i64 v0,.int .i64 v1,.int .i64 v2,.int .i64 v3,.int .i64 v4] 157)) (.int .i64 (i:Int)) 3 (by simp) _ (Fr.refl _ _)) (by intro u hu;simp at hu;subst hu;rfl) HNB.out.1 HNB.out.2 ?_;intro A' c' G' w3 HLn HFn HGn;have d0:=(HFZ.out _ HFn.out).cell 0;have dz:=(HFZ.out _ HFn.out).frozen 0;have NQ3:=(HFZ.out _ HFn.out).lt))
       have hb4:=HFZ.out _ HFn.out
       have y1:(w3.setCell ⟨q,0,none⟩ (.slice A' (an+1) c')).cell? ⟨q,1,none⟩=some (.map (some mb)):=by rw [(hb4.put 0 _).cell];rfl
       obtain⟨f,kf,kf2,kf3⟩:=HO3.out.kn
       have hk4:Mp Tryz.prog 90 (w3.setCell ⟨q,0,none⟩ (.slice A' (an+1) c')) mb f:=(((kf.fr0 ((Fr.refl _ _).alloc _)).fr0 ((Fr.refl _ _).alloc _)).fr HFn.out HQG.out.2).fr (F:=[q]) ((Fr.refl _ _).setCell (p:=⟨q,0,none⟩) (.inl (by simp)) _) (by simpa using kf.blk_ne HB1.out)
       have HK4:=hide hk4
       have HKF:=hide kf2
       have HKF3:=hide kf3
       have HKY:=hide (refKey ((i:Int)+1) (wf_u64_of ⟨by omega,by omega⟩))
       clear d0 dz hb4 kf kf2 kf3 hk4
       generalize hw4:w3.setCell ⟨q,0,none⟩ (.slice A' (an+1) c')=w4 at *
       have HW4:=hide hw4
       clear hw4
       obtain⟨w5,hrun5,hM5,hF5⟩:=(HK4.out.fr0 ((Fr.refl [] w4).drew)).update (val:=.agg #[]) Tryz.refLaw Tryz.underlying185 HKY.out
       have HM5:=hide hM5
       have HF5:=hide hF5
       clear hM5 hF5
       go_region_with (first | (go_at_call 115;refine(HR2.out _ hin).mono ?_;rintro e w' ⟨rfl,rfl⟩))
       all_goals
        have HO5:Hid (OAt w w5 L h s k t q mb (fun g=>g<wo.heap.size∨w1.heap.size≤g) (acc++(l.take (m+1)).filter h.isObj)):=by
         refine OAt.put HH.out HO3.out HB1.out HB2.out HB3.out HD.out.2.2 HDW.out.1 HDW.out.2 (fun g hg=>.inr ?_) (((Fr.refl [] w2).alloc _).alloc _) HFn.out (by rw [← HAN2.out];exact HLn.out) HAN1.out (fun g hg=>(HGn.out g hg).imp id (fun x=>by rw [x.1];exact Nat.le_refl _)) (by rw [HW4.out];exact HF5.out.from_drew) ?_
         ·have h5:=HK3.out
          obtain⟨F,k1,_⟩:=h5
          have:=k1.size
          omega
         ·rw [HAC.out]
          exact KnownAt.add HKF.out HKF3.out HM5.out
        have HK5:Hid (Keep wo.heap.size w1 w5):=by
         have k1:=HK3.out
         refine(((k1.step (((Fr.refl [] w2).alloc _).alloc _) (fun x hx=>by cases hx)).step HFn.out (fun x hx=>(HB3.out x hx).2)).step (G:=[q]) ((Fr.refl _ _).setCell (p:=⟨q,0,none⟩) (.inl (by simp)) (.slice A' (an+1) c')) (fun x hx=>.inl (by simp at hx;rw [hx];exact HBW.out.2.1))).step (G:=[mb]) (by rw [HW4.out];exact HF5.out.from_drew) (fun x hx=>.inl (by simp at hx;rw [hx];exact HBW.out.2.2))
        go_wp2_with fail
        exact⟨⟨m+1,by go_num,by omega,HO5.out,HK5.out⟩,by simp [intOf];omega⟩
      ·rw [if_neg hE2,List.append_nil]at HAC
       have hE3:(h.objE ((i:Int)+1)==0)=false:=by simpa using hE2
       generalize h.objE ((i:Int)+1)=E at *
       go_wp2_with (first | (go_at_call 115;refine(HR2.out _ hin).mono ?_;rintro e w' ⟨rfl,rfl⟩) | (go_at_call 114;refine HC2.out.mono ?_;rintro e w2 ⟨rfl,hH2,hf2⟩;have ho3:=HO2.out.look hH2 hf2;have HK3:Hid (Keep wo.heap.size w1 w2):=HK.out.step hf2 (fun x hx=>.inl (by simp at hx;rw [hx];exact HBW.out.1));have HO3:=hide ho3;clear ho3 hH2 hf2))
       go_roundw
       case rel=>exact⟨m+1,by go_num,by omega,by rw [HAC.out];exact HO3.out.look0 ((Fr.refl _ _).alloc _),HK3.out.step ((Fr.refl [] w2).alloc _) (fun x hx=>by cases hx)⟩
       case measure=>simp [intOf];omega
     ·obtain rfl:m=n:=by omega
      have HTL:Hid (l.take m=l):=by show _=_;rw [List.take_of_length_le];have:=HN.out;omega
      have HO6:Hid (OAt w wr L h s k t q mb (fun _=>True) ((List.range (j+1)).flatMap h.objsK)):=by
       rw [HFL.out]
       have:=HO2.out
       rw [HTL.out]at this
       exact this.weak (fun _ _ _=>trivial)
      have HL6:Hid (((List.range (j+1)).flatMap h.objsK).length≤(j+1)*4194304):=by
       show _≤_
       rw [HFL.out,List.length_append]
       have h1:=HLEN.out
       have h2:=List.length_filter_le h.isObj l
       have h3:=HN.out
       omega
      go_wp2_with fail
      go_roundw
      case rel=>exact⟨j+1,by go_num,by omega,HRW1.out,HO6.out,HL6.out⟩
      case measure=>simp [intOf];omega
   ·have HE0:Hid (h.rowE (j:Int)≠0):=hE
    have hE':(h.rowE (j:Int) !=0)=true:=by simpa using hE
    have HGG:Hid (∀w':World,ObjsP w L h s k (.returned (.tuple #[.agg #[.slice none 0 0,.map none],.int .i64 (h.rowE (j:Int))])) w'↔Hr w' L h s k∧Fr [L.ab] w w'):=fun w'=>⟨fun x=>⟨x.1,x.2.1⟩,fun x=>⟨x.1,x.2,.inr ⟨j,hlt,hE,rfl⟩⟩⟩
    generalize h.rowE (j:Int)=E at *
    generalize h.rowL (j:Int)=l at *
    clear hE
    go_wp2_with (go_at_call 63;refine HC.out.mono ?_;rintro e w1 ⟨A1,cap1,rfl,ho1,hH1,hf1⟩;have ho3:=HO.out.look hH1 hf1;have HO3:=hide ho3;have t0:w1.cell? ⟨t,0,none⟩=some (.slice none 0 0):=ho3.res.cell 0;have t1:w1.cell? ⟨t,1,none⟩=some (.map none):=ho3.res.cell 1;have z0:=ho3.res.frozen 0;have z1:=ho3.res.frozen 1;have NT:=ho3.res.lt;clear ho1 hH1 hf1 ho3)
    refine bodyPost_ret (v:=.tuple #[.agg #[.slice none 0 0,.map none],.int .i64 E]) (by simp [results,Tryz.results109,go_sem, *]) rfl ((HGG.out _).2 ?_)
    obtain⟨c9,h9⟩:=HO3.out.hr.ar
    have hfs:Fr [t] w1 ((w1.setCell ⟨t,0,none⟩ (.slice none 0 0)).setCell ⟨t,1,none⟩ (.map none)):=((Fr.refl _ _).setCell (p:=⟨t,0,none⟩) (.inl (by simp)) _).setCell (p:=⟨t,1,none⟩) (.inl (by simp)) _
    have hfw:=HO3.out.fr.trans hfs (fun x hx=>.inr (by simp at hx;rw [hx];exact HTW.out))
    exact⟨HH.out.fr1 hfw ⟨c9,h9.fr hfs (by simp;exact fun e=>HO3.out.res.apart h9.set (by decide) e.symm) (by simp;exact fun e=>HO3.out.res.apart h9.row (by decide) e.symm)⟩,hfw⟩
  ·obtain rfl:j=h.R:=by omega
   have ho3:=HO.out
   have hGG:∀(w':World) A c G,Hr w' L h s k→Fr [L.ab] w w'→Lr w' 3 A h.objL.length c G (zv h.objL)→KnownAt w' mb h.objL→(∀g,g∈G→w.heap.size≤g)→ObjsP w L h s k (.returned (.tuple #[.agg #[.slice A h.objL.length c,.map (some mb)],.int .i64 0])) w':=fun w' A c G e1 e2 e3 e4 e5=>⟨e1,e2,.inl ⟨A,c,G,mb,rfl,HRW.out,e3,e4,e5,HDW.out.2⟩⟩
   have HGG:=hide hGG
   have HOB:Hid ((List.range h.R).flatMap h.objsK=h.objL):=rfl
   rw [HOB.out]at ho3
   obtain⟨A,c,G,b1,b2,b3⟩:=ho3.own
   have q0:wo.cell? ⟨q,0,none⟩=some (.slice A h.objL.length c):=b1.cell 0
   have q1:wo.cell? ⟨q,1,none⟩=some (.map (some mb)):=b1.cell 1
   have t0:wo.cell? ⟨t,0,none⟩=some (.slice none 0 0):=ho3.res.cell 0
   have t1:wo.cell? ⟨t,1,none⟩=some (.map none):=ho3.res.cell 1
   have z0:=ho3.res.frozen 0
   have z1:=ho3.res.frozen 1
   have NT:=ho3.res.lt
   have HO3:=hide ho3
   have HB2:=hide b2
   have HB3:=hide b3
   clear b1 b2 b3 ho3 hGG
   obtain⟨ln,hln⟩:∃ln,ln=h.objL.length:=⟨_,rfl⟩
   rw [← hln]at q0 HB2 HGG
   clear hln
   go_wp2_with fail
   refine bodyPost_ret (v:=.tuple #[.agg #[.slice A ln c,.map (some mb)],.int .i64 0]) (by simp [results,Tryz.results109,go_sem, *]) rfl ?_
   obtain⟨c9,h9⟩:=HO3.out.hr.ar
   have hfs:Fr [t] wo ((wo.setCell ⟨t,0,none⟩ (.slice A ln c)).setCell ⟨t,1,none⟩ (.map (some mb))):=((Fr.refl _ _).setCell (p:=⟨t,0,none⟩) (.inl (by simp)) _).setCell (p:=⟨t,1,none⟩) (.inl (by simp)) _
   have hfw:=HO3.out.fr.trans hfs (fun x hx=>.inr (by simp at hx;rw [hx];exact HTW.out))
   obtain⟨f,kf,_⟩:=HO3.out.kn
   exact HGG.out _ _ _ _ (HH.out.fr1 hfw ⟨c9,h9.fr hfs (by simp;exact fun e=>HO3.out.res.apart h9.set (by decide) e.symm) (by simp;exact fun e=>HO3.out.res.apart h9.row (by decide) e.symm)⟩) hfw (HB2.out.fr hfs (fun g hg hx=>HB2.out.apart HO3.out.res (by decide) (by simp at hx;rw [← hx];exact hg))) (HO3.out.kn.fr hfs (by simp;exact kf.blk_ne HO3.out.res)) (fun g hg=>(HB3.out g hg).1)
end
end Go.Proofs.YteacgfeiedcdiaaGreatDoor
