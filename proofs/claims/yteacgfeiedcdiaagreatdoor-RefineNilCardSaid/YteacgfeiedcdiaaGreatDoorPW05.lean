/- Several texts joined (pack.py): Mp Ga. -/
import Derived.Test.YteacgfeiedcdiaaGreatDoorPW00
import Derived.Maps.RangeWalk
import Derived.Test.YteacgfeiedcdiaaGreatDoorPW04
import Derived.WalkKit
namespace Go.Gl
set_option linter.unusedVariables false
open Go.RowKit Go.ChangeMaps Go.MapKept
open Go.Maps (Keyed)
structure Ents(P:Program)(k:TypeId)(es:Array MapEntry)(clock:Nat)(f:Value→Option Value):Prop where
 st:Stamped es clock
 key:∀e∈es.toList,∃l,keyOf P k e.key=some l
 val:∀e∈es.toList,f e.key=some e.val
 ofF:∀x v,f x=some v→∃e∈es.toList,e.key=x∧e.val=v
def Mp(P:Program)(k:TypeId)(w:World)(b:Nat)(f:Value→Option Value):Prop:=∃es clock,w.heap[b]?=some (.map es clock)∧Ents P k es clock f
def Lost(w w':World)(b:Nat)(key:Value):Prop:=∀es clock,w.heap[b]?=some (.map es clock)→∃es',w'.heap[b]?=some (.map es' clock)∧es'.toList.Sublist es.toList∧∀x,x∈es'.toList↔x∈es.toList∧x.key≠key
open Classical in
noncomputable def upF (f:Value→Option Value) (key v:Value):Value→Option Value:=fun x=>if x=key then some v else f x
open Classical in
noncomputable def offF (f:Value→Option Value) (key:Value):Value→Option Value:=fun x=>if x=key then none else f x
theorem upF_at(f:Value→Option Value)(key v:Value):upF f key v key=some v:=by simp [upF]
theorem upF_ne(f:Value→Option Value){key x:Value}(v:Value)(h:x≠key):upF f key v x=f x:=by simp [upF,h]
theorem offF_at(f:Value→Option Value)(key:Value):offF f key key=none:=by simp [offF]
theorem offF_ne(f:Value→Option Value){key x:Value}(h:x≠key):offF f key x=f x:=by simp [offF,h]
theorem fr_setBlock(w:World)(b:Nat)(o:Obj):Fr [b] w (setBlock w b o):=
 ⟨rfl,rfl,rfl,by simp [setBlock],fun i _ hi=>by
  have:i≠b:=by simpa using hi
  simp only [setBlock,Array.getElem?_setIfInBounds]
  rw [if_neg (Ne.symm this)]⟩
section
variable {P:Program}{k:TypeId}{w w':World}{b:Nat}{f g:Value→Option Value}{F:List Nat}
theorem Mp.lt(h:Mp P k w b f):b<w.heap.size:=by
 obtain⟨es,clock,hb,_⟩:=h
 exact(Array.getElem?_eq_some_iff.1 hb).1
theorem Mp.fr(h:Mp P k w b f)(hf:Fr F w w')(hb:b∉F):Mp P k w' b f:=by
 have hl:=h.lt
 obtain⟨es,clock,hb',E⟩:=h
 exact⟨es,clock,(hf.block b hl hb).trans hb',E⟩
theorem Mp.fr0(h:Mp P k w b f)(hf:Fr [] w w'):Mp P k w' b f:=h.fr hf (by simp)
theorem Mp.blk_ne{c:Nat}{t:TypeId}{cs:Array Value}(h:Mp P k w b f)(hc:Blk w c t cs):b≠c:=by
 rintro rfl
 obtain⟨es,clock,hb,_⟩:=h
 unfold Blk at hc
 rw [hb]at hc
 cases hc
theorem Mp.congr(h:Mp P k w b f)(e:∀x,f x=g x):Mp P k w b g:=(funext e:f=g) ▸ h
theorem Mp.made(w:World):Mp P k (w.alloc (.map #[] 0)) w.heap.size (fun _=>none):=
 ⟨#[],0,heap_alloc_new w _,stamped_empty 0,by simp,by simp,by simp⟩
theorem Mp.look{t e:TypeId}{z key:Value}{kl:Lit}(h:Mp P k w b f)(K:Keyed P k)(ht:P.underlying t=some (.map k e))(hz:(zeroValue e).run P w=.ok z w)(hkey:keyOf P k key=some kl) :
  (Instr.lookup t (.map (some b)) key false).run P w=.ok ((f key).getD z) w:=by
 obtain⟨es,clock,hb,E⟩:=h
 rcases K.find w hkey es.toList E.key with⟨h1,h2⟩ | ⟨j,e0,h1,h2,h3⟩
 ·have:f key=none:=by
   cases hf:f key with
   | none=>rfl
   | some v=>obtain⟨x,hx,h5,_⟩:=E.ofF key v hf;exact absurd h5 (h2 x hx)
  simp [Instr.lookup,run_underlying ht,MapKept.run_getObj_map hb,K.check w _ hkey,h1,hz,Result.andThen,this]
 ·have:f key=some e0.val:=h3 ▸ E.val e0 (List.mem_of_getElem? h2)
  simp [Instr.lookup,run_underlying ht,MapKept.run_getObj_map hb,K.check w _ hkey,h1,Result.andThen,this]
theorem other_key'{es:Array MapEntry}{clock:Nat}(h:Stamped es clock){j i:Nat}{e0 x:MapEntry}(h0:es.toList[j]?=some e0)(hx:es.toList[i]?=some x)(hne:i≠j):x.key≠e0.key:=by
 have hp:=((stamped_iff es clock).1 h).2.2
 rw [List.pairwise_iff_getElem]at hp
 obtain⟨hj,rfl⟩:=List.getElem?_eq_some_iff.1 h0
 obtain⟨hi,rfl⟩:=List.getElem?_eq_some_iff.1 hx
 rcases Nat.lt_or_gt_of_ne hne with h1 | h1
 ·exact hp i j hi hj h1
 ·exact(hp j i hj hi h1).symm
theorem Mp.update{t e:TypeId}{key val:Value}{kl:Lit}(h:Mp P k w b f)(K:Keyed P k)(ht:P.underlying t=some (.map k e))(hkey:keyOf P k key=some kl) :
  ∃w',(Instr.mapUpdate t (.map (some b)) key val).run P w=.ok () w'∧Mp P k w' b (upF f key val)∧Fr [b] w w':=by
 obtain⟨es,clock,hb,E⟩:=h
 rcases K.find w hkey es.toList E.key with⟨h1,h2⟩ | ⟨j,e0,h1,h2,h3⟩
 ·refine⟨setBlock w b (.map (es.push ⟨key,val,clock⟩) (clock+1)),?_,⟨_,_,heap_setBlock_same hb _,stamped_push E.st h2,?_,?_,?_⟩,fr_setBlock _ _ _⟩
  ·simp [Instr.mapUpdate,run_underlying ht,MapKept.run_getObj_map hb,K.check w false hkey,h1,MapKept.run_setObj_map _ hb,Result.andThen,setBlock]
  ·intro x hx
   simp only [Array.toList_push,List.mem_append,List.mem_singleton]at hx
   rcases hx with hx | rfl
   ·exact E.key x hx
   ·exact⟨_,hkey⟩
  ·intro x hx
   simp only [Array.toList_push,List.mem_append,List.mem_singleton]at hx
   rcases hx with hx | rfl
   ·rw [upF_ne _ _ (h2 x hx)];exact E.val x hx
   ·exact upF_at _ _ _
  ·intro x v hx
   by_cases e:x=key
   ·subst e
    rw [upF_at]at hx
    cases hx
    exact⟨⟨x,val,clock⟩,by simp,rfl,rfl⟩
   ·rw [upF_ne _ _ e]at hx
    obtain⟨y,hy,h5,h6⟩:=E.ofF x v hx
    exact⟨y,by simp at hy ⊢;exact .inl hy,h5,h6⟩
 ·have hj:es[j]?=some e0:=by simpa using h2
  have hlist:(es.modify j (fun e'=>{ e' with key:=key,val:=val })).toList=es.toList.set j { e0 with key:=key,val:=val }:=by rw [Array.toList_modify,modify_eq_set _ _ _ _ h2]
  have hjl:j<es.toList.length:=(List.getElem?_eq_some_iff.1 h2).1
  have who:∀x∈es.toList.set j { e0 with key:=key,val:=val },x={ e0 with key:=key,val:=val }∨(x∈es.toList∧x.key≠key):=by
   intro x hx
   obtain⟨i,hi,ex⟩:=List.getElem_of_mem hx
   rw [List.getElem_set]at ex
   split at ex
   ·exact .inl ex.symm
   ·rename_i hne
    have hi':i<es.toList.length:=by simpa using hi
    refine .inr ⟨ex ▸ List.getElem_mem hi',?_⟩
    rw [← h3]
    exact other_key' E.st h2 (by rw [List.getElem?_eq_getElem hi',ex]) (fun e1=>hne e1.symm)
  refine⟨setBlock w b (.map (es.modify j (fun e'=>{ e' with key:=key,val:=val })) clock),?_,⟨_,_,heap_setBlock_same hb _,stamped_modify E.st _ _ (fun _ _=>rfl) (fun e' _ he'=>by rw [hj]at he';cases he';exact h3.symm),?_,?_,?_⟩,fr_setBlock _ _ _⟩
  ·simp [Instr.mapUpdate,run_underlying ht,MapKept.run_getObj_map hb,K.check w false hkey,h1,hj,h3,K.stays w hkey,MapKept.run_setObj_map _ hb,Result.andThen,setBlock]
  ·intro x hx
   rw [hlist]at hx
   rcases who x hx with rfl | ⟨hx',_⟩
   ·exact⟨_,hkey⟩
   ·exact E.key x hx'
  ·intro x hx
   rw [hlist]at hx
   rcases who x hx with rfl | ⟨hx',hne⟩
   ·exact upF_at _ _ _
   ·rw [upF_ne _ _ hne];exact E.val x hx'
  ·intro x v hx
   rw [hlist]
   by_cases e:x=key
   ·subst e
    rw [upF_at]at hx
    cases hx
    exact⟨{ e0 with key:=x,val:=val },List.mem_iff_getElem.2 ⟨j,by simpa using hjl,by simp⟩,rfl,rfl⟩
   ·rw [upF_ne _ _ e]at hx
    obtain⟨y,hy,h5,h6⟩:=E.ofF x v hx
    obtain⟨i,hi⟩:=List.getElem?_of_mem hy
    have hne:j≠i:=by
     rintro rfl
     rw [h2]at hi
     cases hi
     exact e (h5.symm.trans h3)
    exact⟨y,List.mem_of_getElem? (by rw [List.getElem?_set_ne hne];exact hi),h5,h6⟩
theorem Mp.drop{t e:TypeId}{key:Value}{kl:Lit}(h:Mp P k w b f)(K:Keyed P k)(ht:P.underlying t=some (.map k e))(hkey:keyOf P k key=some kl)(ty:TypeId) :
  ∃w',(Builtin.delete_ #[t,k] ty #[.map (some b),key]).run P w=.ok (.tuple #[]) w'∧Mp P k w' b (offF f key)∧Fr [b] w w'∧Lost w w' b key:=by
 obtain⟨es,clock,hb,E⟩:=h
 have main:∃es':Array MapEntry,(Builtin.delete_ #[t,k] ty #[.map (some b),key]).run P w=.ok (.tuple #[]) (setBlock w b (.map es' clock))∧Stamped es' clock∧es'.toList.Sublist es.toList∧∀x,x∈es'.toList↔x∈es.toList∧x.key≠key:=by
  rcases K.find w hkey es.toList E.key with⟨h1,h2⟩ | ⟨j,e0,h1,h2,h3⟩
  ·refine⟨es,?_,E.st,List.Sublist.refl _,fun x=>⟨fun hx=>⟨hx,h2 x hx⟩,fun hx=>hx.1⟩⟩
   simp [Builtin.delete_,run_underlying ht,MapKept.run_getObj_map hb,K.check w _ hkey,h1,MapKept.run_setObj_map _ hb,Result.andThen,setBlock]
  ·have hjl:j<es.toList.length:=(List.getElem?_eq_some_iff.1 h2).1
   have hjs:j<es.size:=by simpa using hjl
   have hsub:(es.eraseIdxIfInBounds j).toList=es.toList.eraseIdx j:=by
    unfold Array.eraseIdxIfInBounds
    rw [dif_pos hjs]
    simp
   refine⟨es.eraseIdxIfInBounds j,?_,stamped_erase E.st j,by rw [hsub];exact List.eraseIdx_sublist _ _,fun x=>?_⟩
   ·simp [Builtin.delete_,run_underlying ht,MapKept.run_getObj_map hb,K.check w _ hkey,h1,MapKept.run_setObj_map _ hb,Result.andThen,setBlock]
   ·rw [hsub,List.mem_eraseIdx_iff_getElem?]
    constructor
    ·rintro⟨i,hne,hi⟩
     exact⟨List.mem_of_getElem? hi,by rw [← h3];exact other_key' E.st h2 hi hne⟩
    ·rintro⟨hx,hne⟩
     obtain⟨i,hi⟩:=List.getElem?_of_mem hx
     refine⟨i,fun e1=>hne ?_,hi⟩
     rw [e1,h2]at hi
     cases hi
     exact h3
 obtain⟨es',hrun,hst,hsub,hwho⟩:=main
 refine⟨_,hrun,⟨es',clock,heap_setBlock_same hb _,hst,fun x hx=>E.key x ((hwho x).1 hx).1,fun x hx=>?_,fun x v hx=>?_⟩,fr_setBlock _ _ _,fun es0 clock0 h0=>?_⟩
 ·obtain⟨h1,h2⟩:=(hwho x).1 hx
  rw [offF_ne _ h2];exact E.val x h1
 ·by_cases e:x=key
  ·subst e;rw [offF_at]at hx;cases hx
  ·rw [offF_ne _ e]at hx
   obtain⟨y,hy,h5,h6⟩:=E.ofF x v hx
   exact⟨y,(hwho y).2 ⟨hy,by rw [h5];exact e⟩,h5,h6⟩
 ·rw [hb]at h0
  cases h0
  exact⟨es',heap_setBlock_same hb _,hsub,hwho⟩
theorem Lost.fr{key:Value}{w0:World}(h:Lost w0 w b key)(hl:b<w.heap.size)(hf:Fr F w w')(hb:b∉F):Lost w0 w' b key:=fun es clock h0=>by
 obtain⟨es',h1,h2⟩:=h es clock h0
 exact⟨es',(hf.block b hl hb).trans h1,h2⟩
theorem Lost.before{key:Value}{w0:World}(h:Lost w w' b key)(hl:b<w0.heap.size)(hf:Fr F w0 w)(hb:b∉F):Lost w0 w' b key:=fun es clock h0=>h es clock ((hf.block b hl hb).trans h0)
def Rng(P:Program)(k:TypeId)(w:World)(b r:Nat)(f:Value→Option Value)(left:Value→Prop)(cnt:Nat):Prop:=
 ∃es clock since seen c0,w.heap[b]?=some (.map es clock)∧Ents P k es clock f∧w.heap[r]?=some (.mapIter (some b) since seen c0)∧(∀x∈es.toList,x.born<since)∧since≤c0∧since≤clock ∧
  (leftOf es seen).size=cnt∧∀x∈es.toList,left x.key↔seen.contains x.born=false
def rngLeft(w:World)(b r:Nat):Nat:=
 match w.heap[b]?,w.heap[r]? with
 | some (.map es _),some (.mapIter _ _ seen _)=>(leftOf es seen).size
 | _,_=>0
variable {r cnt:Nat}{left:Value→Prop}
theorem Rng.mp(h:Rng P k w b r f left cnt):Mp P k w b f:=by
 obtain⟨es,clock,_,_,_,hb,E,_⟩:=h
 exact⟨es,clock,hb,E⟩
theorem Rng.left_eq(h:Rng P k w b r f left cnt):rngLeft w b r=cnt:=by
 obtain⟨es,clock,since,seen,c0,hb,_,hr,_,_,_,hc,_⟩:=h
 simp only [rngLeft,hb,hr]
 exact hc
theorem Rng.lt(h:Rng P k w b r f left cnt):r<w.heap.size:=by
 obtain⟨es,clock,since,seen,c0,_,_,hr,_⟩:=h
 exact(Array.getElem?_eq_some_iff.1 hr).1
theorem Mp.range{t e:TypeId}(h:Mp P k w b f)(ht:P.underlying t=some (.map k e)) :
  ∃w' cnt,(Instr.range t (.map (some b))).run P w=.ok (.pointer (some ⟨w.heap.size,0,none⟩)) w'∧Rng P k w' b w.heap.size f (fun _=>True) cnt∧Fr [] w w'∧w'.heap.size=w.heap.size+1:=by
 have hl:=h.lt
 obtain⟨es,clock,hb,E⟩:=h
 exact⟨_,_,run_range_map w t k e b es clock ht hb,⟨es,clock,clock,#[],clock,((MapKept.heap_alloc w _).2 b hl).trans hb,E,(MapKept.heap_alloc w _).1,E.st.1,Nat.le_refl _,Nat.le_refl _,rfl,fun x hx=>by simp⟩,(Fr.refl _ _).alloc _,by simp⟩
theorem Rng.next(h:Rng P k w b r f left cnt)(ty:TypeId) :
  (cnt=0∧(∀x v,f x=some v→¬ left x)∧(Instr.next (.pointer (some ⟨r,0,none⟩)) false ty).run P w=.ok (.tuple #[.bool false]) w) ∨
  ∃key v w' cnt',f key=some v∧left key∧(Instr.next (.pointer (some ⟨r,0,none⟩)) false ty).run P w=.ok (.tuple #[.bool true,key,v]) w'∧Rng P k w' b r f (fun x=>left x∧x≠key) cnt'∧cnt'<cnt∧Fr [r] w w'∧w'.heap.size=w.heap.size ∧
   (Instr.entry (.pointer (some ⟨r,0,none⟩))).run P w'=.ok (.tuple #[key,v]) w':=by
 obtain⟨es,clock,since,seen,c0,hb,E,hr,hold,hsc,hsk,rfl,hl⟩:=h
 have hne:r≠b:=by
  rintro rfl
  rw [hb]at hr
  cases hr
 rcases run_next_at (P:=P) w ty r b since c0 seen es clock hr hb hold hsc with⟨h0,hrun⟩ | ⟨e,he,w1,hal,hrun⟩
 ·refine .inl ⟨h0,fun x v hx hlx=>?_,hrun⟩
  obtain⟨y,hy,rfl,_⟩:=E.ofF x v hx
  have:=all_seen es seen h0 y hy
  rw [(hl y hy).1 hlx]at this
  cases this
 ·obtain⟨hem,hes⟩:=mem_left he
  have hr1:w1.heap[r]?=some (.mapIter (some b) since seen c0):=by rcases hal with rfl | rfl <;> exact hr
  have hb1:w1.heap[b]?=some (.map es clock):=by rcases hal with rfl | rfl <;> exact hb
  have hset:=MapKept.heap_set (o':=.mapIter (some b) since (seen.push e.born) clock) hr1
  have hb':(setBlock w1 r (.mapIter (some b) since (seen.push e.born) clock)).heap[b]?=some (.map es clock):=(hset.2 b (fun e1=>hne e1.symm)).trans hb1
  refine .inr ⟨e.key,e.val,_,_,E.val e hem,(hl e hem).2 hes,hrun,⟨es,clock,since,seen.push e.born,clock,hb',E,hset.1,hold,hsk,hsk,rfl,fun x hx=>?_⟩,left_shrinks es seen e he,?_,?_,
   run_entry_at _ r b since seen es clock e hset.1 hb' hem ((stamped_iff es clock).1 E.st).2.1⟩
  ·rw [contains_push,Bool.or_eq_false_iff,← hl x hx]
   refine and_congr_right fun _=>?_
   constructor
   ·intro h1
    rw [beq_eq_false_iff_ne]
    exact fun h2=>h1 (congrArg MapEntry.key (born_inj ((stamped_iff es clock).1 E.st).2.1 hx hem h2))
   ·intro h1 h2
    rw [beq_eq_false_iff_ne]at h1
    exact h1 (congrArg MapEntry.born (entry_eq_of_key ((stamped_iff es clock).1 E.st).2.2 hx hem h2))
  ·rcases hal with rfl | rfl
   ·exact fr_setBlock _ _ _
   ·exact((Fr.refl [r] w).drew).trans_same (fr_setBlock _ _ _)
  ·rcases hal with rfl | rfl <;> simp [setBlock]
theorem Rng.lost{key:Value}(h:Rng P k w b r f left cnt)(hL:Lost w w' b key)(hM:Mp P k w' b g)(hf:Fr F w w')(hr:r∉F):∃cnt',Rng P k w' b r g left cnt'∧cnt'≤cnt:=by
 obtain⟨es,clock,since,seen,c0,hb,E,hrr,hold,hsc,hsk,rfl,hl⟩:=h
 obtain⟨es',hb',hsub,hwho⟩:=hL es clock hb
 obtain⟨es2,clock2,hb2,E2⟩:=hM
 rw [hb']at hb2
 cases hb2
 refine⟨_,⟨es',clock,since,seen,c0,hb',E2,(hf.block r (Array.getElem?_eq_some_iff.1 hrr).1 hr).trans hrr,fun x hx=>hold x ((hwho x).1 hx).1,hsc,hsk,rfl,fun x hx=>hl x ((hwho x).1 hx).1⟩,?_⟩
 have e1:∀a:Array MapEntry,(leftOf a seen).size=(a.toList.filter fun e=>!seen.contains e.born).length:=fun a=>by
  unfold leftOf
  rw [← Array.toList_filter,Array.length_toList]
 rw [e1,e1]
 exact(hsub.filter _).length_le
end
section
variable {P:Program}{k:TypeId}{w w0:World}{b:Nat}{f:Value→Option Value}{ops:Array Oper}{o:Oper}{a:Act}{K:Act→World→Prop}{Q:Exit→Act→World→Prop}
theorem wp_update(m x y:Operand)(t:TypeId)(hop:o.op=Op.mapUpdate t m x y){e:TypeId}(Ky:Keyed P k)(ht:P.underlying t=some (.map k e))
  (h:Mp P k w0 b f) (hf:Fr [] w0 w) (hm:a.eval m=.map (some b)) {key v:Value} {kl:Lit} (hx:a.eval x=key) (hkey:keyOf P k key=some kl) (hy:a.eval y=v)
  (hK:∀w',Hid (Mp P k w' b (upF f key v))→Hid (Fr [b] w w')→K (a.put o.dst undef) w'):Oper.wp P o a w K Q:=by
 obtain⟨w',hrun,r1,r2⟩:=(h.fr0 hf).update (val:=v) Ky ht hkey
 unfold Oper.wp
 simp [execOp,hop,hm,hx,hy,hrun,Result.andThen]
 exact hK w' r1 r2
theorem wp_drop(m x:Operand)(t:TypeId)(hop:o.op=.call { callee:=.builtin .delete,args:=#[m,x],argTypes:=#[t,k] }){e:TypeId}(Ky:Keyed P k)(ht:P.underlying t=some (.map k e))
  (h:Mp P k w0 b f) (hf:Fr [] w0 w) (hm:a.eval m=.map (some b)) {key:Value} {kl:Lit} (hx:a.eval x=key) (hkey:keyOf P k key=some kl)
  (hK:∀w',Hid (Mp P k w' b (offF f key))→Hid (Fr [b] w w')→Hid (Lost w w' b key)→K (a.put o.dst (.tuple #[])) w'):Oper.wp P o a w K Q:=by
 obtain⟨w',hrun,r1,r2,r3⟩:=(h.fr0 hf).drop Ky ht hkey o.type
 unfold Oper.wp
 simp [execOp,hop,resolve,invoke,builtin,hm,hx,hrun,Result.andThen]
 exact hK w' r1 r2 r3
theorem wp_drop_nil(m x:Operand)(t:TypeId)(hop:o.op=.call { callee:=.builtin .delete,args:=#[m,x],argTypes:=#[t,k] }){e:TypeId}(Ky:Keyed P k)(ht:P.underlying t=some (.map k e))
  (hm:a.eval m=.map none) {key:Value} {kl:Lit} (hx:a.eval x=key) (hkey:keyOf P k key=some kl)
  (hK:K (a.put o.dst (.tuple #[])) w):Oper.wp P o a w K Q:=by
 have hrun:=Maps.drop_nil (w:=w) Ky ht hkey o.type
 unfold Oper.wp
 simp [execOp,hop,resolve,invoke,builtin,hm,hx,hrun,Result.andThen]
 exact hK
theorem wp_next{r cnt:Nat}{left:Value→Prop}(it:Operand)(hop:o.op=Op.next it false)(hit:a.eval it=.pointer (some ⟨r,0,none⟩))(h:Rng P k w b r f left cnt)
  (hDone:cnt=0→Hid (∀x v,f x=some v→¬ left x)→K (a.put o.dst (.tuple #[.bool false])) w)
  (hMore:∀key v w' cnt',Hid (f key=some v)→Hid (left key)→Hid (Rng P k w' b r f (fun x=>left x∧x≠key) cnt')→Hid (cnt'<cnt)→Hid (Fr [r] w w')→(Instr.entry (.pointer (some ⟨r,0,none⟩))).run P w'=.ok (.tuple #[key,v]) w'→K (a.put o.dst (.tuple #[.bool true,key,v])) w'):Oper.wp P o a w K Q:=by
 unfold Oper.wp
 rcases h.next o.type with⟨h0,hl,hrun⟩ | ⟨key,v,w',cnt',hf,hlk,hrun,hrg,hlt,hgr,hsz,hen⟩
 ·simp [execOp,hop,hit,hrun,Result.andThen]
  exact hDone h0 hl
 ·simp [execOp,hop,hit,hrun,Result.andThen]
  exact hMore key v w' cnt' hf hlk hrg hlt hgr hen
theorem wp_range(m:Operand)(t:TypeId)(hop:o.op=Op.range t m){e:TypeId}(ht:P.underlying t=some (.map k e))(hm:a.eval m=.map (some b))(h:Mp P k w b f)
  (hK:∀w' cnt,Hid (Rng P k w' b w.heap.size f (fun _=>True) cnt)→Hid (Fr [] w w')→K (a.put o.dst (.pointer (some ⟨w.heap.size,0,none⟩))) w'):Oper.wp P o a w K Q:=by
 obtain⟨w',cnt,hrun,r1,r2,_⟩:=h.range ht
 unfold Oper.wp
 simp [execOp,hop,hm,hrun,Result.andThen]
 exact hK w' cnt r1 r2
theorem list_of{rest:List Oper}(hg:o.guard=none)(h:∀K:Act→World→Prop,(∀a' w',wpList P ops Q rest a' w'→K a' w')→Oper.wp P o a w K Q):wpList P ops Q (o::rest) a w:=wpList_plain hg h
end
open Go.RowKit
def rows2(f g:Nat→Value)(n:Nat):List Value:=(List.range n).flatMap fun i=>[f i,g i]
theorem rows2_succ(f g:Nat→Value)(n:Nat):rows2 f g (n+1)=rows2 f g n++[f n,g n]:=by
 unfold rows2
 rw [List.range_succ,List.flatMap_append]
 simp
theorem rows2_len(f g:Nat→Value):∀n,(rows2 f g n).length=n*2
 | 0=>rfl
 | n+1=>by rw [rows2_succ,List.length_append,rows2_len f g n];simp;omega
theorem rows2_at(f g:Nat→Value):∀ {n i:Nat},i<n→(rows2 f g n)[i*2]?=some (f i)∧(rows2 f g n)[i*2+1]?=some (g i)
 | n+1,i,h=>by
  rw [rows2_succ]
  have hl:=rows2_len f g n
  rcases Nat.lt_or_ge i n with h1 | h1
  ·obtain⟨a,b⟩:=rows2_at f g h1
   exact⟨by rw [List.getElem?_append_left (by omega)];exact a,by rw [List.getElem?_append_left (by omega)];exact b⟩
  ·obtain rfl:i=n:=by omega
   refine⟨?_,?_⟩
   ·rw [List.getElem?_append_right (by omega),hl,Nat.sub_self];rfl
   ·rw [List.getElem?_append_right (by omega),hl,show i*2+1-i*2=1 by omega];rfl
theorem rows2_congr{f g f' g':Nat→Value}:∀ {n:Nat},(∀i,i<n→f i=f' i∧g i=g' i)→rows2 f g n=rows2 f' g' n
 | 0,_=>rfl
 | n+1,h=>by
  rw [rows2_succ,rows2_succ,rows2_congr (fun i hi=>h i (by omega)),(h n (by omega)).1,(h n (by omega)).2]
def R2(w:World)(e:TypeId)(v:Value)(n:Nat)(f g:Nat→Value):Prop:=w.ownsRow 0 e 2 v n (rows2 f g n)
section
variable {w w':World}{e:TypeId}{v:Value}{n:Nat}{f g:Nat→Value}{F:List Nat}
theorem R2.nil(w:World)(e:TypeId)(f g:Nat→Value):R2 w e (.slice none 0 0) 0 f g:=World.ownsRow_nil _ _ _ _
theorem R2.fr(h:R2 w e v n f g)(hf:Fr F w w')(hg:∀b,v.ownBlock=some b→b∉F):R2 w' e v n f g:=own_fr h hf hg
theorem R2.lt(h:R2 w e v n f g){b:Nat}(hb:v.ownBlock=some b):b<w.heap.size:=by
 rcases h.2 with⟨rfl,_⟩ | ⟨g',cap,cur,rfl,_,hh,_⟩
 ·cases hb
 ·injection hb with hb
  exact hb ▸ Blk.lt (t:=e) hh
theorem R2.form(h:R2 w e v n f g):∃A c,v=.slice A n c∧n≤maxLen:=by
 rcases h.2 with⟨h1,h2⟩ | ⟨b,cap,cur,h1,_,_,h3,h4,_⟩
 ·exact⟨none,0,by rw [h1,h2],by rw [h2];exact Nat.zero_le _⟩
 ·exact⟨_,_,h1,Nat.le_trans h3 h4⟩
theorem R2.pos(h:R2 w e v n f g)(hn:0<n):∃b c,v=.slice (some ⟨b,0,none⟩) n c∧b<w.heap.size∧(∀k,w.frozen? ⟨b,k,none⟩=false) ∧
  ∀i,i<n→w.cell? ⟨b,i*2,none⟩=some (f i)∧w.cell? ⟨b,i*2+1,none⟩=some (g i):=by
 rcases h.2 with⟨h1,h2⟩ | ⟨b,cap,cur,h1,_,hb,h3,h4,h5,h6⟩
 ·exact absurd h2 (by omega)
 ·have hb:Blk w b e cur:=hb
  refine⟨b,cap,h1,hb.lt,fun k=>hb.frozen k,fun i hi=>?_⟩
  have key:∀j,j<n*2→cur[j]?=(rows2 f g n)[j]?:=fun j hj=>by
   rw [← h6,List.getElem?_take_of_lt hj,Array.getElem?_toList]
  rw [hb.cell,hb.cell,key _ (by omega),key _ (by omega)]
  exact rows2_at f g hi
theorem R2.congr{f' g':Nat→Value}(h:R2 w e v n f g)(hc:∀i,i<n→f i=f' i∧g i=g' i):R2 w e v n f' g':=by
 unfold R2
 rw [← rows2_congr hc]
 exact h
end
abbrev TG:=Nat→Nat×Int
def GTgOk(w:World)(tg:TG):Prop:=∀b,(tg b).1≠0→b<w.heap.size
def GTgUp(w:World)(tg tg':TG):Prop:=∀b,b<w.heap.size→tg' b=tg b
theorem GTgUp.refl(w:World)(tg:TG):GTgUp w tg tg:=fun _ _=>rfl
structure GFr(w:World)(tg:TG)(w':World)(tg':TG):Prop where
 fr:∃F,Fr F w w'∧∀x,x∈F→(tg x).1≠0
 up:GTgUp w tg tg'
section
variable {w w' w'':World}{tg tg' tg'':TG}{F:List Nat}
theorem GFr.refl(w:World)(tg:TG):GFr w tg w tg:=⟨⟨[],Fr.refl _ _,fun _ h=>by cases h⟩,GTgUp.refl _ _⟩
theorem GFr.of(hf:Fr F w w')(hF:∀x,x∈F→(tg x).1≠0):GFr w tg w' tg:=⟨⟨F,hf,hF⟩,GTgUp.refl _ _⟩
theorem GFr.fr0(hf:Fr [] w w'):GFr w tg w' tg:=GFr.of hf (fun _ h=>by cases h)
theorem GFr.size(h:GFr w tg w' tg'):w.heap.size≤w'.heap.size:=by
 obtain⟨F,h1,_⟩:=h.fr
 exact h1.size
theorem GFr.trans(h:GFr w tg w' tg')(k:GFr w' tg' w'' tg''):GFr w tg w'' tg'':=by
 obtain⟨F,h1,h2⟩:=h.fr
 obtain⟨G,k1,k2⟩:=k.fr
 have hs:=h1.size
 refine⟨⟨F++G.filter (fun x=>decide (x<w.heap.size)),(h1.mono (fun x hx=>.inl (by simp [hx]))).trans k1 (fun x hx=>?_),fun x hx=>?_⟩,fun b hb=>(k.up b (by omega)).trans (h.up b hb)⟩
 ·rcases Nat.lt_or_ge x w.heap.size with h3 | h3
  ·exact .inl (by simp [hx,h3])
  ·exact .inr h3
 ·rcases List.mem_append.1 hx with h3 | h3
  ·exact h2 x h3
  ·rw [List.mem_filter]at h3
   have h4:x<w.heap.size:=by simpa using h3.2
   rw [← h.up x h4]
   exact k2 x h3.1
theorem GFr.blk(h:GFr w tg w' tg'){g:Nat}{t:TypeId}{cs:Array Value}(hb:Blk w g t cs)(hg:(tg g).1=0):Blk w' g t cs:=by
 obtain⟨F,h1,h2⟩:=h.fr
 exact hb.fr h1 (fun hx=>h2 g hx hg)
theorem GFr.cell(h:GFr w tg w' tg'){p:Addr}(hp:p.block<w.heap.size)(hg:(tg p.block).1=0):w'.cell? p=w.cell? p:=by
 obtain⟨F,h1,h2⟩:=h.fr
 exact h1.cell hp (fun hx=>h2 _ hx hg)
theorem GFr.new{W:World}(hw:Fr [] W w)(ht:∀b,(tg b).1≠0→W.heap.size≤b)(k:GFr w tg w' tg'):∀b,(tg' b).1≠0→W.heap.size≤b:=fun b hb=>by
 rcases Nat.lt_or_ge b w.heap.size with h1 | h1
 ·rw [k.up b h1]at hb
  exact ht b hb
 ·exact Nat.le_trans hw.size h1
end
end Go.Gl
namespace Go.Proofs.YteacgfeiedcdiaaGreatDoor
set_option linter.unusedVariables false
open Go.RowKit Go.Gl
open Go.Maps (Keyed)
theorem Tryz.intLawG:Keyed Tryz.prog 3:=Maps.int_keyed Tryz.underlying3
theorem Tryz.refLaw:Keyed Tryz.prog 90:=Maps.int_keyed Tryz.underlying90
theorem intKeyG(a:Int)(wa:(Lit.int .i64 a).wf=true):keyOf Tryz.prog 3 (.int .i64 a)=some (.int .i64 a):=Maps.keyOf_int_mk Tryz.underlying3 wa
theorem refKey(a:Int)(wa:(Lit.int .u64 a).wf=true):keyOf Tryz.prog 90 (.int .u64 a)=some (.int .u64 a):=Maps.keyOf_int_mk Tryz.underlying90 wa
theorem wf_i64_of{n:Int}(h:-9223372036854775808≤n∧n≤9223372036854775807):(Lit.int .i64 n).wf=true:=by
 simpa [Lit.wf,IntKind.min,IntKind.max,IntKind.signed,IntKind.bits] using h
theorem wf_u64_of{n:Int}(h:0≤n∧n<18446744073709551616):(Lit.int .u64 n).wf=true:=by
 have:0≤n∧n≤18446744073709551615:=by omega
 simpa [Lit.wf,IntKind.min,IntKind.max,IntKind.signed,IntKind.bits] using this
def ptrV(ob:Int→Nat)(r:Int):Value:=if r=0 then .pointer none else .pointer (some ⟨ob r,0,none⟩)
end Go.Proofs.YteacgfeiedcdiaaGreatDoor
