/- Several texts joined (pack.py): Un Ha Up Zk. -/
import Derived.Test.YtfcjdinlcehpmaaGreatDoorPW16
import Derived.WalkKit
import Derived.BigQuiet
import Derived.Test.YtfcjdinlcehpmaaGreatDoorPW05
import Derived.Test.YtfcjdinlcehpmaaGreatDoorPW04
import Derived.Deep.OwnRows
import Derived.Deep.CutRange
import Derived.Deep.RegionHeld3
import Derived.Test.YtfcjdinlcehpmaaGreatDoorPW28
import Derived.Test.YtfcjdinlcehpmaaGreatDoorPW21
namespace Go.Proofs.YtfcjdinlcehpmaaGreatDoor
set_option linter.unusedVariables false
set_option linter.unusedSimpArgs false
set_option maxRecDepth 100000
open Go.RowKit Go.Gl HS
section
variable {w:World}{hb sb T rc n oc:Nat}{rA oA:Option Addr}
set_option maxHeartbeats 1600000 in
theorem mtnew_ok(c27:w.cell? ⟨hb,27,none⟩=some (.slice rA T rc))(c1:w.cell? ⟨sb,1,none⟩=some (.slice oA T oc)){t:Nat}(ht:t<T)(hT:T≤64):Calls Tryz.prog 11 #[.pointer (some ⟨hb,0,none⟩),.int .i64 (t:Int),.pointer (some ⟨sb,0,none⟩)] w fun e w'=>
  ∃mb,e=.returned (.tuple #[.pointer (some ⟨mb,0,none⟩),.int .i64 0])∧w.heap.size≤mb∧Blk w' mb 96 (muV hb t sb (MU.zero 0))∧Fr [] w w':=by
 have g1:decide ((t:Int)<0)=false:=by simp
 have g2:decide ((t:Int)≥(T:Int))=false:=by simp;omega
 have g2':decide ((T:Int)≤(t:Int))=false:=by simp;omega
 have g4:decide (T≤t)=false:=by simp;omega
 have g3:((T:Int) !=(T:Int))=false:=by simp
 clear ht
 go_enter Tryz.func11,Tryz.ntmps11
 go_wp2_with fail
 go_quiet (fail)
 go_wp2_with fail
 go_ret2
 exact⟨_,rfl,Nat.le_refl _,Blk.new _ _ _,((Fr.refl _ _).drewN _).alloc _⟩
end
open Go.RowKit Go.Gl
def SlAt(w:World)(tg:TG)(e:TypeId)(kd:Nat)(r:Int)(v:Value)(l:List Int):Prop:=∃A c G,v=.slice A l.length c∧Lr w e A l.length c G (refV l)∧∀g,g∈G→tg g=(kd,r)
structure ML where
 m:Nat
 ov:Value
 sA:Option Addr
 sc:Nat
 sG:List Nat
 S:Nat→Nat
 db:Nat
 rv:Int→Value
 dv:Int→Value
def ptrs(S:Nat→Nat)(K:Nat):List Value:=(List.range K).map fun i=>.pointer (some ⟨S i,0,none⟩)
theorem ptrs_at(S:Nat→Nat){K i:Nat}(h:i<K):(ptrs S K)[i]?=some (.pointer (some ⟨S i,0,none⟩)):=by simp [ptrs,h]
structure MG(w:World)(tg:TG)(Λ:ML)(K T B M:Nat)(σ:GS):Prop where
 st:Blk w Λ.m 102 #[.int .i64 (M:Int),Λ.ov,.slice Λ.sA K Λ.sc,.slice (some ⟨Λ.db,0,none⟩) T T]
 t1:tg Λ.m=(11,0)
 obj:R2 w 182 Λ.ov σ.N (fun k=>Λ.rv ((k:Int)+1)) (fun k=>Λ.dv ((k:Int)+1))
 t2:∀b,Λ.ov.ownBlock=some b→tg b=(12,0)
 refs:∀r,1≤r→r≤(σ.N:Int)→SlAt w tg 45 14 r (Λ.rv r) (kids σ r)
 data:∀r,1≤r→r≤(σ.N:Int)→SlAt w tg 42 15 r (Λ.dv r) (datas σ r)
 row:Lr w 124 Λ.sA K Λ.sc Λ.sG (ptrs Λ.S K)
 t3:∀g,g∈Λ.sG→tg g=(13,0)
 stk:∀i,i<K→∃F,HkR w (Λ.S i) F B (σ.st i)∧∀x,x∈F→tg x=(16,(i:Int))
 don:Blk w Λ.db 3 (rowF T fun i=>.int .i64 (σ.done i:Int))
 t4:tg Λ.db=(17,0)
 tok:GTgOk w tg
section
variable {w w':World}{tg tg':TG}{F:List Nat}{Λ:ML}{K T B M:Nat}{σ:GS}
theorem SlAt.fr{e:TypeId}{kd:Nat}{r:Int}{v:Value}{l:List Int}(h:SlAt w tg e kd r v l)(hf:Fr F w w')(hF:∀x,x∈F→tg x≠(kd,r))(hu:GTgUp w tg tg'):SlAt w' tg' e kd r v l:=by
 obtain⟨A,c,G,h1,h2,h3⟩:=h
 exact⟨A,c,G,h1,h2.fr hf (fun g hg hx=>hF g hx (h3 g hg)),fun g hg=>(hu g (h2.lt g hg)).trans (h3 g hg)⟩
theorem MG.st'(h:MG w tg Λ K T B M σ)(hf:Fr F w w')(hF:∀x,x∈F→(tg x).1≠11):Blk w' Λ.m 102 #[.int .i64 (M:Int),Λ.ov,.slice Λ.sA K Λ.sc,.slice (some ⟨Λ.db,0,none⟩) T T]:=h.st.fr hf (fun hx=>tagNe hF _ hx h.t1)
theorem MG.obj'(h:MG w tg Λ K T B M σ)(hf:Fr F w w')(hF:∀x,x∈F→(tg x).1≠12):R2 w' 182 Λ.ov σ.N (fun k=>Λ.rv ((k:Int)+1)) (fun k=>Λ.dv ((k:Int)+1)):=h.obj.fr hf (fun b hb hx=>tagNe hF _ hx (h.t2 b hb))
theorem MG.refs'(h:MG w tg Λ K T B M σ)(hf:Fr F w w')(hF:∀x,x∈F→(tg x).1≠14)(hu:GTgUp w tg tg'):∀r,1≤r→r≤(σ.N:Int)→SlAt w' tg' 45 14 r (Λ.rv r) (kids σ r):=fun r h1 h2=>(h.refs r h1 h2).fr hf (tagNe hF) hu
theorem MG.data'(h:MG w tg Λ K T B M σ)(hf:Fr F w w')(hF:∀x,x∈F→(tg x).1≠15)(hu:GTgUp w tg tg'):∀r,1≤r→r≤(σ.N:Int)→SlAt w' tg' 42 15 r (Λ.dv r) (datas σ r):=fun r h1 h2=>(h.data r h1 h2).fr hf (tagNe hF) hu
theorem MG.row'(h:MG w tg Λ K T B M σ)(hf:Fr F w w')(hF:∀x,x∈F→(tg x).1≠13):Lr w' 124 Λ.sA K Λ.sc Λ.sG (ptrs Λ.S K):=h.row.fr hf (fun g hg hx=>tagNe hF _ hx (h.t3 g hg))
theorem MG.stk'(h:MG w tg Λ K T B M σ)(hf:Fr F w w'){i:Nat}(hi:i<K)(hF:∀x,x∈F→tg x≠(16,(i:Int)))(hu:GTgUp w tg tg'):∃F,HkR w' (Λ.S i) F B (σ.st i)∧∀x,x∈F→tg' x=(16,(i:Int)):=by
 obtain⟨G,h1,h2⟩:=h.stk i hi
 exact⟨G,h1.fr hf (fun x hx hx'=>hF x hx' (h2 x hx)),fun x hx=>(hu x (h1.lt x hx)).trans (h2 x hx)⟩
theorem MG.don'(h:MG w tg Λ K T B M σ)(hf:Fr F w w')(hF:∀x,x∈F→(tg x).1≠17):Blk w' Λ.db 3 (rowF T fun i=>.int .i64 (σ.done i:Int)):=h.don.fr hf (fun hx=>tagNe hF _ hx h.t4)
theorem MG.tags(h:MG w tg Λ K T B M σ)(hu:GTgUp w tg tg'):tg' Λ.m=(11,0)∧(∀b,Λ.ov.ownBlock=some b→tg' b=(12,0))∧(∀g,g∈Λ.sG→tg' g=(13,0))∧tg' Λ.db=(17,0):=
 ⟨(hu _ h.st.lt).trans h.t1,fun b hb=>(hu _ (h.obj.lt hb)).trans (h.t2 b hb),fun g hg=>(hu _ (h.row.lt g hg)).trans (h.t3 g hg),(hu _ h.don.lt).trans h.t4⟩
theorem MG.fr(h:MG w tg Λ K T B M σ)(hf:Fr F w w')(hF:∀x,x∈F→(tg x).1=0):MG w' tg Λ K T B M σ:=by
 have hk:∀k,k≠0→∀x,x∈F→(tg x).1≠k:=fun k hk x hx e=>hk (by rw [← e,hF x hx])
 have hu:=GTgUp.refl w tg
 exact⟨h.st' hf (hk 11 (by decide)),h.t1,h.obj' hf (hk 12 (by decide)),h.t2,h.refs' hf (hk 14 (by decide)) hu,h.data' hf (hk 15 (by decide)) hu,h.row' hf (hk 13 (by decide)),h.t3,
  fun i hi=>h.stk' hf hi (tagNe (hk 16 (by decide))) hu,h.don' hf (hk 17 (by decide)),h.t4,tok' h.tok hf⟩
theorem MG.fr0(h:MG w tg Λ K T B M σ)(hf:Fr [] w w'):MG w' tg Λ K T B M σ:=h.fr hf (by simp)
theorem MG.c0(h:MG w tg Λ K T B M σ):w.cell? ⟨Λ.m,0,none⟩=some (.int .i64 (M:Int)):=by rw [h.st.cell];rfl
theorem MG.c1(h:MG w tg Λ K T B M σ):w.cell? ⟨Λ.m,1,none⟩=some Λ.ov:=by rw [h.st.cell];rfl
theorem MG.c2(h:MG w tg Λ K T B M σ):w.cell? ⟨Λ.m,2,none⟩=some (.slice Λ.sA K Λ.sc):=by rw [h.st.cell];rfl
theorem MG.c3(h:MG w tg Λ K T B M σ):w.cell? ⟨Λ.m,3,none⟩=some (.slice (some ⟨Λ.db,0,none⟩) T T):=by rw [h.st.cell];rfl
theorem MG.stack(h:MG w tg Λ K T B M σ){i:Nat}(hi:i<K){G G':List Nat}{l:List Int}(h1:HkR w (Λ.S i) G B (σ.st i))(h2:∀x,x∈G→tg x=(16,(i:Int)))(hf:Fr G w w')(k1:HkR w' (Λ.S i) G' B l)(k2:∀x,x∈G'→x∈G∨w.heap.size≤x) :
  ∃tg',MG w' tg' Λ K T B M (σ.setSt i l)∧GFr w tg w' tg':=by
 have hu:GTgUp w tg (fun x=>if w.heap.size≤x∧x<w'.heap.size then (16,(i:Int)) else tg x):=fun b hb=>if_neg (by omega)
 have ht:GTgOk w' (fun x=>if w.heap.size≤x∧x<w'.heap.size then (16,(i:Int)) else tg x):=fun b hb=>by
  by_cases e:w.heap.size≤b∧b<w'.heap.size
  ·exact e.2
  ·simp only [if_neg e]at hb
   exact Nat.lt_of_lt_of_le (h.tok b hb) hf.size
 have hk:∀k,k≠16→∀x,x∈G→(tg x).1≠k:=fun k hk x hx e=>hk (by rw [← e,h2 x hx])
 obtain⟨a1,a2,a3,a4⟩:=h.tags hu
 refine⟨_,⟨h.st' hf (hk 11 (by decide)),a1,h.obj' hf (hk 12 (by decide)),a2,h.refs' hf (hk 14 (by decide)) hu,h.data' hf (hk 15 (by decide)) hu,h.row' hf (hk 13 (by decide)),a3,fun j hj=>?_,h.don' hf (hk 17 (by decide)),a4,ht⟩,⟨⟨G,hf,hk 0 (by decide)⟩,hu⟩⟩
 by_cases e:j=i
 ·subst e
  refine⟨G',?_,fun x hx=>?_⟩
  ·show HkR w' (Λ.S j) G' B (setF σ.st j l j)
   rw [setF_at]
   exact k1
  ·rcases k2 x hx with h3 | h3
   ·have h4:x<w.heap.size:=h1.lt x h3
    exact(hu x h4).trans (h2 x h3)
   ·exact if_pos ⟨h3,k1.lt x hx⟩
 ·obtain⟨H,h3,h4⟩:=h.stk' hf hj (fun x hx e1=>e (by rw [h2 x hx]at e1;injection e1 with _ e1;omega)) hu
  refine⟨H,?_,h4⟩
  show HkR w' (Λ.S j) H B (setF σ.st i l j)
  rw [setF_ne _ _ e]
  exact h3
theorem kids_setRef(σ:GS)(r:Int){b:Nat}(y:Int)(x:Int):kids (σ.setRef r (b:Int) y) x=if x=r then (kids σ r).set b y else kids σ x:=by
 unfold kids GS.setRef
 by_cases e:x=r
 ·subst e
  rw [if_pos rfl]
  apply List.ext_getElem
  ·simp
  ·intro i h1 h2
   simp only [List.getElem_map,List.getElem_range,List.getElem_set]
   rw [setF_at]
   by_cases e2:b=i
   ·subst e2;rw [if_pos rfl,setF_at]
   ·rw [if_neg e2,setF_ne _ _ (by omega)]
 ·rw [if_neg e]
  apply List.map_congr_left
  intro i _
  show setF σ.ref r _ x _=_
  rw [setF_ne _ _ e]
theorem datas_setDat(σ:GS)(r:Int){b:Nat}(y:Int)(x:Int):datas (σ.setDat r (b:Int) y) x=if x=r then (datas σ r).set b y else datas σ x:=by
 unfold datas GS.setDat
 by_cases e:x=r
 ·subst e
  rw [if_pos rfl]
  apply List.ext_getElem
  ·simp
  ·intro i h1 h2
   simp only [List.getElem_map,List.getElem_range,List.getElem_set]
   rw [setF_at]
   by_cases e2:b=i
   ·subst e2;rw [if_pos rfl,setF_at]
   ·rw [if_neg e2,setF_ne _ _ (by omega)]
 ·rw [if_neg e]
  apply List.map_congr_left
  intro i _
  show setF σ.dat r _ x _=_
  rw [setF_ne _ _ e]
theorem SlAt.put{e:TypeId}{kd:Nat}{r:Int}{g off n c b:Nat}{l:List Int}(h:SlAt w tg e kd r (.slice (some ⟨g,off,none⟩) n c) l)(hb:b<l.length)(y:Int):SlAt (w.setCell ⟨g,off+b,none⟩ (.int .u64 y)) tg e kd r (.slice (some ⟨g,off,none⟩) n c) (l.set b y)∧tg g=(kd,r):=by
 obtain⟨A,c',G,h1,h2,h3⟩:=h
 injection h1 with q1 q2 q3
 subst q1 q2 q3
 obtain⟨g',off',e1,e2,_⟩:=h2.pos (by omega)
 injection e1 with e1
 injection e1 with e1
 subst e1
 refine⟨⟨_,c,G,by rw [List.length_set],?_,h3⟩,h3 g (by simp [e2])⟩
 rw [List.length_set,refV_set]
 exact h2.put hb _
theorem MG.rput(h:MG w tg Λ K T B M σ){r:Int}{b:Nat}(h1:1≤r)(h2:r≤(σ.N:Int))(hb:b<σ.np r){g off n c:Nat}(hv:Λ.rv r=.slice (some ⟨g,off,none⟩) n c)(y:Int) :
  MG (w.setCell ⟨g,off+b,none⟩ (.int .u64 y)) tg Λ K T B M (σ.setRef r (b:Int) y)∧GFr w tg (w.setCell ⟨g,off+b,none⟩ (.int .u64 y)) tg:=by
 have hr:=h.refs r h1 h2
 rw [hv]at hr
 obtain⟨hp,ht⟩:=hr.put (by rw [kids_len];exact hb) y
 have hf:Fr [g] w (w.setCell ⟨g,off+b,none⟩ (.int .u64 y)):=(Fr.refl _ _).setCell (p:=⟨g,off+b,none⟩) (.inl (by simp)) _
 have hT:∀x,x∈[g]→tg x=(14,r):=fun x hx=>by simp at hx;rw [hx];exact ht
 have hk:∀k,k≠14→∀x,x∈[g]→(tg x).1≠k:=fun k hk x hx e=>hk (by rw [← e,hT x hx])
 have hu:=GTgUp.refl w tg
 refine⟨⟨h.st' hf (hk 11 (by decide)),h.t1,h.obj' hf (hk 12 (by decide)),h.t2,fun x x1 x2=>?_,h.data' hf (hk 15 (by decide)) hu,h.row' hf (hk 13 (by decide)),h.t3,
  fun i hi=>h.stk' hf hi (tagNe (hk 16 (by decide))) hu,h.don' hf (hk 17 (by decide)),h.t4,tok' h.tok hf⟩,GFr.of hf (hk 0 (by decide))⟩
 rw [kids_setRef]
 by_cases e:x=r
 ·subst e
  rw [if_pos rfl,hv]
  exact hp
 ·rw [if_neg e]
  exact(h.refs x x1 x2).fr hf (fun z hz=>by rw [hT z hz];simp;exact Ne.symm e) hu
theorem MG.dput(h:MG w tg Λ K T B M σ){r:Int}{b:Nat}(h1:1≤r)(h2:r≤(σ.N:Int))(hb:b<σ.nw r){g off n c:Nat}(hv:Λ.dv r=.slice (some ⟨g,off,none⟩) n c)(y:Int) :
  MG (w.setCell ⟨g,off+b,none⟩ (.int .u64 y)) tg Λ K T B M (σ.setDat r (b:Int) y)∧GFr w tg (w.setCell ⟨g,off+b,none⟩ (.int .u64 y)) tg:=by
 have hr:=h.data r h1 h2
 rw [hv]at hr
 obtain⟨hp,ht⟩:=hr.put (by unfold datas;simpa using hb) y
 have hf:Fr [g] w (w.setCell ⟨g,off+b,none⟩ (.int .u64 y)):=(Fr.refl _ _).setCell (p:=⟨g,off+b,none⟩) (.inl (by simp)) _
 have hT:∀x,x∈[g]→tg x=(15,r):=fun x hx=>by simp at hx;rw [hx];exact ht
 have hk:∀k,k≠15→∀x,x∈[g]→(tg x).1≠k:=fun k hk x hx e=>hk (by rw [← e,hT x hx])
 have hu:=GTgUp.refl w tg
 refine⟨⟨h.st' hf (hk 11 (by decide)),h.t1,h.obj' hf (hk 12 (by decide)),h.t2,h.refs' hf (hk 14 (by decide)) hu,fun x x1 x2=>?_,h.row' hf (hk 13 (by decide)),h.t3,
  fun i hi=>h.stk' hf hi (tagNe (hk 16 (by decide))) hu,h.don' hf (hk 17 (by decide)),h.t4,tok' h.tok hf⟩,GFr.of hf (hk 0 (by decide))⟩
 rw [datas_setDat]
 by_cases e:x=r
 ·subst e
  rw [if_pos rfl,hv]
  exact hp
 ·rw [if_neg e]
  exact(h.data x x1 x2).fr hf (fun z hz=>by rw [hT z hz];simp;exact Ne.symm e) hu
theorem MG.done(h:MG w tg Λ K T B M σ){i:Nat}(hi:i<T):MG (w.setCell ⟨Λ.db,i,none⟩ (.int .i64 ((σ.done i+1:Nat):Int))) tg Λ K T B M (σ.tick i)∧GFr w tg (w.setCell ⟨Λ.db,i,none⟩ (.int .i64 ((σ.done i+1:Nat):Int))) tg:=by
 have hf:Fr [Λ.db] w (w.setCell ⟨Λ.db,i,none⟩ (.int .i64 ((σ.done i+1:Nat):Int))):=(Fr.refl _ _).setCell (p:=⟨Λ.db,i,none⟩) (.inl (by simp)) _
 have hk:∀k,k≠17→∀x,x∈[Λ.db]→(tg x).1≠k:=fun k hk x hx e=>hk (by simp at hx;rw [← e,hx,h.t4])
 have hu:=GTgUp.refl w tg
 refine⟨⟨h.st' hf (hk 11 (by decide)),h.t1,h.obj' hf (hk 12 (by decide)),h.t2,h.refs' hf (hk 14 (by decide)) hu,h.data' hf (hk 15 (by decide)) hu,h.row' hf (hk 13 (by decide)),h.t3,
  fun i hi=>h.stk' hf hi (tagNe (hk 16 (by decide))) hu,?_,h.t4,tok' h.tok hf⟩,GFr.of hf (hk 0 (by decide))⟩
 have:=h.don.put i (.int .i64 ((σ.done i+1:Nat):Int))
 rw [rowF_set]at this
 have e:putF (fun i=>Value.int .i64 (σ.done i:Int)) i (.int .i64 ((σ.done i+1:Nat):Int))=fun j=>Value.int .i64 ((σ.tick i).done j:Int):=by
  funext j
  show _=Value.int .i64 ((setF σ.done i (σ.done i+1) j:Nat):Int)
  by_cases e:j=i
  ·subst e;rw [putF_at,setF_at]
  ·rw [putF_ne _ _ e,setF_ne _ _ e]
 rw [e]at this
 exact this
end
theorem made_rowB(n:Nat)(v:Value)(h:v.cells=#[v]):madeCells #[v] n=rowF n fun _=>v:=by
 have:=made_one v h n
 rw [h]at this
 rw [rowF_const,← this,Array.toArray_toList]
theorem make_rowB{P:Program}{t e:TypeId}{z:Value}{bytes:Nat}(ht:P.underlying t=some (.slice e))(hi:(P.info? e).map (fun i=>(i.zero,i.size,i.bytes))=some (some z,1,bytes))(hz:z.cells=#[z]){n:Nat}(hb:bytes≤64)(hn:n≤4194304)(w:World) :
  (Instr.makeSlice t (.int .i64 (n:Int)) (.int .i64 (n:Int))).run P w=.ok (.slice (some ⟨w.heap.size,0,none⟩) n n) (w.alloc (.cells (rowF n fun _=>z) e)):=by
 have hbn:bytes*n≤64*4194304:=Nat.mul_le_mul hb hn
 rw [run_make_row' (P:=P) t e z bytes ht hi hz .i64 .i64 n (by omega) (by omega) w,made_rowB n z hz]
theorem Tryz.info_refsB:(Tryz.prog.info? 30).map (fun i=>(i.zero,i.size,i.bytes))=some (some (.slice none 0 0),1,24):=by kernel_rfl
theorem Tryz.info_opsB:(Tryz.prog.info? 24).map (fun i=>(i.zero,i.size,i.bytes))=some (some (.slice none 0 0),1,24):=by kernel_rfl
theorem Tryz.info_intB:(Tryz.prog.info? 3).map (fun i=>(i.zero,i.size,i.bytes))=some (some (.int .i64 0),1,8):=by kernel_rfl
theorem Tryz.info_pmutB:(Tryz.prog.info? 48).map (fun i=>(i.zero,i.size,i.bytes))=some (some (.pointer none),1,8):=by kernel_rfl
theorem ptrs_succB(S:Nat→Nat)(k s:Nat):ptrs (setF S k s) (k+1)=ptrs S k++[.pointer (some ⟨s,0,none⟩)]:=by
 unfold ptrs
 rw [List.range_succ,List.map_append,List.map_singleton,setF_at]
 congr 1
 apply List.map_congr_left
 intro i hi
 rw [setF_ne _ _ (by have:=List.mem_range.1 hi;omega)]
section
variable {W w w':World}{L:HL}{X:HX}{h:HS}{x:HT}{s k:Nat}{E:Blks}{D D':Nat→Prop}{Q Q':World→Prop}{F:List Nat}
theorem HM.live(hT:Tab W)(H:HM W w L X h x s k E D Q)(hf:Fr F w w')(hF:∀b,b∈F→D b)(hD':∀b,D' b→D b∨w.heap.size≤b)(hq:Q' w'):HM W w' L X h x s k E D' Q':=by
 obtain⟨own,h1,h2,h3,h4⟩:=H
 have hlt:=hT.lt
 have hsz:=h1.fr.size
 have h0:∀b,w.heap.size≤b→own b=0:=fun b hb=>by
  obtain⟨tg,FS,H,_⟩:=h1
  by_cases e:own b=0
  ·exact e
  ·have:=H.lt b e;omega
 refine⟨own,h1.other hf (fun y hy=>h3 y (hF y hy)) (fun hx=>by have:=(h3 _ (hF _ hx)).2;omega),fun q hq=>?_,fun b hb=>?_,hq⟩
 ·obtain⟨k1,k2,k3,k4⟩:=h2 q hq
  exact⟨k1.fr hf (fun hx=>k4 (hF _ hx)),k2,k3,fun hd=>(hD' _ hd).elim k4 (fun e=>by have:=k1.lt;omega)⟩
 ·rcases hD' b hb with e | e
  ·exact h3 b e
  ·exact⟨h0 b e,by omega⟩
theorem HM.news(hS:Lives D Q)(H:HM W w L X h x s k E D Q)(hf:Fr [] w w')(E2:Blks)(h2:∀q,q∈E2→Blk w' q.1 q.2.1 q.2.2∧w.heap.size≤q.1):HM W w' L X h x s k (E2++E) D Q:=by
 obtain⟨own,h1,h3,h4,h5⟩:=H
 have hsz:=h1.fr.size
 refine⟨own,h1.fr0 hf,fun q hq=>?_,h4,hS.stay w w' [] h5 hf (fun b hb=>by cases hb)⟩
 rcases List.mem_append.1 hq with hq | hq
 ·obtain⟨k1,k2⟩:=h2 q hq
  refine⟨k1,?_,by omega,fun hd=>by have:=hS.lt w h5 _ hd;omega⟩
  obtain⟨tg,FS,H,_⟩:=h1
  by_cases e:own q.1=0
  ·exact e
  ·have:=H.lt _ e;omega
 ·exact⟨(h3 q hq).1.fr hf (by simp),(h3 q hq).2⟩
theorem Lives.row(hS:Lives D Q)(e:TypeId)(A:Option Addr)(n c:Nat)(G:List Nat)(xs:List Value):Lives (fun b=>b∈G∨D b) (fun w=>Lr w e A n c G xs∧Q w):=
 ⟨fun w w' F h hf hF=>⟨h.1.fr hf (fun g hg hx=>hF g hx (.inl hg)),hS.stay w w' F h.2 hf (fun b hb hd=>hF b hb (.inr hd))⟩,fun w h b hb=>hb.elim (h.1.lt b) (hS.lt w h.2 b)⟩
def wdV(hb sb:Nat)(mA:Option Addr)(mn mc pb nb T g:Nat)(dl:Value)(wn:Int)(sy:Bool):Array Value:=
 #[.pointer (some ⟨hb,0,none⟩),.pointer (some ⟨sb,0,none⟩),.slice mA mn mc,.slice (some ⟨pb,0,none⟩) T T,.slice (some ⟨nb,0,none⟩) T T,.pointer (some ⟨g,0,none⟩),dl,.int .i64 wn,.bool sy]
structure WL where
 wb:Nat
 sb:Nat
 ob:Nat
 pb:Nat
 nb:Nat
 mA:Option Addr
 mc:Nat
 mG:List Nat
 P:Nat→Nat
def ovE(Λ:WL)(hb g T k:Nat):Blks:=
 (Λ.wb,37,wdV hb Λ.sb Λ.mA k Λ.mc Λ.pb Λ.nb T g (.slice none 0 0) 0 false)::(Λ.sb,40,#[.bool false,.slice (some ⟨Λ.ob,0,none⟩) T T])::(Λ.ob,30,rowF T fun _=>.slice none 0 0) ::
  (Λ.pb,24,rowF T fun _=>.slice none 0 0)::(Λ.nb,3,rowF T fun _=>.int .i64 0)::(List.range k).map fun i=>(Λ.P i,96,muV hb i Λ.sb (MU.zero 0))
def OvAt(W w:World)(L:HL)(X:HX)(h:HS)(x:HT)(s k:Nat)(E:Blks)(D:Nat→Prop)(Q:World→Prop)(g n:Nat)(Λ:WL):Prop:=
 HM W w L X h x s k (ovE Λ L.hb g h.T n++E) (fun b=>b∈Λ.mG∨D b) (fun w=>Lr w 48 Λ.mA n Λ.mc Λ.mG (ptrs Λ.P n)∧Q w)∧(∀b,b∈Λ.mG→¬ D b) ∧
  ∀q,q∈E→q.1≠Λ.wb
theorem OvAt.zero{g wb sb ob pb nb:Nat}(hS:Lives D Q)(hT:Tab W)(H:HM W w L X h x s k E D Q)(hf:Fr [] w w')(h1:Blk w' wb 37 (wdV L.hb sb none 0 0 pb nb h.T g (.slice none 0 0) 0 false))(h2:Blk w' sb 40 #[.bool false,.slice (some ⟨ob,0,none⟩) h.T h.T])
  (h3:Blk w' ob 30 (rowF h.T fun _=>.slice none 0 0)) (h4:Blk w' pb 24 (rowF h.T fun _=>.slice none 0 0)) (h5:Blk w' nb 3 (rowF h.T fun _=>.int .i64 0)) (hb:w.heap.size≤wb∧w.heap.size≤sb∧w.heap.size≤ob∧w.heap.size≤pb∧w.heap.size≤nb) :
  OvAt W w' L X h x s k E D Q g 0 ⟨wb,sb,ob,pb,nb,none,0,[],fun _=>0⟩:=by
 have hl:∀q,q∈E→q.1<w.heap.size:=fun q hq=>(H.blk (b:=q.1) (t:=q.2.1) (cs:=q.2.2) hq).lt
 have H1:=H.news hS hf (ovE ⟨wb,sb,ob,pb,nb,none,0,[],fun _=>0⟩ L.hb g h.T 0) (fun q hq=>by
  simp only [ovE,List.range_zero,List.map_nil,List.mem_cons,List.not_mem_nil,or_false]at hq
  rcases hq with e | e | e | e | e
  ·rw [e];exact⟨h1,hb.1⟩
  ·rw [e];exact⟨h2,hb.2.1⟩
  ·rw [e];exact⟨h3,hb.2.2.1⟩
  ·rw [e];exact⟨h4,hb.2.2.2.1⟩
  ·rw [e];exact⟨h5,hb.2.2.2.2⟩)
 refine⟨H1.live (F:=[]) hT (Fr.refl _ _) (fun b hb=>by cases hb) (fun b hb=>?_) ⟨Lr.nil _ _,H1.q⟩,(fun b hb=>by cases hb),fun q hq e=>?_⟩
 ·rcases hb with hb | hb
  ·cases hb
  ·exact .inl hb
 ·have:=hl q hq
  have:q.1=wb:=e
  omega
theorem blkU_1{o1 o2 o3 o4:Obj}{t:TypeId}{cs:Array Value}:Blk (((((w.alloc (.cells cs t)).alloc o1).alloc o2).alloc o3).alloc o4).drew w.heap.size t cs:=(((((Blk.new w t cs).alloc o1).alloc o2).alloc o3).alloc o4).drew
theorem blkU_2{o1 o2 o3 o4:Obj}{t:TypeId}{cs:Array Value}:Blk (((((w.alloc o1).alloc (.cells cs t)).alloc o2).alloc o3).alloc o4).drew (w.heap.size+1) t cs:=((((Blk.new_at (w:=w.alloc o1) t cs (by simp)).alloc o2).alloc o3).alloc o4).drew
theorem blkU_3{o1 o2 o3 o4:Obj}{t:TypeId}{cs:Array Value}:Blk (((((w.alloc o1).alloc o2).alloc (.cells cs t)).alloc o3).alloc o4).drew (w.heap.size+1+1) t cs:=(((Blk.new_at (w:=(w.alloc o1).alloc o2) t cs (by simp)).alloc o3).alloc o4).drew
theorem blkU_4{o1 o2 o3 o4:Obj}{t:TypeId}{cs:Array Value}:Blk (((((w.alloc o1).alloc o2).alloc o3).alloc (.cells cs t)).alloc o4).drew (w.heap.size+1+1+1) t cs:=((Blk.new_at (w:=((w.alloc o1).alloc o2).alloc o3) t cs (by simp)).alloc o4).drew
theorem blkU_5{o1 o2 o3 o4:Obj}{t:TypeId}{cs:Array Value}:Blk (((((w.alloc o1).alloc o2).alloc o3).alloc o4).alloc (.cells cs t)).drew (w.heap.size+1+1+1+1) t cs:=(Blk.new_at (w:=(((w.alloc o1).alloc o2).alloc o3).alloc o4) t cs (by simp)).drew
end
section
variable {W w w':World}{L:HL}{X:HX}{h h2:HS}{x x2:HT}{s k:Nat}{E:Blks}{D D0:Nat→Prop}{Q Q0:World→Prop}{mb t sb ob:Nat}{m:MU}
set_option maxHeartbeats 3200000 in
theorem mtlog_nil(hS:Lives D Q)(hT:Tab W)(H:HM W w L X h x s k ((mb,96,muV L.hb t sb m)::E) D Q)(hne:∀q,q∈E→q.1≠mb){I:Nat}(had:m.ad=(I:Int))(hI:I<h.n)(hz:h.f I=0) :
  Calls Tryz.prog 53 #[.pointer (some ⟨mb,0,none⟩)] w fun e w'=>e=.returned (resV 0 0 An.zero false true false (.slice none 0 0))∧HM W w' L X h x s k ((mb,96,muV L.hb t sb { m with st:=4,ad:=(I:Int) })::E) D Q:=by
 have hmb:=H.blk (List.mem_cons_self ..)
 have hlt:=hmb.lt
 have hltE:∀q,q∈E→q.1<w.heap.size:=fun q hq=>(H.blk (b:=q.1) (t:=q.2.1) (cs:=q.2.2) (List.mem_cons_of_mem _ hq)).lt
 have hrm:w.heap.size≠mb:=by omega
 have hrE:∀q,q∈E→q.1≠w.heap.size:=fun q hq=>by have:=hltE q hq;omega
 have hneR:∀cs:Array Value,∀q,q∈((w.heap.size,61,cs)::E:Blks)→q.1≠mb:=fun cs q hq=>by
  rcases List.mem_cons.1 hq with rfl | hq
  ·exact hrm
  ·exact hne q hq
 have HX:Hid (HM W (w.alloc (.cells #[.int .i64 0,.int .i64 0,.int .i64 0,.int .u64 0,.bool false,.bool false,.bool false,.bool false,.slice none 0 0] 61)) L X h x s k ((w.heap.size,61,#[.int .i64 0,.int .i64 0,.int .i64 0,.int .u64 0,.bool false,.bool false,.bool false,.bool false,.slice none 0 0])::(mb,96,muV L.hb t sb m)::E) D Q):=H.alloc hS 61 #[.int .i64 0,.int .i64 0,.int .i64 0,.int .u64 0,.bool false,.bool false,.bool false,.bool false,.slice none 0 0]
 have HEnd:Hid (∀w' a0 a1 a2 a3 a4 a5 a6 a7 a8 v0 v1 v2 v3 v4 v5 v6 v7 v8,HM W w' L X h x s k ((mb,96,muV L.hb t sb { m with st:=4,ad:=(I:Int) })::(w.heap.size,61,#[a0,a1,a2,a3,a4,a5,a6,a7,a8])::E) D Q→HM W (put9 w' w.heap.size v0 v1 v2 v3 v4 v5 v6 v7 v8) L X h x s k ((mb,96,muV L.hb t sb { m with st:=4,ad:=(I:Int) })::E) D Q):=fun w' a0 a1 a2 a3 a4 a5 a6 a7 a8 v0 v1 v2 v3 v4 v5 v6 v7 v8 q=>
  q.swap.res9 hS hT (fun y hy=>by
   rcases List.mem_cons.1 hy with rfl | hy
   ·exact fun e=>hrm e.symm
   ·exact hrE y hy) v0 v1 v2 v3 v4 v5 v6 v7 v8
 have HLd:=hide (HX.out.aload hS hI)
 have HGo:Hid (∀w',HM W w' L X h x s k ((w.heap.size,61,#[.int .i64 0,.int .i64 0,.int .i64 0,.int .u64 0,.bool false,.bool false,.bool false,.bool false,.slice none 0 0])::(mb,96,muV L.hb t sb m)::E) D Q→Calls Tryz.prog 82 #[.pointer (some ⟨mb,0,none⟩),.int .i64 4,.int .i64 (I:Int)] w' fun e w''=>e=.returned (.agg #[.int .i64 0,.int .i64 0,.int .i64 0,.int .u64 0,.bool false,.bool false,.bool true,.bool false,.slice none 0 0])∧HM W w'' L X h x s k ((mb,96,muV L.hb t sb { m with st:=4,ad:=(I:Int) })::(w.heap.size,61,#[.int .i64 0,.int .i64 0,.int .i64 0,.int .u64 0,.bool false,.bool false,.bool false,.bool false,.slice none 0 0])::E) D Q):=fun w' q=>HM.goOn hS hT q.swap (hneR _) 4 (I:Int)
 obtain⟨c0,c1,c2,c3,c4,c5,c6,c7,c8,c9,c10⟩:=muCells hmb
 rw [had]at c10
 have d20:=H.hc.c20
 have NHb:L.hb<w.heap.size:=lt_of_cell d20
 rw [hz]at HLd
 have hb0:(((0:Nat):Int) !=0)=false:=rfl
 unfold resV An.zero
 clear H hmb hltE HX hne hneR hrm hrE had hI hz
 generalize ((0:Nat):Int)=fv at *
 go_enter Tryz.func53,Tryz.ntmps53
 go_wp2_with fail
 refine HLd.out.mono ?_
 rintro e w1 ⟨rfl,hA⟩
 have HA1:=hide hA
 clear hA HLd c0 c1 c2 c3 c4 c5 c6 c7 c8 c9 c10 d20
 go_wp2_with fail
 go_quiet (fail)
 go_wp2_with fail
 refine(HGo.out _ (HA1.out.fr0 hS ((Fr.refl _ _).drewN _))).mono ?_
 rintro e w5 ⟨rfl,hA⟩
 have HA5:=hide hA
 have hrb:=hA.blk (List.mem_cons_of_mem _ (List.mem_cons_self ..))
 have y0:=hrb.cell 0
 have y1:=hrb.cell 1
 have y2:=hrb.cell 2
 have y3:=hrb.cell 3
 have y4:=hrb.cell 4
 have y5:=hrb.cell 5
 have y6:=hrb.cell 6
 have y7:=hrb.cell 7
 have y8:=hrb.cell 8
 have z0:=hrb.frozen 0
 have z1:=hrb.frozen 1
 have z2:=hrb.frozen 2
 have z3:=hrb.frozen 3
 have z4:=hrb.frozen 4
 have z5:=hrb.frozen 5
 have z6:=hrb.frozen 6
 have z7:=hrb.frozen 7
 have z8:=hrb.frozen 8
 have NR:=hrb.lt
 clear hA hrb
 go_wp2_with fail
 refine bodyPost_ret (v:=.agg #[.int .i64 0,.int .i64 0,.int .i64 0,.int .u64 0,.bool false,.bool false,.bool true,.bool false,.slice none 0 0]) (by simp [results,Tryz.results53,go_sem, *]) rfl ⟨rfl,?_⟩
 exact HEnd.out _ _ _ _ _ _ _ _ _ _ _ _ _ _ _ _ _ _ _ HA5.out
def LogP(W:World)(L:HL)(X:HX)(h:HS)(x:HT)(s k:Nat)(E:Blks)(D0:Nat→Prop)(Q0:World→Prop)(mb t sb ob n:Nat)(xs:List Value)(OV:Nat→Value)(m:MU)(I:Nat)(e:Ending)(w':World):Prop:=
 ∃A' c' G',e=.returned (resV 0 0 An.zero false true false (.slice none 0 0)) ∧
  HM W w' L X h x s k ((mb,96,muV L.hb t sb { m with st:=4,ad:=(I:Int) })::(ob,30,rowF h.T (putF OV t (.slice A' (n+1) c')))::E) (fun b=>b∈G'∨D0 b) (fun w=>Lr w 45 A' (n+1) c' G' (xs++[.int .u64 (h.f I:Int)])∧Q0 w)∧∀g,g∈G'→¬ D0 g
set_option maxHeartbeats 3200000 in
theorem mtlog_put(hS:Lives D0 Q0)(hT:Tab W){A:Option Addr}{n c:Nat}{G:List Nat}{xs:List Value}{OV:Nat→Value}{bv:Value}(H:HM W w L X h x s k ((mb,96,muV L.hb t sb m)::(ob,30,rowF h.T OV)::E) (fun b=>b∈G∨D0 b) (fun w=>Lr w 45 A n c G xs∧Q0 w))
  (hne0:∀q,q∈E→q.1≠mb) (hob:∀q,q∈E→q.1≠ob) (hms:(sb,40,#[bv,.slice (some ⟨ob,0,none⟩) h.T h.T])∈E) (ht:t<h.T) (hO:OV t=.slice A n c) (hGD:∀g,g∈G→¬ D0 g) (hn:n≤1048576) {I:Nat} (had:m.ad=(I:Int)) (hI:I<h.n) (hz:h.f I≠0) :
  Calls Tryz.prog 53 #[.pointer (some ⟨mb,0,none⟩)] w (LogP W L X h x s k E D0 Q0 mb t sb ob n xs OV m I):=by
 obtain⟨i0,hi,hz0,hz1,hz2⟩:=info_parts Tryz.info_ref
 have hS1:=hS.row 45 A n c G xs
 have hmb:=H.blk (List.mem_cons_self ..)
 have hlt:=hmb.lt
 have hbo:=H.blk (b:=ob) (List.mem_cons_of_mem _ (List.mem_cons_self ..))
 have hom:ob≠mb:=hbo.apart hmb (by decide)
 have hne:∀q,q∈((ob,30,rowF h.T OV)::E:Blks)→q.1≠mb:=ne_cons hom hne0
 have hltE:∀q,q∈((ob,30,rowF h.T OV)::E:Blks)→q.1<w.heap.size:=fun q hq=>(H.blk (b:=q.1) (t:=q.2.1) (cs:=q.2.2) (List.mem_cons_of_mem _ hq)).lt
 have hlo:ob<w.heap.size:=hbo.lt
 have hrm:w.heap.size≠mb:=by omega
 have hro:w.heap.size≠ob:=by omega
 have hrE:∀q,q∈E→q.1≠w.heap.size:=fun q hq=>by have:=hltE q (List.mem_cons_of_mem _ hq);omega
 have HX:Hid (HM W (w.alloc (.cells #[.int .i64 0,.int .i64 0,.int .i64 0,.int .u64 0,.bool false,.bool false,.bool false,.bool false,.slice none 0 0] 61)) L X h x s k ((w.heap.size,61,#[.int .i64 0,.int .i64 0,.int .i64 0,.int .u64 0,.bool false,.bool false,.bool false,.bool false,.slice none 0 0])::(mb,96,muV L.hb t sb m)::(ob,30,rowF h.T OV)::E) (fun b=>b∈G∨D0 b) (fun w=>Lr w 45 A n c G xs∧Q0 w)):=H.alloc hS1 61 #[.int .i64 0,.int .i64 0,.int .i64 0,.int .u64 0,.bool false,.bool false,.bool false,.bool false,.slice none 0 0]
 obtain⟨fv,hfv⟩:∃fv,fv=h.f I:=⟨_,rfl⟩
 have hb1:((fv:Int) !=0)=true:=by rw [hfv];simp;omega
 have hT64:=H.ok.tm
 have hlt1:(t:Int)<(h.T:Int):=by omega
 have HLd:=hide (HX.out.aload hS1 hI)
 rw [← hfv]at HLd
 have HC:Hid (∀w',HM W w' L X h x s k ((w.heap.size,61,#[.int .i64 0,.int .i64 0,.int .i64 0,.int .u64 0,.bool false,.bool false,.bool false,.bool false,.slice none 0 0])::(mb,96,muV L.hb t sb m)::(ob,30,rowF h.T OV)::E) (fun b=>b∈G∨D0 b) (fun w=>Lr w 45 A n c G xs∧Q0 w)→w'.cell? ⟨mb,1,none⟩=some (.int .i64 (t:Int))∧w'.cell? ⟨mb,2,none⟩=some (.pointer (some ⟨sb,0,none⟩))∧w'.cell? ⟨sb,1,none⟩=some (.slice (some ⟨ob,0,none⟩) h.T h.T)∧w'.cell? ⟨ob,t,none⟩=some (.slice A n c)):=fun w' q=>by
  obtain⟨c0,c1,c2,c3,c4,c5,c6,c7,c8,c9,c10⟩:=muCells (q.blk (List.mem_cons_of_mem _ (List.mem_cons_self ..)))
  have hs:=q.blk (b:=sb) (List.mem_cons_of_mem _ (List.mem_cons_of_mem _ (List.mem_cons_of_mem _ hms)))
  have ho:=q.blk (b:=ob) (List.mem_cons_of_mem _ (List.mem_cons_of_mem _ (List.mem_cons_self ..)))
  exact⟨c1,c2,hs.cell 1,by rw [ho.cell t,rowF_at ht,hO]⟩
 have HFZ:Hid (∀w1 wq w',HM W w1 L X h x s k ((w.heap.size,61,#[.int .i64 0,.int .i64 0,.int .i64 0,.int .u64 0,.bool false,.bool false,.bool false,.bool false,.slice none 0 0])::(mb,96,muV L.hb t sb m)::(ob,30,rowF h.T OV)::E) (fun b=>b∈G∨D0 b) (fun w=>Lr w 45 A n c G xs∧Q0 w)→Fr [] w1 wq→Fr G wq w'→w'.cell? ⟨ob,t,none⟩=some (.slice A n c)∧w'.frozen? ⟨ob,t,none⟩=false):=fun w1 wq w' q hf hg=>by
  have ho:=q.blk (b:=ob) (List.mem_cons_of_mem _ (List.mem_cons_of_mem _ (List.mem_cons_self ..)))
  have hnm:ob∉G:=fun hx=>q.q.1.apart ho (by decide) hx
  have hb1:=(ho.fr hf (by simp)).fr hg hnm
  exact⟨by rw [hb1.cell t,rowF_at ht,hO],hb1.frozen t⟩
 have HLR:Hid (∀w1 wq,HM W w1 L X h x s k ((w.heap.size,61,#[.int .i64 0,.int .i64 0,.int .i64 0,.int .u64 0,.bool false,.bool false,.bool false,.bool false,.slice none 0 0])::(mb,96,muV L.hb t sb m)::(ob,30,rowF h.T OV)::E) (fun b=>b∈G∨D0 b) (fun w=>Lr w 45 A n c G xs∧Q0 w)→Fr [] w1 wq→Lr wq 45 A n c G xs):=fun w1 wq q hf=>q.q.1.fr0 hf
 have HN:Hid (n+1≤maxLen∧(n+1)*8≤140737488355328):=⟨by unfold maxLen;omega,by omega⟩
 have HPost:Hid (∀w1 wq w2 A' c' G',HM W w1 L X h x s k ((w.heap.size,61,#[.int .i64 0,.int .i64 0,.int .i64 0,.int .u64 0,.bool false,.bool false,.bool false,.bool false,.slice none 0 0])::(mb,96,muV L.hb t sb m)::(ob,30,rowF h.T OV)::E) (fun b=>b∈G∨D0 b) (fun w=>Lr w 45 A n c G xs∧Q0 w)→Fr [] w1 wq→Lr w2 45 A' (n+1) c' G' (xs++[.int .u64 (fv:Int)])→Fr G wq w2→(∀g,g∈G'→g∈G∨(g=wq.heap.size∧0<1)) →
   HM W (w2.setCell ⟨ob,t,none⟩ (.slice A' (n+1) c')) L X h x s k ((mb,96,muV L.hb t sb m)::(w.heap.size,61,#[.int .i64 0,.int .i64 0,.int .i64 0,.int .u64 0,.bool false,.bool false,.bool false,.bool false,.slice none 0 0])::(ob,30,rowF h.T (putF OV t (.slice A' (n+1) c')))::E) (fun b=>b∈G'∨D0 b) (fun w=>Lr w 45 A' (n+1) c' G' (xs++[.int .u64 (fv:Int)])∧Q0 w)∧∀g,g∈G'→¬ D0 g):=fun w1 wq w2 A' c' G' q hf hL hg hG'=>by
  have q1:=q.fr0 hS1 hf
  have hq:=hS.stay _ w2 G q1.q.2 hg hGD
  have q2:HM W w2 L X h x s k ((w.heap.size,61,#[.int .i64 0,.int .i64 0,.int .i64 0,.int .u64 0,.bool false,.bool false,.bool false,.bool false,.slice none 0 0])::(mb,96,muV L.hb t sb m)::(ob,30,rowF h.T OV)::E) (fun b=>b∈G'∨D0 b) (fun w=>Lr w 45 A' (n+1) c' G' (xs++[.int .u64 (fv:Int)])∧Q0 w):=
   q1.live hT hg (fun b hb=>.inl hb) (fun b hb=>by
    rcases hb with hb | hb
    ·rcases hG' b hb with e | e
     ·exact .inl (.inl e)
     ·exact .inr (by omega)
    ·exact .inl (.inr hb)) ⟨hL,hq⟩
  have hS2:=hS.row 45 A' (n+1) c' G' (xs++[.int .u64 (fv:Int)])
  have q3:HM W w2 L X h x s k ((ob,30,rowF h.T OV)::(mb,96,muV L.hb t sb m)::(w.heap.size,61,#[.int .i64 0,.int .i64 0,.int .i64 0,.int .u64 0,.bool false,.bool false,.bool false,.bool false,.slice none 0 0])::E) (fun b=>b∈G'∨D0 b) (fun w=>Lr w 45 A' (n+1) c' G' (xs++[.int .u64 (fv:Int)])∧Q0 w):=q2.sub (fun y hy=>by simp only [List.mem_cons]at hy ⊢;rcases hy with e | e | e | e <;> simp [e])
  have hbo2:=q3.blk (b:=ob) (List.mem_cons_self ..)
  have hp:=hbo2.put t (.slice A' (n+1) c')
  rw [rowF_set]at hp
  have q4:=q3.turn hS2 hT ((Fr.refl [ob] w2).setCell (p:=⟨ob,t,none⟩) (.inl (by simp)) (.slice A' (n+1) c')) hp (ne_cons (fun e=>hom e.symm) (ne_cons hro hob))
  refine⟨q4.sub (fun y hy=>by simp only [List.mem_cons]at hy ⊢;rcases hy with e | e | e | e <;> simp [e]),fun g hgm hd=>?_⟩
  rcases hG' g hgm with e | e
  ·exact hGD g e hd
  ·have:=hS.lt _ q1.q.2 g hd
   omega
 have HGo:Hid (∀w' A' c' G',HM W w' L X h x s k ((mb,96,muV L.hb t sb m)::(w.heap.size,61,#[.int .i64 0,.int .i64 0,.int .i64 0,.int .u64 0,.bool false,.bool false,.bool false,.bool false,.slice none 0 0])::(ob,30,rowF h.T (putF OV t (.slice A' (n+1) c')))::E) (fun b=>b∈G'∨D0 b) (fun w=>Lr w 45 A' (n+1) c' G' (xs++[.int .u64 (fv:Int)])∧Q0 w)→Calls Tryz.prog 82 #[.pointer (some ⟨mb,0,none⟩),.int .i64 4,.int .i64 (I:Int)] w' fun e w''=>e=.returned (.agg #[.int .i64 0,.int .i64 0,.int .i64 0,.int .u64 0,.bool false,.bool false,.bool true,.bool false,.slice none 0 0]) ∧
   HM W w'' L X h x s k ((mb,96,muV L.hb t sb { m with st:=4,ad:=(I:Int) })::(w.heap.size,61,#[.int .i64 0,.int .i64 0,.int .i64 0,.int .u64 0,.bool false,.bool false,.bool false,.bool false,.slice none 0 0])::(ob,30,rowF h.T (putF OV t (.slice A' (n+1) c')))::E) (fun b=>b∈G'∨D0 b) (fun w=>Lr w 45 A' (n+1) c' G' (xs++[.int .u64 (fv:Int)])∧Q0 w)):=fun w' A' c' G' q=>HM.goOn (hS.row _ _ _ _ _ _) hT q (ne_cons hrm (ne_cons hom hne0)) 4 (I:Int)
 have HEnd:Hid (∀w' A' c' G' v0 v1 v2 v3 v4 v5 v6 v7 v8,HM W w' L X h x s k ((mb,96,muV L.hb t sb { m with st:=4,ad:=(I:Int) })::(w.heap.size,61,#[.int .i64 0,.int .i64 0,.int .i64 0,.int .u64 0,.bool false,.bool false,.bool false,.bool false,.slice none 0 0])::(ob,30,rowF h.T (putF OV t (.slice A' (n+1) c')))::E) (fun b=>b∈G'∨D0 b) (fun w=>Lr w 45 A' (n+1) c' G' (xs++[.int .u64 (fv:Int)])∧Q0 w)→(∀g,g∈G'→¬ D0 g) →
   LogP W L X h x s k E D0 Q0 mb t sb ob n xs OV m I (.returned (.agg #[.int .i64 0,.int .i64 0,.int .i64 0,.int .u64 0,.bool false,.bool false,.bool true,.bool false,.slice none 0 0])) (put9 w' w.heap.size v0 v1 v2 v3 v4 v5 v6 v7 v8)):=fun w' A' c' G' v0 v1 v2 v3 v4 v5 v6 v7 v8 q hg=>by
  rw [hfv]at q
  exact⟨A',c',G',rfl,q.swap.res9 (hS.row _ _ _ _ _ _) hT (ne_cons (fun e=>hrm e.symm) (ne_cons (fun e=>hro e.symm) hrE)) v0 v1 v2 v3 v4 v5 v6 v7 v8,hg⟩
 obtain⟨c0,c1,c2,c3,c4,c5,c6,c7,c8,c9,c10⟩:=muCells hmb
 rw [had]at c10
 have d20:=H.hc.c20
 have NHb:L.hb<w.heap.size:=lt_of_cell d20
 clear H hmb hbo hltE HX hne hne0 hob hom hrm hro hrE had hI hz hfv hms hO hGD hS hS1 hn hT64 ht hlo
 go_enter Tryz.func53,Tryz.ntmps53
 go_wp2_with fail
 refine HLd.out.mono ?_
 rintro e w1 ⟨rfl,hA⟩
 have HA1:=hide hA
 obtain⟨k1,k2,k3,k4⟩:=HC.out _ hA
 clear hA HLd c0 c1 c2 c3 c4 c5 c6 c7 c8 c9 c10 d20
 go_wp2_with fail
 go_quiet (fail)
 go_wp2_with fail
 go_quiet (fail)
 go_wp2_with (first | (at_builtin;go_loud (refine wpList_append_lr rfl _ _ 30 rfl 45 i0 (.int .u64 0) 8 Tryz.underlying30 hi hz0 hz1 hz2 rfl rfl (HLR.out _ _ HA1.out (((Fr.refl _ _).drewN _).alloc _)) rfl rfl (fun _=>one_of (w1.drewN _) (.int .u64 (fv:Int)) 45 rfl _ (Fr.refl _ _)) (by intro u hu;simp at hu;rw [hu];rfl) HN.out.1 HN.out.2 ?_);intro A' c' G' w2 HLn HFn HGn;have d0:=(HFZ.out _ _ _ HA1.out (((Fr.refl _ _).drewN _).alloc _) HFn.out).1;have dz:=(HFZ.out _ _ _ HA1.out (((Fr.refl _ _).drewN _).alloc _) HFn.out).2))
 have HP:=HPost.out _ _ _ _ _ _ HA1.out (((Fr.refl _ _).drewN _).alloc _) HLn.out HFn.out HGn.out
 have HG2:=hide HP.2
 refine(HGo.out _ _ _ _ HP.1).mono ?_
 rintro e w5 ⟨rfl,hA⟩
 have HA5:=hide hA
 have hrb:=hA.blk (List.mem_cons_of_mem _ (List.mem_cons_self ..))
 have y0:=hrb.cell 0
 have y1:=hrb.cell 1
 have y2:=hrb.cell 2
 have y3:=hrb.cell 3
 have y4:=hrb.cell 4
 have y5:=hrb.cell 5
 have y6:=hrb.cell 6
 have y7:=hrb.cell 7
 have y8:=hrb.cell 8
 have z0:=hrb.frozen 0
 have z1:=hrb.frozen 1
 have z2:=hrb.frozen 2
 have z3:=hrb.frozen 3
 have z4:=hrb.frozen 4
 have z5:=hrb.frozen 5
 have z6:=hrb.frozen 6
 have z7:=hrb.frozen 7
 have z8:=hrb.frozen 8
 have NR:=hrb.lt
 clear hA hrb HP
 go_wp2_with fail
 refine bodyPost_ret (v:=.agg #[.int .i64 0,.int .i64 0,.int .i64 0,.int .u64 0,.bool false,.bool false,.bool true,.bool false,.slice none 0 0]) (by simp [results,Tryz.results53,go_sem, *]) rfl ?_
 exact HEnd.out _ _ _ _ _ _ _ _ _ _ _ _ _ HA5.out HG2.out
end
end Go.Proofs.YtfcjdinlcehpmaaGreatDoor
