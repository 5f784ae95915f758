/- Several texts joined (pack.py): Ro Gp. -/
import Derived.Test.YteacgfeiedcdiaaGreatDoorProg
import Derived.Test.YteacgfeiedcdiaaGreatDoorPW00
import Derived.WalkKit
import Derived.BigQuiet
namespace Go.Proofs.YteacgfeiedcdiaaGreatDoor
set_option linter.unusedVariables false
open Go.RowKit Go.Gl
theorem Tryz.info_ref:(Tryz.prog.info? 90).map (fun i=>(i.zero,i.size,i.bytes))=some (some (.int .u64 0),1,8):=by kernel_rfl
def refV(l:List Int):List Value:=l.map (Value.int .u64)
theorem refV_len(l:List Int):(refV l).length=l.length:=by simp [refV]
theorem refV_app(a b:List Int):refV (a++b)=refV a++refV b:=by simp [refV]
theorem refV_one(l:List Int):∀u∈refV l,u.oneCell'=true:=by
 intro u hu
 obtain⟨x,_,rfl⟩:=List.mem_map.1 hu
 rfl
theorem refV_get(l:List Int){k:Nat}(h:k<l.length):(refV l)[k]?=some (.int .u64 (l.getD k 0)):=by simp [refV,h]
theorem refSl{w:World}{e:TypeId}{A:Option Addr}{n c:Nat}{G:List Nat}{l:List Int}(h:Lr w e A n c G (refV l)):Sl w A n (fun k=>.int .u64 (l.getD k 0)):=fun hn=>by
 obtain⟨g,off,h1,_,h2,h3,_⟩:=h.pos hn
 refine⟨g,off,h1,h2,fun k hk=>?_⟩
 rw [h3 k hk,refV_get _ (by have:=h.len;rw [refV_len]at this;omega)]
theorem lrNone(w:World)(e:TypeId)(A:Option Addr):Lr w e A 0 0 [] []:=⟨rfl,Nat.le_refl _,Nat.zero_le _,fun _=>rfl,fun h=>absurd h (by decide)⟩
structure Hk(lay:Value→Array Value)(t:TypeId)(w:World)(s:Nat)(A:Option Addr)(c:Nat)(G:List Nat)(l:List Int):Prop where
 st:Blk w s t (lay (.slice A l.length c))
 row:Lr w 90 A l.length c G (refV l)
def layH(B:Nat)(v:Value):Array Value:=#[v,.int .i64 (B:Int)]
def layR12(B:Nat)(v:Value):Array Value:=#[.int .i64 (B:Int),v]
section
variable {lay:Value→Array Value}{t:TypeId}{w w':World}{s c B:Nat}{A:Option Addr}{F G:List Nat}{l:List Int}
theorem Hk.fr(h:Hk lay t w s A c G l)(hf:Fr F w w')(h1:s∉F)(h2:∀g,g∈G→g∉F):Hk lay t w' s A c G l:=⟨h.st.fr hf h1,h.row.fr hf h2⟩
theorem Hk.far(h:Hk lay t w s A c G l)(ht:90≠t):s∉G:=h.row.apart h.st ht
theorem Hk.put(h:Hk lay t w s A c G l)(ht:90≠t){ci:Nat}(hl:∀a b,(lay a).setIfInBounds ci b=lay b){l':List Int}{A':Option Addr}{c':Nat}{G':List Nat}(hf:Fr G w w')(hr:Lr w' 90 A' l'.length c' G' (refV l')) :
  Hk lay t (w'.setCell ⟨s,ci,none⟩ (.slice A' l'.length c')) s A' c' G' l':=by
 have h1:=h.st.fr hf (h.far ht)
 refine⟨by have:=h1.put ci (.slice A' l'.length c');rwa [hl]at this,hr.fr (F:=[s]) ((Fr.refl _ _).setCell (p:=⟨s,ci,none⟩) (.inl (by simp)) _) fun g hg h0=>?_⟩
 simp at h0
 subst h0
 exact hr.apart h1 ht hg
theorem Hk.put_fr(hf:Fr G w w')(ci:Nat)(v:Value):Fr (s::G) w (w'.setCell ⟨s,ci,none⟩ v):=
 (hf.mono (G:=s::G) (fun x hx=>.inl (by simp [hx]))).setCell (p:=⟨s,ci,none⟩) (.inl (by simp)) v
end
abbrev HkP(w:World)(s:Nat)(F:List Nat)(B:Nat)(l:List Int):Prop:=∃A c G,Hk (layH B) 169 w s A c G l∧F=s::G
section
variable {w w':World}{s c B:Nat}{A:Option Addr}{F F' G:List Nat}{l:List Int}
theorem HkP.fr(h:HkP w s F B l)(hf:Fr F' w w')(hd:∀g,g∈F→g∉F'):HkP w' s F B l:=by
 obtain⟨A,c,G,h,rfl⟩:=h
 exact⟨A,c,G,h.fr hf (hd s (by simp)) (fun g hg=>hd g (by simp [hg])),rfl⟩
theorem HkP.fr0(h:HkP w s F B l)(hf:Fr [] w w'):HkP w' s F B l:=h.fr hf (fun _ _=>by simp)
theorem HkP.drewN(h:HkP w s F B l)(k:Nat):HkP (w.drewN k) s F B l:=h.fr0 ((Fr.refl _ _).drewN k)
theorem HkP.lt(h:HkP w s F B l):∀g,g∈F→g<w.heap.size:=by
 obtain⟨A,c,G,h,rfl⟩:=h
 intro g hg
 rcases List.mem_cons.1 hg with rfl | hg
 ·exact h.st.lt
 ·exact h.row.lt g hg
theorem HkP.at_(h:HkP w s F B l):∃A c,w.cell? ⟨s,0,none⟩=some (.slice A l.length c)∧w.cell? ⟨s,1,none⟩=some (.int .i64 (B:Int))∧(∀k,w.frozen? ⟨s,k,none⟩=false)∧l.length≤maxLen:=by
 obtain⟨A,c,G,h,rfl⟩:=h
 exact⟨A,c,by rw [h.st.cell];rfl,by rw [h.st.cell];rfl,fun k=>h.st.frozen k,Nat.le_trans h.row.le h.row.max⟩
end
def hkIn(l:List Int)(i:Int):Prop:=0≤i∧i<(l.length:Int)
instance (l:List Int) (i:Int):Decidable (hkIn l i):=by unfold hkIn;infer_instance
def hkAt(l:List Int)(i:Int):Int:=if hkIn l i then l.getD i.toNat 0 else 0
def hkAtE(l:List Int)(i:Int):Int:=if hkIn l i then 0 else 10
def hkSet(l:List Int)(i r:Int):List Int:=if hkIn l i then l.set i.toNat r else l
def hkPush(B:Nat)(l:List Int)(r:Int):List Int:=if l.length<B then l++[r] else l
def hkPushE(B:Nat)(l:List Int):Int:=if l.length<B then 0 else 15
def hkPop(l:List Int):List Int:=l.take (l.length-1)
def hkPopV(l:List Int):Int:=l.getD (l.length-1) 0
def hkPopE(l:List Int):Int:=if l.length=0 then 14 else 0
theorem hkPush_len{B:Nat}{l:List Int}(h:l.length≤B)(r:Int):(hkPush B l r).length≤B:=by
 unfold hkPush
 split
 ·simp;omega
 ·exact h
def HkNew(Q:World→Nat→List Nat→Prop)(w:World)(e:Ending)(w':World):Prop:=∃s F,e=.returned (.tuple #[.pointer (some ⟨s,0,none⟩),.int .i64 0])∧Q w' s F∧Fr [] w w'∧∀x,x∈F→w.heap.size≤x
theorem hnew_ok(B:Nat)(h1:1≤B)(h2:B≤64)(w:World):Calls Tryz.prog 79 #[.int .i64 (B:Int)] w (HkNew (fun w' s F=>HkP w' s F B []) w):=by
 have g1:¬ ((B:Int)<1):=by omega
 have g2:¬ ((B:Int)>64):=by omega
 go_enter Tryz.func79,Tryz.ntmps79
 go_wp2
 go_ret2
 exact⟨_,_,rfl,⟨none,0,[],⟨Blk.new _ _ _,Lr.nil _ _⟩,rfl⟩,(Fr.refl _ _).alloc _,fun x hx=>by simp at hx;omega⟩
section
variable {w:World}{s B:Nat}{F:List Nat}{l:List Int}
theorem hroom_any(h:HkP w s F B l)(hl:l.length≤B)(hB:B≤64):Calls Tryz.prog 90 #[.pointer (some ⟨s,0,none⟩)] w fun e w'=>e=.returned (.int .i64 ((B:Int)-(l.length:Int)))∧∃k,w'=w.drewN k:=by
 obtain⟨A,c,c0,c1,_,_⟩:=h.at_
 have e1:IntKind.i64.wrap ((B:Int)-(l.length:Int))=(B:Int)-(l.length:Int):=IntWalk.i64_in _ ⟨by omega,by omega⟩
 clear h
 go_enter Tryz.func90,Tryz.ntmps90
 go_wp2_with fail
 go_quiet (fail)
 go_wp2
 go_ret
 exact⟨rfl,_,rfl⟩
end
def HkPost(w:World)(F:List Nat)(Q:World→List Nat→Prop)(v:Value)(e:Ending)(w':World):Prop:=
 ∃F',e=.returned v∧Q w' F'∧Fr F w w'∧∀x,x∈F'→x∈F∨w.heap.size≤x
section
variable {w:World}{s B:Nat}{F:List Nat}{l:List Int}
theorem hpush_any(h:HkP w s F B l)(hl:l.length≤B)(hB:B≤64)(r:Int):Calls Tryz.prog 39 #[.pointer (some ⟨s,0,none⟩),.int .u64 r] w (HkPost w F (fun w' F'=>HkP w' s F' B (hkPush B l r)) (.int .i64 (hkPushE B l))):=by
 obtain⟨i0,hi,hz0,hz1,hz2⟩:=info_parts Tryz.info_ref
 have HR:=hide (hroom_any h hl hB)
 have HH:=hide h
 by_cases hlt:l.length<B
 ·have e1:hkPush B l r=l++[r]:=by unfold hkPush;rw [if_pos hlt]
  have e2:hkPushE B l=0:=by unfold hkPushE;rw [if_pos hlt]
  obtain⟨D,hD,hD0⟩:∃D:Nat,(B:Int)-(l.length:Int)=(D:Int)∧D≠0:=⟨B-l.length,by omega,by omega⟩
  have hn:((D:Int)==0)=false:=by simpa using hD0
  rw [hD]at HR
  rw [e1,e2]
  clear e1 e2 hD hD0
  obtain⟨A,c,G,h,rfl⟩:=h
  have HL:=hide h
  have HN:Hid (([Value.int .u64 r]).length=1∧(∀u∈[Value.int .u64 r],u.oneCell'=true)∧l.length+1≤maxLen∧(l.length+1)*8≤140737488355328):=⟨rfl,by simp [Value.oneCell'],by unfold maxLen;omega,by omega⟩
  clear h hl hB hlt
  go_enter Tryz.func39,Tryz.ntmps39
  go_wp2_with fail
  refine HR.out.mono ?_
  rintro e w1 ⟨rfl,q,hq⟩
  have HL1:Hid (Hk (layH B) 169 w1 s A c G l):=hq ▸ HL.out.fr ((Fr.refl [] w).drewN q) (by simp) (fun _ _=>by simp)
  have HF1:Hid (Fr [] w w1):=hq ▸ (Fr.refl [] w).drewN q
  clear hq HR
  have c0:w1.cell? ⟨s,0,none⟩=some (.slice A l.length c):=by rw [HL1.out.st.cell];rfl
  have N0:s<w1.heap.size:=HL1.out.st.lt
  have HFZ:Hid (∀w2 w',Fr [] w1 w2→Fr G w2 w'→w'.cell? ⟨s,0,none⟩=some (.slice A l.length c)∧w'.frozen? ⟨s,0,none⟩=false):=fun w2 w' hf0 hf=>by
   have hb:=(HL1.out.st.fr hf0 (by simp)).fr hf (HL1.out.far (by decide))
   exact⟨by rw [hb.cell];rfl,hb.frozen 0⟩
  have HL2:Hid (Hk (layH B) 169 (w1.alloc (.cells #[.int .u64 r] 90)) s A c G l):=HL1.out.fr ((Fr.refl [] w1).alloc _) (by simp) (fun _ _=>by simp)
  obtain⟨n,hn0⟩:∃n,n=l.length:=⟨_,rfl⟩
  have hlen:(l++[r]).length=n+1:=by simp [hn0]
  rw [← hn0]at c0 HN HFZ
  have HLR:Hid (Lr (w1.alloc (.cells #[.int .u64 r] 90)) 90 A n c G (refV l)):=by rw [hn0];exact HL2.out.row
  have HLN:=hide hlen
  clear hn0 hlen
  go_wp2_with (first | (at_builtin;refine wpList_append_lr rfl _ _ 167 rfl 90 i0 (.int .u64 0) 8 Tryz.underlying167 hi hz0 hz1 hz2 rfl rfl HLR.out rfl HN.out.1 (fun _=>one_of w1 _ 90 rfl _ (Fr.refl _ _)) HN.out.2.1 HN.out.2.2.1 HN.out.2.2.2 ?_;intro A' c' G' w' HLn HFn HGn;have d0:=(HFZ.out _ _ ((Fr.refl _ _).alloc _) HFn.out).1;have dz:=(HFZ.out _ _ ((Fr.refl _ _).alloc _) HFn.out).2))
  have HQ:Hid (HkP (w'.setCell ⟨s,0,none⟩ (.slice A' (n+1) c')) s (s::G') B (l++[r])):=by
   have h2:=HL2.out.put (by decide) (ci:=0) (fun _ _=>rfl) (l':=l++[r]) (A':=A') (c':=c') (G':=G') HFn.out (by rw [HLN.out,refV_app];exact HLn.out)
   rw [HLN.out]at h2
   exact⟨_,c',G',h2,rfl⟩
  have HF2:Hid (Fr (s::G) w (w'.setCell ⟨s,0,none⟩ (.slice A' (n+1) c'))):=((HF1.out.alloc (.cells #[.int .u64 r] 90)).mono (G:=s::G) (fun _ h=>by cases h)).trans_same (Hk.put_fr HFn.out 0 _)
  go_ret
  refine⟨_,rfl,HQ.out,HF2.out,fun x hx=>?_⟩
  rcases List.mem_cons.1 hx with rfl | hx
  ·exact .inl (by simp)
  ·rcases HGn.out x hx with h1 | ⟨h1,_⟩
   ·exact .inl (by simp [h1])
   ·have:=HF1.out.size
    right
    rw [h1]
    simp
    omega
 ·have e1:hkPush B l r=l:=by unfold hkPush;rw [if_neg hlt]
  have e2:hkPushE B l=15:=by unfold hkPushE;rw [if_neg hlt]
  have hn:(B:Int)-(l.length:Int)=0:=by omega
  rw [e1,e2]
  rw [hn]at HR
  clear e1 e2 h hn
  go_enter Tryz.func39,Tryz.ntmps39
  go_wp2_with fail
  refine HR.out.mono ?_
  rintro e w1 ⟨rfl,q,rfl⟩
  go_wp2_with fail
  go_ret
  exact⟨F,rfl,HH.out.drewN q,(Fr.refl _ _).drewN q,fun x hx=>.inl hx⟩
end
theorem Tryz.nil_refs(w:World):(binOp BinOp.eql 167 (Value.slice none 0 0) (Value.slice none 0 0)).run Tryz.prog w=.ok (.bool true) w:=by kernel_rfl
theorem Tryz.some_refs(a:Addr)(n c:Nat)(w:World):(binOp BinOp.eql 167 (Value.slice (some a) n c) (Value.slice none 0 0)).run Tryz.prog w=.ok (.bool false) w:=by kernel_rfl
def ClonePost(w:World)(l:List Int)(e:Ending)(w':World):Prop:=∃A c G,e=.returned (.slice A l.length c)∧Lr w' 90 A l.length c G (refV l)∧Fr [] w w'∧∀g,g∈G→w.heap.size≤g
set_option maxRecDepth 100000 in
theorem clone_any{w:World}{A:Option Addr}{c:Nat}{G:List Nat}{l:List Int}(h:Lr w 90 A l.length c G (refV l))(hl:l.length≤65536):Calls Tryz.prog 154 #[.slice A l.length c] w (ClonePost w l):=by
 obtain⟨i0,hi,hz0,hz1,hz2⟩:=info_parts Tryz.info_ref
 rcases h.form with⟨rfl,rfl⟩ | ⟨a,rfl⟩
 ·have h0:l.length=0:=by have:=h.le;omega
  obtain rfl:l=[]:=List.eq_nil_of_length_eq_zero h0
  clear h
  have b0:=Tryz.nil_refs
  go_enter Tryz.func154,Tryz.ntmps154
  go_wp2
  go_ret
  exact⟨none,0,[],rfl,Lr.nil _ _,Fr.refl _ _,fun _ h=>by cases h⟩
 ·have HN:Hid ((refV l).length=l.length∧(∀u∈refV l,u.oneCell'=true)∧0+l.length≤maxLen∧(0+l.length)*8≤140737488355328):=⟨refV_len _,refV_one _,by unfold maxLen;omega,by omega⟩
  have H:=hide h
  have HR:Hid (∀w',Fr [] w w'→0<l.length→∃ad,some a=some ad∧∀j u,(refV l)[j]?=some u→w'.cell? (ad.add j)=some u):=fun w' hf=>(h.fr0 hf).read
  have b0:=Tryz.some_refs a
  clear h hl
  go_enter Tryz.func154,Tryz.ntmps154
  go_wp2_with (first | (at_builtin;go_loud (refine wpList_append_lr rfl _ _ 167 rfl 90 i0 (.int .u64 0) 8 Tryz.underlying167 hi hz0 hz1 hz2 rfl rfl (lrNone _ _ _) rfl HN.out.1 (HR.out _ ((Fr.refl _ _).alloc _)) HN.out.2.1 HN.out.2.2.1 HN.out.2.2.2 ?_;intro A' c' G' w' HLn HFn HGn)))
  go_ret
  have h1:=HLn.out
  rw [Nat.zero_add,List.nil_append]at h1
  exact⟨A',c',G',rfl,h1,((Fr.refl _ _).alloc _).trans_same HFn.out,fun g hg=>by
   rcases HGn.out g hg with h2 | ⟨h2,_⟩
   ·cases h2
   ·rw [h2];simp⟩
theorem hlist_any{w:World}{s B:Nat}{F:List Nat}{l:List Int}(h:HkP w s F B l)(hl:l.length≤65536):Calls Tryz.prog 112 #[.pointer (some ⟨s,0,none⟩)] w (ClonePost w l):=by
 obtain⟨A,c,G,h,rfl⟩:=h
 have HC:=hide (clone_any h.row hl)
 have c0:w.cell? ⟨s,0,none⟩=some (.slice A l.length c):=by rw [h.st.cell];rfl
 clear h hl
 go_enter Tryz.func112,Tryz.ntmps112
 go_wp2_with fail
 refine HC.out.mono ?_
 rintro e w' ⟨A',c',G',rfl,h1,h2,h3⟩
 have H1:=hide h1
 have H2:=hide h2
 have H3:=hide h3
 clear h1 h2 h3
 go_wp2_with fail
 go_ret
 exact⟨A',c',G',rfl,H1.out,H2.out,H3.out⟩
section
variable {w w':World}{s c B:Nat}{A:Option Addr}{F F' G:List Nat}{l:List Int}
end
section
variable {w:World}{s B:Nat}{F:List Nat}{l:List Int}
end
def setF{α β:Type}[DecidableEq α](f:α→β)(k:α)(v:β):α→β:=fun x=>if x=k then v else f x
section
variable {α β:Type}[DecidableEq α]
end
structure GS where
 st:Nat→List Int
 done:Nat→Nat
 N:Nat
 np:Int→Nat
 nw:Int→Nat
 ref:Int→Int→Int
 dat:Int→Int→Int
def G0:GS:=⟨fun _=>[],fun _=>0,0,fun _=>0,fun _=>0,fun _ _=>0,fun _ _=>0⟩
def GS.setSt(σ:GS)(t:Nat)(l:List Int):GS:={ σ with st:=setF σ.st t l }
def GS.push(σ:GS)(B t:Nat)(r:Int):GS:=σ.setSt t (hkPush B (σ.st t) r)
def GS.new(σ:GS)(a b:Int):GS:=
 { σ with N:=σ.N+1,np:=setF σ.np ((σ.N:Int)+1) a.toNat,nw:=setF σ.nw ((σ.N:Int)+1) b.toNat,ref:=setF σ.ref ((σ.N:Int)+1) (fun _=>0),dat:=setF σ.dat ((σ.N:Int)+1) (fun _=>0) }
def GS.setRef(σ:GS)(r b y:Int):GS:={ σ with ref:=setF σ.ref r (setF (σ.ref r) b y) }
def GS.setDat(σ:GS)(r b v:Int):GS:={ σ with dat:=setF σ.dat r (setF (σ.dat r) b v) }
def sizeBad(M:Nat)(a b:Int):Prop:=a<0∨b<0∨a+b=0∨(M:Int)<1+a+b
instance (M:Nat) (a b:Int):Decidable (sizeBad M a b):=by unfold sizeBad;infer_instance
def fieldIn(n:Nat)(b:Int):Prop:=0≤b∧b<(n:Int)
instance (n:Nat) (b:Int):Decidable (fieldIn n b):=by unfold fieldIn;infer_instance
section
variable (B M T:Nat)(σ:GS)(t:Nat)(a b c v:Int)
def allocE:Int:=if sizeBad M a b then 13 else hkPushE B (σ.st t)
def allocS:GS:=if sizeBad M a b then σ else if (σ.st t).length<B then (σ.new a b).push B t ((σ.N:Int)+1) else σ
def objE:Int:=if hkIn (σ.st t) a then (if hkAt (σ.st t) a=0 then 12 else 0) else 10
def loadE:Int:=if objE σ t a≠0 then objE σ t a else if fieldIn (σ.np (hkAt (σ.st t) a)) b then hkPushE B (σ.st t) else 11
def loadS:GS:=if objE σ t a=0∧fieldIn (σ.np (hkAt (σ.st t) a)) b then σ.push B t (σ.ref (hkAt (σ.st t) a) b) else σ
def storeE:Int:=if hkIn (σ.st t) c then (if objE σ t a≠0 then objE σ t a else if fieldIn (σ.np (hkAt (σ.st t) a)) b then 0 else 11) else 10
def storeS:GS:=if storeE σ t a b c=0 then σ.setRef (hkAt (σ.st t) a) b (hkAt (σ.st t) c) else σ
def wordE:Int:=if objE σ t a≠0 then objE σ t a else if fieldIn (σ.nw (hkAt (σ.st t) a)) b then 0 else 11
def readV:Int:=if wordE σ t a b=0 then σ.dat (hkAt (σ.st t) a) b else 0
def writeS:GS:=if wordE σ t a b=0 then σ.setDat (hkAt (σ.st t) a) b v else σ
def popS:GS:=σ.setSt t (hkPop (σ.st t))
def dupE:Int:=if hkIn (σ.st t) a then hkPushE B (σ.st t) else 10
def dupS:GS:=if hkIn (σ.st t) a then σ.push B t (hkAt (σ.st t) a) else σ
def equalE:Int:=if hkIn (σ.st t) a then hkAtE (σ.st t) b else 10
def equalV:Bool:=decide (hkIn (σ.st t) a∧hkIn (σ.st t) b∧hkAt (σ.st t) a=hkAt (σ.st t) b)
def isNilV:Bool:=decide (hkIn (σ.st t) a∧hkAt (σ.st t) a=0)
def collectE:Int:=if 0≤a∧a≤3 then 0 else 17
def sendE:Int:=if hkIn (σ.st t) a then (if fieldIn T b then hkPushE B (σ.st b.toNat) else 2) else 10
def sendS:GS:=if hkIn (σ.st t) a∧fieldIn T b then σ.push B b.toNat (hkAt (σ.st t) a) else σ
end
structure An where
 code:Int
 word:Int
 bit:Bool
structure Po where
 k:Int
 a:Int
 b:Int
 c:Int
 v:Int
def actA(B M T:Nat)(σ:GS)(t:Nat)(o:Po):An:=
 if o.k=1 then ⟨allocE B M σ t o.a o.b,0,false⟩ else if o.k=2 then ⟨loadE B σ t o.a o.b,0,false⟩ else if o.k=3 then ⟨storeE σ t o.a o.b o.c,0,false⟩
 else if o.k=4 then ⟨wordE σ t o.a o.b,readV σ t o.a o.b,false⟩ else if o.k=5 then ⟨wordE σ t o.a o.b,0,false⟩ else if o.k=6 then ⟨hkPushE B (σ.st t),0,false⟩
 else if o.k=7 then ⟨hkPopE (σ.st t),0,false⟩ else if o.k=8 then ⟨dupE B σ t o.a,0,false⟩ else if o.k=9 then ⟨equalE σ t o.a o.b,0,equalV σ t o.a o.b⟩
 else if o.k=10 then ⟨hkAtE (σ.st t) o.a,0,isNilV σ t o.a⟩ else if o.k=11 then ⟨0,0,false⟩ else if o.k=12 then ⟨collectE o.a,0,false⟩
 else if o.k=13 then ⟨sendE B T σ t o.a o.b,0,false⟩ else ⟨17,0,false⟩
def actS(B M T:Nat)(σ:GS)(t:Nat)(o:Po):GS:=
 if o.k=1 then allocS B M σ t o.a o.b else if o.k=2 then loadS B σ t o.a o.b else if o.k=3 then storeS σ t o.a o.b o.c
 else if o.k=5 then writeS σ t o.a o.b o.v else if o.k=6 then σ.push B t 0
 else if o.k=7 then popS σ t else if o.k=8 then dupS B σ t o.a else if o.k=13 then sendS B T σ t o.a o.b else σ
def GS.tick(σ:GS)(t:Nat):GS:={ σ with done:=setF σ.done t (σ.done t+1) }
def ansV(th dn:Int)(x:An):Value:=.agg #[.int .i64 th,.int .i64 dn,.int .i64 x.code,.int .u64 x.word,.bool x.bit]
def doV(B M T:Nat)(σ:GS)(th:Int)(o:Po):Value:=if fieldIn T th then ansV th (σ.done th.toNat:Int) (actA B M T σ th.toNat o) else ansV 0 0 ⟨2,0,false⟩
def doS(B M T:Nat)(σ:GS)(th:Int)(o:Po):GS:=if fieldIn T th then actS B M T (σ.tick th.toNat) th.toNat o else σ
def cntG(st:Nat→List Int):Nat→Int→Nat
 | 0,_=>0
 | T+1,r=>cntG st T r+(st T).count r
structure GOk(T B:Nat)(σ:GS):Prop where
 cap:σ.N≤4096
 len:∀t,(σ.st t).length≤B
 mem:∀t r,r∈σ.st t→0≤r∧r≤(σ.N:Int)
 ref:∀r j,0≤σ.ref r j∧σ.ref r j≤(σ.N:Int)
 np:∀r,σ.np r≤1048576
 nw:∀r,σ.nw r≤1048576
theorem GOk.zero(T B:Nat):GOk T B G0:=⟨by simp [G0],fun t=>by simp [G0],fun t r h=>by simp [G0]at h,fun r j=>by simp [G0],fun r=>by simp [G0],fun r=>by simp [G0]⟩
theorem GOk.at{T B:Nat}{σ:GS}(h:GOk T B σ)(t:Nat)(i:Int):0≤hkAt (σ.st t) i∧hkAt (σ.st t) i≤(σ.N:Int):=by
 unfold hkAt
 split
 ·rename_i hi
  unfold hkIn at hi
  have hk:i.toNat<(σ.st t).length:=by omega
  refine h.mem t _ ?_
  simp [hk]
 ·omega
theorem GOk.push{T B:Nat}{σ:GS}(h:GOk T B σ){r:Int}(h1:0≤r)(h2:r≤(σ.N:Int))(t:Nat):GOk T B (σ.push B t r):=by
 refine⟨h.cap,fun i=>?_,fun i x hx=>?_,h.ref,h.np,h.nw⟩
 ·show(setF σ.st t _ i).length≤B
  unfold setF
  split
  ·exact hkPush_len (h.len t) r
  ·exact h.len i
 ·have hx:x∈setF σ.st t (hkPush B (σ.st t) r) i:=hx
  unfold setF at hx
  split at hx
  ·unfold hkPush at hx
   split at hx
   ·rcases List.mem_append.1 hx with h3 | h3
    ·exact h.mem t x h3
    ·simp at h3;subst h3;exact⟨h1,h2⟩
   ·exact h.mem t x hx
  ·exact h.mem i x hx
theorem GOk.new{T B:Nat}{σ:GS}(h:GOk T B σ){a b:Int}(ha:a≤1048576)(hb:b≤1048576)(hc:σ.N+1≤4096):GOk T B (σ.new a b):=by
 refine⟨hc,h.len,fun t r hr=>?_,fun r j=>?_,fun r=>?_,fun r=>?_⟩
 ·have:=h.mem t r hr
  show 0≤r∧r≤((σ.N+1:Nat):Int)
  omega
 ·have:=h.ref r j
  show 0≤setF σ.ref _ _ r j∧setF σ.ref _ _ r j≤((σ.N+1:Nat):Int)
  unfold setF
  split <;> (constructor <;> (try dsimp only) <;> omega)
 ·show setF σ.np _ _ r≤_
  have:=h.np r
  unfold setF
  split <;> omega
 ·show setF σ.nw _ _ r≤_
  have:=h.nw r
  unfold setF
  split <;> omega
theorem GOk.setRef{T B:Nat}{σ:GS}(h:GOk T B σ)(r b:Int){y:Int}(h1:0≤y)(h2:y≤(σ.N:Int)):GOk T B (σ.setRef r b y):=by
 refine⟨h.cap,h.len,h.mem,fun x j=>?_,h.np,h.nw⟩
 show 0≤setF σ.ref r (setF (σ.ref r) b y) x j∧setF σ.ref r (setF (σ.ref r) b y) x j≤(σ.N:Int)
 unfold setF
 split
 ·dsimp only
  split
  ·exact⟨h1,h2⟩
  ·exact h.ref r j
 ·exact h.ref x j
theorem GOk.setDat{T B:Nat}{σ:GS}(h:GOk T B σ)(r b v:Int):GOk T B (σ.setDat r b v):=⟨h.cap,h.len,h.mem,h.ref,h.np,h.nw⟩
theorem GOk.tick{T B:Nat}{σ:GS}(h:GOk T B σ)(t:Nat):GOk T B (σ.tick t):=⟨h.cap,h.len,h.mem,h.ref,h.np,h.nw⟩
structure Can(M:Nat)(σ:GS):Prop where
 m:M≤1048576
 n:σ.N+1≤4096
def visit(L:List Int)(r:Int):List Int:=if r=0∨r∈L then L else L++[r]
def visits(L:List Int)(l:List Int):List Int:=l.foldl visit L
def num(L:List Int)(r:Int):Int:=if r∈L then ((L.idxOf r+1:Nat):Int) else 0
def kids(σ:GS)(r:Int):List Int:=(List.range (σ.np r)).map fun (j:Nat)=>σ.ref r (j:Int)
def rootsOf(σ:GS)(T:Nat):List Int:=(List.range T).flatMap σ.st
def bfs(σ:GS)(T:Nat):Nat→List Int
 | 0=>visits [] (rootsOf σ T)
 | n+1=>match (bfs σ T n)[n]? with
  | some r=>visits (bfs σ T n) (kids σ r)
  | none=>bfs σ T n
def order(σ:GS)(T:Nat):List Int:=bfs σ T σ.N
section
variable {T B:Nat}{σ:GS}
end
def shapeT(σ:GS)(O:List Int)(t:Nat):List Int:=((σ.st t).length:Int)::(σ.st t).map (num O)
def datas(σ:GS)(r:Int):List Int:=(List.range (σ.nw r)).map fun (j:Nat)=>σ.dat r (j:Int)
def shapeO(σ:GS)(O:List Int)(r:Int):List Int:=[(σ.np r:Int),(σ.nw r:Int)]++(kids σ r).map (num O)++datas σ r
def shape(σ:GS)(T:Nat):List Int:=(List.range T).flatMap (shapeT σ (order σ T))++(order σ T).flatMap (shapeO σ (order σ T))
def sizeOb(σ:GS)(r:Int):Nat:=1+σ.np r+σ.nw r
def words(σ:GS)(T:Nat):Nat:=((order σ T).map (sizeOb σ)).sum
end Go.Proofs.YteacgfeiedcdiaaGreatDoor
