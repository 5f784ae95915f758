/- Several texts joined (pack.py): Ro Gp. -/
import Derived.Test.YtimlkjppaalfaaaGreatDoorProg
import Derived.Test.YtimlkjppaalfaaaGreatDoorPW01
import Derived.WalkKit
import Derived.BigQuiet
set_option linter.unusedVariables false
set_option maxRecDepth 100000
open List renaming mem_cons->C1
open Int renaming eq_ofNat_of_zero_le->Da
namespace Go.Proofs.YtimlkjppaalfaaaGreatDoor
open Go.RowKit Go.Gl
theorem Tryz.gp:(Tryz.prog.info? 154).map (λi=>(i.zero,i.size,i.bytes))=some (some (.int .u64 0),1,8):=by kernel_rfl
def cN(l:List Int):List Value:=l.map (Value.int .u64)
theorem kX(l:List Int):(cN l).length=l.length:=by simp[cN]
theorem pE(a b:List Int):cN (a++b)=cN a++cN b:=by simp[cN]
theorem mE(l:List Int)(k:Nat):cN (l.take k)=(cN l).take k:=by simp[cN,List.map_take]
theorem wL(l:List Int)(k:Nat)(r:Int):cN (l.set k r)=(cN l).set k (.int .u64 r):=by simp[cN,List.map_set]
theorem wM(l:List Int):∀u∈cN l,u.oneCell'=true:=by
 intro u hu;obtain⟨x,_,rfl⟩:=List.mem_map.1 hu;rfl
theorem ic(l:List Int){k:Nat}(h:k<l.length):(cN l)[k]?=some (.int .u64 (l.getD k 0)):=by simp[cN,h]
theorem tG{w:World}{e:TypeId}{A:Option Addr}{n c:Nat}{G:List Nat}{l:List Int}(h:Lr w e A n c G (cN l)):Sl w A n (λk=>.int .u64 (l.getD k 0)):=λhn=>by
 obtain⟨g,off,h1,_,h2,h3,_⟩:=h.pos hn;refine⟨g,off,h1,h2,λk hk=>?_⟩;rw[h3 k hk,ic _ (by have:=h.len;rw[kX]at this;omega)]
theorem wN(w:World)(e:TypeId)(A:Option Addr):Lr w e A 0 0 [] []:=⟨rfl,Nat.le_refl _,Nat.zero_le _,λ_=>rfl,λh=>absurd h (by decide)⟩
structure Hk(lay:Value->Array Value)(t:TypeId)(w:World)(s:Nat)(A:Option Addr)(c:Nat)(G:List Nat)(l:List Int):Prop where
 st:Blk w s t (lay (.slice A l.length c))
 row:Lr w 154 A l.length c G (cN l)
def AV(B:Nat)(v:Value):Array Value:=#[v,.int .i64 (B:Int)]
def q9(B:Nat)(v:Value):Array Value:=#[.int .i64 (B:Int),v]
section
variable {lay:Value->Array Value}{t:TypeId}{w w':World}{s c B:Nat}{A:Option Addr}{F G:List Nat}{l:List Int}
theorem Hk.fr(h:Hk lay t w s A c G l)(hf:Fr F w w')(h1:s∉F)(h2:∀g,g∈G->g∉F):Hk lay t w' s A c G l:=⟨h.st.fr hf h1,h.row.fr hf h2⟩
theorem Hk.far(h:Hk lay t w s A c G l)(ht:154≠t):s∉G:=h.row.apart h.st ht
theorem Hk.put(h:Hk lay t w s A c G l)(ht:154≠t){ci:Nat}(hl:∀a b,(lay a).setIfInBounds ci b=lay b){l':List Int}{A':Option Addr}{c':Nat}{G':List Nat}(hf:Fr G w w')(hr:Lr w' 154 A' l'.length c' G' (cN l')) :
  Hk lay t (w'.setCell ⟨s,ci,none⟩ (.slice A' l'.length c')) s A' c' G' l':=by
 have h1:=h.st.fr hf (h.far ht);refine⟨by have:=h1.put ci (.slice A' l'.length c');rwa[hl]at this,hr.fr (F:=[s]) ((Fr.refl _ _).setCell (p:=⟨s,ci,none⟩) (.inl (by simp)) _) λg hg h0=>?_⟩;simp at h0;subst h0;exact hr.apart h1 ht hg
theorem Hk.wO(hf:Fr G w w')(ci:Nat)(v:Value):Fr (s::G) w (w'.setCell ⟨s,ci,none⟩ v):=
 (hf.mono (G:=s::G) (λx hx=>.inl (by simp[hx]))).setCell (p:=⟨s,ci,none⟩) (.inl (by simp)) v
end
abbrev HkP(w:World)(s:Nat)(F:List Nat)(B:Nat)(l:List Int):Prop:=∃A c G,Hk (AV B) 130 w s A c G l/\F=s::G
section
variable {w w':World}{s c B:Nat}{A:Option Addr}{F F' G:List Nat}{l:List Int}
theorem HkP.fr(h:HkP w s F B l)(hf:Fr F' w w')(hd:∀g,g∈F->g∉F'):HkP w' s F B l:=by
 obtain⟨A,c,G,h,rfl⟩:=h;exact⟨A,c,G,h.fr hf (hd s (by simp)) (λg hg=>hd g (by simp[hg])),rfl⟩
theorem HkP.fr0(h:HkP w s F B l)(hf:Fr [] w w'):HkP w' s F B l:=h.fr hf (λ_ _=>by simp)
theorem HkP.drewN(h:HkP w s F B l)(k:Nat):HkP (w.drewN k) s F B l:=h.fr0 ((Fr.refl _ _).drewN k)
theorem HkP.lt(h:HkP w s F B l):∀g,g∈F->g<w.heap.size:=by
 obtain⟨A,c,G,h,rfl⟩:=h;intro g hg;rcases C1.1 hg with rfl|hg
 ·exact h.st.lt
 ·exact h.row.lt g hg
theorem HkP.at_(h:HkP w s F B l):∃A c,w.cell? ⟨s,0,none⟩=some (.slice A l.length c)/\w.cell? ⟨s,1,none⟩=some (.int .i64 (B:Int))/\(∀k,w.frozen? ⟨s,k,none⟩=false)/\l.length<=maxLen:=by
 obtain⟨A,c,G,h,rfl⟩:=h;exact⟨A,c,by rw[h.st.cell];rfl,by rw[h.st.cell];rfl,λk=>h.st.frozen k,Nat.le_trans h.row.le h.row.max⟩
end
def aG(l:List Int)(i:Int):Prop:=0<=i/\i<(l.length:Int)
instance (l:List Int) (i:Int):Decidable (aG l i):=by unfold aG;infer_instance
def aj(l:List Int)(i:Int):Int:=if aG l i then l.getD i.toNat 0 else 0
def am(l:List Int)(i:Int):Int:=if aG l i then 0 else 10
def aH(B:Nat)(l:List Int)(r:Int):List Int:=if l.length<B then l++[r] else l
def ay(B:Nat)(l:List Int):Int:=if l.length<B then 0 else 15
def dM(l:List Int):List Int:=l.take (l.length-1)
def fu(l:List Int):Int:=l.getD (l.length-1) 0
def cG(l:List Int):Int:=if l.length=0 then 14 else 0
theorem kY{B:Nat}{l:List Int}(h:l.length<=B)(r:Int):(aH B l r).length<=B:=by
 unfold aH;split
 ·simp;omega
 ·exact h
theorem mF{B:Nat}{l:List Int}(h:l.length<=B):(dM l).length<=B:=by unfold dM;simp;omega
theorem mH(l:List Int)(i:Int):(i<0/\¬ aG l i)\/(¬ i<0/\(l.length:Int)<=i/\¬ aG l i)\/∃k:Nat,i=(k:Int)/\k<l.length/\aG l (k:Int):=by
 unfold aG;by_cases h1:i<0
 ·exact .inl ⟨h1,by omega⟩
 by_cases h2:(l.length:Int)<=i
 ·exact .inr (.inl ⟨h1,h2,by omega⟩)
 ·obtain⟨k,rfl⟩:=Da (show 0<=i by omega);exact .inr (.inr ⟨k,rfl,by omega,by omega⟩)
def wP(Q:World->Nat->List Nat->Prop)(w:World)(e:Ending)(w':World):Prop:=∃s F,e=.returned (.tuple #[.pointer (some ⟨s,0,none⟩),.int .i64 0])/\Q w' s F/\Fr [] w w'/\∀x,x∈F->w.heap.size<=x
theorem zd(B:Nat)(h1:1<=B)(h2:B<=64)(w:World):Calls Tryz.prog 44 #[.int .i64 (B:Int)] w (wP (λw' s F=>HkP w' s F B []) w):=by
 have g1:¬ ((B:Int)<1):=by omega
 have g2:¬ ((B:Int)>64):=by omega
 go_enter Tryz.func44,Tryz.ntmps44
 go_wp2
 go_ret2
 exact⟨_,_,rfl,⟨none,0,[],⟨Blk.new _ _ _,Lr.nil _ _⟩,rfl⟩,(Fr.refl _ _).alloc _,λx hx=>by simp at hx;omega⟩
section
variable {w:World}{s B:Nat}{F:List Nat}{l:List Int}
theorem wQ(h:HkP w s F B l):Calls Tryz.prog 20 #[.pointer (some ⟨s,0,none⟩)] w λe w'=>e=.returned (.int .i64 (l.length:Int))/\w=w':=by
 obtain⟨A,c,c0,_,_,_⟩:=h.at_;clear h;go_enter Tryz.func20,Tryz.ntmps20
 go_wp2
 go_ret
 exact⟨rfl,rfl⟩
theorem iy(h:HkP w s F B l)(hl:l.length<=B)(hB:B<=64):Calls Tryz.prog 125 #[.pointer (some ⟨s,0,none⟩)] w λe w'=>e=.returned (.int .i64 ((B:Int)-(l.length:Int)))/\∃k,w'=w.drewN k:=by
 obtain⟨A,c,c0,c1,_,_⟩:=h.at_;have e1:IntKind.i64.wrap ((B:Int)-(l.length:Int))=(B:Int)-(l.length:Int):=IntWalk.i64_in _ ⟨by omega,by omega⟩;clear h;go_enter Tryz.func125,Tryz.ntmps125
 go_wp2_with fail
 go_quiet (fail)
 go_wp2
 go_ret
 exact⟨rfl,_,rfl⟩
theorem wS(h:HkP w s F B l)(i:Int):Calls Tryz.prog 135 #[.pointer (some ⟨s,0,none⟩),.int .i64 i] w λe w'=>e=.returned (.int .i64 (am l i))/\w=w':=by
 obtain⟨A,c,c0,_,_,_⟩:=h.at_;clear h;unfold am;rcases mH l i with⟨h1,h2⟩|⟨h1,h3,h2⟩|⟨k,rfl,h3,h2⟩
 ·rw[if_neg h2];clear h2;go_enter Tryz.func135,Tryz.ntmps135
  go_wp2
  go_ret
  exact⟨rfl,rfl⟩
 ·rw[if_neg h2];clear h2;go_enter Tryz.func135,Tryz.ntmps135
  go_wp2
  go_ret
  exact⟨rfl,rfl⟩
 ·rw[if_pos h2];clear h2;have h4:(k:Int)<(l.length:Int):=by omega
  go_enter Tryz.func135,Tryz.ntmps135
  go_wp2
  go_ret
  exact⟨rfl,rfl⟩
theorem tH(h:HkP w s F B l)(i:Int):Calls Tryz.prog 90 #[.pointer (some ⟨s,0,none⟩),.int .i64 i] w λe w'=>e=.returned (.tuple #[.int .u64 (aj l i),.int .i64 (am l i)])/\w=w':=by
 have HA:=aa (wS h i);by_cases hi:aG l i
 ·have hi':=hi;unfold aG at hi';obtain⟨k,rfl⟩:=Da hi'.1;have hk:k<l.length:=by omega
  have hk':(k:Int)<(l.length:Int):=by omega
  obtain⟨A,c,G,h,rfl⟩:=h;obtain⟨g,off,rfl,_,_,hx,_,_⟩:=h.row.pos (by omega);have c0:w.cell? ⟨s,0,none⟩=some (.slice (some ⟨g,off,none⟩) l.length c):=by rw[h.st.cell];rfl
  have c1:w.cell? ⟨g,off+k,none⟩=some (.int .u64 (l.getD k 0)):=by rw[hx k hk,ic l hk]
  have e1:aj l (k:Int)=l.getD k 0:=by unfold aj;rw[if_pos hi];rfl
  have e2:am l (k:Int)=0:=by unfold am;rw[if_pos hi]
  rw[e1];rw[e2]at HA ⊢;clear h hx hi hi' e1 e2;generalize l.getD k 0=x at *;generalize l.length=n at *;go_enter Tryz.func90,Tryz.ntmps90
  go_wp2_with fail
  refine HA.out.mono ?_;rintro e w' ⟨rfl,rfl⟩;go_wp2_with fail
  go_ret2
  exact⟨rfl,rfl⟩
 ·have e1:aj l i=0:=by unfold aj;rw[if_neg hi]
  have e2:am l i=10:=by unfold am;rw[if_neg hi]
  rw[e1];rw[e2]at HA ⊢;clear h hi e1 e2;go_enter Tryz.func90,Tryz.ntmps90
  go_wp2_with fail
  refine HA.out.mono ?_;rintro e w' ⟨rfl,rfl⟩;go_wp2_with fail
  go_ret2
  exact⟨rfl,rfl⟩
end
def kZ(w:World)(F:List Nat)(Q:World->List Nat->Prop)(v:Value)(e:Ending)(w':World):Prop:=
 ∃F',e=.returned v/\Q w' F'/\Fr F w w'/\∀x,x∈F'->x∈F\/w.heap.size<=x
section
variable {w:World}{s B:Nat}{F:List Nat}{l:List Int}
theorem wT(h:HkP w s F B l)(hl:l.length<=B)(hB:B<=64):Calls Tryz.prog 129 #[.pointer (some ⟨s,0,none⟩)] w (kZ w F (λw' F'=>HkP w' s F' B (dM l)) (.tuple #[.int .u64 (fu l),.int .i64 (cG l)])):=by
 have HH:=aa h;obtain⟨A,c,G,h,rfl⟩:=h;rcases Nat.eq_zero_or_pos l.length with h0|h0
 ·obtain rfl:l=[]:=List.eq_nil_of_length_eq_zero h0;have c0:w.cell? ⟨s,0,none⟩=some (.slice A 0 c):=by rw[h.st.cell];rfl
  clear h;go_enter Tryz.func129,Tryz.ntmps129
  go_wp2
  go_ret2
  exact⟨_,rfl,HH.out,Fr.refl _ _,λx hx=>.inl hx⟩
 ·obtain⟨k,hk⟩:∃k,l.length=k+1:=⟨l.length-1,by omega⟩;obtain⟨g,off,rfl,rfl,_,hx,_,_⟩:=h.row.pos (by omega);have c0:w.cell? ⟨s,0,none⟩=some (.slice (some ⟨g,off,none⟩) (k+1) c):=by rw[h.st.cell,<- hk];rfl
  have c1:w.cell? ⟨g,off+k,none⟩=some (.int .u64 (l.getD k 0)):=by rw[hx k (by omega),ic l (by omega)]
  have z0:=h.st.frozen 0;have hkc:k+1<=c:=by have:=h.row.le;omega
  have hcm:=h.row.max;unfold maxLen at hcm;have e1:dM l=l.take k:=by unfold dM;rw[hk];rfl
  have e2:fu l=l.getD k 0:=by unfold fu;rw[hk];rfl
  have e3:cG l=0:=by unfold cG;rw[if_neg (by omega)]
  have hlen:(l.take k).length=k:=by rw[List.length_take];omega
  have HQ:Hid (HkP (w.setCell ⟨s,0,none⟩ (.slice (some ⟨g,off,none⟩) k c)) s (s::[g]) B (l.take k)):=by
   have h1:=h.row.keep k (by omega);rw[<- mE]at h1;have h2:=h.put (by decide) (ci:=0) (λ_ _=>rfl) (l':=l.take k) (Fr.refl _ _) (by rw[hlen];exact h1);rw[hlen]at h2;exact⟨_,c,[g],h2,rfl⟩
  rw[e1,e2,e3];clear h hx e1 e2 e3 hlen hk HH h0 hl hB;generalize l.getD k 0=x at *;generalize l.take k=l' at *;go_enter Tryz.func129,Tryz.ntmps129
  go_wp2
  go_ret2
  exact⟨_,rfl,HQ.out,(Fr.refl _ _).setCell (p:=⟨s,0,none⟩) (.inl (by simp)) _,λx hx=>.inl hx⟩
theorem mI(h:HkP w s F B l)(hl:l.length<=B)(hB:B<=64)(r:Int):Calls Tryz.prog 95 #[.pointer (some ⟨s,0,none⟩),.int .u64 r] w (kZ w F (λw' F'=>HkP w' s F' B (aH B l r)) (.int .i64 (ay B l))):=by
 obtain⟨i0,hi,hz0,hz1,hz2⟩:=info_parts Tryz.gp;have HR:=aa (iy h hl hB);have HH:=aa h;by_cases hlt:l.length<B
 ·have e1:aH B l r=l++[r]:=by unfold aH;rw[if_pos hlt]
  have e2:ay B l=0:=by unfold ay;rw[if_pos hlt]
  obtain⟨D,hD,hD0⟩:∃D:Nat,(B:Int)-(l.length:Int)=(D:Int)/\D≠0:=⟨B-l.length,by omega,by omega⟩;have hn:((D:Int)==0)=false:=by simpa using hD0
  rw[hD]at HR;rw[e1,e2];clear e1 e2 hD hD0;obtain⟨A,c,G,h,rfl⟩:=h;have HL:=aa h;have HN:Hid (([Value.int .u64 r]).length=1/\(∀u∈[Value.int .u64 r],u.oneCell'=true)/\l.length+1<=maxLen/\(l.length+1)*8<=140737488355328):=⟨rfl,by simp[Value.oneCell'],by unfold maxLen;omega,by omega⟩;clear h hl hB hlt;go_enter Tryz.func95,Tryz.ntmps95
  go_wp2_with fail
  refine HR.out.mono ?_;rintro e w1 ⟨rfl,q,hq⟩;have HL1:Hid (Hk (AV B) 130 w1 s A c G l):=hq ▸ HL.out.fr ((Fr.refl [] w).drewN q) (by simp) (λ_ _=>by simp);have HF1:Hid (Fr [] w w1):=hq ▸ (Fr.refl [] w).drewN q;clear hq HR;have c0:w1.cell? ⟨s,0,none⟩=some (.slice A l.length c):=by rw[HL1.out.st.cell];rfl
  have N0:s<w1.heap.size:=HL1.out.st.lt;have HFZ:Hid (∀w2 w',Fr [] w1 w2->Fr G w2 w'->w'.cell? ⟨s,0,none⟩=some (.slice A l.length c)/\w'.frozen? ⟨s,0,none⟩=false):=λw2 w' hf0 hf=>by
   have hb:=(HL1.out.st.fr hf0 (by simp)).fr hf (HL1.out.far (by decide));exact⟨by rw[hb.cell];rfl,hb.frozen 0⟩
  have HL2:Hid (Hk (AV B) 130 (w1.alloc (.cells #[.int .u64 r] 154)) s A c G l):=HL1.out.fr ((Fr.refl [] w1).alloc _) (by simp) (λ_ _=>by simp);obtain⟨n,hn0⟩:∃n,n=l.length:=⟨_,rfl⟩;have hlen:(l++[r]).length=n+1:=by simp[hn0]
  rw[<- hn0]at c0 HN HFZ;have HLR:Hid (Lr (w1.alloc (.cells #[.int .u64 r] 154)) 154 A n c G (cN l)):=by rw[hn0];exact HL2.out.row
  have HLN:=aa hlen;clear hn0 hlen;go_wp2_with (first|(at_builtin;refine aS rfl _ _ 128 rfl 154 i0 (.int .u64 0) 8 Tryz.underlying128 hi hz0 hz1 hz2 rfl rfl HLR.out rfl HN.out.1 (λ_=>fq w1 _ 154 rfl _ (Fr.refl _ _)) HN.out.2.1 HN.out.2.2.1 HN.out.2.2.2 ?_;intro A' c' G' w' HLn HFn HGn;have d0:=(HFZ.out _ _ ((Fr.refl _ _).alloc _) HFn.out).1;have dz:=(HFZ.out _ _ ((Fr.refl _ _).alloc _) HFn.out).2))
  have HQ:Hid (HkP (w'.setCell ⟨s,0,none⟩ (.slice A' (n+1) c')) s (s::G') B (l++[r])):=by
   have h2:=HL2.out.put (by decide) (ci:=0) (λ_ _=>rfl) (l':=l++[r]) (A':=A') (c':=c') (G':=G') HFn.out (by rw[HLN.out,pE];exact HLn.out);rw[HLN.out]at h2;exact⟨_,c',G',h2,rfl⟩
  have HF2:Hid (Fr (s::G) w (w'.setCell ⟨s,0,none⟩ (.slice A' (n+1) c'))):=((HF1.out.alloc (.cells #[.int .u64 r] 154)).mono (G:=s::G) (λ_ h=>by cases h)).ae (Hk.wO HFn.out 0 _);go_ret
  refine⟨_,rfl,HQ.out,HF2.out,λx hx=>?_⟩;rcases C1.1 hx with rfl|hx
  ·exact .inl (by simp)
  ·rcases HGn.out x hx with h1|⟨h1,_⟩
   ·exact .inl (by simp[h1])
   ·have:=HF1.out.size;right;rw[h1];simp;omega
 ·have e1:aH B l r=l:=by unfold aH;rw[if_neg hlt]
  have e2:ay B l=15:=by unfold ay;rw[if_neg hlt]
  have hn:(B:Int)-(l.length:Int)=0:=by omega
  rw[e1,e2];rw[hn]at HR;clear e1 e2 h hn;go_enter Tryz.func95,Tryz.ntmps95
  go_wp2_with fail
  refine HR.out.mono ?_;rintro e w1 ⟨rfl,q,rfl⟩;go_wp2_with fail
  go_ret
  exact⟨F,rfl,HH.out.drewN q,(Fr.refl _ _).drewN q,λx hx=>.inl hx⟩
end
theorem Tryz.wU(w:World):(binOp BinOp.eql 128 (Value.slice none 0 0) (Value.slice none 0 0)).run Tryz.prog w=.ok (.bool true) w:=by kernel_rfl
theorem Tryz.ul(a:Addr)(n c:Nat)(w:World):(binOp BinOp.eql 128 (Value.slice (some a) n c) (Value.slice none 0 0)).run Tryz.prog w=.ok (.bool false) w:=by kernel_rfl
def iz(w:World)(l:List Int)(e:Ending)(w':World):Prop:=∃A c G,e=.returned (.slice A l.length c)/\Lr w' 154 A l.length c G (cN l)/\Fr [] w w'/\∀g,g∈G->w.heap.size<=g
theorem um{w:World}{A:Option Addr}{c:Nat}{G:List Nat}{l:List Int}(h:Lr w 154 A l.length c G (cN l))(hl:l.length<=65536):Calls Tryz.prog 108 #[.slice A l.length c] w (iz w l):=by
 obtain⟨i0,hi,hz0,hz1,hz2⟩:=info_parts Tryz.gp;rcases h.form with⟨rfl,rfl⟩|⟨a,rfl⟩
 ·have h0:l.length=0:=by have:=h.le;omega
  obtain rfl:l=[]:=List.eq_nil_of_length_eq_zero h0;clear h;have b0:=Tryz.wU;go_enter Tryz.func108,Tryz.ntmps108
  go_wp2
  go_ret
  exact⟨none,0,[],rfl,Lr.nil _ _,Fr.refl _ _,λ_ h=>by cases h⟩
 ·have HN:Hid ((cN l).length=l.length/\(∀u∈cN l,u.oneCell'=true)/\0+l.length<=maxLen/\(0+l.length)*8<=140737488355328):=⟨kX _,wM _,by unfold maxLen;omega,by omega⟩;have H:=aa h;have HR:Hid (∀w',Fr [] w w'->0<l.length->∃ad,some a=some ad/\∀j u,(cN l)[j]?=some u->w'.cell? (ad.add j)=some u):=λw' hf=>(h.fr0 hf).read;have b0:=Tryz.ul a;clear h hl;go_enter Tryz.func108,Tryz.ntmps108
  go_wp2_with (first|(at_builtin;go_loud (refine aS rfl _ _ 128 rfl 154 i0 (.int .u64 0) 8 Tryz.underlying128 hi hz0 hz1 hz2 rfl rfl (wN _ _ _) rfl HN.out.1 (HR.out _ ((Fr.refl _ _).alloc _)) HN.out.2.1 HN.out.2.2.1 HN.out.2.2.2 ?_;intro A' c' G' w' HLn HFn HGn)))
  go_ret
  have h1:=HLn.out;rw[Nat.zero_add,List.nil_append]at h1;exact⟨A',c',G',rfl,h1,((Fr.refl _ _).alloc _).ae HFn.out,λg hg=>by
   rcases HGn.out g hg with h2|⟨h2,_⟩
   ·cases h2
   ·rw[h2];simp⟩
theorem un{w:World}{s B:Nat}{F:List Nat}{l:List Int}(h:HkP w s F B l)(hl:l.length<=65536):Calls Tryz.prog 57 #[.pointer (some ⟨s,0,none⟩)] w (iz w l):=by
 obtain⟨A,c,G,h,rfl⟩:=h;have HC:=aa (um h.row hl);have c0:w.cell? ⟨s,0,none⟩=some (.slice A l.length c):=by rw[h.st.cell];rfl
 clear h hl;go_enter Tryz.func57,Tryz.ntmps57
 go_wp2_with fail
 refine HC.out.mono ?_;rintro e w' ⟨A',c',G',rfl,h1,h2,h3⟩;have H1:=aa h1;have H2:=aa h2;have H3:=aa h3;clear h1 h2 h3;go_wp2_with fail
 go_ret
 exact⟨A',c',G',rfl,H1.out,H2.out,H3.out⟩
abbrev HkR(w:World)(s:Nat)(F:List Nat)(B:Nat)(l:List Int):Prop:=∃A c G,Hk (q9 B) 200 w s A c G l/\F=s::G
section
variable {w w':World}{s c B:Nat}{A:Option Addr}{F F' G:List Nat}{l:List Int}
theorem HkR.fr(h:HkR w s F B l)(hf:Fr F' w w')(hd:∀g,g∈F->g∉F'):HkR w' s F B l:=by
 obtain⟨A,c,G,h,rfl⟩:=h;exact⟨A,c,G,h.fr hf (hd s (by simp)) (λg hg=>hd g (by simp[hg])),rfl⟩
theorem HkR.fr0(h:HkR w s F B l)(hf:Fr [] w w'):HkR w' s F B l:=h.fr hf (λ_ _=>by simp)
theorem HkR.drewN(h:HkR w s F B l)(k:Nat):HkR (w.drewN k) s F B l:=h.fr0 ((Fr.refl _ _).drewN k)
theorem HkR.lt(h:HkR w s F B l):∀g,g∈F->g<w.heap.size:=by
 obtain⟨A,c,G,h,rfl⟩:=h;intro g hg;rcases C1.1 hg with rfl|hg
 ·exact h.st.lt
 ·exact h.row.lt g hg
theorem HkR.sl(h:HkR w s F B l):∃A c,w.cell? ⟨s,1,none⟩=some (.slice A l.length c)/\w.cell? ⟨s,0,none⟩=some (.int .i64 (B:Int))/\Sl w A l.length (λk=>.int .u64 (l.getD k 0)):=by
 obtain⟨A,c,G,h,rfl⟩:=h;exact⟨A,c,by rw[h.st.cell];rfl,by rw[h.st.cell];rfl,tG h.row⟩
end
theorem uo(B:Nat)(h1:1<=B)(h2:B<=64)(w:World):Calls Tryz.prog 51 #[.int .i64 (B:Int)] w (wP (λw' s F=>HkR w' s F B []) w):=by
 have g1:¬ ((B:Int)<1):=by omega
 have g2:¬ ((B:Int)>64):=by omega
 go_enter Tryz.func51,Tryz.ntmps51
 go_wp2
 go_ret2
 exact⟨_,_,rfl,⟨none,0,[],⟨Blk.new _ _ _,Lr.nil _ _⟩,rfl⟩,(Fr.refl _ _).alloc _,λx hx=>by simp at hx;omega⟩
section
variable {w:World}{s B:Nat}{F:List Nat}{l:List Int}
theorem uq(h:HkR w s F B l)(i:Int):Calls Tryz.prog 105 #[.pointer (some ⟨s,0,none⟩),.int .i64 i] w λe w'=>e=.returned (.tuple #[.int .u64 (aj l i),.int .i64 (am l i)])/\w=w':=by
 obtain⟨A,c,G,h,rfl⟩:=h;have c0:w.cell? ⟨s,1,none⟩=some (.slice A l.length c):=by rw[h.st.cell];rfl
 unfold aj am;rcases mH l i with⟨h1,h2⟩|⟨h1,h3,h2⟩|⟨k,rfl,h3,h2⟩
 ·rw[if_neg h2,if_neg h2];clear h2 h;go_enter Tryz.func105,Tryz.ntmps105
  go_wp2
  go_ret2
  exact⟨rfl,rfl⟩
 ·rw[if_neg h2,if_neg h2];clear h2 h;go_enter Tryz.func105,Tryz.ntmps105
  go_wp2
  go_ret2
  exact⟨rfl,rfl⟩
 ·rw[if_pos h2,if_pos h2];clear h2;have h4:(k:Int)<(l.length:Int):=by omega
  obtain⟨g,off,rfl,_,_,hx,_,_⟩:=h.row.pos (by omega);have c1:w.cell? ⟨g,off+k,none⟩=some (.int .u64 (l.getD k 0)):=by rw[hx k h3,ic l h3]
  rw[Int.toNat_natCast];clear h hx;generalize l.getD k 0=x at *;generalize l.length=n at *;go_enter Tryz.func105,Tryz.ntmps105
  go_wp2
  go_ret2
  exact⟨rfl,rfl⟩
theorem rf(h:HkR w s F B l)(hl:l.length<=B)(hB:B<=64):Calls Tryz.prog 106 #[.pointer (some ⟨s,0,none⟩)] w (kZ w F (λw' F'=>HkR w' s F' B (dM l)) (.tuple #[.int .u64 (fu l),.int .i64 (cG l)])):=by
 have HH:=aa h;obtain⟨A,c,G,h,rfl⟩:=h;rcases Nat.eq_zero_or_pos l.length with h0|h0
 ·obtain rfl:l=[]:=List.eq_nil_of_length_eq_zero h0;have c0:w.cell? ⟨s,1,none⟩=some (.slice A 0 c):=by rw[h.st.cell];rfl
  clear h;go_enter Tryz.func106,Tryz.ntmps106
  go_wp2
  go_ret2
  exact⟨_,rfl,HH.out,Fr.refl _ _,λx hx=>.inl hx⟩
 ·obtain⟨k,hk⟩:∃k,l.length=k+1:=⟨l.length-1,by omega⟩;obtain⟨g,off,rfl,rfl,_,hx,_,_⟩:=h.row.pos (by omega);have c0:w.cell? ⟨s,1,none⟩=some (.slice (some ⟨g,off,none⟩) (k+1) c):=by rw[h.st.cell,<- hk];rfl
  have c1:w.cell? ⟨g,off+k,none⟩=some (.int .u64 (l.getD k 0)):=by rw[hx k (by omega),ic l (by omega)]
  have z0:=h.st.frozen 1;have hkc:k+1<=c:=by have:=h.row.le;omega
  have hcm:=h.row.max;unfold maxLen at hcm;have e1:dM l=l.take k:=by unfold dM;rw[hk];rfl
  have e2:fu l=l.getD k 0:=by unfold fu;rw[hk];rfl
  have e3:cG l=0:=by unfold cG;rw[if_neg (by omega)]
  have hlen:(l.take k).length=k:=by rw[List.length_take];omega
  have HQ:Hid (HkR (w.setCell ⟨s,1,none⟩ (.slice (some ⟨g,off,none⟩) k c)) s (s::[g]) B (l.take k)):=by
   have h1:=h.row.keep k (by omega);rw[<- mE]at h1;have h2:=h.put (by decide) (ci:=1) (λ_ _=>rfl) (l':=l.take k) (Fr.refl _ _) (by rw[hlen];exact h1);rw[hlen]at h2;exact⟨_,c,[g],h2,rfl⟩
  rw[e1,e2,e3];clear h hx e1 e2 e3 hlen hk HH h0 hl hB;generalize l.getD k 0=x at *;generalize l.take k=l' at *;go_enter Tryz.func106,Tryz.ntmps106
  go_wp2
  go_ret2
  exact⟨_,rfl,HQ.out,(Fr.refl _ _).setCell (p:=⟨s,1,none⟩) (.inl (by simp)) _,λx hx=>.inl hx⟩
theorem pF(h:HkR w s F B l)(hl:l.length<=B)(hB:B<=64)(r:Int):Calls Tryz.prog 103 #[.pointer (some ⟨s,0,none⟩),.int .u64 r] w (kZ w F (λw' F'=>HkR w' s F' B (aH B l r)) (.int .i64 (ay B l))):=by
 obtain⟨i0,hi,hz0,hz1,hz2⟩:=info_parts Tryz.gp;have HH:=aa h;obtain⟨A,c,G,h,rfl⟩:=h;have c0:w.cell? ⟨s,1,none⟩=some (.slice A l.length c):=by rw[h.st.cell];rfl
 have c1:w.cell? ⟨s,0,none⟩=some (.int .i64 (B:Int)):=by rw[h.st.cell];rfl
 by_cases hlt:l.length<B
 ·have e1:aH B l r=l++[r]:=by unfold aH;rw[if_pos hlt]
  have e2:ay B l=0:=by unfold ay;rw[if_pos hlt]
  have hn:¬ ((l.length:Int)>=(B:Int)):=by omega
  rw[e1,e2];clear e1 e2;have HL:=aa h;have HN:Hid (([Value.int .u64 r]).length=1/\(∀u∈[Value.int .u64 r],u.oneCell'=true)/\l.length+1<=maxLen/\(l.length+1)*8<=140737488355328):=⟨rfl,by simp[Value.oneCell'],by unfold maxLen;omega,by omega⟩;obtain⟨n,hn0⟩:∃n,n=l.length:=⟨_,rfl⟩;have hlen:(l++[r]).length=n+1:=by simp[hn0]
  rw[<- hn0]at c0 HN hn;have HN0:=aa hn0;have HLN:=aa hlen;clear h hl hB hlt hn0 hlen;go_enter Tryz.func103,Tryz.ntmps103
  go_wp2_with fail
  go_quiet (fail)
  have HL1:Hid (Hk (q9 B) 200 (w.drewN nq) s A c G l):=HL.out.fr ((Fr.refl [] w).drewN nq) (by simp) (λ_ _=>by simp);have HF1:Hid (Fr [] w (w.drewN nq)):=(Fr.refl [] w).drewN nq;clear c0 c1;generalize w.drewN nq=w1 at *;have c0:w1.cell? ⟨s,1,none⟩=some (.slice A n c):=by rw[HL1.out.st.cell,HN0.out];rfl
  have N0:s<w1.heap.size:=HL1.out.st.lt;have HFZ:Hid (∀w2 w',Fr [] w1 w2->Fr G w2 w'->w'.cell? ⟨s,1,none⟩=some (.slice A n c)/\w'.frozen? ⟨s,1,none⟩=false):=λw2 w' hf0 hf=>by
   have hb:=(HL1.out.st.fr hf0 (by simp)).fr hf (HL1.out.far (by decide));exact⟨by rw[hb.cell,HN0.out];rfl,hb.frozen 1⟩
  have HL2:Hid (Hk (q9 B) 200 (w1.alloc (.cells #[.int .u64 r] 154)) s A c G l):=HL1.out.fr ((Fr.refl [] w1).alloc _) (by simp) (λ_ _=>by simp);have HLR:Hid (Lr (w1.alloc (.cells #[.int .u64 r] 154)) 154 A n c G (cN l)):=by rw[HN0.out];exact HL2.out.row
  go_wp2_with (first|(at_builtin;refine aS rfl _ _ 128 rfl 154 i0 (.int .u64 0) 8 Tryz.underlying128 hi hz0 hz1 hz2 rfl rfl HLR.out rfl HN.out.1 (λ_=>fq w1 _ 154 rfl _ (Fr.refl _ _)) HN.out.2.1 HN.out.2.2.1 HN.out.2.2.2 ?_;intro A' c' G' w' HLn HFn HGn;have d0:=(HFZ.out _ _ ((Fr.refl _ _).alloc _) HFn.out).1;have dz:=(HFZ.out _ _ ((Fr.refl _ _).alloc _) HFn.out).2))
  have HQ:Hid (HkR (w'.setCell ⟨s,1,none⟩ (.slice A' (n+1) c')) s (s::G') B (l++[r])):=by
   have h2:=HL2.out.put (by decide) (ci:=1) (λ_ _=>rfl) (l':=l++[r]) (A':=A') (c':=c') (G':=G') HFn.out (by rw[HLN.out,pE];exact HLn.out);rw[HLN.out]at h2;exact⟨_,c',G',h2,rfl⟩
  have HF2:Hid (Fr (s::G) w (w'.setCell ⟨s,1,none⟩ (.slice A' (n+1) c'))):=((HF1.out.alloc (.cells #[.int .u64 r] 154)).mono (G:=s::G) (λ_ h=>by cases h)).ae (Hk.wO HFn.out 1 _);go_ret
  refine⟨_,rfl,HQ.out,HF2.out,λx hx=>?_⟩;rcases C1.1 hx with rfl|hx
  ·exact .inl (by simp)
  ·rcases HGn.out x hx with h1|⟨h1,_⟩
   ·exact .inl (by simp[h1])
   ·have:=HF1.out.size;right;rw[h1];simp;omega
 ·have e1:aH B l r=l:=by unfold aH;rw[if_neg hlt]
  have e2:ay B l=15:=by unfold ay;rw[if_neg hlt]
  have hn:(l.length:Int)>=(B:Int):=by omega
  rw[e1,e2];clear e1 e2 h;go_enter Tryz.func103,Tryz.ntmps103
  go_wp2_with fail
  go_quiet (fail)
  go_wp2_with fail
  go_ret
  exact⟨_,rfl,HH.out.drewN nq,(Fr.refl _ _).drewN nq,λx hx=>.inl hx⟩
end
def ai{α β:Type}[DecidableEq α](f:α->β)(k:α)(v:β):α->β:=λx=>if x=k then v else f x
section
variable {α β:Type}[DecidableEq α]
theorem aq(f:α->β)(k:α)(v:β):ai f k v k=v:=by simp[ai]
theorem az(f:α->β){k x:α}(v:β)(h:x≠k):ai f k v x=f x:=by simp[ai,h]
theorem iA(f:α->β)(k:α):ai f k (f k)=f:=by
 funext x
 unfold ai;split
 ·rename_i h;rw[h]
 ·rfl
end
structure GS where
 st:Nat->List Int
 done:Nat->Nat
 N:Nat
 np:Int->Nat
 nw:Int->Nat
 ref:Int->Int->Int
 dat:Int->Int->Int
def G0:GS:=⟨λ_=>[],λ_=>0,0,λ_=>0,λ_=>0,λ_ _=>0,λ_ _=>0⟩
def GS.jv(σ:GS)(t:Nat)(l:List Int):GS:={ σ with st:=ai σ.st t l }
def GS.push(σ:GS)(B t:Nat)(r:Int):GS:=σ.jv t (aH B (σ.st t) r)
def GS.new(σ:GS)(a b:Int):GS:=
 { σ with N:=σ.N+1,np:=ai σ.np ((σ.N:Int)+1) a.toNat,nw:=ai σ.nw ((σ.N:Int)+1) b.toNat,ref:=ai σ.ref ((σ.N:Int)+1) (λ_=>0),dat:=ai σ.dat ((σ.N:Int)+1) (λ_=>0) }
def GS.setRef(σ:GS)(r b y:Int):GS:={ σ with ref:=ai σ.ref r (ai (σ.ref r) b y) }
def GS.cQ(σ:GS)(r b v:Int):GS:={ σ with dat:=ai σ.dat r (ai (σ.dat r) b v) }
def aE(M:Nat)(a b:Int):Prop:=a<0\/b<0\/a+b=0\/(M:Int)<1+a+b
instance (M:Nat) (a b:Int):Decidable (aE M a b):=by unfold aE;infer_instance
def aA(n:Nat)(b:Int):Prop:=0<=b/\b<(n:Int)
instance (n:Nat) (b:Int):Decidable (aA n b):=by unfold aA;infer_instance
section
variable (B M T:Nat)(σ:GS)(t:Nat)(a b c v:Int)
def eG:Int:=if aE M a b then 13 else ay B (σ.st t)
def bZ:GS:=if aE M a b then σ else if (σ.st t).length<B then (σ.new a b).push B t ((σ.N:Int)+1) else σ
def aD:Int:=if aG (σ.st t) a then (if aj (σ.st t) a=0 then 12 else 0) else 10
def fN:Int:=if aD σ t a≠0 then aD σ t a else if aA (σ.np (aj (σ.st t) a)) b then ay B (σ.st t) else 11
def dN:GS:=if aD σ t a=0/\aA (σ.np (aj (σ.st t) a)) b then σ.push B t (σ.ref (aj (σ.st t) a) b) else σ
def bh:Int:=if aG (σ.st t) c then (if aD σ t a≠0 then aD σ t a else if aA (σ.np (aj (σ.st t) a)) b then 0 else 11) else 10
def bU:GS:=if bh σ t a b c=0 then σ.setRef (aj (σ.st t) a) b (aj (σ.st t) c) else σ
def bI:Int:=if aD σ t a≠0 then aD σ t a else if aA (σ.nw (aj (σ.st t) a)) b then 0 else 11
def ie:Int:=if bI σ t a b=0 then σ.dat (aj (σ.st t) a) b else 0
def cp:GS:=if bI σ t a b=0 then σ.cQ (aj (σ.st t) a) b v else σ
def nX:GS:=σ.jv t (dM (σ.st t))
def rh:Int:=if aG (σ.st t) a then ay B (σ.st t) else 10
def jc:GS:=if aG (σ.st t) a then σ.push B t (aj (σ.st t) a) else σ
def eH:Int:=if aG (σ.st t) a then am (σ.st t) b else 10
def eI:Bool:=decide (aG (σ.st t) a/\aG (σ.st t) b/\aj (σ.st t) a=aj (σ.st t) b)
def eJ:Bool:=decide (aG (σ.st t) a/\aj (σ.st t) a=0)
def eu:Int:=if 0<=a/\a<=3 then 0 else 17
def gq:Int:=if aG (σ.st t) a then (if aA T b then ay B (σ.st b.toNat) else 2) else 10
def di:GS:=if aG (σ.st t) a/\aA T b then σ.push B b.toNat (aj (σ.st t) a) else σ
end
structure An where
 code:Int
 word:Int
 bit:Bool
structure Po where
 k:Int
 a:Int
 b:Int
 c:Int
 v:Int
def bq(B M T:Nat)(σ:GS)(t:Nat)(o:Po):An:=
 if o.k=1 then ⟨eG B M σ t o.a o.b,0,false⟩ else if o.k=2 then ⟨fN B σ t o.a o.b,0,false⟩ else if o.k=3 then ⟨bh σ t o.a o.b o.c,0,false⟩
 else if o.k=4 then ⟨bI σ t o.a o.b,ie σ t o.a o.b,false⟩ else if o.k=5 then ⟨bI σ t o.a o.b,0,false⟩ else if o.k=6 then ⟨ay B (σ.st t),0,false⟩
 else if o.k=7 then ⟨cG (σ.st t),0,false⟩ else if o.k=8 then ⟨rh B σ t o.a,0,false⟩ else if o.k=9 then ⟨eH σ t o.a o.b,0,eI σ t o.a o.b⟩
 else if o.k=10 then ⟨am (σ.st t) o.a,0,eJ σ t o.a⟩ else if o.k=11 then ⟨0,0,false⟩ else if o.k=12 then ⟨eu o.a,0,false⟩
 else if o.k=13 then ⟨gq B T σ t o.a o.b,0,false⟩ else ⟨17,0,false⟩
def aM(B M T:Nat)(σ:GS)(t:Nat)(o:Po):GS:=
 if o.k=1 then bZ B M σ t o.a o.b else if o.k=2 then dN B σ t o.a o.b else if o.k=3 then bU σ t o.a o.b o.c
 else if o.k=5 then cp σ t o.a o.b o.v else if o.k=6 then σ.push B t 0
 else if o.k=7 then nX σ t else if o.k=8 then jc B σ t o.a else if o.k=13 then di B T σ t o.a o.b else σ
def GS.tick(σ:GS)(t:Nat):GS:={ σ with done:=ai σ.done t (σ.done t+1) }
def gt(th dn:Int)(x:An):Value:=.agg #[.int .i64 th,.int .i64 dn,.int .i64 x.code,.int .u64 x.word,.bool x.bit]
def AW(st:Nat->List Int):Nat->Int->Nat
|0,_=>0
|T+1,r=>AW st T r+(st T).count r
structure GOk(T B:Nat)(σ:GS):Prop where
 cap:σ.N<=4096
 len:∀t,(σ.st t).length<=B
 mem:∀t r,r∈σ.st t->0<=r/\r<=(σ.N:Int)
 ref:∀r j,0<=σ.ref r j/\σ.ref r j<=(σ.N:Int)
 np:∀r,σ.np r<=1048576
 nw:∀r,σ.nw r<=1048576
theorem GOk.zero(T B:Nat):GOk T B G0:=⟨by simp[G0],λt=>by simp[G0],λt r h=>by simp[G0]at h,λr j=>by simp[G0],λr=>by simp[G0],λr=>by simp[G0]⟩
theorem GOk.at{T B:Nat}{σ:GS}(h:GOk T B σ)(t:Nat)(i:Int):0<=aj (σ.st t) i/\aj (σ.st t) i<=(σ.N:Int):=by
 unfold aj;split
 ·rename_i hi
  unfold aG at hi;have hk:i.toNat<(σ.st t).length:=by omega
  refine h.mem t _ ?_;simp[hk]
 ·omega
theorem GOk.push{T B:Nat}{σ:GS}(h:GOk T B σ){r:Int}(h1:0<=r)(h2:r<=(σ.N:Int))(t:Nat):GOk T B (σ.push B t r):=by
 refine⟨h.cap,λi=>?_,λi x hx=>?_,h.ref,h.np,h.nw⟩
 ·show(ai σ.st t _ i).length<=B;unfold ai;split
  ·exact kY (h.len t) r
  ·exact h.len i
 ·have hx:x∈ai σ.st t (aH B (σ.st t) r) i:=hx;unfold ai at hx;split at hx
  ·unfold aH at hx;split at hx
   ·rcases List.mem_append.1 hx with h3|h3
    ·exact h.mem t x h3
    ·simp at h3;subst h3;exact⟨h1,h2⟩
   ·exact h.mem t x hx
  ·exact h.mem i x hx
theorem GOk.new{T B:Nat}{σ:GS}(h:GOk T B σ){a b:Int}(ha:a<=1048576)(hb:b<=1048576)(hc:σ.N+1<=4096):GOk T B (σ.new a b):=by
 refine⟨hc,h.len,λt r hr=>?_,λr j=>?_,λr=>?_,λr=>?_⟩
 ·have:=h.mem t r hr;show 0<=r/\r<=((σ.N+1:Nat):Int);omega
 ·have:=h.ref r j;show 0<=ai σ.ref _ _ r j/\ai σ.ref _ _ r j<=((σ.N+1:Nat):Int);unfold ai;split <;> (constructor <;> (try dsimp only) <;> omega)
 ·show ai σ.np _ _ r<=_;have:=h.np r;unfold ai;split <;> omega
 ·show ai σ.nw _ _ r<=_;have:=h.nw r;unfold ai;split <;> omega
theorem fP{M:Nat}{a b:Int}(h:¬ aE M a b):0<=a/\0<=b/\0<a+b/\1+a+b<=(M:Int):=by unfold aE at h;omega
theorem GOk.setRef{T B:Nat}{σ:GS}(h:GOk T B σ)(r b:Int){y:Int}(h1:0<=y)(h2:y<=(σ.N:Int)):GOk T B (σ.setRef r b y):=by
 refine⟨h.cap,h.len,h.mem,λx j=>?_,h.np,h.nw⟩;show 0<=ai σ.ref r (ai (σ.ref r) b y) x j/\ai σ.ref r (ai (σ.ref r) b y) x j<=(σ.N:Int);unfold ai;split
 ·dsimp only;split
  ·exact⟨h1,h2⟩
  ·exact h.ref r j
 ·exact h.ref x j
theorem GOk.cQ{T B:Nat}{σ:GS}(h:GOk T B σ)(r b v:Int):GOk T B (σ.cQ r b v):=⟨h.cap,h.len,h.mem,h.ref,h.np,h.nw⟩
theorem GOk.tick{T B:Nat}{σ:GS}(h:GOk T B σ)(t:Nat):GOk T B (σ.tick t):=⟨h.cap,h.len,h.mem,h.ref,h.np,h.nw⟩
theorem GOk.pop{T B:Nat}{σ:GS}(h:GOk T B σ)(t:Nat):GOk T B (nX σ t):=by
 refine⟨h.cap,λi=>?_,λi x hx=>?_,h.ref,h.np,h.nw⟩
 ·show(ai σ.st t _ i).length<=B;unfold ai;split
  ·exact mF (h.len t)
  ·exact h.len i
 ·have hx:x∈ai σ.st t (dM (σ.st t)) i:=hx;unfold ai at hx;split at hx
  ·exact h.mem t x (List.mem_of_mem_take hx)
  ·exact h.mem i x hx
structure Can(M:Nat)(σ:GS):Prop where
 m:M<=1048576
 n:σ.N+1<=4096
theorem GOk.act{T B M:Nat}{σ:GS}(h:GOk T B σ)(hc:Can M σ)(t:Nat)(o:Po):GOk T B (aM B M T σ t o):=by
 unfold aM
 repeat' split
 ·unfold bZ;split
  ·exact h
  ·rename_i hs
   have:=fP hs;have:=hc.m;split
   ·exact(h.new (a:=o.a) (b:=o.b) (by omega) (by omega) hc.n).push (by omega) (by show _<=((σ.N+1:Nat):Int);omega) t
   ·exact h
 ·unfold dN;split
  ·exact h.push (h.ref _ _).1 (h.ref _ _).2 t
  ·exact h
 ·unfold bU;split
  ·exact h.setRef _ _ (h.at _ _).1 (h.at _ _).2
  ·exact h
 ·unfold cp;split
  ·exact h.cQ _ _ _
  ·exact h
 ·exact h.push (Int.le_refl _) (by omega) t
 ·exact h.pop t
 ·unfold jc;split
  ·exact h.push (h.at _ _).1 (h.at _ _).2 t
  ·exact h
 ·unfold di;split
  ·exact h.push (h.at _ _).1 (h.at _ _).2 _
  ·exact h
 ·exact h
theorem BU(B M T:Nat)(σ:GS)(t:Nat)(o:Po):(aM B M T σ t o).N<=σ.N+1:=by
 unfold aM bZ dN bU cp nX jc di GS.push GS.jv GS.new GS.setRef GS.cQ
 repeat' split
 all_goals simp
theorem wV(B M T:Nat)(σ:GS)(t:Nat)(o:Po):(aM B M T σ t o).done=σ.done:=by
 unfold aM bZ dN bU cp nX jc di GS.push GS.jv GS.new GS.setRef GS.cQ
 repeat' split
 all_goals rfl
def visit(L:List Int)(r:Int):List Int:=if r=0\/r∈L then L else L++[r]
def wW(L:List Int)(l:List Int):List Int:=l.foldl visit L
def num(L:List Int)(r:Int):Int:=if r∈L then ((L.idxOf r+1:Nat):Int) else 0
def kids(σ:GS)(r:Int):List Int:=(List.range (σ.np r)).map λ(j:Nat)=>σ.ref r (j:Int)
theorem jw(σ:GS)(r:Int):(kids σ r).length=σ.np r:=by simp[kids]
theorem wX(σ:GS)(r:Int){j:Nat}(h:j<σ.np r):(kids σ r).getD j 0=σ.ref r (j:Int):=by simp[kids,h]
def ze(σ:GS)(T:Nat):List Int:=(List.range T).flatMap σ.st
def bfs(σ:GS)(T:Nat):Nat->List Int
|0=>wW [] (ze σ T)
|n+1=>match (bfs σ T n)[n]? with
 |some r=>wW (bfs σ T n) (kids σ r)
 |none=>bfs σ T n
def order(σ:GS)(T:Nat):List Int:=bfs σ T σ.N
def AX(σ:GS)(O:List Int)(t:Nat):List Int:=((σ.st t).length:Int)::(σ.st t).map (num O)
def dk(σ:GS)(r:Int):List Int:=(List.range (σ.nw r)).map λ(j:Nat)=>σ.dat r (j:Int)
def AY(σ:GS)(O:List Int)(r:Int):List Int:=[(σ.np r:Int),(σ.nw r:Int)]++(kids σ r).map (num O)++dk σ r
def shape(σ:GS)(T:Nat):List Int:=(List.range T).flatMap (AX σ (order σ T))++(order σ T).flatMap (AY σ (order σ T))
def AZ(σ:GS)(r:Int):Nat:=1+σ.np r+σ.nw r
def words(σ:GS)(T:Nat):Nat:=((order σ T).map (AZ σ)).sum
end Go.Proofs.YtimlkjppaalfaaaGreatDoor
