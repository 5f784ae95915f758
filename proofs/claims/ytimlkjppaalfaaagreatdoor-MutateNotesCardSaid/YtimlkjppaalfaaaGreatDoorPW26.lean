/- Package queue: Push, Drain. -/
import Derived.Test.YtimlkjppaalfaaaGreatDoorPW18
import Derived.Deep.RegionLaw
set_option linter.unusedVariables false
set_option maxHeartbeats 3200000
set_option maxRecDepth 100000
open Nat renaming le_refl->Dd
namespace Go.Proofs.YtimlkjppaalfaaaGreatDoor
open Go.RowKit Go.Gl
def CR(w:World)(F:List Nat)(Q:World->List Nat->Prop)(over:List Int)(er:Int)(e:Ending)(w':World):Prop:=
 ∃F' A c G,e=.returned (.tuple #[.slice A over.length c,.int .i64 er])/\Q w' F'/\Lr w' 3 A over.length c G (zv over)/\Fr F w w'/\(∀x,x∈F'->x∈F\/w.heap.size<=x)/\∀g,g∈G->g∉F'/\(g∈F\/w.heap.size<=g)
def CS(w:World)(F:List Nat)(Q:World->List Nat->Prop)(over:List Int)(e:Ending)(w':World):Prop:=
 ∃F' A c G,e=.returned (.slice A over.length c)/\Q w' F'/\Lr w' 3 A over.length c G (zv over)/\Fr F w w'/\(∀x,x∈F'->x∈F\/w.heap.size<=x)/\∀g,g∈G->g∉F'/\(g∈F\/w.heap.size<=g)
theorem vi{w:World}{q tb n B:Nat}{A:Option Addr}{c:Nat}{C:List Int}{G0:List Nat}{V:Nat->Value}{G:Nat->List Nat}{O:Nat->List Int}(h:Qk w q tb n B A c C G0 V G O)
  (hn:n<=64) (hb:B<=65536) (hc:C.length<=B) (t:Nat) (ht:t<n) (ho:(O t).length=4) :
  Calls Tryz.prog 142 #[.pointer (some ⟨q,0,none⟩),.int .i64 (t:Int)] w (CS w (dY q tb n G0 G) (λw' F'=>Qq w' q F' n B (C++(O t).take (B-C.length)) (bC O t [])) ((O t).drop (B-C.length))):=by
 obtain⟨i0,hi,hz0,hz1,hz2⟩:=info_parts Tryz.ce;obtain⟨A1,c1,e1,e2⟩:=h.ls.own t ht;obtain⟨g,off,rfl,hG,hg,hx,_,_⟩:=e2.pos (by omega);have HE1:=aa e1;have hct:=Qk.cw h ht;rw[e1,ho]at hct;have c0:=Qk.c0 h;have c1':=Qk.c1 h;have c2:=Qk.c2 h;have z0:=h.st.frozen 0;have zt:=h.ls.tab.frozen t;have H:=aa h;have HL:=aa e2;rw[ho]at HL;have hl1:=HL.out.le;have hl2:=HL.out.max;unfold maxLen at hl2;clear h e1 e2 hx;obtain⟨R,hR⟩:∃R:Nat,R=B-C.length:=⟨_,rfl⟩;have hwr:IntKind.i64.wrap ((B:Int)-(C.length:Int))=(R:Int):=by
  rw[show(B:Int)-(C.length:Int)=(R:Int)by omega];exact IntWalk.i64_in _ ⟨by omega,by omega⟩
 rw[<- hR];clear hR;obtain⟨R4,hR4,hmin,htk,hdr⟩:∃R4:Nat,R4<=4/\(if (R:Int)<4 then (R:Int) else 4)=(R4:Int)/\(O t).take R=(O t).take R4/\(O t).drop R=(O t).drop R4:=by
  by_cases hr:R<4
  ·exact⟨R,by omega,by rw[if_pos (by omega)],rfl,rfl⟩
  ·exact⟨4,by omega,by rw[if_neg (by omega)];rfl,by rw[List.take_of_length_le (by omega),List.take_of_length_le (by omega)],by rw[List.drop_of_length_le (by omega),List.drop_of_length_le (by omega)]⟩
 have hmin2:min (4:Int) (R:Int)=(R4:Int):=by rw[<- hmin,Int.min_def];split <;> split <;> omega
 rw[htk,hdr];clear htk hdr;have HK:=aa (HL.out.keep R4 hR4);have HN:Hid (((zv (O t)).take R4).length=R4/\∀u∈(zv (O t)).take R4,u.oneCell'=true):=⟨HK.out.len,λu hu=>wJ _ u (List.mem_of_mem_take hu)⟩;have HB:Hid (C.length+R4<=maxLen/\(C.length+R4)*8<=140737488355328):=⟨by unfold maxLen;omega,by omega⟩;have HFZ:Hid (∀w' i,Fr G0 (w.drewN i) w'->w'.cell? ⟨q,0,none⟩=some (.slice A C.length c)/\w'.frozen? ⟨q,0,none⟩=false):=λw' i hf=>by
  have hb:=(H.out.st.drewN i).fr hf (H.out.com.apart H.out.st (by decide));exact⟨by rw[hb.cell];rfl,hb.frozen 0⟩
 have hrc:R4<=c1:=by omega
 go_enter Tryz.func142,Tryz.ntmps142
 go_wp2_with fail
 go_quiet (fail)
 go_wp2_with fail
 go_region_law (first|(refine fp rfl _ _ 25 rfl 3 i0 (.int .i64 0) 8 Tryz.underlying25 hi hz0 hz1 hz2 rfl rfl (H.out.com.fr0 ((Fr.refl _ _).drewN _)) rfl HN.out.1 (HK.out.fr0 ((Fr.refl _ _).drewN _)).read HN.out.2 HB.out.1 HB.out.2 ?_;intro A' c' G' w' HLn HFn HGn;have d0:=(HFZ.out _ _ HFn.out).1;have dz:=(HFZ.out _ _ HFn.out).2))
 all_goals
  have hlen:(C++(O t).take R4).length=C.length+R4:=by rw[List.length_append,List.length_take];omega
  have HQ1:Hid (Qk (w'.setCell ⟨q,0,none⟩ (.slice A' (C.length+R4) c')) q tb n B A' c' (C++(O t).take R4) G' V G O):=by
   have h1:=(H.out.fr0 ((Fr.refl [] w).drewN (nq+1))).tY (by decide) (by decide) (by decide) (ci:=0) (λ_ _ _=>rfl) HFn.out (l:=C++(O t).take R4) (by rw[hlen,gK,yZ];exact HLn.out) (λx hx=>(HGn.out x hx).imp id (λh=>by rw[h.1];exact Dd _));rw[hlen]at h1;exact h1
  have HF1:Hid (Fr (dY q tb n G0 G) w (w'.setCell ⟨q,0,none⟩ (.slice A' (C.length+R4) c'))):=((H.out.fr0 ((Fr.refl [] w).drewN (nq+1))).By HFn.out 0 _).kJ;have HG1:Hid (∀x,x∈dY q tb n G' G->x∈dY q tb n G0 G\/w.heap.size<=x):=Qc.xW (λx hx=>(HGn.out x hx).imp id (λh=>by rw[h.1];exact Dd _));generalize w'.setCell ⟨q,0,none⟩ (.slice A' (C.length+R4) c')=w2 at *;clear d0 dz;have f2:=Qk.c2 HQ1.out;have ft:=Qk.cw HQ1.out ht;have fz:=HQ1.out.ls.tab.frozen t;obtain⟨A2,c2',e1,e2⟩:=HQ1.out.ls.own t ht;have HT2:Hid (Lr (w2.setCell ⟨tb,t,none⟩ (.slice none 0 0)) 3 A2 (O t).length c2' (G t) (zv (O t))):=e2.fr (F:=[tb]) ((Fr.refl _ _).setCell (p:=⟨tb,t,none⟩) (.inl (by simp)) _) (λx hx=>by have:=HQ1.out.ls.far (by decide) ht;intro h;simp at h;exact this (h ▸ hx));have HQ2:Hid (Qk (w2.setCell ⟨tb,t,none⟩ (.slice none 0 0)) q tb n B A' c' (C++(O t).take R4) G' (bC V t (.slice none 0 0)) (bC G t []) (bC O t [])):=HQ1.out.tX (by decide) (by decide) (by decide) ht (l:=[]) (Fr.refl _ _) (Lr.nil _ _) (λ_ h=>by cases h);have HF2:Hid (Fr (dY q tb n G0 G) w (w2.setCell ⟨tb,t,none⟩ (.slice none 0 0))):=HF1.out.setCell (p:=⟨tb,t,none⟩) (.inl (aR.2 (.inr (.inl rfl)))) _;have HO2:=aa (HQ1.out.zR (by decide) (by decide) ht);have e1':=HE1.out;rw[e1']at e1;injection e1 with e1 e1n e1c;subst e1 e1c;have HC2:=aa (HT2.out.cut R4 (by omega));clear e2 e1n e1';have hdl:((O t).drop R4).length=4-R4:=by rw[List.length_drop,ho]
  have HGF:Hid (∀x,x∈dY q tb n G' (bC G t [])->x∈dY q tb n G0 G\/w.heap.size<=x):=λx hx=>by
   rcases Qc.qq ht (B:=w.heap.size) (G1:=[]) (λ_ h=>by cases h) x hx with h|h
   ·exact HG1.out x h
   ·exact .inr h
  have HDL:=aa hdl;rw[ho,<- za,<- hdl]at HC2;clear hdl;by_cases hcc:c1=R4
  ·rw[if_pos hcc,if_pos hcc,hcc,Nat.sub_self]at HC2;go_wp2_with fail
   go_ret
   exact⟨_,some ⟨g,off,none⟩,0,[],by rw[HDL.out];rfl,⟨_,_,_,_,_,_,HQ2.out,rfl⟩,HC2.out,HF2.out,HGF.out,λ_ h=>by cases h⟩
  ·rw[if_neg hcc,if_neg hcc,show Option.map (λx:Addr=>x.add R4) (some ⟨g,off,none⟩)=some ⟨g,off+R4,none⟩by simp[Go.WideShapes.add_plain]]at HC2;go_wp2_with fail
   go_ret
   exact⟨_,some ⟨g,off+R4,none⟩,c1-R4,G t,by rw[HDL.out];rfl,⟨_,_,_,_,_,_,HQ2.out,rfl⟩,HC2.out,HF2.out,HGF.out,λx hx=>⟨HO2.out x hx,.inl (aR.2 (.inr (.inr (.inr ⟨t,ht,hx⟩))))⟩⟩
def eP(B:Nat)(C:List Int)(O:Nat->List Int)(t:Nat)(x:Int):List Int:=if (O t).length<3 then C else C++(O t++[x]).take (B-C.length)
def eU(O:Nat->List Int)(t:Nat)(x:Int):Nat->List Int:=if (O t).length<3 then bC O t (O t++[x]) else bC O t []
def cP(B:Nat)(C:List Int)(O:Nat->List Int)(t:Nat)(x:Int):List Int:=if (O t).length<3 then [] else (O t++[x]).drop (B-C.length)
theorem sL{α:Type}(f:Nat->α)(k:Nat)(a b:α):bC (bC f k a) k b=bC f k b:=by
 funext j
 unfold bC;by_cases h:j=k <;> simp[h]
theorem QOk.push{n B:Nat}{C:List Int}{O:Nat->List Int}(h:QOk n B C O){t:Nat}(ht:t<n)(x:Int):QOk n B (eP B C O t x) (eU O t x):=by
 have hc:=h.c;unfold eP eU;by_cases h3:(O t).length<3
 ·rw[if_pos h3,if_pos h3];refine⟨h.n1,h.n2,h.b,h.c,λi hi=>?_⟩;by_cases hit:i=t
  ·subst hit;rw[cy,List.length_append];simp;omega
  ·rw[da _ _ hit];exact h.o i hi
 ·rw[if_neg h3,if_neg h3];refine⟨h.n1,h.n2,h.b,by rw[List.length_append,List.length_take];omega,λi hi=>?_⟩;by_cases hit:i=t
  ·subst hit;rw[cy];simp
  ·rw[da _ _ hit];exact h.o i hi
theorem yf{w:World}{q:Nat}{F:List Nat}{n B:Nat}{C:List Int}{O:Nat->List Int}(h:Qq w q F n B C O)(hk:QOk n B C O)(t:Nat)(ht:t<n)(x:Int)(hx:0<=x) :
  Calls Tryz.prog 98 #[.pointer (some ⟨q,0,none⟩),.int .i64 (t:Int),.int .i64 x] w (CR w F (λw' F'=>Qq w' q F' n B (eP B C O t x) (eU O t x)) (cP B C O t x) 0):=by
 obtain⟨tb,A,c,G0,V,G,h,rfl⟩:=h;obtain⟨i0,hi,hz0,hz1,hz2⟩:=info_parts Tryz.ce;have hn:=hk.n2;have ho:=hk.o t ht;have HK:=aa hk;obtain⟨A1,c1,e1,e2⟩:=h.ls.own t ht;have ht1:¬ ((t:Int)<0):=by omega
 have ht2:¬ ((t:Int)>=(n:Int)):=by omega
 have ht3:(t:Int)<(n:Int):=by omega
 have hx1:¬ (x<0):=by omega
 have HE1:=aa e1;have hct:=Qk.cw h ht;rw[e1]at hct;have c2:=Qk.c2 h;have zt:=h.ls.tab.frozen t;have H:=aa h;have HL:=aa e2;have HN:Hid (([Value.int .i64 x]).length=1/\(∀u∈[Value.int .i64 x],u.oneCell'=true)/\(O t).length+1<=maxLen/\((O t).length+1)*8<=140737488355328):=⟨rfl,by simp[Value.oneCell'],by unfold maxLen;omega,by omega⟩;have HFZ:Hid (∀w1 w',Fr [] w w1->Fr (G t) w1 w'->w'.cell? ⟨q,2,none⟩=some (.slice (some ⟨tb,0,none⟩) n n)/\w'.cell? ⟨tb,t,none⟩=some (.slice A1 (O t).length c1)/\w'.frozen? ⟨tb,t,none⟩=false):=λw1 w' hf0 hf=>by
  have hb:=(h.st.fr hf0 (by simp)).fr hf (e2.apart h.st (by decide));have ht':=(h.ls.tab.fr hf0 (by simp)).fr hf (e2.apart h.ls.tab (by decide));exact⟨by rw[hb.cell];rfl,by rw[ht'.cell,de ht,e1],ht'.frozen t⟩
 have N0:tb<w.heap.size:=h.ls.tab.lt;have N1:q<w.heap.size:=h.st.lt;clear h e1 e2 hk;go_enter Tryz.func98,Tryz.ntmps98
 go_wp2_with fail
 go_region_law (first|(refine fp rfl _ _ 25 rfl 3 i0 (.int .i64 0) 8 Tryz.underlying25 hi hz0 hz1 hz2 rfl rfl (HL.out.fr0 (((Fr.refl _ _).alloc _).drew)) rfl HN.out.1 (λ_=>fq w _ 3 rfl _ ((Fr.refl _ _).drew)) HN.out.2.1 HN.out.2.2.1 HN.out.2.2.2 ?_;intro A' c' G' w' HLn HFn HGn;have d0:=(HFZ.out _ _ (((Fr.refl _ _).alloc _).drew) HFn.out).1;have d1:=(HFZ.out _ _ (((Fr.refl _ _).alloc _).drew) HFn.out).2.1;have dz:=(HFZ.out _ _ (((Fr.refl _ _).alloc _).drew) HFn.out).2.2))
 all_goals
  have hlen:(O t++[x]).length=(O t).length+1:=by simp
  have HQ1:Hid (Qk (w'.setCell ⟨tb,t,none⟩ (.slice A' ((O t).length+1) c')) q tb n B A c C G0 (bC V t (.slice A' ((O t).length+1) c')) (bC G t G') (bC O t (O t++[x]))):=by
   have h1:=(H.out.fr0 (((Fr.refl [] w).alloc (.cells #[.int .i64 x] 3)).drew)).tX (by decide) (by decide) (by decide) ht HFn.out (l:=O t++[x]) (A1:=A') (c1:=c') (G1:=G') (by rw[hlen,gK];exact HLn.out) (λy hy=>(HGn.out y hy).imp id (λh=>by rw[h.1];exact Dd _));rw[hlen]at h1;exact h1
  have HF1:Hid (Fr (dY q tb n G0 G) w (w'.setCell ⟨tb,t,none⟩ (.slice A' ((O t).length+1) c'))):=(((Fr.refl _ w).alloc (.cells #[.int .i64 x] 3)).drew).ae ((H.out.fr0 (((Fr.refl [] w).alloc (.cells #[.int .i64 x] 3)).drew)).dS ht HFn.out _);have HG1:Hid (∀y,y∈dY q tb n G0 (bC G t G')->y∈dY q tb n G0 G\/w.heap.size<=y):=Qc.qq ht (λy hy=>(HGn.out y hy).imp id (λh=>by rw[h.1];simp));generalize w'.setCell ⟨tb,t,none⟩ (.slice A' ((O t).length+1) c')=w2 at *;clear d0 d1 dz;have f2:=Qk.c2 HQ1.out;have ft:=Qk.cw HQ1.out ht;rw[cy]at ft;by_cases h3:(O t).length<3
  ·have h4:((O t).length:Int)+1<4:=by omega
   have EC:Hid (eP B C O t x=C/\eU O t x=bC O t (O t++[x])/\cP B C O t x=[]):=by
    unfold eP eU cP;rw[if_pos h3,if_pos h3,if_pos h3];exact⟨rfl,rfl,rfl⟩
   go_wp2_with fail
   go_ret2
   rw[EC.out.1,EC.out.2.1,EC.out.2.2];exact⟨_,none,0,[],rfl,⟨_,_,_,_,_,_,HQ1.out,rfl⟩,Lr.nil _ _,HF1.out,HG1.out,λ_ h=>by cases h⟩
  ·have h4:¬ (((O t).length:Int)+1<4):=by omega
   have HH:=vi HQ1.out hn HK.out.b HK.out.c t ht (by rw[cy,hlen];omega);rw[cy,sL]at HH;have HHH:=aa HH;clear HH;have EC:Hid (eP B C O t x=C++(O t++[x]).take (B-C.length)/\eU O t x=bC O t []/\cP B C O t x=(O t++[x]).drop (B-C.length)):=by
    unfold eP eU cP;rw[if_neg h3,if_neg h3,if_neg h3];exact⟨rfl,rfl,rfl⟩
   generalize C++(O t++[x]).take (B-C.length)=C2 at *;generalize (O t++[x]).drop (B-C.length)=D2 at *;go_wp2_with fail
   refine HHH.out.mono ?_;rintro e w3 ⟨F3,A3,c3,G3,rfl,hq,hl,hf,hff,hg⟩;have HR:Hid ((Qq w3 q F3 n B C2 (bC O t []))/\Lr w3 3 A3 D2.length c3 G3 (zv D2)/\Fr (dY q tb n G0 G) w w3/\(∀y,y∈F3->y∈dY q tb n G0 G\/w.heap.size<=y)/\∀y,y∈G3->y∉F3/\(y∈dY q tb n G0 G\/w.heap.size<=y)):=by
    refine⟨hq,hl,HF1.out.trans hf HG1.out,λy hy=>?_,λy hy=>⟨(hg y hy).1,?_⟩⟩
    ·rcases hff y hy with h|h
     ·exact HG1.out y h
     ·exact .inr (Nat.le_trans HF1.out.size h)
    ·rcases(hg y hy).2 with h|h
     ·exact HG1.out y h
     ·exact .inr (Nat.le_trans HF1.out.size h)
   clear hq hl hf hff hg;go_wp2_with fail
   go_ret2
   rw[EC.out.1,EC.out.2.1,EC.out.2.2];exact⟨F3,A3,c3,G3,rfl,HR.out.1,HR.out.2.1,HR.out.2.2.1,HR.out.2.2.2.1,HR.out.2.2.2.2⟩
end Go.Proofs.YtimlkjppaalfaaaGreatDoor
