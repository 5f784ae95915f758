/- gleanerlaw14.room: a thing that isn't big. -/
import Derived.Test.YteacgfeiedcdiaaGreatDoorPW27
import Derived.Test.YteacgfeiedcdiaaGreatDoorPW00
namespace Go.Proofs.YteacgfeiedcdiaaGreatDoor
set_option linter.unusedVariables false
set_option linter.unusedSimpArgs false
set_option maxRecDepth 100000
open Go.RowKit Go.Gl
theorem openOk_claim{o:Nat→Int}{h:HS}{j Y:Nat}{t1:Nat→Int}(ho:OpenOk o h)(hj:j<h.R)(hs:h.s j=0)(hY:1≤Y):OpenOk (put1 o Y (j:Int)) { h with s:=put1 h.s j (Y:Int),t:=t1 }:=fun q h1 h2=>by
 by_cases e:q=Y
 ·subst e
  refine .inr ⟨j,hj,?_,?_⟩
  ·unfold put1;rw [if_pos rfl]
  ·show put1 h.s j (q:Int) j=_
   unfold put1;rw [if_pos rfl]
 ·have e2:put1 o Y (j:Int) q=o q:=by unfold put1;rw [if_neg e]
  rw [e2]
  rcases ho q h1 h2 with h3 | ⟨r,h3,h4,h5⟩
  ·exact .inl h3
  ·refine .inr ⟨r,h3,h4,?_⟩
   show put1 h.s j (Y:Int) r=_
   unfold put1
   rw [if_neg (fun e3=>by rw [e3]at h5;omega)]
   exact h5
set_option maxHeartbeats 3200000 in
theorem room_small{W w:World}{L:HL}{X:HX}{h:HS}{x:HT}{s k ob z Y:Nat}{E:Blks}{o:Nat→Int}{rA dA:Option Addr}{rn dn rc dc:Nat}(hT:Tab W)(H:HE W w L X h x s k ((ob,3,rowV .i64 4 o)::E))(hE:∀q,q∈E→q.1≠ob)
  (hfree:∀r,r<h.R→h.s r=0→h.t r=((r*h.W:Nat):Int)) (ho:OpenOk o h) (hz:z=1+rn+dn) (hz1:1≤z) (hzm:z≤1048576) (hzW:z≤h.W) (hY:1≤Y) (hY3:Y≤3) :
  Calls Tryz.prog 34 #[.pointer (some ⟨L.hb,0,none⟩),.slice (some ⟨ob,0,none⟩) 4 4,.agg #[.int .i64 (Y:Int),.slice rA rn rc,.slice dA dn dc]] w (RoomX W L X h x s k ob z o (Y:Int) E):=by
 have ok:=H.ok
 have HSz:=hide (fun w=>size_now (w:=w) (rA:=rA) (dA:=dA) (rc:=rc) (dc:=dc) (Y:Int) hz hzm)
 have hfl:Filled (Y:Int):=by unfold Filled;omega
 have h4:((Y:Int)==4)=false:=by simp;omega
 have hbob:=H.blk (List.mem_cons_self ..)
 have HA0:=hide (H.alloc 62 #[.int .i64 (Y:Int),.slice rA rn rc,.slice dA dn dc])
 have hobx:ob≠w.heap.size:=by have:=hbob.lt;omega
 have HHE:=hide hE
 have HTW:=hide hT
 have HBump:=hide (fun (r:Nat) (hr:r<h.R) (hs:h.s r=(Y:Int)) (hfit:h.t r+(z:Int)≤((r*h.W+h.W:Nat):Int)) (E':Blks) (w:World) (a:HE W w L X h x s k E')=>a.post (fun own q=>q.bump hr (by rw [hs];exact hfl) (by omega) hfit))
 have HFull:=hide (fun (r:Nat) (hr:r<h.R) (hs:h.s r=(Y:Int)) (hfit:¬ h.t r+(z:Int)≤((r*h.W+h.W:Nat):Int)) (E':Blks) (w:World) (a:HE W w L X h x s k E')=>
  show Calls Tryz.prog 83 #[.pointer (some ⟨L.tb,0,none⟩),.int .i64 (r:Int),.int .i64 (z:Int)] w fun e w'=>e=.returned (.tuple #[.int .i64 0,.int .i64 6])∧HE W w' L X h x s k E' from by
   obtain⟨own,q,hq⟩:=a
   refine(q.bump_no hr (by rw [hs];exact hfl) (by omega) hfit).mono ?_
   rintro e w' ⟨rfl,n,rfl⟩
   exact⟨rfl,HE.fr0 ⟨own,q,hq⟩ ((Fr.refl _ _).drewN n)⟩)
 have HEnd:Hid (∀r:Nat,r<h.R→h.s r=(Y:Int)→h.t r+(z:Int)≤((r*h.W+h.W:Nat):Int)→o Y=(r:Int)→∀w' b,HE W w' L X { h with t:=put1 h.t r (h.t r+(z:Int)) } x s k (b::(ob,3,rowV .i64 4 o)::E)→RoomX W L X h x s k ob z o (Y:Int) E (.returned (.tuple #[.int .i64 (h.t r),.bool true])) w'):=fun r hr hs hfit hor w' b a=>by
  have htr:=ok.tok r hr
  obtain⟨A,hA⟩:=Int.eq_ofNat_of_zero_le (show 0≤h.t r by omega)
  have hA:h.t r=(A:Int):=hA
  obtain⟨p1,p2⟩:=placed_one (z:=z) ok hr (.inl hs) (by omega) hA hz1 (by omega)
  have e1:put1 h.s r (Y:Int)=h.s:=by rw [← hs];exact put1_same _ _
  rw [e1]at p1
  rw [hA]
  refine .inl ⟨A,h.s,put1 h.t r (h.t r+(z:Int)),o,rfl,p1,p2,a.sub (fun q hq=>List.mem_cons_of_mem _ hq),?_,.inr ⟨by omega,Y,rfl,.inl ⟨r,A,hor,hA,hfit,rfl⟩⟩⟩
  exact ho
 have HClaim:=hide (fun (j:Nat) (hl:LowFree h.s h.R j) (E':Blks) (w:World) (a:HE W w L X h x s k E')=>a.post (fun own q=>q.claim hfl hl))
 have HNone:=hide (fun (hl:NoneFree h.s h.R) (E':Blks) (w:World) (a:HE W w L X h x s k E')=>
  show Calls Tryz.prog 84 #[.pointer (some ⟨L.tb,0,none⟩),.int .i64 (Y:Int)] w fun e w'=>e=.returned (.tuple #[.int .i64 0,.int .i64 6])∧HE W w' L X h x s k E' from by
   obtain⟨own,q,hq⟩:=a
   refine(q.claim_no hfl hl).mono ?_
   rintro e w' ⟨rfl,rfl⟩
   exact⟨rfl,own,q,hq⟩)
 have HBump2:=hide (fun (j:Nat) (hl:LowFree h.s h.R j) (E':Blks) (w:World) (a:HE W w L X { h with s:=put1 h.s j (Y:Int) } x s k E')=>
  show Calls Tryz.prog 83 #[.pointer (some ⟨L.tb,0,none⟩),.int .i64 (j:Int),.int .i64 (z:Int)] w fun e w'=>e=.returned (.tuple #[.int .i64 ((j*h.W:Nat):Int),.int .i64 0])∧HE W w' L X { h with s:=put1 h.s j (Y:Int),t:=put1 h.t j (h.t j+(z:Int)) } x s k E' from by
   have ht:=hfree j hl.1 hl.2.1
   have:=a.post (fun own q=>q.bump (j:=j) (c:=(z:Int)) hl.1 (by show Filled (put1 h.s j (Y:Int) j);unfold put1;rw [if_pos rfl];exact hfl) (by omega) (by show h.t j+(z:Int)≤((j*h.W+h.W:Nat):Int);rw [ht];omega))
   rw [← ht]
   exact this)
 have HEnd2:Hid (∀j:Nat,LowFree h.s h.R j→NoFit h.W h.t o Y z→∀w' b,HE W w' L X { h with s:=put1 h.s j (Y:Int),t:=put1 h.t j (h.t j+(z:Int)) } x s k ((ob,3,rowV .i64 4 (put1 o Y (j:Int)))::b::E)→RoomX W L X h x s k ob z o (Y:Int) E (.returned (.tuple #[.int .i64 ((j*h.W:Nat):Int),.bool true])) w'):=fun j hl hnf w' b a=>by
  have ht:=hfree j hl.1 hl.2.1
  obtain⟨p1,p2⟩:=placed_one (z:=z) (y:=(Y:Int)) ok hl.1 (.inr hl.2.1) (by omega) ht hz1 (by omega)
  refine .inl ⟨j*h.W,_,_,put1 o Y (j:Int),rfl,p1,p2,a.sub (fun q hq=>?_),openOk_claim ho hl.1 hl.2.1 hY,.inr ⟨by omega,Y,rfl,.inr ⟨hnf,.inl ⟨j,hl,rfl⟩⟩⟩⟩
  rcases List.mem_cons.1 hq with rfl | hq
  ·exact List.mem_cons_self ..
  ·exact List.mem_cons_of_mem _ (List.mem_cons_of_mem _ hq)
 have HFr:=hide (free_ways h.s h.R)
 have HRm:=hide (show h.R≤4194304 by have:=ok.geo.regions_max;have:=ok.rg;omega)
 have hoY:=ho Y hY hY3
 obtain⟨oY,hoy⟩:∃oY,o Y=oY:=⟨_,rfl⟩
 have HOY:=hide hoy
 have HYn:Hid (∀r:Nat,h.t r+(z:Int)=h.t r+(z:Int)):=fun _=>rfl
 clear ok hT hfree ho hz hE hfl
 have cob0:w.cell? ⟨ob,Y,none⟩=some (.int .i64 oY):=(hbob.cell Y).trans ((rowV_at (by omega)).trans (by rw [HOY.out]))
 have N0:ob<w.heap.size:=hbob.lt
 rw [hoy]at hoY
 clear hoy hbob
 rcases hoY with rfl | ⟨r,hr,rfl,hs⟩
 ·have cob:=cob0
  clear cob0
  go_enter Tryz.func34,Tryz.ntmps34
  go_wp2_with fail
  generalize w.alloc _=w1 at *
  generalize w.heap.size=bx at *
  have HC:Hid (∀s1 t1 w',HE W w' L X { h with s:=s1,t:=t1 } x s k ((bx,62,#[.int .i64 (Y:Int),.slice rA rn rc,.slice dA dn dc])::(ob,3,rowV .i64 4 o)::E)→w'.cell? ⟨L.hb,21,none⟩=some (.pointer (some ⟨L.tb,0,none⟩))∧w'.cell? ⟨bx,0,none⟩=some (.int .i64 (Y:Int))∧w'.cell? ⟨bx,1,none⟩=some (.slice rA rn rc)∧w'.cell? ⟨bx,2,none⟩=some (.slice dA dn dc)):=fun s1 t1 w' a=>⟨a.hr.cT,(a.blk (List.mem_cons_self ..)).cell 0,(a.blk (List.mem_cons_self ..)).cell 1,(a.blk (List.mem_cons_self ..)).cell 2⟩
  clear cob
  replace HA0:=hide (HA0.out.fr0 (Fr.refl _ _).drew)
  have K0:=HC.out _ _ _ HA0.out
  rcases HFr.out with⟨j,hl⟩ | hl
  ·have HL:=hide hl
   clear hl
   have HB2:=hide (HBump2.out _ HL.out)
   have HE2:=hide (HEnd2.out _ HL.out (.inl HOY.out))
   generalize j*h.W=a at HB2 HE2
   go_region_held3 (fun w'=>w'.cell? ⟨L.hb,21,none⟩=some (.pointer (some ⟨L.tb,0,none⟩))∧w'.cell? ⟨bx,0,none⟩=some (.int .i64 (Y:Int))∧w'.cell? ⟨bx,1,none⟩=some (.slice rA rn rc)∧w'.cell? ⟨bx,2,none⟩=some (.slice dA dn dc))
    (first | with_reducible exact K0 | go_keep)
    (first | (go_at_call 84;refine(HClaim.out _ HL.out _ _ HA0.out).mono ?_;rintro e w2 ⟨rfl,hA⟩;have HA1:=hide hA;have K0:=HC.out _ _ _ hA;clear hA))
   have hj0:(j:Int)<9223372036854775807:=by have:=HL.out.1;have:=HRm.out;omega
   have hob2:=HA1.out.blk (List.mem_cons_of_mem _ (List.mem_cons_self ..))
   have hfz:w2.frozen? ⟨ob,Y,none⟩=false:=hob2.frozen Y
   have cob:w2.cell? ⟨ob,Y,none⟩=some (.int .i64 (o Y)):=(hob2.cell Y).trans (rowV_at (by omega))
   obtain⟨-,cb0,cb1,cb2⟩:=K0
   have HA2:Hid (HE W (w2.setCell ⟨ob,Y,none⟩ (.int .i64 (j:Int))) L X { h with s:=put1 h.s j (Y:Int) } x s k ((ob,3,rowV .i64 4 (put1 o Y (j:Int)))::(bx,62,#[.int .i64 (Y:Int),.slice rA rn rc,.slice dA dn dc])::E)):=by
    refine HE.turn (cs:=rowV .i64 4 o) HTW.out (HA1.out.sub (fun q hq=>?_)) ((Fr.refl _ _).setCell (.inl (by simp)) _) (hob2.putRow Y (j:Int)) (fun q hq=>?_)
    ·simp only [List.mem_cons]at hq ⊢
     rcases hq with h | h | h
     ·exact .inr (.inl h)
     ·exact .inl h
     ·exact .inr (.inr h)
    ·rcases List.mem_cons.1 hq with rfl | hq
     ·exact hobx.symm
     ·exact HHE.out q hq
   clear hob2
   go_wp2_with fail
   generalize w2.setCell _ _=w3 at *
   have HC2:Hid (∀s1 t1 w',HE W w' L X { h with s:=s1,t:=t1 } x s k ((ob,3,rowV .i64 4 (put1 o Y (j:Int)))::(bx,62,#[.int .i64 (Y:Int),.slice rA rn rc,.slice dA dn dc])::E)→w'.cell? ⟨L.hb,21,none⟩=some (.pointer (some ⟨L.tb,0,none⟩))∧w'.cell? ⟨bx,0,none⟩=some (.int .i64 (Y:Int))∧w'.cell? ⟨bx,1,none⟩=some (.slice rA rn rc)∧w'.cell? ⟨bx,2,none⟩=some (.slice dA dn dc)):=fun s1 t1 w' a=>⟨a.hr.cT,(a.blk (List.mem_cons_of_mem _ (List.mem_cons_self ..))).cell 0,(a.blk (List.mem_cons_of_mem _ (List.mem_cons_self ..))).cell 1,(a.blk (List.mem_cons_of_mem _ (List.mem_cons_self ..))).cell 2⟩
   have HA3:=hide (HA2.out.fr0 (Fr.refl _ _).drew)
   clear HA2 HA1 HA0 cb0 cb1 cb2 cob hfz
   have K0:=HC2.out _ _ _ HA3.out
   go_region_held3 (fun w'=>w'.cell? ⟨L.hb,21,none⟩=some (.pointer (some ⟨L.tb,0,none⟩))∧w'.cell? ⟨bx,0,none⟩=some (.int .i64 (Y:Int))∧w'.cell? ⟨bx,1,none⟩=some (.slice rA rn rc)∧w'.cell? ⟨bx,2,none⟩=some (.slice dA dn dc))
    (first | with_reducible exact K0 | go_keep)
    (first | (go_at_call 31;refine(HSz.out _).mono ?_;rintro e w2 ⟨rfl,hf⟩;replace HA3:=hide (HA3.out.fr0 hf);have K0:=HC2.out _ _ _ HA3.out;clear hf) | (go_at_call 83;refine(HB2.out _ _ HA3.out).mono ?_;rintro e w2 ⟨rfl,hA⟩;have HA4:=hide hA;have K0:=HC2.out _ _ _ hA;clear hA))
   have HF:=hide (HE2.out _ _ HA4.out)
   go_wp2_with fail
   go_ret2
   exact HF.out
  ·have HL:=hide hl
   clear hl
   go_region_held3 (fun w'=>w'.cell? ⟨L.hb,21,none⟩=some (.pointer (some ⟨L.tb,0,none⟩))∧w'.cell? ⟨bx,0,none⟩=some (.int .i64 (Y:Int))∧w'.cell? ⟨bx,1,none⟩=some (.slice rA rn rc)∧w'.cell? ⟨bx,2,none⟩=some (.slice dA dn dc))
    (first | with_reducible exact K0 | go_keep)
    (first | (go_at_call 84;refine(HNone.out HL.out _ _ HA0.out).mono ?_;rintro e w2 ⟨rfl,hA⟩;have HA1:=hide hA;have K0:=HC.out _ _ _ hA;clear hA))
   have HF:=hide (show ∀v,RoomX W L X h x s k ob z o (Y:Int) E (.returned (.tuple #[v,.bool false])) w2 from fun v=>.inr ⟨v,_,o,rfl,HA1.out.sub (fun q hq=>List.mem_cons_of_mem _ hq),.inr ⟨by omega,Y,rfl,.inr ⟨.inl HOY.out,.inr ⟨HL.out,rfl⟩⟩⟩⟩)
   go_wp2_with fail
   go_ret2
   exact HF.out _
 ·have cob:=cob0
  have hr0:(0:Int)≤(r:Int):=by omega
  clear cob0
  go_enter Tryz.func34,Tryz.ntmps34
  go_wp2_with fail
  generalize w.alloc _=w1 at *
  generalize w.heap.size=bx at *
  have HC:Hid (∀s1 t1 w',HE W w' L X { h with s:=s1,t:=t1 } x s k ((bx,62,#[.int .i64 (Y:Int),.slice rA rn rc,.slice dA dn dc])::(ob,3,rowV .i64 4 o)::E)→w'.cell? ⟨L.hb,21,none⟩=some (.pointer (some ⟨L.tb,0,none⟩))∧w'.cell? ⟨bx,0,none⟩=some (.int .i64 (Y:Int))∧w'.cell? ⟨bx,1,none⟩=some (.slice rA rn rc)∧w'.cell? ⟨bx,2,none⟩=some (.slice dA dn dc)):=fun s1 t1 w' a=>⟨a.hr.cT,(a.blk (List.mem_cons_self ..)).cell 0,(a.blk (List.mem_cons_self ..)).cell 1,(a.blk (List.mem_cons_self ..)).cell 2⟩
  clear cob
  have HHr:=hide hr
  have HHs:=hide hs
  clear hr hs hr0
  replace HA0:=hide (HA0.out.fr0 (Fr.refl _ _).drew)
  have K0:=HC.out _ _ _ HA0.out
  by_cases hfit:h.t r+(z:Int)≤((r*h.W+h.W:Nat):Int)
  ·have HFit:=hide hfit
   clear hfit
   go_region_held3 (fun w'=>w'.cell? ⟨L.hb,21,none⟩=some (.pointer (some ⟨L.tb,0,none⟩))∧w'.cell? ⟨bx,0,none⟩=some (.int .i64 (Y:Int))∧w'.cell? ⟨bx,1,none⟩=some (.slice rA rn rc)∧w'.cell? ⟨bx,2,none⟩=some (.slice dA dn dc))
    (first | with_reducible exact K0 | go_keep)
    (first | (go_at_call 31;refine(HSz.out _).mono ?_;rintro e w2 ⟨rfl,hf⟩;replace HA0:=hide (HA0.out.fr0 hf);have K0:=HC.out _ _ _ HA0.out;clear hf) | (go_at_call 83;refine(HBump.out _ HHr.out HHs.out HFit.out _ _ HA0.out).mono ?_;rintro e w2 ⟨rfl,hA⟩;have HA1:=hide hA;have K0:=HC.out _ _ _ hA;clear hA))
   have HF:=hide (HEnd.out _ HHr.out HHs.out HFit.out HOY.out _ _ HA1.out)
   go_wp2_with fail
   go_ret2
   exact HF.out
  ·have HFit:=hide hfit
   clear hfit
   go_region_held3 (fun w'=>w'.cell? ⟨L.hb,21,none⟩=some (.pointer (some ⟨L.tb,0,none⟩))∧w'.cell? ⟨bx,0,none⟩=some (.int .i64 (Y:Int))∧w'.cell? ⟨bx,1,none⟩=some (.slice rA rn rc)∧w'.cell? ⟨bx,2,none⟩=some (.slice dA dn dc))
    (first | with_reducible exact K0 | go_keep)
    (first | (go_at_call 31;refine(HSz.out _).mono ?_;rintro e w2 ⟨rfl,hf⟩;replace HA0:=hide (HA0.out.fr0 hf);have K0:=HC.out _ _ _ HA0.out;clear hf) | (go_at_call 83;refine(HFull.out _ HHr.out HHs.out HFit.out _ _ HA0.out).mono ?_;rintro e w2 ⟨rfl,hA⟩;have HA1:=hide hA;have K0:=HC.out _ _ _ hA;clear hA))
   replace HA0:=HA1
   clear HA1 K0
   go_wp2_with fail
   obtain⟨wq,hwq⟩:∃wq,wq=w2:=⟨_,rfl⟩
   subst hwq
   replace HA0:=hide (HA0.out.fr0 (Fr.refl _ _).drew)
   have K0:=HC.out _ _ _ HA0.out
   rcases HFr.out with⟨j,hl⟩ | hl
   ·have HL:=hide hl
    clear hl
    have HB2:=hide (HBump2.out _ HL.out)
    have HE2:=hide (HEnd2.out _ HL.out (.inr ⟨r,HOY.out,Int.not_le.2 HFit.out⟩))
    generalize j*h.W=a at HB2 HE2
    go_region_held3 (fun w'=>w'.cell? ⟨L.hb,21,none⟩=some (.pointer (some ⟨L.tb,0,none⟩))∧w'.cell? ⟨bx,0,none⟩=some (.int .i64 (Y:Int))∧w'.cell? ⟨bx,1,none⟩=some (.slice rA rn rc)∧w'.cell? ⟨bx,2,none⟩=some (.slice dA dn dc))
     (first | with_reducible exact K0 | go_keep)
     (first | (go_at_call 84;refine(HClaim.out _ HL.out _ _ HA0.out).mono ?_;rintro e w2 ⟨rfl,hA⟩;have HA1:=hide hA;have K0:=HC.out _ _ _ hA;clear hA))
    have hj0:(j:Int)<9223372036854775807:=by have:=HL.out.1;have:=HRm.out;omega
    have hob2:=HA1.out.blk (List.mem_cons_of_mem _ (List.mem_cons_self ..))
    have hfz:w2.frozen? ⟨ob,Y,none⟩=false:=hob2.frozen Y
    have cob:w2.cell? ⟨ob,Y,none⟩=some (.int .i64 (o Y)):=(hob2.cell Y).trans (rowV_at (by omega))
    obtain⟨-,cb0,cb1,cb2⟩:=K0
    have HA2:Hid (HE W (w2.setCell ⟨ob,Y,none⟩ (.int .i64 (j:Int))) L X { h with s:=put1 h.s j (Y:Int) } x s k ((ob,3,rowV .i64 4 (put1 o Y (j:Int)))::(bx,62,#[.int .i64 (Y:Int),.slice rA rn rc,.slice dA dn dc])::E)):=by
     refine HE.turn (cs:=rowV .i64 4 o) HTW.out (HA1.out.sub (fun q hq=>?_)) ((Fr.refl _ _).setCell (.inl (by simp)) _) (hob2.putRow Y (j:Int)) (fun q hq=>?_)
     ·simp only [List.mem_cons]at hq ⊢
      rcases hq with h | h | h
      ·exact .inr (.inl h)
      ·exact .inl h
      ·exact .inr (.inr h)
     ·rcases List.mem_cons.1 hq with rfl | hq
      ·exact hobx.symm
      ·exact HHE.out q hq
    clear hob2
    go_wp2_with fail
    generalize w2.setCell _ _=w3 at *
    have HC2:Hid (∀s1 t1 w',HE W w' L X { h with s:=s1,t:=t1 } x s k ((ob,3,rowV .i64 4 (put1 o Y (j:Int)))::(bx,62,#[.int .i64 (Y:Int),.slice rA rn rc,.slice dA dn dc])::E)→w'.cell? ⟨L.hb,21,none⟩=some (.pointer (some ⟨L.tb,0,none⟩))∧w'.cell? ⟨bx,0,none⟩=some (.int .i64 (Y:Int))∧w'.cell? ⟨bx,1,none⟩=some (.slice rA rn rc)∧w'.cell? ⟨bx,2,none⟩=some (.slice dA dn dc)):=fun s1 t1 w' a=>⟨a.hr.cT,(a.blk (List.mem_cons_of_mem _ (List.mem_cons_self ..))).cell 0,(a.blk (List.mem_cons_of_mem _ (List.mem_cons_self ..))).cell 1,(a.blk (List.mem_cons_of_mem _ (List.mem_cons_self ..))).cell 2⟩
    have HA3:=hide (HA2.out.fr0 (Fr.refl _ _).drew)
    clear HA2 HA1 HA0 cb0 cb1 cb2 cob hfz
    have K0:=HC2.out _ _ _ HA3.out
    go_region_held3 (fun w'=>w'.cell? ⟨L.hb,21,none⟩=some (.pointer (some ⟨L.tb,0,none⟩))∧w'.cell? ⟨bx,0,none⟩=some (.int .i64 (Y:Int))∧w'.cell? ⟨bx,1,none⟩=some (.slice rA rn rc)∧w'.cell? ⟨bx,2,none⟩=some (.slice dA dn dc))
     (first | with_reducible exact K0 | go_keep)
     (first | (go_at_call 31;refine(HSz.out _).mono ?_;rintro e w2 ⟨rfl,hf⟩;replace HA3:=hide (HA3.out.fr0 hf);have K0:=HC2.out _ _ _ HA3.out;clear hf) | (go_at_call 83;refine(HB2.out _ _ HA3.out).mono ?_;rintro e w2 ⟨rfl,hA⟩;have HA4:=hide hA;have K0:=HC2.out _ _ _ hA;clear hA))
    have HF:=hide (HE2.out _ _ HA4.out)
    go_wp2_with fail
    go_ret2
    exact HF.out
   ·have HL:=hide hl
    clear hl
    go_region_held3 (fun w'=>w'.cell? ⟨L.hb,21,none⟩=some (.pointer (some ⟨L.tb,0,none⟩))∧w'.cell? ⟨bx,0,none⟩=some (.int .i64 (Y:Int))∧w'.cell? ⟨bx,1,none⟩=some (.slice rA rn rc)∧w'.cell? ⟨bx,2,none⟩=some (.slice dA dn dc))
     (first | with_reducible exact K0 | go_keep)
     (first | (go_at_call 84;refine(HNone.out HL.out _ _ HA0.out).mono ?_;rintro e w2 ⟨rfl,hA⟩;have HA1:=hide hA;have K0:=HC.out _ _ _ hA;clear hA))
    have HF:=hide (show ∀v,RoomX W L X h x s k ob z o (Y:Int) E (.returned (.tuple #[v,.bool false])) w2 from fun v=>.inr ⟨v,_,o,rfl,HA1.out.sub (fun q hq=>List.mem_cons_of_mem _ hq),.inr ⟨by omega,Y,rfl,.inr ⟨.inr ⟨r,HOY.out,Int.not_le.2 HFit.out⟩,.inr ⟨HL.out,rfl⟩⟩⟩⟩)
    go_wp2_with fail
    go_ret2
    exact HF.out _
def Row(E:Blks)(A:Option Addr)(c:Nat)(l:List Int):Prop:=
 l.length≤c∧c≤maxLen∧(0<c→∃g off cur,A=some ⟨g,off,none⟩∧(g,3,cur)∈E∧off+c≤cur.size∧(cur.toList.drop off).take l.length=zv l)
def places(A:Nat→Nat)(n:Nat):List Int:=(List.range n).map fun i=>(A i:Int)
theorem places_len(A:Nat→Nat)(n:Nat):(places A n).length=n:=by simp [places]
theorem places_at(A:Nat→Nat){n i:Nat}(h:i<n):(places A n).getD i 0=(A i:Int):=by simp [places,h]
theorem places_succ(A:Nat→Nat)(n a:Nat):places (setA A n a) (n+1)=places A n++[(a:Int)]:=by
 unfold places
 rw [List.range_succ,List.map_append]
 congr 1
 ·refine List.map_congr_left fun i hi=>?_
  have:=List.mem_range.1 hi
  unfold setA
  rw [if_neg (by omega)]
 ·simp [setA]
section
variable {W w w':World}{L:HL}{X:HX}{h:HS}{x:HT}{s k:Nat}{E E':Blks}{A:Option Addr}{c:Nat}{l:List Int}
theorem Row.sub(r:Row E A c l)(hs:∀q,q∈E→q∈E'):Row E' A c l:=by
 obtain⟨h1,h2,h3⟩:=r
 refine⟨h1,h2,fun hc=>?_⟩
 obtain⟨g,off,cur,h4,h5,h6⟩:=h3 hc
 exact⟨g,off,cur,h4,hs _ h5,h6⟩
theorem Row.lr(r:Row E A c l)(H:HE W w L X h x s k E)(hn:c=0→A=none):∃G,Lr w 3 A l.length c G (zv l)∧∀g,g∈G→∃cur,(g,3,cur)∈E:=by
 obtain⟨h1,h2,h3⟩:=r
 rcases Nat.eq_zero_or_pos c with h0 | h0
 ·subst h0
  exact⟨[],⟨zv_len l,h1,h2,fun _=>rfl,fun h=>absurd h (by decide)⟩,fun g hg=>by cases hg⟩
 ·obtain⟨g,off,cur,h4,h5,h6,h7⟩:=h3 h0
  exact⟨[g],⟨zv_len l,h1,h2,fun h=>by omega,fun _=>⟨g,off,cur,h4,rfl,H.blk h5,h6,h7⟩⟩,fun y hy=>by simp at hy;subst hy;exact⟨cur,h5⟩⟩
theorem Row.cell(r:Row E A c l)(hl:0<l.length):∃g off,A=some ⟨g,off,none⟩∧∀ {w:World} {h:HS} {x:HT},HE W w L X h x s k E→∀j,j<l.length→w.cell? ⟨g,off+j,none⟩=some (.int .i64 (l.getD j 0)):=by
 obtain⟨h1,h2,h3⟩:=r
 obtain⟨g,off,cur,h4,h5,h6,h7⟩:=h3 (by omega)
 refine⟨g,off,h4,fun {w h x} H j hj=>?_⟩
 have hb:=H.blk h5
 rw [hb.cell]
 have e1:(zv l)[j]?=cur[off+j]?:=by
  rw [← h7,List.getElem?_take_of_lt hj,List.getElem?_drop,Array.getElem?_toList]
 rw [← e1]
 exact zv_get l hj
end
def lnk(A:Nat→Nat)(r:Int):Nat:=if r=0 then 0 else A (r.toNat-1)+1
theorem ref14_any{w:World}{g off c n:Nat}{v:Value}{A:Nat→Nat}{r:Int}(hA:∀j,j<n→w.cell? ⟨g,off+j,none⟩=some (.int .i64 (A j:Int)))(hm:∀j,j<n→A j<4194304)(h0:0≤r)(hr:r≤(n:Int))(hn:n≤200) :
  Calls Tryz.prog 40 #[.agg #[v,.slice (some ⟨g,off,none⟩) n c],.int .i64 r] w fun e w'=>e=.returned (.int .u64 (lnk A r:Int))∧Fr [] w w':=by
 by_cases hz:r=0
 ·subst hz
  go_enter Tryz.func40,Tryz.ntmps40
  go_wp2_with fail
  go_ret
  exact⟨by simp [lnk],(Fr.refl _ _).alloc _⟩
 ·obtain⟨q,rfl⟩:∃q:Nat,r=((q+1:Nat):Int):=⟨(r-1).toNat,by omega⟩
  have hq:q<n:=by omega
  have c0:=hA q hq
  have m0:=hm q hq
  have hl:lnk A ((q+1:Nat):Int)=A q+1:=by unfold lnk;rw [if_neg (by omega)];simp
  have hl0:¬ (((q+1:Nat):Int))=0:=by omega
  rw [hl]
  clear hA hm hl
  obtain⟨a,ha⟩:∃a,A q=a:=⟨_,rfl⟩
  rw [ha]at c0 m0 ⊢
  obtain⟨r,hr'⟩:∃r:Int,((q+1:Nat):Int)=r:=⟨_,rfl⟩
  rw [hr']at hl0 ⊢
  have e1:r-1=(q:Int):=by omega
  have e2:wrap64 (r-1)=(q:Int):=by rw [e1];exact IntWalk.wrap64_in _ ⟨by omega,by omega⟩
  have e3:wrap64 ((a:Int)+1)=(a:Int)+1:=IntWalk.wrap64_in _ ⟨by omega,by omega⟩
  have N0:g<w.heap.size:=lt_of_cell c0
  clear h0 hr hr' e1
  go_enter Tryz.func40,Tryz.ntmps40
  go_wp2_with fail
  go_ret
  refine⟨ret_int ?_,(Fr.refl _ _).alloc _⟩
  first | (simp;done) | (simp [IntKind.wrap_u64];omega) | skip
theorem home14_any{w:World}{hb g off c n:Nat}{A:Nat→Nat}{q:Nat}{gg:Geo}{rg:Int}(hA:w.cell? ⟨g,off+q,none⟩=some (.int .i64 (A q:Int)))(hq:q<n)(hn:n≤200)
  (c0:w.cell? ⟨hb,14,none⟩=some (.int .i64 gg.words)) (c1:w.cell? ⟨hb,15,none⟩=some (.int .i64 gg.rw)) (c2:w.cell? ⟨hb,16,none⟩=some (.int .i64 gg.cw)) (c3:w.cell? ⟨hb,17,none⟩=some (.int .i64 gg.regions)) (c4:w.cell? ⟨hb,18,none⟩=some (.int .i64 gg.cards)) (c5:w.cell? ⟨hb,19,none⟩=some (.int .i64 gg.max))
  (hR:∀w',Fr [] w w'→Calls Tryz.prog 14 #[.agg #[.int .i64 gg.words,.int .i64 gg.rw,.int .i64 gg.cw,.int .i64 gg.regions,.int .i64 gg.cards,.int .i64 gg.max],.int .i64 (A q:Int)] w' fun e w''=>e=.returned (.int .i64 rg)∧Fr [] w' w'') :
  Calls Tryz.prog 16 #[.agg #[.pointer (some ⟨hb,0,none⟩),.slice (some ⟨g,off,none⟩) n c],.int .i64 ((q:Int)+1)] w fun e w'=>e=.returned (.int .i64 rg)∧Fr [] w w':=by
 have HR:=hide hR
 have e2:wrap64 ((q:Int)+1-1)=(q:Int):=by rw [show(q:Int)+1-1=(q:Int)by omega];exact IntWalk.wrap64_in _ ⟨by omega,by omega⟩
 obtain⟨a,ha⟩:∃a,A q=a:=⟨_,rfl⟩
 rw [ha]at HR hA
 have N0:g<w.heap.size:=lt_of_cell hA
 have N1:hb<w.heap.size:=lt_of_cell c0
 clear hR ha
 go_enter Tryz.func16,Tryz.ntmps16
 go_wp2_with fail
 generalize hw1:w.alloc _=w1
 have hb1:Blk w1 w.heap.size 33 #[.pointer (some ⟨hb,0,none⟩),.slice (some ⟨g,off,none⟩) n c]:=hw1 ▸ Blk.new w 33 _
 have F1:Hid (Fr [] w w1):=hw1 ▸ (Fr.refl _ _).alloc _
 have d0:∀u:Cls (Fr [] w1),u.w.cell? ⟨w.heap.size,0,none⟩=some (.pointer (some ⟨hb,0,none⟩)):=fun u=>u.cell (hb1.cell 0) (by simp)
 have d1:∀u:Cls (Fr [] w1),u.w.cell? ⟨w.heap.size,1,none⟩=some (.slice (some ⟨g,off,none⟩) n c):=fun u=>u.cell (hb1.cell 1) (by simp)
 have dA:∀u:Cls (Fr [] w1),u.w.cell? ⟨g,off+q,none⟩=some (.int .i64 (a:Int)):=fun u=>((F1.out.trans_same u.ok).cell (p:=⟨g,off+q,none⟩) N0 (by simp)).trans hA
 have f0:∀u:Cls (Fr [] w1),u.w.cell? ⟨hb,14,none⟩=some (.int .i64 gg.words):=fun u=>((F1.out.trans_same u.ok).cell (p:=⟨hb,14,none⟩) N1 (by simp)).trans c0
 have f1:∀u:Cls (Fr [] w1),u.w.cell? ⟨hb,15,none⟩=some (.int .i64 gg.rw):=fun u=>((F1.out.trans_same u.ok).cell (p:=⟨hb,15,none⟩) N1 (by simp)).trans c1
 have f2:∀u:Cls (Fr [] w1),u.w.cell? ⟨hb,16,none⟩=some (.int .i64 gg.cw):=fun u=>((F1.out.trans_same u.ok).cell (p:=⟨hb,16,none⟩) N1 (by simp)).trans c2
 have f3:∀u:Cls (Fr [] w1),u.w.cell? ⟨hb,17,none⟩=some (.int .i64 gg.regions):=fun u=>((F1.out.trans_same u.ok).cell (p:=⟨hb,17,none⟩) N1 (by simp)).trans c3
 have f4:∀u:Cls (Fr [] w1),u.w.cell? ⟨hb,18,none⟩=some (.int .i64 gg.cards):=fun u=>((F1.out.trans_same u.ok).cell (p:=⟨hb,18,none⟩) N1 (by simp)).trans c4
 have f5:∀u:Cls (Fr [] w1),u.w.cell? ⟨hb,19,none⟩=some (.int .i64 gg.max):=fun u=>((F1.out.trans_same u.ok).cell (p:=⟨hb,19,none⟩) N1 (by simp)).trans c5
 have HR2:Hid (∀u:Cls (Fr [] w1),Calls Tryz.prog 14 #[.agg #[.int .i64 gg.words,.int .i64 gg.rw,.int .i64 gg.cw,.int .i64 gg.regions,.int .i64 gg.cards,.int .i64 gg.max],.int .i64 (a:Int)] u.w fun e w''=>e=.returned (.int .i64 rg)∧∃u':Cls (Fr [] w1),w''=u'.w):=fun u=>Cls.grow (HR.out u.w (F1.out.trans_same u.ok))
 clear hw1 hb1 c0 c1 c2 c3 c4 c5 hA HR
 refine wp_region_cls (Fr [] w1) (by kernel_rfl) (by kernel_rfl) (Fr.refl _ _).drew ?_
 repeat (go_big_quiet_step ((go_at_call 14;exact HR2.out _)))
 refine wpQuiet_nil ?_
 rintro _ ⟨u,rfl⟩
 go_wp2_with fail
 go_ret
 exact⟨rfl,F1.out.trans_same u.ok⟩
end Go.Proofs.YteacgfeiedcdiaaGreatDoor
