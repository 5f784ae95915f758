/- Several texts joined (pack.py): Zd Ui Uj Uk Uv. -/
import Derived.Test.YtfcjdinlcehpmaaGreatDoorPW19
import Derived.Test.YtfcjdinlcehpmaaGreatDoorPW20
import Derived.Test.YtfcjdinlcehpmaaGreatDoorPW18
import Derived.WalkKit
import Derived.BigQuiet
import Derived.Deep.CutRange
import Derived.Deep.RegionHeld3
namespace Go.Proofs.YtfcjdinlcehpmaaGreatDoor
set_option linter.unusedVariables false
set_option linter.unusedSimpArgs false
set_option maxRecDepth 100000
open Go.RowKit Go.Gl HS
structure Looked(σ:GS)(A:Nat→Nat)(t:Nat)(o:Po)(q I:Nat):Prop where
 q1:1≤q
 q2:q≤σ.N
 a:hkIn (σ.st t) o.a
 r:hkAt (σ.st t) o.a=(q:Int)
 c:o.k=3→hkIn (σ.st t) o.c
 f:((o.k=2∨o.k=3)∧∃j:Nat,o.b=(j:Int)∧j<σ.np (q:Int)∧I=A q+1+j)∨((o.k=4∨o.k=5)∧∃j:Nat,o.b=(j:Int)∧j<σ.nw (q:Int)∧I=A q+1+σ.np (q:Int)+j)
section
variable {W w w':World}{L:HL}{X:HX}{h:HS}{x:HT}{s k:Nat}{E:Blks}{D:Nat→Prop}{Q:World→Prop}{mb t sb:Nat}{m:MU}{σ:GS}{A:Nat→Nat}{rv:Nat→Option (Nat×Nat)}{B M T:Nat}
theorem Sim.objAt(S:Sim h σ A rv){o:Nat}(h1:1≤o)(h2:o≤σ.N):ObjAt h (A o) (osz σ o) (σ.np (o:Int)):=by
 have hz:=osz_pos σ o
 have hl:=(S.use o h1 h2 (A o) (Nat.le_refl _) (by omega)).1
 have hzm:=S.zm o h1 h2
 have hp:σ.np (o:Int)<osz σ o:=by unfold osz;omega
 have of:=of_objW (s:=osz σ o) (p:=σ.np (o:Int)) ⟨hz,hzm⟩ hp
 have hat:=at_in (n:=h.n) (f:=h.f) (k:=A o) hl
 rw [S.hdr o h1 h2,of]at hat
 have hin:=(S.use o h1 h2 (A o+osz σ o-1) (by omega) (by omega)).1
 exact⟨hl,by rw [S.hdr o h1 h2,of];exact hat.1.symm,hat.2.trans rfl,by rw [hat.1];rfl,by rw [hat.1];rfl,by rw [hat.1];rfl,hz,hzm,hp,by omega⟩
def FindP(W:World)(L:HL)(X:HX)(h:HS)(x:HT)(s k:Nat)(D:Nat→Prop)(Q:World→Prop)(mb t sb:Nat)(m:MU)(o:Po)(fV fE:Int):Prop:=
 ∀w' E',(mb,96,muV L.hb t sb m)∈E'→HM W w' L X h x s k E' D Q→Calls Tryz.prog 83 #[.pointer (some ⟨mb,0,none⟩),opV o] w' fun e w''=>e=.returned (.tuple #[.int .i64 fV,.int .i64 fE])∧HM W w'' L X h x s k E' D Q
set_option maxHeartbeats 800000 in
theorem find_sim2(hS:Lives D Q)(S:Sim h σ A rv)(gk:GOk T B σ)(hT:h.T=T)(ht:t<T)(hn:h.n≤4194304)(a b c v:Int)(ho:PoOk ⟨2,a,b,c,v⟩) :
  (∃code:Int,code≠0∧actA B M T σ t ⟨2,a,b,c,v⟩=⟨code,0,false⟩∧actS B M T σ t ⟨2,a,b,c,v⟩=σ∧FindP W L X h x s k D Q mb t sb m ⟨2,a,b,c,v⟩ 0 code) ∨
  ∃q I:Nat,Looked σ A t ⟨2,a,b,c,v⟩ q I∧I<h.n∧FindP W L X h x s k D Q mb t sb m ⟨2,a,b,c,v⟩ (I:Int) 0:=by
 have ht':t<h.T:=by omega
 have e0:=S.st t ht'
 have eA:actA B M T σ t ⟨2,a,b,c,v⟩=⟨loadE B σ t a b,0,false⟩:=rfl
 have eS:actS B M T σ t ⟨2,a,b,c,v⟩=loadS B σ t a b:=rfl
 rw [eA,eS]
 by_cases ha:hkIn (σ.st t) a
 case neg=>
  have ha':¬ hkIn (h.st t) a:=fun e=>ha ((hkIn_map A _ _).1 (by rw [← e0];exact e))
  have HO:objE σ t a=10:=by unfold objE;rw [if_neg ha]
  have HNO:¬ (objE σ t a=0∧fieldIn (σ.np (hkAt (σ.st t) a)) b):=fun e=>by rw [HO]at e;exact absurd e.1 (by decide)
  have HE:loadE B σ t a b=10:=by
   unfold loadE;rw [HO];rw [if_pos (by decide)]
  exact .inl ⟨10,by decide,by rw [HE],by unfold loadS;rw [if_neg HNO],fun w' E' hm q=>mtfind_2_a hS q hm ht' a b c v ha'⟩
 have ha':hkIn (h.st t) a:=by rw [e0];exact(hkIn_map A _ _).2 ha
 have er:hkAt (h.st t) a=refO A (hkAt (σ.st t) a):=by rw [e0,hkAt_map]
 by_cases hr:hkAt (σ.st t) a=0
 ·have hr':hkAt (h.st t) a=0:=by rw [er,hr,refO_zero]
  have HO:objE σ t a=12:=by unfold objE;rw [if_pos ha,if_pos hr]
  have HNO:¬ (objE σ t a=0∧fieldIn (σ.np (hkAt (σ.st t) a)) b):=fun e=>by rw [HO]at e;exact absurd e.1 (by decide)
  have HE:loadE B σ t a b=12:=by
   unfold loadE;rw [HO];rw [if_pos (by decide)]
  exact .inl ⟨12,by decide,by rw [HE],by unfold loadS;rw [if_neg HNO],fun w' E' hm q=>mtfind_2_nil hS q hm ht' a b c v ha' hr'⟩
 have HO:objE σ t a=0:=by unfold objE;rw [if_pos ha,if_neg hr]
 obtain⟨g0,g1⟩:=gk.at t a
 obtain⟨q0,hq⟩:=Int.eq_ofNat_of_zero_le g0
 have hq1:1≤q0:=by omega
 have hq2:q0≤σ.N:=by omega
 have ob:=S.objAt hq1 hq2
 have hr':hkAt (h.st t) a=((A q0:Nat):Int)+1:=by rw [er,hq,refO_nat A hq1]
 have hz:σ.np (q0:Int)<osz σ q0∧osz σ q0≤1048576∧A q0≤4194304:=⟨ob.ps,ob.max,by have:=ob.lt;omega⟩
 have hfit:=ob.fit
 have hosz:osz σ q0=1+σ.np (q0:Int)+σ.nw (q0:Int):=rfl
 by_cases hb:b<0
 ·have hfi:¬ fieldIn (σ.np (q0:Int)) b:=by unfold fieldIn;omega
  have HNO:¬ (objE σ t a=0∧fieldIn (σ.np (hkAt (σ.st t) a)) b):=fun e=>by have:=e.2;rw [hq]at this;exact hfi this
  have HE:loadE B σ t a b=11:=by
   unfold loadE;rw [HO];rw [if_neg (by decide),hq,if_neg hfi]
  exact .inl ⟨11,by decide,by rw [HE],by unfold loadS;rw [if_neg HNO],fun w' E' hm q=>mtfind_2_neg hS q hm ht' a b c v ha' hr' ob.objE ob.objV hz hb⟩
 by_cases hb2:b<((σ.np (q0:Int):Nat):Int)
 case neg=>
  have hfi:¬ fieldIn (σ.np (q0:Int)) b:=by unfold fieldIn;omega
  have HNO:¬ (objE σ t a=0∧fieldIn (σ.np (hkAt (σ.st t) a)) b):=fun e=>by have:=e.2;rw [hq]at this;exact hfi this
  have HE:loadE B σ t a b=11:=by
   unfold loadE;rw [HO];rw [if_neg (by decide),hq,if_neg hfi]
  exact .inl ⟨11,by decide,by rw [HE],by unfold loadS;rw [if_neg HNO],fun w' E' hm q=>mtfind_2_big hS q hm ht' a b c v ha' hr' ob.objE ob.objV hz hb (by omega) ho.b.2⟩
 obtain⟨j,rfl⟩:=Int.eq_ofNat_of_zero_le (show 0≤b by omega)
 refine .inr ⟨q0,A q0+1+j,⟨hq1,hq2,ha,hq,fun e=>absurd e (by show ¬ (2:Int)=3;decide),.inl ⟨.inl rfl,j,rfl,by omega,rfl⟩⟩,by omega,fun w' E' hm q=>?_⟩
 have:=mtfind_2_ok hS q hm ht' a (j:Int) c v ha' hr' ob.objE ob.objV hz hb (by omega)
 rw [show((A q0+1+j:Nat):Int)=((A q0:Nat):Int)+1+(j:Int)by omega]
 exact this
set_option maxHeartbeats 800000 in
theorem find_sim3(hS:Lives D Q)(S:Sim h σ A rv)(gk:GOk T B σ)(hT:h.T=T)(ht:t<T)(hn:h.n≤4194304)(a b c v:Int)(ho:PoOk ⟨3,a,b,c,v⟩) :
  (∃code:Int,code≠0∧actA B M T σ t ⟨3,a,b,c,v⟩=⟨code,0,false⟩∧actS B M T σ t ⟨3,a,b,c,v⟩=σ∧FindP W L X h x s k D Q mb t sb m ⟨3,a,b,c,v⟩ 0 code) ∨
  ∃q I:Nat,Looked σ A t ⟨3,a,b,c,v⟩ q I∧I<h.n∧FindP W L X h x s k D Q mb t sb m ⟨3,a,b,c,v⟩ (I:Int) 0:=by
 have ht':t<h.T:=by omega
 have e0:=S.st t ht'
 have eA:actA B M T σ t ⟨3,a,b,c,v⟩=⟨storeE σ t a b c,0,false⟩:=rfl
 have eS:actS B M T σ t ⟨3,a,b,c,v⟩=storeS σ t a b c:=rfl
 rw [eA,eS]
 by_cases hc:hkIn (σ.st t) c
 case neg=>
  have hc':¬ hkIn (h.st t) c:=fun e=>hc ((hkIn_map A _ _).1 (by rw [← e0];exact e))
  have HE:storeE σ t a b c=10:=by
   unfold storeE;rw [if_neg hc]
  exact .inl ⟨10,by decide,by rw [HE],by unfold storeS;rw [if_neg (by rw [HE];decide)],fun w' E' hm q=>mtfind_3_c hS q hm ht' a b c v hc'⟩
 have hc':hkIn (h.st t) c:=by rw [e0];exact(hkIn_map A _ _).2 hc
 by_cases ha:hkIn (σ.st t) a
 case neg=>
  have ha':¬ hkIn (h.st t) a:=fun e=>ha ((hkIn_map A _ _).1 (by rw [← e0];exact e))
  have HO:objE σ t a=10:=by unfold objE;rw [if_neg ha]
  have HE:storeE σ t a b c=10:=by
   unfold storeE;rw [if_pos hc];rw [HO];rw [if_pos (by decide)]
  exact .inl ⟨10,by decide,by rw [HE],by unfold storeS;rw [if_neg (by rw [HE];decide)],fun w' E' hm q=>mtfind_3_a hS q hm ht' a b c v hc' ha'⟩
 have ha':hkIn (h.st t) a:=by rw [e0];exact(hkIn_map A _ _).2 ha
 have er:hkAt (h.st t) a=refO A (hkAt (σ.st t) a):=by rw [e0,hkAt_map]
 by_cases hr:hkAt (σ.st t) a=0
 ·have hr':hkAt (h.st t) a=0:=by rw [er,hr,refO_zero]
  have HO:objE σ t a=12:=by unfold objE;rw [if_pos ha,if_pos hr]
  have HE:storeE σ t a b c=12:=by
   unfold storeE;rw [if_pos hc];rw [HO];rw [if_pos (by decide)]
  exact .inl ⟨12,by decide,by rw [HE],by unfold storeS;rw [if_neg (by rw [HE];decide)],fun w' E' hm q=>mtfind_3_nil hS q hm ht' a b c v hc' ha' hr'⟩
 have HO:objE σ t a=0:=by unfold objE;rw [if_pos ha,if_neg hr]
 obtain⟨g0,g1⟩:=gk.at t a
 obtain⟨q0,hq⟩:=Int.eq_ofNat_of_zero_le g0
 have hq1:1≤q0:=by omega
 have hq2:q0≤σ.N:=by omega
 have ob:=S.objAt hq1 hq2
 have hr':hkAt (h.st t) a=((A q0:Nat):Int)+1:=by rw [er,hq,refO_nat A hq1]
 have hz:σ.np (q0:Int)<osz σ q0∧osz σ q0≤1048576∧A q0≤4194304:=⟨ob.ps,ob.max,by have:=ob.lt;omega⟩
 have hfit:=ob.fit
 have hosz:osz σ q0=1+σ.np (q0:Int)+σ.nw (q0:Int):=rfl
 by_cases hb:b<0
 ·have hfi:¬ fieldIn (σ.np (q0:Int)) b:=by unfold fieldIn;omega
  have HE:storeE σ t a b c=11:=by
   unfold storeE;rw [if_pos hc];rw [HO];rw [if_neg (by decide),hq,if_neg hfi]
  exact .inl ⟨11,by decide,by rw [HE],by unfold storeS;rw [if_neg (by rw [HE];decide)],fun w' E' hm q=>mtfind_3_neg hS q hm ht' a b c v hc' ha' hr' ob.objE ob.objV hz hb⟩
 by_cases hb2:b<((σ.np (q0:Int):Nat):Int)
 case neg=>
  have hfi:¬ fieldIn (σ.np (q0:Int)) b:=by unfold fieldIn;omega
  have HE:storeE σ t a b c=11:=by
   unfold storeE;rw [if_pos hc];rw [HO];rw [if_neg (by decide),hq,if_neg hfi]
  exact .inl ⟨11,by decide,by rw [HE],by unfold storeS;rw [if_neg (by rw [HE];decide)],fun w' E' hm q=>mtfind_3_big hS q hm ht' a b c v hc' ha' hr' ob.objE ob.objV hz hb (by omega) ho.b.2⟩
 obtain⟨j,rfl⟩:=Int.eq_ofNat_of_zero_le (show 0≤b by omega)
 refine .inr ⟨q0,A q0+1+j,⟨hq1,hq2,ha,hq,fun _=>hc,.inl ⟨.inr rfl,j,rfl,by omega,rfl⟩⟩,by omega,fun w' E' hm q=>?_⟩
 have:=mtfind_3_ok hS q hm ht' a (j:Int) c v hc' ha' hr' ob.objE ob.objV hz hb (by omega)
 rw [show((A q0+1+j:Nat):Int)=((A q0:Nat):Int)+1+(j:Int)by omega]
 exact this
set_option maxHeartbeats 800000 in
theorem find_sim4(hS:Lives D Q)(S:Sim h σ A rv)(gk:GOk T B σ)(hT:h.T=T)(ht:t<T)(hn:h.n≤4194304)(a b c v:Int)(ho:PoOk ⟨4,a,b,c,v⟩) :
  (∃code:Int,code≠0∧actA B M T σ t ⟨4,a,b,c,v⟩=⟨code,0,false⟩∧actS B M T σ t ⟨4,a,b,c,v⟩=σ∧FindP W L X h x s k D Q mb t sb m ⟨4,a,b,c,v⟩ 0 code) ∨
  ∃q I:Nat,Looked σ A t ⟨4,a,b,c,v⟩ q I∧I<h.n∧FindP W L X h x s k D Q mb t sb m ⟨4,a,b,c,v⟩ (I:Int) 0:=by
 have ht':t<h.T:=by omega
 have e0:=S.st t ht'
 have eA:actA B M T σ t ⟨4,a,b,c,v⟩=⟨wordE σ t a b,readV σ t a b,false⟩:=rfl
 have eS:actS B M T σ t ⟨4,a,b,c,v⟩=σ:=rfl
 rw [eA,eS]
 by_cases ha:hkIn (σ.st t) a
 case neg=>
  have ha':¬ hkIn (h.st t) a:=fun e=>ha ((hkIn_map A _ _).1 (by rw [← e0];exact e))
  have HO:objE σ t a=10:=by unfold objE;rw [if_neg ha]
  have HE:wordE σ t a b=10:=by
   unfold wordE;rw [HO];rw [if_pos (by decide)]
  exact .inl ⟨10,by decide,by rw [HE];unfold readV;rw [if_neg (by rw [HE];decide)],by rfl,fun w' E' hm q=>mtfind_4_a hS q hm ht' a b c v ha'⟩
 have ha':hkIn (h.st t) a:=by rw [e0];exact(hkIn_map A _ _).2 ha
 have er:hkAt (h.st t) a=refO A (hkAt (σ.st t) a):=by rw [e0,hkAt_map]
 by_cases hr:hkAt (σ.st t) a=0
 ·have hr':hkAt (h.st t) a=0:=by rw [er,hr,refO_zero]
  have HO:objE σ t a=12:=by unfold objE;rw [if_pos ha,if_pos hr]
  have HE:wordE σ t a b=12:=by
   unfold wordE;rw [HO];rw [if_pos (by decide)]
  exact .inl ⟨12,by decide,by rw [HE];unfold readV;rw [if_neg (by rw [HE];decide)],by rfl,fun w' E' hm q=>mtfind_4_nil hS q hm ht' a b c v ha' hr'⟩
 have HO:objE σ t a=0:=by unfold objE;rw [if_pos ha,if_neg hr]
 obtain⟨g0,g1⟩:=gk.at t a
 obtain⟨q0,hq⟩:=Int.eq_ofNat_of_zero_le g0
 have hq1:1≤q0:=by omega
 have hq2:q0≤σ.N:=by omega
 have ob:=S.objAt hq1 hq2
 have hr':hkAt (h.st t) a=((A q0:Nat):Int)+1:=by rw [er,hq,refO_nat A hq1]
 have hz:σ.np (q0:Int)<osz σ q0∧osz σ q0≤1048576∧A q0≤4194304:=⟨ob.ps,ob.max,by have:=ob.lt;omega⟩
 have hfit:=ob.fit
 have hosz:osz σ q0=1+σ.np (q0:Int)+σ.nw (q0:Int):=rfl
 by_cases hb:b<0
 ·have hfi:¬ fieldIn (σ.nw (q0:Int)) b:=by unfold fieldIn;omega
  have HE:wordE σ t a b=11:=by
   unfold wordE;rw [HO];rw [if_neg (by decide),hq,if_neg hfi]
  exact .inl ⟨11,by decide,by rw [HE];unfold readV;rw [if_neg (by rw [HE];decide)],by rfl,fun w' E' hm q=>mtfind_4_neg hS q hm ht' a b c v ha' hr' ob.objE ob.objV hz hb⟩
 by_cases hb2:b<((σ.nw (q0:Int):Nat):Int)
 case neg=>
  have hfi:¬ fieldIn (σ.nw (q0:Int)) b:=by unfold fieldIn;omega
  have HE:wordE σ t a b=11:=by
   unfold wordE;rw [HO];rw [if_neg (by decide),hq,if_neg hfi]
  exact .inl ⟨11,by decide,by rw [HE];unfold readV;rw [if_neg (by rw [HE];decide)],by rfl,fun w' E' hm q=>mtfind_4_big hS q hm ht' a b c v ha' hr' ob.objE ob.objV hz hb (by omega) ho.b.2⟩
 obtain⟨j,rfl⟩:=Int.eq_ofNat_of_zero_le (show 0≤b by omega)
 refine .inr ⟨q0,A q0+1+σ.np (q0:Int)+j,⟨hq1,hq2,ha,hq,fun e=>absurd e (by show ¬ (4:Int)=3;decide),.inr ⟨.inl rfl,j,rfl,by omega,rfl⟩⟩,by omega,fun w' E' hm q=>?_⟩
 have:=mtfind_4_ok hS q hm ht' a (j:Int) c v ha' hr' ob.objE ob.objV hz hb (by omega)
 rw [show((A q0+1+σ.np (q0:Int)+j:Nat):Int)=((A q0:Nat):Int)+1+((σ.np (q0:Int):Nat):Int)+(j:Int)by omega]
 exact this
set_option maxHeartbeats 800000 in
theorem find_sim5(hS:Lives D Q)(S:Sim h σ A rv)(gk:GOk T B σ)(hT:h.T=T)(ht:t<T)(hn:h.n≤4194304)(a b c v:Int)(ho:PoOk ⟨5,a,b,c,v⟩) :
  (∃code:Int,code≠0∧actA B M T σ t ⟨5,a,b,c,v⟩=⟨code,0,false⟩∧actS B M T σ t ⟨5,a,b,c,v⟩=σ∧FindP W L X h x s k D Q mb t sb m ⟨5,a,b,c,v⟩ 0 code) ∨
  ∃q I:Nat,Looked σ A t ⟨5,a,b,c,v⟩ q I∧I<h.n∧FindP W L X h x s k D Q mb t sb m ⟨5,a,b,c,v⟩ (I:Int) 0:=by
 have ht':t<h.T:=by omega
 have e0:=S.st t ht'
 have eA:actA B M T σ t ⟨5,a,b,c,v⟩=⟨wordE σ t a b,0,false⟩:=rfl
 have eS:actS B M T σ t ⟨5,a,b,c,v⟩=writeS σ t a b v:=rfl
 rw [eA,eS]
 by_cases ha:hkIn (σ.st t) a
 case neg=>
  have ha':¬ hkIn (h.st t) a:=fun e=>ha ((hkIn_map A _ _).1 (by rw [← e0];exact e))
  have HO:objE σ t a=10:=by unfold objE;rw [if_neg ha]
  have HE:wordE σ t a b=10:=by
   unfold wordE;rw [HO];rw [if_pos (by decide)]
  exact .inl ⟨10,by decide,by rw [HE],by unfold writeS;rw [if_neg (by rw [HE];decide)],fun w' E' hm q=>mtfind_5_a hS q hm ht' a b c v ha'⟩
 have ha':hkIn (h.st t) a:=by rw [e0];exact(hkIn_map A _ _).2 ha
 have er:hkAt (h.st t) a=refO A (hkAt (σ.st t) a):=by rw [e0,hkAt_map]
 by_cases hr:hkAt (σ.st t) a=0
 ·have hr':hkAt (h.st t) a=0:=by rw [er,hr,refO_zero]
  have HO:objE σ t a=12:=by unfold objE;rw [if_pos ha,if_pos hr]
  have HE:wordE σ t a b=12:=by
   unfold wordE;rw [HO];rw [if_pos (by decide)]
  exact .inl ⟨12,by decide,by rw [HE],by unfold writeS;rw [if_neg (by rw [HE];decide)],fun w' E' hm q=>mtfind_5_nil hS q hm ht' a b c v ha' hr'⟩
 have HO:objE σ t a=0:=by unfold objE;rw [if_pos ha,if_neg hr]
 obtain⟨g0,g1⟩:=gk.at t a
 obtain⟨q0,hq⟩:=Int.eq_ofNat_of_zero_le g0
 have hq1:1≤q0:=by omega
 have hq2:q0≤σ.N:=by omega
 have ob:=S.objAt hq1 hq2
 have hr':hkAt (h.st t) a=((A q0:Nat):Int)+1:=by rw [er,hq,refO_nat A hq1]
 have hz:σ.np (q0:Int)<osz σ q0∧osz σ q0≤1048576∧A q0≤4194304:=⟨ob.ps,ob.max,by have:=ob.lt;omega⟩
 have hfit:=ob.fit
 have hosz:osz σ q0=1+σ.np (q0:Int)+σ.nw (q0:Int):=rfl
 by_cases hb:b<0
 ·have hfi:¬ fieldIn (σ.nw (q0:Int)) b:=by unfold fieldIn;omega
  have HE:wordE σ t a b=11:=by
   unfold wordE;rw [HO];rw [if_neg (by decide),hq,if_neg hfi]
  exact .inl ⟨11,by decide,by rw [HE],by unfold writeS;rw [if_neg (by rw [HE];decide)],fun w' E' hm q=>mtfind_5_neg hS q hm ht' a b c v ha' hr' ob.objE ob.objV hz hb⟩
 by_cases hb2:b<((σ.nw (q0:Int):Nat):Int)
 case neg=>
  have hfi:¬ fieldIn (σ.nw (q0:Int)) b:=by unfold fieldIn;omega
  have HE:wordE σ t a b=11:=by
   unfold wordE;rw [HO];rw [if_neg (by decide),hq,if_neg hfi]
  exact .inl ⟨11,by decide,by rw [HE],by unfold writeS;rw [if_neg (by rw [HE];decide)],fun w' E' hm q=>mtfind_5_big hS q hm ht' a b c v ha' hr' ob.objE ob.objV hz hb (by omega) ho.b.2⟩
 obtain⟨j,rfl⟩:=Int.eq_ofNat_of_zero_le (show 0≤b by omega)
 refine .inr ⟨q0,A q0+1+σ.np (q0:Int)+j,⟨hq1,hq2,ha,hq,fun e=>absurd e (by show ¬ (5:Int)=3;decide),.inr ⟨.inr rfl,j,rfl,by omega,rfl⟩⟩,by omega,fun w' E' hm q=>?_⟩
 have:=mtfind_5_ok hS q hm ht' a (j:Int) c v ha' hr' ob.objE ob.objV hz hb (by omega)
 rw [show((A q0+1+σ.np (q0:Int)+j:Nat):Int)=((A q0:Nat):Int)+1+((σ.np (q0:Int):Nat):Int)+(j:Int)by omega]
 exact this
end
section
variable {W w w':World}{L:HL}{X:HX}{h:HS}{x:HT}{s k:Nat}{E:Blks}{D:Nat→Prop}{Q:World→Prop}{mb t sb:Nat}{m:MU}
set_option maxHeartbeats 1600000 in
theorem mtwords_no(hS:Lives D Q)(H:HM W w L X h x s k E D Q)(hm:(mb,96,muV L.hb t sb m)∈E)(ht:t<h.T)(hB:h.BufIn){n:Int}(hbg:h.g.bigB n=false)(hn:1≤n)(hn2:h.be t-h.bx t<n)(hno:((those h.s 1 h.R).length:Int)≥L.cfg.young∨(((those h.s 1 h.R).length:Int)<L.cfg.young∧NoneFree h.s h.R)) :
  Calls Tryz.prog 81 #[.pointer (some ⟨mb,0,none⟩),.int .i64 n] w fun e w'=>e=.returned (.tuple #[.int .i64 0,.int .i64 6])∧HM W w' L X (dropH h t) x s k E D Q:=by
 have HBg:Hid (∀w',HM W w' L X h x s k E D Q→Calls Tryz.prog 61 #[.agg #[.int .i64 h.g.words,.int .i64 h.g.rw,.int .i64 h.g.cw,.int .i64 h.g.regions,.int .i64 h.g.cards,.int .i64 h.g.max],.int .i64 n] w' fun e w''=>e=.returned (.bool false)∧HM W w'' L X h x s k E D Q):=fun w' q=>by
  refine(big_any h.g n w' (by rw [q.dim.rw];omega)).mono ?_
  rintro e w'' ⟨rfl,hf⟩
  rw [hbg]
  exact⟨rfl,q.fr0 hS hf⟩
 have HLf:Hid (∀w',HM W w' L X h x s k E D Q→Calls Tryz.prog 104 #[.pointer (some ⟨L.bb,t*2,none⟩)] w' fun e w''=>e=.returned (.int .i64 (h.be t-h.bx t))∧HM W w'' L X h x s k E D Q):=fun w' q=>q.bleft hS ht
 have HMu:Hid (∀w' h' x',HM W w' L X h' x' s k E D Q→w'.cell? ⟨mb,0,none⟩=some (.pointer (some ⟨L.hb,0,none⟩))∧w'.cell? ⟨mb,1,none⟩=some (.int .i64 (t:Int))):=fun w' h' x' q=>by
  have hb:=q.blk hm
  exact⟨hb.cell 0,hb.cell 1⟩
 have HCe:Hid (∀w',HM W w' L X h x s k E D Q→Hcells w' L X h.g h.T):=fun w' q=>q.hc
 have HF0:Hid (∀w' i,HM W w' L X h x s k E D Q→HM W (w'.drewN i) L X h x s k E D Q):=fun w' i q=>q.fr0 hS ((Fr.refl _ _).drewN _)
 have ht1:(t:Int)<(h.T:Int):=by omega
 have HA0:=hide H
 obtain⟨c14,c15,c16,c17,c18,c19,-,-,-,-,-,-,-,-,-,NH⟩:=H.hc
 have k0:=(HMu.out _ _ _ H).1
 have HRt:Hid (∀w',HM W w' L X h x s k E D Q→Calls Tryz.prog 105 #[.pointer (some ⟨mb,0,none⟩)] w' fun e w''=>e=.returned (.tuple #[])∧HM W w'' L X (dropH h t) x s k E D Q):=fun w' q=>mtretire_any hS q hm ht hB
 have HRf:Hid (∀w',HM W w' L X (dropH h t) x s k E D Q→Calls Tryz.prog 106 #[.pointer (some ⟨mb,0,none⟩)] w' fun e w''=>e=.returned (.tuple #[])∧HM W w'' L X (dropH h t) x s k E D Q):=fun w' q=>by
  rcases hno with hy | ⟨hy,hl⟩
  ·exact mtrefill_full hS q hm hy
  ·exact mtrefill_none hS q hm hy hl
 have HTk:Hid (∀w',HM W w' L X (dropH h t) x s k E D Q→Calls Tryz.prog 107 #[.pointer (some ⟨L.bb,t*2,none⟩),.int .i64 n] w' fun e w''=>e=.returned (.tuple #[.int .i64 0,.int .i64 6])∧HM W w'' L X (dropH h t) x s k E D Q):=fun w' q=>by
  have ex:(dropH h t).bx t=0:=by show put1 _ t _ t=_;unfold put1;rw [if_pos rfl]
  have ee:(dropH h t).be t=0:=by show put1 _ t _ t=_;unfold put1;rw [if_pos rfl]
  exact q.btake_no hS (i:=t) ht hn (by rw [ex,ee];omega)
 have hge:decide (h.be t-h.bx t<n)=true:=by simp;omega
 clear H hm hbg ht hn hn2 hB hno
 go_enter Tryz.func81,Tryz.ntmps81
 go_wp2_with fail
 refine(HBg.out _ HA0.out).mono ?_
 rintro e w1 ⟨rfl,hA⟩
 have HA1:=hide hA
 obtain⟨k0',k1⟩:=HMu.out _ _ _ hA
 have c28:=(HCe.out _ hA).c28
 have NH1:=(HCe.out _ hA).lt
 clear c14 c15 c16 c17 c18 c19 NH k0 hA
 go_wp2_with fail
 go_quiet (fail)
 have HA2:=hide (HF0.out _ nq HA1.out)
 have HL2:=hide (HLf.out _ HA2.out)
 clear k0' k1 c28 NH1
 go_wp2_with fail
 refine HL2.out.mono ?_
 rintro e w2 ⟨rfl,hA⟩
 have HA3:=hide hA
 clear hA
 have HR3:=hide (HRt.out _ HA3.out)
 go_wp2_with fail
 refine HR3.out.mono ?_
 rintro e w3 ⟨rfl,hA⟩
 have HR4:=hide (HRf.out _ hA)
 clear hA
 go_wp2_with fail
 refine HR4.out.mono ?_
 rintro e w4 ⟨rfl,hA⟩
 have HT3:=hide (HTk.out _ hA)
 clear hA
 go_wp2_with fail
 refine HT3.out.mono ?_
 rintro e w5 ⟨rfl,hA⟩
 have HA4:=hide hA
 clear hA
 go_wp2_with fail
 go_ret2
 exact⟨rfl,HA4.out⟩
end
section
variable {W w w':World}{L:HL}{X:HX}{h h2:HS}{x x2:HT}{s k:Nat}{E:Blks}{D:Nat→Prop}{Q:World→Prop}{mb t sb:Nat}{m:MU}
def resZ:Array Value:=#[.int .i64 0,.int .i64 0,.int .i64 0,.int .u64 0,.bool false,.bool false,.bool false,.bool false,.slice none 0 0]
abbrev put9(w:World)(b:Nat)(v0 v1 v2 v3 v4 v5 v6 v7 v8:Value):World:=
 ((((((((w.setCell ⟨b,0,none⟩ v0).setCell ⟨b,1,none⟩ v1).setCell ⟨b,2,none⟩ v2).setCell ⟨b,3,none⟩ v3).setCell ⟨b,4,none⟩ v4).setCell ⟨b,5,none⟩ v5).setCell ⟨b,6,none⟩ v6).setCell ⟨b,7,none⟩ v7).setCell ⟨b,8,none⟩ v8
theorem fr_put9(w:World)(b:Nat)(v0 v1 v2 v3 v4 v5 v6 v7 v8:Value):Fr [b] w (put9 w b v0 v1 v2 v3 v4 v5 v6 v7 v8):=
 fr_sets (fr_sets (fr_sets (fr_sets (fr_sets (fr_sets (fr_sets (fr_sets (fr_sets (Fr.refl [b] w) (by simp) 0 _) (by simp) 1 _) (by simp) 2 _) (by simp) 3 _) (by simp) 4 _) (by simp) 5 _) (by simp) 6 _) (by simp) 7 _) (by simp) 8 _
theorem blk_put9{b:Nat}{ty:TypeId}{a0 a1 a2 a3 a4 a5 a6 a7 a8:Value}(h:Blk w b ty #[a0,a1,a2,a3,a4,a5,a6,a7,a8])(v0 v1 v2 v3 v4 v5 v6 v7 v8:Value):Blk (put9 w b v0 v1 v2 v3 v4 v5 v6 v7 v8) b ty #[v0,v1,v2,v3,v4,v5,v6,v7,v8]:=by
 have:=((((((((h.put 0 v0).put 1 v1).put 2 v2).put 3 v3).put 4 v4).put 5 v5).put 6 v6).put 7 v7).put 8 v8
 simpa using this
theorem HM.res9(hS:Lives D Q)(hT:Tab W){rb:Nat}{a0 a1 a2 a3 a4 a5 a6 a7 a8:Value}(H:HM W w L X h x s k ((rb,61,#[a0,a1,a2,a3,a4,a5,a6,a7,a8])::E) D Q)(hne:∀q,q∈E→q.1≠rb)(v0 v1 v2 v3 v4 v5 v6 v7 v8:Value) :
  HM W (put9 w rb v0 v1 v2 v3 v4 v5 v6 v7 v8) L X h x s k E D Q:=
 (H.turn hS hT (fr_put9 w rb v0 v1 v2 v3 v4 v5 v6 v7 v8) (blk_put9 (H.blk (List.mem_cons_self ..)) v0 v1 v2 v3 v4 v5 v6 v7 v8) hne).sub (fun q hq=>List.mem_cons_of_mem _ hq)
end
section
variable {W w w':World}{L:HL}{X:HX}{h h2:HS}{x x2:HT}{s k:Nat}{E:Blks}{D:Nat→Prop}{Q:World→Prop}{mb t sb:Nat}{m:MU}
def MU.op(m:MU):Po:=⟨m.k,m.a,m.b,m.c,m.v⟩
set_option maxHeartbeats 3200000 in
theorem mtalloc_ok(hS:Lives D Q)(hT:Tab W)(H:HM W w L X h x s k ((mb,96,muV L.hb t sb m)::E) D Q)(hne:∀q,q∈E→q.1≠mb)(ht:t<h.T)(hB:L.B≤64)(hl:(h.st t).length<L.B)
  {M:Nat} (hM:h.g.max=(M:Int)) (hM2:M≤1048576) (hsz:¬ sizeBad M m.a m.b) (ho:PoOk m.op) {ad:Int}
  (hw:∀w' E',(mb,96,muV L.hb t sb m)∈E'→HM W w' L X h x s k E' D Q→Calls Tryz.prog 81 #[.pointer (some ⟨mb,0,none⟩),.int .i64 (1+m.a+m.b)] w' fun e w''=>e=.returned (.tuple #[.int .i64 ad,.int .i64 0])∧HM W w'' L X h2 x2 s k E' D Q) :
  Calls Tryz.prog 50 #[.pointer (some ⟨mb,0,none⟩)] w fun e w'=>e=.returned (resV 0 0 An.zero false true false (.slice none 0 0))∧HM W w' L X h2 x2 s k ((mb,96,muV L.hb t sb { m with st:=5,ad:=ad })::E) D Q:=by
 have hmb:=H.blk (List.mem_cons_self ..)
 have hlt:=hmb.lt
 have hltE:∀q,q∈E→q.1<w.heap.size:=fun q hq=>(H.blk (b:=q.1) (t:=q.2.1) (cs:=q.2.2) (List.mem_cons_of_mem _ hq)).lt
 have HX:=hide (H.alloc hS 61 #[.int .i64 0,.int .i64 0,.int .i64 0,.int .u64 0,.bool false,.bool false,.bool false,.bool false,.slice none 0 0])
 have HSz:Hid (Calls Tryz.prog 79 #[.pointer (some ⟨mb,0,none⟩),opV m.op] (w.alloc (.cells #[.int .i64 0,.int .i64 0,.int .i64 0,.int .u64 0,.bool false,.bool false,.bool false,.bool false,.slice none 0 0] 61)) fun e w'=>e=.returned (.tuple #[.int .i64 (1+m.a+m.b),.int .i64 0])∧HM W w' L X h x s k ((w.heap.size,61,#[.int .i64 0,.int .i64 0,.int .i64 0,.int .u64 0,.bool false,.bool false,.bool false,.bool false,.slice none 0 0])::(mb,96,muV L.hb t sb m)::E) D Q):=by
  have:=mtsize_any (HX.out.blk (List.mem_cons_of_mem _ (List.mem_cons_self ..))) HX.out.hc hM hM2 m.op ho
  unfold szN szE at this
  rw [if_neg (show ¬ sizeBad M m.op.a m.op.b from hsz),if_neg (show ¬ sizeBad M m.op.a m.op.b from hsz)]at this
  exact this.mono (by rintro e w' ⟨rfl,hf⟩;exact⟨rfl,HX.out.fr0 hS hf⟩)
 have HSk:Hid (∀w' E',(mb,96,muV L.hb t sb m)∈E'→HM W w' L X h x s k E' D Q→Calls Tryz.prog 56 #[.pointer (some ⟨mb,0,none⟩)] w' fun e w''=>e=.returned (.pointer (some ⟨L.S t,0,none⟩))∧HM W w'' L X h x s k E' D Q):=fun w' E' hm q=>(mtstack_any (q.blk hm) q.hr ht).mono (by rintro e w'' ⟨rfl,hf⟩;exact⟨rfl,q.fr0 hS hf⟩)
 have HRm:Hid (∀w' E',HM W w' L X h x s k E' D Q→Calls Tryz.prog 80 #[.pointer (some ⟨L.S t,0,none⟩)] w' fun e w''=>e=.returned (.int .i64 ((L.B:Int)-((h.st t).length:Int)))∧HM W w'' L X h x s k E' D Q):=fun w' E' q=>by
  obtain⟨F,hk⟩:=q.hr.stk t ht
  refine(hroom_any hk (by omega) hB).mono ?_
  rintro e w'' ⟨rfl,n,rfl⟩
  exact⟨rfl,q.fr0 hS ((Fr.refl _ _).drewN _)⟩
 have hroom:((L.B:Int)-((h.st t).length:Int)==0)=false:=by simp;omega
 have HW:=hide hw
 have HGo:Hid (∀w' rb c,rb≠mb→HM W w' L X h2 x2 s k ((rb,61,c)::(mb,96,muV L.hb t sb m)::E) D Q→Calls Tryz.prog 82 #[.pointer (some ⟨mb,0,none⟩),.int .i64 5,.int .i64 ad] w' fun e w''=>e=.returned (resV 0 0 An.zero false true false (.slice none 0 0))∧HM W w'' L X h2 x2 s k ((rb,61,c)::(mb,96,muV L.hb t sb { m with st:=5,ad:=ad })::E) D Q):=fun w' rb c hr q=>by
  have q2:HM W w' L X h2 x2 s k ((mb,96,muV L.hb t sb m)::(rb,61,c)::E) D Q:=q.sub (fun y hy=>by
   rcases List.mem_cons.1 hy with rfl | hy
   ·exact List.mem_cons_of_mem _ (List.mem_cons_self ..)
   ·rcases List.mem_cons.1 hy with rfl | hy
    ·exact List.mem_cons_self ..
    ·exact List.mem_cons_of_mem _ (List.mem_cons_of_mem _ hy))
  refine(q2.mut (P:=fun e=>e=.returned (resV 0 0 An.zero false true false (.slice none 0 0))) hS hT (m':={ m with st:=5,ad:=ad }) (fun y hy=>?_) (fun hb=>mgoOn_any hb 5 ad)).mono ?_
  ·rcases List.mem_cons.1 hy with rfl | hy
   ·exact hr
   ·exact hne y hy
  ·rintro e w'' ⟨he,q3⟩
   refine⟨he,q3.sub (fun y hy=>?_)⟩
   rcases List.mem_cons.1 hy with rfl | hy
   ·exact List.mem_cons_of_mem _ (List.mem_cons_self ..)
   ·rcases List.mem_cons.1 hy with rfl | hy
    ·exact List.mem_cons_self ..
    ·exact List.mem_cons_of_mem _ (List.mem_cons_of_mem _ hy)
 have HEnd:Hid (∀w' rb a0 a1 a2 a3 a4 a5 a6 a7 a8 v0 v1 v2 v3 v4 v5 v6 v7 v8,rb≠mb→(∀q,q∈E→q.1≠rb)→HM W w' L X h2 x2 s k ((rb,61,#[a0,a1,a2,a3,a4,a5,a6,a7,a8])::(mb,96,muV L.hb t sb { m with st:=5,ad:=ad })::E) D Q→HM W (put9 w' rb v0 v1 v2 v3 v4 v5 v6 v7 v8) L X h2 x2 s k ((mb,96,muV L.hb t sb { m with st:=5,ad:=ad })::E) D Q):=fun w' rb a0 a1 a2 a3 a4 a5 a6 a7 a8 v0 v1 v2 v3 v4 v5 v6 v7 v8 hr hq q=>
  q.res9 hS hT (fun y hy=>by
   rcases List.mem_cons.1 hy with rfl | hy
   ·exact fun e=>hr e.symm
   ·exact hq y hy) v0 v1 v2 v3 v4 v5 v6 v7 v8
 obtain⟨c0,c1,c2,c3,c4,c5,c6,c7,c8,c9,c10⟩:=muCells hmb
 have HRB:Hid (w.heap.size≠mb∧∀q,q∈E→q.1≠w.heap.size):=⟨by omega,fun q hq=>by have:=hltE q hq;omega⟩
 unfold opV at HSz
 unfold MU.op at HSz
 simp only at HSz
 unfold resV at HGo ⊢
 unfold An.zero at HGo ⊢
 clear H hmb hltE HX hw hB hl hM hM2 hsz ho hne
 generalize (L.B:Int)-((h.st t).length:Int)=rm at *
 go_enter Tryz.func50,Tryz.ntmps50
 go_wp2_with fail
 refine HSz.out.mono ?_
 rintro e w1 ⟨rfl,hA⟩
 have HA1:=hide hA
 have HK1:=hide (HSk.out _ _ (List.mem_cons_of_mem _ (List.mem_cons_self ..)) hA)
 clear hA c0 c1 c2 c3 c4 c5 c6 c7 c8 c9 c10 HSz
 go_wp2_with fail
 refine HK1.out.mono ?_
 rintro e w2 ⟨rfl,hA⟩
 have HK2:=hide (HRm.out _ _ hA)
 clear hA HK1
 go_wp2_with fail
 refine HK2.out.mono ?_
 rintro e w3 ⟨rfl,hA⟩
 have HK3:=hide (HW.out _ _ (List.mem_cons_of_mem _ (List.mem_cons_self ..)) hA)
 clear hA HK2
 go_wp2_with fail
 refine HK3.out.mono ?_
 rintro e w4 ⟨rfl,hA⟩
 have HK4:=hide (HGo.out _ _ _ HRB.out.1 hA)
 clear hA HK3
 go_wp2_with fail
 refine HK4.out.mono ?_
 rintro e w5 ⟨rfl,hA⟩
 have HA5:=hide hA
 have hrb:=hA.blk (List.mem_cons_self ..)
 have y0:=hrb.cell 0
 have y1:=hrb.cell 1
 have y2:=hrb.cell 2
 have y3:=hrb.cell 3
 have y4:=hrb.cell 4
 have y5:=hrb.cell 5
 have y6:=hrb.cell 6
 have y7:=hrb.cell 7
 have y8:=hrb.cell 8
 have z0:=hrb.frozen 0
 have z1:=hrb.frozen 1
 have z2:=hrb.frozen 2
 have z3:=hrb.frozen 3
 have z4:=hrb.frozen 4
 have z5:=hrb.frozen 5
 have z6:=hrb.frozen 6
 have z7:=hrb.frozen 7
 have z8:=hrb.frozen 8
 have NR:=hrb.lt
 clear hA hrb HK4
 go_wp2_with fail
 refine bodyPost_ret (v:=.agg #[.int .i64 0,.int .i64 0,.int .i64 0,.int .u64 0,.bool false,.bool false,.bool true,.bool false,.slice none 0 0]) (by simp [results,Tryz.results50,go_sem, *]) rfl ⟨rfl,?_⟩
 exact HEnd.out _ _ _ _ _ _ _ _ _ _ _ _ _ _ _ _ _ _ _ _ HRB.out.1 HRB.out.2 HA5.out
end
section
variable {W w w':World}{L:HL}{X:HX}{h h2:HS}{x x2:HT}{s k:Nat}{E:Blks}{D:Nat→Prop}{Q:World→Prop}{mb t sb:Nat}{m:MU}
theorem HM.aload(hS:Lives D Q)(H:HM W w L X h x s k E D Q){I:Nat}(hI:I<h.n) :
  Calls Tryz.prog 20 #[.pointer (some ⟨L.ab,0,none⟩),.int .i64 (I:Int)] w fun e w'=>e=.returned (.tuple #[.int .u64 (h.f I:Int),.int .i64 0])∧HM W w' L X h x s k E D Q:=by
 obtain⟨c,hc⟩:=H.hr.ar
 refine(load_at hc rfl hI rfl).mono ?_
 rintro e w' ⟨rfl,ha,hf⟩
 exact⟨rfl,H.looked hS (H.hr.fr1 hf ⟨_,ha⟩) hf⟩
theorem HM.astore(hS:Lives D Q)(H:HM W w L X h x s k E D Q){I v:Nat}{y:Int}(hI:I<h.n)(hy:y=(v:Int))(hv:v<18446744073709551616) :
  Calls Tryz.prog 55 #[.pointer (some ⟨L.ab,0,none⟩),.int .i64 (I:Int),.int .u64 y] w fun e w'=>e=.returned (.int .i64 0)∧HM W w' L X { h with f:=upd h.f I v } x s k E D Q:=
 H.post hS fun own q=>q.store rfl hI hy hv
theorem HM.answer(hS:Lives D Q)(hT:Tab W)(H:HM W w L X h x s k ((mb,96,muV L.hb t sb m)::E) D Q)(hne:∀q,q∈E→q.1≠mb)(hd:(m.dn:Int)+1≤9223372036854775807)(a0 a1:Int)(y:An) :
  Calls Tryz.prog 42 #[.pointer (some ⟨mb,0,none⟩),ansV a0 a1 y] w fun e w'=>e=.returned (resV (t:Int) (m.dn:Int) y true false false (.slice none 0 0))∧HM W w' L X h x s k ((mb,96,muV L.hb t sb (MU.zero (m.dn+1)))::E) D Q:=
 H.mut (P:=fun e=>e=.returned (resV (t:Int) (m.dn:Int) y true false false (.slice none 0 0))) hS hT (m':=MU.zero (m.dn+1)) hne (fun hb=>manswer_any hb hd a0 a1 y)
theorem HM.goOn(hS:Lives D Q)(hT:Tab W)(H:HM W w L X h x s k ((mb,96,muV L.hb t sb m)::E) D Q)(hne:∀q,q∈E→q.1≠mb)(s0 a0:Int) :
  Calls Tryz.prog 82 #[.pointer (some ⟨mb,0,none⟩),.int .i64 s0,.int .i64 a0] w fun e w'=>e=.returned (resV 0 0 An.zero false true false (.slice none 0 0))∧HM W w' L X h x s k ((mb,96,muV L.hb t sb { m with st:=s0,ad:=a0 })::E) D Q:=
 H.mut (P:=fun e=>e=.returned (resV 0 0 An.zero false true false (.slice none 0 0))) hS hT (m':={ m with st:=s0,ad:=a0 }) hne (fun hb=>mgoOn_any hb s0 a0)
theorem HM.swap{p q:Nat×TypeId×Array Value}(H:HM W w L X h x s k (p::q::E) D Q):HM W w L X h x s k (q::p::E) D Q:=
 H.sub (fun y hy=>by simp only [List.mem_cons]at hy ⊢;rcases hy with e | e | e <;> simp [e])
set_option maxHeartbeats 1600000 in
theorem mtload_any(hS:Lives D Q)(H:HM W w L X h x s k E D Q)(hm:(mb,96,muV L.hb t sb m)∈E)(ht:t<h.T)(hB:L.B≤64)(hl:(h.st t).length≤L.B){I:Nat}(hI:I<h.n) :
  Calls Tryz.prog 54 #[.pointer (some ⟨mb,0,none⟩),.int .i64 (I:Int)] w fun e w'=>e=.returned (.int .i64 (hkPushE L.B (h.st t)))∧HM W w' L X { h with st:=setN h.st t (hkPush L.B (h.st t) (h.f I:Int)) } x s k E D Q:=by
 have HL:=hide (H.aload hS hI)
 have hfk:=H.ok.fok I
 have HK:Hid (∀w',HM W w' L X h x s k E D Q→Calls Tryz.prog 56 #[.pointer (some ⟨mb,0,none⟩)] w' fun e w''=>e=.returned (.pointer (some ⟨L.S t,0,none⟩))∧HM W w'' L X h x s k E D Q):=fun w' q=>(mtstack_any (q.blk hm) q.hr ht).mono (by rintro e w'' ⟨rfl,hf⟩;exact⟨rfl,q.fr0 hS hf⟩)
 have HP:Hid (∀w',HM W w' L X h x s k E D Q→Calls Tryz.prog 63 #[.pointer (some ⟨L.S t,0,none⟩),.int .u64 (h.f I:Int)] w' fun e w''=>e=.returned (.int .i64 (hkPushE L.B (h.st t)))∧HM W w'' L X { h with st:=setN h.st t (hkPush L.B (h.st t) (h.f I:Int)) } x s k E D Q):=fun w' y=>y.spush hS ht hB hl ⟨by omega,by omega⟩
 have c0:w.cell? ⟨mb,0,none⟩=some (.pointer (some ⟨L.hb,0,none⟩)):=(H.blk hm).cell 0
 have c20:=H.hc.c20
 have N0:=lt_of_cell c0
 have N1:=lt_of_cell c20
 clear H hm hB hl hI hfk
 generalize (h.f I:Int)=fv at *
 generalize hkPushE L.B (h.st t)=er at *
 go_enter Tryz.func54,Tryz.ntmps54
 go_wp2_with fail
 refine HL.out.mono ?_
 rintro e w1 ⟨rfl,hA⟩
 have HA1:=hide (HK.out _ hA)
 clear hA c0 c20 HL N0 N1
 go_wp2_with fail
 refine HA1.out.mono ?_
 rintro e w2 ⟨rfl,hA⟩
 have HA2:=hide (HP.out _ hA)
 clear hA HA1
 go_wp2_with fail
 refine HA2.out.mono ?_
 rintro e w3 ⟨rfl,hA⟩
 have HA3:=hide hA
 clear hA HA2
 go_wp2_with fail
 go_ret
 exact⟨rfl,HA3.out⟩
set_option maxHeartbeats 3200000 in
theorem mtlook_bad(hS:Lives D Q)(hT:Tab W)(H:HM W w L X h x s k ((mb,96,muV L.hb t sb m)::E) D Q)(hne:∀q,q∈E→q.1≠mb)(hd:(m.dn:Int)+1≤9223372036854775807){fV fE:Int}(he:fE≠0)
  (hf:∀w' E',(mb,96,muV L.hb t sb m)∈E'→HM W w' L X h x s k E' D Q→Calls Tryz.prog 83 #[.pointer (some ⟨mb,0,none⟩),opV m.op] w' fun e w''=>e=.returned (.tuple #[.int .i64 fV,.int .i64 fE])∧HM W w'' L X h x s k E' D Q) :
  Calls Tryz.prog 51 #[.pointer (some ⟨mb,0,none⟩)] w fun e w'=>e=.returned (resV (t:Int) (m.dn:Int) ⟨fE,0,false⟩ true false false (.slice none 0 0))∧HM W w' L X h x s k ((mb,96,muV L.hb t sb (MU.zero (m.dn+1)))::E) D Q:=by
 have hmb:=H.blk (List.mem_cons_self ..)
 have hlt:=hmb.lt
 have hltE:∀q,q∈E→q.1<w.heap.size:=fun q hq=>(H.blk (b:=q.1) (t:=q.2.1) (cs:=q.2.2) (List.mem_cons_of_mem _ hq)).lt
 have hrm:w.heap.size≠mb:=by omega
 have hrE:∀q,q∈E→q.1≠w.heap.size:=fun q hq=>by have:=hltE q hq;omega
 have hneR:∀cs:Array Value,∀q,q∈((w.heap.size,61,cs)::E:Blks)→q.1≠mb:=fun cs q hq=>by
  rcases List.mem_cons.1 hq with rfl | hq
  ·exact hrm
  ·exact hne q hq
 have HX:Hid (HM W (w.alloc (.cells #[.int .i64 0,.int .i64 0,.int .i64 0,.int .u64 0,.bool false,.bool false,.bool false,.bool false,.slice none 0 0] 61)) L X h x s k ((w.heap.size,61,#[.int .i64 0,.int .i64 0,.int .i64 0,.int .u64 0,.bool false,.bool false,.bool false,.bool false,.slice none 0 0])::(mb,96,muV L.hb t sb m)::E) D Q):=H.alloc hS 61 #[.int .i64 0,.int .i64 0,.int .i64 0,.int .u64 0,.bool false,.bool false,.bool false,.bool false,.slice none 0 0]
 have HEnd:Hid (∀w' a0 a1 a2 a3 a4 a5 a6 a7 a8 v0 v1 v2 v3 v4 v5 v6 v7 v8,HM W w' L X h x s k ((mb,96,muV L.hb t sb (MU.zero (m.dn+1)))::(w.heap.size,61,#[a0,a1,a2,a3,a4,a5,a6,a7,a8])::E) D Q→HM W (put9 w' w.heap.size v0 v1 v2 v3 v4 v5 v6 v7 v8) L X h x s k ((mb,96,muV L.hb t sb (MU.zero (m.dn+1)))::E) D Q):=fun w' a0 a1 a2 a3 a4 a5 a6 a7 a8 v0 v1 v2 v3 v4 v5 v6 v7 v8 q=>
  q.swap.res9 hS hT (fun y hy=>by
   rcases List.mem_cons.1 hy with rfl | hy
   ·exact fun e=>hrm e.symm
   ·exact hrE y hy) v0 v1 v2 v3 v4 v5 v6 v7 v8
 have HF:=hide (hf _ _ (List.mem_cons_of_mem _ (List.mem_cons_self ..)) HX.out)
 have HGo:Hid (∀w',HM W w' L X h x s k ((w.heap.size,61,#[.int .i64 0,.int .i64 0,.int .i64 0,.int .u64 0,.bool false,.bool false,.bool false,.bool false,.slice none 0 0])::(mb,96,muV L.hb t sb m)::E) D Q→Calls Tryz.prog 42 #[.pointer (some ⟨mb,0,none⟩),.agg #[.int .i64 0,.int .i64 0,.int .i64 fE,.int .u64 0,.bool false]] w' fun e w''=>e=.returned (.agg #[.int .i64 (t:Int),.int .i64 (m.dn:Int),.int .i64 fE,.int .u64 0,.bool false,.bool true,.bool false,.bool false,.slice none 0 0])∧HM W w'' L X h x s k ((mb,96,muV L.hb t sb (MU.zero (m.dn+1)))::(w.heap.size,61,#[.int .i64 0,.int .i64 0,.int .i64 0,.int .u64 0,.bool false,.bool false,.bool false,.bool false,.slice none 0 0])::E) D Q):=fun w' q=>HM.answer hS hT q.swap (hneR _) hd 0 0 ⟨fE,0,false⟩
 obtain⟨c0,c1,c2,c3,c4,c5,c6,c7,c8,c9,c10⟩:=muCells hmb
 unfold opV MU.op at HF
 simp only at HF
 unfold resV
 clear H hmb hltE HX hf hne hneR hrm hrE hd
 go_enter Tryz.func51,Tryz.ntmps51
 go_wp2_with fail
 refine HF.out.mono ?_
 rintro e w1 ⟨rfl,hA⟩
 have HA1:=hide (HGo.out _ hA)
 clear hA c0 c1 c2 c3 c4 c5 c6 c7 c8 c9 c10 HF HGo
 go_wp2_with fail
 refine HA1.out.mono ?_
 rintro e w5 ⟨rfl,hA⟩
 clear HA1
 have HA5:=hide hA
 have hrb:=hA.blk (List.mem_cons_of_mem _ (List.mem_cons_self ..))
 have y0:=hrb.cell 0
 have y1:=hrb.cell 1
 have y2:=hrb.cell 2
 have y3:=hrb.cell 3
 have y4:=hrb.cell 4
 have y5:=hrb.cell 5
 have y6:=hrb.cell 6
 have y7:=hrb.cell 7
 have y8:=hrb.cell 8
 have z0:=hrb.frozen 0
 have z1:=hrb.frozen 1
 have z2:=hrb.frozen 2
 have z3:=hrb.frozen 3
 have z4:=hrb.frozen 4
 have z5:=hrb.frozen 5
 have z6:=hrb.frozen 6
 have z7:=hrb.frozen 7
 have z8:=hrb.frozen 8
 have NR:=hrb.lt
 clear hA hrb
 go_wp2_with fail
 refine bodyPost_ret (v:=.agg #[.int .i64 (t:Int),.int .i64 (m.dn:Int),.int .i64 fE,.int .u64 0,.bool false,.bool true,.bool false,.bool false,.slice none 0 0]) (by simp [results,Tryz.results51,go_sem, *]) rfl ⟨rfl,?_⟩
 exact HEnd.out _ _ _ _ _ _ _ _ _ _ _ _ _ _ _ _ _ _ _ HA5.out
set_option maxHeartbeats 3200000 in
theorem mtlook_ok(hS:Lives D Q)(hT:Tab W)(H:HM W w L X h x s k ((mb,96,muV L.hb t sb m)::E) D Q)(hne:∀q,q∈E→q.1≠mb){fV:Int}
  (hf:∀w' E',(mb,96,muV L.hb t sb m)∈E'→HM W w' L X h x s k E' D Q→Calls Tryz.prog 83 #[.pointer (some ⟨mb,0,none⟩),opV m.op] w' fun e w''=>e=.returned (.tuple #[.int .i64 fV,.int .i64 0])∧HM W w'' L X h x s k E' D Q) :
  Calls Tryz.prog 51 #[.pointer (some ⟨mb,0,none⟩)] w fun e w'=>e=.returned (resV 0 0 An.zero false true false (.slice none 0 0))∧HM W w' L X h x s k ((mb,96,muV L.hb t sb { m with st:=3,ad:=fV })::E) D Q:=by
 have hmb:=H.blk (List.mem_cons_self ..)
 have hlt:=hmb.lt
 have hltE:∀q,q∈E→q.1<w.heap.size:=fun q hq=>(H.blk (b:=q.1) (t:=q.2.1) (cs:=q.2.2) (List.mem_cons_of_mem _ hq)).lt
 have hrm:w.heap.size≠mb:=by omega
 have hrE:∀q,q∈E→q.1≠w.heap.size:=fun q hq=>by have:=hltE q hq;omega
 have hneR:∀cs:Array Value,∀q,q∈((w.heap.size,61,cs)::E:Blks)→q.1≠mb:=fun cs q hq=>by
  rcases List.mem_cons.1 hq with rfl | hq
  ·exact hrm
  ·exact hne q hq
 have HX:Hid (HM W (w.alloc (.cells #[.int .i64 0,.int .i64 0,.int .i64 0,.int .u64 0,.bool false,.bool false,.bool false,.bool false,.slice none 0 0] 61)) L X h x s k ((w.heap.size,61,#[.int .i64 0,.int .i64 0,.int .i64 0,.int .u64 0,.bool false,.bool false,.bool false,.bool false,.slice none 0 0])::(mb,96,muV L.hb t sb m)::E) D Q):=H.alloc hS 61 #[.int .i64 0,.int .i64 0,.int .i64 0,.int .u64 0,.bool false,.bool false,.bool false,.bool false,.slice none 0 0]
 have HEnd:Hid (∀w' a0 a1 a2 a3 a4 a5 a6 a7 a8 v0 v1 v2 v3 v4 v5 v6 v7 v8,HM W w' L X h x s k ((mb,96,muV L.hb t sb { m with st:=3,ad:=fV })::(w.heap.size,61,#[a0,a1,a2,a3,a4,a5,a6,a7,a8])::E) D Q→HM W (put9 w' w.heap.size v0 v1 v2 v3 v4 v5 v6 v7 v8) L X h x s k ((mb,96,muV L.hb t sb { m with st:=3,ad:=fV })::E) D Q):=fun w' a0 a1 a2 a3 a4 a5 a6 a7 a8 v0 v1 v2 v3 v4 v5 v6 v7 v8 q=>
  q.swap.res9 hS hT (fun y hy=>by
   rcases List.mem_cons.1 hy with rfl | hy
   ·exact fun e=>hrm e.symm
   ·exact hrE y hy) v0 v1 v2 v3 v4 v5 v6 v7 v8
 have HF:=hide (hf _ _ (List.mem_cons_of_mem _ (List.mem_cons_self ..)) HX.out)
 have HGo:Hid (∀w',HM W w' L X h x s k ((w.heap.size,61,#[.int .i64 0,.int .i64 0,.int .i64 0,.int .u64 0,.bool false,.bool false,.bool false,.bool false,.slice none 0 0])::(mb,96,muV L.hb t sb m)::E) D Q→Calls Tryz.prog 82 #[.pointer (some ⟨mb,0,none⟩),.int .i64 3,.int .i64 fV] w' fun e w''=>e=.returned (.agg #[.int .i64 0,.int .i64 0,.int .i64 0,.int .u64 0,.bool false,.bool false,.bool true,.bool false,.slice none 0 0])∧HM W w'' L X h x s k ((mb,96,muV L.hb t sb { m with st:=3,ad:=fV })::(w.heap.size,61,#[.int .i64 0,.int .i64 0,.int .i64 0,.int .u64 0,.bool false,.bool false,.bool false,.bool false,.slice none 0 0])::E) D Q):=fun w' q=>HM.goOn hS hT q.swap (hneR _) 3 fV
 obtain⟨c0,c1,c2,c3,c4,c5,c6,c7,c8,c9,c10⟩:=muCells hmb
 unfold opV MU.op at HF
 simp only at HF
 unfold resV
 unfold An.zero
 clear H hmb hltE HX hf hne hneR hrm hrE
 go_enter Tryz.func51,Tryz.ntmps51
 go_wp2_with fail
 refine HF.out.mono ?_
 rintro e w1 ⟨rfl,hA⟩
 have HA1:=hide (HGo.out _ hA)
 clear hA c0 c1 c2 c3 c4 c5 c6 c7 c8 c9 c10 HF HGo
 go_wp2_with fail
 refine HA1.out.mono ?_
 rintro e w5 ⟨rfl,hA⟩
 clear HA1
 have HA5:=hide hA
 have hrb:=hA.blk (List.mem_cons_of_mem _ (List.mem_cons_self ..))
 have y0:=hrb.cell 0
 have y1:=hrb.cell 1
 have y2:=hrb.cell 2
 have y3:=hrb.cell 3
 have y4:=hrb.cell 4
 have y5:=hrb.cell 5
 have y6:=hrb.cell 6
 have y7:=hrb.cell 7
 have y8:=hrb.cell 8
 have z0:=hrb.frozen 0
 have z1:=hrb.frozen 1
 have z2:=hrb.frozen 2
 have z3:=hrb.frozen 3
 have z4:=hrb.frozen 4
 have z5:=hrb.frozen 5
 have z6:=hrb.frozen 6
 have z7:=hrb.frozen 7
 have z8:=hrb.frozen 8
 have NR:=hrb.lt
 clear hA hrb
 go_wp2_with fail
 refine bodyPost_ret (v:=.agg #[.int .i64 0,.int .i64 0,.int .i64 0,.int .u64 0,.bool false,.bool false,.bool true,.bool false,.slice none 0 0]) (by simp [results,Tryz.results51,go_sem, *]) rfl ⟨rfl,?_⟩
 exact HEnd.out _ _ _ _ _ _ _ _ _ _ _ _ _ _ _ _ _ _ _ HA5.out
end
end Go.Proofs.YtfcjdinlcehpmaaGreatDoor
