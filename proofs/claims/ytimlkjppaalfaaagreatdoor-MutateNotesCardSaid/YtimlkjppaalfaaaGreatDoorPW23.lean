/- Package mutate: find. -/
import Derived.Test.YtimlkjppaalfaaaGreatDoorPW22
import Derived.Test.YtimlkjppaalfaaaGreatDoorPW21
import Derived.WalkKit
import Derived.BigQuiet
import Derived.Deep.CutRange
import Derived.Deep.RegionHeld3
set_option linter.unusedVariables false
set_option linter.unusedSimpArgs false
set_option maxHeartbeats 1600000
set_option maxRecDepth 100000
open List renaming mem_cons_of_mem->CZ,mem_cons_self->C0
namespace Go.Proofs.YtimlkjppaalfaaaGreatDoor
open Go.RowKit Go.Gl HS
section
variable {P:Program}{f:FuncId}{args:Array Value}{w:World}{a n:Nat}{v:Value}
theorem aU(h:Calls P f args (w.drewN n) λe w'=>e=.returned v/\∃j,w'=(w.drewN n).drewN j):Calls P f args (w.drewN n) λe w''=>e=.returned v/\∃m,w''=w.drewN m:=
 h.mono λ_ _ ⟨he,j,hm⟩=>⟨he,n+j,by rw[hm,World.drewN_drewN]⟩
theorem bS(h:Calls P f args (w.drewN (a+n)) λe w'=>e=.returned v/\∃j,w'=(w.drewN (a+n)).drewN j):Calls P f args (w.drewN (a+n)) λe w''=>e=.returned v/\∃m,w''=w.drewN (a+m):=
 h.mono λ_ _ ⟨he,j,hm⟩=>⟨he,n+j,by rw[hm,World.drewN_drewN,Nat.add_assoc]⟩
end
section
variable {W w w':World}{L:HL}{X:HX}{h:HS}{x:HT}{s k:Nat}{E:aK}{D:Nat->Prop}{Q:World->Prop}{mb t sb:Nat}{m:MU}
theorem HM.looked(hS:ah D Q)(H:HM W w L X h x s k E D Q)(hr:Hr w' L h s k)(hf:Fr [L.ab] w w'):HM W w' L X h x s k E D Q:=by
 obtain⟨own,h1,h2,h3,h4⟩:=H;obtain⟨g1,g2⟩:=h1.looked hr hf;refine⟨own,g1,λq hq=>?_,h3,?_⟩
 ·obtain⟨k1,k2,k3,k4⟩:=h2 q hq;obtain⟨j1,j2⟩:=g2.blk k1 k2;exact⟨j1,j2,k3,k4⟩
 ·obtain⟨⟨F,f1,f2⟩,_⟩:=g2;exact hS.stay w w' F h4 f1 (λb hb hd=>f2 b hb (h3 b hd).1)
theorem HM.object(hS:ah D Q)(H:HM W w L X h x s k E D Q){r:Int}(h0:0<=r)(h1:r<=9223372036854775807) :
  Calls Tryz.prog 60 #[.pointer (some ⟨L.hb,0,none⟩),.int .u64 r] w λe w'=>e=.returned (.tuple #[(h.bj r).val,.int .i64 (h.aD r)])/\HM W w' L X h x s k E D Q:=
 (fW H.hr h0 h1).mono (by rintro e w' ⟨rfl,hr,hf⟩;exact⟨rfl,H.looked hS hr hf⟩)
theorem sr{h:HS}{s k:Nat}(hB:Blk w mb 127 (muV L.hb t sb m))(hr:Hr w L h s k)(ht:t<h.T) :
  Calls Tryz.prog 89 #[.pointer (some ⟨mb,0,none⟩)] w λe w'=>e=.returned (.pointer (some ⟨L.S t,0,none⟩))/\∃j,w'=w.drewN j:=by
 obtain⟨c0,c1,c2,c3,c4,c5,c6,c7,c8,c9,c10⟩:=aJ hB;have k27:w.cell? ⟨L.hb,27,none⟩=some (.slice L.rA h.T L.rc):=hr.st.cell 27;have NH:=hr.st.lt;have NM:=hB.lt;obtain⟨gb,go,hA,hG,NG,hcell,hfz,_⟩:=hr.row.pos (by omega);have hci:w.cell? ⟨gb,go+t,none⟩=some (.pointer (some ⟨L.S t,0,none⟩)):=by
  rw[hcell t ht];unfold jz;simp[ht]
 rw[hA]at k27;have ht1:(t:Int)<(h.T:Int):=by omega
 clear hB hr hcell hfz c2 c3 c4 c5 c6 c7 c8 c9 c10;go_enter Tryz.func89,Tryz.ntmps89
 go_wp2
 go_quiet (fail)
 go_wp2_with fail
 go_ret
 exact⟨rfl,_,rfl⟩
theorem HM.stack(hS:ah D Q)(H:HM W w L X h x s k E D Q)(hm:(mb,127,muV L.hb t sb m)∈E)(ht:t<h.T) :
  Calls Tryz.prog 89 #[.pointer (some ⟨mb,0,none⟩)] w λe w'=>e=.returned (.pointer (some ⟨L.S t,0,none⟩))/\∃j,w'=w.drewN j:=
 sr (H.blk hm) H.hr ht
theorem HM.dL(H:HM W w L X h x s k E D Q){i:Nat}(hi:i<h.T)(a:Int) :
  Calls Tryz.prog 90 #[.pointer (some ⟨L.S i,0,none⟩),.int .i64 a] w λe w'=>e=.returned (.tuple #[.int .u64 (aj (h.st i) a),.int .i64 (am (h.st i) a)])/\w=w':=by
 obtain⟨own,⟨tg,FS,H1,_⟩,_⟩:=H;exact tH (H1.stk i hi) a
theorem ss(hS:ah D Q)(H:HM W w L X h x s k E D Q)(hm:(mb,127,muV L.hb t sb m)∈E)(ht:t<h.T)(a b c v:Int)(ha:¬ aG (h.st t) a) :
  Calls Tryz.prog 128 #[.pointer (some ⟨mb,0,none⟩),opV ⟨2,a,b,c,v⟩] w λe w'=>e=.returned (.tuple #[.int .i64 0,.int .i64 10])/\HM W w' L X h x s k E D Q:=by
 have H1:HM W (w.alloc (.cells #[.int .i64 2,.int .i64 a,.int .i64 b,.int .i64 c,.int .u64 v] 69)) L X h x s k ((w.heap.size,69,#[.int .i64 2,.int .i64 a,.int .i64 b,.int .i64 c,.int .u64 v])::E) D Q:=H.alloc hS 69 #[.int .i64 2,.int .i64 a,.int .i64 b,.int .i64 c,.int .u64 v];have HF0:Hid (∀i,HM W ((w.alloc (.cells #[.int .i64 2,.int .i64 a,.int .i64 b,.int .i64 c,.int .u64 v] 69)).drewN i) L X h x s k ((w.heap.size,69,#[.int .i64 2,.int .i64 a,.int .i64 b,.int .i64 c,.int .u64 v])::E) D Q):=λi=>H1.fr0 hS ((Fr.refl _ _).drewN _);have HSk:Hid (∀i,Calls Tryz.prog 89 #[.pointer (some ⟨mb,0,none⟩)] ((w.alloc (.cells #[.int .i64 2,.int .i64 a,.int .i64 b,.int .i64 c,.int .u64 v] 69)).drewN i) λe w''=>e=.returned (.pointer (some ⟨L.S t,0,none⟩))/\∃j,w''=((w.alloc (.cells #[.int .i64 2,.int .i64 a,.int .i64 b,.int .i64 c,.int .u64 v] 69)).drewN i).drewN j):=λi=>(HF0.out i).stack hS (CZ _ hm) ht;have ea:am (h.st t) a=10:=by unfold am;rw[if_neg ha]
 have HAa:Hid (∀i,Calls Tryz.prog 90 #[.pointer (some ⟨L.S t,0,none⟩),.int .i64 a] ((w.alloc (.cells #[.int .i64 2,.int .i64 a,.int .i64 b,.int .i64 c,.int .u64 v] 69)).drewN i) λe w''=>e=.returned (.tuple #[.int .u64 (aj (h.st t) a),.int .i64 10])/\(w.alloc (.cells #[.int .i64 2,.int .i64 a,.int .i64 b,.int .i64 c,.int .u64 v] 69)).drewN i=w''):=λi=>by
  have:=(HF0.out i).dL ht a;rwa[ea]at this
 have HD:Hid (∀w' w'',HM W w' L X h x s k ((w.heap.size,69,#[.int .i64 2,.int .i64 a,.int .i64 b,.int .i64 c,.int .u64 v])::E) D Q->Fr [] w' w''->HM W w'' L X h x s k E D Q):=λw' w'' q hf=>(q.sub (λy hy=>CZ _ hy)).fr0 hS hf;have NM:=(H.blk hm).lt;have cm:w.cell? ⟨mb,0,none⟩=some (.pointer (some ⟨L.hb,0,none⟩)):=(H.blk hm).cell 0;generalize aj (h.st t) a=ra at *;unfold opV;clear H H1 hm ht ha ea;go_enter Tryz.func128,Tryz.ntmps128
 go_wp2_with fail
 go_quiet ((first|(go_at_call 89;exact aU (HSk.out _))|(go_at_call 90;exact aC (HAa.out _))))
 go_wp2_with fail
 go_ret2
 exact⟨rfl,HD.out _ _ (HF0.out _) (Fr.refl _ _)⟩
theorem ow(hS:ah D Q)(H:HM W w L X h x s k E D Q)(hm:(mb,127,muV L.hb t sb m)∈E)(ht:t<h.T)(a b c v:Int)(ha:aG (h.st t) a)(hr:aj (h.st t) a=0) :
  Calls Tryz.prog 128 #[.pointer (some ⟨mb,0,none⟩),opV ⟨2,a,b,c,v⟩] w λe w'=>e=.returned (.tuple #[.int .i64 0,.int .i64 12])/\HM W w' L X h x s k E D Q:=by
 have H1:HM W (w.alloc (.cells #[.int .i64 2,.int .i64 a,.int .i64 b,.int .i64 c,.int .u64 v] 69)) L X h x s k ((w.heap.size,69,#[.int .i64 2,.int .i64 a,.int .i64 b,.int .i64 c,.int .u64 v])::E) D Q:=H.alloc hS 69 #[.int .i64 2,.int .i64 a,.int .i64 b,.int .i64 c,.int .u64 v];have HF0:Hid (∀i,HM W ((w.alloc (.cells #[.int .i64 2,.int .i64 a,.int .i64 b,.int .i64 c,.int .u64 v] 69)).drewN i) L X h x s k ((w.heap.size,69,#[.int .i64 2,.int .i64 a,.int .i64 b,.int .i64 c,.int .u64 v])::E) D Q):=λi=>H1.fr0 hS ((Fr.refl _ _).drewN _);have HSk:Hid (∀i,Calls Tryz.prog 89 #[.pointer (some ⟨mb,0,none⟩)] ((w.alloc (.cells #[.int .i64 2,.int .i64 a,.int .i64 b,.int .i64 c,.int .u64 v] 69)).drewN i) λe w''=>e=.returned (.pointer (some ⟨L.S t,0,none⟩))/\∃j,w''=((w.alloc (.cells #[.int .i64 2,.int .i64 a,.int .i64 b,.int .i64 c,.int .u64 v] 69)).drewN i).drewN j):=λi=>(HF0.out i).stack hS (CZ _ hm) ht;have ea:am (h.st t) a=0:=by unfold am;rw[if_pos ha]
 have HAa:Hid (∀i,Calls Tryz.prog 90 #[.pointer (some ⟨L.S t,0,none⟩),.int .i64 a] ((w.alloc (.cells #[.int .i64 2,.int .i64 a,.int .i64 b,.int .i64 c,.int .u64 v] 69)).drewN i) λe w''=>e=.returned (.tuple #[.int .u64 (0),.int .i64 0])/\(w.alloc (.cells #[.int .i64 2,.int .i64 a,.int .i64 b,.int .i64 c,.int .u64 v] 69)).drewN i=w''):=λi=>by
  have:=(HF0.out i).dL ht a;rwa[ea,hr]at this
 have eo:h.aD 0=12:=by unfold HS.aD;rw[if_pos rfl]
 have ev:h.bj 0=Hd.zero:=by unfold HS.bj;rw[if_neg (by rw[eo];decide)]
 have HOb:Hid (∀i,Calls Tryz.prog 60 #[.pointer (some ⟨L.hb,0,none⟩),.int .u64 0] ((w.alloc (.cells #[.int .i64 2,.int .i64 a,.int .i64 b,.int .i64 c,.int .u64 v] 69)).drewN i) λe w''=>e=.returned (.tuple #[.agg #[.int .i64 0,.int .i64 0,.int .i64 0,.int .i64 0,.int .i64 0],.int .i64 12])/\HM W w'' L X h x s k ((w.heap.size,69,#[.int .i64 2,.int .i64 a,.int .i64 b,.int .i64 c,.int .u64 v])::E) D Q):=λi=>by
  have:=(HF0.out i).object hS (r:=0) (by decide) (by decide);rwa[eo,ev]at this
 have HD:Hid (∀w' w'',HM W w' L X h x s k ((w.heap.size,69,#[.int .i64 2,.int .i64 a,.int .i64 b,.int .i64 c,.int .u64 v])::E) D Q->Fr [] w' w''->HM W w'' L X h x s k E D Q):=λw' w'' q hf=>(q.sub (λy hy=>CZ _ hy)).fr0 hS hf;have NM:=(H.blk hm).lt;have cm:w.cell? ⟨mb,0,none⟩=some (.pointer (some ⟨L.hb,0,none⟩)):=(H.blk hm).cell 0;unfold opV;clear H H1 hm ht ha ea hr eo ev;go_enter Tryz.func128,Tryz.ntmps128
 go_wp2_with fail
 go_quiet ((first|(go_at_call 89;exact aU (HSk.out _))|(go_at_call 90;exact aC (HAa.out _))))
 go_wp2_with fail
 refine(HOb.out _).mono ?_;rintro e w2 ⟨rfl,hA⟩;have HA2:=aa hA;have hob:=hA.blk (C0 ..);have d0:=hob.cell 0;have d2:=hob.cell 2;have NO:=hob.lt;clear hA hob HOb HSk HAa cm;go_wp2_with fail
 go_ret2
 exact⟨rfl,HD.out _ _ HA2.out ((Fr.refl _ _).alloc _)⟩
theorem oy(hS:ah D Q)(H:HM W w L X h x s k E D Q)(hm:(mb,127,muV L.hb t sb m)∈E)(ht:t<h.T)(a b c v:Int)(ha:aG (h.st t) a){I S P:Nat}{ag:Int}(hr:aj (h.st t) a=(I:Int)+1)(he:h.aD ((I:Int)+1)=0)(hv:h.bj ((I:Int)+1)=⟨1,(S:Int),(P:Int),ag,0⟩)(hz:P<S/\S<=1048576/\I<=4194304)(hb:b<0) :
  Calls Tryz.prog 128 #[.pointer (some ⟨mb,0,none⟩),opV ⟨2,a,b,c,v⟩] w λe w'=>e=.returned (.tuple #[.int .i64 0,.int .i64 11])/\HM W w' L X h x s k E D Q:=by
 have H1:HM W (w.alloc (.cells #[.int .i64 2,.int .i64 a,.int .i64 b,.int .i64 c,.int .u64 v] 69)) L X h x s k ((w.heap.size,69,#[.int .i64 2,.int .i64 a,.int .i64 b,.int .i64 c,.int .u64 v])::E) D Q:=H.alloc hS 69 #[.int .i64 2,.int .i64 a,.int .i64 b,.int .i64 c,.int .u64 v];have HF0:Hid (∀i,HM W ((w.alloc (.cells #[.int .i64 2,.int .i64 a,.int .i64 b,.int .i64 c,.int .u64 v] 69)).drewN i) L X h x s k ((w.heap.size,69,#[.int .i64 2,.int .i64 a,.int .i64 b,.int .i64 c,.int .u64 v])::E) D Q):=λi=>H1.fr0 hS ((Fr.refl _ _).drewN _);have HSk:Hid (∀i,Calls Tryz.prog 89 #[.pointer (some ⟨mb,0,none⟩)] ((w.alloc (.cells #[.int .i64 2,.int .i64 a,.int .i64 b,.int .i64 c,.int .u64 v] 69)).drewN i) λe w''=>e=.returned (.pointer (some ⟨L.S t,0,none⟩))/\∃j,w''=((w.alloc (.cells #[.int .i64 2,.int .i64 a,.int .i64 b,.int .i64 c,.int .u64 v] 69)).drewN i).drewN j):=λi=>(HF0.out i).stack hS (CZ _ hm) ht;have ea:am (h.st t) a=0:=by unfold am;rw[if_pos ha]
 have HAa:Hid (∀i,Calls Tryz.prog 90 #[.pointer (some ⟨L.S t,0,none⟩),.int .i64 a] ((w.alloc (.cells #[.int .i64 2,.int .i64 a,.int .i64 b,.int .i64 c,.int .u64 v] 69)).drewN i) λe w''=>e=.returned (.tuple #[.int .u64 (((I:Int)+1)),.int .i64 0])/\(w.alloc (.cells #[.int .i64 2,.int .i64 a,.int .i64 b,.int .i64 c,.int .u64 v] 69)).drewN i=w''):=λi=>by
  have:=(HF0.out i).dL ht a;rwa[ea,hr]at this
 have HOb:Hid (∀i,Calls Tryz.prog 60 #[.pointer (some ⟨L.hb,0,none⟩),.int .u64 ((I:Int)+1)] ((w.alloc (.cells #[.int .i64 2,.int .i64 a,.int .i64 b,.int .i64 c,.int .u64 v] 69)).drewN i) λe w''=>e=.returned (.tuple #[.agg #[.int .i64 1,.int .i64 (S:Int),.int .i64 (P:Int),.int .i64 ag,.int .i64 0],.int .i64 0])/\HM W w'' L X h x s k ((w.heap.size,69,#[.int .i64 2,.int .i64 a,.int .i64 b,.int .i64 c,.int .u64 v])::E) D Q):=λi=>by
  have:=(HF0.out i).object hS (r:=(I:Int)+1) (by omega) (by omega);rwa[he,hv]at this
 have HAd:=aa (λw'=>bp I (by omega) w');have HD:Hid (∀w' w'',HM W w' L X h x s k ((w.heap.size,69,#[.int .i64 2,.int .i64 a,.int .i64 b,.int .i64 c,.int .u64 v])::E) D Q->Fr [] w' w''->HM W w'' L X h x s k E D Q):=λw' w'' q hf=>(q.sub (λy hy=>CZ _ hy)).fr0 hS hf;have NM:=(H.blk hm).lt;have cm:w.cell? ⟨mb,0,none⟩=some (.pointer (some ⟨L.hb,0,none⟩)):=(H.blk hm).cell 0;unfold opV;clear H H1 hm ht ha ea hr he hv;have b1:decide (b<0)=true:=by simpa using hb
 have i1:IntKind.i64.wrap ((I:Int)+1)=(I:Int)+1:=IntWalk.i64_in _ ⟨by omega,by omega⟩;go_enter Tryz.func128,Tryz.ntmps128
 go_wp2_with fail
 go_quiet ((first|(go_at_call 89;exact aU (HSk.out _))|(go_at_call 90;exact aC (HAa.out _))))
 go_wp2_with fail
 refine(HOb.out _).mono ?_;rintro e w2 ⟨rfl,hA⟩;have HA2:=aa hA;have hob:=hA.blk (C0 ..);have d0:=hob.cell 0;have d2:=hob.cell 2;have NO:=hob.lt;clear hA hob HOb HSk HAa cm;go_wp2_with fail
 go_quiet ((go_at_call 150;exact aC (HAd.out _)))
 go_wp2_with fail
 go_ret2
 exact⟨rfl,HD.out _ _ HA2.out (((Fr.refl _ _).alloc _).drewN _)⟩
theorem oz(hS:ah D Q)(H:HM W w L X h x s k E D Q)(hm:(mb,127,muV L.hb t sb m)∈E)(ht:t<h.T)(a b c v:Int)(ha:aG (h.st t) a){I S P:Nat}{ag:Int}(hr:aj (h.st t) a=(I:Int)+1)(he:h.aD ((I:Int)+1)=0)(hv:h.bj ((I:Int)+1)=⟨1,(S:Int),(P:Int),ag,0⟩)(hz:P<S/\S<=1048576/\I<=4194304)(hb:¬ b<0)(hb2:(P:Int)<=b)(hb3:b<=9223372036854775807) :
  Calls Tryz.prog 128 #[.pointer (some ⟨mb,0,none⟩),opV ⟨2,a,b,c,v⟩] w λe w'=>e=.returned (.tuple #[.int .i64 0,.int .i64 11])/\HM W w' L X h x s k E D Q:=by
 have H1:HM W (w.alloc (.cells #[.int .i64 2,.int .i64 a,.int .i64 b,.int .i64 c,.int .u64 v] 69)) L X h x s k ((w.heap.size,69,#[.int .i64 2,.int .i64 a,.int .i64 b,.int .i64 c,.int .u64 v])::E) D Q:=H.alloc hS 69 #[.int .i64 2,.int .i64 a,.int .i64 b,.int .i64 c,.int .u64 v];have HF0:Hid (∀i,HM W ((w.alloc (.cells #[.int .i64 2,.int .i64 a,.int .i64 b,.int .i64 c,.int .u64 v] 69)).drewN i) L X h x s k ((w.heap.size,69,#[.int .i64 2,.int .i64 a,.int .i64 b,.int .i64 c,.int .u64 v])::E) D Q):=λi=>H1.fr0 hS ((Fr.refl _ _).drewN _);have HSk:Hid (∀i,Calls Tryz.prog 89 #[.pointer (some ⟨mb,0,none⟩)] ((w.alloc (.cells #[.int .i64 2,.int .i64 a,.int .i64 b,.int .i64 c,.int .u64 v] 69)).drewN i) λe w''=>e=.returned (.pointer (some ⟨L.S t,0,none⟩))/\∃j,w''=((w.alloc (.cells #[.int .i64 2,.int .i64 a,.int .i64 b,.int .i64 c,.int .u64 v] 69)).drewN i).drewN j):=λi=>(HF0.out i).stack hS (CZ _ hm) ht;have ea:am (h.st t) a=0:=by unfold am;rw[if_pos ha]
 have HAa:Hid (∀i,Calls Tryz.prog 90 #[.pointer (some ⟨L.S t,0,none⟩),.int .i64 a] ((w.alloc (.cells #[.int .i64 2,.int .i64 a,.int .i64 b,.int .i64 c,.int .u64 v] 69)).drewN i) λe w''=>e=.returned (.tuple #[.int .u64 (((I:Int)+1)),.int .i64 0])/\(w.alloc (.cells #[.int .i64 2,.int .i64 a,.int .i64 b,.int .i64 c,.int .u64 v] 69)).drewN i=w''):=λi=>by
  have:=(HF0.out i).dL ht a;rwa[ea,hr]at this
 have HOb:Hid (∀i,Calls Tryz.prog 60 #[.pointer (some ⟨L.hb,0,none⟩),.int .u64 ((I:Int)+1)] ((w.alloc (.cells #[.int .i64 2,.int .i64 a,.int .i64 b,.int .i64 c,.int .u64 v] 69)).drewN i) λe w''=>e=.returned (.tuple #[.agg #[.int .i64 1,.int .i64 (S:Int),.int .i64 (P:Int),.int .i64 ag,.int .i64 0],.int .i64 0])/\HM W w'' L X h x s k ((w.heap.size,69,#[.int .i64 2,.int .i64 a,.int .i64 b,.int .i64 c,.int .u64 v])::E) D Q):=λi=>by
  have:=(HF0.out i).object hS (r:=(I:Int)+1) (by omega) (by omega);rwa[he,hv]at this
 have HAd:=aa (λw'=>bp I (by omega) w');have HD:Hid (∀w' w'',HM W w' L X h x s k ((w.heap.size,69,#[.int .i64 2,.int .i64 a,.int .i64 b,.int .i64 c,.int .u64 v])::E) D Q->Fr [] w' w''->HM W w'' L X h x s k E D Q):=λw' w'' q hf=>(q.sub (λy hy=>CZ _ hy)).fr0 hS hf;have NM:=(H.blk hm).lt;have cm:w.cell? ⟨mb,0,none⟩=some (.pointer (some ⟨L.hb,0,none⟩)):=(H.blk hm).cell 0;unfold opV;clear H H1 hm ht ha ea hr he hv;have b1:decide (b<0)=false:=by simpa using hb
 have b2:decide (b>=(P:Int))=true:=by simp;omega
 have b3:decide ((P:Int)<=b)=true:=by simp;omega
 have i1:IntKind.i64.wrap ((I:Int)+1)=(I:Int)+1:=IntWalk.i64_in _ ⟨by omega,by omega⟩;go_enter Tryz.func128,Tryz.ntmps128
 go_wp2_with fail
 go_quiet ((first|(go_at_call 89;exact aU (HSk.out _))|(go_at_call 90;exact aC (HAa.out _))))
 go_wp2_with fail
 refine(HOb.out _).mono ?_;rintro e w2 ⟨rfl,hA⟩;have HA2:=aa hA;have hob:=hA.blk (C0 ..);have d0:=hob.cell 0;have d2:=hob.cell 2;have NO:=hob.lt;clear hA hob HOb HSk HAa cm;go_wp2_with fail
 go_quiet ((go_at_call 150;exact aC (HAd.out _)))
 go_wp2_with fail
 go_ret2
 exact⟨rfl,HD.out _ _ HA2.out (((Fr.refl _ _).alloc _).drewN _)⟩
theorem qy(hS:ah D Q)(H:HM W w L X h x s k E D Q)(hm:(mb,127,muV L.hb t sb m)∈E)(ht:t<h.T)(a b c v:Int)(ha:aG (h.st t) a){I S P:Nat}{ag:Int}(hr:aj (h.st t) a=(I:Int)+1)(he:h.aD ((I:Int)+1)=0)(hv:h.bj ((I:Int)+1)=⟨1,(S:Int),(P:Int),ag,0⟩)(hz:P<S/\S<=1048576/\I<=4194304)(hb:¬ b<0)(hb2:b<(P:Int)) :
  Calls Tryz.prog 128 #[.pointer (some ⟨mb,0,none⟩),opV ⟨2,a,b,c,v⟩] w λe w'=>e=.returned (.tuple #[.int .i64 ((I:Int)+1+b),.int .i64 0])/\HM W w' L X h x s k E D Q:=by
 have H1:HM W (w.alloc (.cells #[.int .i64 2,.int .i64 a,.int .i64 b,.int .i64 c,.int .u64 v] 69)) L X h x s k ((w.heap.size,69,#[.int .i64 2,.int .i64 a,.int .i64 b,.int .i64 c,.int .u64 v])::E) D Q:=H.alloc hS 69 #[.int .i64 2,.int .i64 a,.int .i64 b,.int .i64 c,.int .u64 v];have HF0:Hid (∀i,HM W ((w.alloc (.cells #[.int .i64 2,.int .i64 a,.int .i64 b,.int .i64 c,.int .u64 v] 69)).drewN i) L X h x s k ((w.heap.size,69,#[.int .i64 2,.int .i64 a,.int .i64 b,.int .i64 c,.int .u64 v])::E) D Q):=λi=>H1.fr0 hS ((Fr.refl _ _).drewN _);have HSk:Hid (∀i,Calls Tryz.prog 89 #[.pointer (some ⟨mb,0,none⟩)] ((w.alloc (.cells #[.int .i64 2,.int .i64 a,.int .i64 b,.int .i64 c,.int .u64 v] 69)).drewN i) λe w''=>e=.returned (.pointer (some ⟨L.S t,0,none⟩))/\∃j,w''=((w.alloc (.cells #[.int .i64 2,.int .i64 a,.int .i64 b,.int .i64 c,.int .u64 v] 69)).drewN i).drewN j):=λi=>(HF0.out i).stack hS (CZ _ hm) ht;have ea:am (h.st t) a=0:=by unfold am;rw[if_pos ha]
 have HAa:Hid (∀i,Calls Tryz.prog 90 #[.pointer (some ⟨L.S t,0,none⟩),.int .i64 a] ((w.alloc (.cells #[.int .i64 2,.int .i64 a,.int .i64 b,.int .i64 c,.int .u64 v] 69)).drewN i) λe w''=>e=.returned (.tuple #[.int .u64 (((I:Int)+1)),.int .i64 0])/\(w.alloc (.cells #[.int .i64 2,.int .i64 a,.int .i64 b,.int .i64 c,.int .u64 v] 69)).drewN i=w''):=λi=>by
  have:=(HF0.out i).dL ht a;rwa[ea,hr]at this
 have HOb:Hid (∀i,Calls Tryz.prog 60 #[.pointer (some ⟨L.hb,0,none⟩),.int .u64 ((I:Int)+1)] ((w.alloc (.cells #[.int .i64 2,.int .i64 a,.int .i64 b,.int .i64 c,.int .u64 v] 69)).drewN i) λe w''=>e=.returned (.tuple #[.agg #[.int .i64 1,.int .i64 (S:Int),.int .i64 (P:Int),.int .i64 ag,.int .i64 0],.int .i64 0])/\HM W w'' L X h x s k ((w.heap.size,69,#[.int .i64 2,.int .i64 a,.int .i64 b,.int .i64 c,.int .u64 v])::E) D Q):=λi=>by
  have:=(HF0.out i).object hS (r:=(I:Int)+1) (by omega) (by omega);rwa[he,hv]at this
 have HAd:=aa (λw'=>bp I (by omega) w');have HD:Hid (∀w' w'',HM W w' L X h x s k ((w.heap.size,69,#[.int .i64 2,.int .i64 a,.int .i64 b,.int .i64 c,.int .u64 v])::E) D Q->Fr [] w' w''->HM W w'' L X h x s k E D Q):=λw' w'' q hf=>(q.sub (λy hy=>CZ _ hy)).fr0 hS hf;have NM:=(H.blk hm).lt;have cm:w.cell? ⟨mb,0,none⟩=some (.pointer (some ⟨L.hb,0,none⟩)):=(H.blk hm).cell 0;unfold opV;clear H H1 hm ht ha ea hr he hv;have b1:decide (b<0)=false:=by simpa using hb
 have b2:decide (b>=(P:Int))=false:=by simp;omega
 have b3:decide ((P:Int)<=b)=false:=by simp;omega
 have i1:IntKind.i64.wrap ((I:Int)+1)=(I:Int)+1:=IntWalk.i64_in _ ⟨by omega,by omega⟩;have i5:IntKind.i64.wrap ((I:Int)+1+b)=(I:Int)+1+b:=IntWalk.i64_in _ ⟨by omega,by omega⟩;go_enter Tryz.func128,Tryz.ntmps128
 go_wp2_with fail
 go_quiet ((first|(go_at_call 89;exact aU (HSk.out _))|(go_at_call 90;exact aC (HAa.out _))))
 go_wp2_with fail
 refine(HOb.out _).mono ?_;rintro e w2 ⟨rfl,hA⟩;have HA2:=aa hA;have hob:=hA.blk (C0 ..);have d0:=hob.cell 0;have d2:=hob.cell 2;have NO:=hob.lt;clear hA hob HOb HSk HAa cm;go_wp2_with fail
 go_quiet ((go_at_call 150;exact aC (HAd.out _)))
 go_wp2_with fail
 go_ret2
 exact⟨rfl,HD.out _ _ HA2.out (((Fr.refl _ _).alloc _).drewN _)⟩
theorem su(hS:ah D Q)(H:HM W w L X h x s k E D Q)(hm:(mb,127,muV L.hb t sb m)∈E)(ht:t<h.T)(a b c v:Int)(hc:¬ aG (h.st t) c) :
  Calls Tryz.prog 128 #[.pointer (some ⟨mb,0,none⟩),opV ⟨3,a,b,c,v⟩] w λe w'=>e=.returned (.tuple #[.int .i64 0,.int .i64 10])/\HM W w' L X h x s k E D Q:=by
 have H1:HM W (w.alloc (.cells #[.int .i64 3,.int .i64 a,.int .i64 b,.int .i64 c,.int .u64 v] 69)) L X h x s k ((w.heap.size,69,#[.int .i64 3,.int .i64 a,.int .i64 b,.int .i64 c,.int .u64 v])::E) D Q:=H.alloc hS 69 #[.int .i64 3,.int .i64 a,.int .i64 b,.int .i64 c,.int .u64 v];have HF0:Hid (∀i,HM W ((w.alloc (.cells #[.int .i64 3,.int .i64 a,.int .i64 b,.int .i64 c,.int .u64 v] 69)).drewN i) L X h x s k ((w.heap.size,69,#[.int .i64 3,.int .i64 a,.int .i64 b,.int .i64 c,.int .u64 v])::E) D Q):=λi=>H1.fr0 hS ((Fr.refl _ _).drewN _);have HSk:Hid (∀i,Calls Tryz.prog 89 #[.pointer (some ⟨mb,0,none⟩)] ((w.alloc (.cells #[.int .i64 3,.int .i64 a,.int .i64 b,.int .i64 c,.int .u64 v] 69)).drewN i) λe w''=>e=.returned (.pointer (some ⟨L.S t,0,none⟩))/\∃j,w''=((w.alloc (.cells #[.int .i64 3,.int .i64 a,.int .i64 b,.int .i64 c,.int .u64 v] 69)).drewN i).drewN j):=λi=>(HF0.out i).stack hS (CZ _ hm) ht;have ec:am (h.st t) c=10:=by unfold am;rw[if_neg hc]
 have HAc:Hid (∀i,Calls Tryz.prog 90 #[.pointer (some ⟨L.S t,0,none⟩),.int .i64 c] ((w.alloc (.cells #[.int .i64 3,.int .i64 a,.int .i64 b,.int .i64 c,.int .u64 v] 69)).drewN i) λe w''=>e=.returned (.tuple #[.int .u64 (aj (h.st t) c),.int .i64 10])/\(w.alloc (.cells #[.int .i64 3,.int .i64 a,.int .i64 b,.int .i64 c,.int .u64 v] 69)).drewN i=w''):=λi=>by
  have:=(HF0.out i).dL ht c;rwa[ec]at this
 have HD:Hid (∀w' w'',HM W w' L X h x s k ((w.heap.size,69,#[.int .i64 3,.int .i64 a,.int .i64 b,.int .i64 c,.int .u64 v])::E) D Q->Fr [] w' w''->HM W w'' L X h x s k E D Q):=λw' w'' q hf=>(q.sub (λy hy=>CZ _ hy)).fr0 hS hf;have NM:=(H.blk hm).lt;have cm:w.cell? ⟨mb,0,none⟩=some (.pointer (some ⟨L.hb,0,none⟩)):=(H.blk hm).cell 0;generalize aj (h.st t) c=rc at *;unfold opV;clear H H1 hm ht hc ec;go_enter Tryz.func128,Tryz.ntmps128
 go_wp2_with fail
 go_quiet ((first|(go_at_call 89;exact aU (HSk.out _))|(go_at_call 90;exact aC (HAc.out _))))
 go_wp2_with fail
 go_ret2
 exact⟨rfl,HD.out _ _ (HF0.out _) (Fr.refl _ _)⟩
theorem sw(hS:ah D Q)(H:HM W w L X h x s k E D Q)(hm:(mb,127,muV L.hb t sb m)∈E)(ht:t<h.T)(a b c v:Int)(hc:aG (h.st t) c)(ha:¬ aG (h.st t) a) :
  Calls Tryz.prog 128 #[.pointer (some ⟨mb,0,none⟩),opV ⟨3,a,b,c,v⟩] w λe w'=>e=.returned (.tuple #[.int .i64 0,.int .i64 10])/\HM W w' L X h x s k E D Q:=by
 have H1:HM W (w.alloc (.cells #[.int .i64 3,.int .i64 a,.int .i64 b,.int .i64 c,.int .u64 v] 69)) L X h x s k ((w.heap.size,69,#[.int .i64 3,.int .i64 a,.int .i64 b,.int .i64 c,.int .u64 v])::E) D Q:=H.alloc hS 69 #[.int .i64 3,.int .i64 a,.int .i64 b,.int .i64 c,.int .u64 v];have HF0:Hid (∀i,HM W ((w.alloc (.cells #[.int .i64 3,.int .i64 a,.int .i64 b,.int .i64 c,.int .u64 v] 69)).drewN i) L X h x s k ((w.heap.size,69,#[.int .i64 3,.int .i64 a,.int .i64 b,.int .i64 c,.int .u64 v])::E) D Q):=λi=>H1.fr0 hS ((Fr.refl _ _).drewN _);have HSk:Hid (∀i,Calls Tryz.prog 89 #[.pointer (some ⟨mb,0,none⟩)] ((w.alloc (.cells #[.int .i64 3,.int .i64 a,.int .i64 b,.int .i64 c,.int .u64 v] 69)).drewN i) λe w''=>e=.returned (.pointer (some ⟨L.S t,0,none⟩))/\∃j,w''=((w.alloc (.cells #[.int .i64 3,.int .i64 a,.int .i64 b,.int .i64 c,.int .u64 v] 69)).drewN i).drewN j):=λi=>(HF0.out i).stack hS (CZ _ hm) ht;have ec:am (h.st t) c=0:=by unfold am;rw[if_pos hc]
 have HAc:Hid (∀i,Calls Tryz.prog 90 #[.pointer (some ⟨L.S t,0,none⟩),.int .i64 c] ((w.alloc (.cells #[.int .i64 3,.int .i64 a,.int .i64 b,.int .i64 c,.int .u64 v] 69)).drewN i) λe w''=>e=.returned (.tuple #[.int .u64 (aj (h.st t) c),.int .i64 0])/\(w.alloc (.cells #[.int .i64 3,.int .i64 a,.int .i64 b,.int .i64 c,.int .u64 v] 69)).drewN i=w''):=λi=>by
  have:=(HF0.out i).dL ht c;rwa[ec]at this
 have ea:am (h.st t) a=10:=by unfold am;rw[if_neg ha]
 have HAa:Hid (∀i,Calls Tryz.prog 90 #[.pointer (some ⟨L.S t,0,none⟩),.int .i64 a] ((w.alloc (.cells #[.int .i64 3,.int .i64 a,.int .i64 b,.int .i64 c,.int .u64 v] 69)).drewN i) λe w''=>e=.returned (.tuple #[.int .u64 (aj (h.st t) a),.int .i64 10])/\(w.alloc (.cells #[.int .i64 3,.int .i64 a,.int .i64 b,.int .i64 c,.int .u64 v] 69)).drewN i=w''):=λi=>by
  have:=(HF0.out i).dL ht a;rwa[ea]at this
 have HD:Hid (∀w' w'',HM W w' L X h x s k ((w.heap.size,69,#[.int .i64 3,.int .i64 a,.int .i64 b,.int .i64 c,.int .u64 v])::E) D Q->Fr [] w' w''->HM W w'' L X h x s k E D Q):=λw' w'' q hf=>(q.sub (λy hy=>CZ _ hy)).fr0 hS hf;have NM:=(H.blk hm).lt;have cm:w.cell? ⟨mb,0,none⟩=some (.pointer (some ⟨L.hb,0,none⟩)):=(H.blk hm).cell 0;generalize aj (h.st t) c=rc at *;generalize aj (h.st t) a=ra at *;unfold opV;clear H H1 hm ht hc ec ha ea;go_enter Tryz.func128,Tryz.ntmps128
 go_wp2_with fail
 go_quiet ((first|(go_at_call 89;exact aU (HSk.out _))|(go_at_call 90;exact aC (HAc.out _))))
 go_wp2_with fail
 go_quiet ((first|(go_at_call 89;exact bS (HSk.out _))|(go_at_call 90;exact aP (HAa.out _))))
 go_wp2_with fail
 go_ret2
 exact⟨rfl,HD.out _ _ (HF0.out _) (Fr.refl _ _)⟩
theorem oB(hS:ah D Q)(H:HM W w L X h x s k E D Q)(hm:(mb,127,muV L.hb t sb m)∈E)(ht:t<h.T)(a b c v:Int)(hc:aG (h.st t) c)(ha:aG (h.st t) a)(hr:aj (h.st t) a=0) :
  Calls Tryz.prog 128 #[.pointer (some ⟨mb,0,none⟩),opV ⟨3,a,b,c,v⟩] w λe w'=>e=.returned (.tuple #[.int .i64 0,.int .i64 12])/\HM W w' L X h x s k E D Q:=by
 have H1:HM W (w.alloc (.cells #[.int .i64 3,.int .i64 a,.int .i64 b,.int .i64 c,.int .u64 v] 69)) L X h x s k ((w.heap.size,69,#[.int .i64 3,.int .i64 a,.int .i64 b,.int .i64 c,.int .u64 v])::E) D Q:=H.alloc hS 69 #[.int .i64 3,.int .i64 a,.int .i64 b,.int .i64 c,.int .u64 v];have HF0:Hid (∀i,HM W ((w.alloc (.cells #[.int .i64 3,.int .i64 a,.int .i64 b,.int .i64 c,.int .u64 v] 69)).drewN i) L X h x s k ((w.heap.size,69,#[.int .i64 3,.int .i64 a,.int .i64 b,.int .i64 c,.int .u64 v])::E) D Q):=λi=>H1.fr0 hS ((Fr.refl _ _).drewN _);have HSk:Hid (∀i,Calls Tryz.prog 89 #[.pointer (some ⟨mb,0,none⟩)] ((w.alloc (.cells #[.int .i64 3,.int .i64 a,.int .i64 b,.int .i64 c,.int .u64 v] 69)).drewN i) λe w''=>e=.returned (.pointer (some ⟨L.S t,0,none⟩))/\∃j,w''=((w.alloc (.cells #[.int .i64 3,.int .i64 a,.int .i64 b,.int .i64 c,.int .u64 v] 69)).drewN i).drewN j):=λi=>(HF0.out i).stack hS (CZ _ hm) ht;have ec:am (h.st t) c=0:=by unfold am;rw[if_pos hc]
 have HAc:Hid (∀i,Calls Tryz.prog 90 #[.pointer (some ⟨L.S t,0,none⟩),.int .i64 c] ((w.alloc (.cells #[.int .i64 3,.int .i64 a,.int .i64 b,.int .i64 c,.int .u64 v] 69)).drewN i) λe w''=>e=.returned (.tuple #[.int .u64 (aj (h.st t) c),.int .i64 0])/\(w.alloc (.cells #[.int .i64 3,.int .i64 a,.int .i64 b,.int .i64 c,.int .u64 v] 69)).drewN i=w''):=λi=>by
  have:=(HF0.out i).dL ht c;rwa[ec]at this
 have ea:am (h.st t) a=0:=by unfold am;rw[if_pos ha]
 have HAa:Hid (∀i,Calls Tryz.prog 90 #[.pointer (some ⟨L.S t,0,none⟩),.int .i64 a] ((w.alloc (.cells #[.int .i64 3,.int .i64 a,.int .i64 b,.int .i64 c,.int .u64 v] 69)).drewN i) λe w''=>e=.returned (.tuple #[.int .u64 (0),.int .i64 0])/\(w.alloc (.cells #[.int .i64 3,.int .i64 a,.int .i64 b,.int .i64 c,.int .u64 v] 69)).drewN i=w''):=λi=>by
  have:=(HF0.out i).dL ht a;rwa[ea,hr]at this
 have eo:h.aD 0=12:=by unfold HS.aD;rw[if_pos rfl]
 have ev:h.bj 0=Hd.zero:=by unfold HS.bj;rw[if_neg (by rw[eo];decide)]
 have HOb:Hid (∀i,Calls Tryz.prog 60 #[.pointer (some ⟨L.hb,0,none⟩),.int .u64 0] ((w.alloc (.cells #[.int .i64 3,.int .i64 a,.int .i64 b,.int .i64 c,.int .u64 v] 69)).drewN i) λe w''=>e=.returned (.tuple #[.agg #[.int .i64 0,.int .i64 0,.int .i64 0,.int .i64 0,.int .i64 0],.int .i64 12])/\HM W w'' L X h x s k ((w.heap.size,69,#[.int .i64 3,.int .i64 a,.int .i64 b,.int .i64 c,.int .u64 v])::E) D Q):=λi=>by
  have:=(HF0.out i).object hS (r:=0) (by decide) (by decide);rwa[eo,ev]at this
 have HD:Hid (∀w' w'',HM W w' L X h x s k ((w.heap.size,69,#[.int .i64 3,.int .i64 a,.int .i64 b,.int .i64 c,.int .u64 v])::E) D Q->Fr [] w' w''->HM W w'' L X h x s k E D Q):=λw' w'' q hf=>(q.sub (λy hy=>CZ _ hy)).fr0 hS hf;have NM:=(H.blk hm).lt;have cm:w.cell? ⟨mb,0,none⟩=some (.pointer (some ⟨L.hb,0,none⟩)):=(H.blk hm).cell 0;generalize aj (h.st t) c=rc at *;unfold opV;clear H H1 hm ht hc ec ha ea hr eo ev;go_enter Tryz.func128,Tryz.ntmps128
 go_wp2_with fail
 go_quiet ((first|(go_at_call 89;exact aU (HSk.out _))|(go_at_call 90;exact aC (HAc.out _))))
 go_wp2_with fail
 go_quiet ((first|(go_at_call 89;exact bS (HSk.out _))|(go_at_call 90;exact aP (HAa.out _))))
 go_wp2_with fail
 refine(HOb.out _).mono ?_;rintro e w2 ⟨rfl,hA⟩;have HA2:=aa hA;have hob:=hA.blk (C0 ..);have d0:=hob.cell 0;have d2:=hob.cell 2;have NO:=hob.lt;clear hA hob HOb HSk HAa cm HAc;go_wp2_with fail
 go_ret2
 exact⟨rfl,HD.out _ _ HA2.out ((Fr.refl _ _).alloc _)⟩
theorem oC(hS:ah D Q)(H:HM W w L X h x s k E D Q)(hm:(mb,127,muV L.hb t sb m)∈E)(ht:t<h.T)(a b c v:Int)(hc:aG (h.st t) c)(ha:aG (h.st t) a){I S P:Nat}{ag:Int}(hr:aj (h.st t) a=(I:Int)+1)(he:h.aD ((I:Int)+1)=0)(hv:h.bj ((I:Int)+1)=⟨1,(S:Int),(P:Int),ag,0⟩)(hz:P<S/\S<=1048576/\I<=4194304)(hb:b<0) :
  Calls Tryz.prog 128 #[.pointer (some ⟨mb,0,none⟩),opV ⟨3,a,b,c,v⟩] w λe w'=>e=.returned (.tuple #[.int .i64 0,.int .i64 11])/\HM W w' L X h x s k E D Q:=by
 have H1:HM W (w.alloc (.cells #[.int .i64 3,.int .i64 a,.int .i64 b,.int .i64 c,.int .u64 v] 69)) L X h x s k ((w.heap.size,69,#[.int .i64 3,.int .i64 a,.int .i64 b,.int .i64 c,.int .u64 v])::E) D Q:=H.alloc hS 69 #[.int .i64 3,.int .i64 a,.int .i64 b,.int .i64 c,.int .u64 v];have HF0:Hid (∀i,HM W ((w.alloc (.cells #[.int .i64 3,.int .i64 a,.int .i64 b,.int .i64 c,.int .u64 v] 69)).drewN i) L X h x s k ((w.heap.size,69,#[.int .i64 3,.int .i64 a,.int .i64 b,.int .i64 c,.int .u64 v])::E) D Q):=λi=>H1.fr0 hS ((Fr.refl _ _).drewN _);have HSk:Hid (∀i,Calls Tryz.prog 89 #[.pointer (some ⟨mb,0,none⟩)] ((w.alloc (.cells #[.int .i64 3,.int .i64 a,.int .i64 b,.int .i64 c,.int .u64 v] 69)).drewN i) λe w''=>e=.returned (.pointer (some ⟨L.S t,0,none⟩))/\∃j,w''=((w.alloc (.cells #[.int .i64 3,.int .i64 a,.int .i64 b,.int .i64 c,.int .u64 v] 69)).drewN i).drewN j):=λi=>(HF0.out i).stack hS (CZ _ hm) ht;have ec:am (h.st t) c=0:=by unfold am;rw[if_pos hc]
 have HAc:Hid (∀i,Calls Tryz.prog 90 #[.pointer (some ⟨L.S t,0,none⟩),.int .i64 c] ((w.alloc (.cells #[.int .i64 3,.int .i64 a,.int .i64 b,.int .i64 c,.int .u64 v] 69)).drewN i) λe w''=>e=.returned (.tuple #[.int .u64 (aj (h.st t) c),.int .i64 0])/\(w.alloc (.cells #[.int .i64 3,.int .i64 a,.int .i64 b,.int .i64 c,.int .u64 v] 69)).drewN i=w''):=λi=>by
  have:=(HF0.out i).dL ht c;rwa[ec]at this
 have ea:am (h.st t) a=0:=by unfold am;rw[if_pos ha]
 have HAa:Hid (∀i,Calls Tryz.prog 90 #[.pointer (some ⟨L.S t,0,none⟩),.int .i64 a] ((w.alloc (.cells #[.int .i64 3,.int .i64 a,.int .i64 b,.int .i64 c,.int .u64 v] 69)).drewN i) λe w''=>e=.returned (.tuple #[.int .u64 (((I:Int)+1)),.int .i64 0])/\(w.alloc (.cells #[.int .i64 3,.int .i64 a,.int .i64 b,.int .i64 c,.int .u64 v] 69)).drewN i=w''):=λi=>by
  have:=(HF0.out i).dL ht a;rwa[ea,hr]at this
 have HOb:Hid (∀i,Calls Tryz.prog 60 #[.pointer (some ⟨L.hb,0,none⟩),.int .u64 ((I:Int)+1)] ((w.alloc (.cells #[.int .i64 3,.int .i64 a,.int .i64 b,.int .i64 c,.int .u64 v] 69)).drewN i) λe w''=>e=.returned (.tuple #[.agg #[.int .i64 1,.int .i64 (S:Int),.int .i64 (P:Int),.int .i64 ag,.int .i64 0],.int .i64 0])/\HM W w'' L X h x s k ((w.heap.size,69,#[.int .i64 3,.int .i64 a,.int .i64 b,.int .i64 c,.int .u64 v])::E) D Q):=λi=>by
  have:=(HF0.out i).object hS (r:=(I:Int)+1) (by omega) (by omega);rwa[he,hv]at this
 have HAd:=aa (λw'=>bp I (by omega) w');have HD:Hid (∀w' w'',HM W w' L X h x s k ((w.heap.size,69,#[.int .i64 3,.int .i64 a,.int .i64 b,.int .i64 c,.int .u64 v])::E) D Q->Fr [] w' w''->HM W w'' L X h x s k E D Q):=λw' w'' q hf=>(q.sub (λy hy=>CZ _ hy)).fr0 hS hf;have NM:=(H.blk hm).lt;have cm:w.cell? ⟨mb,0,none⟩=some (.pointer (some ⟨L.hb,0,none⟩)):=(H.blk hm).cell 0;generalize aj (h.st t) c=rc at *;unfold opV;clear H H1 hm ht hc ec ha ea hr he hv;have b1:decide (b<0)=true:=by simpa using hb
 have i1:IntKind.i64.wrap ((I:Int)+1)=(I:Int)+1:=IntWalk.i64_in _ ⟨by omega,by omega⟩;go_enter Tryz.func128,Tryz.ntmps128
 go_wp2_with fail
 go_quiet ((first|(go_at_call 89;exact aU (HSk.out _))|(go_at_call 90;exact aC (HAc.out _))))
 go_wp2_with fail
 go_quiet ((first|(go_at_call 89;exact bS (HSk.out _))|(go_at_call 90;exact aP (HAa.out _))))
 go_wp2_with fail
 refine(HOb.out _).mono ?_;rintro e w2 ⟨rfl,hA⟩;have HA2:=aa hA;have hob:=hA.blk (C0 ..);have d0:=hob.cell 0;have d2:=hob.cell 2;have NO:=hob.lt;clear hA hob HOb HSk HAa cm HAc;go_wp2_with fail
 go_quiet ((go_at_call 150;exact aC (HAd.out _)))
 go_wp2_with fail
 go_ret2
 exact⟨rfl,HD.out _ _ HA2.out (((Fr.refl _ _).alloc _).drewN _)⟩
theorem oE(hS:ah D Q)(H:HM W w L X h x s k E D Q)(hm:(mb,127,muV L.hb t sb m)∈E)(ht:t<h.T)(a b c v:Int)(hc:aG (h.st t) c)(ha:aG (h.st t) a){I S P:Nat}{ag:Int}(hr:aj (h.st t) a=(I:Int)+1)(he:h.aD ((I:Int)+1)=0)(hv:h.bj ((I:Int)+1)=⟨1,(S:Int),(P:Int),ag,0⟩)(hz:P<S/\S<=1048576/\I<=4194304)(hb:¬ b<0)(hb2:(P:Int)<=b)(hb3:b<=9223372036854775807) :
  Calls Tryz.prog 128 #[.pointer (some ⟨mb,0,none⟩),opV ⟨3,a,b,c,v⟩] w λe w'=>e=.returned (.tuple #[.int .i64 0,.int .i64 11])/\HM W w' L X h x s k E D Q:=by
 have H1:HM W (w.alloc (.cells #[.int .i64 3,.int .i64 a,.int .i64 b,.int .i64 c,.int .u64 v] 69)) L X h x s k ((w.heap.size,69,#[.int .i64 3,.int .i64 a,.int .i64 b,.int .i64 c,.int .u64 v])::E) D Q:=H.alloc hS 69 #[.int .i64 3,.int .i64 a,.int .i64 b,.int .i64 c,.int .u64 v];have HF0:Hid (∀i,HM W ((w.alloc (.cells #[.int .i64 3,.int .i64 a,.int .i64 b,.int .i64 c,.int .u64 v] 69)).drewN i) L X h x s k ((w.heap.size,69,#[.int .i64 3,.int .i64 a,.int .i64 b,.int .i64 c,.int .u64 v])::E) D Q):=λi=>H1.fr0 hS ((Fr.refl _ _).drewN _);have HSk:Hid (∀i,Calls Tryz.prog 89 #[.pointer (some ⟨mb,0,none⟩)] ((w.alloc (.cells #[.int .i64 3,.int .i64 a,.int .i64 b,.int .i64 c,.int .u64 v] 69)).drewN i) λe w''=>e=.returned (.pointer (some ⟨L.S t,0,none⟩))/\∃j,w''=((w.alloc (.cells #[.int .i64 3,.int .i64 a,.int .i64 b,.int .i64 c,.int .u64 v] 69)).drewN i).drewN j):=λi=>(HF0.out i).stack hS (CZ _ hm) ht;have ec:am (h.st t) c=0:=by unfold am;rw[if_pos hc]
 have HAc:Hid (∀i,Calls Tryz.prog 90 #[.pointer (some ⟨L.S t,0,none⟩),.int .i64 c] ((w.alloc (.cells #[.int .i64 3,.int .i64 a,.int .i64 b,.int .i64 c,.int .u64 v] 69)).drewN i) λe w''=>e=.returned (.tuple #[.int .u64 (aj (h.st t) c),.int .i64 0])/\(w.alloc (.cells #[.int .i64 3,.int .i64 a,.int .i64 b,.int .i64 c,.int .u64 v] 69)).drewN i=w''):=λi=>by
  have:=(HF0.out i).dL ht c;rwa[ec]at this
 have ea:am (h.st t) a=0:=by unfold am;rw[if_pos ha]
 have HAa:Hid (∀i,Calls Tryz.prog 90 #[.pointer (some ⟨L.S t,0,none⟩),.int .i64 a] ((w.alloc (.cells #[.int .i64 3,.int .i64 a,.int .i64 b,.int .i64 c,.int .u64 v] 69)).drewN i) λe w''=>e=.returned (.tuple #[.int .u64 (((I:Int)+1)),.int .i64 0])/\(w.alloc (.cells #[.int .i64 3,.int .i64 a,.int .i64 b,.int .i64 c,.int .u64 v] 69)).drewN i=w''):=λi=>by
  have:=(HF0.out i).dL ht a;rwa[ea,hr]at this
 have HOb:Hid (∀i,Calls Tryz.prog 60 #[.pointer (some ⟨L.hb,0,none⟩),.int .u64 ((I:Int)+1)] ((w.alloc (.cells #[.int .i64 3,.int .i64 a,.int .i64 b,.int .i64 c,.int .u64 v] 69)).drewN i) λe w''=>e=.returned (.tuple #[.agg #[.int .i64 1,.int .i64 (S:Int),.int .i64 (P:Int),.int .i64 ag,.int .i64 0],.int .i64 0])/\HM W w'' L X h x s k ((w.heap.size,69,#[.int .i64 3,.int .i64 a,.int .i64 b,.int .i64 c,.int .u64 v])::E) D Q):=λi=>by
  have:=(HF0.out i).object hS (r:=(I:Int)+1) (by omega) (by omega);rwa[he,hv]at this
 have HAd:=aa (λw'=>bp I (by omega) w');have HD:Hid (∀w' w'',HM W w' L X h x s k ((w.heap.size,69,#[.int .i64 3,.int .i64 a,.int .i64 b,.int .i64 c,.int .u64 v])::E) D Q->Fr [] w' w''->HM W w'' L X h x s k E D Q):=λw' w'' q hf=>(q.sub (λy hy=>CZ _ hy)).fr0 hS hf;have NM:=(H.blk hm).lt;have cm:w.cell? ⟨mb,0,none⟩=some (.pointer (some ⟨L.hb,0,none⟩)):=(H.blk hm).cell 0;generalize aj (h.st t) c=rc at *;unfold opV;clear H H1 hm ht hc ec ha ea hr he hv;have b1:decide (b<0)=false:=by simpa using hb
 have b2:decide (b>=(P:Int))=true:=by simp;omega
 have b3:decide ((P:Int)<=b)=true:=by simp;omega
 have i1:IntKind.i64.wrap ((I:Int)+1)=(I:Int)+1:=IntWalk.i64_in _ ⟨by omega,by omega⟩;go_enter Tryz.func128,Tryz.ntmps128
 go_wp2_with fail
 go_quiet ((first|(go_at_call 89;exact aU (HSk.out _))|(go_at_call 90;exact aC (HAc.out _))))
 go_wp2_with fail
 go_quiet ((first|(go_at_call 89;exact bS (HSk.out _))|(go_at_call 90;exact aP (HAa.out _))))
 go_wp2_with fail
 refine(HOb.out _).mono ?_;rintro e w2 ⟨rfl,hA⟩;have HA2:=aa hA;have hob:=hA.blk (C0 ..);have d0:=hob.cell 0;have d2:=hob.cell 2;have NO:=hob.lt;clear hA hob HOb HSk HAa cm HAc;go_wp2_with fail
 go_quiet ((go_at_call 150;exact aC (HAd.out _)))
 go_wp2_with fail
 go_ret2
 exact⟨rfl,HD.out _ _ HA2.out (((Fr.refl _ _).alloc _).drewN _)⟩
theorem qz(hS:ah D Q)(H:HM W w L X h x s k E D Q)(hm:(mb,127,muV L.hb t sb m)∈E)(ht:t<h.T)(a b c v:Int)(hc:aG (h.st t) c)(ha:aG (h.st t) a){I S P:Nat}{ag:Int}(hr:aj (h.st t) a=(I:Int)+1)(he:h.aD ((I:Int)+1)=0)(hv:h.bj ((I:Int)+1)=⟨1,(S:Int),(P:Int),ag,0⟩)(hz:P<S/\S<=1048576/\I<=4194304)(hb:¬ b<0)(hb2:b<(P:Int)) :
  Calls Tryz.prog 128 #[.pointer (some ⟨mb,0,none⟩),opV ⟨3,a,b,c,v⟩] w λe w'=>e=.returned (.tuple #[.int .i64 ((I:Int)+1+b),.int .i64 0])/\HM W w' L X h x s k E D Q:=by
 have H1:HM W (w.alloc (.cells #[.int .i64 3,.int .i64 a,.int .i64 b,.int .i64 c,.int .u64 v] 69)) L X h x s k ((w.heap.size,69,#[.int .i64 3,.int .i64 a,.int .i64 b,.int .i64 c,.int .u64 v])::E) D Q:=H.alloc hS 69 #[.int .i64 3,.int .i64 a,.int .i64 b,.int .i64 c,.int .u64 v];have HF0:Hid (∀i,HM W ((w.alloc (.cells #[.int .i64 3,.int .i64 a,.int .i64 b,.int .i64 c,.int .u64 v] 69)).drewN i) L X h x s k ((w.heap.size,69,#[.int .i64 3,.int .i64 a,.int .i64 b,.int .i64 c,.int .u64 v])::E) D Q):=λi=>H1.fr0 hS ((Fr.refl _ _).drewN _);have HSk:Hid (∀i,Calls Tryz.prog 89 #[.pointer (some ⟨mb,0,none⟩)] ((w.alloc (.cells #[.int .i64 3,.int .i64 a,.int .i64 b,.int .i64 c,.int .u64 v] 69)).drewN i) λe w''=>e=.returned (.pointer (some ⟨L.S t,0,none⟩))/\∃j,w''=((w.alloc (.cells #[.int .i64 3,.int .i64 a,.int .i64 b,.int .i64 c,.int .u64 v] 69)).drewN i).drewN j):=λi=>(HF0.out i).stack hS (CZ _ hm) ht;have ec:am (h.st t) c=0:=by unfold am;rw[if_pos hc]
 have HAc:Hid (∀i,Calls Tryz.prog 90 #[.pointer (some ⟨L.S t,0,none⟩),.int .i64 c] ((w.alloc (.cells #[.int .i64 3,.int .i64 a,.int .i64 b,.int .i64 c,.int .u64 v] 69)).drewN i) λe w''=>e=.returned (.tuple #[.int .u64 (aj (h.st t) c),.int .i64 0])/\(w.alloc (.cells #[.int .i64 3,.int .i64 a,.int .i64 b,.int .i64 c,.int .u64 v] 69)).drewN i=w''):=λi=>by
  have:=(HF0.out i).dL ht c;rwa[ec]at this
 have ea:am (h.st t) a=0:=by unfold am;rw[if_pos ha]
 have HAa:Hid (∀i,Calls Tryz.prog 90 #[.pointer (some ⟨L.S t,0,none⟩),.int .i64 a] ((w.alloc (.cells #[.int .i64 3,.int .i64 a,.int .i64 b,.int .i64 c,.int .u64 v] 69)).drewN i) λe w''=>e=.returned (.tuple #[.int .u64 (((I:Int)+1)),.int .i64 0])/\(w.alloc (.cells #[.int .i64 3,.int .i64 a,.int .i64 b,.int .i64 c,.int .u64 v] 69)).drewN i=w''):=λi=>by
  have:=(HF0.out i).dL ht a;rwa[ea,hr]at this
 have HOb:Hid (∀i,Calls Tryz.prog 60 #[.pointer (some ⟨L.hb,0,none⟩),.int .u64 ((I:Int)+1)] ((w.alloc (.cells #[.int .i64 3,.int .i64 a,.int .i64 b,.int .i64 c,.int .u64 v] 69)).drewN i) λe w''=>e=.returned (.tuple #[.agg #[.int .i64 1,.int .i64 (S:Int),.int .i64 (P:Int),.int .i64 ag,.int .i64 0],.int .i64 0])/\HM W w'' L X h x s k ((w.heap.size,69,#[.int .i64 3,.int .i64 a,.int .i64 b,.int .i64 c,.int .u64 v])::E) D Q):=λi=>by
  have:=(HF0.out i).object hS (r:=(I:Int)+1) (by omega) (by omega);rwa[he,hv]at this
 have HAd:=aa (λw'=>bp I (by omega) w');have HD:Hid (∀w' w'',HM W w' L X h x s k ((w.heap.size,69,#[.int .i64 3,.int .i64 a,.int .i64 b,.int .i64 c,.int .u64 v])::E) D Q->Fr [] w' w''->HM W w'' L X h x s k E D Q):=λw' w'' q hf=>(q.sub (λy hy=>CZ _ hy)).fr0 hS hf;have NM:=(H.blk hm).lt;have cm:w.cell? ⟨mb,0,none⟩=some (.pointer (some ⟨L.hb,0,none⟩)):=(H.blk hm).cell 0;generalize aj (h.st t) c=rc at *;unfold opV;clear H H1 hm ht hc ec ha ea hr he hv;have b1:decide (b<0)=false:=by simpa using hb
 have b2:decide (b>=(P:Int))=false:=by simp;omega
 have b3:decide ((P:Int)<=b)=false:=by simp;omega
 have i1:IntKind.i64.wrap ((I:Int)+1)=(I:Int)+1:=IntWalk.i64_in _ ⟨by omega,by omega⟩;have i5:IntKind.i64.wrap ((I:Int)+1+b)=(I:Int)+1+b:=IntWalk.i64_in _ ⟨by omega,by omega⟩;go_enter Tryz.func128,Tryz.ntmps128
 go_wp2_with fail
 go_quiet ((first|(go_at_call 89;exact aU (HSk.out _))|(go_at_call 90;exact aC (HAc.out _))))
 go_wp2_with fail
 go_quiet ((first|(go_at_call 89;exact bS (HSk.out _))|(go_at_call 90;exact aP (HAa.out _))))
 go_wp2_with fail
 refine(HOb.out _).mono ?_;rintro e w2 ⟨rfl,hA⟩;have HA2:=aa hA;have hob:=hA.blk (C0 ..);have d0:=hob.cell 0;have d2:=hob.cell 2;have NO:=hob.lt;clear hA hob HOb HSk HAa cm HAc;go_wp2_with fail
 go_quiet ((go_at_call 150;exact aC (HAd.out _)))
 go_wp2_with fail
 go_ret2
 exact⟨rfl,HD.out _ _ HA2.out (((Fr.refl _ _).alloc _).drewN _)⟩
theorem sx(hS:ah D Q)(H:HM W w L X h x s k E D Q)(hm:(mb,127,muV L.hb t sb m)∈E)(ht:t<h.T)(a b c v:Int)(ha:¬ aG (h.st t) a) :
  Calls Tryz.prog 128 #[.pointer (some ⟨mb,0,none⟩),opV ⟨4,a,b,c,v⟩] w λe w'=>e=.returned (.tuple #[.int .i64 0,.int .i64 10])/\HM W w' L X h x s k E D Q:=by
 have H1:HM W (w.alloc (.cells #[.int .i64 4,.int .i64 a,.int .i64 b,.int .i64 c,.int .u64 v] 69)) L X h x s k ((w.heap.size,69,#[.int .i64 4,.int .i64 a,.int .i64 b,.int .i64 c,.int .u64 v])::E) D Q:=H.alloc hS 69 #[.int .i64 4,.int .i64 a,.int .i64 b,.int .i64 c,.int .u64 v];have HF0:Hid (∀i,HM W ((w.alloc (.cells #[.int .i64 4,.int .i64 a,.int .i64 b,.int .i64 c,.int .u64 v] 69)).drewN i) L X h x s k ((w.heap.size,69,#[.int .i64 4,.int .i64 a,.int .i64 b,.int .i64 c,.int .u64 v])::E) D Q):=λi=>H1.fr0 hS ((Fr.refl _ _).drewN _);have HSk:Hid (∀i,Calls Tryz.prog 89 #[.pointer (some ⟨mb,0,none⟩)] ((w.alloc (.cells #[.int .i64 4,.int .i64 a,.int .i64 b,.int .i64 c,.int .u64 v] 69)).drewN i) λe w''=>e=.returned (.pointer (some ⟨L.S t,0,none⟩))/\∃j,w''=((w.alloc (.cells #[.int .i64 4,.int .i64 a,.int .i64 b,.int .i64 c,.int .u64 v] 69)).drewN i).drewN j):=λi=>(HF0.out i).stack hS (CZ _ hm) ht;have ea:am (h.st t) a=10:=by unfold am;rw[if_neg ha]
 have HAa:Hid (∀i,Calls Tryz.prog 90 #[.pointer (some ⟨L.S t,0,none⟩),.int .i64 a] ((w.alloc (.cells #[.int .i64 4,.int .i64 a,.int .i64 b,.int .i64 c,.int .u64 v] 69)).drewN i) λe w''=>e=.returned (.tuple #[.int .u64 (aj (h.st t) a),.int .i64 10])/\(w.alloc (.cells #[.int .i64 4,.int .i64 a,.int .i64 b,.int .i64 c,.int .u64 v] 69)).drewN i=w''):=λi=>by
  have:=(HF0.out i).dL ht a;rwa[ea]at this
 have HD:Hid (∀w' w'',HM W w' L X h x s k ((w.heap.size,69,#[.int .i64 4,.int .i64 a,.int .i64 b,.int .i64 c,.int .u64 v])::E) D Q->Fr [] w' w''->HM W w'' L X h x s k E D Q):=λw' w'' q hf=>(q.sub (λy hy=>CZ _ hy)).fr0 hS hf;have NM:=(H.blk hm).lt;have cm:w.cell? ⟨mb,0,none⟩=some (.pointer (some ⟨L.hb,0,none⟩)):=(H.blk hm).cell 0;generalize aj (h.st t) a=ra at *;unfold opV;clear H H1 hm ht ha ea;go_enter Tryz.func128,Tryz.ntmps128
 go_wp2_with fail
 go_quiet ((first|(go_at_call 89;exact aU (HSk.out _))|(go_at_call 90;exact aC (HAa.out _))))
 go_wp2_with fail
 go_ret2
 exact⟨rfl,HD.out _ _ (HF0.out _) (Fr.refl _ _)⟩
theorem oH(hS:ah D Q)(H:HM W w L X h x s k E D Q)(hm:(mb,127,muV L.hb t sb m)∈E)(ht:t<h.T)(a b c v:Int)(ha:aG (h.st t) a)(hr:aj (h.st t) a=0) :
  Calls Tryz.prog 128 #[.pointer (some ⟨mb,0,none⟩),opV ⟨4,a,b,c,v⟩] w λe w'=>e=.returned (.tuple #[.int .i64 0,.int .i64 12])/\HM W w' L X h x s k E D Q:=by
 have H1:HM W (w.alloc (.cells #[.int .i64 4,.int .i64 a,.int .i64 b,.int .i64 c,.int .u64 v] 69)) L X h x s k ((w.heap.size,69,#[.int .i64 4,.int .i64 a,.int .i64 b,.int .i64 c,.int .u64 v])::E) D Q:=H.alloc hS 69 #[.int .i64 4,.int .i64 a,.int .i64 b,.int .i64 c,.int .u64 v];have HF0:Hid (∀i,HM W ((w.alloc (.cells #[.int .i64 4,.int .i64 a,.int .i64 b,.int .i64 c,.int .u64 v] 69)).drewN i) L X h x s k ((w.heap.size,69,#[.int .i64 4,.int .i64 a,.int .i64 b,.int .i64 c,.int .u64 v])::E) D Q):=λi=>H1.fr0 hS ((Fr.refl _ _).drewN _);have HSk:Hid (∀i,Calls Tryz.prog 89 #[.pointer (some ⟨mb,0,none⟩)] ((w.alloc (.cells #[.int .i64 4,.int .i64 a,.int .i64 b,.int .i64 c,.int .u64 v] 69)).drewN i) λe w''=>e=.returned (.pointer (some ⟨L.S t,0,none⟩))/\∃j,w''=((w.alloc (.cells #[.int .i64 4,.int .i64 a,.int .i64 b,.int .i64 c,.int .u64 v] 69)).drewN i).drewN j):=λi=>(HF0.out i).stack hS (CZ _ hm) ht;have ea:am (h.st t) a=0:=by unfold am;rw[if_pos ha]
 have HAa:Hid (∀i,Calls Tryz.prog 90 #[.pointer (some ⟨L.S t,0,none⟩),.int .i64 a] ((w.alloc (.cells #[.int .i64 4,.int .i64 a,.int .i64 b,.int .i64 c,.int .u64 v] 69)).drewN i) λe w''=>e=.returned (.tuple #[.int .u64 (0),.int .i64 0])/\(w.alloc (.cells #[.int .i64 4,.int .i64 a,.int .i64 b,.int .i64 c,.int .u64 v] 69)).drewN i=w''):=λi=>by
  have:=(HF0.out i).dL ht a;rwa[ea,hr]at this
 have eo:h.aD 0=12:=by unfold HS.aD;rw[if_pos rfl]
 have ev:h.bj 0=Hd.zero:=by unfold HS.bj;rw[if_neg (by rw[eo];decide)]
 have HOb:Hid (∀i,Calls Tryz.prog 60 #[.pointer (some ⟨L.hb,0,none⟩),.int .u64 0] ((w.alloc (.cells #[.int .i64 4,.int .i64 a,.int .i64 b,.int .i64 c,.int .u64 v] 69)).drewN i) λe w''=>e=.returned (.tuple #[.agg #[.int .i64 0,.int .i64 0,.int .i64 0,.int .i64 0,.int .i64 0],.int .i64 12])/\HM W w'' L X h x s k ((w.heap.size,69,#[.int .i64 4,.int .i64 a,.int .i64 b,.int .i64 c,.int .u64 v])::E) D Q):=λi=>by
  have:=(HF0.out i).object hS (r:=0) (by decide) (by decide);rwa[eo,ev]at this
 have HD:Hid (∀w' w'',HM W w' L X h x s k ((w.heap.size,69,#[.int .i64 4,.int .i64 a,.int .i64 b,.int .i64 c,.int .u64 v])::E) D Q->Fr [] w' w''->HM W w'' L X h x s k E D Q):=λw' w'' q hf=>(q.sub (λy hy=>CZ _ hy)).fr0 hS hf;have NM:=(H.blk hm).lt;have cm:w.cell? ⟨mb,0,none⟩=some (.pointer (some ⟨L.hb,0,none⟩)):=(H.blk hm).cell 0;unfold opV;clear H H1 hm ht ha ea hr eo ev;go_enter Tryz.func128,Tryz.ntmps128
 go_wp2_with fail
 go_quiet ((first|(go_at_call 89;exact aU (HSk.out _))|(go_at_call 90;exact aC (HAa.out _))))
 go_wp2_with fail
 refine(HOb.out _).mono ?_;rintro e w2 ⟨rfl,hA⟩;have HA2:=aa hA;have hob:=hA.blk (C0 ..);have d0:=hob.cell 0;have d2:=hob.cell 2;have NO:=hob.lt;clear hA hob HOb HSk HAa cm;go_wp2_with fail
 go_ret2
 exact⟨rfl,HD.out _ _ HA2.out ((Fr.refl _ _).alloc _)⟩
theorem oI(hS:ah D Q)(H:HM W w L X h x s k E D Q)(hm:(mb,127,muV L.hb t sb m)∈E)(ht:t<h.T)(a b c v:Int)(ha:aG (h.st t) a){I S P:Nat}{ag:Int}(hr:aj (h.st t) a=(I:Int)+1)(he:h.aD ((I:Int)+1)=0)(hv:h.bj ((I:Int)+1)=⟨1,(S:Int),(P:Int),ag,0⟩)(hz:P<S/\S<=1048576/\I<=4194304)(hb:b<0) :
  Calls Tryz.prog 128 #[.pointer (some ⟨mb,0,none⟩),opV ⟨4,a,b,c,v⟩] w λe w'=>e=.returned (.tuple #[.int .i64 0,.int .i64 11])/\HM W w' L X h x s k E D Q:=by
 have H1:HM W (w.alloc (.cells #[.int .i64 4,.int .i64 a,.int .i64 b,.int .i64 c,.int .u64 v] 69)) L X h x s k ((w.heap.size,69,#[.int .i64 4,.int .i64 a,.int .i64 b,.int .i64 c,.int .u64 v])::E) D Q:=H.alloc hS 69 #[.int .i64 4,.int .i64 a,.int .i64 b,.int .i64 c,.int .u64 v];have HF0:Hid (∀i,HM W ((w.alloc (.cells #[.int .i64 4,.int .i64 a,.int .i64 b,.int .i64 c,.int .u64 v] 69)).drewN i) L X h x s k ((w.heap.size,69,#[.int .i64 4,.int .i64 a,.int .i64 b,.int .i64 c,.int .u64 v])::E) D Q):=λi=>H1.fr0 hS ((Fr.refl _ _).drewN _);have HSk:Hid (∀i,Calls Tryz.prog 89 #[.pointer (some ⟨mb,0,none⟩)] ((w.alloc (.cells #[.int .i64 4,.int .i64 a,.int .i64 b,.int .i64 c,.int .u64 v] 69)).drewN i) λe w''=>e=.returned (.pointer (some ⟨L.S t,0,none⟩))/\∃j,w''=((w.alloc (.cells #[.int .i64 4,.int .i64 a,.int .i64 b,.int .i64 c,.int .u64 v] 69)).drewN i).drewN j):=λi=>(HF0.out i).stack hS (CZ _ hm) ht;have ea:am (h.st t) a=0:=by unfold am;rw[if_pos ha]
 have HAa:Hid (∀i,Calls Tryz.prog 90 #[.pointer (some ⟨L.S t,0,none⟩),.int .i64 a] ((w.alloc (.cells #[.int .i64 4,.int .i64 a,.int .i64 b,.int .i64 c,.int .u64 v] 69)).drewN i) λe w''=>e=.returned (.tuple #[.int .u64 (((I:Int)+1)),.int .i64 0])/\(w.alloc (.cells #[.int .i64 4,.int .i64 a,.int .i64 b,.int .i64 c,.int .u64 v] 69)).drewN i=w''):=λi=>by
  have:=(HF0.out i).dL ht a;rwa[ea,hr]at this
 have HOb:Hid (∀i,Calls Tryz.prog 60 #[.pointer (some ⟨L.hb,0,none⟩),.int .u64 ((I:Int)+1)] ((w.alloc (.cells #[.int .i64 4,.int .i64 a,.int .i64 b,.int .i64 c,.int .u64 v] 69)).drewN i) λe w''=>e=.returned (.tuple #[.agg #[.int .i64 1,.int .i64 (S:Int),.int .i64 (P:Int),.int .i64 ag,.int .i64 0],.int .i64 0])/\HM W w'' L X h x s k ((w.heap.size,69,#[.int .i64 4,.int .i64 a,.int .i64 b,.int .i64 c,.int .u64 v])::E) D Q):=λi=>by
  have:=(HF0.out i).object hS (r:=(I:Int)+1) (by omega) (by omega);rwa[he,hv]at this
 have HAd:=aa (λw'=>bp I (by omega) w');have HD:Hid (∀w' w'',HM W w' L X h x s k ((w.heap.size,69,#[.int .i64 4,.int .i64 a,.int .i64 b,.int .i64 c,.int .u64 v])::E) D Q->Fr [] w' w''->HM W w'' L X h x s k E D Q):=λw' w'' q hf=>(q.sub (λy hy=>CZ _ hy)).fr0 hS hf;have NM:=(H.blk hm).lt;have cm:w.cell? ⟨mb,0,none⟩=some (.pointer (some ⟨L.hb,0,none⟩)):=(H.blk hm).cell 0;unfold opV;clear H H1 hm ht ha ea hr he hv;have b1:decide (b<0)=true:=by simpa using hb
 have i1:IntKind.i64.wrap ((I:Int)+1)=(I:Int)+1:=IntWalk.i64_in _ ⟨by omega,by omega⟩;have i2:IntKind.i64.wrap ((I:Int)+1+(P:Int))=(I:Int)+1+(P:Int):=IntWalk.i64_in _ ⟨by omega,by omega⟩;have i3:IntKind.i64.wrap ((S:Int)-1)=(S:Int)-1:=IntWalk.i64_in _ ⟨by omega,by omega⟩;have i4:IntKind.i64.wrap ((S:Int)-1-(P:Int))=(S:Int)-1-(P:Int):=IntWalk.i64_in _ ⟨by omega,by omega⟩;go_enter Tryz.func128,Tryz.ntmps128
 go_wp2_with fail
 go_quiet ((first|(go_at_call 89;exact aU (HSk.out _))|(go_at_call 90;exact aC (HAa.out _))))
 go_wp2_with fail
 refine(HOb.out _).mono ?_;rintro e w2 ⟨rfl,hA⟩;have HA2:=aa hA;have hob:=hA.blk (C0 ..);have d0:=hob.cell 0;have d2:=hob.cell 2;have NO:=hob.lt;clear hA hob HOb HSk HAa cm;go_wp2_with fail
 go_quiet ((go_at_call 150;exact aC (HAd.out _)))
 go_wp2_with fail
 go_quiet (fail)
 go_wp2_with fail
 go_ret2
 exact⟨rfl,HD.out _ _ HA2.out (((Fr.refl _ _).alloc _).drewN _)⟩
theorem oJ(hS:ah D Q)(H:HM W w L X h x s k E D Q)(hm:(mb,127,muV L.hb t sb m)∈E)(ht:t<h.T)(a b c v:Int)(ha:aG (h.st t) a){I S P:Nat}{ag:Int}(hr:aj (h.st t) a=(I:Int)+1)(he:h.aD ((I:Int)+1)=0)(hv:h.bj ((I:Int)+1)=⟨1,(S:Int),(P:Int),ag,0⟩)(hz:P<S/\S<=1048576/\I<=4194304)(hb:¬ b<0)(hb2:((S:Int)-1-(P:Int))<=b)(hb3:b<=9223372036854775807) :
  Calls Tryz.prog 128 #[.pointer (some ⟨mb,0,none⟩),opV ⟨4,a,b,c,v⟩] w λe w'=>e=.returned (.tuple #[.int .i64 0,.int .i64 11])/\HM W w' L X h x s k E D Q:=by
 have H1:HM W (w.alloc (.cells #[.int .i64 4,.int .i64 a,.int .i64 b,.int .i64 c,.int .u64 v] 69)) L X h x s k ((w.heap.size,69,#[.int .i64 4,.int .i64 a,.int .i64 b,.int .i64 c,.int .u64 v])::E) D Q:=H.alloc hS 69 #[.int .i64 4,.int .i64 a,.int .i64 b,.int .i64 c,.int .u64 v];have HF0:Hid (∀i,HM W ((w.alloc (.cells #[.int .i64 4,.int .i64 a,.int .i64 b,.int .i64 c,.int .u64 v] 69)).drewN i) L X h x s k ((w.heap.size,69,#[.int .i64 4,.int .i64 a,.int .i64 b,.int .i64 c,.int .u64 v])::E) D Q):=λi=>H1.fr0 hS ((Fr.refl _ _).drewN _);have HSk:Hid (∀i,Calls Tryz.prog 89 #[.pointer (some ⟨mb,0,none⟩)] ((w.alloc (.cells #[.int .i64 4,.int .i64 a,.int .i64 b,.int .i64 c,.int .u64 v] 69)).drewN i) λe w''=>e=.returned (.pointer (some ⟨L.S t,0,none⟩))/\∃j,w''=((w.alloc (.cells #[.int .i64 4,.int .i64 a,.int .i64 b,.int .i64 c,.int .u64 v] 69)).drewN i).drewN j):=λi=>(HF0.out i).stack hS (CZ _ hm) ht;have ea:am (h.st t) a=0:=by unfold am;rw[if_pos ha]
 have HAa:Hid (∀i,Calls Tryz.prog 90 #[.pointer (some ⟨L.S t,0,none⟩),.int .i64 a] ((w.alloc (.cells #[.int .i64 4,.int .i64 a,.int .i64 b,.int .i64 c,.int .u64 v] 69)).drewN i) λe w''=>e=.returned (.tuple #[.int .u64 (((I:Int)+1)),.int .i64 0])/\(w.alloc (.cells #[.int .i64 4,.int .i64 a,.int .i64 b,.int .i64 c,.int .u64 v] 69)).drewN i=w''):=λi=>by
  have:=(HF0.out i).dL ht a;rwa[ea,hr]at this
 have HOb:Hid (∀i,Calls Tryz.prog 60 #[.pointer (some ⟨L.hb,0,none⟩),.int .u64 ((I:Int)+1)] ((w.alloc (.cells #[.int .i64 4,.int .i64 a,.int .i64 b,.int .i64 c,.int .u64 v] 69)).drewN i) λe w''=>e=.returned (.tuple #[.agg #[.int .i64 1,.int .i64 (S:Int),.int .i64 (P:Int),.int .i64 ag,.int .i64 0],.int .i64 0])/\HM W w'' L X h x s k ((w.heap.size,69,#[.int .i64 4,.int .i64 a,.int .i64 b,.int .i64 c,.int .u64 v])::E) D Q):=λi=>by
  have:=(HF0.out i).object hS (r:=(I:Int)+1) (by omega) (by omega);rwa[he,hv]at this
 have HAd:=aa (λw'=>bp I (by omega) w');have HD:Hid (∀w' w'',HM W w' L X h x s k ((w.heap.size,69,#[.int .i64 4,.int .i64 a,.int .i64 b,.int .i64 c,.int .u64 v])::E) D Q->Fr [] w' w''->HM W w'' L X h x s k E D Q):=λw' w'' q hf=>(q.sub (λy hy=>CZ _ hy)).fr0 hS hf;have NM:=(H.blk hm).lt;have cm:w.cell? ⟨mb,0,none⟩=some (.pointer (some ⟨L.hb,0,none⟩)):=(H.blk hm).cell 0;unfold opV;clear H H1 hm ht ha ea hr he hv;have b1:decide (b<0)=false:=by simpa using hb
 have b2:decide (b>=((S:Int)-1-(P:Int)))=true:=by simp;omega
 have b3:decide (((S:Int)-1-(P:Int))<=b)=true:=by simp;omega
 have i1:IntKind.i64.wrap ((I:Int)+1)=(I:Int)+1:=IntWalk.i64_in _ ⟨by omega,by omega⟩;have i2:IntKind.i64.wrap ((I:Int)+1+(P:Int))=(I:Int)+1+(P:Int):=IntWalk.i64_in _ ⟨by omega,by omega⟩;have i3:IntKind.i64.wrap ((S:Int)-1)=(S:Int)-1:=IntWalk.i64_in _ ⟨by omega,by omega⟩;have i4:IntKind.i64.wrap ((S:Int)-1-(P:Int))=(S:Int)-1-(P:Int):=IntWalk.i64_in _ ⟨by omega,by omega⟩;go_enter Tryz.func128,Tryz.ntmps128
 go_wp2_with fail
 go_quiet ((first|(go_at_call 89;exact aU (HSk.out _))|(go_at_call 90;exact aC (HAa.out _))))
 go_wp2_with fail
 refine(HOb.out _).mono ?_;rintro e w2 ⟨rfl,hA⟩;have HA2:=aa hA;have hob:=hA.blk (C0 ..);have d0:=hob.cell 0;have d2:=hob.cell 2;have NO:=hob.lt;clear hA hob HOb HSk HAa cm;go_wp2_with fail
 go_quiet ((go_at_call 150;exact aC (HAd.out _)))
 go_wp2_with fail
 go_quiet (fail)
 go_wp2_with fail
 go_ret2
 exact⟨rfl,HD.out _ _ HA2.out (((Fr.refl _ _).alloc _).drewN _)⟩
theorem qA(hS:ah D Q)(H:HM W w L X h x s k E D Q)(hm:(mb,127,muV L.hb t sb m)∈E)(ht:t<h.T)(a b c v:Int)(ha:aG (h.st t) a){I S P:Nat}{ag:Int}(hr:aj (h.st t) a=(I:Int)+1)(he:h.aD ((I:Int)+1)=0)(hv:h.bj ((I:Int)+1)=⟨1,(S:Int),(P:Int),ag,0⟩)(hz:P<S/\S<=1048576/\I<=4194304)(hb:¬ b<0)(hb2:b<((S:Int)-1-(P:Int))) :
  Calls Tryz.prog 128 #[.pointer (some ⟨mb,0,none⟩),opV ⟨4,a,b,c,v⟩] w λe w'=>e=.returned (.tuple #[.int .i64 ((I:Int)+1+(P:Int)+b),.int .i64 0])/\HM W w' L X h x s k E D Q:=by
 have H1:HM W (w.alloc (.cells #[.int .i64 4,.int .i64 a,.int .i64 b,.int .i64 c,.int .u64 v] 69)) L X h x s k ((w.heap.size,69,#[.int .i64 4,.int .i64 a,.int .i64 b,.int .i64 c,.int .u64 v])::E) D Q:=H.alloc hS 69 #[.int .i64 4,.int .i64 a,.int .i64 b,.int .i64 c,.int .u64 v];have HF0:Hid (∀i,HM W ((w.alloc (.cells #[.int .i64 4,.int .i64 a,.int .i64 b,.int .i64 c,.int .u64 v] 69)).drewN i) L X h x s k ((w.heap.size,69,#[.int .i64 4,.int .i64 a,.int .i64 b,.int .i64 c,.int .u64 v])::E) D Q):=λi=>H1.fr0 hS ((Fr.refl _ _).drewN _);have HSk:Hid (∀i,Calls Tryz.prog 89 #[.pointer (some ⟨mb,0,none⟩)] ((w.alloc (.cells #[.int .i64 4,.int .i64 a,.int .i64 b,.int .i64 c,.int .u64 v] 69)).drewN i) λe w''=>e=.returned (.pointer (some ⟨L.S t,0,none⟩))/\∃j,w''=((w.alloc (.cells #[.int .i64 4,.int .i64 a,.int .i64 b,.int .i64 c,.int .u64 v] 69)).drewN i).drewN j):=λi=>(HF0.out i).stack hS (CZ _ hm) ht;have ea:am (h.st t) a=0:=by unfold am;rw[if_pos ha]
 have HAa:Hid (∀i,Calls Tryz.prog 90 #[.pointer (some ⟨L.S t,0,none⟩),.int .i64 a] ((w.alloc (.cells #[.int .i64 4,.int .i64 a,.int .i64 b,.int .i64 c,.int .u64 v] 69)).drewN i) λe w''=>e=.returned (.tuple #[.int .u64 (((I:Int)+1)),.int .i64 0])/\(w.alloc (.cells #[.int .i64 4,.int .i64 a,.int .i64 b,.int .i64 c,.int .u64 v] 69)).drewN i=w''):=λi=>by
  have:=(HF0.out i).dL ht a;rwa[ea,hr]at this
 have HOb:Hid (∀i,Calls Tryz.prog 60 #[.pointer (some ⟨L.hb,0,none⟩),.int .u64 ((I:Int)+1)] ((w.alloc (.cells #[.int .i64 4,.int .i64 a,.int .i64 b,.int .i64 c,.int .u64 v] 69)).drewN i) λe w''=>e=.returned (.tuple #[.agg #[.int .i64 1,.int .i64 (S:Int),.int .i64 (P:Int),.int .i64 ag,.int .i64 0],.int .i64 0])/\HM W w'' L X h x s k ((w.heap.size,69,#[.int .i64 4,.int .i64 a,.int .i64 b,.int .i64 c,.int .u64 v])::E) D Q):=λi=>by
  have:=(HF0.out i).object hS (r:=(I:Int)+1) (by omega) (by omega);rwa[he,hv]at this
 have HAd:=aa (λw'=>bp I (by omega) w');have HD:Hid (∀w' w'',HM W w' L X h x s k ((w.heap.size,69,#[.int .i64 4,.int .i64 a,.int .i64 b,.int .i64 c,.int .u64 v])::E) D Q->Fr [] w' w''->HM W w'' L X h x s k E D Q):=λw' w'' q hf=>(q.sub (λy hy=>CZ _ hy)).fr0 hS hf;have NM:=(H.blk hm).lt;have cm:w.cell? ⟨mb,0,none⟩=some (.pointer (some ⟨L.hb,0,none⟩)):=(H.blk hm).cell 0;unfold opV;clear H H1 hm ht ha ea hr he hv;have b1:decide (b<0)=false:=by simpa using hb
 have b2:decide (b>=((S:Int)-1-(P:Int)))=false:=by simp;omega
 have b3:decide (((S:Int)-1-(P:Int))<=b)=false:=by simp;omega
 have i1:IntKind.i64.wrap ((I:Int)+1)=(I:Int)+1:=IntWalk.i64_in _ ⟨by omega,by omega⟩;have i2:IntKind.i64.wrap ((I:Int)+1+(P:Int))=(I:Int)+1+(P:Int):=IntWalk.i64_in _ ⟨by omega,by omega⟩;have i3:IntKind.i64.wrap ((S:Int)-1)=(S:Int)-1:=IntWalk.i64_in _ ⟨by omega,by omega⟩;have i4:IntKind.i64.wrap ((S:Int)-1-(P:Int))=(S:Int)-1-(P:Int):=IntWalk.i64_in _ ⟨by omega,by omega⟩;have i5:IntKind.i64.wrap ((I:Int)+1+(P:Int)+b)=(I:Int)+1+(P:Int)+b:=IntWalk.i64_in _ ⟨by omega,by omega⟩;go_enter Tryz.func128,Tryz.ntmps128
 go_wp2_with fail
 go_quiet ((first|(go_at_call 89;exact aU (HSk.out _))|(go_at_call 90;exact aC (HAa.out _))))
 go_wp2_with fail
 refine(HOb.out _).mono ?_;rintro e w2 ⟨rfl,hA⟩;have HA2:=aa hA;have hob:=hA.blk (C0 ..);have d0:=hob.cell 0;have d2:=hob.cell 2;have NO:=hob.lt;clear hA hob HOb HSk HAa cm;go_wp2_with fail
 go_quiet ((go_at_call 150;exact aC (HAd.out _)))
 go_wp2_with fail
 go_quiet (fail)
 go_wp2_with fail
 go_ret2
 exact⟨rfl,HD.out _ _ HA2.out (((Fr.refl _ _).alloc _).drewN _)⟩
theorem sD(hS:ah D Q)(H:HM W w L X h x s k E D Q)(hm:(mb,127,muV L.hb t sb m)∈E)(ht:t<h.T)(a b c v:Int)(ha:¬ aG (h.st t) a) :
  Calls Tryz.prog 128 #[.pointer (some ⟨mb,0,none⟩),opV ⟨5,a,b,c,v⟩] w λe w'=>e=.returned (.tuple #[.int .i64 0,.int .i64 10])/\HM W w' L X h x s k E D Q:=by
 have H1:HM W (w.alloc (.cells #[.int .i64 5,.int .i64 a,.int .i64 b,.int .i64 c,.int .u64 v] 69)) L X h x s k ((w.heap.size,69,#[.int .i64 5,.int .i64 a,.int .i64 b,.int .i64 c,.int .u64 v])::E) D Q:=H.alloc hS 69 #[.int .i64 5,.int .i64 a,.int .i64 b,.int .i64 c,.int .u64 v];have HF0:Hid (∀i,HM W ((w.alloc (.cells #[.int .i64 5,.int .i64 a,.int .i64 b,.int .i64 c,.int .u64 v] 69)).drewN i) L X h x s k ((w.heap.size,69,#[.int .i64 5,.int .i64 a,.int .i64 b,.int .i64 c,.int .u64 v])::E) D Q):=λi=>H1.fr0 hS ((Fr.refl _ _).drewN _);have HSk:Hid (∀i,Calls Tryz.prog 89 #[.pointer (some ⟨mb,0,none⟩)] ((w.alloc (.cells #[.int .i64 5,.int .i64 a,.int .i64 b,.int .i64 c,.int .u64 v] 69)).drewN i) λe w''=>e=.returned (.pointer (some ⟨L.S t,0,none⟩))/\∃j,w''=((w.alloc (.cells #[.int .i64 5,.int .i64 a,.int .i64 b,.int .i64 c,.int .u64 v] 69)).drewN i).drewN j):=λi=>(HF0.out i).stack hS (CZ _ hm) ht;have ea:am (h.st t) a=10:=by unfold am;rw[if_neg ha]
 have HAa:Hid (∀i,Calls Tryz.prog 90 #[.pointer (some ⟨L.S t,0,none⟩),.int .i64 a] ((w.alloc (.cells #[.int .i64 5,.int .i64 a,.int .i64 b,.int .i64 c,.int .u64 v] 69)).drewN i) λe w''=>e=.returned (.tuple #[.int .u64 (aj (h.st t) a),.int .i64 10])/\(w.alloc (.cells #[.int .i64 5,.int .i64 a,.int .i64 b,.int .i64 c,.int .u64 v] 69)).drewN i=w''):=λi=>by
  have:=(HF0.out i).dL ht a;rwa[ea]at this
 have HD:Hid (∀w' w'',HM W w' L X h x s k ((w.heap.size,69,#[.int .i64 5,.int .i64 a,.int .i64 b,.int .i64 c,.int .u64 v])::E) D Q->Fr [] w' w''->HM W w'' L X h x s k E D Q):=λw' w'' q hf=>(q.sub (λy hy=>CZ _ hy)).fr0 hS hf;have NM:=(H.blk hm).lt;have cm:w.cell? ⟨mb,0,none⟩=some (.pointer (some ⟨L.hb,0,none⟩)):=(H.blk hm).cell 0;generalize aj (h.st t) a=ra at *;unfold opV;clear H H1 hm ht ha ea;go_enter Tryz.func128,Tryz.ntmps128
 go_wp2_with fail
 go_quiet ((first|(go_at_call 89;exact aU (HSk.out _))|(go_at_call 90;exact aC (HAa.out _))))
 go_wp2_with fail
 go_ret2
 exact⟨rfl,HD.out _ _ (HF0.out _) (Fr.refl _ _)⟩
theorem oK(hS:ah D Q)(H:HM W w L X h x s k E D Q)(hm:(mb,127,muV L.hb t sb m)∈E)(ht:t<h.T)(a b c v:Int)(ha:aG (h.st t) a)(hr:aj (h.st t) a=0) :
  Calls Tryz.prog 128 #[.pointer (some ⟨mb,0,none⟩),opV ⟨5,a,b,c,v⟩] w λe w'=>e=.returned (.tuple #[.int .i64 0,.int .i64 12])/\HM W w' L X h x s k E D Q:=by
 have H1:HM W (w.alloc (.cells #[.int .i64 5,.int .i64 a,.int .i64 b,.int .i64 c,.int .u64 v] 69)) L X h x s k ((w.heap.size,69,#[.int .i64 5,.int .i64 a,.int .i64 b,.int .i64 c,.int .u64 v])::E) D Q:=H.alloc hS 69 #[.int .i64 5,.int .i64 a,.int .i64 b,.int .i64 c,.int .u64 v];have HF0:Hid (∀i,HM W ((w.alloc (.cells #[.int .i64 5,.int .i64 a,.int .i64 b,.int .i64 c,.int .u64 v] 69)).drewN i) L X h x s k ((w.heap.size,69,#[.int .i64 5,.int .i64 a,.int .i64 b,.int .i64 c,.int .u64 v])::E) D Q):=λi=>H1.fr0 hS ((Fr.refl _ _).drewN _);have HSk:Hid (∀i,Calls Tryz.prog 89 #[.pointer (some ⟨mb,0,none⟩)] ((w.alloc (.cells #[.int .i64 5,.int .i64 a,.int .i64 b,.int .i64 c,.int .u64 v] 69)).drewN i) λe w''=>e=.returned (.pointer (some ⟨L.S t,0,none⟩))/\∃j,w''=((w.alloc (.cells #[.int .i64 5,.int .i64 a,.int .i64 b,.int .i64 c,.int .u64 v] 69)).drewN i).drewN j):=λi=>(HF0.out i).stack hS (CZ _ hm) ht;have ea:am (h.st t) a=0:=by unfold am;rw[if_pos ha]
 have HAa:Hid (∀i,Calls Tryz.prog 90 #[.pointer (some ⟨L.S t,0,none⟩),.int .i64 a] ((w.alloc (.cells #[.int .i64 5,.int .i64 a,.int .i64 b,.int .i64 c,.int .u64 v] 69)).drewN i) λe w''=>e=.returned (.tuple #[.int .u64 (0),.int .i64 0])/\(w.alloc (.cells #[.int .i64 5,.int .i64 a,.int .i64 b,.int .i64 c,.int .u64 v] 69)).drewN i=w''):=λi=>by
  have:=(HF0.out i).dL ht a;rwa[ea,hr]at this
 have eo:h.aD 0=12:=by unfold HS.aD;rw[if_pos rfl]
 have ev:h.bj 0=Hd.zero:=by unfold HS.bj;rw[if_neg (by rw[eo];decide)]
 have HOb:Hid (∀i,Calls Tryz.prog 60 #[.pointer (some ⟨L.hb,0,none⟩),.int .u64 0] ((w.alloc (.cells #[.int .i64 5,.int .i64 a,.int .i64 b,.int .i64 c,.int .u64 v] 69)).drewN i) λe w''=>e=.returned (.tuple #[.agg #[.int .i64 0,.int .i64 0,.int .i64 0,.int .i64 0,.int .i64 0],.int .i64 12])/\HM W w'' L X h x s k ((w.heap.size,69,#[.int .i64 5,.int .i64 a,.int .i64 b,.int .i64 c,.int .u64 v])::E) D Q):=λi=>by
  have:=(HF0.out i).object hS (r:=0) (by decide) (by decide);rwa[eo,ev]at this
 have HD:Hid (∀w' w'',HM W w' L X h x s k ((w.heap.size,69,#[.int .i64 5,.int .i64 a,.int .i64 b,.int .i64 c,.int .u64 v])::E) D Q->Fr [] w' w''->HM W w'' L X h x s k E D Q):=λw' w'' q hf=>(q.sub (λy hy=>CZ _ hy)).fr0 hS hf;have NM:=(H.blk hm).lt;have cm:w.cell? ⟨mb,0,none⟩=some (.pointer (some ⟨L.hb,0,none⟩)):=(H.blk hm).cell 0;unfold opV;clear H H1 hm ht ha ea hr eo ev;go_enter Tryz.func128,Tryz.ntmps128
 go_wp2_with fail
 go_quiet ((first|(go_at_call 89;exact aU (HSk.out _))|(go_at_call 90;exact aC (HAa.out _))))
 go_wp2_with fail
 refine(HOb.out _).mono ?_;rintro e w2 ⟨rfl,hA⟩;have HA2:=aa hA;have hob:=hA.blk (C0 ..);have d0:=hob.cell 0;have d2:=hob.cell 2;have NO:=hob.lt;clear hA hob HOb HSk HAa cm;go_wp2_with fail
 go_ret2
 exact⟨rfl,HD.out _ _ HA2.out ((Fr.refl _ _).alloc _)⟩
theorem oL(hS:ah D Q)(H:HM W w L X h x s k E D Q)(hm:(mb,127,muV L.hb t sb m)∈E)(ht:t<h.T)(a b c v:Int)(ha:aG (h.st t) a){I S P:Nat}{ag:Int}(hr:aj (h.st t) a=(I:Int)+1)(he:h.aD ((I:Int)+1)=0)(hv:h.bj ((I:Int)+1)=⟨1,(S:Int),(P:Int),ag,0⟩)(hz:P<S/\S<=1048576/\I<=4194304)(hb:b<0) :
  Calls Tryz.prog 128 #[.pointer (some ⟨mb,0,none⟩),opV ⟨5,a,b,c,v⟩] w λe w'=>e=.returned (.tuple #[.int .i64 0,.int .i64 11])/\HM W w' L X h x s k E D Q:=by
 have H1:HM W (w.alloc (.cells #[.int .i64 5,.int .i64 a,.int .i64 b,.int .i64 c,.int .u64 v] 69)) L X h x s k ((w.heap.size,69,#[.int .i64 5,.int .i64 a,.int .i64 b,.int .i64 c,.int .u64 v])::E) D Q:=H.alloc hS 69 #[.int .i64 5,.int .i64 a,.int .i64 b,.int .i64 c,.int .u64 v];have HF0:Hid (∀i,HM W ((w.alloc (.cells #[.int .i64 5,.int .i64 a,.int .i64 b,.int .i64 c,.int .u64 v] 69)).drewN i) L X h x s k ((w.heap.size,69,#[.int .i64 5,.int .i64 a,.int .i64 b,.int .i64 c,.int .u64 v])::E) D Q):=λi=>H1.fr0 hS ((Fr.refl _ _).drewN _);have HSk:Hid (∀i,Calls Tryz.prog 89 #[.pointer (some ⟨mb,0,none⟩)] ((w.alloc (.cells #[.int .i64 5,.int .i64 a,.int .i64 b,.int .i64 c,.int .u64 v] 69)).drewN i) λe w''=>e=.returned (.pointer (some ⟨L.S t,0,none⟩))/\∃j,w''=((w.alloc (.cells #[.int .i64 5,.int .i64 a,.int .i64 b,.int .i64 c,.int .u64 v] 69)).drewN i).drewN j):=λi=>(HF0.out i).stack hS (CZ _ hm) ht;have ea:am (h.st t) a=0:=by unfold am;rw[if_pos ha]
 have HAa:Hid (∀i,Calls Tryz.prog 90 #[.pointer (some ⟨L.S t,0,none⟩),.int .i64 a] ((w.alloc (.cells #[.int .i64 5,.int .i64 a,.int .i64 b,.int .i64 c,.int .u64 v] 69)).drewN i) λe w''=>e=.returned (.tuple #[.int .u64 (((I:Int)+1)),.int .i64 0])/\(w.alloc (.cells #[.int .i64 5,.int .i64 a,.int .i64 b,.int .i64 c,.int .u64 v] 69)).drewN i=w''):=λi=>by
  have:=(HF0.out i).dL ht a;rwa[ea,hr]at this
 have HOb:Hid (∀i,Calls Tryz.prog 60 #[.pointer (some ⟨L.hb,0,none⟩),.int .u64 ((I:Int)+1)] ((w.alloc (.cells #[.int .i64 5,.int .i64 a,.int .i64 b,.int .i64 c,.int .u64 v] 69)).drewN i) λe w''=>e=.returned (.tuple #[.agg #[.int .i64 1,.int .i64 (S:Int),.int .i64 (P:Int),.int .i64 ag,.int .i64 0],.int .i64 0])/\HM W w'' L X h x s k ((w.heap.size,69,#[.int .i64 5,.int .i64 a,.int .i64 b,.int .i64 c,.int .u64 v])::E) D Q):=λi=>by
  have:=(HF0.out i).object hS (r:=(I:Int)+1) (by omega) (by omega);rwa[he,hv]at this
 have HAd:=aa (λw'=>bp I (by omega) w');have HD:Hid (∀w' w'',HM W w' L X h x s k ((w.heap.size,69,#[.int .i64 5,.int .i64 a,.int .i64 b,.int .i64 c,.int .u64 v])::E) D Q->Fr [] w' w''->HM W w'' L X h x s k E D Q):=λw' w'' q hf=>(q.sub (λy hy=>CZ _ hy)).fr0 hS hf;have NM:=(H.blk hm).lt;have cm:w.cell? ⟨mb,0,none⟩=some (.pointer (some ⟨L.hb,0,none⟩)):=(H.blk hm).cell 0;unfold opV;clear H H1 hm ht ha ea hr he hv;have b1:decide (b<0)=true:=by simpa using hb
 have i1:IntKind.i64.wrap ((I:Int)+1)=(I:Int)+1:=IntWalk.i64_in _ ⟨by omega,by omega⟩;have i2:IntKind.i64.wrap ((I:Int)+1+(P:Int))=(I:Int)+1+(P:Int):=IntWalk.i64_in _ ⟨by omega,by omega⟩;have i3:IntKind.i64.wrap ((S:Int)-1)=(S:Int)-1:=IntWalk.i64_in _ ⟨by omega,by omega⟩;have i4:IntKind.i64.wrap ((S:Int)-1-(P:Int))=(S:Int)-1-(P:Int):=IntWalk.i64_in _ ⟨by omega,by omega⟩;go_enter Tryz.func128,Tryz.ntmps128
 go_wp2_with fail
 go_quiet ((first|(go_at_call 89;exact aU (HSk.out _))|(go_at_call 90;exact aC (HAa.out _))))
 go_wp2_with fail
 refine(HOb.out _).mono ?_;rintro e w2 ⟨rfl,hA⟩;have HA2:=aa hA;have hob:=hA.blk (C0 ..);have d0:=hob.cell 0;have d2:=hob.cell 2;have NO:=hob.lt;clear hA hob HOb HSk HAa cm;go_wp2_with fail
 go_quiet ((go_at_call 150;exact aC (HAd.out _)))
 go_wp2_with fail
 go_quiet (fail)
 go_wp2_with fail
 go_ret2
 exact⟨rfl,HD.out _ _ HA2.out (((Fr.refl _ _).alloc _).drewN _)⟩
theorem oM(hS:ah D Q)(H:HM W w L X h x s k E D Q)(hm:(mb,127,muV L.hb t sb m)∈E)(ht:t<h.T)(a b c v:Int)(ha:aG (h.st t) a){I S P:Nat}{ag:Int}(hr:aj (h.st t) a=(I:Int)+1)(he:h.aD ((I:Int)+1)=0)(hv:h.bj ((I:Int)+1)=⟨1,(S:Int),(P:Int),ag,0⟩)(hz:P<S/\S<=1048576/\I<=4194304)(hb:¬ b<0)(hb2:((S:Int)-1-(P:Int))<=b)(hb3:b<=9223372036854775807) :
  Calls Tryz.prog 128 #[.pointer (some ⟨mb,0,none⟩),opV ⟨5,a,b,c,v⟩] w λe w'=>e=.returned (.tuple #[.int .i64 0,.int .i64 11])/\HM W w' L X h x s k E D Q:=by
 have H1:HM W (w.alloc (.cells #[.int .i64 5,.int .i64 a,.int .i64 b,.int .i64 c,.int .u64 v] 69)) L X h x s k ((w.heap.size,69,#[.int .i64 5,.int .i64 a,.int .i64 b,.int .i64 c,.int .u64 v])::E) D Q:=H.alloc hS 69 #[.int .i64 5,.int .i64 a,.int .i64 b,.int .i64 c,.int .u64 v];have HF0:Hid (∀i,HM W ((w.alloc (.cells #[.int .i64 5,.int .i64 a,.int .i64 b,.int .i64 c,.int .u64 v] 69)).drewN i) L X h x s k ((w.heap.size,69,#[.int .i64 5,.int .i64 a,.int .i64 b,.int .i64 c,.int .u64 v])::E) D Q):=λi=>H1.fr0 hS ((Fr.refl _ _).drewN _);have HSk:Hid (∀i,Calls Tryz.prog 89 #[.pointer (some ⟨mb,0,none⟩)] ((w.alloc (.cells #[.int .i64 5,.int .i64 a,.int .i64 b,.int .i64 c,.int .u64 v] 69)).drewN i) λe w''=>e=.returned (.pointer (some ⟨L.S t,0,none⟩))/\∃j,w''=((w.alloc (.cells #[.int .i64 5,.int .i64 a,.int .i64 b,.int .i64 c,.int .u64 v] 69)).drewN i).drewN j):=λi=>(HF0.out i).stack hS (CZ _ hm) ht;have ea:am (h.st t) a=0:=by unfold am;rw[if_pos ha]
 have HAa:Hid (∀i,Calls Tryz.prog 90 #[.pointer (some ⟨L.S t,0,none⟩),.int .i64 a] ((w.alloc (.cells #[.int .i64 5,.int .i64 a,.int .i64 b,.int .i64 c,.int .u64 v] 69)).drewN i) λe w''=>e=.returned (.tuple #[.int .u64 (((I:Int)+1)),.int .i64 0])/\(w.alloc (.cells #[.int .i64 5,.int .i64 a,.int .i64 b,.int .i64 c,.int .u64 v] 69)).drewN i=w''):=λi=>by
  have:=(HF0.out i).dL ht a;rwa[ea,hr]at this
 have HOb:Hid (∀i,Calls Tryz.prog 60 #[.pointer (some ⟨L.hb,0,none⟩),.int .u64 ((I:Int)+1)] ((w.alloc (.cells #[.int .i64 5,.int .i64 a,.int .i64 b,.int .i64 c,.int .u64 v] 69)).drewN i) λe w''=>e=.returned (.tuple #[.agg #[.int .i64 1,.int .i64 (S:Int),.int .i64 (P:Int),.int .i64 ag,.int .i64 0],.int .i64 0])/\HM W w'' L X h x s k ((w.heap.size,69,#[.int .i64 5,.int .i64 a,.int .i64 b,.int .i64 c,.int .u64 v])::E) D Q):=λi=>by
  have:=(HF0.out i).object hS (r:=(I:Int)+1) (by omega) (by omega);rwa[he,hv]at this
 have HAd:=aa (λw'=>bp I (by omega) w');have HD:Hid (∀w' w'',HM W w' L X h x s k ((w.heap.size,69,#[.int .i64 5,.int .i64 a,.int .i64 b,.int .i64 c,.int .u64 v])::E) D Q->Fr [] w' w''->HM W w'' L X h x s k E D Q):=λw' w'' q hf=>(q.sub (λy hy=>CZ _ hy)).fr0 hS hf;have NM:=(H.blk hm).lt;have cm:w.cell? ⟨mb,0,none⟩=some (.pointer (some ⟨L.hb,0,none⟩)):=(H.blk hm).cell 0;unfold opV;clear H H1 hm ht ha ea hr he hv;have b1:decide (b<0)=false:=by simpa using hb
 have b2:decide (b>=((S:Int)-1-(P:Int)))=true:=by simp;omega
 have b3:decide (((S:Int)-1-(P:Int))<=b)=true:=by simp;omega
 have i1:IntKind.i64.wrap ((I:Int)+1)=(I:Int)+1:=IntWalk.i64_in _ ⟨by omega,by omega⟩;have i2:IntKind.i64.wrap ((I:Int)+1+(P:Int))=(I:Int)+1+(P:Int):=IntWalk.i64_in _ ⟨by omega,by omega⟩;have i3:IntKind.i64.wrap ((S:Int)-1)=(S:Int)-1:=IntWalk.i64_in _ ⟨by omega,by omega⟩;have i4:IntKind.i64.wrap ((S:Int)-1-(P:Int))=(S:Int)-1-(P:Int):=IntWalk.i64_in _ ⟨by omega,by omega⟩;go_enter Tryz.func128,Tryz.ntmps128
 go_wp2_with fail
 go_quiet ((first|(go_at_call 89;exact aU (HSk.out _))|(go_at_call 90;exact aC (HAa.out _))))
 go_wp2_with fail
 refine(HOb.out _).mono ?_;rintro e w2 ⟨rfl,hA⟩;have HA2:=aa hA;have hob:=hA.blk (C0 ..);have d0:=hob.cell 0;have d2:=hob.cell 2;have NO:=hob.lt;clear hA hob HOb HSk HAa cm;go_wp2_with fail
 go_quiet ((go_at_call 150;exact aC (HAd.out _)))
 go_wp2_with fail
 go_quiet (fail)
 go_wp2_with fail
 go_ret2
 exact⟨rfl,HD.out _ _ HA2.out (((Fr.refl _ _).alloc _).drewN _)⟩
theorem qB(hS:ah D Q)(H:HM W w L X h x s k E D Q)(hm:(mb,127,muV L.hb t sb m)∈E)(ht:t<h.T)(a b c v:Int)(ha:aG (h.st t) a){I S P:Nat}{ag:Int}(hr:aj (h.st t) a=(I:Int)+1)(he:h.aD ((I:Int)+1)=0)(hv:h.bj ((I:Int)+1)=⟨1,(S:Int),(P:Int),ag,0⟩)(hz:P<S/\S<=1048576/\I<=4194304)(hb:¬ b<0)(hb2:b<((S:Int)-1-(P:Int))) :
  Calls Tryz.prog 128 #[.pointer (some ⟨mb,0,none⟩),opV ⟨5,a,b,c,v⟩] w λe w'=>e=.returned (.tuple #[.int .i64 ((I:Int)+1+(P:Int)+b),.int .i64 0])/\HM W w' L X h x s k E D Q:=by
 have H1:HM W (w.alloc (.cells #[.int .i64 5,.int .i64 a,.int .i64 b,.int .i64 c,.int .u64 v] 69)) L X h x s k ((w.heap.size,69,#[.int .i64 5,.int .i64 a,.int .i64 b,.int .i64 c,.int .u64 v])::E) D Q:=H.alloc hS 69 #[.int .i64 5,.int .i64 a,.int .i64 b,.int .i64 c,.int .u64 v];have HF0:Hid (∀i,HM W ((w.alloc (.cells #[.int .i64 5,.int .i64 a,.int .i64 b,.int .i64 c,.int .u64 v] 69)).drewN i) L X h x s k ((w.heap.size,69,#[.int .i64 5,.int .i64 a,.int .i64 b,.int .i64 c,.int .u64 v])::E) D Q):=λi=>H1.fr0 hS ((Fr.refl _ _).drewN _);have HSk:Hid (∀i,Calls Tryz.prog 89 #[.pointer (some ⟨mb,0,none⟩)] ((w.alloc (.cells #[.int .i64 5,.int .i64 a,.int .i64 b,.int .i64 c,.int .u64 v] 69)).drewN i) λe w''=>e=.returned (.pointer (some ⟨L.S t,0,none⟩))/\∃j,w''=((w.alloc (.cells #[.int .i64 5,.int .i64 a,.int .i64 b,.int .i64 c,.int .u64 v] 69)).drewN i).drewN j):=λi=>(HF0.out i).stack hS (CZ _ hm) ht;have ea:am (h.st t) a=0:=by unfold am;rw[if_pos ha]
 have HAa:Hid (∀i,Calls Tryz.prog 90 #[.pointer (some ⟨L.S t,0,none⟩),.int .i64 a] ((w.alloc (.cells #[.int .i64 5,.int .i64 a,.int .i64 b,.int .i64 c,.int .u64 v] 69)).drewN i) λe w''=>e=.returned (.tuple #[.int .u64 (((I:Int)+1)),.int .i64 0])/\(w.alloc (.cells #[.int .i64 5,.int .i64 a,.int .i64 b,.int .i64 c,.int .u64 v] 69)).drewN i=w''):=λi=>by
  have:=(HF0.out i).dL ht a;rwa[ea,hr]at this
 have HOb:Hid (∀i,Calls Tryz.prog 60 #[.pointer (some ⟨L.hb,0,none⟩),.int .u64 ((I:Int)+1)] ((w.alloc (.cells #[.int .i64 5,.int .i64 a,.int .i64 b,.int .i64 c,.int .u64 v] 69)).drewN i) λe w''=>e=.returned (.tuple #[.agg #[.int .i64 1,.int .i64 (S:Int),.int .i64 (P:Int),.int .i64 ag,.int .i64 0],.int .i64 0])/\HM W w'' L X h x s k ((w.heap.size,69,#[.int .i64 5,.int .i64 a,.int .i64 b,.int .i64 c,.int .u64 v])::E) D Q):=λi=>by
  have:=(HF0.out i).object hS (r:=(I:Int)+1) (by omega) (by omega);rwa[he,hv]at this
 have HAd:=aa (λw'=>bp I (by omega) w');have HD:Hid (∀w' w'',HM W w' L X h x s k ((w.heap.size,69,#[.int .i64 5,.int .i64 a,.int .i64 b,.int .i64 c,.int .u64 v])::E) D Q->Fr [] w' w''->HM W w'' L X h x s k E D Q):=λw' w'' q hf=>(q.sub (λy hy=>CZ _ hy)).fr0 hS hf;have NM:=(H.blk hm).lt;have cm:w.cell? ⟨mb,0,none⟩=some (.pointer (some ⟨L.hb,0,none⟩)):=(H.blk hm).cell 0;unfold opV;clear H H1 hm ht ha ea hr he hv;have b1:decide (b<0)=false:=by simpa using hb
 have b2:decide (b>=((S:Int)-1-(P:Int)))=false:=by simp;omega
 have b3:decide (((S:Int)-1-(P:Int))<=b)=false:=by simp;omega
 have i1:IntKind.i64.wrap ((I:Int)+1)=(I:Int)+1:=IntWalk.i64_in _ ⟨by omega,by omega⟩;have i2:IntKind.i64.wrap ((I:Int)+1+(P:Int))=(I:Int)+1+(P:Int):=IntWalk.i64_in _ ⟨by omega,by omega⟩;have i3:IntKind.i64.wrap ((S:Int)-1)=(S:Int)-1:=IntWalk.i64_in _ ⟨by omega,by omega⟩;have i4:IntKind.i64.wrap ((S:Int)-1-(P:Int))=(S:Int)-1-(P:Int):=IntWalk.i64_in _ ⟨by omega,by omega⟩;have i5:IntKind.i64.wrap ((I:Int)+1+(P:Int)+b)=(I:Int)+1+(P:Int)+b:=IntWalk.i64_in _ ⟨by omega,by omega⟩;go_enter Tryz.func128,Tryz.ntmps128
 go_wp2_with fail
 go_quiet ((first|(go_at_call 89;exact aU (HSk.out _))|(go_at_call 90;exact aC (HAa.out _))))
 go_wp2_with fail
 refine(HOb.out _).mono ?_;rintro e w2 ⟨rfl,hA⟩;have HA2:=aa hA;have hob:=hA.blk (C0 ..);have d0:=hob.cell 0;have d2:=hob.cell 2;have NO:=hob.lt;clear hA hob HOb HSk HAa cm;go_wp2_with fail
 go_quiet ((go_at_call 150;exact aC (HAd.out _)))
 go_wp2_with fail
 go_quiet (fail)
 go_wp2_with fail
 go_ret2
 exact⟨rfl,HD.out _ _ HA2.out (((Fr.refl _ _).alloc _).drewN _)⟩
end
end Go.Proofs.YtimlkjppaalfaaaGreatDoor
