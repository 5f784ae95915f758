/- Several texts joined (pack.py): Up Zk Zl Zm Zn. -/
import Derived.Test.YtimlkjppaalfaaaGreatDoorPW33
import Derived.Deep.OwnRows
import Derived.Deep.CutRange
import Derived.Deep.RegionHeld3
import Derived.WalkKit
import Derived.BigQuiet
import Derived.Test.YtimlkjppaalfaaaGreatDoorPW24
import Derived.Test.YtimlkjppaalfaaaGreatDoorPW32
import Derived.Test.YtimlkjppaalfaaaGreatDoorPW29
set_option linter.unusedVariables false
set_option linter.unusedSimpArgs false
set_option maxHeartbeats 3200000
set_option maxRecDepth 100000
open List renaming mem_cons_of_mem->CZ,mem_cons_self->C0,mem_cons->C1,mem_append->C9
namespace Go.Proofs.YtimlkjppaalfaaaGreatDoor
open Go.RowKit Go.Gl HS
theorem vC(n:Nat)(v:Value)(h:v.cells=#[v]):madeCells #[v] n=aI n λ_=>v:=by
 have:=cU v h n;rw[h]at this;rw[dV,<- this,Array.toArray_toList]
theorem iL{P:Program}{t e:TypeId}{z:Value}{bytes:Nat}(ht:P.underlying t=some (.slice e))(hi:(P.info? e).map (λi=>(i.zero,i.size,i.bytes))=some (some z,1,bytes))(hz:z.cells=#[z]){n:Nat}(hb:bytes<=64)(hn:n<=4194304)(w:World) :
  (Instr.makeSlice t (.int .i64 (n:Int)) (.int .i64 (n:Int))).run P w=.ok (.slice (some ⟨w.heap.size,0,none⟩) n n) (w.alloc (.cells (aI n λ_=>z) e)):=by
 have hbn:bytes*n<=64*4194304:=Nat.mul_le_mul hb hn;rw[run_make_row' (P:=P) t e z bytes ht hi hz .i64 .i64 n (by omega) (by omega) w,vC n z hz]
theorem Tryz.lT:(Tryz.prog.info? 128).map (λi=>(i.zero,i.size,i.bytes))=some (some (.slice none 0 0),1,24):=by kernel_rfl
theorem Tryz.vD:(Tryz.prog.info? 82).map (λi=>(i.zero,i.size,i.bytes))=some (some (.slice none 0 0),1,24):=by kernel_rfl
theorem Tryz.nK:(Tryz.prog.info? 3).map (λi=>(i.zero,i.size,i.bytes))=some (some (.int .i64 0),1,8):=by kernel_rfl
theorem Tryz.ta:(Tryz.prog.info? 62).map (λi=>(i.zero,i.size,i.bytes))=some (some (.pointer none),1,8):=by kernel_rfl
theorem tc(S:Nat->Nat)(k s:Nat):aQ (ai S k s) (k+1)=aQ S k++[.pointer (some ⟨s,0,none⟩)]:=by
 unfold aQ;rw[List.range_succ,List.map_append,List.map_singleton,aq]
 congr 1
 apply List.map_congr_left;intro i hi;rw[az _ _ (by have:=List.mem_range.1 hi;omega)]
section
variable {W w w':World}{L:HL}{X:HX}{h:HS}{x:HT}{s k:Nat}{E:aK}{D D':Nat->Prop}{Q Q':World->Prop}{F:List Nat}
theorem HM.live(hT:Tab W)(H:HM W w L X h x s k E D Q)(hf:Fr F w w')(hF:∀b,b∈F->D b)(hD':∀b,D' b->D b\/w.heap.size<=b)(hq:Q' w'):HM W w' L X h x s k E D' Q':=by
 obtain⟨own,h1,h2,h3,h4⟩:=H;have hlt:=hT.lt;have hsz:=h1.fr.size;have h0:∀b,w.heap.size<=b->own b=0:=λb hb=>by
  obtain⟨tg,FS,H,_⟩:=h1;by_cases e:own b=0
  ·exact e
  ·have:=H.lt b e;omega
 refine⟨own,h1.other hf (λy hy=>h3 y (hF y hy)) (λhx=>by have:=(h3 _ (hF _ hx)).2;omega),λq hq=>?_,λb hb=>?_,hq⟩
 ·obtain⟨k1,k2,k3,k4⟩:=h2 q hq;exact⟨k1.fr hf (λhx=>k4 (hF _ hx)),k2,k3,λhd=>(hD' _ hd).elim k4 (λe=>by have:=k1.lt;omega)⟩
 ·rcases hD' b hb with e|e
  ·exact h3 b e
  ·exact⟨h0 b e,by omega⟩
theorem HM.news(hS:ah D Q)(H:HM W w L X h x s k E D Q)(hf:Fr [] w w')(E2:aK)(h2:∀q,q∈E2->Blk w' q.1 q.2.1 q.2.2/\w.heap.size<=q.1):HM W w' L X h x s k (E2++E) D Q:=by
 obtain⟨own,h1,h3,h4,h5⟩:=H;have hsz:=h1.fr.size;refine⟨own,h1.fr0 hf,λq hq=>?_,h4,hS.stay w w' [] h5 hf (λb hb=>by cases hb)⟩;rcases C9.1 hq with hq|hq
 ·obtain⟨k1,k2⟩:=h2 q hq;refine⟨k1,?_,by omega,λhd=>by have:=hS.lt w h5 _ hd;omega⟩;obtain⟨tg,FS,H,_⟩:=h1;by_cases e:own q.1=0
  ·exact e
  ·have:=H.lt _ e;omega
 ·exact⟨(h3 q hq).1.fr hf (by simp),(h3 q hq).2⟩
theorem ah.row(hS:ah D Q)(e:TypeId)(A:Option Addr)(n c:Nat)(G:List Nat)(xs:List Value):ah (λb=>b∈G\/D b) (λw=>Lr w e A n c G xs/\Q w):=
 ⟨λw w' F h hf hF=>⟨h.1.fr hf (λg hg hx=>hF g hx (.inl hg)),hS.stay w w' F h.2 hf (λb hb hd=>hF b hb (.inr hd))⟩,λw h b hb=>hb.elim (h.1.lt b) (hS.lt w h.2 b)⟩
def wdV(hb sb:Nat)(mA:Option Addr)(mn mc pb nb T g:Nat)(dl:Value)(wn:Int)(sy:Bool):Array Value:=
 #[.pointer (some ⟨hb,0,none⟩),.pointer (some ⟨sb,0,none⟩),.slice mA mn mc,.slice (some ⟨pb,0,none⟩) T T,.slice (some ⟨nb,0,none⟩) T T,.pointer (some ⟨g,0,none⟩),dl,.int .i64 wn,.bool sy]
structure WL where
 wb:Nat
 sb:Nat
 ob:Nat
 pb:Nat
 nb:Nat
 mA:Option Addr
 mc:Nat
 mG:List Nat
 P:Nat->Nat
def ovE(Λ:WL)(hb g T k:Nat):aK:=
 (Λ.wb,37,wdV hb Λ.sb Λ.mA k Λ.mc Λ.pb Λ.nb T g (.slice none 0 0) 0 false)::(Λ.sb,61,#[.bool false,.slice (some ⟨Λ.ob,0,none⟩) T T])::(Λ.ob,128,aI T λ_=>.slice none 0 0) ::
  (Λ.pb,82,aI T λ_=>.slice none 0 0)::(Λ.nb,3,aI T λ_=>.int .i64 0)::(List.range k).map λi=>(Λ.P i,127,muV hb i Λ.sb (MU.zero 0))
def BH(W w:World)(L:HL)(X:HX)(h:HS)(x:HT)(s k:Nat)(E:aK)(D:Nat->Prop)(Q:World->Prop)(g n:Nat)(Λ:WL):Prop:=
 HM W w L X h x s k (ovE Λ L.hb g h.T n++E) (λb=>b∈Λ.mG\/D b) (λw=>Lr w 62 Λ.mA n Λ.mc Λ.mG (aQ Λ.P n)/\Q w)/\(∀b,b∈Λ.mG->¬ D b) /\
  ∀q,q∈E->q.1≠Λ.wb
theorem BH.zero{g wb sb ob pb nb:Nat}(hS:ah D Q)(hT:Tab W)(H:HM W w L X h x s k E D Q)(hf:Fr [] w w')(h1:Blk w' wb 37 (wdV L.hb sb none 0 0 pb nb h.T g (.slice none 0 0) 0 false))(h2:Blk w' sb 61 #[.bool false,.slice (some ⟨ob,0,none⟩) h.T h.T])
  (h3:Blk w' ob 128 (aI h.T λ_=>.slice none 0 0)) (h4:Blk w' pb 82 (aI h.T λ_=>.slice none 0 0)) (h5:Blk w' nb 3 (aI h.T λ_=>.int .i64 0)) (hb:w.heap.size<=wb/\w.heap.size<=sb/\w.heap.size<=ob/\w.heap.size<=pb/\w.heap.size<=nb) :
  BH W w' L X h x s k E D Q g 0 ⟨wb,sb,ob,pb,nb,none,0,[],λ_=>0⟩:=by
 have hl:∀q,q∈E->q.1<w.heap.size:=λq hq=>(H.blk (b:=q.1) (t:=q.2.1) (cs:=q.2.2) hq).lt;have H1:=H.news hS hf (ovE ⟨wb,sb,ob,pb,nb,none,0,[],λ_=>0⟩ L.hb g h.T 0) (λq hq=>by
  simp only[ovE,List.range_zero,List.map_nil,C1,List.not_mem_nil,or_false]at hq;rcases hq with e|e|e|e|e
  ·rw[e];exact⟨h1,hb.1⟩
  ·rw[e];exact⟨h2,hb.2.1⟩
  ·rw[e];exact⟨h3,hb.2.2.1⟩
  ·rw[e];exact⟨h4,hb.2.2.2.1⟩
  ·rw[e];exact⟨h5,hb.2.2.2.2⟩)
 refine⟨H1.live (F:=[]) hT (Fr.refl _ _) (λb hb=>by cases hb) (λb hb=>?_) ⟨Lr.nil _ _,H1.q⟩,(λb hb=>by cases hb),λq hq e=>?_⟩
 ·rcases hb with hb|hb
  ·cases hb
  ·exact .inl hb
 ·have:=hl q hq;have:q.1=wb:=e;omega
theorem oY{o1 o2 o3 o4:Obj}{t:TypeId}{cs:Array Value}:Blk (((((w.alloc (.cells cs t)).alloc o1).alloc o2).alloc o3).alloc o4).drew w.heap.size t cs:=(((((Blk.new w t cs).alloc o1).alloc o2).alloc o3).alloc o4).drew
theorem oZ{o1 o2 o3 o4:Obj}{t:TypeId}{cs:Array Value}:Blk (((((w.alloc o1).alloc (.cells cs t)).alloc o2).alloc o3).alloc o4).drew (w.heap.size+1) t cs:=((((Blk.aX (w:=w.alloc o1) t cs (by simp)).alloc o2).alloc o3).alloc o4).drew
theorem o9{o1 o2 o3 o4:Obj}{t:TypeId}{cs:Array Value}:Blk (((((w.alloc o1).alloc o2).alloc (.cells cs t)).alloc o3).alloc o4).drew (w.heap.size+1+1) t cs:=(((Blk.aX (w:=(w.alloc o1).alloc o2) t cs (by simp)).alloc o3).alloc o4).drew
theorem pa{o1 o2 o3 o4:Obj}{t:TypeId}{cs:Array Value}:Blk (((((w.alloc o1).alloc o2).alloc o3).alloc (.cells cs t)).alloc o4).drew (w.heap.size+1+1+1) t cs:=((Blk.aX (w:=((w.alloc o1).alloc o2).alloc o3) t cs (by simp)).alloc o4).drew
theorem BI{o1 o2 o3 o4:Obj}{t:TypeId}{cs:Array Value}:Blk (((((w.alloc o1).alloc o2).alloc o3).alloc o4).alloc (.cells cs t)).drew (w.heap.size+1+1+1+1) t cs:=(Blk.aX (w:=(((w.alloc o1).alloc o2).alloc o3).alloc o4) t cs (by simp)).drew
end
section
variable {W w w':World}{L:HL}{X:HX}{h h2:HS}{x x2:HT}{s k:Nat}{E:aK}{D D0:Nat->Prop}{Q Q0:World->Prop}{mb t sb ob:Nat}{m:MU}
theorem vE(hS:ah D Q)(hT:Tab W)(H:HM W w L X h x s k ((mb,127,muV L.hb t sb m)::E) D Q)(hne:∀q,q∈E->q.1≠mb){I:Nat}(had:m.ad=(I:Int))(hI:I<h.n)(hz:h.f I=0) :
  Calls Tryz.prog 85 #[.pointer (some ⟨mb,0,none⟩)] w λe w'=>e=.returned (bm 0 0 An.zero false true false (.slice none 0 0))/\HM W w' L X h x s k ((mb,127,muV L.hb t sb { m with st:=4,ad:=(I:Int) })::E) D Q:=by
 have hmb:=H.blk (C0 ..);have hlt:=hmb.lt;have hltE:∀q,q∈E->q.1<w.heap.size:=λq hq=>(H.blk (b:=q.1) (t:=q.2.1) (cs:=q.2.2) (CZ _ hq)).lt;have hrm:w.heap.size≠mb:=by omega
 have hrE:∀q,q∈E->q.1≠w.heap.size:=λq hq=>by have:=hltE q hq;omega
 have hneR:∀cs:Array Value,∀q,q∈((w.heap.size,73,cs)::E:aK)->q.1≠mb:=λcs q hq=>by
  rcases C1.1 hq with rfl|hq
  ·exact hrm
  ·exact hne q hq
 have HX:Hid (HM W (w.alloc (.cells #[.int .i64 0,.int .i64 0,.int .i64 0,.int .u64 0,.bool false,.bool false,.bool false,.bool false,.slice none 0 0] 73)) L X h x s k ((w.heap.size,73,#[.int .i64 0,.int .i64 0,.int .i64 0,.int .u64 0,.bool false,.bool false,.bool false,.bool false,.slice none 0 0])::(mb,127,muV L.hb t sb m)::E) D Q):=H.alloc hS 73 #[.int .i64 0,.int .i64 0,.int .i64 0,.int .u64 0,.bool false,.bool false,.bool false,.bool false,.slice none 0 0];have HEnd:Hid (∀w' a0 a1 a2 a3 a4 a5 a6 a7 a8 v0 v1 v2 v3 v4 v5 v6 v7 v8,HM W w' L X h x s k ((mb,127,muV L.hb t sb { m with st:=4,ad:=(I:Int) })::(w.heap.size,73,#[a0,a1,a2,a3,a4,a5,a6,a7,a8])::E) D Q->HM W (cD w' w.heap.size v0 v1 v2 v3 v4 v5 v6 v7 v8) L X h x s k ((mb,127,muV L.hb t sb { m with st:=4,ad:=(I:Int) })::E) D Q):=λw' a0 a1 a2 a3 a4 a5 a6 a7 a8 v0 v1 v2 v3 v4 v5 v6 v7 v8 q=>
  q.swap.cS hS hT (λy hy=>by
   rcases C1.1 hy with rfl|hy
   ·exact λe=>hrm e.symm
   ·exact hrE y hy) v0 v1 v2 v3 v4 v5 v6 v7 v8
 have HLd:=aa (HX.out.t7 hS hI);have HGo:Hid (∀w',HM W w' L X h x s k ((w.heap.size,73,#[.int .i64 0,.int .i64 0,.int .i64 0,.int .u64 0,.bool false,.bool false,.bool false,.bool false,.slice none 0 0])::(mb,127,muV L.hb t sb m)::E) D Q->Calls Tryz.prog 127 #[.pointer (some ⟨mb,0,none⟩),.int .i64 4,.int .i64 (I:Int)] w' λe w''=>e=.returned (.agg #[.int .i64 0,.int .i64 0,.int .i64 0,.int .u64 0,.bool false,.bool false,.bool true,.bool false,.slice none 0 0])/\HM W w'' L X h x s k ((mb,127,muV L.hb t sb { m with st:=4,ad:=(I:Int) })::(w.heap.size,73,#[.int .i64 0,.int .i64 0,.int .i64 0,.int .u64 0,.bool false,.bool false,.bool false,.bool false,.slice none 0 0])::E) D Q):=λw' q=>HM.BC hS hT q.swap (hneR _) 4 (I:Int);obtain⟨c0,c1,c2,c3,c4,c5,c6,c7,c8,c9,c10⟩:=aJ hmb;rw[had]at c10;have d20:=H.hc.c20;have NHb:L.hb<w.heap.size:=af d20;rw[hz]at HLd;have hb0:(((0:Nat):Int) !=0)=false:=rfl;unfold bm An.zero;clear H hmb hltE HX hne hneR hrm hrE had hI hz;generalize ((0:Nat):Int)=fv at *;go_enter Tryz.func85,Tryz.ntmps85
 go_wp2_with fail
 refine HLd.out.mono ?_;rintro e w1 ⟨rfl,hA⟩;have HA1:=aa hA;clear hA HLd c0 c1 c2 c3 c4 c5 c6 c7 c8 c9 c10 d20;go_wp2_with fail
 go_quiet (fail)
 go_wp2_with fail
 refine(HGo.out _ (HA1.out.fr0 hS ((Fr.refl _ _).drewN _))).mono ?_;rintro e w5 ⟨rfl,hA⟩;have HA5:=aa hA;have hrb:=hA.blk (CZ _ (C0 ..));have y0:=hrb.cell 0;have y1:=hrb.cell 1;have y2:=hrb.cell 2;have y3:=hrb.cell 3;have y4:=hrb.cell 4;have y5:=hrb.cell 5;have y6:=hrb.cell 6;have y7:=hrb.cell 7;have y8:=hrb.cell 8;have z0:=hrb.frozen 0;have z1:=hrb.frozen 1;have z2:=hrb.frozen 2;have z3:=hrb.frozen 3;have z4:=hrb.frozen 4;have z5:=hrb.frozen 5;have z6:=hrb.frozen 6;have z7:=hrb.frozen 7;have z8:=hrb.frozen 8;have NR:=hrb.lt;clear hA hrb;go_wp2_with fail
 refine bodyPost_ret (v:=.agg #[.int .i64 0,.int .i64 0,.int .i64 0,.int .u64 0,.bool false,.bool false,.bool true,.bool false,.slice none 0 0]) (by simp[results,Tryz.results85,go_sem, *]) rfl ⟨rfl,?_⟩;exact HEnd.out _ _ _ _ _ _ _ _ _ _ _ _ _ _ _ _ _ _ _ HA5.out
def td(W:World)(L:HL)(X:HX)(h:HS)(x:HT)(s k:Nat)(E:aK)(D0:Nat->Prop)(Q0:World->Prop)(mb t sb ob n:Nat)(xs:List Value)(OV:Nat->Value)(m:MU)(I:Nat)(e:Ending)(w':World):Prop:=
 ∃A' c' G',e=.returned (bm 0 0 An.zero false true false (.slice none 0 0)) /\
  HM W w' L X h x s k ((mb,127,muV L.hb t sb { m with st:=4,ad:=(I:Int) })::(ob,128,aI h.T (bC OV t (.slice A' (n+1) c')))::E) (λb=>b∈G'\/D0 b) (λw=>Lr w 154 A' (n+1) c' G' (xs++[.int .u64 (h.f I:Int)])/\Q0 w)/\∀g,g∈G'->¬ D0 g
theorem vF(hS:ah D0 Q0)(hT:Tab W){A:Option Addr}{n c:Nat}{G:List Nat}{xs:List Value}{OV:Nat->Value}{bv:Value}(H:HM W w L X h x s k ((mb,127,muV L.hb t sb m)::(ob,128,aI h.T OV)::E) (λb=>b∈G\/D0 b) (λw=>Lr w 154 A n c G xs/\Q0 w))
  (hne0:∀q,q∈E->q.1≠mb) (hob:∀q,q∈E->q.1≠ob) (hms:(sb,61,#[bv,.slice (some ⟨ob,0,none⟩) h.T h.T])∈E) (ht:t<h.T) (hO:OV t=.slice A n c) (hGD:∀g,g∈G->¬ D0 g) (hn:n<=1048576) {I:Nat} (had:m.ad=(I:Int)) (hI:I<h.n) (hz:h.f I≠0) :
  Calls Tryz.prog 85 #[.pointer (some ⟨mb,0,none⟩)] w (td W L X h x s k E D0 Q0 mb t sb ob n xs OV m I):=by
 obtain⟨i0,hi,hz0,hz1,hz2⟩:=info_parts Tryz.gp;have hS1:=hS.row 154 A n c G xs;have hmb:=H.blk (C0 ..);have hlt:=hmb.lt;have hbo:=H.blk (b:=ob) (CZ _ (C0 ..));have hom:ob≠mb:=hbo.apart hmb (by decide);have hne:∀q,q∈((ob,128,aI h.T OV)::E:aK)->q.1≠mb:=aL hom hne0;have hltE:∀q,q∈((ob,128,aI h.T OV)::E:aK)->q.1<w.heap.size:=λq hq=>(H.blk (b:=q.1) (t:=q.2.1) (cs:=q.2.2) (CZ _ hq)).lt;have hlo:ob<w.heap.size:=hbo.lt;have hrm:w.heap.size≠mb:=by omega
 have hro:w.heap.size≠ob:=by omega
 have hrE:∀q,q∈E->q.1≠w.heap.size:=λq hq=>by have:=hltE q (CZ _ hq);omega
 have HX:Hid (HM W (w.alloc (.cells #[.int .i64 0,.int .i64 0,.int .i64 0,.int .u64 0,.bool false,.bool false,.bool false,.bool false,.slice none 0 0] 73)) L X h x s k ((w.heap.size,73,#[.int .i64 0,.int .i64 0,.int .i64 0,.int .u64 0,.bool false,.bool false,.bool false,.bool false,.slice none 0 0])::(mb,127,muV L.hb t sb m)::(ob,128,aI h.T OV)::E) (λb=>b∈G\/D0 b) (λw=>Lr w 154 A n c G xs/\Q0 w)):=H.alloc hS1 73 #[.int .i64 0,.int .i64 0,.int .i64 0,.int .u64 0,.bool false,.bool false,.bool false,.bool false,.slice none 0 0];obtain⟨fv,hfv⟩:∃fv,fv=h.f I:=⟨_,rfl⟩;have hb1:((fv:Int) !=0)=true:=by rw[hfv];simp;omega
 have hT64:=H.ok.tm;have hlt1:(t:Int)<(h.T:Int):=by omega
 have HLd:=aa (HX.out.t7 hS1 hI);rw[<- hfv]at HLd;have HC:Hid (∀w',HM W w' L X h x s k ((w.heap.size,73,#[.int .i64 0,.int .i64 0,.int .i64 0,.int .u64 0,.bool false,.bool false,.bool false,.bool false,.slice none 0 0])::(mb,127,muV L.hb t sb m)::(ob,128,aI h.T OV)::E) (λb=>b∈G\/D0 b) (λw=>Lr w 154 A n c G xs/\Q0 w)->w'.cell? ⟨mb,1,none⟩=some (.int .i64 (t:Int))/\w'.cell? ⟨mb,2,none⟩=some (.pointer (some ⟨sb,0,none⟩))/\w'.cell? ⟨sb,1,none⟩=some (.slice (some ⟨ob,0,none⟩) h.T h.T)/\w'.cell? ⟨ob,t,none⟩=some (.slice A n c)):=λw' q=>by
  obtain⟨c0,c1,c2,c3,c4,c5,c6,c7,c8,c9,c10⟩:=aJ (q.blk (CZ _ (C0 ..)));have hs:=q.blk (b:=sb) (CZ _ (CZ _ (CZ _ hms)));have ho:=q.blk (b:=ob) (CZ _ (CZ _ (C0 ..)));exact⟨c1,c2,hs.cell 1,by rw[ho.cell t,de ht,hO]⟩
 have HFZ:Hid (∀w1 wq w',HM W w1 L X h x s k ((w.heap.size,73,#[.int .i64 0,.int .i64 0,.int .i64 0,.int .u64 0,.bool false,.bool false,.bool false,.bool false,.slice none 0 0])::(mb,127,muV L.hb t sb m)::(ob,128,aI h.T OV)::E) (λb=>b∈G\/D0 b) (λw=>Lr w 154 A n c G xs/\Q0 w)->Fr [] w1 wq->Fr G wq w'->w'.cell? ⟨ob,t,none⟩=some (.slice A n c)/\w'.frozen? ⟨ob,t,none⟩=false):=λw1 wq w' q hf hg=>by
  have ho:=q.blk (b:=ob) (CZ _ (CZ _ (C0 ..)));have hnm:ob∉G:=λhx=>q.q.1.apart ho (by decide) hx;have hb1:=(ho.fr hf (by simp)).fr hg hnm;exact⟨by rw[hb1.cell t,de ht,hO],hb1.frozen t⟩
 have HLR:Hid (∀w1 wq,HM W w1 L X h x s k ((w.heap.size,73,#[.int .i64 0,.int .i64 0,.int .i64 0,.int .u64 0,.bool false,.bool false,.bool false,.bool false,.slice none 0 0])::(mb,127,muV L.hb t sb m)::(ob,128,aI h.T OV)::E) (λb=>b∈G\/D0 b) (λw=>Lr w 154 A n c G xs/\Q0 w)->Fr [] w1 wq->Lr wq 154 A n c G xs):=λw1 wq q hf=>q.q.1.fr0 hf;have HN:Hid (n+1<=maxLen/\(n+1)*8<=140737488355328):=⟨by unfold maxLen;omega,by omega⟩;have HPost:Hid (∀w1 wq w2 A' c' G',HM W w1 L X h x s k ((w.heap.size,73,#[.int .i64 0,.int .i64 0,.int .i64 0,.int .u64 0,.bool false,.bool false,.bool false,.bool false,.slice none 0 0])::(mb,127,muV L.hb t sb m)::(ob,128,aI h.T OV)::E) (λb=>b∈G\/D0 b) (λw=>Lr w 154 A n c G xs/\Q0 w)->Fr [] w1 wq->Lr w2 154 A' (n+1) c' G' (xs++[.int .u64 (fv:Int)])->Fr G wq w2->(∀g,g∈G'->g∈G\/(g=wq.heap.size/\0<1)) ->
   HM W (w2.setCell ⟨ob,t,none⟩ (.slice A' (n+1) c')) L X h x s k ((mb,127,muV L.hb t sb m)::(w.heap.size,73,#[.int .i64 0,.int .i64 0,.int .i64 0,.int .u64 0,.bool false,.bool false,.bool false,.bool false,.slice none 0 0])::(ob,128,aI h.T (bC OV t (.slice A' (n+1) c')))::E) (λb=>b∈G'\/D0 b) (λw=>Lr w 154 A' (n+1) c' G' (xs++[.int .u64 (fv:Int)])/\Q0 w)/\∀g,g∈G'->¬ D0 g):=λw1 wq w2 A' c' G' q hf hL hg hG'=>by
  have q1:=q.fr0 hS1 hf;have hq:=hS.stay _ w2 G q1.q.2 hg hGD;have q2:HM W w2 L X h x s k ((w.heap.size,73,#[.int .i64 0,.int .i64 0,.int .i64 0,.int .u64 0,.bool false,.bool false,.bool false,.bool false,.slice none 0 0])::(mb,127,muV L.hb t sb m)::(ob,128,aI h.T OV)::E) (λb=>b∈G'\/D0 b) (λw=>Lr w 154 A' (n+1) c' G' (xs++[.int .u64 (fv:Int)])/\Q0 w):=
   q1.live hT hg (λb hb=>.inl hb) (λb hb=>by
    rcases hb with hb|hb
    ·rcases hG' b hb with e|e
     ·exact .inl (.inl e)
     ·exact .inr (by omega)
    ·exact .inl (.inr hb)) ⟨hL,hq⟩
  have hS2:=hS.row 154 A' (n+1) c' G' (xs++[.int .u64 (fv:Int)]);have q3:HM W w2 L X h x s k ((ob,128,aI h.T OV)::(mb,127,muV L.hb t sb m)::(w.heap.size,73,#[.int .i64 0,.int .i64 0,.int .i64 0,.int .u64 0,.bool false,.bool false,.bool false,.bool false,.slice none 0 0])::E) (λb=>b∈G'\/D0 b) (λw=>Lr w 154 A' (n+1) c' G' (xs++[.int .u64 (fv:Int)])/\Q0 w):=q2.sub (λy hy=>by simp only[C1]at hy ⊢;rcases hy with e|e|e|e <;> simp[e]);have hbo2:=q3.blk (b:=ob) (C0 ..);have hp:=hbo2.put t (.slice A' (n+1) c');rw[ib]at hp;have q4:=q3.l7 hS2 hT ((Fr.refl [ob] w2).setCell (p:=⟨ob,t,none⟩) (.inl (by simp)) (.slice A' (n+1) c')) hp (aL (λe=>hom e.symm) (aL hro hob));refine⟨q4.sub (λy hy=>by simp only[C1]at hy ⊢;rcases hy with e|e|e|e <;> simp[e]),λg hgm hd=>?_⟩;rcases hG' g hgm with e|e
  ·exact hGD g e hd
  ·have:=hS.lt _ q1.q.2 g hd;omega
 have HGo:Hid (∀w' A' c' G',HM W w' L X h x s k ((mb,127,muV L.hb t sb m)::(w.heap.size,73,#[.int .i64 0,.int .i64 0,.int .i64 0,.int .u64 0,.bool false,.bool false,.bool false,.bool false,.slice none 0 0])::(ob,128,aI h.T (bC OV t (.slice A' (n+1) c')))::E) (λb=>b∈G'\/D0 b) (λw=>Lr w 154 A' (n+1) c' G' (xs++[.int .u64 (fv:Int)])/\Q0 w)->Calls Tryz.prog 127 #[.pointer (some ⟨mb,0,none⟩),.int .i64 4,.int .i64 (I:Int)] w' λe w''=>e=.returned (.agg #[.int .i64 0,.int .i64 0,.int .i64 0,.int .u64 0,.bool false,.bool false,.bool true,.bool false,.slice none 0 0]) /\
   HM W w'' L X h x s k ((mb,127,muV L.hb t sb { m with st:=4,ad:=(I:Int) })::(w.heap.size,73,#[.int .i64 0,.int .i64 0,.int .i64 0,.int .u64 0,.bool false,.bool false,.bool false,.bool false,.slice none 0 0])::(ob,128,aI h.T (bC OV t (.slice A' (n+1) c')))::E) (λb=>b∈G'\/D0 b) (λw=>Lr w 154 A' (n+1) c' G' (xs++[.int .u64 (fv:Int)])/\Q0 w)):=λw' A' c' G' q=>HM.BC (hS.row _ _ _ _ _ _) hT q (aL hrm (aL hom hne0)) 4 (I:Int)
 have HEnd:Hid (∀w' A' c' G' v0 v1 v2 v3 v4 v5 v6 v7 v8,HM W w' L X h x s k ((mb,127,muV L.hb t sb { m with st:=4,ad:=(I:Int) })::(w.heap.size,73,#[.int .i64 0,.int .i64 0,.int .i64 0,.int .u64 0,.bool false,.bool false,.bool false,.bool false,.slice none 0 0])::(ob,128,aI h.T (bC OV t (.slice A' (n+1) c')))::E) (λb=>b∈G'\/D0 b) (λw=>Lr w 154 A' (n+1) c' G' (xs++[.int .u64 (fv:Int)])/\Q0 w)->(∀g,g∈G'->¬ D0 g) ->
   td W L X h x s k E D0 Q0 mb t sb ob n xs OV m I (.returned (.agg #[.int .i64 0,.int .i64 0,.int .i64 0,.int .u64 0,.bool false,.bool false,.bool true,.bool false,.slice none 0 0])) (cD w' w.heap.size v0 v1 v2 v3 v4 v5 v6 v7 v8)):=λw' A' c' G' v0 v1 v2 v3 v4 v5 v6 v7 v8 q hg=>by
  rw[hfv]at q;exact⟨A',c',G',rfl,q.swap.cS (hS.row _ _ _ _ _ _) hT (aL (λe=>hrm e.symm) (aL (λe=>hro e.symm) hrE)) v0 v1 v2 v3 v4 v5 v6 v7 v8,hg⟩
 obtain⟨c0,c1,c2,c3,c4,c5,c6,c7,c8,c9,c10⟩:=aJ hmb;rw[had]at c10;have d20:=H.hc.c20;have NHb:L.hb<w.heap.size:=af d20;clear H hmb hbo hltE HX hne hne0 hob hom hrm hro hrE had hI hz hfv hms hO hGD hS hS1 hn hT64 ht hlo;go_enter Tryz.func85,Tryz.ntmps85
 go_wp2_with fail
 refine HLd.out.mono ?_;rintro e w1 ⟨rfl,hA⟩;have HA1:=aa hA;obtain⟨k1,k2,k3,k4⟩:=HC.out _ hA;clear hA HLd c0 c1 c2 c3 c4 c5 c6 c7 c8 c9 c10 d20;go_wp2_with fail
 go_quiet (fail)
 go_wp2_with fail
 go_quiet (fail)
 go_wp2_with (first|(at_builtin;go_loud (refine aS rfl _ _ 128 rfl 154 i0 (.int .u64 0) 8 Tryz.underlying128 hi hz0 hz1 hz2 rfl rfl (HLR.out _ _ HA1.out (((Fr.refl _ _).drewN _).alloc _)) rfl rfl (λ_=>fq (w1.drewN _) (.int .u64 (fv:Int)) 154 rfl _ (Fr.refl _ _)) (by intro u hu;simp at hu;rw[hu];rfl) HN.out.1 HN.out.2 ?_);intro A' c' G' w2 HLn HFn HGn;have d0:=(HFZ.out _ _ _ HA1.out (((Fr.refl _ _).drewN _).alloc _) HFn.out).1;have dz:=(HFZ.out _ _ _ HA1.out (((Fr.refl _ _).drewN _).alloc _) HFn.out).2))
 have HP:=HPost.out _ _ _ _ _ _ HA1.out (((Fr.refl _ _).drewN _).alloc _) HLn.out HFn.out HGn.out;have HG2:=aa HP.2;refine(HGo.out _ _ _ _ HP.1).mono ?_;rintro e w5 ⟨rfl,hA⟩;have HA5:=aa hA;have hrb:=hA.blk (CZ _ (C0 ..));have y0:=hrb.cell 0;have y1:=hrb.cell 1;have y2:=hrb.cell 2;have y3:=hrb.cell 3;have y4:=hrb.cell 4;have y5:=hrb.cell 5;have y6:=hrb.cell 6;have y7:=hrb.cell 7;have y8:=hrb.cell 8;have z0:=hrb.frozen 0;have z1:=hrb.frozen 1;have z2:=hrb.frozen 2;have z3:=hrb.frozen 3;have z4:=hrb.frozen 4;have z5:=hrb.frozen 5;have z6:=hrb.frozen 6;have z7:=hrb.frozen 7;have z8:=hrb.frozen 8;have NR:=hrb.lt;clear hA hrb HP;go_wp2_with fail
 refine bodyPost_ret (v:=.agg #[.int .i64 0,.int .i64 0,.int .i64 0,.int .u64 0,.bool false,.bool false,.bool true,.bool false,.slice none 0 0]) (by simp[results,Tryz.results85,go_sem, *]) rfl ?_;exact HEnd.out _ _ _ _ _ _ _ _ _ _ _ _ _ HA5.out HG2.out
end
section
variable {W w w':World}{L:HL}{X:HX}{h h2:HS}{x x2:HT}{s k:Nat}{E:aK}{D D0:Nat->Prop}{Q Q0:World->Prop}{mb t sb ob:Nat}{m:MU}
theorem vG(hS:ah D0 Q0)(hT:Tab W){A:Option Addr}{n c:Nat}{G:List Nat}{xs:List Value}{OV:Nat->Value}(H:HM W w L X h x s k ((mb,127,muV L.hb t sb m)::(ob,128,aI h.T OV)::E) (λb=>b∈G\/D0 b) (λw=>Lr w 154 A n c G xs/\Q0 w))
  (hne0:∀q,q∈E->q.1≠mb) (hob:∀q,q∈E->q.1≠ob) (hms:(sb,61,#[.bool true,.slice (some ⟨ob,0,none⟩) h.T h.T])∈E) (ht:t<h.T) (hO:OV t=.slice A n c) (hGD:∀g,g∈G->¬ D0 g) (hn:n<=1048576) (hk:m.k=3) {I:Nat} (had:m.ad=(I:Int)) (hI:I<h.n) (hz:h.f I≠0) :
  Calls Tryz.prog 46 #[.pointer (some ⟨mb,0,none⟩)] w (td W L X h x s k E D0 Q0 mb t sb ob n xs OV m I):=by
 have hS1:=hS.row 154 A n c G xs;have hmb:=H.blk (C0 ..);have hlt:=hmb.lt;have hbo:=H.blk (b:=ob) (CZ _ (C0 ..));have hom:ob≠mb:=hbo.apart hmb (by decide);have hltE:∀q,q∈((ob,128,aI h.T OV)::E:aK)->q.1<w.heap.size:=λq hq=>(H.blk (b:=q.1) (t:=q.2.1) (cs:=q.2.2) (CZ _ hq)).lt;have hlo:ob<w.heap.size:=hbo.lt;have hrm:w.heap.size≠mb:=by omega
 have hro:w.heap.size≠ob:=by omega
 have hrE:∀q,q∈E->q.1≠w.heap.size:=λq hq=>by have:=hltE q (CZ _ hq);omega
 have HX0:Hid (HM W (w.alloc (.cells #[.int .i64 0,.int .i64 0,.int .i64 0,.int .u64 0,.bool false,.bool false,.bool false,.bool false,.slice none 0 0] 73)) L X h x s k ((w.heap.size,73,#[.int .i64 0,.int .i64 0,.int .i64 0,.int .u64 0,.bool false,.bool false,.bool false,.bool false,.slice none 0 0])::(mb,127,muV L.hb t sb m)::(ob,128,aI h.T OV)::E) (λb=>b∈G\/D0 b) (λw=>Lr w 154 A n c G xs/\Q0 w)):=H.alloc hS1 73 #[.int .i64 0,.int .i64 0,.int .i64 0,.int .u64 0,.bool false,.bool false,.bool false,.bool false,.slice none 0 0];have q0:HM W (((w.alloc (.cells #[.int .i64 0,.int .i64 0,.int .i64 0,.int .u64 0,.bool false,.bool false,.bool false,.bool false,.slice none 0 0] 73)).alloc (.cells #[.int .i64 0,.int .i64 0,.int .i64 0,.int .u64 0,.bool false] 71)).alloc (.cells #[.int .i64 3,.int .i64 m.a,.int .i64 m.b,.int .i64 m.c,.int .u64 m.v] 69)).drew L X h x s k ((w.heap.size+1+1,69,#[.int .i64 3,.int .i64 m.a,.int .i64 m.b,.int .i64 m.c,.int .u64 m.v])::(w.heap.size+1,71,#[.int .i64 0,.int .i64 0,.int .i64 0,.int .u64 0,.bool false])::(w.heap.size,73,#[.int .i64 0,.int .i64 0,.int .i64 0,.int .u64 0,.bool false,.bool false,.bool false,.bool false,.slice none 0 0])::(mb,127,muV L.hb t sb m)::(ob,128,aI h.T OV)::E) (λb=>b∈G\/D0 b) (λw=>Lr w 154 A n c G xs/\Q0 w):=by
  have q:=((HX0.out.alloc hS1 71 #[.int .i64 0,.int .i64 0,.int .i64 0,.int .u64 0,.bool false]).alloc hS1 69 #[.int .i64 3,.int .i64 m.a,.int .i64 m.b,.int .i64 m.c,.int .u64 m.v]).fr0 hS1 (Fr.refl _ _).drew;rw[show((w.alloc (.cells #[.int .i64 0,.int .i64 0,.int .i64 0,.int .u64 0,.bool false,.bool false,.bool false,.bool false,.slice none 0 0] 73)).alloc (.cells #[.int .i64 0,.int .i64 0,.int .i64 0,.int .u64 0,.bool false] 71)).heap.size=w.heap.size+1+1 by simp,show(w.alloc (.cells #[.int .i64 0,.int .i64 0,.int .i64 0,.int .u64 0,.bool false,.bool false,.bool false,.bool false,.slice none 0 0] 73)).heap.size=w.heap.size+1 by simp]at q;exact q
 have q1:HM W (((w.alloc (.cells #[.int .i64 0,.int .i64 0,.int .i64 0,.int .u64 0,.bool false,.bool false,.bool false,.bool false,.slice none 0 0] 73)).alloc (.cells #[.int .i64 0,.int .i64 0,.int .i64 0,.int .u64 0,.bool false] 71)).alloc (.cells #[.int .i64 3,.int .i64 m.a,.int .i64 m.b,.int .i64 m.c,.int .u64 m.v] 69)).drew L X h x s k ((mb,127,muV L.hb t sb m)::(ob,128,aI h.T OV)::(w.heap.size+1+1,69,#[.int .i64 3,.int .i64 m.a,.int .i64 m.b,.int .i64 m.c,.int .u64 m.v])::(w.heap.size+1,71,#[.int .i64 0,.int .i64 0,.int .i64 0,.int .u64 0,.bool false])::(w.heap.size,73,#[.int .i64 0,.int .i64 0,.int .i64 0,.int .u64 0,.bool false,.bool false,.bool false,.bool false,.slice none 0 0])::E) (λb=>b∈G\/D0 b) (λw=>Lr w 154 A n c G xs/\Q0 w):=q0.sub (λy hy=>by simp only[C1]at hy ⊢;rcases hy with e|e|e|e|e|e <;> simp[e]);have HC:=aa (vF hS hT q1 (aL (by show w.heap.size+1+1≠mb;omega) (aL (by show w.heap.size+1≠mb;omega) (aL hrm hne0))) (aL (by show w.heap.size+1+1≠ob;omega) (aL (by show w.heap.size+1≠ob;omega) (aL hro hob))) (CZ _ (CZ _ (CZ _ hms))) ht hO hGD hn had hI hz);have HDr:Hid (∀w' A' c' G',HM W w' L X h x s k ((mb,127,muV L.hb t sb { m with st:=4,ad:=(I:Int) })::(ob,128,aI h.T (bC OV t (.slice A' (n+1) c')))::(w.heap.size+1+1,69,#[.int .i64 3,.int .i64 m.a,.int .i64 m.b,.int .i64 m.c,.int .u64 m.v])::(w.heap.size+1,71,#[.int .i64 0,.int .i64 0,.int .i64 0,.int .u64 0,.bool false])::(w.heap.size,73,#[.int .i64 0,.int .i64 0,.int .i64 0,.int .u64 0,.bool false,.bool false,.bool false,.bool false,.slice none 0 0])::E) (λb=>b∈G'\/D0 b) (λw=>Lr w 154 A' (n+1) c' G' (xs++[.int .u64 (h.f I:Int)])/\Q0 w)->HM W w' L X h x s k ((mb,127,muV L.hb t sb { m with st:=4,ad:=(I:Int) })::(w.heap.size,73,#[.int .i64 0,.int .i64 0,.int .i64 0,.int .u64 0,.bool false,.bool false,.bool false,.bool false,.slice none 0 0])::(ob,128,aI h.T (bC OV t (.slice A' (n+1) c')))::E) (λb=>b∈G'\/D0 b) (λw=>Lr w 154 A' (n+1) c' G' (xs++[.int .u64 (h.f I:Int)])/\Q0 w)):=λw' A' c' G' q=>q.sub (λy hy=>by simp only[C1]at hy ⊢;rcases hy with e|e|e|e <;> simp[e]);have HEnd:Hid (∀w' A' c' G' v0 v1 v2 v3 v4 v5 v6 v7 v8,HM W w' L X h x s k ((mb,127,muV L.hb t sb { m with st:=4,ad:=(I:Int) })::(w.heap.size,73,#[.int .i64 0,.int .i64 0,.int .i64 0,.int .u64 0,.bool false,.bool false,.bool false,.bool false,.slice none 0 0])::(ob,128,aI h.T (bC OV t (.slice A' (n+1) c')))::E) (λb=>b∈G'\/D0 b) (λw=>Lr w 154 A' (n+1) c' G' (xs++[.int .u64 (h.f I:Int)])/\Q0 w)->(∀g,g∈G'->¬ D0 g) ->
   td W L X h x s k E D0 Q0 mb t sb ob n xs OV m I (.returned (.agg #[.int .i64 0,.int .i64 0,.int .i64 0,.int .u64 0,.bool false,.bool false,.bool true,.bool false,.slice none 0 0])) (cD w' w.heap.size v0 v1 v2 v3 v4 v5 v6 v7 v8)):=λw' A' c' G' v0 v1 v2 v3 v4 v5 v6 v7 v8 q hg=>
  ⟨A',c',G',rfl,q.swap.cS (hS.row _ _ _ _ _ _) hT (aL (λe=>hrm e.symm) (aL (λe=>hro e.symm) hrE)) v0 v1 v2 v3 v4 v5 v6 v7 v8,hg⟩
 have hsb:=H.blk (CZ _ (CZ _ hms));have cs0:=hsb.cell 0;have NS:=hsb.lt;obtain⟨c0,c1,c2,c3,c4,c5,c6,c7,c8,c9,c10⟩:=aJ hmb;rw[hk]at c4;have hl1:mb<w.heap.size+1:=by omega
 have hl2:mb<w.heap.size+1+1:=by omega
 have n0:mb≠w.heap.size:=by omega
 have n1:mb≠w.heap.size+1:=by omega
 have n2:mb≠w.heap.size+1+1:=by omega
 have j1:sb<w.heap.size+1:=by omega
 have j2:sb<w.heap.size+1+1:=by omega
 have i0:sb≠w.heap.size:=by omega
 have i1:sb≠w.heap.size+1:=by omega
 have i2:sb≠w.heap.size+1+1:=by omega
 clear H hmb hbo hltE HX0 hne0 hob hom hrm hro hrE had hI hz hms hO hGD hS hS1 hn ht hlo q1 hk q0 hsb;go_enter Tryz.func46,Tryz.ntmps46
 go_wp2_with fail
 go_region
 go_wp2_with fail
 refine HC.out.mono ?_;rintro e w5 ⟨A',c',G',rfl,hA0,hg0⟩;have HG0:=aa hg0;have hA:=HDr.out _ _ _ _ hA0;clear hA0 hg0 HC c0 c1 c2 c3 c4 c5 c6 c7 c8 c9 c10 cs0;have HA5:=aa hA;have hrb:=hA.blk (CZ _ (C0 ..));have y0:=hrb.cell 0;have y1:=hrb.cell 1;have y2:=hrb.cell 2;have y3:=hrb.cell 3;have y4:=hrb.cell 4;have y5:=hrb.cell 5;have y6:=hrb.cell 6;have y7:=hrb.cell 7;have y8:=hrb.cell 8;have z0:=hrb.frozen 0;have z1:=hrb.frozen 1;have z2:=hrb.frozen 2;have z3:=hrb.frozen 3;have z4:=hrb.frozen 4;have z5:=hrb.frozen 5;have z6:=hrb.frozen 6;have z7:=hrb.frozen 7;have z8:=hrb.frozen 8;have NR:=hrb.lt;clear hA hrb;unfold bm An.zero;go_wp2_with fail
 refine bodyPost_ret (v:=.agg #[.int .i64 0,.int .i64 0,.int .i64 0,.int .u64 0,.bool false,.bool false,.bool true,.bool false,.slice none 0 0]) (by simp[results,Tryz.results46,go_sem, *]) rfl ?_;exact HEnd.out _ _ _ _ _ _ _ _ _ _ _ _ _ HA5.out HG0.out
theorem te(hS:ah D0 Q0)(hT:Tab W){A:Option Addr}{n c:Nat}{G:List Nat}{xs:List Value}{OV:Nat->Value}(H:HM W w L X h x s k ((mb,127,muV L.hb t sb m)::(ob,128,aI h.T OV)::E) (λb=>b∈G\/D0 b) (λw=>Lr w 154 A n c G xs/\Q0 w))
  (hne0:∀q,q∈E->q.1≠mb) (hob:∀q,q∈E->q.1≠ob) (hms:(sb,61,#[.bool true,.slice (some ⟨ob,0,none⟩) h.T h.T])∈E) (ht:t<h.T) (hO:OV t=.slice A n c) (hGD:∀g,g∈G->¬ D0 g) (hn:n<=1048576) (hk:m.k=3) (hst:m.st=3) {I:Nat} (had:m.ad=(I:Int)) (hI:I<h.n) (hz:h.f I≠0) :
  Calls Tryz.prog 19 #[.pointer (some ⟨mb,0,none⟩)] w (td W L X h x s k E D0 Q0 mb t sb ob n xs OV m I):=by
 have hS1:=hS.row 154 A n c G xs;have hmb:=H.blk (C0 ..);have hlt:=hmb.lt;have hbo:=H.blk (b:=ob) (CZ _ (C0 ..));have hom:ob≠mb:=hbo.apart hmb (by decide);have hltE:∀q,q∈((ob,128,aI h.T OV)::E:aK)->q.1<w.heap.size:=λq hq=>(H.blk (b:=q.1) (t:=q.2.1) (cs:=q.2.2) (CZ _ hq)).lt;have hlo:ob<w.heap.size:=hbo.lt;have hrm:w.heap.size≠mb:=by omega
 have hro:w.heap.size≠ob:=by omega
 have hrE:∀q,q∈E->q.1≠w.heap.size:=λq hq=>by have:=hltE q (CZ _ hq);omega
 have HX0:Hid (HM W (w.alloc (.cells #[.int .i64 0,.int .i64 0,.int .i64 0,.int .u64 0,.bool false,.bool false,.bool false,.bool false,.slice none 0 0] 73)) L X h x s k ((w.heap.size,73,#[.int .i64 0,.int .i64 0,.int .i64 0,.int .u64 0,.bool false,.bool false,.bool false,.bool false,.slice none 0 0])::(mb,127,muV L.hb t sb m)::(ob,128,aI h.T OV)::E) (λb=>b∈G\/D0 b) (λw=>Lr w 154 A n c G xs/\Q0 w)):=H.alloc hS1 73 #[.int .i64 0,.int .i64 0,.int .i64 0,.int .u64 0,.bool false,.bool false,.bool false,.bool false,.slice none 0 0];have q1:HM W (w.alloc (.cells #[.int .i64 0,.int .i64 0,.int .i64 0,.int .u64 0,.bool false,.bool false,.bool false,.bool false,.slice none 0 0] 73)) L X h x s k ((mb,127,muV L.hb t sb m)::(ob,128,aI h.T OV)::(w.heap.size,73,#[.int .i64 0,.int .i64 0,.int .i64 0,.int .u64 0,.bool false,.bool false,.bool false,.bool false,.slice none 0 0])::E) (λb=>b∈G\/D0 b) (λw=>Lr w 154 A n c G xs/\Q0 w):=HX0.out.sub (λy hy=>by simp only[C1]at hy ⊢;rcases hy with e|e|e|e <;> simp[e]);have HC:=aa (vG hS hT q1 (aL hrm hne0) (aL hro hob) (CZ _ hms) ht hO hGD hn hk had hI hz);have HDr:Hid (∀w' A' c' G',HM W w' L X h x s k ((mb,127,muV L.hb t sb { m with st:=4,ad:=(I:Int) })::(ob,128,aI h.T (bC OV t (.slice A' (n+1) c')))::(w.heap.size,73,#[.int .i64 0,.int .i64 0,.int .i64 0,.int .u64 0,.bool false,.bool false,.bool false,.bool false,.slice none 0 0])::E) (λb=>b∈G'\/D0 b) (λw=>Lr w 154 A' (n+1) c' G' (xs++[.int .u64 (h.f I:Int)])/\Q0 w)->HM W w' L X h x s k ((mb,127,muV L.hb t sb { m with st:=4,ad:=(I:Int) })::(w.heap.size,73,#[.int .i64 0,.int .i64 0,.int .i64 0,.int .u64 0,.bool false,.bool false,.bool false,.bool false,.slice none 0 0])::(ob,128,aI h.T (bC OV t (.slice A' (n+1) c')))::E) (λb=>b∈G'\/D0 b) (λw=>Lr w 154 A' (n+1) c' G' (xs++[.int .u64 (h.f I:Int)])/\Q0 w)):=λw' A' c' G' q=>q.sub (λy hy=>by simp only[C1]at hy ⊢;rcases hy with e|e|e|e <;> simp[e]);have HEnd:Hid (∀w' A' c' G' v0 v1 v2 v3 v4 v5 v6 v7 v8,HM W w' L X h x s k ((mb,127,muV L.hb t sb { m with st:=4,ad:=(I:Int) })::(w.heap.size,73,#[.int .i64 0,.int .i64 0,.int .i64 0,.int .u64 0,.bool false,.bool false,.bool false,.bool false,.slice none 0 0])::(ob,128,aI h.T (bC OV t (.slice A' (n+1) c')))::E) (λb=>b∈G'\/D0 b) (λw=>Lr w 154 A' (n+1) c' G' (xs++[.int .u64 (h.f I:Int)])/\Q0 w)->(∀g,g∈G'->¬ D0 g) ->
   td W L X h x s k E D0 Q0 mb t sb ob n xs OV m I (.returned (.agg #[.int .i64 0,.int .i64 0,.int .i64 0,.int .u64 0,.bool false,.bool false,.bool true,.bool false,.slice none 0 0])) (cD w' w.heap.size v0 v1 v2 v3 v4 v5 v6 v7 v8)):=λw' A' c' G' v0 v1 v2 v3 v4 v5 v6 v7 v8 q hg=>
  ⟨A',c',G',rfl,q.swap.cS (hS.row _ _ _ _ _ _) hT (aL (λe=>hrm e.symm) (aL (λe=>hro e.symm) hrE)) v0 v1 v2 v3 v4 v5 v6 v7 v8,hg⟩
 obtain⟨c0,c1,c2,c3,c4,c5,c6,c7,c8,c9,c10⟩:=aJ hmb;rw[hst]at c9;clear H hmb hbo hltE HX0 hne0 hob hom hrm hro hrE had hI hz hms hO hGD hS hS1 hn ht hlo q1 hk hst;go_enter Tryz.func19,Tryz.ntmps19
 go_wp2_with fail
 refine HC.out.mono ?_;rintro e w5 ⟨A',c',G',rfl,hA0,hg0⟩;have HG0:=aa hg0;have hA:=HDr.out _ _ _ _ hA0;clear hA0 hg0 HC c0 c1 c2 c3 c4 c5 c6 c7 c8 c9 c10;have HA5:=aa hA;have hrb:=hA.blk (CZ _ (C0 ..));have y0:=hrb.cell 0;have y1:=hrb.cell 1;have y2:=hrb.cell 2;have y3:=hrb.cell 3;have y4:=hrb.cell 4;have y5:=hrb.cell 5;have y6:=hrb.cell 6;have y7:=hrb.cell 7;have y8:=hrb.cell 8;have z0:=hrb.frozen 0;have z1:=hrb.frozen 1;have z2:=hrb.frozen 2;have z3:=hrb.frozen 3;have z4:=hrb.frozen 4;have z5:=hrb.frozen 5;have z6:=hrb.frozen 6;have z7:=hrb.frozen 7;have z8:=hrb.frozen 8;have NR:=hrb.lt;clear hA hrb;unfold bm An.zero;go_wp2_with fail
 refine bodyPost_ret (v:=.agg #[.int .i64 0,.int .i64 0,.int .i64 0,.int .u64 0,.bool false,.bool false,.bool true,.bool false,.slice none 0 0]) (by simp[results,Tryz.results19,go_sem, *]) rfl ?_;exact HEnd.out _ _ _ _ _ _ _ _ _ _ _ _ _ HA5.out HG0.out
end
section
variable {W w w':World}{L:HL}{X:HX}{h:HS}{x:HT}{s k:Nat}{E:aK}{D D0:Nat->Prop}{Q Q0:World->Prop}{mb t sb ob:Nat}{m:MU}{σ:GS}{A:Nat->Nat}{rv:Nat->Option (Nat×Nat)}{M T:Nat}
theorem yn(ok:h.Ok s k){I:Nat}(hI:I<h.n):∃c:Nat,h.g.aV (I:Int)=(c:Int):=by
 have hp:=hZ k;have e:h.g.aV (I:Int)=(I:Int) / h.g.cw:=by
  unfold Geo.aV;rw[if_pos ⟨by omega,by rw[ok.wd];omega⟩]
 rw[e,ok.geo.cw];exact Int.eq_ofNat_of_zero_le (Int.ediv_nonneg (by omega) (by omega))
theorem pd(hS:ah D Q)(hT:Tab W)(H:HM W w L X h x s k ((mb,127,muV L.hb t sb m)::E) D Q)(hne:∀q,q∈E->q.1≠mb)(hst:m.st=3)(hk:m.k=3)(S:Sim h σ A rv)(eT:h.T=T)(hr:rv t=none){q I:Nat}(l:cu σ A t m.op q I)(had:m.ad=(I:Int))(hI:I<h.n)(hz:h.f I=0)
  {sv:Value} (hms:(sb,61,#[.bool true,sv])∈E) :
  Calls Tryz.prog 19 #[.pointer (some ⟨mb,0,none⟩)] w (dJ W L X x s k E D Q mb t sb M T m h σ A rv):=by
 refine(cZ hS hT H hne hst (λw1 rb1 c1 n1 n2 H1=>vy hS hT H1 (aL n1 hne) hk (CZ _ hms) (λw2 E2 n3 _ H2=>vE hS hT H2 n3 had hI hz))).mono ?_;rintro e w' ⟨rfl,hA⟩;exact⟨h,x,σ,A,rv,_,hA,S,.inr (.inr (.inr (.inr (.inr (.inr ⟨rfl,hk,hr,q,I,l,hI,rfl⟩))))),dr.refl _,rfl,rfl,rfl,rfl,rfl,λ_ _=>rfl,λ_ _=>rfl,λ_ _=>rfl,.inl ⟨rfl,rfl,rfl,rfl,.inr (.inr ⟨rfl,hst⟩),by show rkM 4<_;rw[hst];decide,rfl,λ_=>⟨I,had,hz⟩⟩⟩
def AM(W:World)(L:HL)(X:HX)(h:HS)(x:HT)(s k:Nat)(E:aK)(A0:Option Addr)(n0 c0:Nat)(G:List Nat)(xs:List Value)(OV:Nat->Value)(D0:Nat->Prop)(Q0:World->Prop)(mb t sb ob:Nat)(M T:Nat)(mk:Bool)(m:MU)(σ:GS)(A:Nat->Nat)(rv:Nat->Option (Nat×Nat))(e:Ending)(w':World):Prop:=
 (m.st≠6/\(m.st=3->m.k=3->mk=true->∃I:Nat,m.ad=(I:Int)/\h.f I=0)/\dJ W L X x s k ((ob,128,aI h.T OV)::E) (λb=>b∈G\/D0 b) (λw=>Lr w 154 A0 n0 c0 G xs/\Q0 w) mb t sb M T m h σ A rv e w') \/
 (m.st=6/\rv t=none/\∃I c:Nat,m.ad=(I:Int)/\I<h.n/\h.g.aV (I:Int)=(c:Int)/\lS W L X h x s k ((ob,128,aI h.T OV)::E) (λb=>b∈G\/D0 b) (λw=>Lr w 154 A0 n0 c0 G xs/\Q0 w) mb t sb m.dn c e w') \/
 (mk=true/\m.st=3/\m.k=3/\rv t=none/\∃q I:Nat,cu σ A t m.op q I/\m.ad=(I:Int)/\I<h.n/\h.f I≠0/\td W L X h x s k E D0 Q0 mb t sb ob n0 xs OV m I e w')
theorem yo(hS:ah D0 Q0)(hT:Tab W){A0:Option Addr}{n0 c0:Nat}{G:List Nat}{xs:List Value}{OV:Nat->Value}{mk:Bool}
  (H:HM W w L X h x s k ((mb,127,muV L.hb t sb m)::(ob,128,aI h.T OV)::E) (λb=>b∈G\/D0 b) (λw=>Lr w 154 A0 n0 c0 G xs/\Q0 w))
  (hne0:∀q,q∈E->q.1≠mb) (hob:∀q,q∈E->q.1≠ob) (hms:(sb,61,#[.bool mk,.slice (some ⟨ob,0,none⟩) h.T h.T])∈E) (hO:OV t=.slice A0 n0 c0) (hGD:∀g,g∈G->¬ D0 g) (hn0:n0<=1048576)
  (hp:Phase h.n M σ A rv t m) (hst:m.st≠0) (hd:(m.dn:Int)+1<=9223372036854775807) (hv:m.st≠6->0<=m.v/\m.v<18446744073709551616)
  (S:Sim h σ A rv) (gk:GOk T L.B σ) (eT:h.T=T) (ht:t<T) (ho:m.st≠6->dH m.op) (hB:L.B<=64) (hM:h.g.max=(M:Int)) (hM2:M<=1048576) (hQ:QOk h.T x.qm x.qc x.ql) :
  Calls Tryz.prog 19 #[.pointer (some ⟨mb,0,none⟩)] w (AM W L X h x s k E A0 n0 c0 G xs OV D0 Q0 mb t sb ob M T mk m σ A rv):=by
 have hS1:=hS.row 154 A0 n0 c0 G xs;have hmb:=H.blk (C0 ..);have hbo:=H.blk (b:=ob) (CZ _ (C0 ..));have hne:∀q,q∈((ob,128,aI h.T OV)::E:aK)->q.1≠mb:=aL (hbo.apart hmb (by decide)) hne0;have left:(m.st≠6/\(m.st=3->m.k=3->mk=true->∃I:Nat,m.ad=(I:Int)/\h.f I=0))->∀e w',dJ W L X x s k ((ob,128,aI h.T OV)::E) (λb=>b∈G\/D0 b) (λw=>Lr w 154 A0 n0 c0 G xs/\Q0 w) mb t sb M T m h σ A rv e w'->AM W L X h x s k E A0 n0 c0 G xs OV D0 Q0 mb t sb ob M T mk m σ A rv e w':=λh6 e w' p=>.inl ⟨h6.1,h6.2,p⟩;rcases hp with p|⟨p1,p2⟩|⟨p1,pk,p2⟩|⟨p1,p2,q,I,l,hI,had⟩|⟨p1,pk,hsz,I,had,p2⟩|⟨p1,p2,I,hI,had⟩|⟨p1,pk,p2,q,I,l,hI,had⟩
 ·exact absurd p.1 hst
 ·by_cases h1:m.k=1
  ·exact(lR hS1 hT H hne (.inl p1) h1 hd S gk eT ht (ho (by omega)) p2 hB hM hM2).mono (left ⟨by omega,by omega⟩)
  ·by_cases h2:2<=m.k/\m.k<=5
   ·exact(vw hS1 hT H hne p1 (by omega) hd S gk eT ht (ho (by omega)) p2).mono (left ⟨by omega,by omega⟩)
   ·exact(sS hS1 hT H hne p1 (by omega) hd S gk eT ht hB p2).mono (left ⟨by omega,by omega⟩)
 ·exact(lR hS1 hT H hne (.inr p1) pk hd S gk eT ht (ho (by omega)) p2 hB hM hM2).mono (left ⟨by omega,by omega⟩)
 ·by_cases hk3:m.k=3/\mk=true
  ·obtain⟨hk,rfl⟩:=hk3;by_cases hz:h.f I=0
   ·exact(pd hS1 hT H hne p1 hk S eT p2 l had hI hz (CZ _ hms)).mono (left ⟨by omega,λ_ _ _=>⟨I,had,hz⟩⟩)
   ·refine(te hS hT H hne0 hob hms (by omega) hO hGD hn0 hk p1 had hI hz).mono ?_;exact λe w' p=>.inr (.inr ⟨rfl,p1,hk,p2,q,I,l,had,hI,hz,p⟩)
  ·refine(qH hS1 hT H hne p1 hd S gk eT ht hB p2 l had hI (hv (by omega)) (λhk=>?_)).mono (left ⟨by omega,λ_ e1 e2=>absurd ⟨e1,e2⟩ hk3⟩);cases mk with
  |true=>exact absurd ⟨hk,rfl⟩ hk3
  |false=>exact⟨_,CZ _ hms⟩
 ·exact(sV hS1 hT H hne p1 pk hd S gk eT ht hB hsz had p2).mono (left ⟨by omega,by omega⟩)
 ·obtain⟨c,hc⟩:=yn H.ok hI;exact(qK hS1 hT H hne p1 (by omega) hQ had hc).mono (λe w' p=>.inr (.inl ⟨p1,p2,I,c,had,hI,hc,p⟩))
 ·exact(qI hS1 hT H hne p1 pk hd S gk eT ht p2 l had hI).mono (left ⟨by omega,by omega⟩)
end
structure WS where
 dl:Value
 wn:Int
 sy:Bool
 mg:Bool
 OV:Nat->Value
 OP:Nat->Value
 nx:Nat->Nat
 mu:Nat->MU
def WS.new:WS:=⟨.slice none 0 0,0,false,false,λ_=>.slice none 0 0,λ_=>.slice none 0 0,λ_=>0,λ_=>MU.zero 0⟩
def w4E(Λ:WL)(hb g T:Nat)(V:WS):aK:=
 [(Λ.wb,37,wdV hb Λ.sb Λ.mA T Λ.mc Λ.pb Λ.nb T g V.dl V.wn V.sy),(Λ.sb,61,#[.bool V.mg,.slice (some ⟨Λ.ob,0,none⟩) T T]),(Λ.pb,82,aI T V.OP),(Λ.nb,3,aI T λi=>.int .i64 (V.nx i:Int))]
def muE(Λ:WL)(hb:Nat)(V:WS)(i:Nat):Nat×TypeId×Array Value:=(Λ.P i,127,muV hb i Λ.sb (V.mu i))
def wE(Λ:WL)(hb g T:Nat)(V:WS):aK:=(Λ.ob,128,aI T V.OV)::(w4E Λ hb g T V++(List.range T).map (muE Λ hb V))
def wR(Λ:WL)(hb g T t:Nat)(V:WS):aK:=w4E Λ hb g T V++((List.range T).filter (·≠t)).map (muE Λ hb V)
section
variable {W w w':World}{L:HL}{X:HX}{h:HS}{x:HT}{s k:Nat}{E:aK}{D:Nat->Prop}{Q:World->Prop}{Λ:WL}{hb g T t:Nat}{V:WS}
theorem HM.lU(H:HM W w L X h x s k (wE Λ hb g T V++E) D Q)(ht:t<T):HM W w L X h x s k ((Λ.P t,127,muV hb t Λ.sb (V.mu t))::(Λ.ob,128,aI T V.OV)::(wR Λ hb g T t V++E)) D Q:=
 H.sub (λq hq=>by
  simp only[wR,C1,C9,List.mem_map,List.mem_filter]at hq;simp only[wE,C1,C9,List.mem_map];rcases hq with e|e|(e|⟨i,⟨hi,_⟩,e⟩)|e
  ·exact .inl (.inr (.inr ⟨t,List.mem_range.2 ht,e.symm⟩))
  ·exact .inl (.inl e)
  ·exact .inl (.inr (.inl e))
  ·exact .inl (.inr (.inr ⟨i,hi,e⟩))
  ·exact .inr e)
theorem HM.kw{m':MU}{OV':Nat->Value}(H:HM W w L X h x s k ((Λ.P t,127,muV hb t Λ.sb m')::(Λ.ob,128,aI T OV')::(wR Λ hb g T t V++E)) D Q):HM W w L X h x s k (wE Λ hb g T { V with mu:=ai V.mu t m',OV:=OV' }++E) D Q:=
 H.sub (λq hq=>by
  simp only[wE,C1,C9,List.mem_map]at hq;simp only[wR,C1,C9,List.mem_map,List.mem_filter];rcases hq with(e|e|⟨i,hi,e⟩)|e
  ·exact .inr (.inl e)
  ·exact .inr (.inr (.inl (.inl e)))
  ·by_cases hit:i=t
   ·subst hit;refine .inl ?_;rw[<- e];show(Λ.P i,127,muV hb i Λ.sb (ai V.mu i m' i))=_;rw[aq]
   ·refine .inr (.inr (.inl (.inr ⟨i,⟨hi,by simpa using hit⟩,?_⟩)));rw[<- e];show(Λ.P i,127,muV hb i Λ.sb (V.mu i))=(Λ.P i,127,muV hb i Λ.sb (ai V.mu t m' i));rw[az _ _ hit]
  ·exact .inr (.inr (.inr e)))
theorem yp{a b i j:Nat}{m m':MU}(h1:Blk w a 127 (muV hb i Λ.sb m))(h2:Blk w b 127 (muV hb j Λ.sb m'))(hij:i≠j):a≠b:=λe=>by
 subst e;have e1:=h1.cell 1;have e2:=h2.cell 1;rw[e1]at e2;simp[muV]at e2;omega
theorem HM.BJ(H:HM W w L X h x s k ((Λ.P t,127,muV hb t Λ.sb (V.mu t))::(Λ.ob,128,aI T V.OV)::(wR Λ hb g T t V++E)) D Q)(hE:∀q,q∈E->q.2.1≠127/\q.2.1≠128) :
  (∀q,q∈wR Λ hb g T t V++E->q.1≠Λ.P t)/\∀q,q∈wR Λ hb g T t V++E->q.1≠Λ.ob:=by
 have hm:=H.blk (C0 ..);have ho:=H.blk (b:=Λ.ob) (CZ _ (C0 ..));have key:∀q,q∈wR Λ hb g T t V++E->Blk w q.1 q.2.1 q.2.2:=λq hq=>H.blk (b:=q.1) (t:=q.2.1) (cs:=q.2.2) (CZ _ (CZ _ hq));have ty:∀q,q∈wR Λ hb g T t V++E->(q.2.1≠127/\q.2.1≠128)\/∃i,i≠t/\q=muE Λ hb V i:=λq hq=>by
  simp only[wR,w4E,C1,C9,List.mem_map,List.mem_filter,List.not_mem_nil,or_false]at hq;rcases hq with((e|e|e|e)|⟨i,⟨_,hi⟩,e⟩)|e
  ·exact .inl (by rw[e];simp only;decide)
  ·exact .inl (by rw[e];simp only;decide)
  ·exact .inl (by rw[e];simp only;decide)
  ·exact .inl (by rw[e];simp only;decide)
  ·exact .inr ⟨i,by simpa using hi,e.symm⟩
  ·exact .inl (hE q e)
 refine⟨λq hq=>?_,λq hq=>?_⟩
 ·rcases ty q hq with⟨e,_⟩|⟨i,hi,rfl⟩
  ·exact(key q hq).apart hm e
  ·exact yp (Λ:=Λ) (key _ hq) hm hi
 ·rcases ty q hq with⟨_,e⟩|⟨i,hi,rfl⟩
  ·exact(key q hq).apart ho e
  ·exact(key _ hq).apart ho (by show(127:TypeId)≠128;decide)
end
end Go.Proofs.YtimlkjppaalfaaaGreatDoor
