/- Package remset: remember. -/
import Derived.Test.YtimlkjppaalfaaaGreatDoorPW13
import Derived.Deep.CutRange
import Derived.Test.YtimlkjppaalfaaaGreatDoorPW01
import Derived.Deep.RegionHeld3
import Derived.Deep.OwnRows
set_option linter.unusedVariables false
set_option linter.unusedSimpArgs false
set_option maxHeartbeats 3200000
set_option maxRecDepth 100000
namespace Go.Proofs.YtimlkjppaalfaaaGreatDoor
open Go.RowKit Go.Gl
theorem known{w:World}{tg:Tg}{kb per n:Nat}{σ:RS}{fk:Value->Option Value}(hk:Kn w tg kb per n σ fk)(ok:SOk per n σ){h s:Nat}(hh:h<n)(hs:s<n)(h3:σ.way h s≠3) :
  (σ.way h s=2/\∃bs bw ws,fk (eO h s)=some (jD 2 (.slice none 0 0) (.pointer (some ⟨bs,0,none⟩)))/\ch w bs bw per ws/\tg bs=(10,h,s)/\tg bw=(10,h,s)/\∀i,i<per->bH ws i=σ.has h (s*per+i)) \/
  (σ.way h s<=1/\∃A c G,∃l:List Int,(fk (eO h s)).getD (jD 0 (.slice none 0 0) (.pointer none))=jD (σ.way h s:Nat) (.slice A l.length c) (.pointer none)/\Lr w 3 A l.length c G (zv l)/\(∀g,g∈G->tg g=(9,h,s))/\l.Pairwise (·<·)/\(∀x,x∈l↔∃c:Nat,x=(c:Int)/\c / per=s/\σ.has h c=true)/\l.length<=4/\(σ.way h s=0->l=[])):=by
 by_cases hw:σ.way h s=0
 ·refine .inr ⟨by omega,none,0,[],[],?_,Lr.nil _ _,(λ_ hg=>by cases hg),List.Pairwise.nil,λx=>?_,by decide,λ_=>rfl⟩
  ·have:fk (eO h s)=none:=by
    cases hf:fk (eO h s)with
   |none=>rfl
   |some v=>
     obtain⟨a,b,_,_,e1,e2⟩:=hk.key _ _ hf;obtain⟨e3,e4⟩:=ng e1;obtain rfl:h=a:=by omega
     obtain rfl:s=b:=by omega
     exact absurd hw e2
   rw[this,hw];rfl
  ·constructor
   ·intro hx;cases hx
   ·rintro⟨c,_,hc,hb⟩;have:=(ok.can h c hb).2;rw[hc]at this;omega
 ·obtain⟨v,hv,hm⟩:=hk.mem h s hh hs hw;rcases hm with⟨e,A,c,G,l,rfl,e2,e3,e4⟩|⟨e,bs,bw,ws,rfl,e2,e3,e4,e5⟩|⟨e,_⟩
  ·exact .inr ⟨by omega,A,c,G,l,by rw[hv,e];rfl,e2,e3,e4.up,e4.mem,e4.len,λh0=>absurd h0 hw⟩
  ·exact .inl ⟨e,bs,bw,ws,hv,e2,e3,e4,e5⟩
  ·exact absurd e h3
def fy(g:Geo):Prop:=1<=g.regions/\g.regions<=65536/\1<=g.cw/\1<=g.rw/\g.rw<=4194304 / g.regions/\g.rw % g.cw=0/\g.words=g.regions*g.rw/\g.aF=g.words / g.cw
def tU(g:Geo)(w:World)(e:Ending)(w':World):Prop:=∃b,e=.returned (.bool b)/\(b=true↔fy g)/\Fr [] w w'
theorem rW(g:Geo)(w:World):Calls Tryz.prog 80 #[g.val] w (tU g w):=by
 obtain⟨words,rw0,cw,regions,aF,max⟩:=g;unfold tU Geo.val;by_cases h1:regions>=1;case neg=>
  have HM:Hid ((false=true)↔fy ⟨words,rw0,cw,regions,aF,max⟩):=⟨λh=>(by cases h),λh=>(by obtain⟨a1,a2,a3,a4,a5,a6,a7,a8⟩:=h;exact absurd a1 h1)⟩;have hbd:decide (regions>=1)=false:=decide_eq_false h1;go_enter Tryz.func80,Tryz.ntmps80
  go_wp2_with fail
  go_quiet (fail)
  go_wp2
  go_ret
  exact⟨_,rfl,HM.out,((Fr.refl _ _).alloc _).drewN _⟩
 case pos=>
 by_cases h2:regions<=65536;case neg=>
  have HM:Hid ((false=true)↔fy ⟨words,rw0,cw,regions,aF,max⟩):=⟨λh=>(by cases h),λh=>(by obtain⟨a1,a2,a3,a4,a5,a6,a7,a8⟩:=h;exact absurd a2 h2)⟩;have hbd:decide (regions<=65536)=false:=decide_eq_false h2;go_enter Tryz.func80,Tryz.ntmps80
  go_wp2_with fail
  go_quiet (fail)
  go_wp2
  go_ret
  exact⟨_,rfl,HM.out,((Fr.refl _ _).alloc _).drewN _⟩
 case pos=>
 by_cases h3:cw>=1;case neg=>
  have HM:Hid ((false=true)↔fy ⟨words,rw0,cw,regions,aF,max⟩):=⟨λh=>(by cases h),λh=>(by obtain⟨a1,a2,a3,a4,a5,a6,a7,a8⟩:=h;exact absurd a3 h3)⟩;have hbd:decide (cw>=1)=false:=decide_eq_false h3;go_enter Tryz.func80,Tryz.ntmps80
  go_wp2_with fail
  go_quiet (fail)
  go_wp2
  go_ret
  exact⟨_,rfl,HM.out,((Fr.refl _ _).alloc _).drewN _⟩
 case pos=>
 by_cases h4:rw0>=1;case neg=>
  have HM:Hid ((false=true)↔fy ⟨words,rw0,cw,regions,aF,max⟩):=⟨λh=>(by cases h),λh=>(by obtain⟨a1,a2,a3,a4,a5,a6,a7,a8⟩:=h;exact absurd a4 h4)⟩;have hbd:decide (rw0>=1)=false:=decide_eq_false h4;go_enter Tryz.func80,Tryz.ntmps80
  go_wp2_with fail
  go_quiet (fail)
  go_wp2
  go_ret
  exact⟨_,rfl,HM.out,((Fr.refl _ _).alloc _).drewN _⟩
 case pos=>
 have hr0:¬ (regions=0):=by omega
 have htd:(4194304:Int).tdiv regions=4194304 / regions:=Int.tdiv_eq_ediv_of_nonneg (by decide);have hD0:0<=(4194304:Int) / regions:=Int.ediv_nonneg (by decide) (by omega);have hD1:(4194304:Int) / regions<=4194304:=Int.ediv_le_self _ (by decide);have hwD:IntKind.i64.wrap ((4194304:Int) / regions)=4194304 / regions:=by rw[IntKind.wrap_i64];omega
 by_cases h5:rw0<=4194304 / regions;case neg=>
  have HM:Hid ((false=true)↔fy ⟨words,rw0,cw,regions,aF,max⟩):=⟨λh=>(by cases h),λh=>(by obtain⟨a1,a2,a3,a4,a5,a6,a7,a8⟩:=h;exact absurd a5 h5)⟩;have hbd:decide (rw0<=4194304 / regions)=false:=decide_eq_false h5;generalize (4194304:Int) / regions=D at *;go_enter Tryz.func80,Tryz.ntmps80
  go_wp2_with fail
  go_quiet (fail)
  go_wp2
  go_ret
  exact⟨_,rfl,HM.out,((Fr.refl _ _).alloc _).drewN _⟩
 case pos=>
 have hc0:¬ (cw=0):=by omega
 have htm:rw0.tmod cw=rw0 % cw:=Int.tmod_eq_emod_of_nonneg (by omega);have hE0:0<=rw0 % cw:=Int.emod_nonneg _ (by omega);have hE1:rw0 % cw<cw:=Int.emod_lt_of_pos _ (by omega);have hrw:rw0<=4194304:=by omega
 have hM:regions*rw0<=4194304:=Int.le_trans (Int.mul_le_mul_of_nonneg_left h5 (by omega)) (Int.mul_ediv_self_le hr0);have hM0:0<=regions*rw0:=Int.mul_nonneg (by omega) (by omega);obtain⟨M,hMM⟩:∃M,regions*rw0=M:=⟨_,rfl⟩;rw[hMM]at hM hM0;have hwM:IntKind.i64.wrap M=M:=by rw[IntKind.wrap_i64];omega
 have hE2:rw0 % cw<=rw0:=by
  have h0:=Int.mul_ediv_add_emod rw0 cw;have h1:0<=cw*(rw0 / cw):=Int.mul_nonneg (by omega) (Int.ediv_nonneg (by omega) (by omega));omega
 have hwE:IntKind.i64.wrap (rw0 % cw)=rw0 % cw:=by rw[IntKind.wrap_i64];omega
 by_cases h6:rw0 % cw=0;case neg=>
  have HM:Hid ((false=true)↔fy ⟨words,rw0,cw,regions,aF,max⟩):=⟨λh=>(by cases h),λh=>(by obtain⟨a1,a2,a3,a4,a5,a6,a7,a8⟩:=h;exact absurd a6 h6)⟩;have hb:(rw0 % cw==0)=false:=by simpa using h6
  generalize (4194304:Int) / regions=D at *;generalize rw0 % cw=E at *;go_enter Tryz.func80,Tryz.ntmps80
  go_wp2_with fail
  go_quiet (fail)
  go_wp2
  go_ret
  exact⟨_,rfl,HM.out,((Fr.refl _ _).alloc _).drewN _⟩
 case pos=>
 by_cases h7:words=M;case neg=>
  have HM:Hid ((false=true)↔fy ⟨words,rw0,cw,regions,aF,max⟩):=⟨λh=>(by cases h),λh=>(by obtain⟨a1,a2,a3,a4,a5,a6,a7,a8⟩:=h;exact absurd (a7.trans hMM) h7)⟩;have hb:(words==M)=false:=by simpa using h7
  generalize (4194304:Int) / regions=D at *;generalize rw0 % cw=E at *;go_enter Tryz.func80,Tryz.ntmps80
  go_wp2_with fail
  go_quiet (fail)
  go_wp2
  go_ret
  exact⟨_,rfl,HM.out,((Fr.refl _ _).alloc _).drewN _⟩
 case pos=>
 subst h7;have htw:words.tdiv cw=words / cw:=Int.tdiv_eq_ediv_of_nonneg hM0;have hq0:0<=words / cw:=Int.ediv_nonneg hM0 (by omega);have hq1:words / cw<=4194304:=Int.le_trans (Int.ediv_le_self _ hM0) hM;have hwQ:IntKind.i64.wrap (words / cw)=words / cw:=by rw[IntKind.wrap_i64];omega
 by_cases h8:aF=words / cw;case neg=>
  have HM:Hid ((false=true)↔fy ⟨words,rw0,cw,regions,aF,max⟩):=⟨λh=>(by cases h),λh=>(by obtain⟨a1,a2,a3,a4,a5,a6,a7,a8⟩:=h;exact absurd a8 h8)⟩;have hb:(aF==words / cw)=false:=by simpa using h8
  generalize (4194304:Int) / regions=D at *;generalize rw0 % cw=E at *;generalize words / cw=Q at *;go_enter Tryz.func80,Tryz.ntmps80
  go_wp2_with fail
  go_quiet (fail)
  go_wp2
  go_ret
  exact⟨_,rfl,HM.out,((Fr.refl _ _).alloc _).drewN _⟩
 case pos=>
 have HM:Hid (fy ⟨words,rw0,cw,regions,aF,max⟩):=⟨h1,h2,h3,h4,h5,h6,hMM.symm,h8⟩;generalize (4194304:Int) / regions=D at *;generalize rw0 % cw=E at *;generalize words / cw=Q at *;go_enter Tryz.func80,Tryz.ntmps80
 go_wp2_with fail
 go_quiet (fail)
 go_wp2
 go_ret
 exact⟨_,rfl,⟨λ_=>HM.out,λ_=>rfl⟩,((Fr.refl _ _).alloc _).drewN _⟩
theorem xL{p:Prop}{b:Bool}(h:b=true↔p)(hp:p):Ending.returned (.bool b)=.returned (.bool true):=by rw[h.2 hp]
structure OkG(g:Geo)(per n:Nat):Prop where
 dim:Dim per n
 regions:g.regions=n
 aF:g.aF=((n*per:Nat):Int)
 quo:g.rw.tdiv g.cw=(per:Int)
 cw0:¬ g.cw=0
 may:fy g
theorem Tryz.uN:(Tryz.prog.info? 91).map (λi=>(i.zero,i.size,i.bytes))=some (some (.map none),1,8):=by kernel_rfl
theorem Tryz.rX:(Tryz.prog.info? 25).map (λi=>(i.zero,i.size,i.bytes))=some (some (.slice none 0 0),1,24):=by kernel_rfl
theorem uO(n:Nat)(v:Value)(h:v.cells=#[v]):madeCells #[v] n=aI n λ_=>v:=by
 have:=cU v h n;rw[h]at this;rw[dV,<- this,Array.toArray_toList]
theorem nh{P:Program}{t e:TypeId}{z:Value}{by':Nat}(ht:P.underlying t=some (.slice e))(hi:(P.info? e).map (λi=>(i.zero,i.size,i.bytes))=some (some z,1,by'))(hz:z.cells=#[z]){n:Nat}(hb:by'<=64)(hn:n<=65536)(w:World) :
  (Instr.makeSlice t (.int .i64 (n:Int)) (.int .i64 (n:Int))).run P w=.ok (.slice (some ⟨w.heap.size,0,none⟩) n n) (w.alloc (.cells (aI n λ_=>z) e)):=by
 rw[run_make_row' (P:=P) t e z by' ht hi hz .i64 .i64 n (Nat.le_trans (Nat.mul_le_mul hb hn) (by decide)) (by omega) w,uO n z hz]
def lD:RS:=⟨λ_ _=>0,λ_ _=>false⟩
def og(w:World)(per n:Nat)(e:Ending)(w':World):Prop:=
 ∃tg sb kb sB hB fB fk Vs Vh Vf,e=.returned (.tuple #[.pointer (some ⟨sb,0,none⟩),.int .i64 0])/\Rs w' tg sb kb sB hB fB per n lD fk Vs Vh Vf/\Fr [] w w'/\∀b,b<w.heap.size->(tg b).1=0
theorem xM{w W:World}{sb kb sB hB fB per n:Nat}(d:Dim per n)(hs:St W sb kb sB hB fB per n)(hk:Mp Tryz.prog 223 W kb (λ_=>none))(h3:Blk W sB 91 (aI n λ_=>.map none))(h4:Blk W hB 91 (aI n λ_=>.map none))
  (h5:Blk W fB 25 (aI n λ_=>.slice none 0 0)) (hf:Fr [] w W) (hl:w.heap.size<=sb/\w.heap.size<=kb/\w.heap.size<=sB/\w.heap.size<=hB/\w.heap.size<=fB) (hne:sB≠hB) :
  og w per n (.returned (.tuple #[.pointer (some ⟨sb,0,none⟩),.int .i64 0])) W:=by
 obtain⟨l1,l2,l3,l4,l5⟩:=hl;have n1:kb≠sb:=hk.df hs;have n2:kb≠sB:=hk.df h3;have n3:kb≠hB:=hk.df h4;have n4:kb≠fB:=hk.df h5;have n5:sB≠sb:=Blk.apart h3 hs (by decide);have n6:hB≠sb:=Blk.apart h4 hs (by decide);have n7:fB≠sb:=Blk.apart h5 hs (by decide);have n8:sB≠fB:=Blk.apart h3 h5 (by decide);have n9:hB≠fB:=Blk.apart h4 h5 (by decide);let tg:Tg:=jE (jE (jE (jE (jE (λ_=>(0,0,0)) kb (2,0,0)) sB (3,0,0)) hB (4,0,0)) fB (5,0,0)) sb (1,0,0);have t1:tg sb=(1,0,0):=il _ _ _;have t5:tg fB=(5,0,0):=(bR _ _ n7).trans (il _ _ _);have t4:tg hB=(4,0,0):=(bR _ _ n6).trans ((bR _ _ n9).trans (il _ _ _));have t3:tg sB=(3,0,0):=(bR _ _ n5).trans ((bR _ _ n8).trans ((bR _ _ hne).trans (il _ _ _)));have t2:tg kb=(2,0,0):=(bR _ _ n1).trans ((bR _ _ n4).trans ((bR _ _ n3).trans ((bR _ _ n2).trans (il _ _ _))));have t0:∀b,b≠sb->b≠kb->b≠sB->b≠hB->b≠fB->tg b=(0,0,0):=λb b1 b2 b3 b4 b5=>
  (bR _ _ b1).trans ((bR _ _ b5).trans ((bR _ _ b4).trans ((bR _ _ b3).trans (bR _ _ b2))))
 refine⟨tg,sb,kb,sB,hB,fB,_,_,_,_,rfl,⟨⟨d,λ_ _ h=>absurd rfl h,λ_ _ h=>by cases h⟩,hs,t1,λb hb=>?_,⟨hk,t2,λ_ _ h=>(by cases h),λ_ _ _ _ h=>absurd rfl h⟩,
  ⟨h3,t3,λr hr=>.inl ⟨rfl,λ_ _ h=>absurd rfl h⟩⟩,⟨h4,t4,λr hr=>.inl ⟨rfl,λ_ _ h=>absurd rfl h⟩⟩,
  ⟨h5,t5,λr hr=>⟨none,0,[],[],rfl,Lr.nil _ _,λ_ h=>(by cases h),List.nodup_nil,λs=>⟨λh=>(by cases h),λh=>(by cases h.2)⟩⟩⟩⟩,hf,λb hb=>?_⟩
 ·by_cases b1:b=sb
  ·exact b1 ▸ Blk.lt hs
  by_cases b2:b=kb
  ·exact b2 ▸ hk.lt
  by_cases b3:b=sB
  ·exact b3 ▸ h3.lt
  by_cases b4:b=hB
  ·exact b4 ▸ h4.lt
  by_cases b5:b=fB
  ·exact b5 ▸ h5.lt
  rw[t0 b b1 b2 b3 b4 b5]at hb;exact absurd rfl hb
 ·rw[t0 b (by omega) (by omega) (by omega) (by omega) (by omega)]
section
variable (w:World)(t:TypeId)(cs:Array Value)(o1 o2 o3 o4 o5:Obj)
theorem rY:Blk (((((w.alloc (.cells cs t)).alloc o2).alloc o3).alloc o4).alloc o5).drew w.heap.size t cs:=(((((Blk.new w t cs).alloc o2).alloc o3).alloc o4).alloc o5).drew
theorem rZ:Blk (((((w.alloc o1).alloc (.cells cs t)).alloc o3).alloc o4).alloc o5).drew (w.heap.size+1) t cs:=((((Blk.aX (w:=w.alloc o1) t cs (by simp)).alloc o3).alloc o4).alloc o5).drew
theorem sa:Blk (((((w.alloc o1).alloc o2).alloc (.cells cs t)).alloc o4).alloc o5).drew (w.heap.size+1+1) t cs:=(((Blk.aX (w:=(w.alloc o1).alloc o2) t cs (by simp)).alloc o4).alloc o5).drew
theorem sd:Blk (((((w.alloc o1).alloc o2).alloc o3).alloc (.cells cs t)).alloc o5).drew (w.heap.size+1+1+1) t cs:=((Blk.aX (w:=((w.alloc o1).alloc o2).alloc o3) t cs (by simp)).alloc o5).drew
theorem Bs:Blk (((((w.alloc o1).alloc o2).alloc o3).alloc o4).alloc (.cells cs t)).drew (w.heap.size+1+1+1+1) t cs:=(Blk.aX (w:=(((w.alloc o1).alloc o2).alloc o3).alloc o4) t cs (by simp)).drew
theorem oh{P:Program}{k:TypeId}{w:World}{n:Nat}(h:w.heap.size=n):Mp P k (w.alloc (.map #[] 0)) n (λ_=>none):=h ▸ Mp.made w
theorem B4{P:Program}{k:TypeId}:Mp P k (((((w.alloc (.map #[] 0)).alloc o2).alloc o3).alloc o4).alloc o5).drew w.heap.size (λ_=>none):=(Mp.made w).fr0 ((((((Fr.refl _ _).alloc o2).alloc o3).alloc o4).alloc o5).drew)
theorem B5{P:Program}{k:TypeId}:Mp P k (((((w.alloc o1).alloc (.map #[] 0)).alloc o3).alloc o4).alloc o5).drew (w.heap.size+1) (λ_=>none):=(oh (w:=w.alloc o1) (by simp)).fr0 (((((Fr.refl _ _).alloc o3).alloc o4).alloc o5).drew)
theorem B6{P:Program}{k:TypeId}:Mp P k (((((w.alloc o1).alloc o2).alloc (.map #[] 0)).alloc o4).alloc o5).drew (w.heap.size+1+1) (λ_=>none):=(oh (w:=(w.alloc o1).alloc o2) (by simp)).fr0 ((((Fr.refl _ _).alloc o4).alloc o5).drew)
theorem B7{P:Program}{k:TypeId}:Mp P k (((((w.alloc o1).alloc o2).alloc o3).alloc (.map #[] 0)).alloc o5).drew (w.heap.size+1+1+1) (λ_=>none):=(oh (w:=((w.alloc o1).alloc o2).alloc o3) (by simp)).fr0 (((Fr.refl _ _).alloc o5).drew)
end
theorem zJ(g:Geo){per n:Nat}(ok:OkG g per n)(w:World):Calls Tryz.prog 42 #[g.val] w (og w per n):=by
 have HM:Hid (∀w',Calls Tryz.prog 80 #[g.val] w' λe w''=>e=.returned (.bool true)/\Fr [] w' w''):=λw'=>(rW g w').mono λe w'' ⟨b,h1,h2,h3⟩=>⟨by rw[h1];exact xL h2 ok.may,h3⟩;obtain⟨Wd,rw',C,R,N,M⟩:=g;obtain⟨hd,rfl,rfl,hq,hc0,hmay⟩:=ok;simp only at hq hc0;have HD:=aa hd;have hn:=hd.n2;have hp:=hd.p3;have hp1:=hd.p1;have hwp:IntKind.i64.wrap (per:Int)=(per:Int):=by rw[IntKind.wrap_i64];omega
 have hmk1:∀w',(Instr.makeSlice 181 (.int .i64 (n:Int)) (.int .i64 (n:Int))).run Tryz.prog w'=.ok (.slice (some ⟨w'.heap.size,0,none⟩) n n) (w'.alloc (.cells (aI n λ_=>.map none) 91)):=nh Tryz.underlying181 Tryz.uN rfl (by decide) hn;have hmk2:∀w',(Instr.makeSlice 104 (.int .i64 (n:Int)) (.int .i64 (n:Int))).run Tryz.prog w'=.ok (.slice (some ⟨w'.heap.size,0,none⟩) n n) (w'.alloc (.cells (aI n λ_=>.slice none 0 0) 25)):=nh Tryz.underlying104 Tryz.rX rfl (by decide) hn;have hmm:=@run_makeMap Tryz.prog;unfold Geo.val at HM ⊢;clear hd hmay;go_enter Tryz.func42,Tryz.ntmps42
 go_wp2_with fail
 refine(HM.out _).mono ?_;rintro e w1 ⟨rfl,hf⟩;have hg:=gn.of ((Blk.new w 39 (Geo.cells ⟨Wd,rw',C,(n:Int),((n*per:Nat):Int),M⟩)).fr hf (by simp));have g1:=hg.c1;have g2:=hg.c2;have g3:=hg.c3;have g4:=hg.c4;simp only at g1 g2 g3 g4;have HF:Hid (Fr [] w w1):=((Fr.refl _ _).alloc _).ae hf;have hlt:w.heap.size<w1.heap.size:=af g1;clear hf hg HM;generalize hNP:((n*per:Nat):Int)=NP at *;have K:∀w2,Fr [] w1 w2->w2.cell? ⟨w.heap.size,1,none⟩=some (.int .i64 rw')/\w2.cell? ⟨w.heap.size,2,none⟩=some (.int .i64 C)/\w2.cell? ⟨w.heap.size,3,none⟩=some (.int .i64 (n:Int))/\w2.cell? ⟨w.heap.size,4,none⟩=some (.int .i64 NP):=λw2 hf=>
  ⟨(hf.cell (af g1) (by simp)).trans g1,(hf.cell (af g2) (by simp)).trans g2,(hf.cell (af g3) (by simp)).trans g3,(hf.cell (af g4) (by simp)).trans g4⟩
 have K0:=K _ (Fr.refl [] w1).drew;have K1:=λo1=>K _ ((Fr.refl [] w1).alloc o1).drew;have K2:=λo1 o2=>K _ (((Fr.refl [] w1).alloc o1).alloc o2).drew;have K3:=λo1 o2 o3=>K _ ((((Fr.refl [] w1).alloc o1).alloc o2).alloc o3).drew;have K4:=λo1 o2 o3 o4=>K _ (((((Fr.refl [] w1).alloc o1).alloc o2).alloc o3).alloc o4).drew;have K5:=λo1 o2 o3 o4 o5=>K _ ((((((Fr.refl [] w1).alloc o1).alloc o2).alloc o3).alloc o4).alloc o5).drew;clear K;go_wp2_with fail
 go_region_held3 (λw'=>w'.cell? ⟨w.heap.size,1,none⟩=some (.int .i64 rw')/\w'.cell? ⟨w.heap.size,2,none⟩=some (.int .i64 C)/\w'.cell? ⟨w.heap.size,3,none⟩=some (.int .i64 (n:Int))/\w'.cell? ⟨w.heap.size,4,none⟩=some (.int .i64 NP))
  (first|with_reducible exact K0|with_reducible exact K1 _|with_reducible exact K2 _ _|with_reducible exact K3 _ _ _|with_reducible exact K4 _ _ _ _|with_reducible exact K5 _ _ _ _ _)
  (first|fail)
 all_goals
  clear K0 K1 K2 K3 K4 K5;go_wp2_with fail
  go_ret2
  subst hNP;refine xM HD.out (Bs _ _ _ _ _ _ _) ?mp ?b3 ?b4 ?b5 ?hf ?hl ?hne;case mp=>first|with_reducible exact B4 _ _ _ _ _|with_reducible exact B5 _ _ _ _ _|with_reducible exact B6 _ _ _ _ _|with_reducible exact B7 _ _ _ _ _
  case b3=>first|with_reducible exact rY _ _ _ _ _ _ _|with_reducible exact rZ _ _ _ _ _ _ _|with_reducible exact sa _ _ _ _ _ _ _|with_reducible exact sd _ _ _ _ _ _ _
  case b4=>first|with_reducible exact rY _ _ _ _ _ _ _|with_reducible exact rZ _ _ _ _ _ _ _|with_reducible exact sa _ _ _ _ _ _ _|with_reducible exact sd _ _ _ _ _ _ _
  case b5=>first|with_reducible exact rY _ _ _ _ _ _ _|with_reducible exact rZ _ _ _ _ _ _ _|with_reducible exact sa _ _ _ _ _ _ _|with_reducible exact sd _ _ _ _ _ _ _
  case hf=>exact HF.out.ae ((((((Fr.refl [] w1).alloc _).alloc _).alloc _).alloc _).alloc _).drew
  case hl=>refine⟨?_,?_,?_,?_,?_⟩ <;> omega
  case hne=>omega
end Go.Proofs.YtimlkjppaalfaaaGreatDoor
