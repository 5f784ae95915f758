/- Card tables: what each call of the package cards answers of a table that lies in memory, and what it leaves there. -/
import Derived.Test.YteacgfeiedcdiaaGreatDoorPW15
import Derived.Test.YteacgfeiedcdiaaGreatDoorPW09
namespace Go.Proofs.YteacgfeiedcdiaaGreatDoor
set_option linter.unusedVariables false
set_option maxRecDepth 100000
open Go.RowKit Go.Gl
structure Ct(w:World)(tb bs bw n:Nat)(ws:List Nat):Prop where
 tab:Blk w tb 176 #[.pointer (some ⟨bs,0,none⟩)]
 set:BSet w bs bw n ws
section
variable {w w':World}{tb bs bw n:Nat}{ws:List Nat}{F:List Nat}
theorem Ct.fr(h:Ct w tb bs bw n ws)(hf:Fr F w w')(h0:tb∉F)(h1:bs∉F)(h2:bw∉F):Ct w' tb bs bw n ws:=⟨h.tab.fr hf h0,h.set.fr hf h1 h2⟩
theorem Ct.fr0(h:Ct w tb bs bw n ws)(hf:Fr [] w w'):Ct w' tb bs bw n ws:=h.fr hf (by simp) (by simp) (by simp)
theorem Ct.drewN(h:Ct w tb bs bw n ws)(k:Nat):Ct (w.drewN k) tb bs bw n ws:=⟨h.tab,h.set.drewN k⟩
theorem Ct.c0(h:Ct w tb bs bw n ws):w.cell? ⟨tb,0,none⟩=some (.pointer (some ⟨bs,0,none⟩)):=by rw [h.tab.cell];rfl
theorem Ct.ne(h:Ct w tb bs bw n ws):tb≠bw:=h.tab.apart h.set.row (by decide)
end
def CtPost(w:World)(tb bs bw n:Nat)(ws:List Nat)(i:Int)(on:Bool)(e:Ending)(w':World):Prop:=
 ∃c er ws',e=.returned (.tuple #[.bool c,.int .i64 er])∧Ct w' tb bs bw n ws'∧Fr [bw] w w'∧Turned ws n i on c er ws'
theorem cset_any{w:World}{tb bs bw n:Nat}{ws:List Nat}(h:Ct w tb bs bw n ws):Calls Tryz.prog 48 #[.pointer (some ⟨tb,0,none⟩)] w fun e w'=>e=.returned (.pointer (some ⟨bs,0,none⟩))∧w=w':=by
 have c0:=h.c0
 clear h
 go_enter Tryz.func48,Tryz.ntmps48
 go_wp2
 go_ret
 exact⟨rfl,rfl⟩
theorem cis_any{w:World}{tb bs bw n:Nat}{ws:List Nat}(h:Ct w tb bs bw n ws)(i:Int) :
  Calls Tryz.prog 12 #[.pointer (some ⟨tb,0,none⟩),.int .i64 i] w fun e w'=>e=.returned (.bool (inSet ws i))∧∃k,w'=w.drewN k:=by
 have HS:=hide (cset_any h)
 have HH:=hide (has_any h.set i)
 clear h
 go_enter Tryz.func12,Tryz.ntmps12
 go_wp2_with (first | (go_at_call 48;refine HS.out.mono ?_;rintro e w' ⟨rfl,rfl⟩) | (go_at_call 50;refine HH.out.mono ?_;rintro e w' ⟨rfl,k,rfl⟩))
 go_ret
 exact⟨rfl,_,rfl⟩
theorem cdirty_any{w:World}{tb bs bw n:Nat}{ws:List Nat}(h:Ct w tb bs bw n ws)(i:Int) :
  Calls Tryz.prog 11 #[.pointer (some ⟨tb,0,none⟩),.int .i64 i] w (CtPost w tb bs bw n ws i true):=by
 have HS:=hide (cset_any h)
 have HP:=hide (put_any h.set i)
 have HB:=hide h.tab
 have HN:=hide h.ne
 clear h
 go_enter Tryz.func11,Tryz.ntmps11
 go_wp2_with (first | (go_at_call 48;refine HS.out.mono ?_;rintro e w' ⟨rfl,rfl⟩) | (go_at_call 49;refine HP.out.mono ?_;rintro e w' ⟨c,er,ws',rfl,hb,hf,ht⟩))
 go_ret2
 exact⟨c,er,ws',rfl,⟨HB.out.fr hf (by have:=HN.out;simp;exact this),hb⟩,hf,ht⟩
theorem cclean_any{w:World}{tb bs bw n:Nat}{ws:List Nat}(h:Ct w tb bs bw n ws)(i:Int) :
  Calls Tryz.prog 43 #[.pointer (some ⟨tb,0,none⟩),.int .i64 i] w (CtPost w tb bs bw n ws i false):=by
 have HS:=hide (cset_any h)
 have HP:=hide (drop_any h.set i)
 have HB:=hide h.tab
 have HN:=hide h.ne
 clear h
 go_enter Tryz.func43,Tryz.ntmps43
 go_wp2_with (first | (go_at_call 48;refine HS.out.mono ?_;rintro e w' ⟨rfl,rfl⟩) | (go_at_call 96;refine HP.out.mono ?_;rintro e w' ⟨c,er,ws',rfl,hb,hf,ht⟩))
 go_ret2
 exact⟨c,er,ws',rfl,⟨HB.out.fr hf (by have:=HN.out;simp;exact this),hb⟩,hf,ht⟩
def CtNew(w:World)(n:Nat)(e:Ending)(w':World):Prop:=
 ∃tb bs bw,e=.returned (.tuple #[.pointer (some ⟨tb,0,none⟩),.int .i64 0])∧Ct w' tb bs bw n (List.replicate ((n+63) / 64) 0)∧Fr [] w w'∧w.heap.size≤tb∧w.heap.size≤bs∧w.heap.size≤bw
theorem cnew_any(g:Geo)(n:Nat)(hn:n≤4194304)(hg:g.cards=(n:Int))(w:World):Calls Tryz.prog 75 #[g.val] w (CtNew w n):=by
 have HN:=hide (sNew_any n hn)
 obtain⟨a,b,c,d,m,f⟩:=g
 obtain rfl:m=(n:Int):=hg
 unfold Geo.val
 go_enter Tryz.func75,Tryz.ntmps75
 go_wp2_with fail
 refine(HN.out _).mono ?_
 rintro e w1 ⟨bs,bw,rfl,hs,hf,h1,h2⟩
 have HS:=hide hs
 have HF:Hid (Fr [] w w1):=((Fr.refl _ _).alloc _).trans_same hf
 have H1:Hid (w.heap.size≤bs∧w.heap.size≤bw):=by simp at h1 h2;exact⟨by omega,by omega⟩
 clear hs hf h1 h2
 go_wp2_with fail
 go_ret2
 exact⟨w1.heap.size,bs,bw,rfl,⟨Blk.new _ _ _,HS.out.fr ((Fr.refl [] w1).alloc _) (by simp) (by simp)⟩,HF.out.alloc _,HF.out.size,H1.out.1,H1.out.2⟩
end Go.Proofs.YteacgfeiedcdiaaGreatDoor
