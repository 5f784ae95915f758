/- Several texts joined (pack.py): Wd We Wg. -/
import Derived.Test.YtimlkjppaalfaaaGreatDoorPW17
import Derived.Test.YtimlkjppaalfaaaGreatDoorPW08
import Derived.Test.YtimlkjppaalfaaaGreatDoorPW19
import Derived.Deep.RegionHeld3
import Derived.Deep.CutRange
import Derived.Test.YtimlkjppaalfaaaGreatDoorPW01
set_option linter.unusedVariables false
set_option linter.unusedSimpArgs false
set_option maxRecDepth 100000
namespace Go.Proofs.YtimlkjppaalfaaaGreatDoor
open Go.RowKit Go.Gl
section
variable {A:Nat->Nat}{k:Nat}{w d:Nat->Nat->Nat}{h:HS}{s1 t1:Nat->Int}{a:Nat}{y:Int}
theorem BB{u r W:Nat}(hW:1<=W)(h1:r*W<=u)(h2:u<r*W+W):u / W=r:=by
 rw[Nat.div_eq_iff (by omega)];constructor
 ·exact h1
 ·have:r*W+W-1+1=r*W+W:=by omega
  omega
end
abbrev aK:=List (Nat×TypeId×Array Value)
def HE(W w:World)(L:HL)(X:HX)(h:HS)(x:HT)(s k:Nat)(E:aK):Prop:=
 ∃own,cK W w L X own h x s k/\∀q,q∈E->Blk w q.1 q.2.1 q.2.2/\own q.1=0/\W.heap.size<=q.1
section
variable {W w w':World}{L:HL}{X:HX}{h h':HS}{x x':HT}{s k:Nat}{E:aK}
theorem HE.blk(H:HE W w L X h x s k E){b:Nat}{t:TypeId}{cs:Array Value}(hq:(b,t,cs)∈E):Blk w b t cs:=by
 obtain⟨own,h1,h2⟩:=H;exact(h2 _ hq).1
theorem HE.fr(H:HE W w L X h x s k E):Fr [] W w:=by
 obtain⟨own,h1,h2⟩:=H;exact h1.fr
theorem HE.hr(H:HE W w L X h x s k E):Hr w L h s k:=by
 obtain⟨own,h1,h2⟩:=H;exact h1.hr
theorem HE.ok(H:HE W w L X h x s k E):h.Ok s k:=H.hr.ok
end
def Row(E:aK)(A:Option Addr)(c:Nat)(l:List Int):Prop:=
 l.length<=c/\c<=maxLen/\(0<c->∃g off cur,A=some ⟨g,off,none⟩/\(g,3,cur)∈E/\off+c<=cur.size/\(cur.toList.drop off).take l.length=zv l)
def places(A:Nat->Nat)(n:Nat):List Int:=(List.range n).map λi=>(A i:Int)
section
variable {W w w':World}{L:HL}{X:HX}{h:HS}{x:HT}{s k:Nat}{E:aK}
theorem HE.dim(H:HE W w L X h x s k E):cI h.g h.W h.R x.cw x.per:=by
 obtain⟨own,⟨tg,FS,H,_⟩,_⟩:=H;exact H.dim
theorem HE.card(H:HE W w L X h x s k E)(a:Int):Calls Tryz.prog 11 #[.agg #[.int .i64 h.g.words,.int .i64 h.g.rw,.int .i64 h.g.cw,.int .i64 h.g.regions,.int .i64 h.g.aF,.int .i64 h.g.max],.int .i64 a] w λe w'=>e=.returned (.int .i64 (h.g.aV a))/\Fr [] w w':=pR h.g H.ok.geo a w H.hr.tab
end
end Go.Proofs.YtimlkjppaalfaaaGreatDoor
