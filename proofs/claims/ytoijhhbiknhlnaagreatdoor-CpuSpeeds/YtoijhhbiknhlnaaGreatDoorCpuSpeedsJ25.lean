/- Contracts of package mode: what modes mean. -/
import Derived.Test.YtoijhhbiknhlnaaGreatDoorCpuSpeedsJ02
import Derived.Test.YtoijhhbiknhlnaaGreatDoorCpuSpeedsJ01
import Derived.Handy
namespace Go.Proofs.YtoijhhbiknhlnaaGreatDoor.N8
set_option maxRecDepth 20000
open Go.RowKit
set_option linter.unusedVariables false
def zOf (b r:Int):Int:=8192+(b+r)%256
def wOf (a b:Int):Int:=(a+b)%65536
theorem zpC (b r:Int):8192≤zOf b r∧zOf b r≤8447:=by unfold zOf;omega
theorem zhT (b r:Int):0≤wOf b r∧wOf b r≤65535:=by unfold wOf;omega
theorem zaS (a b:Int) (w:World):Calls Tryz.prog 114 #[.int .i64 a,.int .i64 b] w fun e w'=>e=.returned (.int .i64 (wOf a b))∧w'=w:=by
 go_enter Tryz.func114,Tryz.ntmps114;go_wp2_with (go_at_call 33;refine (zbd _ _).mono ?_;rintro e w' ⟨rfl,rfl⟩);go_ret;exact ⟨rfl,rfl⟩
theorem zaT (o:Int) (w:World):Calls Tryz.prog 113 #[.int .i64 o] w fun e w'=>
  e=.returned (.func (.func 154) #[] #[.pointer (some ⟨w.heap.size,0,none⟩)])∧w'=w.alloc (.cells #[.int .i64 o] 3):=by
 go_enter Tryz.func113,Tryz.ntmps113;go_wp2;go_ret;exact ⟨rfl,rfl⟩
theorem zbp (o r:Int) (b:Nat) (w:World) (h:w.cell? ⟨b,0,none⟩=some (.int .i64 o)):Calls Tryz.prog 154 #[.int .i64 r,.pointer (some ⟨b,0,none⟩)] w fun e w'=>
  e=.returned (.int .i64 (zOf o r))∧w'=w:=by
 go_enter Tryz.func154,Tryz.ntmps154;go_wp2_with (go_at_call 32;refine (zaj _ _).mono ?_;rintro e w' ⟨rfl,rfl⟩);go_ret;exact ⟨rfl,rfl⟩
theorem zpD (x o:Int) (w:World):Calls Tryz.prog 91 #[.int .i64 6,.int .i64 x,.int .i64 o] w fun e w'=>e=.returned (.tuple #[.int .i64 (zOf o x),.bool true,.bool true])∧Below w.heap.size w w':=by
 go_enter Tryz.func91,Tryz.ntmps91;go_wp2_with (first|(go_at_call 113;refine (zaT _ _).mono ?_;rintro e w' ⟨rfl,rfl⟩)|(go_at_call 154;refine (zbp o _ _ _ (by simp)).mono ?_;rintro e w' ⟨rfl,rfl⟩)|(go_at_call 114;refine (zaS _ _ _).mono ?_;rintro e w' ⟨rfl,rfl⟩));go_ret3
 first
  |exact ⟨rfl,(Below.refl _ w).alloc (Nat.le_refl _) _⟩
  |exact ⟨rfl,Below.refl _ _⟩
theorem zpE (x o:Int) (w:World):Calls Tryz.prog 91 #[.int .i64 7,.int .i64 x,.int .i64 o] w fun e w'=>e=.returned (.tuple #[.int .i64 (zOf o 0),.bool true,.bool true])∧Below w.heap.size w w':=by
 go_enter Tryz.func91,Tryz.ntmps91;go_wp2_with (first|(go_at_call 113;refine (zaT _ _).mono ?_;rintro e w' ⟨rfl,rfl⟩)|(go_at_call 154;refine (zbp o _ _ _ (by simp)).mono ?_;rintro e w' ⟨rfl,rfl⟩)|(go_at_call 114;refine (zaS _ _ _).mono ?_;rintro e w' ⟨rfl,rfl⟩));go_ret3
 first
  |exact ⟨rfl,(Below.refl _ w).alloc (Nat.le_refl _) _⟩
  |exact ⟨rfl,Below.refl _ _⟩
theorem zpF (x o:Int) (w:World):Calls Tryz.prog 91 #[.int .i64 8,.int .i64 x,.int .i64 o] w fun e w'=>e=.returned (.tuple #[.int .i64 (zOf o 0),.bool true,.bool true])∧Below w.heap.size w w':=by
 go_enter Tryz.func91,Tryz.ntmps91;go_wp2_with (first|(go_at_call 113;refine (zaT _ _).mono ?_;rintro e w' ⟨rfl,rfl⟩)|(go_at_call 154;refine (zbp o _ _ _ (by simp)).mono ?_;rintro e w' ⟨rfl,rfl⟩)|(go_at_call 114;refine (zaS _ _ _).mono ?_;rintro e w' ⟨rfl,rfl⟩));go_ret3
 first
  |exact ⟨rfl,(Below.refl _ w).alloc (Nat.le_refl _) _⟩
  |exact ⟨rfl,Below.refl _ _⟩
theorem znc (x o:Int) (w:World):Calls Tryz.prog 91 #[.int .i64 12,.int .i64 x,.int .i64 o] w fun e w'=>e=.returned (.tuple #[.int .i64 (wOf o 0),.bool false,.bool true])∧Below w.heap.size w w':=by
 go_enter Tryz.func91,Tryz.ntmps91;go_wp2_with (first|(go_at_call 113;refine (zaT _ _).mono ?_;rintro e w' ⟨rfl,rfl⟩)|(go_at_call 154;refine (zbp o _ _ _ (by simp)).mono ?_;rintro e w' ⟨rfl,rfl⟩)|(go_at_call 114;refine (zaS _ _ _).mono ?_;rintro e w' ⟨rfl,rfl⟩));go_ret3
 first
  |exact ⟨rfl,(Below.refl _ w).alloc (Nat.le_refl _) _⟩
  |exact ⟨rfl,Below.refl _ _⟩
theorem znd (x o:Int) (w:World):Calls Tryz.prog 91 #[.int .i64 13,.int .i64 x,.int .i64 o] w fun e w'=>e=.returned (.tuple #[.int .i64 (wOf o x),.bool false,.bool true])∧Below w.heap.size w w':=by
 go_enter Tryz.func91,Tryz.ntmps91;go_wp2_with (first|(go_at_call 113;refine (zaT _ _).mono ?_;rintro e w' ⟨rfl,rfl⟩)|(go_at_call 154;refine (zbp o _ _ _ (by simp)).mono ?_;rintro e w' ⟨rfl,rfl⟩)|(go_at_call 114;refine (zaS _ _ _).mono ?_;rintro e w' ⟨rfl,rfl⟩));go_ret3
 first
  |exact ⟨rfl,(Below.refl _ w).alloc (Nat.le_refl _) _⟩
  |exact ⟨rfl,Below.refl _ _⟩
theorem zne (m x o:Int) (w:World) (h6:m≠6) (h7:m≠7) (h8:m≠8) (h12:m≠12) (h13:m≠13):Calls Tryz.prog 91 #[.int .i64 m,.int .i64 x,.int .i64 o] w fun e w'=>e=.returned (.tuple #[.int .i64 0,.bool false,.bool false])∧Below w.heap.size w w':=by
 go_enter Tryz.func91,Tryz.ntmps91;go_wp2;go_ret3;exact ⟨rfl,Below.refl _ _⟩
theorem zpG (x y o p:Int) (w:World):Calls Tryz.prog 92 #[.int .i64 3,.agg #[.int .i64 x,.int .i64 y],.int .i64 o,.int .i64 p] w fun e w'=>e=.returned (.tuple #[.int .i64 (zOf o 0),.bool true])∧Below w.heap.size w w':=by
 go_enter Tryz.func92,Tryz.ntmps92;go_wp2_with (first|(go_at_call 113;refine (zaT _ _).mono ?_;rintro e w' ⟨rfl,rfl⟩)|(go_at_call 154;refine (zbp o _ _ _ (by simp)).mono ?_;rintro e w' ⟨rfl,rfl⟩)|(go_at_call 114;refine (zaS _ _ _).mono ?_;rintro e w' ⟨rfl,rfl⟩));go_ret2
 first
  |exact ⟨rfl,((Below.refl _ w).alloc (Nat.le_refl _) _).alloc (by simp) _⟩
  |exact ⟨rfl,(Below.refl _ w).alloc (Nat.le_refl _) _⟩
theorem znf (x y o p:Int) (w:World):Calls Tryz.prog 92 #[.int .i64 15,.agg #[.int .i64 x,.int .i64 y],.int .i64 o,.int .i64 p] w fun e w'=>e=.returned (.tuple #[.int .i64 (zOf o 0),.bool true])∧Below w.heap.size w w':=by
 go_enter Tryz.func92,Tryz.ntmps92;go_wp2_with (first|(go_at_call 113;refine (zaT _ _).mono ?_;rintro e w' ⟨rfl,rfl⟩)|(go_at_call 154;refine (zbp o _ _ _ (by simp)).mono ?_;rintro e w' ⟨rfl,rfl⟩)|(go_at_call 114;refine (zaS _ _ _).mono ?_;rintro e w' ⟨rfl,rfl⟩));go_ret2
 first
  |exact ⟨rfl,((Below.refl _ w).alloc (Nat.le_refl _) _).alloc (by simp) _⟩
  |exact ⟨rfl,(Below.refl _ w).alloc (Nat.le_refl _) _⟩
theorem zng (x y o p:Int) (w:World):Calls Tryz.prog 92 #[.int .i64 17,.agg #[.int .i64 x,.int .i64 y],.int .i64 o,.int .i64 p] w fun e w'=>e=.returned (.tuple #[.int .i64 (zOf o 0),.bool true])∧Below w.heap.size w w':=by
 go_enter Tryz.func92,Tryz.ntmps92;go_wp2_with (first|(go_at_call 113;refine (zaT _ _).mono ?_;rintro e w' ⟨rfl,rfl⟩)|(go_at_call 154;refine (zbp o _ _ _ (by simp)).mono ?_;rintro e w' ⟨rfl,rfl⟩)|(go_at_call 114;refine (zaS _ _ _).mono ?_;rintro e w' ⟨rfl,rfl⟩));go_ret2
 first
  |exact ⟨rfl,((Below.refl _ w).alloc (Nat.le_refl _) _).alloc (by simp) _⟩
  |exact ⟨rfl,(Below.refl _ w).alloc (Nat.le_refl _) _⟩
theorem zpH (x y o p:Int) (w:World):Calls Tryz.prog 92 #[.int .i64 4,.agg #[.int .i64 x,.int .i64 y],.int .i64 o,.int .i64 p] w fun e w'=>e=.returned (.tuple #[.int .i64 (zOf o x),.bool true])∧Below w.heap.size w w':=by
 go_enter Tryz.func92,Tryz.ntmps92;go_wp2_with (first|(go_at_call 113;refine (zaT _ _).mono ?_;rintro e w' ⟨rfl,rfl⟩)|(go_at_call 154;refine (zbp o _ _ _ (by simp)).mono ?_;rintro e w' ⟨rfl,rfl⟩)|(go_at_call 114;refine (zaS _ _ _).mono ?_;rintro e w' ⟨rfl,rfl⟩));go_ret2
 first
  |exact ⟨rfl,((Below.refl _ w).alloc (Nat.le_refl _) _).alloc (by simp) _⟩
  |exact ⟨rfl,(Below.refl _ w).alloc (Nat.le_refl _) _⟩
theorem znh (x y o p:Int) (w:World):Calls Tryz.prog 92 #[.int .i64 18,.agg #[.int .i64 x,.int .i64 y],.int .i64 o,.int .i64 p] w fun e w'=>e=.returned (.tuple #[.int .i64 (zOf o x),.bool true])∧Below w.heap.size w w':=by
 go_enter Tryz.func92,Tryz.ntmps92;go_wp2_with (first|(go_at_call 113;refine (zaT _ _).mono ?_;rintro e w' ⟨rfl,rfl⟩)|(go_at_call 154;refine (zbp o _ _ _ (by simp)).mono ?_;rintro e w' ⟨rfl,rfl⟩)|(go_at_call 114;refine (zaS _ _ _).mono ?_;rintro e w' ⟨rfl,rfl⟩));go_ret2
 first
  |exact ⟨rfl,((Below.refl _ w).alloc (Nat.le_refl _) _).alloc (by simp) _⟩
  |exact ⟨rfl,(Below.refl _ w).alloc (Nat.le_refl _) _⟩
theorem zpI (x y o p:Int) (w:World):Calls Tryz.prog 92 #[.int .i64 5,.agg #[.int .i64 x,.int .i64 y],.int .i64 o,.int .i64 p] w fun e w'=>e=.returned (.tuple #[.int .i64 (zOf o y),.bool true])∧Below w.heap.size w w':=by
 go_enter Tryz.func92,Tryz.ntmps92;go_wp2_with (first|(go_at_call 113;refine (zaT _ _).mono ?_;rintro e w' ⟨rfl,rfl⟩)|(go_at_call 154;refine (zbp o _ _ _ (by simp)).mono ?_;rintro e w' ⟨rfl,rfl⟩)|(go_at_call 114;refine (zaS _ _ _).mono ?_;rintro e w' ⟨rfl,rfl⟩));go_ret2
 first
  |exact ⟨rfl,((Below.refl _ w).alloc (Nat.le_refl _) _).alloc (by simp) _⟩
  |exact ⟨rfl,(Below.refl _ w).alloc (Nat.le_refl _) _⟩
theorem zpJ (x y o p:Int) (w:World):Calls Tryz.prog 92 #[.int .i64 9,.agg #[.int .i64 x,.int .i64 y],.int .i64 o,.int .i64 p] w fun e w'=>e=.returned (.tuple #[.int .i64 (wOf o 0),.bool true])∧Below w.heap.size w w':=by
 go_enter Tryz.func92,Tryz.ntmps92;go_wp2_with (first|(go_at_call 113;refine (zaT _ _).mono ?_;rintro e w' ⟨rfl,rfl⟩)|(go_at_call 154;refine (zbp o _ _ _ (by simp)).mono ?_;rintro e w' ⟨rfl,rfl⟩)|(go_at_call 114;refine (zaS _ _ _).mono ?_;rintro e w' ⟨rfl,rfl⟩));go_ret2
 first
  |exact ⟨rfl,((Below.refl _ w).alloc (Nat.le_refl _) _).alloc (by simp) _⟩
  |exact ⟨rfl,(Below.refl _ w).alloc (Nat.le_refl _) _⟩
theorem zni (x y o p:Int) (w:World):Calls Tryz.prog 92 #[.int .i64 19,.agg #[.int .i64 x,.int .i64 y],.int .i64 o,.int .i64 p] w fun e w'=>e=.returned (.tuple #[.int .i64 (wOf o 0),.bool true])∧Below w.heap.size w w':=by
 go_enter Tryz.func92,Tryz.ntmps92;go_wp2_with (first|(go_at_call 113;refine (zaT _ _).mono ?_;rintro e w' ⟨rfl,rfl⟩)|(go_at_call 154;refine (zbp o _ _ _ (by simp)).mono ?_;rintro e w' ⟨rfl,rfl⟩)|(go_at_call 114;refine (zaS _ _ _).mono ?_;rintro e w' ⟨rfl,rfl⟩));go_ret2
 first
  |exact ⟨rfl,((Below.refl _ w).alloc (Nat.le_refl _) _).alloc (by simp) _⟩
  |exact ⟨rfl,(Below.refl _ w).alloc (Nat.le_refl _) _⟩
theorem znj (x y o p:Int) (w:World):Calls Tryz.prog 92 #[.int .i64 10,.agg #[.int .i64 x,.int .i64 y],.int .i64 o,.int .i64 p] w fun e w'=>e=.returned (.tuple #[.int .i64 (wOf o x),.bool true])∧Below w.heap.size w w':=by
 go_enter Tryz.func92,Tryz.ntmps92;go_wp2_with (first|(go_at_call 113;refine (zaT _ _).mono ?_;rintro e w' ⟨rfl,rfl⟩)|(go_at_call 154;refine (zbp o _ _ _ (by simp)).mono ?_;rintro e w' ⟨rfl,rfl⟩)|(go_at_call 114;refine (zaS _ _ _).mono ?_;rintro e w' ⟨rfl,rfl⟩));go_ret2
 first
  |exact ⟨rfl,((Below.refl _ w).alloc (Nat.le_refl _) _).alloc (by simp) _⟩
  |exact ⟨rfl,(Below.refl _ w).alloc (Nat.le_refl _) _⟩
theorem znk (x y o p:Int) (w:World):Calls Tryz.prog 92 #[.int .i64 20,.agg #[.int .i64 x,.int .i64 y],.int .i64 o,.int .i64 p] w fun e w'=>e=.returned (.tuple #[.int .i64 (wOf o x),.bool true])∧Below w.heap.size w w':=by
 go_enter Tryz.func92,Tryz.ntmps92;go_wp2_with (first|(go_at_call 113;refine (zaT _ _).mono ?_;rintro e w' ⟨rfl,rfl⟩)|(go_at_call 154;refine (zbp o _ _ _ (by simp)).mono ?_;rintro e w' ⟨rfl,rfl⟩)|(go_at_call 114;refine (zaS _ _ _).mono ?_;rintro e w' ⟨rfl,rfl⟩));go_ret2
 first
  |exact ⟨rfl,((Below.refl _ w).alloc (Nat.le_refl _) _).alloc (by simp) _⟩
  |exact ⟨rfl,(Below.refl _ w).alloc (Nat.le_refl _) _⟩
theorem znl (x y o p:Int) (w:World):Calls Tryz.prog 92 #[.int .i64 11,.agg #[.int .i64 x,.int .i64 y],.int .i64 o,.int .i64 p] w fun e w'=>e=.returned (.tuple #[.int .i64 (wOf o y),.bool true])∧Below w.heap.size w w':=by
 go_enter Tryz.func92,Tryz.ntmps92;go_wp2_with (first|(go_at_call 113;refine (zaT _ _).mono ?_;rintro e w' ⟨rfl,rfl⟩)|(go_at_call 154;refine (zbp o _ _ _ (by simp)).mono ?_;rintro e w' ⟨rfl,rfl⟩)|(go_at_call 114;refine (zaS _ _ _).mono ?_;rintro e w' ⟨rfl,rfl⟩));go_ret2
 first
  |exact ⟨rfl,((Below.refl _ w).alloc (Nat.le_refl _) _).alloc (by simp) _⟩
  |exact ⟨rfl,(Below.refl _ w).alloc (Nat.le_refl _) _⟩
theorem zpK (x y o p:Int) (w:World):Calls Tryz.prog 92 #[.int .i64 6,.agg #[.int .i64 x,.int .i64 y],.int .i64 o,.int .i64 p] w fun e w'=>e=.returned (.tuple #[.int .i64 (wOf p 0),.bool true])∧Below w.heap.size w w':=by
 go_enter Tryz.func92,Tryz.ntmps92;go_wp2_with (first|(go_at_call 113;refine (zaT _ _).mono ?_;rintro e w' ⟨rfl,rfl⟩)|(go_at_call 154;refine (zbp o _ _ _ (by simp)).mono ?_;rintro e w' ⟨rfl,rfl⟩)|(go_at_call 114;refine (zaS _ _ _).mono ?_;rintro e w' ⟨rfl,rfl⟩));go_ret2
 first
  |exact ⟨rfl,((Below.refl _ w).alloc (Nat.le_refl _) _).alloc (by simp) _⟩
  |exact ⟨rfl,(Below.refl _ w).alloc (Nat.le_refl _) _⟩
theorem zpL (x y o p:Int) (w:World):Calls Tryz.prog 92 #[.int .i64 8,.agg #[.int .i64 x,.int .i64 y],.int .i64 o,.int .i64 p] w fun e w'=>e=.returned (.tuple #[.int .i64 (wOf p 0),.bool true])∧Below w.heap.size w w':=by
 go_enter Tryz.func92,Tryz.ntmps92;go_wp2_with (first|(go_at_call 113;refine (zaT _ _).mono ?_;rintro e w' ⟨rfl,rfl⟩)|(go_at_call 154;refine (zbp o _ _ _ (by simp)).mono ?_;rintro e w' ⟨rfl,rfl⟩)|(go_at_call 114;refine (zaS _ _ _).mono ?_;rintro e w' ⟨rfl,rfl⟩));go_ret2
 first
  |exact ⟨rfl,((Below.refl _ w).alloc (Nat.le_refl _) _).alloc (by simp) _⟩
  |exact ⟨rfl,(Below.refl _ w).alloc (Nat.le_refl _) _⟩
theorem znm (x y o p:Int) (w:World):Calls Tryz.prog 92 #[.int .i64 12,.agg #[.int .i64 x,.int .i64 y],.int .i64 o,.int .i64 p] w fun e w'=>e=.returned (.tuple #[.int .i64 (wOf p 0),.bool true])∧Below w.heap.size w w':=by
 go_enter Tryz.func92,Tryz.ntmps92;go_wp2_with (first|(go_at_call 113;refine (zaT _ _).mono ?_;rintro e w' ⟨rfl,rfl⟩)|(go_at_call 154;refine (zbp o _ _ _ (by simp)).mono ?_;rintro e w' ⟨rfl,rfl⟩)|(go_at_call 114;refine (zaS _ _ _).mono ?_;rintro e w' ⟨rfl,rfl⟩));go_ret2
 first
  |exact ⟨rfl,((Below.refl _ w).alloc (Nat.le_refl _) _).alloc (by simp) _⟩
  |exact ⟨rfl,(Below.refl _ w).alloc (Nat.le_refl _) _⟩
theorem znn (x y o p:Int) (w:World):Calls Tryz.prog 92 #[.int .i64 13,.agg #[.int .i64 x,.int .i64 y],.int .i64 o,.int .i64 p] w fun e w'=>e=.returned (.tuple #[.int .i64 (wOf p 0),.bool true])∧Below w.heap.size w w':=by
 go_enter Tryz.func92,Tryz.ntmps92;go_wp2_with (first|(go_at_call 113;refine (zaT _ _).mono ?_;rintro e w' ⟨rfl,rfl⟩)|(go_at_call 154;refine (zbp o _ _ _ (by simp)).mono ?_;rintro e w' ⟨rfl,rfl⟩)|(go_at_call 114;refine (zaS _ _ _).mono ?_;rintro e w' ⟨rfl,rfl⟩));go_ret2
 first
  |exact ⟨rfl,((Below.refl _ w).alloc (Nat.le_refl _) _).alloc (by simp) _⟩
  |exact ⟨rfl,(Below.refl _ w).alloc (Nat.le_refl _) _⟩
theorem zpM (x y o p:Int) (w:World):Calls Tryz.prog 92 #[.int .i64 7,.agg #[.int .i64 x,.int .i64 y],.int .i64 o,.int .i64 p] w fun e w'=>e=.returned (.tuple #[.int .i64 (wOf p y),.bool true])∧Below w.heap.size w w':=by
 go_enter Tryz.func92,Tryz.ntmps92;go_wp2_with (first|(go_at_call 113;refine (zaT _ _).mono ?_;rintro e w' ⟨rfl,rfl⟩)|(go_at_call 154;refine (zbp o _ _ _ (by simp)).mono ?_;rintro e w' ⟨rfl,rfl⟩)|(go_at_call 114;refine (zaS _ _ _).mono ?_;rintro e w' ⟨rfl,rfl⟩));go_ret2
 first
  |exact ⟨rfl,((Below.refl _ w).alloc (Nat.le_refl _) _).alloc (by simp) _⟩
  |exact ⟨rfl,(Below.refl _ w).alloc (Nat.le_refl _) _⟩
theorem zno (m x y o p:Int) (w:World) (h3:m≠3) (h4:m≠4) (h5:m≠5) (h6:m≠6) (h7:m≠7) (h8:m≠8) (h9:m≠9) (h10:m≠10) (h11:m≠11) (h12:m≠12) (h13:m≠13) (h15:m≠15) (h17:m≠17) (h18:m≠18) (h19:m≠19) (h20:m≠20):
  Calls Tryz.prog 92 #[.int .i64 m,.agg #[.int .i64 x,.int .i64 y],.int .i64 o,.int .i64 p] w fun e w'=>e=.returned (.tuple #[.int .i64 0,.bool false])∧Below w.heap.size w w':=by
 go_enter Tryz.func92,Tryz.ntmps92;go_wp2;go_ret2;exact ⟨rfl,(Below.refl _ w).alloc (Nat.le_refl _) _⟩
theorem znp (p o:Int) (w:World):Calls Tryz.prog 141 #[.int .i64 p,.int .i64 o] w fun e w'=>e=.returned (.int .i64 (wOf p (zhD o)))∧w'=w:=by
 go_enter Tryz.func141,Tryz.ntmps141;go_wp2_with (first|(go_at_call 114;refine (zaS _ _ _).mono ?_;rintro e w' ⟨rfl,rfl⟩)|(go_at_call 171;refine (zml _ _).mono ?_;rintro e w' ⟨rfl,rfl⟩));go_ret;exact ⟨rfl,rfl⟩
theorem zpN (o:Int) (w:World):Calls Tryz.prog 65 #[.int .i64 o,.bool true] w fun e w'=>e=.returned (.int .i64 (zOf o 1))∧Below w.heap.size w w':=by
 go_enter Tryz.func65,Tryz.ntmps65;go_wp2_with (first|(go_at_call 113;refine (zaT _ _).mono ?_;rintro e w' ⟨rfl,rfl⟩)|(go_at_call 154;refine (zbp o _ _ _ (by simp)).mono ?_;rintro e w' ⟨rfl,rfl⟩)|(go_at_call 114;refine (zaS _ _ _).mono ?_;rintro e w' ⟨rfl,rfl⟩));go_ret;exact ⟨rfl,(Below.refl _ w).alloc (Nat.le_refl _) _⟩
theorem zjN (o:Int) (w:World):Calls Tryz.prog 65 #[.int .i64 o,.bool false] w fun e w'=>e=.returned (.int .i64 (wOf o 1))∧Below w.heap.size w w':=by
 go_enter Tryz.func65,Tryz.ntmps65;go_wp2_with (first|(go_at_call 113;refine (zaT _ _).mono ?_;rintro e w' ⟨rfl,rfl⟩)|(go_at_call 154;refine (zbp o _ _ _ (by simp)).mono ?_;rintro e w' ⟨rfl,rfl⟩)|(go_at_call 114;refine (zaS _ _ _).mono ?_;rintro e w' ⟨rfl,rfl⟩));go_ret;exact ⟨rfl,Below.refl _ _⟩
end Go.Proofs.YtoijhhbiknhlnaaGreatDoor.N8
