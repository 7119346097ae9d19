/- Texts put together. -/
import Derived.Test.YtdiidjehdginnaaGreatDoorConsoleCountsJ02
import Derived.Test.YtdiidjehdginnaaGreatDoorConsoleCountsJ01
import Derived.Handy
import Derived.Deep.RegionHeld3
import Derived.Test.YtdiidjehdginnaaGreatDoorConsoleCountsJ09
import Derived.Test.YtdiidjehdginnaaGreatDoorConsoleCountsJ07
import Derived.WalkKit
import Derived.ProofKit
import Derived.KernelRfl
namespace Go.Proofs.YtdiidjehdginnaaGreatDoor.N8
set_option maxRecDepth 20000
open Go.RowKit
set_option linter.unusedVariables false
def zOf (b r:Int):Int:=8192+(b+r)%256
def wOf (a b:Int):Int:=(a+b)%65536
theorem zBD (b r:Int):0≤wOf b r∧wOf b r≤65535:=by unfold wOf;omega
theorem zaM (a b:Int) (w:World):Calls Tryz.prog 120 #[.int .i64 a,.int .i64 b] w fun e w'=>e=.returned (.int .i64 (wOf a b))∧w'=w:=by
 go_enter Tryz.func120,Tryz.ntmps120;go_wp2_with (go_at_call 86;refine (zaU _ _).mono ?_;rintro e w' ⟨rfl,rfl⟩);go_ret;exact ⟨rfl,rfl⟩
theorem zaQ (o:Int) (w:World):Calls Tryz.prog 119 #[.int .i64 o] w fun e w'=>
  e=.returned (.func (.func 182) #[] #[.pointer (some ⟨w.heap.size,0,none⟩)])∧w'=w.alloc (.cells #[.int .i64 o] 3):=by
 go_enter Tryz.func119,Tryz.ntmps119;go_wp2;go_ret;exact ⟨rfl,rfl⟩
theorem zbj (o r:Int) (b:Nat) (w:World) (h:w.cell? ⟨b,0,none⟩=some (.int .i64 o)):Calls Tryz.prog 182 #[.int .i64 r,.pointer (some ⟨b,0,none⟩)] w fun e w'=>
  e=.returned (.int .i64 (zOf o r))∧w'=w:=by
 go_enter Tryz.func182,Tryz.ntmps182;go_wp2_with (go_at_call 69;refine (zam _ _).mono ?_;rintro e w' ⟨rfl,rfl⟩);go_ret;exact ⟨rfl,rfl⟩
theorem zsm (x o:Int) (w:World):Calls Tryz.prog 198 #[.int .i64 6,.int .i64 x,.int .i64 o] w fun e w'=>e=.returned (.tuple #[.int .i64 (zOf o x),.bool true,.bool true])∧Below w.heap.size w w':=by
 go_enter Tryz.func198,Tryz.ntmps198;go_wp2_with (first|(go_at_call 119;refine (zaQ _ _).mono ?_;rintro e w' ⟨rfl,rfl⟩)|(go_at_call 182;refine (zbj o _ _ _ (by simp)).mono ?_;rintro e w' ⟨rfl,rfl⟩)|(go_at_call 120;refine (zaM _ _ _).mono ?_;rintro e w' ⟨rfl,rfl⟩));go_ret3
 first
  |exact ⟨rfl,(Below.refl _ w).alloc (Nat.le_refl _) _⟩
  |exact ⟨rfl,Below.refl _ _⟩
theorem zsn (x o:Int) (w:World):Calls Tryz.prog 198 #[.int .i64 7,.int .i64 x,.int .i64 o] w fun e w'=>e=.returned (.tuple #[.int .i64 (zOf o 0),.bool true,.bool true])∧Below w.heap.size w w':=by
 go_enter Tryz.func198,Tryz.ntmps198;go_wp2_with (first|(go_at_call 119;refine (zaQ _ _).mono ?_;rintro e w' ⟨rfl,rfl⟩)|(go_at_call 182;refine (zbj o _ _ _ (by simp)).mono ?_;rintro e w' ⟨rfl,rfl⟩)|(go_at_call 120;refine (zaM _ _ _).mono ?_;rintro e w' ⟨rfl,rfl⟩));go_ret3
 first
  |exact ⟨rfl,(Below.refl _ w).alloc (Nat.le_refl _) _⟩
  |exact ⟨rfl,Below.refl _ _⟩
theorem zso (x o:Int) (w:World):Calls Tryz.prog 198 #[.int .i64 8,.int .i64 x,.int .i64 o] w fun e w'=>e=.returned (.tuple #[.int .i64 (zOf o 0),.bool true,.bool true])∧Below w.heap.size w w':=by
 go_enter Tryz.func198,Tryz.ntmps198;go_wp2_with (first|(go_at_call 119;refine (zaQ _ _).mono ?_;rintro e w' ⟨rfl,rfl⟩)|(go_at_call 182;refine (zbj o _ _ _ (by simp)).mono ?_;rintro e w' ⟨rfl,rfl⟩)|(go_at_call 120;refine (zaM _ _ _).mono ?_;rintro e w' ⟨rfl,rfl⟩));go_ret3
 first
  |exact ⟨rfl,(Below.refl _ w).alloc (Nat.le_refl _) _⟩
  |exact ⟨rfl,Below.refl _ _⟩
theorem zpp (x o:Int) (w:World):Calls Tryz.prog 198 #[.int .i64 12,.int .i64 x,.int .i64 o] w fun e w'=>e=.returned (.tuple #[.int .i64 (wOf o 0),.bool false,.bool true])∧Below w.heap.size w w':=by
 go_enter Tryz.func198,Tryz.ntmps198;go_wp2_with (first|(go_at_call 119;refine (zaQ _ _).mono ?_;rintro e w' ⟨rfl,rfl⟩)|(go_at_call 182;refine (zbj o _ _ _ (by simp)).mono ?_;rintro e w' ⟨rfl,rfl⟩)|(go_at_call 120;refine (zaM _ _ _).mono ?_;rintro e w' ⟨rfl,rfl⟩));go_ret3
 first
  |exact ⟨rfl,(Below.refl _ w).alloc (Nat.le_refl _) _⟩
  |exact ⟨rfl,Below.refl _ _⟩
theorem zpq (x o:Int) (w:World):Calls Tryz.prog 198 #[.int .i64 13,.int .i64 x,.int .i64 o] w fun e w'=>e=.returned (.tuple #[.int .i64 (wOf o x),.bool false,.bool true])∧Below w.heap.size w w':=by
 go_enter Tryz.func198,Tryz.ntmps198;go_wp2_with (first|(go_at_call 119;refine (zaQ _ _).mono ?_;rintro e w' ⟨rfl,rfl⟩)|(go_at_call 182;refine (zbj o _ _ _ (by simp)).mono ?_;rintro e w' ⟨rfl,rfl⟩)|(go_at_call 120;refine (zaM _ _ _).mono ?_;rintro e w' ⟨rfl,rfl⟩));go_ret3
 first
  |exact ⟨rfl,(Below.refl _ w).alloc (Nat.le_refl _) _⟩
  |exact ⟨rfl,Below.refl _ _⟩
theorem zpr (m x o:Int) (w:World) (h6:m≠6) (h7:m≠7) (h8:m≠8) (h12:m≠12) (h13:m≠13):Calls Tryz.prog 198 #[.int .i64 m,.int .i64 x,.int .i64 o] w fun e w'=>e=.returned (.tuple #[.int .i64 0,.bool false,.bool false])∧Below w.heap.size w w':=by
 go_enter Tryz.func198,Tryz.ntmps198;go_wp2;go_ret3;exact ⟨rfl,Below.refl _ _⟩
theorem zsp (x y o p:Int) (w:World):Calls Tryz.prog 199 #[.int .i64 3,.agg #[.int .i64 x,.int .i64 y],.int .i64 o,.int .i64 p] w fun e w'=>e=.returned (.tuple #[.int .i64 (zOf o 0),.bool true])∧Below w.heap.size w w':=by
 go_enter Tryz.func199,Tryz.ntmps199;go_wp2_with (first|(go_at_call 119;refine (zaQ _ _).mono ?_;rintro e w' ⟨rfl,rfl⟩)|(go_at_call 182;refine (zbj o _ _ _ (by simp)).mono ?_;rintro e w' ⟨rfl,rfl⟩)|(go_at_call 120;refine (zaM _ _ _).mono ?_;rintro e w' ⟨rfl,rfl⟩));go_ret2
 first
  |exact ⟨rfl,((Below.refl _ w).alloc (Nat.le_refl _) _).alloc (by simp) _⟩
  |exact ⟨rfl,(Below.refl _ w).alloc (Nat.le_refl _) _⟩
theorem zps (x y o p:Int) (w:World):Calls Tryz.prog 199 #[.int .i64 15,.agg #[.int .i64 x,.int .i64 y],.int .i64 o,.int .i64 p] w fun e w'=>e=.returned (.tuple #[.int .i64 (zOf o 0),.bool true])∧Below w.heap.size w w':=by
 go_enter Tryz.func199,Tryz.ntmps199;go_wp2_with (first|(go_at_call 119;refine (zaQ _ _).mono ?_;rintro e w' ⟨rfl,rfl⟩)|(go_at_call 182;refine (zbj o _ _ _ (by simp)).mono ?_;rintro e w' ⟨rfl,rfl⟩)|(go_at_call 120;refine (zaM _ _ _).mono ?_;rintro e w' ⟨rfl,rfl⟩));go_ret2
 first
  |exact ⟨rfl,((Below.refl _ w).alloc (Nat.le_refl _) _).alloc (by simp) _⟩
  |exact ⟨rfl,(Below.refl _ w).alloc (Nat.le_refl _) _⟩
theorem zpt (x y o p:Int) (w:World):Calls Tryz.prog 199 #[.int .i64 17,.agg #[.int .i64 x,.int .i64 y],.int .i64 o,.int .i64 p] w fun e w'=>e=.returned (.tuple #[.int .i64 (zOf o 0),.bool true])∧Below w.heap.size w w':=by
 go_enter Tryz.func199,Tryz.ntmps199;go_wp2_with (first|(go_at_call 119;refine (zaQ _ _).mono ?_;rintro e w' ⟨rfl,rfl⟩)|(go_at_call 182;refine (zbj o _ _ _ (by simp)).mono ?_;rintro e w' ⟨rfl,rfl⟩)|(go_at_call 120;refine (zaM _ _ _).mono ?_;rintro e w' ⟨rfl,rfl⟩));go_ret2
 first
  |exact ⟨rfl,((Below.refl _ w).alloc (Nat.le_refl _) _).alloc (by simp) _⟩
  |exact ⟨rfl,(Below.refl _ w).alloc (Nat.le_refl _) _⟩
theorem zsq (x y o p:Int) (w:World):Calls Tryz.prog 199 #[.int .i64 4,.agg #[.int .i64 x,.int .i64 y],.int .i64 o,.int .i64 p] w fun e w'=>e=.returned (.tuple #[.int .i64 (zOf o x),.bool true])∧Below w.heap.size w w':=by
 go_enter Tryz.func199,Tryz.ntmps199;go_wp2_with (first|(go_at_call 119;refine (zaQ _ _).mono ?_;rintro e w' ⟨rfl,rfl⟩)|(go_at_call 182;refine (zbj o _ _ _ (by simp)).mono ?_;rintro e w' ⟨rfl,rfl⟩)|(go_at_call 120;refine (zaM _ _ _).mono ?_;rintro e w' ⟨rfl,rfl⟩));go_ret2
 first
  |exact ⟨rfl,((Below.refl _ w).alloc (Nat.le_refl _) _).alloc (by simp) _⟩
  |exact ⟨rfl,(Below.refl _ w).alloc (Nat.le_refl _) _⟩
theorem zpu (x y o p:Int) (w:World):Calls Tryz.prog 199 #[.int .i64 18,.agg #[.int .i64 x,.int .i64 y],.int .i64 o,.int .i64 p] w fun e w'=>e=.returned (.tuple #[.int .i64 (zOf o x),.bool true])∧Below w.heap.size w w':=by
 go_enter Tryz.func199,Tryz.ntmps199;go_wp2_with (first|(go_at_call 119;refine (zaQ _ _).mono ?_;rintro e w' ⟨rfl,rfl⟩)|(go_at_call 182;refine (zbj o _ _ _ (by simp)).mono ?_;rintro e w' ⟨rfl,rfl⟩)|(go_at_call 120;refine (zaM _ _ _).mono ?_;rintro e w' ⟨rfl,rfl⟩));go_ret2
 first
  |exact ⟨rfl,((Below.refl _ w).alloc (Nat.le_refl _) _).alloc (by simp) _⟩
  |exact ⟨rfl,(Below.refl _ w).alloc (Nat.le_refl _) _⟩
theorem zsr (x y o p:Int) (w:World):Calls Tryz.prog 199 #[.int .i64 5,.agg #[.int .i64 x,.int .i64 y],.int .i64 o,.int .i64 p] w fun e w'=>e=.returned (.tuple #[.int .i64 (zOf o y),.bool true])∧Below w.heap.size w w':=by
 go_enter Tryz.func199,Tryz.ntmps199;go_wp2_with (first|(go_at_call 119;refine (zaQ _ _).mono ?_;rintro e w' ⟨rfl,rfl⟩)|(go_at_call 182;refine (zbj o _ _ _ (by simp)).mono ?_;rintro e w' ⟨rfl,rfl⟩)|(go_at_call 120;refine (zaM _ _ _).mono ?_;rintro e w' ⟨rfl,rfl⟩));go_ret2
 first
  |exact ⟨rfl,((Below.refl _ w).alloc (Nat.le_refl _) _).alloc (by simp) _⟩
  |exact ⟨rfl,(Below.refl _ w).alloc (Nat.le_refl _) _⟩
theorem zss (x y o p:Int) (w:World):Calls Tryz.prog 199 #[.int .i64 9,.agg #[.int .i64 x,.int .i64 y],.int .i64 o,.int .i64 p] w fun e w'=>e=.returned (.tuple #[.int .i64 (wOf o 0),.bool true])∧Below w.heap.size w w':=by
 go_enter Tryz.func199,Tryz.ntmps199;go_wp2_with (first|(go_at_call 119;refine (zaQ _ _).mono ?_;rintro e w' ⟨rfl,rfl⟩)|(go_at_call 182;refine (zbj o _ _ _ (by simp)).mono ?_;rintro e w' ⟨rfl,rfl⟩)|(go_at_call 120;refine (zaM _ _ _).mono ?_;rintro e w' ⟨rfl,rfl⟩));go_ret2
 first
  |exact ⟨rfl,((Below.refl _ w).alloc (Nat.le_refl _) _).alloc (by simp) _⟩
  |exact ⟨rfl,(Below.refl _ w).alloc (Nat.le_refl _) _⟩
theorem zpv (x y o p:Int) (w:World):Calls Tryz.prog 199 #[.int .i64 19,.agg #[.int .i64 x,.int .i64 y],.int .i64 o,.int .i64 p] w fun e w'=>e=.returned (.tuple #[.int .i64 (wOf o 0),.bool true])∧Below w.heap.size w w':=by
 go_enter Tryz.func199,Tryz.ntmps199;go_wp2_with (first|(go_at_call 119;refine (zaQ _ _).mono ?_;rintro e w' ⟨rfl,rfl⟩)|(go_at_call 182;refine (zbj o _ _ _ (by simp)).mono ?_;rintro e w' ⟨rfl,rfl⟩)|(go_at_call 120;refine (zaM _ _ _).mono ?_;rintro e w' ⟨rfl,rfl⟩));go_ret2
 first
  |exact ⟨rfl,((Below.refl _ w).alloc (Nat.le_refl _) _).alloc (by simp) _⟩
  |exact ⟨rfl,(Below.refl _ w).alloc (Nat.le_refl _) _⟩
theorem zpw (x y o p:Int) (w:World):Calls Tryz.prog 199 #[.int .i64 10,.agg #[.int .i64 x,.int .i64 y],.int .i64 o,.int .i64 p] w fun e w'=>e=.returned (.tuple #[.int .i64 (wOf o x),.bool true])∧Below w.heap.size w w':=by
 go_enter Tryz.func199,Tryz.ntmps199;go_wp2_with (first|(go_at_call 119;refine (zaQ _ _).mono ?_;rintro e w' ⟨rfl,rfl⟩)|(go_at_call 182;refine (zbj o _ _ _ (by simp)).mono ?_;rintro e w' ⟨rfl,rfl⟩)|(go_at_call 120;refine (zaM _ _ _).mono ?_;rintro e w' ⟨rfl,rfl⟩));go_ret2
 first
  |exact ⟨rfl,((Below.refl _ w).alloc (Nat.le_refl _) _).alloc (by simp) _⟩
  |exact ⟨rfl,(Below.refl _ w).alloc (Nat.le_refl _) _⟩
theorem zpx (x y o p:Int) (w:World):Calls Tryz.prog 199 #[.int .i64 20,.agg #[.int .i64 x,.int .i64 y],.int .i64 o,.int .i64 p] w fun e w'=>e=.returned (.tuple #[.int .i64 (wOf o x),.bool true])∧Below w.heap.size w w':=by
 go_enter Tryz.func199,Tryz.ntmps199;go_wp2_with (first|(go_at_call 119;refine (zaQ _ _).mono ?_;rintro e w' ⟨rfl,rfl⟩)|(go_at_call 182;refine (zbj o _ _ _ (by simp)).mono ?_;rintro e w' ⟨rfl,rfl⟩)|(go_at_call 120;refine (zaM _ _ _).mono ?_;rintro e w' ⟨rfl,rfl⟩));go_ret2
 first
  |exact ⟨rfl,((Below.refl _ w).alloc (Nat.le_refl _) _).alloc (by simp) _⟩
  |exact ⟨rfl,(Below.refl _ w).alloc (Nat.le_refl _) _⟩
theorem zpy (x y o p:Int) (w:World):Calls Tryz.prog 199 #[.int .i64 11,.agg #[.int .i64 x,.int .i64 y],.int .i64 o,.int .i64 p] w fun e w'=>e=.returned (.tuple #[.int .i64 (wOf o y),.bool true])∧Below w.heap.size w w':=by
 go_enter Tryz.func199,Tryz.ntmps199;go_wp2_with (first|(go_at_call 119;refine (zaQ _ _).mono ?_;rintro e w' ⟨rfl,rfl⟩)|(go_at_call 182;refine (zbj o _ _ _ (by simp)).mono ?_;rintro e w' ⟨rfl,rfl⟩)|(go_at_call 120;refine (zaM _ _ _).mono ?_;rintro e w' ⟨rfl,rfl⟩));go_ret2
 first
  |exact ⟨rfl,((Below.refl _ w).alloc (Nat.le_refl _) _).alloc (by simp) _⟩
  |exact ⟨rfl,(Below.refl _ w).alloc (Nat.le_refl _) _⟩
theorem zst (x y o p:Int) (w:World):Calls Tryz.prog 199 #[.int .i64 6,.agg #[.int .i64 x,.int .i64 y],.int .i64 o,.int .i64 p] w fun e w'=>e=.returned (.tuple #[.int .i64 (wOf p 0),.bool true])∧Below w.heap.size w w':=by
 go_enter Tryz.func199,Tryz.ntmps199;go_wp2_with (first|(go_at_call 119;refine (zaQ _ _).mono ?_;rintro e w' ⟨rfl,rfl⟩)|(go_at_call 182;refine (zbj o _ _ _ (by simp)).mono ?_;rintro e w' ⟨rfl,rfl⟩)|(go_at_call 120;refine (zaM _ _ _).mono ?_;rintro e w' ⟨rfl,rfl⟩));go_ret2
 first
  |exact ⟨rfl,((Below.refl _ w).alloc (Nat.le_refl _) _).alloc (by simp) _⟩
  |exact ⟨rfl,(Below.refl _ w).alloc (Nat.le_refl _) _⟩
theorem zsu (x y o p:Int) (w:World):Calls Tryz.prog 199 #[.int .i64 8,.agg #[.int .i64 x,.int .i64 y],.int .i64 o,.int .i64 p] w fun e w'=>e=.returned (.tuple #[.int .i64 (wOf p 0),.bool true])∧Below w.heap.size w w':=by
 go_enter Tryz.func199,Tryz.ntmps199;go_wp2_with (first|(go_at_call 119;refine (zaQ _ _).mono ?_;rintro e w' ⟨rfl,rfl⟩)|(go_at_call 182;refine (zbj o _ _ _ (by simp)).mono ?_;rintro e w' ⟨rfl,rfl⟩)|(go_at_call 120;refine (zaM _ _ _).mono ?_;rintro e w' ⟨rfl,rfl⟩));go_ret2
 first
  |exact ⟨rfl,((Below.refl _ w).alloc (Nat.le_refl _) _).alloc (by simp) _⟩
  |exact ⟨rfl,(Below.refl _ w).alloc (Nat.le_refl _) _⟩
theorem zpz (x y o p:Int) (w:World):Calls Tryz.prog 199 #[.int .i64 12,.agg #[.int .i64 x,.int .i64 y],.int .i64 o,.int .i64 p] w fun e w'=>e=.returned (.tuple #[.int .i64 (wOf p 0),.bool true])∧Below w.heap.size w w':=by
 go_enter Tryz.func199,Tryz.ntmps199;go_wp2_with (first|(go_at_call 119;refine (zaQ _ _).mono ?_;rintro e w' ⟨rfl,rfl⟩)|(go_at_call 182;refine (zbj o _ _ _ (by simp)).mono ?_;rintro e w' ⟨rfl,rfl⟩)|(go_at_call 120;refine (zaM _ _ _).mono ?_;rintro e w' ⟨rfl,rfl⟩));go_ret2
 first
  |exact ⟨rfl,((Below.refl _ w).alloc (Nat.le_refl _) _).alloc (by simp) _⟩
  |exact ⟨rfl,(Below.refl _ w).alloc (Nat.le_refl _) _⟩
theorem zpA (x y o p:Int) (w:World):Calls Tryz.prog 199 #[.int .i64 13,.agg #[.int .i64 x,.int .i64 y],.int .i64 o,.int .i64 p] w fun e w'=>e=.returned (.tuple #[.int .i64 (wOf p 0),.bool true])∧Below w.heap.size w w':=by
 go_enter Tryz.func199,Tryz.ntmps199;go_wp2_with (first|(go_at_call 119;refine (zaQ _ _).mono ?_;rintro e w' ⟨rfl,rfl⟩)|(go_at_call 182;refine (zbj o _ _ _ (by simp)).mono ?_;rintro e w' ⟨rfl,rfl⟩)|(go_at_call 120;refine (zaM _ _ _).mono ?_;rintro e w' ⟨rfl,rfl⟩));go_ret2
 first
  |exact ⟨rfl,((Below.refl _ w).alloc (Nat.le_refl _) _).alloc (by simp) _⟩
  |exact ⟨rfl,(Below.refl _ w).alloc (Nat.le_refl _) _⟩
theorem zsv (x y o p:Int) (w:World):Calls Tryz.prog 199 #[.int .i64 7,.agg #[.int .i64 x,.int .i64 y],.int .i64 o,.int .i64 p] w fun e w'=>e=.returned (.tuple #[.int .i64 (wOf p y),.bool true])∧Below w.heap.size w w':=by
 go_enter Tryz.func199,Tryz.ntmps199;go_wp2_with (first|(go_at_call 119;refine (zaQ _ _).mono ?_;rintro e w' ⟨rfl,rfl⟩)|(go_at_call 182;refine (zbj o _ _ _ (by simp)).mono ?_;rintro e w' ⟨rfl,rfl⟩)|(go_at_call 120;refine (zaM _ _ _).mono ?_;rintro e w' ⟨rfl,rfl⟩));go_ret2
 first
  |exact ⟨rfl,((Below.refl _ w).alloc (Nat.le_refl _) _).alloc (by simp) _⟩
  |exact ⟨rfl,(Below.refl _ w).alloc (Nat.le_refl _) _⟩
theorem zpB (m x y o p:Int) (w:World) (h3:m≠3) (h4:m≠4) (h5:m≠5) (h6:m≠6) (h7:m≠7) (h8:m≠8) (h9:m≠9) (h10:m≠10) (h11:m≠11) (h12:m≠12) (h13:m≠13) (h15:m≠15) (h17:m≠17) (h18:m≠18) (h19:m≠19) (h20:m≠20):
  Calls Tryz.prog 199 #[.int .i64 m,.agg #[.int .i64 x,.int .i64 y],.int .i64 o,.int .i64 p] w fun e w'=>e=.returned (.tuple #[.int .i64 0,.bool false])∧Below w.heap.size w w':=by
 go_enter Tryz.func199,Tryz.ntmps199;go_wp2;go_ret2;exact ⟨rfl,(Below.refl _ w).alloc (Nat.le_refl _) _⟩
theorem zpC (p o:Int) (w:World):Calls Tryz.prog 241 #[.int .i64 p,.int .i64 o] w fun e w'=>e=.returned (.int .i64 (wOf p (zfF o)))∧w'=w:=by
 go_enter Tryz.func241,Tryz.ntmps241;go_wp2_with (first|(go_at_call 120;refine (zaM _ _ _).mono ?_;rintro e w' ⟨rfl,rfl⟩)|(go_at_call 261;refine (zoy _ _).mono ?_;rintro e w' ⟨rfl,rfl⟩));go_ret;exact ⟨rfl,rfl⟩
theorem zsw (o:Int) (w:World):Calls Tryz.prog 71 #[.int .i64 o,.bool false] w fun e w'=>e=.returned (.int .i64 (wOf o 1))∧Below w.heap.size w w':=by
 go_enter Tryz.func71,Tryz.ntmps71;go_wp2_with (first|(go_at_call 119;refine (zaQ _ _).mono ?_;rintro e w' ⟨rfl,rfl⟩)|(go_at_call 182;refine (zbj o _ _ _ (by simp)).mono ?_;rintro e w' ⟨rfl,rfl⟩)|(go_at_call 120;refine (zaM _ _ _).mono ?_;rintro e w' ⟨rfl,rfl⟩));go_ret;exact ⟨rfl,Below.refl _ _⟩
end Go.Proofs.YtdiidjehdginnaaGreatDoor.N8
namespace Go.Proofs.YtdiidjehdginnaaGreatDoor.K9
set_option maxRecDepth 20000
open Go.RowKit
set_option linter.unusedVariables false
def zgc:Array Value:=#[.int .i64 0,.int .i64 0,.int .i64 1,.int .i64 1,.int .i64 0,.int .i64 2,.int .i64 0,.int .i64 3,.int .i64 3,.int .i64 0]
def zvJ (w:World):Prop:=∃t fr,w.heap[8]? = some (.cells zgc t fr)
end Go.Proofs.YtdiidjehdginnaaGreatDoor.K9
namespace Go.Proofs.YtdiidjehdginnaaGreatDoor.L25
set_option maxRecDepth 20000
open B4 C3 G6 I11 J23 K9 L24 M5 N8 P22 R15 T10 V12 W13
open Go.RowKit
set_option linter.unusedVariables false
variable {t:Bool} {nm:ByteArray} {bs:List Int} {a b c d s v:Nat} {B I:Nat→Int} {Z Z':Nat→Nat→Int} {w w':World}
def infV (nm:ByteArray) (m l c:Int):Nat→Value:=fun j=>if j=0 then .string nm else if j=1 then .int .i64 m else if j=2 then .int .i64 l else .int .i64 c
def SP (b:Nat) (nm:ByteArray) (I B:Nat→Int) (t:Bool) (Z:Nat→Nat→Int):List (Nat×(Nat→Value)):=
 [(6,iv (Z 20)),(1,fun _=>.bool (isB (Z 21 0))),(1,fun _=>Value.int .i64 (Z 22 0)),(1,fun _=>.pointer (some ⟨b,0,none⟩)),(1,fun _=>Value.int .i64 (Z 23 0)),(4,infV nm (I 0) (I 1) (I 2)),(6,iv B),(4,iv fun j=>I (j+3)),(1,fun _=>.bool t)]
def zhD:Array Value:=#[.int .i64 2088960,.int .i64 2088962,.int .i64 2088963]
def zBE (w:World):Prop:=∃t fr,w.heap[4]? = some (.cells zhD t fr)
def zgd:Array Value:=#[.string ⟨#[84,73,73]⟩,.string ⟨#[84,68,68]⟩,.string ⟨#[84,73,78]⟩,.string ⟨#[84,73,65]⟩,.string ⟨#[84,65,73]⟩]
def zvK (w:World):Prop:=∃t fr,w.heap[7]? = some (.cells zgd t fr)
def CT (w:World):Prop:=zny w∧zvJ w∧zvK w∧zBE w
theorem zbY {g:Nat} {o:Obj} (h:w.heap[g]? = some o) (k:Below w.heap.size w w'):w'.heap[g]? = some o:=(k.block g (lt_of_block h)).trans h
theorem CT.next (h:CT w) (k:Below w.heap.size w w'):CT w':=by
 obtain ⟨⟨t0,f0,e0⟩,⟨t1,f1,e1⟩,⟨t2,f2,e2⟩,⟨t3,f3,e3⟩⟩:=h;exact ⟨⟨t0,f0,zbY e0 k⟩,⟨t1,f1,zbY e1 k⟩,⟨t2,f2,zbY e2 k⟩,⟨t3,f3,zbY e3 k⟩⟩
theorem CT.only {E:Nat→Prop} (h:CT w) (k:OnlyE E w w') (hE:∀b,E b→10≤b):CT w':=by
 obtain ⟨⟨t0,f0,e0⟩,⟨t1,f1,e1⟩,⟨t2,f2,e2⟩,⟨t3,f3,e3⟩⟩:=h;exact ⟨⟨t0,f0,k.obj e0 fun e=>absurd (hE _ e) (by decide)⟩,⟨t1,f1,k.obj e1 fun e=>absurd (hE _ e) (by decide)⟩,⟨t2,f2,k.obj e2 fun e=>absurd (hE _ e) (by decide)⟩,⟨t3,f3,k.obj e3 fun e=>absurd (hE _ e) (by decide)⟩⟩
def HasQ (w:World) (s b v c d:Nat) (bs:List Int) (nm:ByteArray) (I B:Nat→Int) (t:Bool) (Z:Nat→Nat→Int):Prop:=
 HasF 110 w s 25 (segs (SP b nm I B t Z))∧HasP w b v c d bs Z∧CT w∧(∀k,GZ k (Z k))∧(s≠b∧s≠v∧s≠c∧s≠d∧10≤s∧10≤b∧10≤v)∧zdb ((bs.length/8192:Nat):Int)=true∧bs.length/8192≠320
def EQ (s b v:Nat):Nat→Prop:=fun k=>k=s∨k=b∨k=v
theorem HasQ.next (h:HasQ w s b v c d bs nm I B t Z) (k:Below w.heap.size w w'):HasQ w' s b v c d bs nm I B t Z:=⟨h.1.next k,h.2.1.next k,h.2.2.1.next k,h.2.2.2⟩
theorem HasQ.good (h:HasQ w s b v c d bs nm I B t Z):∀k,GZ k (Z k):=h.2.2.2.1
theorem HasQ.lt (h:HasQ w s b v c d bs nm I B t Z):s<w.heap.size:=h.1.lt
theorem zyJ (k:OnlyE (EX b v) w w'):OnlyE (EQ s b v) w w':=⟨k.1,k.2.1,k.2.2.1,k.size,fun i hi hE=>k.block i hi fun e=>hE (.inr e)⟩
theorem zet (k:Below w.heap.size w w'):OnlyE (EQ s b v) w w':=OnlyE.of k
theorem zcP (k:OnlyE (EQ s b v) w w') (o:Nat) (x:Value):OnlyE (EQ s b v) w (w'.setCell ⟨s,o,none⟩ x):=k.set s o x (.inl rfl)
theorem HasQ.bus (h:HasQ w s b v c d bs nm I B t Z) (p:HasP w' b v c d bs Z') (k:OnlyE (EX b v) w w') (g:∀k,GZ k (Z' k)) (e0:Z' 20=Z 20) (e1:Z' 21=Z 21) (e2:Z' 22=Z 22) (e3:Z' 23=Z 23):HasQ w' s b v c d bs nm I B t Z':=by
 obtain ⟨q1,q2,q3,q4,⟨n1,n2,n3,n4,n5,n6,n7⟩,q6,q7⟩:=h;refine ⟨?_,p,q3.only k (fun i e=>by rcases e with rfl|rfl<;>assumption),g,⟨n1,n2,n3,n4,n5,n6,n7⟩,q6,q7⟩;have e:SP b nm I B t Z'=SP b nm I B t Z:=by unfold SP;rw [e0,e1,e2,e3]
 rw [e];exact k.obj q1 (fun e=>by rcases e with e|e;exact n1 e;exact n2 e)
theorem HasQ.put (h:HasQ w s b v c d bs nm I B t Z) {o:Nat} {x:Value} {nm':ByteArray} {I' B':Nat→Int} {t':Bool} (p:HasF 110 (w.setCell ⟨s,o,none⟩ x) s 25 (segs (SP b nm' I' B' t' Z'))) (g:∀k,GZ k (Z' k)) (e:∀k,k<20→Z' k=Z k):HasQ (w.setCell ⟨s,o,none⟩ x) s b v c d bs nm' I' B' t' Z':=by
 obtain ⟨q1,q2,q3,q4,⟨n1,n2,n3,n4,n5,n6,n7⟩,q6,q7⟩:=h;have k:OnlyE (fun i=>i=s) w (w.setCell ⟨s,o,none⟩ x):=(OnlyE.of (Below.refl _ w)).set s o x rfl;refine ⟨p,?_,q3.only k (fun i e=>e▸n5),g,⟨n1,n2,n3,n4,n5,n6,n7⟩,q6,q7⟩;have z:HasP (w.setCell ⟨s,o,none⟩ x) b v c d bs Z:=by
  refine HasP.only q2 k (fun e=>n1 e.symm) (fun e=>n2 e.symm) (fun e=>n3 e.symm) (fun e=>n4 e.symm) (fun i e=>?_);subst e;exact ⟨Nat.lt_of_lt_of_le (by decide) n5,Nat.lt_of_lt_of_le (by decide) n5,Nat.lt_of_lt_of_le (by decide) n5⟩
 have ez:XP v c Z'=XP v c Z:=by
  unfold XP;rw [e 0 (by decide),e 2 (by decide),e 3 (by decide),e 4 (by decide),e 5 (by decide),e 7 (by decide),e 8 (by decide),e 9 (by decide),e 10 (by decide),e 11 (by decide),e 12 (by decide),e 13 (by decide),e 14 (by decide),e 15 (by decide),e 16 (by decide),e 17 (by decide)]
 unfold L24.HasP at z ⊢;rw [ez,e 18 (by decide),e 19 (by decide)];exact z
theorem up20 {k:Nat} (g:Nat→Int) (hk:20≤k):∀j,j<20→upZ Z k g j=Z j:=fun j hj=>zfp hk Z g j hj
theorem zsx (f:Nat→Int) (i:Nat) (x:Int):updC (iv f) i (.int .i64 x)=iv (up f i x):=funext fun j=>by
 unfold updC iv up;split<;>rfl
theorem HasQ.reg (h:HasQ w s b v c d bs nm I B t Z) (k:Nat) (hk:k<6):w.cell? ⟨s,k,none⟩=some (.int .i64 (Z 20 k)):=h.1.get 0 rfl k hk (a:=k) (by rw [zex,Nat.zero_add]) (by omega)
theorem HasQ.fast (h:HasQ w s b v c d bs nm I B t Z):w.cell? ⟨s,6,none⟩=some (.bool (isB (Z 21 0))):=h.1.get1 1 rfl rfl (by decide)
theorem HasQ.last (h:HasQ w s b v c d bs nm I B t Z):w.cell? ⟨s,7,none⟩=some (.int .i64 (Z 22 0)):=h.1.get1 2 rfl rfl (by decide)
theorem HasQ.buss (h:HasQ w s b v c d bs nm I B t Z):w.cell? ⟨s,8,none⟩=some (.pointer (some ⟨b,0,none⟩)):=h.1.get1 3 rfl rfl (by decide)
theorem HasQ.cycs (h:HasQ w s b v c d bs nm I B t Z):w.cell? ⟨s,9,none⟩=some (.int .i64 (Z 23 0)):=h.1.get1 4 rfl rfl (by decide)
theorem HasQ.name (h:HasQ w s b v c d bs nm I B t Z):w.cell? ⟨s,10,none⟩=some (.string nm):=h.1.get 5 rfl 0 (by decide) rfl (by decide)
theorem HasQ.mode (h:HasQ w s b v c d bs nm I B t Z):w.cell? ⟨s,11,none⟩=some (.int .i64 (I 0)):=h.1.get 5 rfl 1 (by decide) rfl (by decide)
theorem HasQ.leng (h:HasQ w s b v c d bs nm I B t Z):w.cell? ⟨s,12,none⟩=some (.int .i64 (I 1)):=h.1.get 5 rfl 2 (by decide) rfl (by decide)
theorem HasQ.takes (h:HasQ w s b v c d bs nm I B t Z):w.cell? ⟨s,13,none⟩=some (.int .i64 (I 2)):=h.1.get 5 rfl 3 (by decide) rfl (by decide)
theorem HasQ.beh (h:HasQ w s b v c d bs nm I B t Z) (k:Nat) (hk:k<6) (ha:14+k=a):w.cell? ⟨s,a,none⟩=some (.int .i64 (B k)):=h.1.get 6 rfl k hk (a:=a) ha (by omega)
theorem HasQ.oper (h:HasQ w s b v c d bs nm I B t Z):w.cell? ⟨s,20,none⟩=some (.int .i64 (I 3)):=h.1.get 7 rfl 0 (by decide) rfl (by decide)
theorem HasQ.farr (h:HasQ w s b v c d bs nm I B t Z):w.cell? ⟨s,22,none⟩=some (.int .i64 (I 5)):=h.1.get 7 rfl 2 (by decide) rfl (by decide)
theorem HasQ.plac (h:HasQ w s b v c d bs nm I B t Z):w.cell? ⟨s,23,none⟩=some (.int .i64 (I 6)):=h.1.get 7 rfl 3 (by decide) rfl (by decide)
theorem HasQ.onm (h:HasQ w s b v c d bs nm I B t Z):w.cell? ⟨s,24,none⟩=some (.bool t):=h.1.get1 8 rfl rfl (by decide)
theorem HasQ.frz (h:HasQ w s b v c d bs nm I B t Z) (k:Nat):w.frozen? ⟨s,k,none⟩=false:=h.1.frozen k
theorem HasQ.putR (h:HasQ w s b v c d bs nm I B t Z) (k:Nat) (hk:k<6) (x:Int) (hx:GZ 20 (up (Z 20) k x)):HasQ (w.setCell ⟨s,k,none⟩ (.int .i64 x)) s b v c d bs nm I B t (setR Z k x):=by
 refine h.put ?_ (zaJ h.good 20 _ hx) (up20 _ (by decide));have q:=h.1.put 0 rfl k hk (a:=k) (by rw [zex,Nat.zero_add]) (.int .i64 x);rw [zsx] at q;exact q
theorem HasQ.putC (h:HasQ w s b v c d bs nm I B t Z) (x:Int):HasQ (w.setCell ⟨s,9,none⟩ (.int .i64 x)) s b v c d bs nm I B t (upZ Z 23 (oneV x)):=
 h.put (h.1.put1 4 rfl rfl (.int .i64 x)) (zaJ h.good 23 _ trivial) (up20 _ (by decide))
theorem HasQ.putF (h:HasQ w s b v c d bs nm I B t Z) (x:Bool):HasQ (w.setCell ⟨s,6,none⟩ (.bool x)) s b v c d bs nm I B t (upZ Z 21 (oneV (b2i x))):=by
 cases x with
 |false=>exact h.put (h.1.put1 1 rfl rfl (.bool false)) (zaJ h.good 21 _ trivial) (up20 _ (by decide))
 |true=>exact h.put (h.1.put1 1 rfl rfl (.bool true)) (zaJ h.good 21 _ trivial) (up20 _ (by decide))
theorem HasQ.putL (h:HasQ w s b v c d bs nm I B t Z) (x:Int):HasQ (w.setCell ⟨s,7,none⟩ (.int .i64 x)) s b v c d bs nm I B t (upZ Z 22 (oneV x)):=
 h.put (h.1.put1 2 rfl rfl (.int .i64 x)) (zaJ h.good 22 _ trivial) (up20 _ (by decide))
theorem HasQ.putB (h:HasQ w s b v c d bs nm I B t Z) (k:Nat) (hk:k<6) (x:Int) (ha:14+k=a):HasQ (w.setCell ⟨s,a,none⟩ (.int .i64 x)) s b v c d bs nm I (up B k x) t Z:=by
 refine h.put ?_ h.good (fun _ _=>rfl);have q:=h.1.put 6 rfl k hk (a:=a) ha (.int .i64 x);rw [zsx] at q;exact q
theorem HasQ.putI (h:HasQ w s b v c d bs nm I B t Z) (k:Nat) (hk:k<4) (x:Int) (ha:20+k=a):HasQ (w.setCell ⟨s,a,none⟩ (.int .i64 x)) s b v c d bs nm (up I (k+3) x) B t Z:=by
 refine h.put ?_ h.good (fun _ _=>rfl);have q:=h.1.put 7 rfl k hk (a:=a) ha (.int .i64 x);rw [zsx] at q;have e:SP b nm (up I (k+3) x) B t Z=(SP b nm I B t Z).set 7 (4,iv (up (fun j=>I (j+3)) k x)):=by
  have e2:(fun j=>up I (k+3) x (j+3))=up (fun j=>I (j+3)) k x:=funext fun j=>by
   unfold up
   by_cases e:j=k
   ·rw [if_pos e,if_pos (by omega)]
   ·rw [if_neg e,if_neg (by omega)]
  unfold SP;rw [e2,zbC I (k+3) 0 x (by omega),zbC I (k+3) 1 x (by omega),zbC I (k+3) 2 x (by omega)];rfl
 rw [e];exact q
theorem HasQ.putT (h:HasQ w s b v c d bs nm I B t Z) (x:Bool):HasQ (w.setCell ⟨s,24,none⟩ (.bool x)) s b v c d bs nm I B x Z:=h.put (h.1.put1 8 rfl rfl (.bool x)) h.good (fun _ _=>rfl)
end Go.Proofs.YtdiidjehdginnaaGreatDoor.L25
namespace Go.Proofs.YtdiidjehdginnaaGreatDoor.O7
set_option maxRecDepth 20000
open Go.RowKit
def tbl:List (List UInt8×Int×Int):=[
 ([66,82,75],0,8),([79,82,65],6,7),([83,88,89],0,3),([83,84,48],2,4),
 ([84,83,66],3,6),([79,82,65],3,4),([65,83,76],3,6),([82,77,66,48],3,7),
 ([80,72,80],0,3),([79,82,65],2,2),([65,83,76],1,2),([78,79,80],0,2),
 ([84,83,66],9,7),([79,82,65],9,5),([65,83,76],9,7),([66,66,82,48],15,6),
 ([66,80,76],14,2),([79,82,65],7,7),([79,82,65],8,7),([83,84,49],2,4),
 ([84,82,66],3,6),([79,82,65],4,4),([65,83,76],4,6),([82,77,66,49],3,7),
 ([67,76,67],0,2),([79,82,65],11,5),([73,78,67],1,2),([78,79,80],0,2),
 ([84,82,66],9,7),([79,82,65],10,5),([65,83,76],10,7),([66,66,82,49],15,6),
 ([74,83,82],9,7),([65,78,68],6,7),([83,65,88],0,3),([83,84,50],2,4),
 ([66,73,84],3,4),([65,78,68],3,4),([82,79,76],3,6),([82,77,66,50],3,7),
 ([80,76,80],0,4),([65,78,68],2,2),([82,79,76],1,2),([78,79,80],0,2),
 ([66,73,84],9,5),([65,78,68],9,5),([82,79,76],9,7),([66,66,82,50],15,6),
 ([66,77,73],14,2),([65,78,68],7,7),([65,78,68],8,7),([78,79,80],0,2),
 ([66,73,84],4,4),([65,78,68],4,4),([82,79,76],4,6),([82,77,66,51],3,7),
 ([83,69,67],0,2),([65,78,68],11,5),([68,69,67],1,2),([78,79,80],0,2),
 ([66,73,84],10,5),([65,78,68],10,5),([82,79,76],10,7),([66,66,82,51],15,6),
 ([82,84,73],0,7),([69,79,82],6,7),([83,65,89],0,3),([84,77,65],2,4),
 ([66,83,82],14,8),([69,79,82],3,4),([76,83,82],3,6),([82,77,66,52],3,7),
 ([80,72,65],0,3),([69,79,82],2,2),([76,83,82],1,2),([78,79,80],0,2),
 ([74,77,80],9,4),([69,79,82],9,5),([76,83,82],9,7),([66,66,82,52],15,6),
 ([66,86,67],14,2),([69,79,82],7,7),([69,79,82],8,7),([84,65,77],2,5),
 ([67,83,76],0,3),([69,79,82],4,4),([76,83,82],4,6),([82,77,66,53],3,7),
 ([67,76,73],0,2),([69,79,82],11,5),([80,72,89],0,3),([78,79,80],0,2),
 ([78,79,80],0,2),([69,79,82],10,5),([76,83,82],10,7),([66,66,82,53],15,6),
 ([82,84,83],0,7),([65,68,67],6,7),([67,76,65],0,2),([78,79,80],0,2),
 ([83,84,90],3,4),([65,68,67],3,4),([82,79,82],3,6),([82,77,66,54],3,7),
 ([80,76,65],0,4),([65,68,67],2,2),([82,79,82],1,2),([78,79,80],0,2),
 ([74,77,80],12,7),([65,68,67],9,5),([82,79,82],9,7),([66,66,82,54],15,6),
 ([66,86,83],14,2),([65,68,67],7,7),([65,68,67],8,7),([84,73,73],16,17),
 ([83,84,90],4,4),([65,68,67],4,4),([82,79,82],4,6),([82,77,66,55],3,7),
 ([83,69,73],0,2),([65,68,67],11,5),([80,76,89],0,4),([78,79,80],0,2),
 ([74,77,80],13,7),([65,68,67],10,5),([82,79,82],10,7),([66,66,82,55],15,6),
 ([66,82,65],14,4),([83,84,65],6,7),([67,76,88],0,2),([84,83,84],17,7),
 ([83,84,89],3,4),([83,84,65],3,4),([83,84,88],3,4),([83,77,66,48],3,7),
 ([68,69,89],0,2),([66,73,84],2,2),([84,88,65],0,2),([78,79,80],0,2),
 ([83,84,89],9,5),([83,84,65],9,5),([83,84,88],9,5),([66,66,83,48],15,6),
 ([66,67,67],14,2),([83,84,65],7,7),([83,84,65],8,7),([84,83,84],19,8),
 ([83,84,89],4,4),([83,84,65],4,4),([83,84,88],5,4),([83,77,66,49],3,7),
 ([84,89,65],0,2),([83,84,65],11,5),([84,88,83],0,2),([78,79,80],0,2),
 ([83,84,90],9,5),([83,84,65],10,5),([83,84,90],10,5),([66,66,83,49],15,6),
 ([76,68,89],2,2),([76,68,65],6,7),([76,68,88],2,2),([84,83,84],18,7),
 ([76,68,89],3,4),([76,68,65],3,4),([76,68,88],3,4),([83,77,66,50],3,7),
 ([84,65,89],0,2),([76,68,65],2,2),([84,65,88],0,2),([78,79,80],0,2),
 ([76,68,89],9,5),([76,68,65],9,5),([76,68,88],9,5),([66,66,83,50],15,6),
 ([66,67,83],14,2),([76,68,65],7,7),([76,68,65],8,7),([84,83,84],20,8),
 ([76,68,89],4,4),([76,68,65],4,4),([76,68,88],5,4),([83,77,66,51],3,7),
 ([67,76,86],0,2),([76,68,65],11,5),([84,83,88],0,2),([78,79,80],0,2),
 ([76,68,89],10,5),([76,68,65],10,5),([76,68,88],11,5),([66,66,83,51],15,6),
 ([67,80,89],2,2),([67,77,80],6,7),([67,76,89],0,2),([84,68,68],16,17),
 ([67,80,89],3,4),([67,77,80],3,4),([68,69,67],3,6),([83,77,66,52],3,7),
 ([73,78,89],0,2),([67,77,80],2,2),([68,69,88],0,2),([78,79,80],0,2),
 ([67,80,89],9,5),([67,77,80],9,5),([68,69,67],9,7),([66,66,83,52],15,6),
 ([66,78,69],14,2),([67,77,80],7,7),([67,77,80],8,7),([84,73,78],16,17),
 ([67,83,72],0,3),([67,77,80],4,4),([68,69,67],4,6),([83,77,66,53],3,7),
 ([67,76,68],0,2),([67,77,80],11,5),([80,72,88],0,3),([78,79,80],0,2),
 ([78,79,80],0,2),([67,77,80],10,5),([68,69,67],10,7),([66,66,83,53],15,6),
 ([67,80,88],2,2),([83,66,67],6,7),([78,79,80],0,2),([84,73,65],16,17),
 ([67,80,88],3,4),([83,66,67],3,4),([73,78,67],3,6),([83,77,66,54],3,7),
 ([73,78,88],0,2),([83,66,67],2,2),([78,79,80],0,2),([78,79,80],0,2),
 ([67,80,88],9,5),([83,66,67],9,5),([73,78,67],9,7),([66,66,83,54],15,6),
 ([66,69,81],14,2),([83,66,67],7,7),([83,66,67],8,7),([84,65,73],16,17),
 ([83,69,84],0,2),([83,66,67],4,4),([73,78,67],4,6),([83,77,66,55],3,7),
 ([83,69,68],0,2),([83,66,67],11,5),([80,76,88],0,4),([78,79,80],0,2),
 ([78,79,80],0,2),([83,66,67],10,5),([73,78,67],10,7),([66,66,83,55],15,6)]
def zpD (b:Nat):List UInt8×Int×Int:=tbl.getD b ([],0,0)
def nameL (b:Nat):List UInt8:=(zpD b).1
def zcq (b:Nat):ByteArray:=⟨⟨nameL b⟩⟩
def zbm (b:Nat):Int:=(zpD b).2.1
def zef (b:Nat):Int:=(zpD b).2.2
def lensL:List Int:=[1,1,2,2,2,2,2,2,2,3,3,3,3,3,2,3,7,3,3,4,4]
def lenM (m:Int):Int:=lensL.getD m.toNat 0
def lenOf (b:Nat):Int:=lenM (zbm b)
theorem zjn:tbl.length=256:=by kernel_rfl
theorem zmt {p:Nat→Bool} (h:(List.range 256).all p=true) (b:Nat) (hb:b<256):p b=true:=by
 rw [List.all_eq_true] at h;exact h b (List.mem_range.2 hb)
theorem zsy (b:Nat) (hb:b<256):0≤zbm b∧zbm b≤20:=by
 have h:(List.range 256).all (fun b=>decide (0≤zbm b∧zbm b≤20))=true:=by kernel_rfl
 simpa using zmt h b hb
theorem zBF (b:Nat) (hb:b<256):1≤lenOf b∧lenOf b≤7:=by
 have h:(List.range 256).all (fun b=>decide (1≤lenOf b∧lenOf b≤7))=true:=by kernel_rfl
 simpa using zmt h b hb
end Go.Proofs.YtdiidjehdginnaaGreatDoor.O7
namespace Go.Proofs.YtdiidjehdginnaaGreatDoor
set_option maxRecDepth 20000
variable {a f m p:Int} {P:Int→Prop}
theorem xor_nat (a b:Nat) (ha:a<2 ^ 62) (hb:b<2 ^ 62):bits .xor .i64 (a:Int) (b:Int)=((a ^^^ b:Nat):Int):=by
 have ha':a%2 ^ 64=a:=Nat.mod_eq_of_lt (by omega);have hb':b%2 ^ 64=b:=Nat.mod_eq_of_lt (by omega);have h:a ^^^ b<2 ^ 62:=Nat.xor_lt_two_pow ha hb;show IntKind.i64.wrap ((BitVec.ofInt 64 (a:Int) ^^^ BitVec.ofInt 64 (b:Int)).toNat:Nat)=_;rw [BitVec.ofInt_natCast,BitVec.ofInt_natCast,BitVec.toNat_xor,BitVec.toNat_ofNat,BitVec.toNat_ofNat,ha',hb'];exact zbE _ (by omega) (by omega)
theorem zpE (a b:Nat) (ha:a<2 ^ 62) (hb:b<2 ^ 62):bits .andNot .i64 (a:Int) (b:Int)=((a ^^^ (a &&& b):Nat):Int):=by
 have ha':a%2 ^ 64=a:=Nat.mod_eq_of_lt (by omega);have hb':b%2 ^ 64=b:=Nat.mod_eq_of_lt (by omega);have h:a ^^^ (a &&& b)<2 ^ 62:=Nat.xor_lt_two_pow ha (Nat.and_lt_two_pow _ hb);have e:BitVec.ofNat 64 a &&& ~~~ BitVec.ofNat 64 b=BitVec.ofNat 64 a ^^^ (BitVec.ofNat 64 a &&& BitVec.ofNat 64 b):=by
  ext i hi
  simp only [BitVec.getElem_and,BitVec.getElem_not,BitVec.getElem_xor];cases (BitVec.ofNat 64 a)[i]<;>cases (BitVec.ofNat 64 b)[i]<;>rfl
 show IntKind.i64.wrap ((BitVec.ofInt 64 (a:Int) &&& ~~~ BitVec.ofInt 64 (b:Int)).toNat:Nat)=_;rw [BitVec.ofInt_natCast,BitVec.ofInt_natCast,e,BitVec.toNat_xor,BitVec.toNat_and,BitVec.toNat_ofNat,BitVec.toNat_ofNat,ha',hb'];exact zbE _ (by omega) (by omega)
def andB (a m:Int):Int:=((a.toNat &&& m.toNat:Nat):Int)
def orB (a m:Int):Int:=((a.toNat ||| m.toNat:Nat):Int)
def xorB (a m:Int):Int:=((a.toNat ^^^ m.toNat:Nat):Int)
def bicB (a m:Int):Int:=((a.toNat ^^^ (a.toNat &&& m.toNat):Nat):Int)
def zao (n:Int):Prop:=0≤n∧n<256
theorem zaf (n:Int):zao (n%256):=⟨by omega,by omega⟩
theorem zge {n:Int} (h:zao n):n%256=n:=Int.emod_eq_of_lt h.1 h.2
theorem zgf (hm:zao m):zao (andB a m):=
 ⟨by unfold andB;omega,by unfold andB;have:=Nat.and_lt_two_pow a.toNat (n:=8) (y:=m.toNat) (by have:=hm.1;have:=hm.2;omega);omega⟩
theorem znE (ha:zao a) (hm:zao m):zao (orB a m):=
 ⟨by unfold orB;omega,by unfold orB;have:=Nat.or_lt_two_pow (n:=8) (x:=a.toNat) (y:=m.toNat) (by have:=ha.1;have:=ha.2;omega) (by have:=hm.1;have:=hm.2;omega);omega⟩
theorem zcG (ha:zao a) (hm:zao m):zao (xorB a m):=
 ⟨by unfold xorB;omega,by unfold xorB;have:=Nat.xor_lt_two_pow (n:=8) (x:=a.toNat) (y:=m.toNat) (by have:=ha.1;have:=ha.2;omega) (by have:=hm.1;have:=hm.2;omega);omega⟩
theorem zsz (ha:zao a) (hm:zao m):zao (bicB a m):=by
 have h:=zcG ha (zgf (a:=a) hm);unfold xorB andB at h
 simpa [bicB] using h
theorem zpF (ha:zao a) (hm:zao m):bits .and .i64 a m=andB a m:=by
 obtain ⟨a,rfl⟩:=Int.eq_ofNat_of_zero_le ha.1;obtain ⟨m,rfl⟩:=Int.eq_ofNat_of_zero_le hm.1;have:=ha.2;have:=hm.2;rw [(zeN a m (by omega) (by omega)).1];rfl
theorem or_B (ha:zao a) (hm:zao m):bits .or .i64 a m=orB a m:=by
 obtain ⟨a,rfl⟩:=Int.eq_ofNat_of_zero_le ha.1;obtain ⟨m,rfl⟩:=Int.eq_ofNat_of_zero_le hm.1;have:=ha.2;have:=hm.2;rw [(zeN a m (by omega) (by omega)).2];rfl
theorem zsA (ha:zao a) (hm:zao m):bits .xor .i64 a m=xorB a m:=by
 obtain ⟨a,rfl⟩:=Int.eq_ofNat_of_zero_le ha.1;obtain ⟨m,rfl⟩:=Int.eq_ofNat_of_zero_le hm.1;have:=ha.2;have:=hm.2;rw [xor_nat a m (by omega) (by omega)];rfl
theorem znF (ha:zao a) (hm:zao m):bits .andNot .i64 a m=bicB a m:=by
 obtain ⟨a,rfl⟩:=Int.eq_ofNat_of_zero_le ha.1;obtain ⟨m,rfl⟩:=Int.eq_ofNat_of_zero_le hm.1;have:=ha.2;have:=hm.2;rw [zpE a m (by omega) (by omega)];rfl
theorem zmu (n m:Int) (hm:zao m):bits .and .i64 n m=andB (n%256) m:=by
 obtain ⟨m,rfl⟩:=Int.eq_ofNat_of_zero_le hm.1;have hm2:=hm.2;have e:(BitVec.ofInt 64 n &&& BitVec.ofInt 64 (m:Int)).toNat=(n%256).toNat &&& m:=by
  rw [BitVec.toNat_and,BitVec.ofInt_natCast,BitVec.toNat_ofNat,Nat.mod_eq_of_lt (by omega:m<2 ^ 64),BitVec.toNat_ofInt];have h1:(n%256).toNat=(n%((2 ^ 64:Nat):Int)).toNat%2 ^ 8:=by omega
  have h2:m=m%2 ^ 8:=(Nat.mod_eq_of_lt (by omega)).symm;rw [h1];generalize (n%((2 ^ 64:Nat):Int)).toNat=x
  conv=>rhs;rw [h2,←Nat.and_mod_two_pow]
  exact (Nat.mod_eq_of_lt (Nat.and_lt_two_pow _ (by omega))).symm
 show IntKind.i64.wrap ((BitVec.ofInt 64 n &&& BitVec.ofInt 64 (m:Int)).toNat:Nat)=_;rw [e];have:=Nat.and_lt_two_pow (n%256).toNat (n:=8) (y:=m) (by omega);rw [zbE _ (by omega) (by omega)];rfl
theorem zhE (h:∀x:Fin 256,P (x.val:Int)) (n:Int):P (n%256):=by
 have:=h ⟨(n%256).toNat,by omega⟩;have e:(((n%256).toNat:Nat):Int)=n%256:=by omega
 simpa only [e] using this
theorem zsB (n:Int):bits .and .i64 n 128=n/128%2*128:=by
 rw [zmu n 128 ⟨by decide,by decide⟩,zhE (P:=fun x=>andB x 128=x/128%2*128) (by decide +kernel) n];omega
theorem zBG (n:Int):bits .and .i64 n 64=n/64%2*64:=by
 rw [zmu n 64 ⟨by decide,by decide⟩,zhE (P:=fun x=>andB x 64=x/64%2*64) (by decide +kernel) n];omega
theorem and_8 (n:Int):bits .and .i64 n 8=n/8%2*8:=by
 rw [zmu n 8 ⟨by decide,by decide⟩,zhE (P:=fun x=>andB x 8=x/8%2*8) (by decide +kernel) n];omega
theorem and_127 (n:Int):bits .and .i64 n 127=n%128:=zbt 7 (by decide) n
def zbG (p f:Int) (on:Bool):Int:=p-p/f%2*f+if on=true then f else 0
def zaX (f:Int):Prop:=f=1∨f=2∨f=64∨f=128
theorem zaK (on:Bool) (hp:zao p) (hf:zaX f):zao (zbG p f on):=by
 obtain ⟨h0,h1⟩:=hp;unfold zbG zao;rcases hf with rfl|rfl|rfl|rfl<;>cases on<;>simp<;>omega
theorem zcH (h:∀x:Fin 256,P (x.val:Int)) {n:Int} (hn:zao n):P n:=by
 have:=zhE h n
 rwa [zge hn] at this
theorem zly (hf:zaX f):zao f:=by rcases hf with rfl|rfl|rfl|rfl<;>exact ⟨by decide,by decide⟩
theorem zyK (hp:zao p) (hf:zaX f):bits .or .i64 p f=zbG p f true:=by
 rw [or_B hp (zly hf)];rcases hf with rfl|rfl|rfl|rfl
 ·exact zcH (P:=fun x=>orB x 1=zbG x 1 true) (by decide +kernel) hp
 ·exact zcH (P:=fun x=>orB x 2=zbG x 2 true) (by decide +kernel) hp
 ·exact zcH (P:=fun x=>orB x 64=zbG x 64 true) (by decide +kernel) hp
 ·exact zcH (P:=fun x=>orB x 128=zbG x 128 true) (by decide +kernel) hp
theorem zvL (hp:zao p) (hf:zaX f):bits .andNot .i64 p f=zbG p f false:=by
 rw [znF hp (zly hf)];rcases hf with rfl|rfl|rfl|rfl
 ·exact zcH (P:=fun x=>bicB x 1=zbG x 1 false) (by decide +kernel) hp
 ·exact zcH (P:=fun x=>bicB x 2=zbG x 2 false) (by decide +kernel) hp
 ·exact zcH (P:=fun x=>bicB x 64=zbG x 64 false) (by decide +kernel) hp
 ·exact zcH (P:=fun x=>bicB x 128=zbG x 128 false) (by decide +kernel) hp
theorem set_set {g:Int} (x y:Bool) (hf:zaX f) (hg:zaX g) (h:f≠g):zbG (zbG p f x) g y=zbG (zbG p g y) f x:=by
 unfold zbG;rcases hf with rfl|rfl|rfl|rfl<;>rcases hg with rfl|rfl|rfl|rfl<;>first|exact absurd rfl h|(cases x<;>cases y<;>simp<;>omega)
theorem f1:zaX 1:=.inl rfl
theorem f2:zaX 2:=.inr (.inl rfl)
theorem f64:zaX 64:=.inr (.inr (.inl rfl))
theorem f128:zaX 128:=.inr (.inr (.inr rfl))
def nzOf (p b:Int):Int:=zbG (zbG (p%256) 128 (decide (128≤b%256))) 2 (decide (b%256=0))
def zsC (p m:Int) (z:Bool):Int:=zbG (zbG (zbG p 128 (decide (128≤m))) 64 (decide (m/64%2=1))) 2 z
def zeg (s:Int):Int:=if 9<s then s+6 else s
def zcM (s:Int):Int:=if 15<zeg s then 1 else 0
def zjo (a m p:Int):Int×Int:=
 let l:=a%16+m%16+p%2
 let h:=a/16+m/16+zcM l
 let r:=zeg h%16*16+zeg l%16
 (r,zbG (nzOf p r) 1 (decide (15<zeg h)))
def zwY (a m p:Int):Int×Int:=
 let s:=a+m+p%2
 let r:=s%256
 (r,zbG (zbG (nzOf p r) 1 (decide (255<s))) 64 (decide (a/128=m/128)&&decide (r/128≠a/128)))
def zcy (s:Int):Int:=if s<0 then s-6 else s
def zbL (s:Int):Int:=if s<0 then 1 else 0
def zjp (a m p:Int):Int×Int:=
 let l:=a%16-m%16-1+p%2
 let h:=a/16-m/16-zbL l
 let r:=zcy h%16*16+zcy l%16
 (r,nzOf (zbG p 1 (decide (0≤h))) r)
def zwZ (a m p:Int):Int×Int:=
 let s:=a-m-1+p%2
 let r:=s%256
 (r,zbG (zbG (nzOf p r) 1 (decide (0≤s))) 64 (decide (a/128≠m/128)&&decide (r/128≠a/128)))
def ziT (a m p:Int):Int×Int:=if p/8%2=1 then zjo a m p else zwY a m p
def ziU (a m p:Int):Int×Int:=if p/8%2=1 then zjp a m p else zwZ a m p
def doOf (op a m p:Int):Int×Int:=
 if op=0 then (orB a m,nzOf p (orB a m)) else
 if op=1 then (andB a m,nzOf p (andB a m)) else
 if op=2 then (xorB a m,nzOf p (xorB a m)) else
 if op=3 then ziT a m p else
 if op=4 then ziU a m p else
 if op=5 then (a,zbG (nzOf p (a-m)) 1 (decide (m≤a))) else
 if op=6 then (a,zsC p m (decide (andB a m=0))) else
 if op=7 then (orB a m,zsC p m (decide (orB a m=0))) else
 if op=8 then (bicB m a,zsC p m (decide (bicB m a=0))) else
 if op=9 then (m*2%256,zbG (nzOf p (m*2%256)) 1 (decide (128≤m))) else
 if op=10 then (m*2%256+p%2,zbG (nzOf p (m*2%256+p%2)) 1 (decide (128≤m))) else
 if op=11 then (m/2,zbG (nzOf p (m/2)) 1 (decide (m%2=1))) else
 if op=12 then (m/2+p%2*128,zbG (nzOf p (m/2+p%2*128)) 1 (decide (m%2=1))) else
 if op=13 then ((m+1)%256,nzOf p ((m+1)%256)) else
 if op=14 then ((m+255)%256,nzOf p ((m+255)%256)) else
 if op=15 then (m,nzOf p m) else (a,p)
theorem zba (p b:Int):zao (nzOf p b):=zaK _ (zaK _ (zaf p) f128) f2
theorem znG (p b:Int):nzOf p (b%256)=nzOf p b:=by unfold nzOf;rw [Int.emod_emod]
theorem zdy (b:Int) (x:Bool) (hp:zao p) (hf:f=1∨f=64):nzOf (zbG p f x) b=zbG (nzOf p b) f x:=by
 have hF:zaX f:=by rcases hf with rfl|rfl;exact f1;exact f64
 have n2:f≠2:=by omega
 have n128:f≠128:=by omega
 unfold nzOf;rw [zge hp,zge (zaK x hp hF),set_set x _ hF f128 n128,set_set x _ hF f2 n2]
def b01 (x:Bool):Int:=if x=true then 1 else 0
theorem zgN {x:Int} (h:zao x):x.toNat.testBit 7=decide (x/128=1):=by
 have h0:=h.1;have h1:=h.2;rw [Nat.testBit_eq_decide_div_mod_eq]
 congr 1
 apply propext;constructor<;>intro h<;>omega
theorem zxa {x:Nat}:(((x &&& 128:Nat):Int) != 0)=x.testBit 7:=by
 have h:x &&& 128=(x/128%2)*128:=zjH x 7;rw [h,Nat.testBit_eq_decide_div_mod_eq];have h:=Nat.mod_two_eq_zero_or_one (x/2 ^ 7);have h':x/128=x/2 ^ 7:=rfl;rw [h'];rcases h with h|h<;>simp [h]
theorem v_add {r:Int} (ha:zao a) (hm:zao m) (hr:zao r):
  (bits .and .i64 (bits .and .i64 (bits .xor .i64 a r) (bits .xor .i64 m r)) 128 != 0)=(decide (a/128=m/128)&&decide (r/128≠a/128)):=by
 rw [zsA ha hr,zsA hm hr,zpF (zcG ha hr) (zcG hm hr),zpF (zgf (zcG hm hr)) ⟨by decide,by decide⟩];unfold andB xorB;simp only [Int.toNat_natCast];show (((_ &&& 128:Nat):Int) != 0)=_;rw [zxa,Nat.testBit_and,Nat.testBit_xor,Nat.testBit_xor,zgN ha,zgN hm,zgN hr];have h1:a/128=0∨a/128=1:=by have:=ha.1;have:=ha.2;omega
 have h2:m/128=0∨m/128=1:=by have:=hm.1;have:=hm.2;omega
 have h3:r/128=0∨r/128=1:=by have:=hr.1;have:=hr.2;omega
 rcases h1 with h1|h1<;>rcases h2 with h2|h2<;>rcases h3 with h3|h3<;>rw [h1,h2,h3]<;>decide
theorem v_sub {r:Int} (ha:zao a) (hm:zao m) (hr:zao r):
  (bits .and .i64 (bits .and .i64 (bits .xor .i64 a m) (bits .xor .i64 a r)) 128 != 0)=(decide (a/128≠m/128)&&decide (r/128≠a/128)):=by
 rw [zsA ha hr,zsA ha hm,zpF (zcG ha hm) (zcG ha hr),zpF (zgf (zcG ha hr)) ⟨by decide,by decide⟩];unfold andB xorB;simp only [Int.toNat_natCast];show (((_ &&& 128:Nat):Int) != 0)=_;rw [zxa,Nat.testBit_and,Nat.testBit_xor,Nat.testBit_xor,zgN ha,zgN hm,zgN hr];have h1:a/128=0∨a/128=1:=by have:=ha.1;have:=ha.2;omega
 have h2:m/128=0∨m/128=1:=by have:=hm.1;have:=hm.2;omega
 have h3:r/128=0∨r/128=1:=by have:=hr.1;have:=hr.2;omega
 rcases h1 with h1|h1<;>rcases h2 with h2|h2<;>rcases h3 with h3|h3<;>rw [h1,h2,h3]<;>decide
end Go.Proofs.YtdiidjehdginnaaGreatDoor
namespace Go.Proofs.YtdiidjehdginnaaGreatDoor.L25
set_option maxRecDepth 20000
open B4 C3 G6 I11 J23 L24 M5 N8 O7 P22 R15 T10 V12 W13
open Go.RowKit
set_option linter.unusedVariables false
variable {t:Bool} {nm:ByteArray} {bs:List Int} {b c d s v:Nat} {B I g:Nat→Int} {Z:Nat→Nat→Int} {w:World}
def anP (p f:Int):Int:=bits .andNot .i64 p f
def hasF (p f:Int):Bool:=bits .and .i64 p f != 0
theorem zBH {p f:Int} (hp:zao p) (hf:f=1∨f=2∨f=4∨f=8∨f=16∨f=32∨f=64∨f=128):zao (anP p f):=by
 rcases hf with rfl|rfl|rfl|rfl|rfl|rfl|rfl|rfl
 ·exact zcH (P:=fun x=>zao (anP x 1)) (by unfold zao anP;decide +kernel) hp
 ·exact zcH (P:=fun x=>zao (anP x 2)) (by unfold zao anP;decide +kernel) hp
 ·exact zcH (P:=fun x=>zao (anP x 4)) (by unfold zao anP;decide +kernel) hp
 ·exact zcH (P:=fun x=>zao (anP x 8)) (by unfold zao anP;decide +kernel) hp
 ·exact zcH (P:=fun x=>zao (anP x 16)) (by unfold zao anP;decide +kernel) hp
 ·exact zcH (P:=fun x=>zao (anP x 32)) (by unfold zao anP;decide +kernel) hp
 ·exact zcH (P:=fun x=>zao (anP x 64)) (by unfold zao anP;decide +kernel) hp
 ·exact zcH (P:=fun x=>zao (anP x 128)) (by unfold zao anP;decide +kernel) hp
def zdR (m:Int):Bool:=m==6||m==7||m==8||m==12||m==13
def zkj (m x o:Int):Int:=if m=6 then zOf o x else if m=7∨m=8 then zOf o 0 else if m=12 then wOf o 0 else if m=13 then wOf o x else 0
def zsD (m:Int):Bool:=m==6||m==7||m==8
def zvM (m a:Int):Int:=if zsD m=true then zOf a 1 else wOf a 1
def zvN (m:Int):Bool:=m==3||m==4||m==5||m==6||m==7||m==8||m==9||m==10||m==11||m==12||m==13||m==15||m==17||m==18||m==19||m==20
def zkk (m x y o p:Int):Int:=
 if m=3∨m=15∨m=17 then zOf o 0 else if m=4∨m=18 then zOf o x else if m=5 then zOf o y else if m=9∨m=19 then wOf o 0 else if m=10∨m=20 then wOf o x
 else if m=11 then wOf o y else if m=6∨m=8∨m=12∨m=13 then wOf p 0 else if m=7 then wOf p y else 0
def jn (x y:Int):Int:=x%256+256*(y%256)
def pV (bs:List Int) (Z:Nat→Nat→Int) (x y:Int):Int:=jn (rV bs Z x) (rV bs (rS Z x) y)
def pS (Z:Nat→Nat→Int) (x y:Int):Nat→Nat→Int:=rS (rS Z x) y
def nx (Z:Nat→Nat→Int):Nat→Nat→Int:=setR (rS Z (Z 20 5)) 5 ((Z 20 5+1)%65536)
def nV (bs:List Int) (Z:Nat→Nat→Int):Int:=rV bs Z (Z 20 5)
def nxN (Z:Nat→Nat→Int):Nat→Nat→Nat→Int
 |0=>Z
 |k+1=>nx (nxN Z k)
def behN (bs:List Int) (Z:Nat→Nat→Int):Nat→Nat→Int
 |0=>fun _=>0
 |k+1=>up (behN bs Z k) k (nV bs (nxN Z k))
def opF (m:Int) (B:Nat→Int):Int:=if 17≤m then jn (B 1) (B 2) else if m=15 then B 0 else if m=14 then 0 else jn (B 0) (B 1)
def mkF (m:Int) (B:Nat→Int):Int:=if 17≤m then B 0 else 0
def frF (m:Int) (B:Nat→Int):Int:=if m=15 then B 1 else if m=14 then B 0 else 0
def fN (bs:List Int) (Z:Nat→Nat→Int):Nat:=(nV bs Z).toNat
def f1 (bs:List Int) (Z:Nat→Nat→Int):Nat→Nat→Int:=cyc (nx Z) (zef (fN bs Z))
def fB (bs:List Int) (Z:Nat→Nat→Int):Nat→Int:=behN bs (f1 bs Z) (lenOf (fN bs Z)-1).toNat
def f2 (bs:List Int) (Z:Nat→Nat→Int):Nat→Nat→Int:=nxN (f1 bs Z) (lenOf (fN bs Z)-1).toNat
def fT (Z:Nat→Nat→Int):Bool:=hasF (Z 20 4) 32
def f3 (bs:List Int) (Z:Nat→Nat→Int):Nat→Nat→Int:=setR (f2 bs Z) 4 (anP (Z 20 4) 32)
def fM (bs:List Int) (Z:Nat→Nat→Int):Int:=zbm (fN bs Z)
def fO (bs:List Int) (Z:Nat→Nat→Int):Int:=opF (fM bs Z) (fB bs Z)
def fK (bs:List Int) (Z:Nat→Nat→Int):Int:=mkF (fM bs Z) (fB bs Z)
def fR (bs:List Int) (Z:Nat→Nat→Int):Int:=frF (fM bs Z) (fB bs Z)
def fA (bs:List Int) (Z:Nat→Nat→Int):Int:=zkj (fM bs Z) (Z 20 1) (fO bs Z)
def fQ (bs:List Int) (Z:Nat→Nat→Int):Int:=if zdR (fM bs Z)=true then pV bs (f3 bs Z) (fA bs Z) (zvM (fM bs Z) (fA bs Z)) else 0
def f4 (bs:List Int) (Z:Nat→Nat→Int):Nat→Nat→Int:=if zdR (fM bs Z)=true then pS (f3 bs Z) (fA bs Z) (zvM (fM bs Z) (fA bs Z)) else f3 bs Z
def fP (bs:List Int) (Z:Nat→Nat→Int):Int:=zkk (fM bs Z) (Z 20 1) (Z 20 2) (fO bs Z) (fQ bs Z)
def iF (m l c o k r p:Int):Nat→Int:=fun j=>if j=0 then m else if j=1 then l else if j=2 then c else if j=3 then o else if j=4 then k else if j=5 then r else p
def fI (bs:List Int) (Z:Nat→Nat→Int):Nat→Int:=iF (fM bs Z) (lenOf (fN bs Z)) (zef (fN bs Z)) (fO bs Z) (fK bs Z) (fR bs Z) (fP bs Z)
open B4 C3 G6 I11 J23 K9 L24 M5 N8 O7 P22 R15 T10 V12 W13
def QA (W:World) (s b v c d:Nat) (bs:List Int) (nm:ByteArray) (I B:Nat→Int) (t:Bool) (Z:Nat→Nat→Int) (x:World):Prop:=HasQ x s b v c d bs nm I B t Z∧OnlyE (EQ s b v) W x
theorem QA.stab {W:World} :Stab (QA W s b v c d bs nm I B t Z):=fun x y h k=>⟨h.1.next k,h.2.trans (zet k)⟩
theorem QA.mk (h:HasQ w s b v c d bs nm I B t Z):QA w s b v c d bs nm I B t Z w.drew:=⟨h.next (Below.refl _ w).drew,zet (Below.refl _ w).drew⟩
theorem znH (v c:Nat) (Z:Nat→Nat→Int):∀j,j<8→segs (XP v c Z) (8475+j)=iv (Z 9) j:=fun j hj=>by
 have q:=zci (XP v c Z) 9 8 (iv (Z 9)) j rfl hj;rw [IsB.off (show IsB (XP v c Z) from rfl) 9 (a:=8475) rfl] at q;exact q
theorem znI (h:HasQ w s b v c d bs nm I B t Z) (a:Int):Calls Tryz.prog 180 #[.pointer (some ⟨s,0,none⟩),.int .i64 a] w fun e w'=>e=Ending.returned (.int .i64 (phZ Z a))∧HasQ w' s b v c d bs nm I B t (cyc Z (slZ Z a))∧OnlyE (EQ s b v) w w':=by
 have HE:=hide h;have c8:=h.buss;have HB:=hide h.2.1.1;have SEG:=hide (znH v c Z);obtain ⟨P,hP⟩:∃P,phZ Z a=P:=⟨_,rfl⟩
 have KP:Hid (∀w,Calls Tryz.prog 229 #[.agg (rowF (iv (Z 9)) 8),.int .i64 a] w fun e w'=>e=Ending.returned (.int .i64 P)∧Below w.heap.size w w'):=hide (fun w=>by rw [←hP];exact zuT (Z 9) a w);have KW:Hid (∀w,HasPorts w→Calls Tryz.prog 106 #[.int .i64 P] w fun e w'=>e=Ending.returned (.agg #[.int .i64 (zaH P),.int .i64 (zcD P),.int .i64 (atW P)])∧Below w.heap.size w w'):=hide (fun w hT=>zlb P w hT);obtain ⟨y,hy⟩:∃y,zqL (zaH P)=y:=⟨_,rfl⟩
 have KS:Hid (∀w,Calls Tryz.prog 230 #[.int .i64 (zaH P)] w fun e w'=>e=Ending.returned (.int .i64 y)∧w'=w):=hide (fun w=>by rw [←hy];exact zuo _ w);have pk:=zoz (.int .i64 (zaH P)) (.int .i64 (zcD P)) (.int .i64 (atW P));have HZ:Hid (slZ Z a=y):=hide (by unfold slZ;rw [hP,hy]);rw [hP];clear h hP hy;go_enter Tryz.func180,Tryz.ntmps180
 go_wp2_with (first
  |(refine zaw rfl 40 (.tmp 11) rfl b 8475 rfl HB.out 8 (by decide) (iv (Z 9)) SEG.out _ Tryz.underlying40 rfl (by kernel_rfl) ?_)
  |(go_at_call 229;refine (KP.out _).mono ?_;rintro e w1 ⟨rfl,b1⟩;have H1:=hide (HE.out.next b1);have O1:=hide (zet (s:=s) (b:=b) (v:=v) b1);clear b1 HE HB SEG KP c8))
 refine zaD (zcx [.pointer (some ⟨s,0,none⟩),.pointer (some ⟨s,0,none⟩),.pointer (some ⟨s,9,none⟩),.int .i64 (Z 23 0),.int .i64 P,.agg #[.int .i64 (zaH P),.int .i64 (zcD P),.int .i64 (atW P)],.int .i64 (zaH P),.int .i64 y,.int .i64 (wrap64 (Z 23 0+y)),.pointer (some ⟨s,0,none⟩),.pointer (some ⟨s,9,none⟩),undef]) (fun dd ww=>(stgs [QA w1 s b v c d bs nm I B t Z,QA w1 s b v c d bs nm I B t (upZ Z 23 (oneV (wrap64 (Z 23 0+y))))]) (cntD [11] dd) ww) _ (fun u=>by simp only [zaA,Act.put,List.setIfInBounds_toArray,List.set_cons_succ,List.set_cons_zero,Nat.reduceAdd];rfl) (by kernel_rfl) (by kernel_rfl) (by kernel_rfl) (fun dn hd=>zbe hd (QA.mk H1.out)) ?_ ?_
 ·repeat' first|refine zaW (fun u dn x hi hc hk hs=>?_) ?_|exact zbb
  ·go_wp2_with fail;exact zad _ rfl rfl (zac rfl hs)
  ·obtain ⟨⟨(h0:u 0=.pointer (some ⟨s,0,none⟩)),t0⟩,_⟩:=hk;simp only [h0];clear h0;go_wp2_with fail;exact zad _ rfl rfl (zac rfl hs)
  ·obtain ⟨⟨(h1:u 1=.pointer (some ⟨s,0,none⟩)),t1⟩,_⟩:=hk;simp only [h1];clear h1;go_wp2_with fail;exact zad _ rfl rfl (zac rfl hs)
  ·obtain ⟨⟨(h2:u 2=.pointer (some ⟨s,9,none⟩)),t2⟩,_⟩:=hk;simp only [h2];clear h2;have d11:=zap hc hi 11 60 (by kernel_rfl);have hn:cntD [11] dn=0:=by simp only [cntD,d11];rfl
   have hs1:=zan hn hs;have q:=(fun h:QA w1 s b v c d bs nm I B t Z _=>h.1.cycs) hs1;go_wp2_with fail;exact zad _ rfl rfl (zac rfl hs)
  ·go_wp2_with fail;exact zad _ rfl rfl (zac rfl hs)
  ·obtain ⟨⟨(h4:u 4=.int .i64 P),t4⟩,_⟩:=hk;simp only [h4];clear h4;have d11:=zap hc hi 11 60 (by kernel_rfl);have hn:cntD [11] dn=0:=by simp only [cntD,d11];rfl
   have hs1:=zan hn hs;have HS:=hide hs;have HS1:=hide hs1;clear hs hs1;go_wp2_with fail;refine (KW.out _ (show QA w1 s b v c d bs nm I B t Z _ from HS1.out).1.2.1.tabs.2.1).mono ?_;rintro e x2 ⟨rfl,b2⟩;have H2:=hide (zdj (zyI QA.stab QA.stab) HS.out b2);clear b2 HS HS1;go_wp2_with fail;exact zad _ rfl rfl (zac rfl H2.out)
  ·obtain ⟨⟨(h5:u 5=.agg #[.int .i64 (zaH P),.int .i64 (zcD P),.int .i64 (atW P)]),t5⟩,_⟩:=hk;simp only [h5];clear h5;go_wp2_with fail;exact zad _ rfl rfl (zac rfl hs)
  ·obtain ⟨⟨(h6:u 6=.int .i64 (zaH P)),t6⟩,⟨(h5:u 5=.agg #[.int .i64 (zaH P),.int .i64 (zcD P),.int .i64 (atW P)]),t5⟩,_⟩:=hk;simp only [h6];clear h6 h5;have d11:=zap hc hi 11 60 (by kernel_rfl);have hn:cntD [11] dn=0:=by simp only [cntD,d11];rfl
   have hs1:=zan hn hs;have HS:=hide hs;clear hs hs1;go_wp2_with fail;refine (KS.out _).mono ?_;rintro e x2 ⟨rfl,hw⟩;subst x2;go_wp2_with fail;exact zad _ rfl rfl (zac rfl HS.out)
  ·obtain ⟨⟨(h3:u 3=.int .i64 (Z 23 0)),t3⟩,⟨(h7:u 7=.int .i64 y),t7⟩,_⟩:=hk;simp only [h3,h7];clear h3 h7;go_wp2_with fail;exact zad _ rfl rfl (zac rfl hs)
  ·obtain ⟨⟨(h0:u 0=.pointer (some ⟨s,0,none⟩)),t0⟩,_,⟨(h1:u 1=.pointer (some ⟨s,0,none⟩)),t1⟩,⟨(h2:u 2=.pointer (some ⟨s,9,none⟩)),t2⟩,⟨(h3:u 3=.int .i64 (Z 23 0)),t3⟩,⟨(h4:u 4=.int .i64 P),t4⟩,⟨(h5:u 5=.agg #[.int .i64 (zaH P),.int .i64 (zcD P),.int .i64 (atW P)]),t5⟩,⟨(h6:u 6=.int .i64 (zaH P)),t6⟩,⟨(h7:u 7=.int .i64 y),t7⟩,⟨(h8:u 8=.int .i64 (wrap64 (Z 23 0+y))),t8⟩,_⟩:=hk;simp only [h0];clear h0 h1 h2 h3 h4 h5 h6 h7 h8;go_wp2_with fail;exact zad _ rfl rfl (zac rfl hs)
  ·obtain ⟨⟨(h9:u 9=.pointer (some ⟨s,0,none⟩)),t9⟩,⟨(h0:u 0=.pointer (some ⟨s,0,none⟩)),t0⟩,⟨(h1:u 1=.pointer (some ⟨s,0,none⟩)),t1⟩,⟨(h2:u 2=.pointer (some ⟨s,9,none⟩)),t2⟩,⟨(h3:u 3=.int .i64 (Z 23 0)),t3⟩,⟨(h4:u 4=.int .i64 P),t4⟩,⟨(h5:u 5=.agg #[.int .i64 (zaH P),.int .i64 (zcD P),.int .i64 (atW P)]),t5⟩,⟨(h6:u 6=.int .i64 (zaH P)),t6⟩,⟨(h7:u 7=.int .i64 y),t7⟩,⟨(h8:u 8=.int .i64 (wrap64 (Z 23 0+y))),t8⟩,_⟩:=hk;simp only [h9];clear h9 h0 h1 h2 h3 h4 h5 h6 h7 h8;go_wp2_with fail;exact zad _ rfl rfl (zac rfl hs)
  ·obtain ⟨⟨(h10:u 10=.pointer (some ⟨s,9,none⟩)),t10⟩,⟨(h8:u 8=.int .i64 (wrap64 (Z 23 0+y))),t8⟩,⟨(h7:u 7=.int .i64 y),t7⟩,⟨(h0:u 0=.pointer (some ⟨s,0,none⟩)),t0⟩,⟨(h1:u 1=.pointer (some ⟨s,0,none⟩)),t1⟩,⟨(h2:u 2=.pointer (some ⟨s,9,none⟩)),t2⟩,⟨(h3:u 3=.int .i64 (Z 23 0)),t3⟩,⟨(h4:u 4=.int .i64 P),t4⟩,⟨(h5:u 5=.agg #[.int .i64 (zaH P),.int .i64 (zcD P),.int .i64 (atW P)]),t5⟩,⟨(h6:u 6=.int .i64 (zaH P)),t6⟩,_,_,_⟩:=hk;simp only [h10,h8];clear h10 h8 h7 h0 h1 h2 h3 h4 h5 h6;have d11:=hi;have hn:cntD [11] dn=0:=by simp only [cntD,d11];rfl
   have hs1:=zan hn hs;have hn2:cntD [11] (updD dn 11)=1:=by show (if updD dn 11 11=true then 1 else 0)+0=1;rw [zaI];rfl
   have HN2:=hide hn2;clear hn hn2;have q:=(fun h:QA w1 s b v c d bs nm I B t Z _=>h.1.cycs) hs1;have z:=(fun h:QA w1 s b v c d bs nm I B t Z _=>h.1.frz 9) hs1;have H2:=hide ((fun h:QA w1 s b v c d bs nm I B t Z _=>show QA w1 s b v c d bs nm I B t (upZ Z 23 (oneV (wrap64 (Z 23 0+y)))) _ from ⟨h.1.putC (wrap64 (Z 23 0+y)),zcP h.2 9 _⟩) hs1);clear hs hs1;go_wp2_with fail;exact zad _ rfl rfl (zbu HN2.out H2.out)
 rintro u dn x hall hs hv;clear hv;have hn:cntD [11] dn=1:=by show (if dn 11=true then 1 else 0)+0=1;rw [hall 11 (by decide)];rfl
 have hs:=zan hn hs;clear hn hall;obtain ⟨h2,o2⟩:QA w1 s b v c d bs nm I B t (upZ Z 23 (oneV (wrap64 (Z 23 0+y)))) x:=hs;have H2:=hide h2;have O2:=hide (O1.out.trans o2);clear h2 o2 hs H1 O1;go_wp2;go_ret;refine ⟨rfl,?_,O2.out⟩;unfold cyc;rw [HZ.out];exact H2.out
theorem HasQ.bytes (h:HasQ w s b v c d bs nm I B t Z):∀z,z ∈ bs→0≤z∧z<256:=h.2.1.2.2.1.2.1.2
theorem zyL (h:HasQ w s b v c d bs nm I B t Z) (a:Int):0≤rV bs Z a∧rV bs Z a<256:=zBC h.good h.bytes _
theorem zkl (h:HasQ w s b v c d bs nm I B t Z) (a:Int):Calls Tryz.prog 117 #[.pointer (some ⟨s,0,none⟩),.int .i64 a] w fun e w'=>e=Ending.returned (.int .i64 (rV bs Z a))∧HasQ w' s b v c d bs nm I B t (rS Z a)∧OnlyE (EQ s b v) w w':=by
 have HE:=hide h;have x0:=zyL h a;obtain ⟨u,hx⟩:∃u,rV bs Z a=u:=⟨_,rfl⟩
 obtain ⟨P,hP⟩:∃P,phZ Z a=P:=⟨_,rfl⟩
 rw [hx] at x0;have KR:Hid (∀y,QA w s b v c d bs nm I B t Z y→Calls Tryz.prog 180 #[.pointer (some ⟨s,0,none⟩),.int .i64 a] y fun e y'=>e=Ending.returned (.int .i64 P)∧QA w s b v c d bs nm I B t (cyc Z (slZ Z a)) y'):=hide (fun y q=>by rw [←hP];exact (znI q.1 a).mono fun e y' ⟨e1,q1,o1⟩=>⟨e1,q1,q.2.trans o1⟩)
 have KB:Hid (∀y,QA w s b v c d bs nm I B t (cyc Z (slZ Z a)) y→Calls Tryz.prog 67 #[.pointer (some ⟨b,0,none⟩),.int .i64 P] y fun e y'=>e=Ending.returned (.int .i64 u)∧QA w s b v c d bs nm I B t (rS Z a) y'):=hide (fun y q=>by
  have k:=zBA q.1.good b v c d bs q.1.2.2.2.2.2.1 P (x:=u) (Z':=rS Z a) (by rw [←hx,←hP];exact zyD (by decide) bs Z _ _) (by rw [←hP];rfl)
  exact (k.2.2 y q.1.2.1).mono fun e y' ⟨e1,p1,o1⟩=>⟨e1,q.1.bus p1 o1 k.1 (zgb (by decide) _ _) (zgb (by decide) _ _) (zgb (by decide) _ _) (zgb (by decide) _ _),q.2.trans (zyJ o1)⟩)
 have KY:Hid (∀w,Calls Tryz.prog 69 #[.int .i64 u] w fun e w'=>e=Ending.returned (.int .i64 u)∧w'=w):=hide (fun w=>by
  have k:=zam u w;rw [show u%256=u by omega] at k
  exact k)
 rw [hx];clear h hx hP x0;go_enter Tryz.func117,Tryz.ntmps117;go_wp2_with fail;refine zaD (zcx [.pointer (some ⟨s,0,none⟩),.pointer (some ⟨s,0,none⟩),.pointer (some ⟨s,8,none⟩),.pointer (some ⟨b,0,none⟩),.pointer (some ⟨s,0,none⟩),.int .i64 a,.int .i64 P,.int .i64 u,.int .i64 u,.int .i64 u]) (fun dd ww=>(stgs [QA w s b v c d bs nm I B t Z,QA w s b v c d bs nm I B t (cyc Z (slZ Z a)),QA w s b v c d bs nm I B t (rS Z a)]) (cntD [6,7] dd) ww) _ (fun vals=>by simp only [zaA,Act.put,List.setIfInBounds_toArray,List.set_cons_succ,List.set_cons_zero,Nat.reduceAdd];rfl) (by kernel_rfl) (by kernel_rfl) (by kernel_rfl) (fun dn hd=>zbe hd (QA.mk HE.out)) ?_ ?_
 ·repeat' first|refine zaW (fun vals dn x hi hc hk hs=>?_) ?_|exact zbb
  ·go_wp2_with fail;exact zad _ rfl rfl (zac rfl hs)
  ·obtain ⟨⟨(h0:vals 0=.pointer (some ⟨s,0,none⟩)),t0⟩,_⟩:=hk;simp only [h0];clear h0;go_wp2_with fail;exact zad _ rfl rfl (zac rfl hs)
  ·obtain ⟨⟨(h1:vals 1=.pointer (some ⟨s,0,none⟩)),t1⟩,_⟩:=hk;simp only [h1];clear h1;go_wp2_with fail;exact zad _ rfl rfl (zac rfl hs)
  ·obtain ⟨⟨(h2:vals 2=.pointer (some ⟨s,8,none⟩)),t2⟩,_⟩:=hk;simp only [h2];clear h2;have hs1:=hs;have q:=zgM hs1 (zeG [6,7] dn) (fun q=>q.1.buss) (fun q=>q.1.buss) (fun q=>q.1.buss);go_wp2_with fail;exact zad _ rfl rfl (zac rfl hs)
  ·go_wp2_with fail;exact zad _ rfl rfl (zac rfl hs)
  ·go_wp2_with fail;exact zad _ rfl rfl (zac rfl hs)
  ·obtain ⟨⟨(h4:vals 4=.pointer (some ⟨s,0,none⟩)),t4⟩,⟨(h5:vals 5=.int .i64 a),t5⟩,_⟩:=hk;simp only [h4,h5];clear h4 h5;have d6:=hi;have d7:=zap hc hi 7 60 (by kernel_rfl);have hn:cntD [6,7] dn=0:=by simp only [cntD,d6,d7];rfl
   have hs1:=zan hn hs;have hn2:cntD [6,7] (updD dn 6)=1:=by show (if updD dn 6 6=true then 1 else 0)+((if updD dn 6 7=true then 1 else 0)+0)=1;rw [zaI,zar dn (show ¬7=6 by decide),d7];rfl
   have HN2:=hide hn2;clear hn hn2 d7;have HS:=hide hs1;clear hs hs1;go_wp2_with fail;refine (KR.out _ HS.out).mono ?_;rintro e x2 ⟨rfl,h2⟩;have H2:=hide h2;clear h2 HS;go_wp2_with fail;exact zad _ rfl rfl (zbu HN2.out H2.out)
  ·obtain ⟨⟨(h3:vals 3=.pointer (some ⟨b,0,none⟩)),t3⟩,⟨(h6:vals 6=.int .i64 P),t6⟩,_,_⟩:=hk;simp only [h3,h6];clear h3 h6;have d6:=t6;have d7:=hi;have hn:cntD [6,7] dn=1:=by simp only [cntD,d6,d7];rfl
   have hs1:=zan hn hs;have hn2:cntD [6,7] (updD dn 7)=2:=by show (if updD dn 7 6=true then 1 else 0)+((if updD dn 7 7=true then 1 else 0)+0)=2;rw [zar dn (show ¬6=7 by decide),zaI,d6];rfl
   have HN2:=hide hn2;clear hn hn2 d6;have HS:=hide hs1;clear hs hs1;go_wp2_with fail;refine (KB.out _ HS.out).mono ?_;rintro e x2 ⟨rfl,h2⟩;have H2:=hide h2;clear h2 HS;go_wp2_with fail;exact zad _ rfl rfl (zbu HN2.out H2.out)
  ·obtain ⟨⟨(h7:vals 7=.int .i64 u),t7⟩,_,_⟩:=hk;simp only [h7];clear h7;have d6:=zfa hc 60 6 7 t7 (by kernel_rfl);have d7:=t7;have hn:cntD [6,7] dn=2:=by simp only [cntD,d6,d7];rfl
   have hs1:=zan hn hs;have HS:=hide hs;clear hs hs1;go_wp2_with fail;refine (KY.out _).mono ?_;rintro e x2 ⟨rfl,hw⟩;subst x2;go_wp2_with fail;exact zad _ rfl rfl (zac rfl HS.out)
  ·obtain ⟨⟨(h8:vals 8=.int .i64 u),t8⟩,_,⟨(h0:vals 0=.pointer (some ⟨s,0,none⟩)),t0⟩,⟨(h1:vals 1=.pointer (some ⟨s,0,none⟩)),t1⟩,⟨(h2:vals 2=.pointer (some ⟨s,8,none⟩)),t2⟩,⟨(h3:vals 3=.pointer (some ⟨b,0,none⟩)),t3⟩,⟨(h4:vals 4=.pointer (some ⟨s,0,none⟩)),t4⟩,⟨(h5:vals 5=.int .i64 a),t5⟩,⟨(h6:vals 6=.int .i64 P),t6⟩,⟨(h7:vals 7=.int .i64 u),t7⟩,_,_⟩:=hk;simp only [h8];clear h8 h0 h1 h2 h3 h4 h5 h6 h7;go_wp2_with fail;exact zad _ rfl rfl (zac rfl hs)
 rintro vals dn x hall hs hv;obtain ⟨_,_,_,_,_,_,_,_,_,(h9:vals 9=.int .i64 u),_⟩:=hv;simp only [h9];clear h9;have hn:cntD [6,7] dn=2:=by show (if dn 6=true then 1 else 0)+((if dn 7=true then 1 else 0)+0)=2;rw [hall 6 (by decide),hall 7 (by decide)];rfl
 have hs:=zan hn hs;clear hn hall;obtain ⟨h2,o2⟩:QA w s b v c d bs nm I B t (rS Z a) x:=hs;have H2:=hide h2;have O2:=hide o2;clear h2 o2 hs;go_wp2;go_ret;exact ⟨rfl,H2.out,O2.out⟩
theorem zvO (h:HasQ w s b v c d bs nm I B t Z) (a y:Int):Calls Tryz.prog 195 #[.pointer (some ⟨s,0,none⟩),.int .i64 a,.int .i64 y] w fun e w'=>e=Ending.returned (.tuple #[])∧HasQ w' s b v c d bs nm I B t (wS Z a y)∧OnlyE (EQ s b v) w w':=by
 have HE:=hide h;obtain ⟨P,hP⟩:∃P,phZ Z a=P:=⟨_,rfl⟩
 have KR:Hid (∀y,QA w s b v c d bs nm I B t Z y→Calls Tryz.prog 180 #[.pointer (some ⟨s,0,none⟩),.int .i64 a] y fun e y'=>e=Ending.returned (.int .i64 P)∧QA w s b v c d bs nm I B t (cyc Z (slZ Z a)) y'):=hide (fun y q=>by rw [←hP];exact (znI q.1 a).mono fun e y' ⟨e1,q1,o1⟩=>⟨e1,q1,q.2.trans o1⟩)
 have KB:Hid (∀x,QA w s b v c d bs nm I B t (cyc Z (slZ Z a)) x→Calls Tryz.prog 160 #[.pointer (some ⟨b,0,none⟩),.int .i64 P,.int .i64 y] x fun e y'=>e=Ending.returned (.tuple #[])∧QA w s b v c d bs nm I B t (wS Z a y) y'):=hide (fun x q=>by
  have k:=zBB q.1.good b v c d bs q.1.2.2.2.2.2.2 P y (Z':=wS Z a y) (by rw [←hP];rfl)
  exact (k.2.2 x q.1.2.1).mono fun e y' ⟨e1,p1,o1⟩=>⟨e1,q.1.bus p1 o1 k.1 (zhC (by decide) _ _ _) (zhC (by decide) _ _ _) (zhC (by decide) _ _ _) (zhC (by decide) _ _ _),q.2.trans (zyJ o1)⟩)
 clear h hP;go_enter Tryz.func195,Tryz.ntmps195;go_wp2_with fail;refine zaD (zcx [.pointer (some ⟨s,0,none⟩),.pointer (some ⟨s,0,none⟩),.pointer (some ⟨s,8,none⟩),.pointer (some ⟨b,0,none⟩),.pointer (some ⟨s,0,none⟩),.int .i64 a,.int .i64 P,.int .i64 y,.tuple #[]]) (fun dd ww=>(stgs [QA w s b v c d bs nm I B t Z,QA w s b v c d bs nm I B t (cyc Z (slZ Z a)),QA w s b v c d bs nm I B t (wS Z a y)]) (cntD [6,8] dd) ww) _ (fun u=>by simp only [zaA,Act.put,List.setIfInBounds_toArray,List.set_cons_succ,List.set_cons_zero,Nat.reduceAdd];rfl) (by kernel_rfl) (by kernel_rfl) (by kernel_rfl) (fun dn hd=>zbe hd (QA.mk HE.out)) ?_ ?_
 ·repeat' first|refine zaW (fun u dn x hi hc hk hs=>?_) ?_|exact zbb
  ·go_wp2_with fail;exact zad _ rfl rfl (zac rfl hs)
  ·obtain ⟨⟨(h0:u 0=.pointer (some ⟨s,0,none⟩)),t0⟩,_⟩:=hk;simp only [h0];clear h0;go_wp2_with fail;exact zad _ rfl rfl (zac rfl hs)
  ·obtain ⟨⟨(h1:u 1=.pointer (some ⟨s,0,none⟩)),t1⟩,_⟩:=hk;simp only [h1];clear h1;go_wp2_with fail;exact zad _ rfl rfl (zac rfl hs)
  ·obtain ⟨⟨(h2:u 2=.pointer (some ⟨s,8,none⟩)),t2⟩,_⟩:=hk;simp only [h2];clear h2;have hs1:=hs;have q:=zgM hs1 (zeG [6,8] dn) (fun q=>q.1.buss) (fun q=>q.1.buss) (fun q=>q.1.buss);go_wp2_with fail;exact zad _ rfl rfl (zac rfl hs)
  ·go_wp2_with fail;exact zad _ rfl rfl (zac rfl hs)
  ·go_wp2_with fail;exact zad _ rfl rfl (zac rfl hs)
  ·obtain ⟨⟨(h4:u 4=.pointer (some ⟨s,0,none⟩)),t4⟩,⟨(h5:u 5=.int .i64 a),t5⟩,_⟩:=hk;simp only [h4,h5];clear h4 h5;have d6:=hi;have d8:=zap hc hi 8 60 (by kernel_rfl);have hn:cntD [6,8] dn=0:=by simp only [cntD,d6,d8];rfl
   have hs1:=zan hn hs;have hn2:cntD [6,8] (updD dn 6)=1:=by show (if updD dn 6 6=true then 1 else 0)+((if updD dn 6 8=true then 1 else 0)+0)=1;rw [zaI,zar dn (show ¬8=6 by decide),d8];rfl
   have HN2:=hide hn2;clear hn hn2 d8;have HS:=hide hs1;clear hs hs1;go_wp2_with fail;refine (KR.out _ HS.out).mono ?_;rintro e x2 ⟨rfl,h2⟩;have H2:=hide h2;clear h2 HS;go_wp2_with fail;exact zad _ rfl rfl (zbu HN2.out H2.out)
  ·go_wp2_with fail;exact zad _ rfl rfl (zac rfl hs)
  ·obtain ⟨⟨(h3:u 3=.pointer (some ⟨b,0,none⟩)),t3⟩,⟨(h6:u 6=.int .i64 P),t6⟩,⟨(h7:u 7=.int .i64 y),t7⟩,_,_⟩:=hk;simp only [h3,h6,h7];clear h3 h6 h7;have d6:=t6;have d8:=hi;have hn:cntD [6,8] dn=1:=by simp only [cntD,d6,d8];rfl
   have hs1:=zan hn hs;have hn2:cntD [6,8] (updD dn 8)=2:=by show (if updD dn 8 6=true then 1 else 0)+((if updD dn 8 8=true then 1 else 0)+0)=2;rw [zar dn (show ¬6=8 by decide),zaI,d6];rfl
   have HN2:=hide hn2;clear hn hn2 d6;have HS:=hide hs1;clear hs hs1;go_wp2_with fail;refine (KB.out _ HS.out).mono ?_;rintro e x2 ⟨rfl,h2⟩;have H2:=hide h2;clear h2 HS;go_wp2_with fail;exact zad _ rfl rfl (zbu HN2.out H2.out)
 rintro u dn x hall hs hv;clear hv;have hn:cntD [6,8] dn=2:=by show (if dn 6=true then 1 else 0)+((if dn 8=true then 1 else 0)+0)=2;rw [hall 6 (by decide),hall 8 (by decide)];rfl
 have hs:=zan hn hs;clear hn hall;obtain ⟨h2,o2⟩:QA w s b v c d bs nm I B t (wS Z a y) x:=hs;have H2:=hide h2;have O2:=hide o2;clear h2 o2 hs;go_wp2;go_end0;exact ⟨rfl,H2.out,O2.out⟩
theorem zmv (h:HasQ w s b v c d bs nm I B t Z) (x y:Int):Calls Tryz.prog 70 #[.pointer (some ⟨s,0,none⟩),.int .i64 x,.int .i64 y] w fun e w'=>e=Ending.returned (.int .i64 (pV bs Z x y))∧HasQ w' s b v c d bs nm I B t (pS Z x y)∧OnlyE (EQ s b v) w w':=by
 have HE:=hide h;clear h;go_enter Tryz.func70,Tryz.ntmps70;go_wp2_with fail;refine (zkl HE.out x).mono ?_;rintro e w1 ⟨rfl,h1,o1⟩;have H1:=hide h1;have O1:=hide o1;clear h1 o1 HE;go_wp2_with fail;refine (zkl H1.out y).mono ?_;rintro e w2 ⟨rfl,h2,o2⟩;have H2:=hide h2;have O2:=hide (O1.out.trans o2);clear h2 o2 H1 O1;go_wp2_with (first|(go_at_call 118;refine (zcT _ _ _).mono ?_;rintro e w9 ⟨rfl,b9⟩;have H3:=hide (H2.out.next b9);have O3:=hide (O2.out.trans (zet (s:=s) (b:=b) (v:=v) b9));clear b9 H2 O2));go_ret;exact ⟨rfl,H3.out,O3.out⟩
theorem zmw (h:HasQ w s b v c d bs nm I B t Z) (x:Int):Calls Tryz.prog 36 #[.pointer (some ⟨s,0,none⟩),.int .i64 x] w fun e w'=>e=Ending.returned (.int .i64 (pV bs Z x (wOf x 1)))∧HasQ w' s b v c d bs nm I B t (pS Z x (wOf x 1))∧OnlyE (EQ s b v) w w':=by
 have HE:=hide h;clear h;go_enter Tryz.func36,Tryz.ntmps36;go_wp2_with fail;refine (zsw x _).mono ?_;rintro e w1 ⟨rfl,b1⟩;have H1:=hide (HE.out.next b1);have O1:=hide (zet (s:=s) (b:=b) (v:=v) b1);clear b1 HE;go_wp2_with fail;refine (zmv H1.out x _).mono ?_;rintro e w2 ⟨rfl,h2,o2⟩;have H2:=hide h2;have O2:=hide (O1.out.trans o2);clear h2 o2 H1 O1;go_wp2;go_ret;exact ⟨rfl,H2.out,O2.out⟩
theorem zxb (h:∀k,GZ k (Z k)) (k:Nat) (hk:k<5):0≤Z 20 k∧Z 20 k<256:=(h 20).1 k hk
theorem gz_pc (h:∀k,GZ k (Z k)):0≤Z 20 5∧Z 20 5<65536:=(h 20).2
theorem zsE (h:GZ 20 g) (k:Nat) (hk:k<5) (x:Int) (x0:0≤x) (x1:x<256):GZ 20 (up g k x):=by
 refine ⟨fun j hj=>?_,?_⟩
 ·unfold up;split
  ·exact ⟨x0,x1⟩
  ·exact h.1 j hj
 ·rw [zbC _ _ _ _ (by omega)];exact h.2
theorem zxc (h:GZ 20 g) (x:Int) (x0:0≤x) (x1:x<65536):GZ 20 (up g 5 x):=by
 refine ⟨fun j hj=>?_,?_⟩
 ·rw [zbC _ _ _ _ (by omega)];exact h.1 j hj
 ·rw [zhS];exact ⟨x0,x1⟩
theorem zsF (h:HasQ w s b v c d bs nm I B t Z):Calls Tryz.prog 137 #[.pointer (some ⟨s,0,none⟩)] w fun e w'=>e=Ending.returned (.int .i64 (nV bs Z))∧HasQ w' s b v c d bs nm I B t (nx Z)∧OnlyE (EQ s b v) w w':=by
 have HE:=hide h;have c5:=h.reg 5 (by decide);have r5:=gz_pc h.good;have E5:Hid (rS Z (Z 20 5) 20=Z 20):=hide (zki _ _ _ (by decide));clear h;go_enter Tryz.func137,Tryz.ntmps137;go_wp2_with fail;refine (zkl HE.out (Z 20 5)).mono ?_;rintro e w1 ⟨rfl,h1,o1⟩;have c5:=h1.reg 5 (by decide);rw [E5.out] at c5;have z5:=h1.frz 5;have H1:=hide (h1.putR 5 (by decide) ((Z 20 5+1)%65536) (zxc (h1.good 20) _ (by omega) (by omega)));have O1:=hide (zcP o1 5 (.int .i64 ((Z 20 5+1)%65536)));clear h1 o1 HE;go_wp2_with (first|(go_at_call 86;refine (zaU _ _).mono ?_;rintro e w' ⟨rfl,rfl⟩));go_ret;exact ⟨rfl,H1.out,O1.out⟩
theorem zBI (h:HasQ w s b v c d bs nm I B t Z) (f:Int):Calls Tryz.prog 138 #[.pointer (some ⟨s,0,none⟩),.int .i64 f] w fun e w'=>e=Ending.returned (.bool (hasF (Z 20 4) f))∧w'=w:=by
 have c4:=h.reg 4 (by decide);clear h;go_enter Tryz.func138,Tryz.ntmps138;go_wp2;go_ret;exact ⟨rfl,rfl⟩
theorem zyM (h:HasQ w s b v c d bs nm I B t Z) (f:Int) (hr:zao (anP (Z 20 4) f)):Calls Tryz.prog 139 #[.pointer (some ⟨s,0,none⟩),.int .i64 f,.bool false] w fun e w'=>e=Ending.returned (.tuple #[])∧HasQ w' s b v c d bs nm I B t (setR Z 4 (anP (Z 20 4) f))∧OnlyE (EQ s b v) w w':=by
 have c4:=h.reg 4 (by decide);have z4:=h.frz 4;have H1:=hide (h.putR 4 (by decide) (anP (Z 20 4) f) (zsE (h.good 20) 4 (by decide) _ hr.1 hr.2));have O1:=hide (zcP (zet (s:=s) (b:=b) (v:=v) (Below.refl _ w)) 4 (.int .i64 (anP (Z 20 4) f)));clear h hr;go_enter Tryz.func139,Tryz.ntmps139;go_wp2;go_end0;exact ⟨rfl,H1.out,O1.out⟩
end Go.Proofs.YtdiidjehdginnaaGreatDoor.L25
