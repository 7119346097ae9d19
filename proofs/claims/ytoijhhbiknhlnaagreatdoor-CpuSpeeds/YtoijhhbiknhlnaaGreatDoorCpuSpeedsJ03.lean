/- Contracts of package region: what stands at a place of the bus, which kinds are slow, which are held. -/
import Derived.Test.YtoijhhbiknhlnaaGreatDoorProg
import Derived.Test.YtoijhhbiknhlnaaGreatDoorCpuSpeedsJ01
import Derived.Laws.StructEq
import Derived.Laws.Rows
import Derived.Laws.Tables
import Derived.Laws.ResultCell
import Derived.Laws.CopyOwn
import Derived.WalkMore
import Derived.WalkKit
import Derived.Below
import Derived.OneCell
import Derived.Handy
namespace Go.Proofs.YtoijhhbiknhlnaaGreatDoor.G6
set_option maxRecDepth 20000
open Go.RowKit
set_option linter.unusedVariables false
def zeg:Array Value:=#[.int .i64 0,.int .i64 0,.int .i64 4,.int .i64 8,.int .i64 16,.int .i64 2,.int .i64 1,.int .i64 4]
def HasPorts (w:World):Prop:=∃t fr,w.heap[5]? = some (.cells zeg t fr)
theorem HasPorts.below {B:Nat} {w w':World} (h:HasPorts w) (b:Below B w w') (hB:5<B):HasPorts w':=by
 obtain ⟨t,fr,e⟩:=h;exact ⟨t,fr,(b.block 5 hB).trans e⟩
theorem HasPorts.pos {w:World} (h:HasPorts w):5<w.heap.size:=by
 obtain ⟨t,fr,e⟩:=h;exact lt_of_block e
theorem HasPorts.next {w w':World} (h:HasPorts w) (b:Below w.heap.size w w'):HasPorts w':=h.below b h.pos
def zlp (j:Nat):Int:=[(0:Int),0,4,8,16,2,1,4].getD j 0
theorem HasPorts.cell {w:World} (h:HasPorts w) (j:Nat) (hj:j<8):w.cell? ⟨5,j,none⟩=some (.int .i64 (zlp j)):=by
 obtain ⟨t,fr,e⟩:=h;rcases j with _|_|_|_|_|_|_|_|j
 all_goals first|omega|(simp [World.cell?,e,zeg,zlp])
theorem zmm (x y z:Value) (w:World):(Instr.field 143 (.agg #[x,y,z]) 0).run Tryz.prog w=.ok x w:=by kernel_rfl
def zaI (p:Int):Int:=if p<0∨2097152≤p then 8 else if p<1048576 then 0 else if 2031616≤p∧p<2064384 then 1 else if p<2088960∨2095104≤p then 8 else 2+(p-2088960)/1024
def zcJ (p:Int):Int:=if 0≤p∧p<1048576 then p/8192 else 0
def atW (p:Int):Int:=
 if zaI p=0∨zaI p=1 then p%8192 else if zaI p=2∨zaI p=7 then p%4 else if zaI p=3 then p%8 else if zaI p=4 then p%16 else if zaI p=5 then p%2 else 0
def zrf (k:Int):Int:=if k=2∨k=3 then 1 else 0
theorem zrg (k:Int) (w:World):Calls Tryz.prog 168 #[.int .i64 k] w fun e w'=>e=.returned (.int .i64 (zrf k))∧w'=w:=by
 unfold zrf
 by_cases h2:k=2
 ·subst h2;go_enter Tryz.func168,Tryz.ntmps168;go_wp2;go_ret;exact ⟨rfl,rfl⟩
 ·by_cases h3:k=3
  ·subst h3;go_enter Tryz.func168,Tryz.ntmps168;go_wp2;go_ret;exact ⟨rfl,rfl⟩
  ·rw [if_neg (by omega)];go_enter Tryz.func168,Tryz.ntmps168;go_wp2;go_ret;exact ⟨rfl,rfl⟩
theorem zda (k:Int) (w:World):Calls Tryz.prog 109 #[.int .i64 k] w fun e w'=>e=.returned (.bool (decide (4≤k∧k≤7)))∧w'=w:=by
 by_cases h:4≤k∧k≤7
 ·rw [decide_eq_true h];have hk:k=4∨k=5∨k=6∨k=7:=by omega
  rcases hk with rfl|rfl|rfl|rfl
  all_goals
   go_enter Tryz.func109,Tryz.ntmps109;go_wp2;go_ret;exact ⟨rfl,rfl⟩
 ·rw [decide_eq_false h];have n4:¬k=4:=by omega
  have n5:¬k=5:=by omega
  have n6:¬k=6:=by omega
  have n7:¬k=7:=by omega
  clear h;go_enter Tryz.func109,Tryz.ntmps109;go_wp2;go_ret;exact ⟨rfl,rfl⟩
theorem zuv (g r:Int) (w:World) (h:g≤127):Calls Tryz.prog 122 #[.int .i64 g,.int .i64 r] w fun e w'=>e=.returned (.agg #[.int .i64 0,.int .i64 g,.int .i64 r])∧Below w.heap.size w w':=by
 go_enter Tryz.func122,Tryz.ntmps122;go_wp2;go_returns;exact ⟨rfl,(Below.refl _ w).alloc (Nat.le_refl _) _⟩
theorem zuw (g r:Int) (w:World) (h:248≤g) (k:g≤251):Calls Tryz.prog 122 #[.int .i64 g,.int .i64 r] w fun e w'=>e=.returned (.agg #[.int .i64 1,.int .i64 0,.int .i64 r])∧Below w.heap.size w w':=by
 go_enter Tryz.func122,Tryz.ntmps122;go_wp2;go_returns;exact ⟨rfl,(Below.refl _ w).alloc (Nat.le_refl _) _⟩
theorem zlq (g r:Int) (w:World) (h:127<g) (k:g<248∨251<g):Calls Tryz.prog 122 #[.int .i64 g,.int .i64 r] w fun e w'=>e=.returned (.agg #[.int .i64 8,.int .i64 0,.int .i64 0])∧Below w.heap.size w w':=by
 by_cases k1:g<248
 ·clear k;go_enter Tryz.func122,Tryz.ntmps122;go_wp2;go_returns;exact ⟨rfl,(Below.refl _ w).alloc (Nat.le_refl _) _⟩
 ·have k2:251<g:=by omega
  clear k;go_enter Tryz.func122,Tryz.ntmps122;go_wp2;go_returns;exact ⟨rfl,(Below.refl _ w).alloc (Nat.le_refl _) _⟩
theorem zux (r:Int) (q:Nat) (w:World) (hT:HasPorts w) (hq:q<6) (h0:1024*(q:Int)≤r) (h1:r<1024*(q:Int)+1024):
  Calls Tryz.prog 123 #[.int .i64 r] w fun e w'=>e=.returned (.agg #[.int .i64 (2+(q:Int)),.int .i64 0,.int .i64 (r%zlp (2+q))])∧Below w.heap.size w w':=by
 have hp:=hT.pos;have hc:=hT.cell (2+q) (by omega);have hd:r/1024=(q:Int):=by omega
 have r0:0≤r:=by omega
 clear hT h1 h0;rcases q with _|_|_|_|_|_|q
 ·
  go_enter Tryz.func123,Tryz.ntmps123;go_wp2;go_returns;exact ⟨rfl,(Below.refl _ w).alloc (Nat.le_refl _) _⟩
 ·
  go_enter Tryz.func123,Tryz.ntmps123;go_wp2;go_returns;exact ⟨rfl,(Below.refl _ w).alloc (Nat.le_refl _) _⟩
 ·
  go_enter Tryz.func123,Tryz.ntmps123;go_wp2;go_returns;exact ⟨rfl,(Below.refl _ w).alloc (Nat.le_refl _) _⟩
 ·
  go_enter Tryz.func123,Tryz.ntmps123;go_wp2;go_returns;exact ⟨rfl,(Below.refl _ w).alloc (Nat.le_refl _) _⟩
 ·
  go_enter Tryz.func123,Tryz.ntmps123;go_wp2;go_returns;exact ⟨rfl,(Below.refl _ w).alloc (Nat.le_refl _) _⟩
 ·
  go_enter Tryz.func123,Tryz.ntmps123;go_wp2;go_returns;exact ⟨rfl,(Below.refl _ w).alloc (Nat.le_refl _) _⟩
 ·omega
theorem zrh (r:Int) (w:World) (h:6144≤r) (k:r<8192):Calls Tryz.prog 123 #[.int .i64 r] w fun e w'=>e=.returned (.agg #[.int .i64 8,.int .i64 0,.int .i64 0])∧Below w.heap.size w w':=by
 have hd:6≤r/1024:=by omega
 have hd1:r/1024≤7:=by omega
 go_enter Tryz.func123,Tryz.ntmps123;go_wp2;go_returns;exact ⟨rfl,(Below.refl _ w).alloc (Nat.le_refl _) _⟩
theorem zjp (p:Int) (w:World) (h:p<0∨2097152≤p):Calls Tryz.prog 70 #[.int .i64 p] w fun e w'=>e=.returned (.agg #[.int .i64 8,.int .i64 0,.int .i64 0])∧Below w.heap.size w w':=by
 by_cases k1:p<0
 ·clear h;go_enter Tryz.func70,Tryz.ntmps70;go_wp2;go_returns;exact ⟨rfl,((Below.refl _ w).alloc (Nat.le_refl _) _).alloc (by simp) _⟩
 ·have k2:2097152≤p:=by omega
  clear h;go_enter Tryz.func70,Tryz.ntmps70;go_wp2;go_returns;exact ⟨rfl,((Below.refl _ w).alloc (Nat.le_refl _) _).alloc (by simp) _⟩
theorem zgM (p:Int) (w:World) (h:0≤p) (k:p<1048576):Calls Tryz.prog 70 #[.int .i64 p] w fun e w'=>e=.returned (.agg #[.int .i64 0,.int .i64 (p/8192),.int .i64 (p%8192)])∧Below w.heap.size w w':=by
 obtain ⟨g,hg⟩:∃g,g=p/8192:=⟨_,rfl⟩
 obtain ⟨r,hr⟩:∃r,r=p%8192:=⟨_,rfl⟩
 have c:=hide (fun w=>zuv g r w (by omega));have g0:0≤g∧g≤127:=by omega
 have eg:p/8192=g:=hg.symm;have er:p%8192=r:=hr.symm;rw [eg,er];clear hg hr;go_enter Tryz.func70,Tryz.ntmps70;go_wp2_with fail;refine (c.out _).mono ?_;rintro e w1 ⟨rfl,b1⟩;have s1:=b1.size;have r2:=b1.block w.heap.size (by simp;omega);have r3:=b1.block (w.heap.size+1) (by simp);rw [heap_alloc2_old] at r2;rw [heap_alloc2_new] at r3;have q2:(w1.alloc (.cells #[.int .i64 0,.int .i64 g,.int .i64 r] 143)).heap[w.heap.size]? = some (.cells #[.int .i64 0,.int .i64 0,.int .i64 0] 143 (0,0)):=(((Below.refl w1.heap.size w1).alloc (Nat.le_refl _) _).block w.heap.size (lt_of_block r2)).trans r2;have q3:(w1.alloc (.cells #[.int .i64 0,.int .i64 g,.int .i64 r] 143)).heap[w.heap.size+1]? = some (.cells #[.int .i64 8,.int .i64 0,.int .i64 0] 143 (0,0)):=(((Below.refl w1.heap.size w1).alloc (Nat.le_refl _) _).block (w.heap.size+1) (lt_of_block r3)).trans r3;have BW:=hide (((((Below.refl w.heap.size w).alloc (Nat.le_refl _) (.cells #[.int .i64 0,.int .i64 0,.int .i64 0] 143)).alloc (by simp) (.cells #[.int .i64 8,.int .i64 0,.int .i64 0] 143)).trans (b1.mono (by simp;omega))).alloc (by simp at s1;omega) (.cells #[.int .i64 0,.int .i64 g,.int .i64 r] 143));have R2:=hide q2;have R3:=hide q3;clear b1 s1 r2 r3 q2 q3
 go_wp2_with (first
  |(refine wpList_load_row rfl 143 (.tmp 3) rfl (w.heap.size+1) rfl 143 _ (0,0) _ R3.out Tryz.underlying143 rfl (by kernel_rfl) ?_)
  |(refine wpList_store_row rfl 143 (.tmp 2) (.tmp 25) rfl w.heap.size _ rfl rfl 143 _ R2.out (by kernel_rfl) rfl (by kernel_rfl) ?_))
 (try simp only [Exit.inBlock,Exit.then])
 refine bodyPost_ret (results_cell_row rfl _ _ w.heap.size 143 _ (0,0) _ rfl (setRow_heap _ _ _ _ _ _ R2.out) Tryz.underlying143 rfl (by kernel_rfl)) rfl ?_;exact ⟨rfl,below_setRow BW.out (Nat.le_refl _) _⟩
theorem zgN (p:Int) (w:World) (h:2031616≤p) (k:p<2064384):Calls Tryz.prog 70 #[.int .i64 p] w fun e w'=>e=.returned (.agg #[.int .i64 1,.int .i64 0,.int .i64 (p%8192)])∧Below w.heap.size w w':=by
 obtain ⟨g,hg⟩:∃g,g=p/8192:=⟨_,rfl⟩
 obtain ⟨r,hr⟩:∃r,r=p%8192:=⟨_,rfl⟩
 have c:=hide (fun w=>zuw g r w (by omega) (by omega));have g0:248≤g∧g≤251:=by omega
 have eg:p/8192=g:=hg.symm;have er:p%8192=r:=hr.symm;rw [er];clear hg hr;go_enter Tryz.func70,Tryz.ntmps70;go_wp2_with fail;refine (c.out _).mono ?_;rintro e w1 ⟨rfl,b1⟩;have s1:=b1.size;have r2:=b1.block w.heap.size (by simp;omega);have r3:=b1.block (w.heap.size+1) (by simp);rw [heap_alloc2_old] at r2;rw [heap_alloc2_new] at r3;have q2:(w1.alloc (.cells #[.int .i64 1,.int .i64 0,.int .i64 r] 143)).heap[w.heap.size]? = some (.cells #[.int .i64 0,.int .i64 0,.int .i64 0] 143 (0,0)):=(((Below.refl w1.heap.size w1).alloc (Nat.le_refl _) _).block w.heap.size (lt_of_block r2)).trans r2;have q3:(w1.alloc (.cells #[.int .i64 1,.int .i64 0,.int .i64 r] 143)).heap[w.heap.size+1]? = some (.cells #[.int .i64 8,.int .i64 0,.int .i64 0] 143 (0,0)):=(((Below.refl w1.heap.size w1).alloc (Nat.le_refl _) _).block (w.heap.size+1) (lt_of_block r3)).trans r3;have BW:=hide (((((Below.refl w.heap.size w).alloc (Nat.le_refl _) (.cells #[.int .i64 0,.int .i64 0,.int .i64 0] 143)).alloc (by simp) (.cells #[.int .i64 8,.int .i64 0,.int .i64 0] 143)).trans (b1.mono (by simp;omega))).alloc (by simp at s1;omega) (.cells #[.int .i64 1,.int .i64 0,.int .i64 r] 143));have R2:=hide q2;have R3:=hide q3;clear b1 s1 r2 r3 q2 q3
 go_wp2_with (first
  |(refine wpList_load_row rfl 143 (.tmp 3) rfl (w.heap.size+1) rfl 143 _ (0,0) _ R3.out Tryz.underlying143 rfl (by kernel_rfl) ?_)
  |(refine wpList_store_row rfl 143 (.tmp 2) (.tmp 25) rfl w.heap.size _ rfl rfl 143 _ R2.out (by kernel_rfl) rfl (by kernel_rfl) ?_))
 (try simp only [Exit.inBlock,Exit.then])
 refine bodyPost_ret (results_cell_row rfl _ _ w.heap.size 143 _ (0,0) _ rfl (setRow_heap _ _ _ _ _ _ R2.out) Tryz.underlying143 rfl (by kernel_rfl)) rfl ?_;exact ⟨rfl,below_setRow BW.out (Nat.le_refl _) _⟩
theorem zmn (p:Int) (w:World) (h:1048576≤p) (k:p<2031616∨2064384≤p) (l:p<2088960):Calls Tryz.prog 70 #[.int .i64 p] w fun e w'=>e=.returned (.agg #[.int .i64 8,.int .i64 0,.int .i64 0])∧Below w.heap.size w w':=by
 obtain ⟨g,hg⟩:∃g,g=p/8192:=⟨_,rfl⟩
 obtain ⟨r,hr⟩:∃r,r=p%8192:=⟨_,rfl⟩
 have c:=hide (fun w=>zlq g r w (by omega) (by omega));have g0:g<255:=by omega
 have p1:p<2097152:=by omega
 have eg:p/8192=g:=hg.symm;have er:p%8192=r:=hr.symm;clear hg hr k l;go_enter Tryz.func70,Tryz.ntmps70;go_wp2_with fail;refine (c.out _).mono ?_;rintro e w1 ⟨rfl,b1⟩;have s1:=b1.size;have r2:=b1.block w.heap.size (by simp;omega);have r3:=b1.block (w.heap.size+1) (by simp);rw [heap_alloc2_old] at r2;rw [heap_alloc2_new] at r3;have q2:(w1.alloc (.cells #[.int .i64 8,.int .i64 0,.int .i64 0] 143)).heap[w.heap.size]? = some (.cells #[.int .i64 0,.int .i64 0,.int .i64 0] 143 (0,0)):=(((Below.refl w1.heap.size w1).alloc (Nat.le_refl _) _).block w.heap.size (lt_of_block r2)).trans r2;have q3:(w1.alloc (.cells #[.int .i64 8,.int .i64 0,.int .i64 0] 143)).heap[w.heap.size+1]? = some (.cells #[.int .i64 8,.int .i64 0,.int .i64 0] 143 (0,0)):=(((Below.refl w1.heap.size w1).alloc (Nat.le_refl _) _).block (w.heap.size+1) (lt_of_block r3)).trans r3;have BW:=hide (((((Below.refl w.heap.size w).alloc (Nat.le_refl _) (.cells #[.int .i64 0,.int .i64 0,.int .i64 0] 143)).alloc (by simp) (.cells #[.int .i64 8,.int .i64 0,.int .i64 0] 143)).trans (b1.mono (by simp;omega))).alloc (by simp at s1;omega) (.cells #[.int .i64 8,.int .i64 0,.int .i64 0] 143));have R2:=hide q2;have R3:=hide q3;clear b1 s1 r2 r3 q2 q3
 go_wp2_with (first
  |(refine wpList_load_row rfl 143 (.tmp 3) rfl (w.heap.size+1) rfl 143 _ (0,0) _ R3.out Tryz.underlying143 rfl (by kernel_rfl) ?_)
  |(refine wpList_store_row rfl 143 (.tmp 2) (.tmp 30) rfl w.heap.size _ rfl rfl 143 _ R2.out (by kernel_rfl) rfl (by kernel_rfl) ?_))
 (try simp only [Exit.inBlock,Exit.then])
 refine bodyPost_ret (results_cell_row rfl _ _ w.heap.size 143 _ (0,0) _ rfl (setRow_heap _ _ _ _ _ _ R2.out) Tryz.underlying143 rfl (by kernel_rfl)) rfl ?_;exact ⟨rfl,below_setRow BW.out (Nat.le_refl _) _⟩
theorem zhL (p x y:Int) (w:World) (hT:HasPorts w) (h:2088960≤p) (k:p<2097152)
  (cp:∀w,HasPorts w→Calls Tryz.prog 123 #[.int .i64 (p%8192)] w fun e w'=>e=.returned (.agg #[.int .i64 x,.int .i64 0,.int .i64 y])∧Below w.heap.size w w'):
  Calls Tryz.prog 70 #[.int .i64 p] w fun e w'=>e=.returned (.agg #[.int .i64 x,.int .i64 0,.int .i64 y])∧Below w.heap.size w w':=by
 obtain ⟨r,hr⟩:∃r,r=p%8192:=⟨_,rfl⟩
 have c:=hide (fun w=>zlq 255 r w (by omega) (by omega));have eg:p/8192=255:=by omega
 have er:p%8192=r:=hr.symm;rw [er] at cp;have CP:=hide cp;have HT:=hide hT;clear hr cp hT;go_enter Tryz.func70,Tryz.ntmps70;go_wp2_with fail;refine (c.out _).mono ?_;rintro e w1 ⟨rfl,b1⟩;have s1:=b1.size;have r2:=b1.block w.heap.size (by simp;omega);have r3:=b1.block (w.heap.size+1) (by simp);rw [heap_alloc2_old] at r2;rw [heap_alloc2_new] at r3;have q2:(w1.alloc (.cells #[.int .i64 8,.int .i64 0,.int .i64 0] 143)).heap[w.heap.size]? = some (.cells #[.int .i64 0,.int .i64 0,.int .i64 0] 143 (0,0)):=(((Below.refl w1.heap.size w1).alloc (Nat.le_refl _) _).block w.heap.size (lt_of_block r2)).trans r2;have q3:(w1.alloc (.cells #[.int .i64 8,.int .i64 0,.int .i64 0] 143)).heap[w.heap.size+1]? = some (.cells #[.int .i64 8,.int .i64 0,.int .i64 0] 143 (0,0)):=(((Below.refl w1.heap.size w1).alloc (Nat.le_refl _) _).block (w.heap.size+1) (lt_of_block r3)).trans r3;have BW:=hide (((((Below.refl w.heap.size w).alloc (Nat.le_refl _) (.cells #[.int .i64 0,.int .i64 0,.int .i64 0] 143)).alloc (by simp) (.cells #[.int .i64 8,.int .i64 0,.int .i64 0] 143)).trans (b1.mono (by simp;omega))).alloc (by simp at s1;omega) (.cells #[.int .i64 8,.int .i64 0,.int .i64 0] 143));have R2:=hide q2;have R3:=hide q3;clear b1 s1 r2 r3 q2 q3
 go_wp2_with (first
  |(refine wpList_load_row rfl 143 (.tmp 3) rfl (w.heap.size+1) rfl 143 _ (0,0) _ R3.out Tryz.underlying143 rfl (by kernel_rfl) ?_))
 refine (CP.out _ (HT.out.next BW.out)).mono ?_;rintro e w3 ⟨rfl,b3⟩;have q3:=(b3.block w.heap.size (lt_of_block R2.out)).trans R2.out;have BX:=hide (zar BW.out b3);clear R2 BW;have R2:=hide q3;have BW:=hide BX.out;clear q3 b3
 go_wp2_with (first
  |(refine wpList_store_row rfl 143 (.tmp 2) (.tmp 29) rfl w.heap.size _ rfl rfl 143 _ R2.out (by kernel_rfl) rfl (by kernel_rfl) ?_))
 (try simp only [Exit.inBlock,Exit.then])
 refine bodyPost_ret (results_cell_row rfl _ _ w.heap.size 143 _ (0,0) _ rfl (setRow_heap _ _ _ _ _ _ R2.out) Tryz.underlying143 rfl (by kernel_rfl)) rfl ?_;exact ⟨rfl,below_setRow BW.out (Nat.le_refl _) _⟩
theorem zjq (p:Int) (w:World) (hT:HasPorts w):Calls Tryz.prog 70 #[.int .i64 p] w fun e w'=>e=.returned (.agg #[.int .i64 (zaI p),.int .i64 (zcJ p),.int .i64 (atW p)])∧Below w.heap.size w w':=by
 by_cases h1:p<0∨2097152≤p
 ·have ek:zaI p=8:=by unfold zaI;rw [if_pos h1]
  have eg:zcJ p=0:=by unfold zcJ;rw [if_neg (by omega)]
  have ea:atW p=0:=by unfold atW;rw [ek];rfl
  rw [ek,eg,ea];exact zjp p w h1
 ·by_cases h2:p<1048576
  ·have ek:zaI p=0:=by unfold zaI;rw [if_neg h1,if_pos h2]
   have eg:zcJ p=p/8192:=by unfold zcJ;rw [if_pos (by omega)]
   have ea:atW p=p%8192:=by unfold atW;rw [ek];rfl
   rw [ek,eg,ea];exact zgM p w (by omega) h2
  ·have eg:zcJ p=0:=by unfold zcJ;rw [if_neg (by omega)]
   by_cases h3:2031616≤p∧p<2064384
   ·have ek:zaI p=1:=by unfold zaI;rw [if_neg h1,if_neg h2,if_pos h3]
    have ea:atW p=p%8192:=by unfold atW;rw [ek];rfl
    rw [ek,eg,ea];exact zgN p w h3.1 h3.2
   ·by_cases h4:p<2088960
    ·have ek:zaI p=8:=by unfold zaI;rw [if_neg h1,if_neg h2,if_neg h3,if_pos (by omega)]
     have ea:atW p=0:=by unfold atW;rw [ek];rfl
     rw [ek,eg,ea];exact zmn p w (by omega) (by omega) h4
    ·by_cases h5:2095104≤p
     ·have ek:zaI p=8:=by unfold zaI;rw [if_neg h1,if_neg h2,if_neg h3,if_pos (by omega)]
      have ea:atW p=0:=by unfold atW;rw [ek];rfl
      rw [ek,eg,ea];exact zhL p 8 0 w hT (by omega) (by omega) fun w _=>zrh _ w (by omega) (by omega)
     ·obtain ⟨q,hq⟩:∃q:Nat,(q:Int)=(p-2088960)/1024:=⟨((p-2088960)/1024).toNat,by omega⟩
      have ek:zaI p=2+(q:Int):=by unfold zaI;rw [if_neg h1,if_neg h2,if_neg h3,if_neg (by omega),hq]
      have q6:q<6:=by omega
      have ea:atW p=p%8192%zlp (2+q):=by
       unfold atW;rw [ek];rcases q with _|_|_|_|_|_|q
       ·show p%4=p%8192%4;omega
       ·show p%8=p%8192%8;omega
       ·show p%16=p%8192%16;omega
       ·show p%2=p%8192%2;omega
       ·show 0=p%8192%1;omega
       ·show p%4=p%8192%4;omega
       ·omega
      rw [ek,eg,ea];exact zhL p _ _ w hT (by omega) (by omega) fun w hT=>zux _ q w hT q6 (by omega) (by omega)
end Go.Proofs.YtoijhhbiknhlnaaGreatDoor.G6
