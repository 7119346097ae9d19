/- The program's machine: a write, one theorem a kind of place. -/
import Derived.Test.YtnllcknfmciebaaGreatDoorBusPlaysJ10
import Derived.Deep.CutRange
namespace Go.Proofs.YtnllcknfmciebaaGreatDoor.L24
set_option maxRecDepth 20000
open B4 C3 G6 R15 W13
open Go.RowKit
set_option linter.unusedVariables false
set_option maxHeartbeats 1000000 in
theorem write_open {w:World} {b v c d:Nat} {L:List (Nat×(Nat→Value))} {bs:List Int} {f:Nat→Int} {wr rd st lo bu:Int} (h:HasX w b v c d L bs f wr rd st lo bu) (p n g a:Int) (KW:∀w,HasPorts w→Calls Tryz.prog 23 #[.int .i64 p] w fun e w'=>e=Ending.returned (.agg #[.int .i64 8,.int .i64 g,.int .i64 a])∧Below w.heap.size w w') (y:Int) (hy:n%256=y):Calls Tryz.prog 8 #[.pointer (some ⟨b,0,none⟩),.int .i64 p,.int .i64 n] w fun e w'=>e=Ending.returned (.tuple #[])∧HasX w' b v c d L bs f wr rd st lo bu∧OnlyE (EX b v) w w':=by
 have MI:=hide (missing_no h)
 have HX:=hide h
 have W0:=hide KW
 have Y0:=hide (fun w=>byte_any n w)
 rw [hy] at Y0
 have D0:=hide (fun w=>held_any 8 w)
 rw [show decide (4≤(8:Int)∧(8:Int)≤7)=false by decide] at D0
 clear h KW hy
 go_enter Tryz.func8,Tryz.ntmps8
 go_upto_region 22 with (first
  |(go_at_call 22;refine MI.out.mono ?_;rintro e w1 ⟨rfl,b1⟩;have B1:=hide b1;have W1:=hide (W0.out w1 (HX.out.next b1).tabs.2.1);clear b1 MI W0)
  |(go_at_call 39;refine (Y0.out _).mono ?_;rintro e w' ⟨rfl,hw⟩;subst w')
  |(go_at_call 23;refine W1.out.mono ?_;rintro e w2 ⟨rfl,b2⟩;have B2:=hide (bnext B1.out b2);clear b2 W1 B1)
  |(refine wpList_store_row rfl 96 (.tmp 6) (.tmp 12) rfl w2.heap.size _ rfl rfl 96 _ (heap_alloc_new _ _) (by kernel_rfl) rfl (by kernel_rfl) ?_
    refine under_list fun w3 hw3=>?_
    have M3:Hid (w3.heap[w2.heap.size]? = some (.cells #[.int .i64 8,.int .i64 g,.int .i64 a] 96 (0,0))):=hide (by rw [hw3];exact setRow_heap _ _ _ _ _ _ (heap_alloc_new _ _))
    have B3:=hide (show Below w.heap.size w w3 by rw [hw3];exact bnext B2.out (below_setRow ((Below.refl _ _).alloc (Nat.le_refl _) _) (Nat.le_refl _) _))
    have X3:=hide (HX.out.next B3.out)
    have c0:=(cell_of_row w3 w2.heap.size 0 _ _ _ M3.out).trans rfl
    have c2:=(cell_of_row w3 w2.heap.size 2 _ _ _ M3.out).trans rfl
    have NZ:=hide (show w2.heap.size≠b∧w2.heap.size≠v from ⟨Nat.ne_of_gt (Nat.lt_of_lt_of_le HX.out.1.lt B2.out.size),Nat.ne_of_gt (Nat.lt_of_lt_of_le HX.out.2.1.lt B2.out.size)⟩)
    clear hw3 B2))
 generalize w2.heap.size=z at *
 go_wp2_with (first|(go_at_call 48;refine (D0.out _).mono ?_;rintro e w' ⟨rfl,hw⟩;subst w'))
 go_end0
 exact ⟨rfl,X3.out,ex_below B3.out⟩
set_option maxHeartbeats 1000000 in
theorem write_ram {w:World} {b v c d:Nat} {L:List (Nat×(Nat→Value))} {bs:List Int} {f:Nat→Int} {wr rd st lo bu:Int} (h:HasX w b v c d L bs f wr rd st lo bu) (p n g a:Int) (KW:∀w,HasPorts w→Calls Tryz.prog 23 #[.int .i64 p] w fun e w'=>e=Ending.returned (.agg #[.int .i64 1,.int .i64 g,.int .i64 a])∧Below w.heap.size w w') (y:Int) (hy:n%256=y) (a0:0≤a) (a1:a<8192) {m:Nat→Value} (h8:L[8]? = some (8192,m)):Calls Tryz.prog 8 #[.pointer (some ⟨b,0,none⟩),.int .i64 p,.int .i64 n] w fun e w'=>e=Ending.returned (.tuple #[])∧HasX w' b v c d (L.set 8 (8192,updC m a.toNat (.int .u8 y))) bs f wr rd st lo bu∧OnlyE (EX b v) w w':=by
 have y0:0≤y∧y<256:=by omega
 have E8:=hide h8
 have hj:=hide (show a.toNat<8192 by omega)
 clear h8
 have MI:=hide (missing_no h)
 have HX:=hide h
 have W0:=hide KW
 have Y0:=hide (fun w=>byte_any n w)
 rw [hy] at Y0
 have D0:=hide (fun w=>held_any 1 w)
 rw [show decide (4≤(1:Int)∧(1:Int)≤7)=false by decide] at D0
 clear h KW hy
 go_enter Tryz.func8,Tryz.ntmps8
 go_upto_region 7 with (first
  |(go_at_call 22;refine MI.out.mono ?_;rintro e w1 ⟨rfl,b1⟩;have B1:=hide b1;have W1:=hide (W0.out w1 (HX.out.next b1).tabs.2.1);clear b1 MI W0)
  |(go_at_call 39;refine (Y0.out _).mono ?_;rintro e w' ⟨rfl,hw⟩;subst w')
  |(go_at_call 23;refine W1.out.mono ?_;rintro e w2 ⟨rfl,b2⟩;have B2:=hide (bnext B1.out b2);clear b2 W1 B1)
  |(refine wpList_store_row rfl 96 (.tmp 6) (.tmp 12) rfl w2.heap.size _ rfl rfl 96 _ (heap_alloc_new _ _) (by kernel_rfl) rfl (by kernel_rfl) ?_
    refine under_list fun w3 hw3=>?_
    have M3:Hid (w3.heap[w2.heap.size]? = some (.cells #[.int .i64 1,.int .i64 g,.int .i64 a] 96 (0,0))):=hide (by rw [hw3];exact setRow_heap _ _ _ _ _ _ (heap_alloc_new _ _))
    have B3:=hide (show Below w.heap.size w w3 by rw [hw3];exact bnext B2.out (below_setRow ((Below.refl _ _).alloc (Nat.le_refl _) _) (Nat.le_refl _) _))
    have X3:=hide (HX.out.next B3.out)
    have c0:=(cell_of_row w3 w2.heap.size 0 _ _ _ M3.out).trans rfl
    have c2:=(cell_of_row w3 w2.heap.size 2 _ _ _ M3.out).trans rfl
    have NZ:=hide (show w2.heap.size≠b∧w2.heap.size≠v from ⟨Nat.ne_of_gt (Nat.lt_of_lt_of_le HX.out.1.lt B2.out.size),Nat.ne_of_gt (Nat.lt_of_lt_of_le HX.out.2.1.lt B2.out.size)⟩)
    clear hw3 B2))
 generalize w2.heap.size=z at *
 have LZ:=lt_of_block M3.out
 have i2:=kept_cell c2 LZ
 have i8:=kept_cell (X3.out.1.get 8 E8.out a.toNat hj.out (a:=283+a.toNat) (by rw [X3.out.isB.off 8 (a:=283) rfl]) (by have:=hj.out;omega)) X3.out.1.lt
 have eu:IntKind.u8.wrap y=y:=by unfold IntKind.wrap;simp [IntKind.bits,IntKind.signed];omega
 haveI:=kept_some w3
 refine wp_region_kept_shut _ _ (show _=[_,_,_,_,_,_,_,_]++[_] from rfl) (by kernel_rfl) (by kernel_rfl) (by kernel_rfl) ?_
 repeat (go_big_quiet_step (fail))
 refine wpQuiet_nil ?_
 rintro _ ⟨wk,rfl⟩
 have X4:=hide (X3.out.next wk.below)
 have c8:=i8 wk
 have z8:=X4.out.1.frozen (283+a.toNat)
 have M4:=hide ((wk.below.block z LZ).trans M3.out)
 have H5:=hide (X4.out.1.put 8 E8.out a.toNat hj.out (a:=283+a.toNat) (by rw [X4.out.isB.off 8 (a:=283) rfl]) (.int .u8 y))
 have O4:=hide (ex_below (b:=b) (v:=v) (bnext B3.out wk.below))
 generalize wk.val=w4 at *
 clear i2 i8 c0 c2 M3 X3 B3
 go_upto_region 22 with fail
 refine under_name fun w5 hw5=>?_
 have B5:But b w4 w5:=by rw [hw5];exact (But.refl b w4).set _ _
 have X5:=hide (X4.out.lay B5 8 E8.out (by rw [hw5];exact H5.out) (by decide) (by decide))
 have O5:=hide (O4.out.trans (ex_but B5))
 have M5:=B5.obj M4.out NZ.out.1
 have c0:=(cell_of_row w5 z 0 _ _ _ M5).trans rfl
 clear hw5 B5 M5 M4 H5 X4 O4
 go_wp2_with (first|(go_at_call 48;refine (D0.out _).mono ?_;rintro e w' ⟨rfl,hw⟩;subst w'))
 go_end0
 exact ⟨rfl,X5.out,O5.out⟩
set_option maxHeartbeats 1000000 in
theorem write_rom {w:World} {b v c d:Nat} {L:List (Nat×(Nat→Value))} {bs:List Int} {f:Nat→Int} {wr rd st lo bu:Int} (h:HasX w b v c d L bs f wr rd st lo bu) (p n g a:Int) (KW:∀w,HasPorts w→Calls Tryz.prog 23 #[.int .i64 p] w fun e w'=>e=Ending.returned (.agg #[.int .i64 0,.int .i64 g,.int .i64 a])∧Below w.heap.size w w') (y:Int) (hy:n%256=y) {lt x:Int} (h7:L[7]? = some (1,fun _=>Value.int .i64 lt)) (hx:latchOf ((bs.length/8192:Nat):Int) lt a=x):Calls Tryz.prog 8 #[.pointer (some ⟨b,0,none⟩),.int .i64 p,.int .i64 n] w fun e w'=>e=Ending.returned (.tuple #[])∧HasX w' b v c d (L.set 7 (1,fun _=>Value.int .i64 x)) bs f wr rd st lo bu∧OnlyE (EX b v) w w':=by
 have E7:=hide h7
 have EX7:=hide hx
 clear h7 hx
 have MI:=hide (missing_no h)
 have HX:=hide h
 have W0:=hide KW
 have Y0:=hide (fun w=>byte_any n w)
 rw [hy] at Y0
 have D0:=hide (fun w=>held_any 0 w)
 rw [show decide (4≤(0:Int)∧(0:Int)≤7)=false by decide] at D0
 clear h KW hy
 go_enter Tryz.func8,Tryz.ntmps8
 go_upto_region 5 with (first
  |(go_at_call 22;refine MI.out.mono ?_;rintro e w1 ⟨rfl,b1⟩;have B1:=hide b1;have W1:=hide (W0.out w1 (HX.out.next b1).tabs.2.1);clear b1 MI W0)
  |(go_at_call 39;refine (Y0.out _).mono ?_;rintro e w' ⟨rfl,hw⟩;subst w')
  |(go_at_call 23;refine W1.out.mono ?_;rintro e w2 ⟨rfl,b2⟩;have B2:=hide (bnext B1.out b2);clear b2 W1 B1)
  |(refine wpList_store_row rfl 96 (.tmp 6) (.tmp 12) rfl w2.heap.size _ rfl rfl 96 _ (heap_alloc_new _ _) (by kernel_rfl) rfl (by kernel_rfl) ?_
    refine under_list fun w3 hw3=>?_
    have M3:Hid (w3.heap[w2.heap.size]? = some (.cells #[.int .i64 0,.int .i64 g,.int .i64 a] 96 (0,0))):=hide (by rw [hw3];exact setRow_heap _ _ _ _ _ _ (heap_alloc_new _ _))
    have B3:=hide (show Below w.heap.size w w3 by rw [hw3];exact bnext B2.out (below_setRow ((Below.refl _ _).alloc (Nat.le_refl _) _) (Nat.le_refl _) _))
    have X3:=hide (HX.out.next B3.out)
    have c0:=(cell_of_row w3 w2.heap.size 0 _ _ _ M3.out).trans rfl
    have c2:=(cell_of_row w3 w2.heap.size 2 _ _ _ M3.out).trans rfl
    have NZ:=hide (show w2.heap.size≠b∧w2.heap.size≠v from ⟨Nat.ne_of_gt (Nat.lt_of_lt_of_le HX.out.1.lt B2.out.size),Nat.ne_of_gt (Nat.lt_of_lt_of_le HX.out.2.1.lt B2.out.size)⟩)
    clear hw3 B2))
 generalize w2.heap.size=z at *
 have LZ:=lt_of_block M3.out
 have hn:=X3.out.2.2.2.2.2.2.2.2.1.2
 have i2:=kept_cell c2 LZ
 have i7:=kept_cell (X3.out.1.get1 7 E7.out (a:=282) (X3.out.isB.off 7 rfl) (by decide)) X3.out.1.lt
 have i6:=kept_cell (X3.out.1.get1 6 X3.out.2.2.2.2.2.2.1 (a:=281) (X3.out.isB.off 6 rfl) (by decide)) X3.out.1.lt
 have KP:=hide (fun x:Kept w3=>pages_of ⟨c,0,none⟩ (some ⟨d,0,none⟩) bs.length bs.length x.val (by omega) (X3.out.next x.below).2.2.1.1)
 have KL:=hide (fun x:Kept w3=>latch_any ((bs.length/8192:Nat):Int) lt a x.val (X3.out.next x.below).2.2.2.1.1)
 rw [EX7.out] at KL
 clear EX7
 generalize ((bs.length/8192:Nat):Int)=N at *
 haveI:=kept_some w3
 refine wp_region_kept_shut _ _ (show _=[_,_,_,_,_,_,_,_,_,_,_,_,_,_,_]++[_] from rfl) (by kernel_rfl) (by kernel_rfl) (by kernel_rfl) ?_
 repeat (go_big_quiet_step ((first
  |(go_at_call 41;exact kept_same (KP.out _))
  |(go_at_call 40;exact kept_call (KL.out _)))))
 refine wpQuiet_nil ?_
 rintro _ ⟨wk,rfl⟩
 have X4:=hide (X3.out.next wk.below)
 have c7:=i7 wk
 have z7:=X4.out.1.frozen 282
 have M4:=hide ((wk.below.block z LZ).trans M3.out)
 have H5:=hide (X4.out.1.put1 7 E7.out (a:=282) (X4.out.isB.off 7 rfl) (.int .i64 x))
 have O4:=hide (ex_below (b:=b) (v:=v) (bnext B3.out wk.below))
 generalize wk.val=w4 at *
 clear i2 i7 i6 c0 c2 M3 X3 B3 KP KL
 go_upto_region 22 with fail
 refine under_name fun w5 hw5=>?_
 have B5:But b w4 w5:=by rw [hw5];exact (But.refl b w4).set _ _
 have X5:=hide (X4.out.lay B5 7 E7.out (by rw [hw5];exact H5.out) (by decide) (by decide))
 have O5:=hide (O4.out.trans (ex_but B5))
 have M5:=B5.obj M4.out NZ.out.1
 have c0:=(cell_of_row w5 z 0 _ _ _ M5).trans rfl
 clear hw5 B5 M5 M4 H5 X4 O4
 go_wp2_with (first|(go_at_call 48;refine (D0.out _).mono ?_;rintro e w' ⟨rfl,hw⟩;subst w'))
 go_end0
 exact ⟨rfl,X5.out,O5.out⟩
set_option maxHeartbeats 1000000 in
theorem write_vdc {w:World} {b v c d:Nat} {L:List (Nat×(Nat→Value))} {bs:List Int} {f:Nat→Int} {wr rd st lo bu:Int} (h:HasX w b v c d L bs f wr rd st lo bu) (p n g a:Int) (KW:∀w,HasPorts w→Calls Tryz.prog 23 #[.int .i64 p] w fun e w'=>e=Ending.returned (.agg #[.int .i64 2,.int .i64 g,.int .i64 a])∧Below w.heap.size w w') (y:Int) (hy:n%256=y) {R:World→Prop} (KD:∀w,HasX w b v c d L bs f wr rd st lo bu→Calls Tryz.prog 42 #[.pointer (some ⟨b,0,none⟩),.int .i64 a,.int .i64 y] w fun e w'=>e=Ending.returned (.tuple #[])∧R w'∧OnlyE (EX b v) w w'):
  Calls Tryz.prog 8 #[.pointer (some ⟨b,0,none⟩),.int .i64 p,.int .i64 n] w fun e w'=>e=Ending.returned (.tuple #[])∧R w'∧OnlyE (EX b v) w w':=by
 have K0:=hide KD
 clear KD
 have MI:=hide (missing_no h)
 have HX:=hide h
 have W0:=hide KW
 have Y0:=hide (fun w=>byte_any n w)
 rw [hy] at Y0
 have D0:=hide (fun w=>held_any 2 w)
 rw [show decide (4≤(2:Int)∧(2:Int)≤7)=false by decide] at D0
 clear h KW hy
 go_enter Tryz.func8,Tryz.ntmps8
 go_upto_region 9 with (first
  |(go_at_call 22;refine MI.out.mono ?_;rintro e w1 ⟨rfl,b1⟩;have B1:=hide b1;have W1:=hide (W0.out w1 (HX.out.next b1).tabs.2.1);clear b1 MI W0)
  |(go_at_call 39;refine (Y0.out _).mono ?_;rintro e w' ⟨rfl,hw⟩;subst w')
  |(go_at_call 23;refine W1.out.mono ?_;rintro e w2 ⟨rfl,b2⟩;have B2:=hide (bnext B1.out b2);clear b2 W1 B1)
  |(refine wpList_store_row rfl 96 (.tmp 6) (.tmp 12) rfl w2.heap.size _ rfl rfl 96 _ (heap_alloc_new _ _) (by kernel_rfl) rfl (by kernel_rfl) ?_
    refine under_list fun w3 hw3=>?_
    have M3:Hid (w3.heap[w2.heap.size]? = some (.cells #[.int .i64 2,.int .i64 g,.int .i64 a] 96 (0,0))):=hide (by rw [hw3];exact setRow_heap _ _ _ _ _ _ (heap_alloc_new _ _))
    have B3:=hide (show Below w.heap.size w w3 by rw [hw3];exact bnext B2.out (below_setRow ((Below.refl _ _).alloc (Nat.le_refl _) _) (Nat.le_refl _) _))
    have X3:=hide (HX.out.next B3.out)
    have c0:=(cell_of_row w3 w2.heap.size 0 _ _ _ M3.out).trans rfl
    have c2:=(cell_of_row w3 w2.heap.size 2 _ _ _ M3.out).trans rfl
    have NZ:=hide (show w2.heap.size≠b∧w2.heap.size≠v from ⟨Nat.ne_of_gt (Nat.lt_of_lt_of_le HX.out.1.lt B2.out.size),Nat.ne_of_gt (Nat.lt_of_lt_of_le HX.out.2.1.lt B2.out.size)⟩)
    clear hw3 B2))
 generalize w2.heap.size=z at *
 go_wp2_with fail
 refine (K0.out _ X3.out).mono ?_
 rintro e w5 ⟨rfl,r5,o5⟩
 have R5:=hide r5
 have O5:=hide ((ex_below (b:=b) (v:=v) B3.out).trans o5)
 have M5:=o5.obj M3.out (fun e=>by rcases e with e|e;exact NZ.out.1 e;exact NZ.out.2 e)
 have c0:=(cell_of_row w5 z 0 _ _ _ M5).trans rfl
 clear r5 o5 M5 M3 X3 B3 K0 c2
 go_wp2_with (first|(go_at_call 48;refine (D0.out _).mono ?_;rintro e w' ⟨rfl,hw⟩;subst w'))
 go_end0
 exact ⟨rfl,R5.out,O5.out⟩
set_option maxHeartbeats 1000000 in
theorem write_vce {w:World} {b v c d:Nat} {L:List (Nat×(Nat→Value))} {bs:List Int} {f:Nat→Int} {wr rd st lo bu:Int} (h:HasX w b v c d L bs f wr rd st lo bu) (p n g a:Int) (KW:∀w,HasPorts w→Calls Tryz.prog 23 #[.int .i64 p] w fun e w'=>e=Ending.returned (.agg #[.int .i64 3,.int .i64 g,.int .i64 a])∧Below w.heap.size w w') (y:Int) (hy:n%256=y) {s q:Nat→Value} (hs:L[10]? = some (514,s)) (KP:∀w,Calls Tryz.prog 43 #[.agg (rowF s 514),.int .i64 a,.int .i64 y] w fun e w'=>e=Ending.returned (.agg (rowF q 514))∧Below w.heap.size w w') (hq:∀j,j<514→(q j).oneCell'=true):Calls Tryz.prog 8 #[.pointer (some ⟨b,0,none⟩),.int .i64 p,.int .i64 n] w fun e w'=>e=Ending.returned (.tuple #[])∧HasX w' b v c d (L.set 10 (514,q)) bs f wr rd st lo bu∧OnlyE (EX b v) w w':=by
 have IS:Hid ((Tryz.prog.info? 47).map (·.size)=some (rowF s 514).size):=hide (by rw [rowF_size];kernel_rfl)
 have GQ:=hide hq
 have P0:=hide KP
 have ES:=hide hs
 clear hq KP hs
 have MI:=hide (missing_no h)
 have HX:=hide h
 have W0:=hide KW
 have Y0:=hide (fun w=>byte_any n w)
 rw [hy] at Y0
 have D0:=hide (fun w=>held_any 3 w)
 rw [show decide (4≤(3:Int)∧(3:Int)≤7)=false by decide] at D0
 clear h KW hy
 go_enter Tryz.func8,Tryz.ntmps8
 go_upto_region 11 with (first
  |(go_at_call 22;refine MI.out.mono ?_;rintro e w1 ⟨rfl,b1⟩;have B1:=hide b1;have W1:=hide (W0.out w1 (HX.out.next b1).tabs.2.1);clear b1 MI W0)
  |(go_at_call 39;refine (Y0.out _).mono ?_;rintro e w' ⟨rfl,hw⟩;subst w')
  |(go_at_call 23;refine W1.out.mono ?_;rintro e w2 ⟨rfl,b2⟩;have B2:=hide (bnext B1.out b2);clear b2 W1 B1)
  |(refine wpList_store_row rfl 96 (.tmp 6) (.tmp 12) rfl w2.heap.size _ rfl rfl 96 _ (heap_alloc_new _ _) (by kernel_rfl) rfl (by kernel_rfl) ?_
    refine under_list fun w3 hw3=>?_
    have M3:Hid (w3.heap[w2.heap.size]? = some (.cells #[.int .i64 3,.int .i64 g,.int .i64 a] 96 (0,0))):=hide (by rw [hw3];exact setRow_heap _ _ _ _ _ _ (heap_alloc_new _ _))
    have B3:=hide (show Below w.heap.size w w3 by rw [hw3];exact bnext B2.out (below_setRow ((Below.refl _ _).alloc (Nat.le_refl _) _) (Nat.le_refl _) _))
    have X3:=hide (HX.out.next B3.out)
    have c0:=(cell_of_row w3 w2.heap.size 0 _ _ _ M3.out).trans rfl
    have c2:=(cell_of_row w3 w2.heap.size 2 _ _ _ M3.out).trans rfl
    have NZ:=hide (show w2.heap.size≠b∧w2.heap.size≠v from ⟨Nat.ne_of_gt (Nat.lt_of_lt_of_le HX.out.1.lt B2.out.size),Nat.ne_of_gt (Nat.lt_of_lt_of_le HX.out.2.1.lt B2.out.size)⟩)
    clear hw3 B2))
 generalize w2.heap.size=z at *
 have M4:=M3
 have X4:=X3
 have O4:=hide (ex_below (b:=b) (v:=v) B3.out)
 clear M3 X3 B3 c0 c2
 generalize w3=w4 at *
 have LZ:=lt_of_block M4.out
 have c2:=(cell_of_row w4 z 2 _ _ _ M4.out).trans rfl
 have i2:=kept_cell c2 LZ
 have RS:=hide (X4.out.1.range 8483 514 (by decide))
 rw [rowF_ext (X4.out.1.seg 10 ES.out (a:=8483) (X4.out.isB.off 10 rfl))] at RS
 have HL:=hide X4.out.1.lt
 generalize rowF s 514=A at *
 haveI:=kept_some w4
 refine wp_region_kept_shut _ _ (show _=[_,_,_,_,_,_,_,_,_,_,_]++[_] from rfl) (by kernel_rfl) (by kernel_rfl) (by kernel_rfl) ?_
 repeat (first
  |(refine wpQuiet_mid rfl 47 (.tmp 54) rfl b 8483 rfl A _ (fun w' ⟨x,hx⟩=>by rw [hx];intro j y hy;rw [x.cell b _ HL.out];exact RS.out j y hy) Tryz.underlying47 rfl IS.out ?_;simp only [Act.put,List.setIfInBounds_toArray,List.set_cons_succ,List.set_cons_zero])
  |go_big_quiet_step ((go_at_call 43;exact kept_call (P0.out _))))
 refine wpQuiet_nil ?_
 rintro _ ⟨wk,rfl⟩
 have H4:=hide (X4.out.1.next wk.below)
 have X5:=hide (X4.out.next wk.below)
 have O5:=hide (O4.out.trans (ex_below wk.below))
 have N5:=hide ((wk.below.block z LZ).trans M4.out)
 generalize wk.val=w5 at *
 refine wpList_store_part rfl 47 (.tmp 61) (.tmp 59) rfl b 8483 514 q rfl rfl H4.out (by decide) (by kernel_rfl) GQ.out ?_
 refine under_list fun w6 hw6=>?_
 have B6:But b w5 w6:=by rw [hw6];exact But.cells _ _ _ (But.refl b w5)
 have X6:=hide (X5.out.lay B6 10 ES.out (by rw [hw6];exact H4.out.lay 10 ES.out q (X5.out.isB.off 10 rfl)) (by decide) (by decide))
 have O6:=hide (O5.out.trans (ex_but B6))
 have M6:=B6.obj N5.out NZ.out.1
 have c0:=(cell_of_row w6 z 0 _ _ _ M6).trans rfl
 clear hw6 B6 M6 N5 H4 X5 O5 i2 c2 M4 X4 O4 RS HL P0
 simp only [Act.put]
 go_wp2_with (first|(go_at_call 48;refine (D0.out _).mono ?_;rintro e w' ⟨rfl,hw⟩;subst w'))
 go_end0
 exact ⟨rfl,X6.out,O6.out⟩
set_option maxHeartbeats 1000000 in
theorem write_psg {w:World} {b v c d:Nat} {L:List (Nat×(Nat→Value))} {bs:List Int} {f:Nat→Int} {wr rd st lo bu:Int} (h:HasX w b v c d L bs f wr rd st lo bu) (p n g a:Int) (KW:∀w,HasPorts w→Calls Tryz.prog 23 #[.int .i64 p] w fun e w'=>e=Ending.returned (.agg #[.int .i64 4,.int .i64 g,.int .i64 a])∧Below w.heap.size w w') (y:Int) (hy:n%256=y) {s q:Nat→Value} (hs:L[11]? = some (244,s)) (KP:∀w,Calls Tryz.prog 44 #[.agg (rowF s 244),.int .i64 a,.int .i64 y] w fun e w'=>e=Ending.returned (.agg (rowF q 244))∧Below w.heap.size w w') (hq:∀j,j<244→(q j).oneCell'=true) {hd:Int} (h16:L[16]? = some (1,fun _=>Value.int .i64 hd)):Calls Tryz.prog 8 #[.pointer (some ⟨b,0,none⟩),.int .i64 p,.int .i64 n] w fun e w'=>e=Ending.returned (.tuple #[])∧HasX w' b v c d ((L.set 11 (244,q)).set 16 (1,fun _=>Value.int .i64 y)) bs f wr rd st lo bu∧OnlyE (EX b v) w w':=by
 have E16:=hide h16
 clear h16
 have IS:Hid ((Tryz.prog.info? 53).map (·.size)=some (rowF s 244).size):=hide (by rw [rowF_size];kernel_rfl)
 have GQ:=hide hq
 have P0:=hide KP
 have ES:=hide hs
 clear hq KP hs
 have MI:=hide (missing_no h)
 have HX:=hide h
 have W0:=hide KW
 have Y0:=hide (fun w=>byte_any n w)
 rw [hy] at Y0
 have D0:=hide (fun w=>held_any 4 w)
 rw [show decide (4≤(4:Int)∧(4:Int)≤7)=true by decide] at D0
 clear h KW hy
 go_enter Tryz.func8,Tryz.ntmps8
 go_upto_region 13 with (first
  |(go_at_call 22;refine MI.out.mono ?_;rintro e w1 ⟨rfl,b1⟩;have B1:=hide b1;have W1:=hide (W0.out w1 (HX.out.next b1).tabs.2.1);clear b1 MI W0)
  |(go_at_call 39;refine (Y0.out _).mono ?_;rintro e w' ⟨rfl,hw⟩;subst w')
  |(go_at_call 23;refine W1.out.mono ?_;rintro e w2 ⟨rfl,b2⟩;have B2:=hide (bnext B1.out b2);clear b2 W1 B1)
  |(refine wpList_store_row rfl 96 (.tmp 6) (.tmp 12) rfl w2.heap.size _ rfl rfl 96 _ (heap_alloc_new _ _) (by kernel_rfl) rfl (by kernel_rfl) ?_
    refine under_list fun w3 hw3=>?_
    have M3:Hid (w3.heap[w2.heap.size]? = some (.cells #[.int .i64 4,.int .i64 g,.int .i64 a] 96 (0,0))):=hide (by rw [hw3];exact setRow_heap _ _ _ _ _ _ (heap_alloc_new _ _))
    have B3:=hide (show Below w.heap.size w w3 by rw [hw3];exact bnext B2.out (below_setRow ((Below.refl _ _).alloc (Nat.le_refl _) _) (Nat.le_refl _) _))
    have X3:=hide (HX.out.next B3.out)
    have c0:=(cell_of_row w3 w2.heap.size 0 _ _ _ M3.out).trans rfl
    have c2:=(cell_of_row w3 w2.heap.size 2 _ _ _ M3.out).trans rfl
    have NZ:=hide (show w2.heap.size≠b∧w2.heap.size≠v from ⟨Nat.ne_of_gt (Nat.lt_of_lt_of_le HX.out.1.lt B2.out.size),Nat.ne_of_gt (Nat.lt_of_lt_of_le HX.out.2.1.lt B2.out.size)⟩)
    clear hw3 B2))
 generalize w2.heap.size=z at *
 have M4:=M3
 have X4:=X3
 have O4:=hide (ex_below (b:=b) (v:=v) B3.out)
 clear M3 X3 B3 c0 c2
 generalize w3=w4 at *
 have LZ:=lt_of_block M4.out
 have c2:=(cell_of_row w4 z 2 _ _ _ M4.out).trans rfl
 have i2:=kept_cell c2 LZ
 have RS:=hide (X4.out.1.range 8997 244 (by decide))
 rw [rowF_ext (X4.out.1.seg 11 ES.out (a:=8997) (X4.out.isB.off 11 rfl))] at RS
 have HL:=hide X4.out.1.lt
 generalize rowF s 244=A at *
 haveI:=kept_some w4
 refine wp_region_kept_shut _ _ (show _=[_,_,_,_,_,_,_,_,_,_,_]++[_] from rfl) (by kernel_rfl) (by kernel_rfl) (by kernel_rfl) ?_
 repeat (first
  |(refine wpQuiet_mid rfl 53 (.tmp 67) rfl b 8997 rfl A _ (fun w' ⟨x,hx⟩=>by rw [hx];intro j y hy;rw [x.cell b _ HL.out];exact RS.out j y hy) Tryz.underlying53 rfl IS.out ?_;simp only [Act.put,List.setIfInBounds_toArray,List.set_cons_succ,List.set_cons_zero])
  |go_big_quiet_step ((go_at_call 44;exact kept_call (P0.out _))))
 refine wpQuiet_nil ?_
 rintro _ ⟨wk,rfl⟩
 have H4:=hide (X4.out.1.next wk.below)
 have X5:=hide (X4.out.next wk.below)
 have O5:=hide (O4.out.trans (ex_below wk.below))
 have N5:=hide ((wk.below.block z LZ).trans M4.out)
 generalize wk.val=w5 at *
 refine wpList_store_part rfl 53 (.tmp 74) (.tmp 72) rfl b 8997 244 q rfl rfl H4.out (by decide) (by kernel_rfl) GQ.out ?_
 refine under_list fun w6 hw6=>?_
 have B6:But b w5 w6:=by rw [hw6];exact But.cells _ _ _ (But.refl b w5)
 have X6:=hide (X5.out.lay B6 11 ES.out (by rw [hw6];exact H4.out.lay 11 ES.out q (X5.out.isB.off 11 rfl)) (by decide) (by decide))
 have O6:=hide (O5.out.trans (ex_but B6))
 have M6:=B6.obj N5.out NZ.out.1
 have c0:=(cell_of_row w6 z 0 _ _ _ M6).trans rfl
 clear hw6 B6 M6 N5 H4 X5 O5 i2 c2 M4 X4 O4 RS HL P0
 simp only [Act.put]
 have F16:=hide (set_other (k:=11) E16.out (244,q) (by decide))
 have c16:=X6.out.1.get1 16 F16.out (a:=9261) (X6.out.isB.off 16 rfl) (by decide)
 have z16:=X6.out.1.frozen 9261
 have H7:=hide (X6.out.1.put1 16 F16.out (a:=9261) (X6.out.isB.off 16 rfl) (.int .i64 y))
 go_wp2_with (first|(go_at_call 48;refine (D0.out _).mono ?_;rintro e w' ⟨rfl,hw⟩;subst w'))
 go_end0
 have B7:=(But.refl b w6).set 9261 (.int .i64 y)
 exact ⟨rfl,X6.out.lay B7 16 F16.out H7.out (by decide) (by decide),O6.out.trans (ex_but B7)⟩
set_option maxHeartbeats 1000000 in
theorem write_timer {w:World} {b v c d:Nat} {L:List (Nat×(Nat→Value))} {bs:List Int} {f:Nat→Int} {wr rd st lo bu:Int} (h:HasX w b v c d L bs f wr rd st lo bu) (p n g a:Int) (KW:∀w,HasPorts w→Calls Tryz.prog 23 #[.int .i64 p] w fun e w'=>e=Ending.returned (.agg #[.int .i64 5,.int .i64 g,.int .i64 a])∧Below w.heap.size w w') (y:Int) (hy:n%256=y) {L2:List (Nat×(Nat→Value))} (KS:∀w,HasX w b v c d L bs f wr rd st lo bu→Calls Tryz.prog 19 #[.pointer (some ⟨b,0,none⟩)] w fun e w'=>e=Ending.returned (.tuple #[])∧HasX w' b v c d L2 bs f wr rd st lo bu∧OnlyE (EX b v) w w') {s q:Nat→Value} (hs:L2[12]? = some (4,s)) (KP:∀w,Calls Tryz.prog 45 #[.agg (rowF s 4),.int .i64 a,.int .i64 y] w fun e w'=>e=Ending.returned (.agg (rowF q 4))∧Below w.heap.size w w') (hq:∀j,j<4→(q j).oneCell'=true) {hd:Int} (h16:L2[16]? = some (1,fun _=>Value.int .i64 hd)):Calls Tryz.prog 8 #[.pointer (some ⟨b,0,none⟩),.int .i64 p,.int .i64 n] w fun e w'=>e=Ending.returned (.tuple #[])∧HasX w' b v c d ((L2.set 12 (4,q)).set 16 (1,fun _=>Value.int .i64 y)) bs f wr rd st lo bu∧OnlyE (EX b v) w w':=by
 have E16:=hide h16
 have S0:=hide KS
 clear h16 KS
 have IS:Hid ((Tryz.prog.info? 55).map (·.size)=some (rowF s 4).size):=hide (by rw [rowF_size];kernel_rfl)
 have GQ:=hide hq
 have P0:=hide KP
 have ES:=hide hs
 clear hq KP hs
 have MI:=hide (missing_no h)
 have HX:=hide h
 have W0:=hide KW
 have Y0:=hide (fun w=>byte_any n w)
 rw [hy] at Y0
 have D0:=hide (fun w=>held_any 5 w)
 rw [show decide (4≤(5:Int)∧(5:Int)≤7)=true by decide] at D0
 clear h KW hy
 go_enter Tryz.func8,Tryz.ntmps8
 go_upto_region 15 with (first
  |(go_at_call 22;refine MI.out.mono ?_;rintro e w1 ⟨rfl,b1⟩;have B1:=hide b1;have W1:=hide (W0.out w1 (HX.out.next b1).tabs.2.1);clear b1 MI W0)
  |(go_at_call 39;refine (Y0.out _).mono ?_;rintro e w' ⟨rfl,hw⟩;subst w')
  |(go_at_call 23;refine W1.out.mono ?_;rintro e w2 ⟨rfl,b2⟩;have B2:=hide (bnext B1.out b2);clear b2 W1 B1)
  |(refine wpList_store_row rfl 96 (.tmp 6) (.tmp 12) rfl w2.heap.size _ rfl rfl 96 _ (heap_alloc_new _ _) (by kernel_rfl) rfl (by kernel_rfl) ?_
    refine under_list fun w3 hw3=>?_
    have M3:Hid (w3.heap[w2.heap.size]? = some (.cells #[.int .i64 5,.int .i64 g,.int .i64 a] 96 (0,0))):=hide (by rw [hw3];exact setRow_heap _ _ _ _ _ _ (heap_alloc_new _ _))
    have B3:=hide (show Below w.heap.size w w3 by rw [hw3];exact bnext B2.out (below_setRow ((Below.refl _ _).alloc (Nat.le_refl _) _) (Nat.le_refl _) _))
    have X3:=hide (HX.out.next B3.out)
    have c0:=(cell_of_row w3 w2.heap.size 0 _ _ _ M3.out).trans rfl
    have c2:=(cell_of_row w3 w2.heap.size 2 _ _ _ M3.out).trans rfl
    have NZ:=hide (show w2.heap.size≠b∧w2.heap.size≠v from ⟨Nat.ne_of_gt (Nat.lt_of_lt_of_le HX.out.1.lt B2.out.size),Nat.ne_of_gt (Nat.lt_of_lt_of_le HX.out.2.1.lt B2.out.size)⟩)
    clear hw3 B2))
 generalize w2.heap.size=z at *
 go_wp2_with fail
 refine (S0.out _ X3.out).mono ?_
 rintro e w4 ⟨rfl,x4,o4⟩
 have X4:=hide x4
 have O4:=hide ((ex_below (b:=b) (v:=v) B3.out).trans o4)
 have M4:=hide (o4.obj M3.out (fun e=>by rcases e with e|e;exact NZ.out.1 e;exact NZ.out.2 e))
 clear x4 o4 M3 X3 B3 S0 c2 c0
 go_wp2_with fail
 have LZ:=lt_of_block M4.out
 have c2:=(cell_of_row w4 z 2 _ _ _ M4.out).trans rfl
 have i2:=kept_cell c2 LZ
 have RS:=hide (X4.out.1.range 9241 4 (by decide))
 rw [rowF_ext (X4.out.1.seg 12 ES.out (a:=9241) (X4.out.isB.off 12 rfl))] at RS
 have HL:=hide X4.out.1.lt
 generalize rowF s 4=A at *
 haveI:=kept_some w4
 refine wp_region_kept_shut _ _ (show _=[_,_,_,_,_,_,_,_,_,_,_]++[_] from rfl) (by kernel_rfl) (by kernel_rfl) (by kernel_rfl) ?_
 repeat (first
  |(refine wpQuiet_mid rfl 55 (.tmp 82) rfl b 9241 rfl A _ (fun w' ⟨x,hx⟩=>by rw [hx];intro j y hy;rw [x.cell b _ HL.out];exact RS.out j y hy) Tryz.underlying55 rfl IS.out ?_;simp only [Act.put,List.setIfInBounds_toArray,List.set_cons_succ,List.set_cons_zero])
  |go_big_quiet_step ((go_at_call 45;exact kept_call (P0.out _))))
 refine wpQuiet_nil ?_
 rintro _ ⟨wk,rfl⟩
 have H4:=hide (X4.out.1.next wk.below)
 have X5:=hide (X4.out.next wk.below)
 have O5:=hide (O4.out.trans (ex_below wk.below))
 have N5:=hide ((wk.below.block z LZ).trans M4.out)
 generalize wk.val=w5 at *
 refine wpList_store_part rfl 55 (.tmp 89) (.tmp 87) rfl b 9241 4 q rfl rfl H4.out (by decide) (by kernel_rfl) GQ.out ?_
 refine under_list fun w6 hw6=>?_
 have B6:But b w5 w6:=by rw [hw6];exact But.cells _ _ _ (But.refl b w5)
 have X6:=hide (X5.out.lay B6 12 ES.out (by rw [hw6];exact H4.out.lay 12 ES.out q (X5.out.isB.off 12 rfl)) (by decide) (by decide))
 have O6:=hide (O5.out.trans (ex_but B6))
 have M6:=B6.obj N5.out NZ.out.1
 have c0:=(cell_of_row w6 z 0 _ _ _ M6).trans rfl
 clear hw6 B6 M6 N5 H4 X5 O5 i2 c2 M4 X4 O4 RS HL P0
 simp only [Act.put]
 have F16:=hide (set_other (k:=12) E16.out (4,q) (by decide))
 have c16:=X6.out.1.get1 16 F16.out (a:=9261) (X6.out.isB.off 16 rfl) (by decide)
 have z16:=X6.out.1.frozen 9261
 have H7:=hide (X6.out.1.put1 16 F16.out (a:=9261) (X6.out.isB.off 16 rfl) (.int .i64 y))
 go_wp2_with (first|(go_at_call 48;refine (D0.out _).mono ?_;rintro e w' ⟨rfl,hw⟩;subst w'))
 go_end0
 have B7:=(But.refl b w6).set 9261 (.int .i64 y)
 exact ⟨rfl,X6.out.lay B7 16 F16.out H7.out (by decide) (by decide),O6.out.trans (ex_but B7)⟩
set_option maxHeartbeats 1000000 in
theorem write_irq {w:World} {b v c d:Nat} {L:List (Nat×(Nat→Value))} {bs:List Int} {f:Nat→Int} {wr rd st lo bu:Int} (h:HasX w b v c d L bs f wr rd st lo bu) (p n g a:Int) (KW:∀w,HasPorts w→Calls Tryz.prog 23 #[.int .i64 p] w fun e w'=>e=Ending.returned (.agg #[.int .i64 7,.int .i64 g,.int .i64 a])∧Below w.heap.size w w') (y:Int) (hy:n%256=y) {L2:List (Nat×(Nat→Value))} (KS:∀w,HasX w b v c d L bs f wr rd st lo bu→Calls Tryz.prog 19 #[.pointer (some ⟨b,0,none⟩)] w fun e w'=>e=Ending.returned (.tuple #[])∧HasX w' b v c d L2 bs f wr rd st lo bu∧OnlyE (EX b v) w w') {s q:Nat→Value} (hs:L2[13]? = some (2,s)) (KP:∀w,Calls Tryz.prog 47 #[.agg (rowF s 2),.int .i64 a,.int .i64 y] w fun e w'=>e=Ending.returned (.agg (rowF q 2))∧Below w.heap.size w w') (hq:∀j,j<2→(q j).oneCell'=true) {hd:Int} (h16:L2[16]? = some (1,fun _=>Value.int .i64 hd)):Calls Tryz.prog 8 #[.pointer (some ⟨b,0,none⟩),.int .i64 p,.int .i64 n] w fun e w'=>e=Ending.returned (.tuple #[])∧HasX w' b v c d ((L2.set 13 (2,q)).set 16 (1,fun _=>Value.int .i64 y)) bs f wr rd st lo bu∧OnlyE (EX b v) w w':=by
 have E16:=hide h16
 have S0:=hide KS
 clear h16 KS
 have IS:Hid ((Tryz.prog.info? 57).map (·.size)=some (rowF s 2).size):=hide (by rw [rowF_size];kernel_rfl)
 have GQ:=hide hq
 have P0:=hide KP
 have ES:=hide hs
 clear hq KP hs
 have MI:=hide (missing_no h)
 have HX:=hide h
 have W0:=hide KW
 have Y0:=hide (fun w=>byte_any n w)
 rw [hy] at Y0
 have D0:=hide (fun w=>held_any 7 w)
 rw [show decide (4≤(7:Int)∧(7:Int)≤7)=true by decide] at D0
 clear h KW hy
 go_enter Tryz.func8,Tryz.ntmps8
 go_upto_region 20 with (first
  |(go_at_call 22;refine MI.out.mono ?_;rintro e w1 ⟨rfl,b1⟩;have B1:=hide b1;have W1:=hide (W0.out w1 (HX.out.next b1).tabs.2.1);clear b1 MI W0)
  |(go_at_call 39;refine (Y0.out _).mono ?_;rintro e w' ⟨rfl,hw⟩;subst w')
  |(go_at_call 23;refine W1.out.mono ?_;rintro e w2 ⟨rfl,b2⟩;have B2:=hide (bnext B1.out b2);clear b2 W1 B1)
  |(refine wpList_store_row rfl 96 (.tmp 6) (.tmp 12) rfl w2.heap.size _ rfl rfl 96 _ (heap_alloc_new _ _) (by kernel_rfl) rfl (by kernel_rfl) ?_
    refine under_list fun w3 hw3=>?_
    have M3:Hid (w3.heap[w2.heap.size]? = some (.cells #[.int .i64 7,.int .i64 g,.int .i64 a] 96 (0,0))):=hide (by rw [hw3];exact setRow_heap _ _ _ _ _ _ (heap_alloc_new _ _))
    have B3:=hide (show Below w.heap.size w w3 by rw [hw3];exact bnext B2.out (below_setRow ((Below.refl _ _).alloc (Nat.le_refl _) _) (Nat.le_refl _) _))
    have X3:=hide (HX.out.next B3.out)
    have c0:=(cell_of_row w3 w2.heap.size 0 _ _ _ M3.out).trans rfl
    have c2:=(cell_of_row w3 w2.heap.size 2 _ _ _ M3.out).trans rfl
    have NZ:=hide (show w2.heap.size≠b∧w2.heap.size≠v from ⟨Nat.ne_of_gt (Nat.lt_of_lt_of_le HX.out.1.lt B2.out.size),Nat.ne_of_gt (Nat.lt_of_lt_of_le HX.out.2.1.lt B2.out.size)⟩)
    clear hw3 B2))
 generalize w2.heap.size=z at *
 go_wp2_with fail
 refine (S0.out _ X3.out).mono ?_
 rintro e w4 ⟨rfl,x4,o4⟩
 have X4:=hide x4
 have O4:=hide ((ex_below (b:=b) (v:=v) B3.out).trans o4)
 have M4:=hide (o4.obj M3.out (fun e=>by rcases e with e|e;exact NZ.out.1 e;exact NZ.out.2 e))
 clear x4 o4 M3 X3 B3 S0 c2 c0
 go_wp2_with fail
 have LZ:=lt_of_block M4.out
 have c2:=(cell_of_row w4 z 2 _ _ _ M4.out).trans rfl
 have i2:=kept_cell c2 LZ
 have RS:=hide (X4.out.1.range 9245 2 (by decide))
 rw [rowF_ext (X4.out.1.seg 13 ES.out (a:=9245) (X4.out.isB.off 13 rfl))] at RS
 have HL:=hide X4.out.1.lt
 generalize rowF s 2=A at *
 haveI:=kept_some w4
 refine wp_region_kept_shut _ _ (show _=[_,_,_,_,_,_,_,_,_,_,_]++[_] from rfl) (by kernel_rfl) (by kernel_rfl) (by kernel_rfl) ?_
 repeat (first
  |(refine wpQuiet_mid rfl 57 (.tmp 108) rfl b 9245 rfl A _ (fun w' ⟨x,hx⟩=>by rw [hx];intro j y hy;rw [x.cell b _ HL.out];exact RS.out j y hy) Tryz.underlying57 rfl IS.out ?_;simp only [Act.put,List.setIfInBounds_toArray,List.set_cons_succ,List.set_cons_zero])
  |go_big_quiet_step ((go_at_call 47;exact kept_call (P0.out _))))
 refine wpQuiet_nil ?_
 rintro _ ⟨wk,rfl⟩
 have H4:=hide (X4.out.1.next wk.below)
 have X5:=hide (X4.out.next wk.below)
 have O5:=hide (O4.out.trans (ex_below wk.below))
 have N5:=hide ((wk.below.block z LZ).trans M4.out)
 generalize wk.val=w5 at *
 refine wpList_store_part rfl 57 (.tmp 115) (.tmp 113) rfl b 9245 2 q rfl rfl H4.out (by decide) (by kernel_rfl) GQ.out ?_
 refine under_list fun w6 hw6=>?_
 have B6:But b w5 w6:=by rw [hw6];exact But.cells _ _ _ (But.refl b w5)
 have X6:=hide (X5.out.lay B6 13 ES.out (by rw [hw6];exact H4.out.lay 13 ES.out q (X5.out.isB.off 13 rfl)) (by decide) (by decide))
 have O6:=hide (O5.out.trans (ex_but B6))
 have M6:=B6.obj N5.out NZ.out.1
 have c0:=(cell_of_row w6 z 0 _ _ _ M6).trans rfl
 clear hw6 B6 M6 N5 H4 X5 O5 i2 c2 M4 X4 O4 RS HL P0
 simp only [Act.put]
 have F16:=hide (set_other (k:=13) E16.out (2,q) (by decide))
 have c16:=X6.out.1.get1 16 F16.out (a:=9261) (X6.out.isB.off 16 rfl) (by decide)
 have z16:=X6.out.1.frozen 9261
 have H7:=hide (X6.out.1.put1 16 F16.out (a:=9261) (X6.out.isB.off 16 rfl) (.int .i64 y))
 go_wp2_with (first|(go_at_call 48;refine (D0.out _).mono ?_;rintro e w' ⟨rfl,hw⟩;subst w'))
 go_end0
 have B7:=(But.refl b w6).set 9261 (.int .i64 y)
 exact ⟨rfl,X6.out.lay B7 16 F16.out H7.out (by decide) (by decide),O6.out.trans (ex_but B7)⟩
set_option maxHeartbeats 1000000 in
theorem write_pad {w:World} {b v c d:Nat} {L:List (Nat×(Nat→Value))} {bs:List Int} {f:Nat→Int} {wr rd st lo bu:Int} (h:HasX w b v c d L bs f wr rd st lo bu) (p n g a:Int) (KW:∀w,HasPorts w→Calls Tryz.prog 23 #[.int .i64 p] w fun e w'=>e=Ending.returned (.agg #[.int .i64 6,.int .i64 g,.int .i64 a])∧Below w.heap.size w w') (y:Int) (hy:n%256=y) {s q:Nat→Value} (hs:L[14]? = some (4,s)) (KP:∀w,Calls Tryz.prog 46 #[.agg (rowF s 4),.int .i64 y] w fun e w'=>e=Ending.returned (.agg (rowF q 4))∧Below w.heap.size w w') (hq:∀j,j<4→(q j).oneCell'=true) {hd:Int} (h16:L[16]? = some (1,fun _=>Value.int .i64 hd)):Calls Tryz.prog 8 #[.pointer (some ⟨b,0,none⟩),.int .i64 p,.int .i64 n] w fun e w'=>e=Ending.returned (.tuple #[])∧HasX w' b v c d ((L.set 14 (4,q)).set 16 (1,fun _=>Value.int .i64 y)) bs f wr rd st lo bu∧OnlyE (EX b v) w w':=by
 have E16:=hide h16
 clear h16
 have IS:Hid ((Tryz.prog.info? 59).map (·.size)=some (rowF s 4).size):=hide (by rw [rowF_size];kernel_rfl)
 have GQ:=hide hq
 have P0:=hide KP
 have ES:=hide hs
 clear hq KP hs
 have MI:=hide (missing_no h)
 have HX:=hide h
 have W0:=hide KW
 have Y0:=hide (fun w=>byte_any n w)
 rw [hy] at Y0
 have D0:=hide (fun w=>held_any 6 w)
 rw [show decide (4≤(6:Int)∧(6:Int)≤7)=true by decide] at D0
 clear h KW hy
 go_enter Tryz.func8,Tryz.ntmps8
 go_upto_region 18 with (first
  |(go_at_call 22;refine MI.out.mono ?_;rintro e w1 ⟨rfl,b1⟩;have B1:=hide b1;have W1:=hide (W0.out w1 (HX.out.next b1).tabs.2.1);clear b1 MI W0)
  |(go_at_call 39;refine (Y0.out _).mono ?_;rintro e w' ⟨rfl,hw⟩;subst w')
  |(go_at_call 23;refine W1.out.mono ?_;rintro e w2 ⟨rfl,b2⟩;have B2:=hide (bnext B1.out b2);clear b2 W1 B1)
  |(refine wpList_store_row rfl 96 (.tmp 6) (.tmp 12) rfl w2.heap.size _ rfl rfl 96 _ (heap_alloc_new _ _) (by kernel_rfl) rfl (by kernel_rfl) ?_
    refine under_list fun w3 hw3=>?_
    have M3:Hid (w3.heap[w2.heap.size]? = some (.cells #[.int .i64 6,.int .i64 g,.int .i64 a] 96 (0,0))):=hide (by rw [hw3];exact setRow_heap _ _ _ _ _ _ (heap_alloc_new _ _))
    have B3:=hide (show Below w.heap.size w w3 by rw [hw3];exact bnext B2.out (below_setRow ((Below.refl _ _).alloc (Nat.le_refl _) _) (Nat.le_refl _) _))
    have X3:=hide (HX.out.next B3.out)
    have c0:=(cell_of_row w3 w2.heap.size 0 _ _ _ M3.out).trans rfl
    have c2:=(cell_of_row w3 w2.heap.size 2 _ _ _ M3.out).trans rfl
    have NZ:=hide (show w2.heap.size≠b∧w2.heap.size≠v from ⟨Nat.ne_of_gt (Nat.lt_of_lt_of_le HX.out.1.lt B2.out.size),Nat.ne_of_gt (Nat.lt_of_lt_of_le HX.out.2.1.lt B2.out.size)⟩)
    clear hw3 B2))
 generalize w2.heap.size=z at *
 have M4:=M3
 have X4:=X3
 have O4:=hide (ex_below (b:=b) (v:=v) B3.out)
 clear M3 X3 B3 c0 c2
 generalize w3=w4 at *
 have SG:=hide (X4.out.1.seg 14 ES.out (a:=9247) (X4.out.isB.off 14 rfl))
 have LZ:=hide (lt_of_block M4.out)
 go_wp2_with (first
  |(refine wpList_load_part rfl 59 (.tmp 95) rfl b 9247 rfl X4.out.1 4 (by decide) s SG.out _ Tryz.underlying59 rfl (by kernel_rfl) ?_))
 refine (P0.out _).mono ?_
 rintro e w5 ⟨rfl,b5⟩
 have H4:=hide (X4.out.1.next b5)
 have X5:=hide (X4.out.next b5)
 have O5:=hide (O4.out.trans (ex_below b5))
 have N5:=hide ((b5.block z LZ.out).trans M4.out)
 clear b5 X4 O4 M4 P0 SG
 go_wp2_with (first
  |(refine wpList_store_part rfl 59 (.tmp 100) (.tmp 98) rfl b 9247 4 q rfl rfl H4.out (by decide) (by kernel_rfl) GQ.out ?_
    refine under_list fun w6 hw6=>?_
    have B6:But b w5 w6:=(by rw [hw6];exact But.cells _ _ _ (But.refl b w5))
    have X6:=hide (X5.out.lay B6 14 ES.out (by rw [hw6];exact H4.out.lay 14 ES.out q (X5.out.isB.off 14 rfl)) (by decide) (by decide))
    have O6:=hide (O5.out.trans (ex_but B6))
    have M6:=B6.obj N5.out NZ.out.1
    have c0:=(cell_of_row w6 z 0 _ _ _ M6).trans rfl
    have F16:=hide (set_other (k:=14) E16.out (4,q) (by decide))
    have c16:=X6.out.1.get1 16 F16.out (a:=9261) (X6.out.isB.off 16 rfl) (by decide)
    have z16:=X6.out.1.frozen 9261
    have H7:=hide (X6.out.1.put1 16 F16.out (a:=9261) (X6.out.isB.off 16 rfl) (.int .i64 y))
    clear hw6 B6 M6 N5 H4 X5 O5)
  |(go_at_call 48;refine (D0.out _).mono ?_;rintro e w' ⟨rfl,hw⟩;subst w'))
 go_end0
 have B7:=(But.refl b w6).set 9261 (.int .i64 y)
 exact ⟨rfl,X6.out.lay B7 16 F16.out H7.out (by decide) (by decide),O6.out.trans (ex_but B7)⟩
end Go.Proofs.YtnllcknfmciebaaGreatDoor.L24
