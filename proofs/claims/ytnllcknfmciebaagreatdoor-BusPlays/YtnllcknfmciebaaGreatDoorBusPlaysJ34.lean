/- The document's own machine: a write, one theorem a kind of place. -/
import Derived.Test.YtnllcknfmciebaaGreatDoorBusPlaysJ32
import Derived.Test.YtnllcknfmciebaaGreatDoorBusPlaysJ01
import Derived.Test.YtnllcknfmciebaaGreatDoorBusPlaysJ03
namespace Go.Proofs.YtnllcknfmciebaaGreatDoor.D24
set_option maxRecDepth 20000
open W13
open Go.RowKit
set_option linter.unusedVariables false
set_option maxHeartbeats 1000000 in
theorem ywrite_rom {w:World} {b c d r:Nat} {L:List (Nat×(Nat→Value))} {f:Nat→Int} {wr rd st lo bu:Int} {ram:Nat→Int} (h:HasY w b c d r L f wr rd st lo bu ram) (p v pg a:Int) (KW:∀w,Calls Tryz.prog 33 #[.int .i64 p] w fun e w'=>e=Ending.returned (.tuple #[.int .i64 0,.int .i64 pg,.int .i64 a])∧w'=w) (y:Int) (hv:v%256=y) {P lt x:Int} (h0:L[0]? = some (1,fun _=>Value.int .i64 P)) (h1:L[1]? = some (1,fun _=>Value.int .i64 lt)) (KL:∀w,Calls Tryz.prog 50 #[.int .i64 P,.int .i64 lt,.int .i64 p] w fun e w'=>e=Ending.returned (.int .i64 x)∧w'=w):
  Calls Tryz.prog 9 #[.pointer (some ⟨b,0,none⟩),.int .i64 p,.int .i64 v] w fun e w'=>e=Ending.returned (.tuple #[])∧HasY w' b c d r (L.set 1 (1,fun _=>Value.int .i64 x)) f wr rd st lo bu ram∧OnlyE (EY b c d r) w w':=by
 have W0:=hide KW
 have Y0:=hide (fun w=>rbyte_any v w)
 rw [hv] at Y0
 clear KW hv
 have hY:=h.2.2.2.1
 have i0:=kept_cell (h.1.get1 0 h0 (a:=0) (hY.off 0 rfl) (by decide)) h.1.lt
 have i1:=kept_cell (h.1.get1 1 h1 (a:=1) (hY.off 1 rfl) (by decide)) h.1.lt
 have HE:=hide h
 have E1:=hide h1
 have HY:=hide hY
 have P0:=hide KL
 clear h h0 h1 KL hY
 go_enter Tryz.func9,Tryz.ntmps9
 go_wp2_with (first|(go_at_call 49;refine (Y0.out _).mono ?_;rintro e w' ⟨rfl,hw⟩;subst w')|(go_at_call 33;refine (W0.out _).mono ?_;rintro e w' ⟨rfl,hw⟩;subst w'))
 haveI:=kept_some w
 refine wp_region_kept_shut _ _ (show _=[_,_,_,_,_,_,_,_,_,_,_,_,_]++[_] from rfl) (by kernel_rfl) (by kernel_rfl) (by kernel_rfl) ?_
 repeat (go_big_quiet_step ((go_at_call 50;exact kept_same (P0.out _))))
 refine wpQuiet_nil ?_
 rintro _ ⟨wk,rfl⟩
 have c1:=i1 wk
 have H1:=hide (HE.out.1.next wk.below)
 have z1:=H1.out.frozen 1
 have B1:=hide (But.of (b:=b) wk.below)
 generalize wk.val=w1 at *
 clear i0 i1
 go_wp2
 go_end0
 have B2:=B1.out.set 1 (.int .i64 x)
 exact ⟨rfl,HE.out.row B2 (H1.out.put1 1 E1.out (HY.out.off 1 rfl) _) (HY.out.set E1.out _) (set_other rfl _ (by decide)) (set_other rfl _ (by decide)),ey_but B2⟩
set_option maxHeartbeats 1000000 in
theorem ywrite_ram {w:World} {b c d r:Nat} {L:List (Nat×(Nat→Value))} {f:Nat→Int} {wr rd st lo bu:Int} {ram:Nat→Int} (h:HasY w b c d r L f wr rd st lo bu ram) (p v pg a:Int) (KW:∀w,Calls Tryz.prog 33 #[.int .i64 p] w fun e w'=>e=Ending.returned (.tuple #[.int .i64 1,.int .i64 pg,.int .i64 a])∧w'=w) (y:Int) (hv:v%256=y) (j:Nat) (ha:a=(j:Int)) (hj:j<8192):
  Calls Tryz.prog 9 #[.pointer (some ⟨b,0,none⟩),.int .i64 p,.int .i64 v] w fun e w'=>e=Ending.returned (.tuple #[])∧HasY w' b c d r L f wr rd st lo bu (up ram j y)∧OnlyE (EY b c d r) w w':=by
 have W0:=hide KW
 have Y0:=hide (fun w=>rbyte_any v w)
 rw [hv] at Y0
 clear KW hv
 have c3:=h.1.get1 3 h.2.2.2.2.2.1 (a:=3) (h.2.2.2.1.off 3 rfl) (by decide)
 have cj:=h.2.2.1.int j hj
 have zj:=h.2.2.1.frozen j
 have HE:=hide h
 clear h
 subst ha
 go_enter Tryz.func9,Tryz.ntmps9
 go_wp2_with (first|(go_at_call 49;refine (Y0.out _).mono ?_;rintro e w' ⟨rfl,hw⟩;subst w')|(go_at_call 33;refine (W0.out _).mono ?_;rintro e w' ⟨rfl,hw⟩;subst w'))
 go_end0
 obtain ⟨q1,q2,q3,q4,q5,q6,n1,n2,n3,n4,n5⟩:=HE.out
 refine ⟨rfl,⟨q1.other _ _ n3,⟨(heap_setCell_other _ _ _ _ n4).trans q2.1,(heap_setCell_other _ _ _ _ n5).trans q2.2.1,q2.2.2⟩,q3.up j y,q4,q5,q6,n1,n2,n3,n4,n5⟩,?_⟩
 exact (OnlyE.of (Below.refl _ _)).set r j _ (.inr (.inr (.inr rfl)))
theorem ywrite_vdc {w:World} {b:Nat} (p v pg a:Int) (KW:∀w,Calls Tryz.prog 33 #[.int .i64 p] w fun e w'=>e=Ending.returned (.tuple #[.int .i64 2,.int .i64 pg,.int .i64 a])∧w'=w) (y:Int) (hv:v%256=y) {R:World→Prop} (KD:Calls Tryz.prog 51 #[.pointer (some ⟨b,0,none⟩),.int .i64 a,.int .i64 y] w fun e w'=>e=Ending.returned (.tuple #[])∧R w'):Calls Tryz.prog 9 #[.pointer (some ⟨b,0,none⟩),.int .i64 p,.int .i64 v] w fun e w'=>e=Ending.returned (.tuple #[])∧R w':=by
 have W0:=hide KW
 have Y0:=hide (fun w=>rbyte_any v w)
 rw [hv] at Y0
 clear KW hv
 have V0:=hide KD
 clear KD
 go_enter Tryz.func9,Tryz.ntmps9
 go_wp2_with (first|(go_at_call 49;refine (Y0.out _).mono ?_;rintro e w' ⟨rfl,hw⟩;subst w')|(go_at_call 33;refine (W0.out _).mono ?_;rintro e w' ⟨rfl,hw⟩;subst w'))
 refine V0.out.mono ?_
 rintro e w2 ⟨rfl,h2⟩
 have H2:=hide h2
 clear h2
 go_wp2
 go_end0
 exact ⟨rfl,H2.out⟩
theorem ywrite_open {w:World} {b:Nat} (p v pg a:Int) (KW:∀w,Calls Tryz.prog 33 #[.int .i64 p] w fun e w'=>e=Ending.returned (.tuple #[.int .i64 8,.int .i64 pg,.int .i64 a])∧w'=w) (y:Int) (hv:v%256=y):Calls Tryz.prog 9 #[.pointer (some ⟨b,0,none⟩),.int .i64 p,.int .i64 v] w fun e w'=>e=Ending.returned (.tuple #[])∧w'=w:=by
 have W0:=hide KW
 have Y0:=hide (fun w=>rbyte_any v w)
 rw [hv] at Y0
 clear KW hv
 go_enter Tryz.func9,Tryz.ntmps9
 go_wp2_with (first|(go_at_call 49;refine (Y0.out _).mono ?_;rintro e w' ⟨rfl,hw⟩;subst w')|(go_at_call 33;refine (W0.out _).mono ?_;rintro e w' ⟨rfl,hw⟩;subst w'))
 go_end0
 exact ⟨rfl,rfl⟩
set_option maxHeartbeats 1000000 in
theorem ywrite_vce {w:World} {b c d r:Nat} {L:List (Nat×(Nat→Value))} {f:Nat→Int} {wr rd st lo bu:Int} {ram:Nat→Int} (h:HasY w b c d r L f wr rd st lo bu ram) (p v pg a:Int) (KW:∀w,Calls Tryz.prog 33 #[.int .i64 p] w fun e w'=>e=Ending.returned (.tuple #[.int .i64 3,.int .i64 pg,.int .i64 a])∧w'=w) (y:Int) (hv:v%256=y) {s q:Nat→Value} (hs:L[11]? = some (514,s)) (KP:∀w,Calls Tryz.prog 52 #[.agg (rowF s 514),.int .i64 a,.int .i64 y] w fun e w'=>e=Ending.returned (.agg (rowF q 514))∧Below w.heap.size w w') (hq:∀j,j<514→(q j).oneCell'=true):Calls Tryz.prog 9 #[.pointer (some ⟨b,0,none⟩),.int .i64 p,.int .i64 v] w fun e w'=>e=Ending.returned (.tuple #[])∧HasY w' b c d r (L.set 11 (514,q)) f wr rd st lo bu ram∧OnlyE (EY b c d r) w w':=by
 have W0:=hide KW
 have Y0:=hide (fun w=>rbyte_any v w)
 rw [hv] at Y0
 clear KW hv
 have hY:=h.2.2.2.1
 have SG:=hide (h.1.seg 11 hs (a:=293) (hY.off 11 rfl))
 have HE:=hide h
 have H:=hide h.1
 have ES:=hide hs
 have HY:=hide hY
 have G1:=hide hq
 have P0:=hide KP
 clear h hs hY hq KP
 go_enter Tryz.func9,Tryz.ntmps9
 go_wp2_with (first
  |(go_at_call 49;refine (Y0.out _).mono ?_;rintro e w' ⟨rfl,hw⟩;subst w')
  |(go_at_call 33;refine (W0.out _).mono ?_;rintro e w' ⟨rfl,hw⟩;subst w')
  |(refine wpList_load_part rfl 71 (.tmp 55) rfl b 293 rfl H.out 514 (by decide) s SG.out _ Tryz.underlying71 rfl (by kernel_rfl) ?_))
 refine (P0.out _).mono ?_
 rintro e w2 ⟨rfl,b2⟩
 have H2:=hide (H.out.next b2)
 have B2:=hide (But.of (b:=b) b2)
 clear b2 P0 H SG
 go_wp2_with (first|(refine wpList_store_part rfl 71 (.tmp 61) (.tmp 59) rfl b 293 514 q rfl rfl H2.out (by decide) (by kernel_rfl) G1.out ?_;refine under_list fun w4 hw4=>?_;have H4:Hid (HasF 81 w4 b 1072 (segs (L.set 11 (514,q)))):=hide (by rw [hw4];exact H2.out.lay 11 ES.out q (HY.out.off 11 rfl));have B4:Hid (But b w w4):=hide (by rw [hw4];exact But.cells _ _ _ B2.out);have c18:=trivial;have z18:=H4.out.frozen 1071;clear hw4 H2 B2))
 go_end0
 exact ⟨rfl,HE.out.row B4.out H4.out (HY.out.set ES.out _) (set_other rfl _ (by decide)) (set_other rfl _ (by decide)),ey_but B4.out⟩
set_option maxHeartbeats 1000000 in
theorem ywrite_psg {w:World} {b c d r:Nat} {L:List (Nat×(Nat→Value))} {f:Nat→Int} {wr rd st lo bu:Int} {ram:Nat→Int} (h:HasY w b c d r L f wr rd st lo bu ram) (p v pg a:Int) (KW:∀w,Calls Tryz.prog 33 #[.int .i64 p] w fun e w'=>e=Ending.returned (.tuple #[.int .i64 4,.int .i64 pg,.int .i64 a])∧w'=w) (y:Int) (hv:v%256=y) {s q:Nat→Value} (hs:L[12]? = some (244,s)) (KP:∀w,Calls Tryz.prog 53 #[.agg (rowF s 244),.int .i64 a,.int .i64 y] w fun e w'=>e=Ending.returned (.agg (rowF q 244))∧Below w.heap.size w w') (hq:∀j,j<244→(q j).oneCell'=true) {hd:Int} (h18:L[18]? = some (1,fun _=>Value.int .i64 hd)):Calls Tryz.prog 9 #[.pointer (some ⟨b,0,none⟩),.int .i64 p,.int .i64 v] w fun e w'=>e=Ending.returned (.tuple #[])∧HasY w' b c d r ((L.set 12 (244,q)).set 18 (1,fun _=>Value.int .i64 y)) f wr rd st lo bu ram∧OnlyE (EY b c d r) w w':=by
 have E18:=hide h18
 clear h18
 have W0:=hide KW
 have Y0:=hide (fun w=>rbyte_any v w)
 rw [hv] at Y0
 clear KW hv
 have hY:=h.2.2.2.1
 have SG:=hide (h.1.seg 12 hs (a:=807) (hY.off 12 rfl))
 have HE:=hide h
 have H:=hide h.1
 have ES:=hide hs
 have HY:=hide hY
 have G1:=hide hq
 have P0:=hide KP
 clear h hs hY hq KP
 go_enter Tryz.func9,Tryz.ntmps9
 go_wp2_with (first
  |(go_at_call 49;refine (Y0.out _).mono ?_;rintro e w' ⟨rfl,hw⟩;subst w')
  |(go_at_call 33;refine (W0.out _).mono ?_;rintro e w' ⟨rfl,hw⟩;subst w')
  |(refine wpList_load_part rfl 75 (.tmp 67) rfl b 807 rfl H.out 244 (by decide) s SG.out _ Tryz.underlying75 rfl (by kernel_rfl) ?_))
 refine (P0.out _).mono ?_
 rintro e w2 ⟨rfl,b2⟩
 have H2:=hide (H.out.next b2)
 have B2:=hide (But.of (b:=b) b2)
 clear b2 P0 H SG
 go_wp2_with (first|(refine wpList_store_part rfl 75 (.tmp 73) (.tmp 71) rfl b 807 244 q rfl rfl H2.out (by decide) (by kernel_rfl) G1.out ?_;refine under_list fun w4 hw4=>?_;have H4:Hid (HasF 81 w4 b 1072 (segs (L.set 12 (244,q)))):=hide (by rw [hw4];exact H2.out.lay 12 ES.out q (HY.out.off 12 rfl));have B4:Hid (But b w w4):=hide (by rw [hw4];exact But.cells _ _ _ B2.out);have c18:=H4.out.get1 18 (set_other E18.out _ (by decide)) (a:=1071) ((HY.out.set ES.out _).off 18 rfl) (by decide);have z18:=H4.out.frozen 1071;clear hw4 H2 B2))
 go_end0
 have B5:=B4.out.set 1071 (.int .i64 y)
 exact ⟨rfl,HE.out.row B5 (H4.out.put1 18 (set_other E18.out _ (by decide)) ((HY.out.set ES.out _).off 18 rfl) _) ((HY.out.set ES.out _).set (set_other E18.out _ (by decide)) _) (set_other (set_other rfl _ (by decide)) _ (by decide)) (set_other (set_other rfl _ (by decide)) _ (by decide)),ey_but B5⟩
set_option maxHeartbeats 1000000 in
theorem ywrite_timer {w:World} {b c d r:Nat} {L:List (Nat×(Nat→Value))} {f:Nat→Int} {wr rd st lo bu:Int} {ram:Nat→Int} (h:HasY w b c d r L f wr rd st lo bu ram) (p v pg a:Int) (KW:∀w,Calls Tryz.prog 33 #[.int .i64 p] w fun e w'=>e=Ending.returned (.tuple #[.int .i64 5,.int .i64 pg,.int .i64 a])∧w'=w) (y:Int) (hv:v%256=y) {s q:Nat→Value} (hs:L[13]? = some (4,s)) (KP:∀w,Calls Tryz.prog 54 #[.agg (rowF s 4),.int .i64 a,.int .i64 y] w fun e w'=>e=Ending.returned (.agg (rowF q 4))∧Below w.heap.size w w') (hq:∀j,j<4→(q j).oneCell'=true) {hd:Int} (h18:L[18]? = some (1,fun _=>Value.int .i64 hd)):Calls Tryz.prog 9 #[.pointer (some ⟨b,0,none⟩),.int .i64 p,.int .i64 v] w fun e w'=>e=Ending.returned (.tuple #[])∧HasY w' b c d r ((L.set 13 (4,q)).set 18 (1,fun _=>Value.int .i64 y)) f wr rd st lo bu ram∧OnlyE (EY b c d r) w w':=by
 have E18:=hide h18
 clear h18
 have W0:=hide KW
 have Y0:=hide (fun w=>rbyte_any v w)
 rw [hv] at Y0
 clear KW hv
 have hY:=h.2.2.2.1
 have SG:=hide (h.1.seg 13 hs (a:=1051) (hY.off 13 rfl))
 have HE:=hide h
 have H:=hide h.1
 have ES:=hide hs
 have HY:=hide hY
 have G1:=hide hq
 have P0:=hide KP
 clear h hs hY hq KP
 go_enter Tryz.func9,Tryz.ntmps9
 go_wp2_with (first
  |(go_at_call 49;refine (Y0.out _).mono ?_;rintro e w' ⟨rfl,hw⟩;subst w')
  |(go_at_call 33;refine (W0.out _).mono ?_;rintro e w' ⟨rfl,hw⟩;subst w')
  |(refine wpList_load_part rfl 76 (.tmp 79) rfl b 1051 rfl H.out 4 (by decide) s SG.out _ Tryz.underlying76 rfl (by kernel_rfl) ?_))
 refine (P0.out _).mono ?_
 rintro e w2 ⟨rfl,b2⟩
 have H2:=hide (H.out.next b2)
 have B2:=hide (But.of (b:=b) b2)
 clear b2 P0 H SG
 go_wp2_with (first|(refine wpList_store_part rfl 76 (.tmp 85) (.tmp 83) rfl b 1051 4 q rfl rfl H2.out (by decide) (by kernel_rfl) G1.out ?_;refine under_list fun w4 hw4=>?_;have H4:Hid (HasF 81 w4 b 1072 (segs (L.set 13 (4,q)))):=hide (by rw [hw4];exact H2.out.lay 13 ES.out q (HY.out.off 13 rfl));have B4:Hid (But b w w4):=hide (by rw [hw4];exact But.cells _ _ _ B2.out);have c18:=H4.out.get1 18 (set_other E18.out _ (by decide)) (a:=1071) ((HY.out.set ES.out _).off 18 rfl) (by decide);have z18:=H4.out.frozen 1071;clear hw4 H2 B2))
 go_end0
 have B5:=B4.out.set 1071 (.int .i64 y)
 exact ⟨rfl,HE.out.row B5 (H4.out.put1 18 (set_other E18.out _ (by decide)) ((HY.out.set ES.out _).off 18 rfl) _) ((HY.out.set ES.out _).set (set_other E18.out _ (by decide)) _) (set_other (set_other rfl _ (by decide)) _ (by decide)) (set_other (set_other rfl _ (by decide)) _ (by decide)),ey_but B5⟩
set_option maxHeartbeats 1000000 in
theorem ywrite_pad {w:World} {b c d r:Nat} {L:List (Nat×(Nat→Value))} {f:Nat→Int} {wr rd st lo bu:Int} {ram:Nat→Int} (h:HasY w b c d r L f wr rd st lo bu ram) (p v pg a:Int) (KW:∀w,Calls Tryz.prog 33 #[.int .i64 p] w fun e w'=>e=Ending.returned (.tuple #[.int .i64 6,.int .i64 pg,.int .i64 a])∧w'=w) (y:Int) (hv:v%256=y) {s q:Nat→Value} (hs:L[16]? = some (4,s)) (KP:∀w,Calls Tryz.prog 55 #[.agg (rowF s 4),.int .i64 y] w fun e w'=>e=Ending.returned (.agg (rowF q 4))∧Below w.heap.size w w') (hq:∀j,j<4→(q j).oneCell'=true) {hd:Int} (h18:L[18]? = some (1,fun _=>Value.int .i64 hd)):Calls Tryz.prog 9 #[.pointer (some ⟨b,0,none⟩),.int .i64 p,.int .i64 v] w fun e w'=>e=Ending.returned (.tuple #[])∧HasY w' b c d r ((L.set 16 (4,q)).set 18 (1,fun _=>Value.int .i64 y)) f wr rd st lo bu ram∧OnlyE (EY b c d r) w w':=by
 have E18:=hide h18
 clear h18
 have W0:=hide KW
 have Y0:=hide (fun w=>rbyte_any v w)
 rw [hv] at Y0
 clear KW hv
 have hY:=h.2.2.2.1
 have SG:=hide (h.1.seg 16 hs (a:=1057) (hY.off 16 rfl))
 have HE:=hide h
 have H:=hide h.1
 have ES:=hide hs
 have HY:=hide hY
 have G1:=hide hq
 have P0:=hide KP
 clear h hs hY hq KP
 go_enter Tryz.func9,Tryz.ntmps9
 go_wp2_with (first
  |(go_at_call 49;refine (Y0.out _).mono ?_;rintro e w' ⟨rfl,hw⟩;subst w')
  |(go_at_call 33;refine (W0.out _).mono ?_;rintro e w' ⟨rfl,hw⟩;subst w')
  |(refine wpList_load_part rfl 77 (.tmp 91) rfl b 1057 rfl H.out 4 (by decide) s SG.out _ Tryz.underlying77 rfl (by kernel_rfl) ?_))
 refine (P0.out _).mono ?_
 rintro e w2 ⟨rfl,b2⟩
 have H2:=hide (H.out.next b2)
 have B2:=hide (But.of (b:=b) b2)
 clear b2 P0 H SG
 go_wp2_with (first|(refine wpList_store_part rfl 77 (.tmp 96) (.tmp 94) rfl b 1057 4 q rfl rfl H2.out (by decide) (by kernel_rfl) G1.out ?_;refine under_list fun w4 hw4=>?_;have H4:Hid (HasF 81 w4 b 1072 (segs (L.set 16 (4,q)))):=hide (by rw [hw4];exact H2.out.lay 16 ES.out q (HY.out.off 16 rfl));have B4:Hid (But b w w4):=hide (by rw [hw4];exact But.cells _ _ _ B2.out);have c18:=H4.out.get1 18 (set_other E18.out _ (by decide)) (a:=1071) ((HY.out.set ES.out _).off 18 rfl) (by decide);have z18:=H4.out.frozen 1071;clear hw4 H2 B2))
 go_end0
 have B5:=B4.out.set 1071 (.int .i64 y)
 exact ⟨rfl,HE.out.row B5 (H4.out.put1 18 (set_other E18.out _ (by decide)) ((HY.out.set ES.out _).off 18 rfl) _) ((HY.out.set ES.out _).set (set_other E18.out _ (by decide)) _) (set_other (set_other rfl _ (by decide)) _ (by decide)) (set_other (set_other rfl _ (by decide)) _ (by decide)),ey_but B5⟩
set_option maxHeartbeats 1000000 in
theorem ywrite_irq {w:World} {b c d r:Nat} {L:List (Nat×(Nat→Value))} {f:Nat→Int} {wr rd st lo bu:Int} {ram:Nat→Int} (h:HasY w b c d r L f wr rd st lo bu ram) (p v pg a:Int) (KW:∀w,Calls Tryz.prog 33 #[.int .i64 p] w fun e w'=>e=Ending.returned (.tuple #[.int .i64 7,.int .i64 pg,.int .i64 a])∧w'=w) (y:Int) (hv:v%256=y) {m l m' l' hd:Int} (h14:L[14]? = some (1,fun _=>Value.int .i64 m)) (h15:L[15]? = some (1,fun _=>Value.int .i64 l)) (h18:L[18]? = some (1,fun _=>Value.int .i64 hd)) (KI:∀w,Calls Tryz.prog 56 #[.int .i64 m,.int .i64 l,.int .i64 a,.int .i64 y] w fun e w'=>e=Ending.returned (.tuple #[.int .i64 m',.int .i64 l'])∧w'=w):
  Calls Tryz.prog 9 #[.pointer (some ⟨b,0,none⟩),.int .i64 p,.int .i64 v] w fun e w'=>e=Ending.returned (.tuple #[])∧HasY w' b c d r (((L.set 14 (1,fun _=>Value.int .i64 m')).set 15 (1,fun _=>Value.int .i64 l')).set 18 (1,fun _=>Value.int .i64 y)) f wr rd st lo bu ram∧OnlyE (EY b c d r) w w':=by
 have W0:=hide KW
 have Y0:=hide (fun w=>rbyte_any v w)
 rw [hv] at Y0
 clear KW hv
 have hY:=h.2.2.2.1
 have i14:=kept_cell (h.1.get1 14 h14 (a:=1055) (hY.off 14 rfl) (by decide)) h.1.lt
 have i15:=kept_cell (h.1.get1 15 h15 (a:=1056) (hY.off 15 rfl) (by decide)) h.1.lt
 have i18:=kept_cell (h.1.get1 18 h18 (a:=1071) (hY.off 18 rfl) (by decide)) h.1.lt
 have HE:=hide h
 have E14:=hide h14
 have E15:=hide h15
 have E18:=hide h18
 have HY:=hide hY
 have P0:=hide KI
 clear h h14 h15 h18 KI hY
 go_enter Tryz.func9,Tryz.ntmps9
 go_wp2_with (first|(go_at_call 49;refine (Y0.out _).mono ?_;rintro e w' ⟨rfl,hw⟩;subst w')|(go_at_call 33;refine (W0.out _).mono ?_;rintro e w' ⟨rfl,hw⟩;subst w'))
 haveI:=kept_some w
 refine wp_region_kept (by kernel_rfl) (by kernel_rfl) ?_
 repeat (go_big_quiet_step ((go_at_call 56;exact kept_same (P0.out _))))
 refine wpQuiet_nil ?_
 rintro _ ⟨wk,rfl⟩
 have c14:=i14 wk
 have c15:=i15 wk
 have c18:=i18 wk
 have H1:=hide (HE.out.1.next wk.below)
 have z14:=H1.out.frozen 1055
 have z15:=H1.out.frozen 1056
 have z18:=H1.out.frozen 1071
 have B1:=hide (But.of (b:=b) wk.below)
 generalize wk.val=w1 at *
 clear i14 i15 i18
 go_wp2
 go_end0
 have B2:=((B1.out.set 1055 (.int .i64 m')).set 1056 (.int .i64 l')).set 1071 (.int .i64 y)
 have Y14:=HY.out.set E14.out (fun _=>Value.int .i64 m')
 have e15:=set_other (k:=14) E15.out (1,fun _=>Value.int .i64 m') (by decide)
 have Y15:=Y14.set e15 (fun _=>Value.int .i64 l')
 have e18:=set_other (k:=15) (set_other (k:=14) E18.out (1,fun _=>Value.int .i64 m') (by decide)) (1,fun _=>Value.int .i64 l') (by decide)
 exact ⟨rfl,HE.out.row B2 (((H1.out.put1 14 E14.out (HY.out.off 14 rfl) _).put1 15 e15 (Y14.off 15 rfl) _).put1 18 e18 (Y15.off 18 rfl) _) (Y15.set e18 _) (set_other (set_other (set_other rfl _ (by decide)) _ (by decide)) _ (by decide)) (set_other (set_other (set_other rfl _ (by decide)) _ (by decide)) _ (by decide)),ey_but B2⟩
end Go.Proofs.YtnllcknfmciebaaGreatDoor.D24
