/- The document's own machine: a read, one theorem a kind of place. -/
import Derived.Test.YtnllcknfmciebaaGreatDoorBusPlaysJ32
import Derived.Test.YtnllcknfmciebaaGreatDoorBusPlaysJ01
namespace Go.Proofs.YtnllcknfmciebaaGreatDoor.D24
set_option maxRecDepth 20000
open W13
open Go.RowKit
set_option linter.unusedVariables false
set_option maxHeartbeats 1000000 in
theorem yread_rom {w:World} {b c d r:Nat} {L:List (Nat×(Nat→Value))} {f:Nat→Int} {wr rd st lo bu:Int} {ram:Nat→Int} (h:HasY w b c d r L f wr rd st lo bu ram) (p pg a:Int) (KW:∀w,Calls Tryz.prog 33 #[.int .i64 p] w fun e w'=>e=Ending.returned (.tuple #[.int .i64 0,.int .i64 pg,.int .i64 a])∧w'=w) {P lt x:Int} (h0:L[0]? = some (1,fun _=>Value.int .i64 P)) (h1:L[1]? = some (1,fun _=>Value.int .i64 lt)) {q n:Nat} (h2:L[2]? = some (1,fun _=>.slice (some ⟨q,0,none⟩) n n)) {bs:List Int} (hq:Bytes 5 w q bs) (hl:bs.length=n)
  (KP:∀w,Calls Tryz.prog 34 #[.int .i64 P,.int .i64 lt,.int .i64 pg] w fun e w'=>e=Ending.returned (.int .i64 x)∧w'=w) (x0:0≤x) (x1:x≤1000) (a0:0≤a) (a1:a<8192) (j:Nat) (hj:x*8192+a=(j:Int)) (hn:j<n):
  Calls Tryz.prog 7 #[.pointer (some ⟨b,0,none⟩),.int .i64 p] w fun e w'=>e=Ending.returned (.int .i64 (bs.getD j 0))∧Below w.heap.size w w':=by
 have hY:=h.2.2.2.1
 have i0:=kept_cell (h.1.get1 0 h0 (a:=0) (hY.off 0 rfl) (by decide)) h.1.lt
 have i1:=kept_cell (h.1.get1 1 h1 (a:=1) (hY.off 1 rfl) (by decide)) h.1.lt
 have i2:=kept_cell (h.1.get1 2 h2 (a:=2) (hY.off 2 rfl) (by decide)) h.1.lt
 obtain ⟨cj,z0,z1⟩:=hq.cell j (by omega)
 have i3:=kept_cell cj hq.lt
 generalize bs.getD j 0=z at *
 have W0:=hide KW
 have P0:=hide KP
 have x2:0≤x*8192∧x*8192≤8192000:=by omega
 generalize hy:x*8192=y at *
 clear h h0 h1 h2 hq hl KW KP hY cj
 go_enter Tryz.func7,Tryz.ntmps7
 go_wp2_with (first|(go_at_call 33;refine (W0.out _).mono ?_;rintro e w' ⟨rfl,hw⟩;subst w'))
 haveI:=kept_some w
 refine wp_region_kept (by kernel_rfl) (by kernel_rfl) ?_
 repeat (go_big_quiet_step ((go_at_call 34;exact kept_same (P0.out _))))
 refine wpQuiet_nil ?_
 rintro _ ⟨wk,rfl⟩
 go_wp2
 go_ret
 exact ⟨rfl,wk.below⟩
theorem yread_ram {w:World} {b c d r:Nat} {L:List (Nat×(Nat→Value))} {f:Nat→Int} {wr rd st lo bu:Int} {ram:Nat→Int} (h:HasY w b c d r L f wr rd st lo bu ram) (p pg a:Int) (KW:∀w,Calls Tryz.prog 33 #[.int .i64 p] w fun e w'=>e=Ending.returned (.tuple #[.int .i64 1,.int .i64 pg,.int .i64 a])∧w'=w) (j:Nat) (ha:a=(j:Int)) (hj:j<8192):Calls Tryz.prog 7 #[.pointer (some ⟨b,0,none⟩),.int .i64 p] w fun e w'=>e=Ending.returned (.int .i64 (ram j))∧w'=w:=by
 have c3:=h.1.get1 3 h.2.2.2.2.2.1 (a:=3) (h.2.2.2.1.off 3 rfl) (by decide)
 have cj:=h.2.2.1.int j hj
 have W0:=hide KW
 clear h KW
 subst ha
 go_enter Tryz.func7,Tryz.ntmps7
 go_wp2_with (first|(go_at_call 33;refine (W0.out _).mono ?_;rintro e w' ⟨rfl,hw⟩;subst w'))
 go_ret
 exact ⟨rfl,rfl⟩
theorem yread_vdc {w:World} {b:Nat} (p pg a:Int) (KW:∀w,Calls Tryz.prog 33 #[.int .i64 p] w fun e w'=>e=Ending.returned (.tuple #[.int .i64 2,.int .i64 pg,.int .i64 a])∧w'=w) {x:Int} {R:World→Prop} (KV:Calls Tryz.prog 35 #[.pointer (some ⟨b,0,none⟩),.int .i64 a] w fun e w'=>e=Ending.returned (.int .i64 x)∧R w'):Calls Tryz.prog 7 #[.pointer (some ⟨b,0,none⟩),.int .i64 p] w fun e w'=>e=Ending.returned (.int .i64 x)∧R w':=by
 have W0:=hide KW
 have V0:=hide KV
 clear KW KV
 go_enter Tryz.func7,Tryz.ntmps7
 go_wp2_with (first|(go_at_call 33;refine (W0.out _).mono ?_;rintro e w' ⟨rfl,hw⟩;subst w'))
 refine V0.out.mono ?_
 rintro e w2 ⟨rfl,h2⟩
 have H2:=hide h2
 clear h2
 go_wp2
 go_ret
 exact ⟨rfl,H2.out⟩
theorem zero_V514 (w:World):(zeroValue 71).run Tryz.prog w=.ok (.agg (rowF (iv fun _=>0) 514)) w:=by kernel_rfl
theorem yread_vce {w:World} {b c d r:Nat} {L:List (Nat×(Nat→Value))} {f:Nat→Int} {wr rd st lo bu:Int} {ram:Nat→Int} (h:HasY w b c d r L f wr rd st lo bu ram) (p pg a:Int) (KW:∀w,Calls Tryz.prog 33 #[.int .i64 p] w fun e w'=>e=Ending.returned (.tuple #[.int .i64 3,.int .i64 pg,.int .i64 a])∧w'=w) {v v':Nat→Value} (h11:L[11]? = some (514,v)) {x:Int} (KV:∀w,Calls Tryz.prog 36 #[.agg (rowF v 514),.int .i64 a] w fun e w'=>e=Ending.returned (.tuple #[.int .i64 x,.agg (rowF v' 514)])∧Below w.heap.size w w') (hv:∀j,j<514→(v' j).oneCell'=true):
  Calls Tryz.prog 7 #[.pointer (some ⟨b,0,none⟩),.int .i64 p] w fun e w'=>e=Ending.returned (.int .i64 x)∧HasY w' b c d r (L.set 11 (514,v')) f wr rd st lo bu ram∧OnlyE (EY b c d r) w w':=by
 have hY:=h.2.2.2.1
 have SG:=hide (h.1.seg 11 h11 (a:=293) (hY.off 11 rfl))
 have HE:=hide h
 have H:=hide h.1
 have E11:=hide h11
 have HY:=hide hY
 have G1:=hide hv
 have W0:=hide KW
 have V0:=hide KV
 have ZO:Hid ((rowF v' 514).all (·.oneCell')=true):=hide (rowF_all hv)
 have ZI:Hid ((Tryz.prog.info? 71).map (·.size)=some (rowF v' 514).size):=hide (by rw [rowF_size];kernel_rfl)
 have ZS:Hid ((rowF (iv fun _=>0) 514).size=(rowF v' 514).size):=hide (by rw [rowF_size,rowF_size])
 clear h h11 hY hv KW KV
 go_enter Tryz.func7,Tryz.ntmps7
 go_wp2_with (first
  |(go_at_call 33;refine (W0.out _).mono ?_;rintro e w' ⟨rfl,hw⟩;subst w')
  |(refine wpList_load_part rfl 71 (.tmp 58) rfl b 293 rfl H.out 514 (by decide) v SG.out _ Tryz.underlying71 rfl (by kernel_rfl) ?_))
 refine (V0.out _).mono ?_
 rintro e w2 ⟨rfl,b2⟩
 have H2:=hide (H.out.next b2)
 have B2:=hide (But.of (b:=b) b2)
 clear b2 V0 H SG
 go_wp2_with (first
  |(refine wpList_alloced rfl 71 rfl (rowF (iv fun _=>0) 514) zero_V514 ?_)
  |(refine wpList_store_row rfl 71 (.tmp 9) (.tmp 63) rfl w2.heap.size _ rfl rfl 71 _ (hasF_new _ _ _ _) ZI.out ZS.out ZO.out ?_
    refine under_list fun w3 hw3=>?_
    have W3:Below w2.heap.size w2 w3:=(by rw [hw3];exact below_setRow ((Below.refl _ _).alloc (Nat.le_refl _) _) (Nat.le_refl _) _)
    have M3:Hid (w3.heap[w2.heap.size]? = some (.cells (rowF v' 514) 71 (0,0))):=hide (by rw [hw3];exact setRow_heap _ _ _ _ _ _ (hasF_new _ _ _ _))
    have H3:=hide (H2.out.next W3)
    have B3:=hide (B2.out.andBelow W3)
    clear hw3 W3 H2 B2)
  |(refine wpList_load_row rfl 71 (.tmp 9) rfl w2.heap.size rfl _ _ _ _ M3.out Tryz.underlying71 rfl ZI.out ?_)
  |(refine wpList_store_part rfl 71 (.tmp 67) (.tmp 65) rfl b 293 514 v' rfl rfl H3.out (by decide) (by kernel_rfl) G1.out ?_
    refine under_list fun w4 hw4=>?_
    have H4:Hid (HasF 81 w4 b 1072 (segs (L.set 11 (514,v')))):=hide (by rw [hw4];exact H3.out.lay 11 E11.out v' (HY.out.off 11 rfl))
    have B4:Hid (But b w w4):=hide (by rw [hw4];exact But.cells _ _ _ B3.out)
    clear hw4 H3 B3 M3))
 go_ret
 exact ⟨rfl,HE.out.row B4.out H4.out (HY.out.set E11.out _) (set_other rfl _ (by decide)) (set_other rfl _ (by decide)),ey_but B4.out⟩
theorem yread_psg {w:World} {b c d r:Nat} {L:List (Nat×(Nat→Value))} {f:Nat→Int} {wr rd st lo bu:Int} {ram:Nat→Int} (h:HasY w b c d r L f wr rd st lo bu ram) (p pg a:Int) (KW:∀w,Calls Tryz.prog 33 #[.int .i64 p] w fun e w'=>e=Ending.returned (.tuple #[.int .i64 4,.int .i64 pg,.int .i64 a])∧w'=w) {hd:Int} (h18:L[18]? = some (1,fun _=>Value.int .i64 hd)) (hh:True):Calls Tryz.prog 7 #[.pointer (some ⟨b,0,none⟩),.int .i64 p] w fun e w'=>e=Ending.returned (.int .i64 hd)∧w'=w:=by
 have c:=h.1.get1 18 h18 (a:=1071) (h.2.2.2.1.off 18 rfl) (by decide)
 have W0:=hide KW
 clear h KW h18
 go_enter Tryz.func7,Tryz.ntmps7
 go_wp2_with (first|(go_at_call 33;refine (W0.out _).mono ?_;rintro e w' ⟨rfl,hw⟩;subst w'))
 go_ret
 exact ⟨rfl,rfl⟩
theorem yread_irq0 {w:World} {b c d r:Nat} {L:List (Nat×(Nat→Value))} {f:Nat→Int} {wr rd st lo bu:Int} {ram:Nat→Int} (h:HasY w b c d r L f wr rd st lo bu ram) (p pg a:Int) (KW:∀w,Calls Tryz.prog 33 #[.int .i64 p] w fun e w'=>e=Ending.returned (.tuple #[.int .i64 7,.int .i64 pg,.int .i64 a])∧w'=w) {hd:Int} (h18:L[18]? = some (1,fun _=>Value.int .i64 hd)) (ha:a<2):Calls Tryz.prog 7 #[.pointer (some ⟨b,0,none⟩),.int .i64 p] w fun e w'=>e=Ending.returned (.int .i64 hd)∧w'=w:=by
 have c:=h.1.get1 18 h18 (a:=1071) (h.2.2.2.1.off 18 rfl) (by decide)
 have W0:=hide KW
 clear h KW h18
 go_enter Tryz.func7,Tryz.ntmps7
 go_wp2_with (first|(go_at_call 33;refine (W0.out _).mono ?_;rintro e w' ⟨rfl,hw⟩;subst w'))
 go_ret
 exact ⟨rfl,rfl⟩
theorem yread_open {w:World} {b:Nat} (p pg a:Int) (KW:∀w,Calls Tryz.prog 33 #[.int .i64 p] w fun e w'=>e=Ending.returned (.tuple #[.int .i64 8,.int .i64 pg,.int .i64 a])∧w'=w):Calls Tryz.prog 7 #[.pointer (some ⟨b,0,none⟩),.int .i64 p] w fun e w'=>e=Ending.returned (.int .i64 255)∧w'=w:=by
 have W0:=hide KW
 clear KW
 go_enter Tryz.func7,Tryz.ntmps7
 go_wp2_with (first|(go_at_call 33;refine (W0.out _).mono ?_;rintro e w' ⟨rfl,hw⟩;subst w'))
 go_ret
 exact ⟨rfl,rfl⟩
set_option maxHeartbeats 1000000 in
theorem yread_timer {w:World} {b c d r:Nat} {L:List (Nat×(Nat→Value))} {f:Nat→Int} {wr rd st lo bu:Int} {ram:Nat→Int} (h:HasY w b c d r L f wr rd st lo bu ram) (p pg a:Int) (KW:∀w,Calls Tryz.prog 33 #[.int .i64 p] w fun e w'=>e=Ending.returned (.tuple #[.int .i64 5,.int .i64 pg,.int .i64 a])∧w'=w) {hd n q x:Int} (h18:L[18]? = some (1,fun _=>Value.int .i64 hd)) {t:Nat→Value} (h13:L[13]? = some (4,t)) (ht:t 1=.int .i64 n) (d0:0≤hd) (d1:hd<256) (n0:0≤n) (n1:n<256) (hq:hd/128*128=q) (hx:q+n=x):
  Calls Tryz.prog 7 #[.pointer (some ⟨b,0,none⟩),.int .i64 p] w fun e w'=>e=Ending.returned (.int .i64 x)∧HasY w' b c d r (L.set 18 (1,fun _=>Value.int .i64 x)) f wr rd st lo bu ram∧OnlyE (EY b c d r) w w':=by
 have hY:=h.2.2.2.1
 have i18:=kept_cell (h.1.get1 18 h18 (a:=1071) (hY.off 18 rfl) (by decide)) h.1.lt
 have HE:=hide h
 have H:=hide h.1
 have E18:=hide h18
 have HY:=hide hY
 have W0:=hide KW
 have i13:=h.1.get 13 h13 1 (by decide) (a:=1052) (by rw [hY.off 13 (a:=1051) rfl]) (by decide)
 rw [ht] at i13
 replace i13:=kept_cell i13 h.1.lt
 have e1:Int.tdiv hd 128=hd/128:=Int.tdiv_eq_ediv_of_nonneg d0
 have q2:0≤hd/128∧hd/128≤1:=by omega
 have EX:=hide hx
 generalize hd/128=u at *
 clear h h18 hY KW h13 ht
 go_enter Tryz.func7,Tryz.ntmps7
 go_wp2_with (first|(go_at_call 33;refine (W0.out _).mono ?_;rintro e w' ⟨rfl,hw⟩;subst w'))
 haveI:=kept_some w
 refine wp_region_kept_shut _ _ (show _=[_,_,_,_,_,_,_,_,_,_,_,_,_,_,_]++[_] from rfl) (by kernel_rfl) (by kernel_rfl) (by kernel_rfl) ?_
 repeat (go_big_quiet_step (fail))
 refine wpQuiet_nil ?_
 rintro _ ⟨wk,rfl⟩
 have c18:=i18 wk
 have H1:=hide (H.out.next wk.below)
 have z18:=H1.out.frozen 1071
 have B1:=hide (But.of (b:=b) wk.below)
 generalize wk.val=w1 at *
 clear i13 i18 H
 go_wp2
 go_ret
 have B2:=B1.out.set 1071 (.int .i64 x)
 exact ⟨by first|rfl|exact ret_int (by omega),HE.out.row (by first|exact B2|(rw [EX.out];exact B2)) (by first|exact H1.out.put1 18 E18.out (HY.out.off 18 rfl) _|(rw [EX.out];exact H1.out.put1 18 E18.out (HY.out.off 18 rfl) _)) (HY.out.set E18.out _) (set_other rfl _ (by decide)) (set_other rfl _ (by decide)),ey_but (by first|exact B2|(rw [EX.out];exact B2))⟩
set_option maxHeartbeats 1000000 in
theorem yread_pad {w:World} {b c d r:Nat} {L:List (Nat×(Nat→Value))} {f:Nat→Int} {wr rd st lo bu:Int} {ram:Nat→Int} (h:HasY w b c d r L f wr rd st lo bu ram) (p pg a:Int) (KW:∀w,Calls Tryz.prog 33 #[.int .i64 p] w fun e w'=>e=Ending.returned (.tuple #[.int .i64 6,.int .i64 pg,.int .i64 a])∧w'=w) {hd x:Int} (h18:L[18]? = some (1,fun _=>Value.int .i64 hd)) {po pa:Nat→Value} (h16:L[16]? = some (4,po)) (h17:L[17]? = some (10,pa))
  (KP:∀w,Calls Tryz.prog 37 #[.agg (rowF po 4),.agg (rowF pa 10),.bool false] w fun e w'=>e=Ending.returned (.int .i64 x)∧Below w.heap.size w w'):Calls Tryz.prog 7 #[.pointer (some ⟨b,0,none⟩),.int .i64 p] w fun e w'=>e=Ending.returned (.int .i64 x)∧HasY w' b c d r (L.set 18 (1,fun _=>Value.int .i64 x)) f wr rd st lo bu ram∧OnlyE (EY b c d r) w w':=by
 have hY:=h.2.2.2.1
 have i18:=kept_cell (h.1.get1 18 h18 (a:=1071) (hY.off 18 rfl) (by decide)) h.1.lt
 have HE:=hide h
 have H:=hide h.1
 have E18:=hide h18
 have HY:=hide hY
 have W0:=hide KW
 have EX:Hid (x=x):=hide rfl
 have P0:=hide KP
 have R16:=hide (h.1.range 1057 4 (by decide))
 rw [rowF_ext (h.1.seg 16 h16 (a:=1057) (hY.off 16 rfl))] at R16
 have R17:=hide (h.1.range 1061 10 (by decide))
 rw [rowF_ext (h.1.seg 17 h17 (a:=1061) (hY.off 17 rfl))] at R17
 have HL:=hide h.1.lt
 have I16:Hid ((Tryz.prog.info? 77).map (·.size)=some (rowF po 4).size):=hide (by rw [rowF_size];kernel_rfl)
 have I17:Hid ((Tryz.prog.info? 79).map (·.size)=some (rowF pa 10).size):=hide (by rw [rowF_size];kernel_rfl)
 clear h h18 hY KW h16 h17 KP
 generalize rowF po 4=A at *
 generalize rowF pa 10=B at *
 go_enter Tryz.func7,Tryz.ntmps7
 go_wp2_with (first|(go_at_call 33;refine (W0.out _).mono ?_;rintro e w' ⟨rfl,hw⟩;subst w'))
 haveI:=kept_some w
 refine wp_region_kept_shut _ _ (show _=[_,_,_,_,_,_,_,_,_,_,_,_]++[_] from rfl) (by kernel_rfl) (by kernel_rfl) (by kernel_rfl) ?_
 repeat (first
  |(refine wpQuiet_mid rfl 77 (.tmp 91) rfl b 1057 rfl A _ (fun w' ⟨x,hx⟩=>by rw [hx];intro j v hv;rw [x.cell b _ HL.out];exact R16.out j v hv) Tryz.underlying77 rfl I16.out ?_;simp only [Act.put,List.setIfInBounds_toArray,List.set_cons_succ,List.set_cons_zero])
  |(refine wpQuiet_mid rfl 79 (.tmp 95) rfl b 1061 rfl B _ (fun w' ⟨x,hx⟩=>by rw [hx];intro j v hv;rw [x.cell b _ HL.out];exact R17.out j v hv) Tryz.underlying79 rfl I17.out ?_;simp only [Act.put,List.setIfInBounds_toArray,List.set_cons_succ,List.set_cons_zero])
  |go_big_quiet_step ((go_at_call 37;exact kept_call (P0.out _))))
 refine wpQuiet_nil ?_
 rintro _ ⟨wk,rfl⟩
 have c18:=i18 wk
 have H1:=hide (H.out.next wk.below)
 have z18:=H1.out.frozen 1071
 have B1:=hide (But.of (b:=b) wk.below)
 generalize wk.val=w1 at *
 clear R16 i18 H
 go_wp2
 go_ret
 have B2:=B1.out.set 1071 (.int .i64 x)
 exact ⟨by first|rfl|exact ret_int (by omega),HE.out.row (by first|exact B2|(rw [EX.out];exact B2)) (by first|exact H1.out.put1 18 E18.out (HY.out.off 18 rfl) _|(rw [EX.out];exact H1.out.put1 18 E18.out (HY.out.off 18 rfl) _)) (HY.out.set E18.out _) (set_other rfl _ (by decide)) (set_other rfl _ (by decide)),ey_but (by first|exact B2|(rw [EX.out];exact B2))⟩
set_option maxHeartbeats 1000000 in
theorem yread_irq {w:World} {b c d r:Nat} {L:List (Nat×(Nat→Value))} {f:Nat→Int} {wr rd st lo bu:Int} {ram:Nat→Int} (h:HasY w b c d r L f wr rd st lo bu ram) (p pg a:Int) (KW:∀w,Calls Tryz.prog 33 #[.int .i64 p] w fun e w'=>e=Ending.returned (.tuple #[.int .i64 7,.int .i64 pg,.int .i64 a])∧w'=w) (ha:¬a<2) {hd m l y q x:Int} (h18:L[18]? = some (1,fun _=>Value.int .i64 hd)) (h14:L[14]? = some (1,fun _=>Value.int .i64 m)) (h15:L[15]? = some (1,fun _=>Value.int .i64 l)) (d0:0≤hd) (d1:hd<256)
  (KI:∀w,Calls Tryz.prog 38 #[.int .i64 m,.int .i64 l,.int .i64 a] w fun e w'=>e=Ending.returned (.int .i64 y)∧w'=w) (y0:0≤y) (y1:y<256) (hq:hd/8*8=q) (hx:q+y=x):Calls Tryz.prog 7 #[.pointer (some ⟨b,0,none⟩),.int .i64 p] w fun e w'=>e=Ending.returned (.int .i64 x)∧HasY w' b c d r (L.set 18 (1,fun _=>Value.int .i64 x)) f wr rd st lo bu ram∧OnlyE (EY b c d r) w w':=by
 have hY:=h.2.2.2.1
 have i18:=kept_cell (h.1.get1 18 h18 (a:=1071) (hY.off 18 rfl) (by decide)) h.1.lt
 have HE:=hide h
 have H:=hide h.1
 have E18:=hide h18
 have HY:=hide hY
 have W0:=hide KW
 have i14:=kept_cell (h.1.get1 14 h14 (a:=1055) (hY.off 14 rfl) (by decide)) h.1.lt
 have i15:=kept_cell (h.1.get1 15 h15 (a:=1056) (hY.off 15 rfl) (by decide)) h.1.lt
 have P0:=hide KI
 have e1:Int.tdiv hd 8=hd/8:=Int.tdiv_eq_ediv_of_nonneg d0
 have q2:0≤hd/8∧hd/8≤31:=by omega
 have EX:=hide hx
 generalize hd/8=u at *
 clear h h18 hY KW h14 h15 KI
 go_enter Tryz.func7,Tryz.ntmps7
 go_wp2_with (first|(go_at_call 33;refine (W0.out _).mono ?_;rintro e w' ⟨rfl,hw⟩;subst w'))
 haveI:=kept_some w
 refine wp_region_kept_shut _ _ (show _=[_,_,_,_,_,_,_,_,_,_,_,_,_,_,_,_,_,_,_,_]++[_] from rfl) (by kernel_rfl) (by kernel_rfl) (by kernel_rfl) ?_
 repeat (go_big_quiet_step ((go_at_call 38;exact kept_same (P0.out _))))
 refine wpQuiet_nil ?_
 rintro _ ⟨wk,rfl⟩
 have c18:=i18 wk
 have H1:=hide (H.out.next wk.below)
 have z18:=H1.out.frozen 1071
 have B1:=hide (But.of (b:=b) wk.below)
 generalize wk.val=w1 at *
 clear i14 i18 H
 go_wp2
 go_ret
 have B2:=B1.out.set 1071 (.int .i64 x)
 exact ⟨by first|rfl|exact ret_int (by omega),HE.out.row (by first|exact B2|(rw [EX.out];exact B2)) (by first|exact H1.out.put1 18 E18.out (HY.out.off 18 rfl) _|(rw [EX.out];exact H1.out.put1 18 E18.out (HY.out.off 18 rfl) _)) (HY.out.set E18.out _) (set_other rfl _ (by decide)) (set_other rfl _ (by decide)),ey_but (by first|exact B2|(rw [EX.out];exact B2))⟩
end Go.Proofs.YtnllcknfmciebaaGreatDoor.D24
