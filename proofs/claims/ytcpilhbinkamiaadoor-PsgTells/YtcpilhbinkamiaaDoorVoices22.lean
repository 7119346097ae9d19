/- Package psg: the voices of a sound, walked. -/
import Derived.Test.YtcpilhbinkamiaaDoorVoc22
namespace Go.Proofs.YtcpilhbinkamiaaDoor
open Go.RowKit
set_option linter.unusedVariables false

theorem bnext2 {B : Nat} {w a b : World} (h : Below B w a) (hB : B ≤ w.heap.size) (k : Below a.heap.size a b) : Below B w b := h.trans (k.mono (Nat.le_trans hB h.size))
set_option maxHeartbeats 4000000 in
theorem voices_any {w : World} {b : Nat} {f : Nat → Int} (h : HasF 27 w b 244 (iv f)) (hL : HasLevels w) (ok : okP f) : Calls Tryd.prog 16 #[.pointer (some ⟨b, 0, none⟩)] w fun e w' => ∃ P, Pers f P ∧ e = Ending.returned (.agg (rowF (vrow f (accs f) P) 288)) ∧ Below w.heap.size w w' := by
  have HL := hide hL
  have HH := hide h
  have OK := hide ok
  have NP0 := hide h.lt
  clear h hL ok
  go_enter Tryd.func16, Tryd.ntmps16
  go_wp2_with (first
    | (refine wpList_alloced rfl 53 rfl (rowF zV 288) zero_V ?_)
    | (refine under_list fun wa hwa => ?_; obtain ⟨n0, n1, n2, n3⟩ := two_named hwa; have R0 : Hid (HasF 53 wa w.heap.size 288 zV) := hide n0; have H0 : Hid (HasF 53 wa (w.heap.size + 1) 288 (vPart f 0)) := hide (HasF.ext (T := 53) (c := zV) n1 fun j _ => rfl); have B0 := hide n3; have P0 := hide (HH.out.next n3); clear n0 n1 n2 n3 hwa; refine wpList_load_ints rfl 25 (.tmp 11) rfl b 4 rfl P0.out 240 (by decide) _ Tryd.underlying25 rfl info_240 ?_))
  obtain ⟨s0, hs0⟩ : ∃ s, w.heap.size = s := ⟨_, rfl⟩
  rw [hs0] at R0 H0 B0 NP0 ⊢
  obtain ⟨g3, hg3⟩ : ∃ g, s0 + 1 = g := ⟨_, rfl⟩
  rw [hg3] at H0 ⊢
  have S0 : Hid (s0 ≤ w.heap.size) := hide (by omega)
  have LE : Hid (s0 ≤ g3) := hide (by omega)
  have NE : Hid (s0 ≠ g3) := hide (by omega)
  have NP : Hid (b ≠ g3) := hide (by have := NP0.out; omega)
  clear hg3 HH
  go_loopw [13] (fun i w' => ∃ k : Nat, k ≤ 6 ∧ i = .int .i64 k ∧ HasF 53 w' g3 288 (vPart f k) ∧ HasF 53 w' s0 288 zV ∧ HasF 27 w' b 244 (iv f) ∧ Below s0 w w') (fun i _ => 6 - (intOf i).toNat)
  case atStart => exact ⟨0, by decide, rfl, H0.out, R0.out, P0.out, B0.out⟩
  case round =>
    clear H0 R0 P0 B0
    obtain ⟨k, hk, rfl, h1, r1, p1, b1⟩ := hrel
    have H1 := hide h1
    have R1 := hide r1
    have P1 := hide p1
    have B1 := hide b1
    clear h1 r1 p1 b1
    by_cases hlt : k < 6
    · obtain ⟨x0, x1, x2, x3, x4, x5, x6, x7, x8⟩ := OK.out.chan hlt
      have m1 := OK.out.2.1
      have e7 : (bitOf (ch f k 1) 7 == 1) = soOf f k := bit_7 x1.1 x1.2
      have e6 : (bitOf (ch f k 1) 6 == 1) = drOf f k := bit_6 x1.1 x1.2
      have S3 := hide (fun w => set_7 x3.1 x3.2 w)
      clear x1 x3 x4 x5 x6 x7 x8
      by_cases h4 : 4 ≤ k
      ·
        have HN : Hid (nyOf f k = decide (128 ≤ ch f k 3)) := hide (by unfold nyOf; simp [h4])
        obtain ⟨ny, hny⟩ : ∃ q, decide (128 ≤ ch f k 3) = q := ⟨_, rfl⟩
        rw [hny] at HN S3
        clear hny
        have ci := chan_index f k hlt
        have CR := hide (rowF_one (ch f k) 40)
        go_wp2_with (first
          | (refine wpList_alloced rfl 24 rfl (rowF (iv fun _ => 0) 40) zero_C ?_)
          | (refine wpList_store_row rfl 24 (.tmp 5) (.tmp 16) rfl wr.heap.size (rowF (iv (ch f k)) 40) (by simp [Act.eval]) rfl 24 _ (hasF_new _ _ _ _) (info_C _) (by rw [rowF_size, rowF_size]) (rowF_one _ _) ?_; refine under_list fun w2 hw2 => ?_; have C2 : Hid (HasF 24 w2 wr.heap.size 40 (iv (ch f k))) := hide (by rw [hw2]; exact setRow_heap _ _ _ _ _ _ (hasF_new _ _ _ _)); have W2 : Hid (Below wr.heap.size wr w2) := hide (by rw [hw2]; exact below_setRow ((Below.refl _ _).alloc (Nat.le_refl _) _) (Nat.le_refl _) _); have c3 := C2.out.int 3 (by decide); clear hw2)
          | (go_at_call 32; refine (S3.out _).mono ?_; rintro e w' ⟨rfl, hw⟩; subst w'))
        obtain ⟨g5, hg5⟩ : ∃ g, wr.heap.size = g := ⟨_, rfl⟩
        rw [hg5] at C2 ⊢
        have c1 := C2.out.int 1 (by decide)
        have k1 := kept_cell c1 C2.out.lt
        haveI := kept_some w2
        refine wp_region_kept (by kernel_rfl) (by kernel_rfl) ?_
        repeat (go_big_quiet_step ((first
          | (go_at_call 32; exact kept_same (isSet_any _ _ _)))))
        refine wpQuiet_nil ?_
        rintro _ ⟨wk, rfl⟩
        have HC := hide (C2.out.next wk.below)
        have W4 := hide (bnext W2.out wk.below)
        have H4 := hide (H1.out.next W4.out)
        have R4 := hide (R1.out.next W4.out)
        have HP := hide (P1.out.next W4.out)
        have B4 := hide (bnext2 B1.out S0.out W4.out)
        clear C2 W2 k1 c1 c3 H1 R1 P1 B1 W4 hg5
        generalize wk.val = w4 at *
        simp only [e7, e6]
        go_wp2_with fail
        have KB := hide (built_voice f k)
        have KP : Hid (∀ u, Below w4.heap.size w4 u → Calls Tryd.prog 33 #[.pointer (some ⟨g5, 0, none⟩), .bool (nyOf f k)] u fun e w' => e = Ending.returned (.int .i64 (per0 f k)) ∧ w' = u) := hide (fun u hb => chPeriod_any (HC.out.next hb) x0.1 x0.2 (nyOf f k))
        have KG : Hid (∀ u, Below w4.heap.size w4 u → Calls Tryd.prog 34 #[.pointer (some ⟨g5, 0, none⟩), .int .i64 (f 1)] u fun e w' => e = Ending.returned (.agg #[.int .i64 (glOf f k), .int .i64 (grOf f k)]) ∧ Below u.heap.size u w') := hide (fun u hb => chGain_any (HC.out.next hb) ((HL.out.next (by rw [hs0]; exact B4.out)).next hb) (f 1) x2.1 x2.2 m1.1 m1.2)
        obtain ⟨xa, XA⟩ : ∃ x, ch f k 37 = x := ⟨_, rfl⟩
        obtain ⟨mn, MN⟩ : ∃ x, f 1 = x := ⟨_, rfl⟩
        obtain ⟨V, VV⟩ : ∃ V, Value.agg V = .agg (rowF (vFst f k) 48) := ⟨_, rfl⟩
        rw [XA, ← VV] at KB
        rw [MN] at KG
        rw [HN.out] at KB KP
        replace XA := hide XA
        replace MN := hide MN
        replace VV := hide VV
        clear x0 x2 m1 ci S3 e6 e7 CR
        generalize per0 f k = p at *
        generalize glOf f k = gl at *
        generalize grOf f k = gr at *
        rcases hon : soOf f k with _ | _
        ·
          rw [hon] at KB
          clear hon
          generalize drOf f k = dr at *
          refine wp_region_facts_last [_, _, _, _, _, _, _, _, _, _, _, _, _, _, _, _, _, _, _, _, _, _] _ rfl (voR g5 b g3 f k xa p mn gl gr ny dr false V) _ (fun vals => by simp only [putAll, Act.put, List.setIfInBounds_toArray, List.set_cons_succ, List.set_cons_zero, Nat.reduceAdd]; rfl) (by kernel_rfl) (by kernel_rfl) (by kernel_rfl) (by kernel_rfl) voR_next ?_ ?_
          · refine (steps_cons (fun vals u hb hf => ?_) (steps_cons (fun vals u hb hf => ?_) (steps_cons (fun vals u hb hf => ?_) (steps_cons (fun vals u hb hf => ?_) (steps_cons (fun vals u hb hf => ?_) (steps_cons (fun vals u hb hf => ?_) (steps_cons (fun vals u hb hf => ?_) (steps_cons (fun vals u hb hf => ?_) (steps_cons (fun vals u hb hf => ?_) (steps_cons (fun vals u hb hf => ?_) (steps_cons (fun vals u hb hf => ?_) (steps_cons (fun vals u hb hf => ?_) (steps_cons (fun vals u hb hf => ?_) (steps_cons (fun vals u hb hf => ?_) (steps_cons (fun vals u hb hf => ?_) (steps_cons (fun vals u hb hf => ?_) (steps_cons (fun vals u hb hf => ?_) (steps_cons (fun vals u hb hf => ?_) (steps_cons (fun vals u hb hf => ?_) (steps_cons (fun vals u hb hf => ?_) (steps_cons (fun vals u hb hf => ?_) (steps_cons (fun vals u hb hf => ?_) steps_nil))))))))))))))))))))))
            · go_wp2_with fail
              exact stepPost_mk _ rfl rfl (Below.refl _ _)
            · go_wp2_with fail
              exact stepPost_mk _ rfl rfl (Below.refl _ _)
            · obtain ⟨(h1 : vals 1 = .pointer (some ⟨g5, 37, none⟩)), _⟩ := hf
              simp only [h1]
              clear h1
              have ca := (HC.out.next hb).int 37 (by decide)
              rw [XA.out] at ca
              go_wp2_with fail
              exact stepPost_mk _ rfl rfl (Below.refl _ _)
            · go_wp2_with fail
              exact stepPost_mk _ rfl rfl (Below.refl _ _)
            · obtain ⟨(h3 : vals 3 = .bool ny), _⟩ := hf
              simp only [h3]
              clear h3
              go_wp2_with (go_at_call 33; refine (KP.out u hb).mono ?_; rintro e u2 ⟨rfl, hw⟩; subst u2)
              exact stepPost_mk _ rfl rfl (Below.refl _ _)
            · obtain ⟨(h2 : vals 2 = .int .i64 xa), (h4 : vals 4 = .int .i64 p), _⟩ := hf
              simp only [h2, h4]
              clear h2 h4
              go_wp2_with fail
              exact stepPost_mk _ rfl rfl (Below.refl _ _)
            · go_wp2_with (first | (refine wpList_load_row rfl 24 (.tmp 5) rfl g5 rfl _ _ _ _ (HC.out.next hb) Tryd.underlying24 rfl (info_C _) ?_))
              exact stepPost_mk _ rfl rfl (Below.refl _ _)
            · go_wp2_with fail
              exact stepPost_mk _ rfl rfl (Below.refl _ _)
            · go_wp2_with fail
              exact stepPost_mk _ rfl rfl (Below.refl _ _)
            · go_wp2_with fail
              exact stepPost_mk _ rfl rfl (Below.refl _ _)
            · obtain ⟨(h9 : vals 9 = .bool false), (h4 : vals 4 = .int .i64 p), _⟩ := hf
              simp only [h9, h4]
              clear h9 h4
              go_wp2_with fail
              exact stepPost_mk _ rfl rfl (Below.refl _ _)
            · obtain ⟨(h10 : vals 10 = .bool false), _⟩ := hf
              simp only [h10]
              clear h10
              go_wp2_with fail
              exact stepPost_mk _ rfl (fun h => by cases h) (Below.refl _ _)
            · obtain ⟨(h11 : false = true → vals 11 = .bool dr), (h10 : vals 10 = .bool false), _⟩ := hf
              simp only [h10]
              clear h11 h10
              go_wp2_with fail
              exact stepPost_mk _ rfl (fun h => by cases h) (Below.refl _ _)
            · obtain ⟨(h10 : vals 10 = .bool false), (h12 : false = true → vals 12 = .bool (!dr)), _⟩ := hf
              simp only [h10]
              clear h10 h12
              go_wp2_with fail
              exact stepPost_mk _ rfl rfl (Below.refl _ _)
            · go_wp2_with fail
              exact stepPost_mk _ rfl rfl (Below.refl _ _)
            · go_wp2_with fail
              exact stepPost_mk _ rfl rfl (Below.refl _ _)
            · obtain ⟨(h15 : vals 15 = .pointer (some ⟨b, 0, none⟩)), _⟩ := hf
              simp only [h15]
              clear h15
              go_wp2_with fail
              exact stepPost_mk _ rfl rfl (Below.refl _ _)
            · obtain ⟨(h16 : vals 16 = .pointer (some ⟨b, 0, none⟩)), _⟩ := hf
              simp only [h16]
              clear h16
              go_wp2_with fail
              exact stepPost_mk _ rfl rfl (Below.refl _ _)
            · obtain ⟨(h17 : vals 17 = .pointer (some ⟨b, 1, none⟩)), _⟩ := hf
              simp only [h17]
              clear h17
              have cm := (HP.out.next hb).int 1 (by decide)
              rw [MN.out] at cm
              go_wp2_with fail
              exact stepPost_mk _ rfl rfl (Below.refl _ _)
            · obtain ⟨(h18 : vals 18 = .int .i64 mn), (h10 : vals 10 = .bool false), _⟩ := hf
              simp only [h18, h10]
              clear h18 h10
              go_wp2_with (go_at_call 34; refine (KG.out u hb).mono ?_; rintro e u2 ⟨rfl, b2⟩)
              exact stepPost_mk _ rfl rfl b2
            · obtain ⟨(h5 : vals 5 = .agg #[.int .i64 xa, .int .i64 p]), (h6 : vals 6 = .agg (rowF (iv (ch f k)) 40)), (h7 : vals 7 = .bool ny), (h8 : vals 8 = .bool dr), (h13 : vals 13 = .bool (false && !dr)), (h14 : vals 14 = .bool false), (h19 : vals 19 = .agg #[.int .i64 gl, .int .i64 gr]), _⟩ := hf
              simp only [h5, h6, h7, h8, h13, h14, h19]
              clear h5 h6 h7 h8 h13 h14 h19
              go_wp2_with (first | (refine wpList_built rfl 52 _ rfl #[(0, .agg #[.int .i64 xa, .int .i64 p]), (1, .agg (rowF (iv (ch f k)) 40)), (2, .bool ny), (3, .bool dr), (4, .bool (false && !dr)), (5, .bool false), (6, .agg #[.int .i64 gl, .int .i64 gr])] (by simp [Act.eval]) V KB.out ?_))
              exact stepPost_mk _ rfl rfl (Below.refl _ _)
            · obtain ⟨(h0 : vals 0 = .int .i64 (k : Int)), _⟩ := hf
              simp only [h0]
              clear h0
              go_wp2_with fail
              exact stepPost_mk _ rfl rfl (Below.refl _ _)
          intro vals u hb hf
          obtain ⟨_, _, _, _, _, _, _, _, _, _, _, _, _, _, _, _, _, _, _, _, (h20 : vals 20 = .agg V), (h21 : vals 21 = .pointer (some ⟨g3, k * 48, none⟩)), _⟩ := hf
          simp only [h20, h21]
          clear h20 h21
          have H9 := hide (H4.out.next hb)
          have C9 := hide (HC.out.next hb)
          have P9 := hide (HP.out.next hb)
          have B9 := hide (bnext2 B4.out S0.out hb)
          have N9 := hide (R4.out.next hb)
          clear H4 HC HP B4 R4 KP KG hb
          go_wp2_with (first | (refine wpList_store_part rfl 52 (.tmp 51) (.tmp 50) rfl g3 (k * 48) 48 (vFst f k) rfl VV.out H9.out (by omega) info_48 (fun j _ => vFst_one f k j) ?_; refine under_list fun wz hwz => ?_; have HZ : Hid (HasF 53 wz g3 288 (vPart f (k + 1))) := hide (by rw [hwz]; exact (H9.out.cells (k * 48) 48 (vFst f k)).ext (vPart_next f k)); have BZ : Hid (But g3 u wz) := hide (by rw [hwz]; exact But.cells _ _ _ (But.refl _ _)); clear hwz))
          exact ⟨⟨k + 1, by omega, by go_num, HZ.out, BZ.out.keep N9.out NE.out, BZ.out.keep P9.out NP.out, bbut B9.out BZ.out LE.out S0.out⟩, by simp [intOf]; omega⟩
        ·
          rw [hon] at KB
          clear hon
          generalize drOf f k = dr at *
          refine wp_region_facts_last [_, _, _, _, _, _, _, _, _, _, _, _, _, _, _, _, _, _, _, _, _, _] _ rfl (voR g5 b g3 f k xa p mn gl gr ny dr true V) _ (fun vals => by simp only [putAll, Act.put, List.setIfInBounds_toArray, List.set_cons_succ, List.set_cons_zero, Nat.reduceAdd]; rfl) (by kernel_rfl) (by kernel_rfl) (by kernel_rfl) (by kernel_rfl) voR_next ?_ ?_
          · refine (steps_cons (fun vals u hb hf => ?_) (steps_cons (fun vals u hb hf => ?_) (steps_cons (fun vals u hb hf => ?_) (steps_cons (fun vals u hb hf => ?_) (steps_cons (fun vals u hb hf => ?_) (steps_cons (fun vals u hb hf => ?_) (steps_cons (fun vals u hb hf => ?_) (steps_cons (fun vals u hb hf => ?_) (steps_cons (fun vals u hb hf => ?_) (steps_cons (fun vals u hb hf => ?_) (steps_cons (fun vals u hb hf => ?_) (steps_cons (fun vals u hb hf => ?_) (steps_cons (fun vals u hb hf => ?_) (steps_cons (fun vals u hb hf => ?_) (steps_cons (fun vals u hb hf => ?_) (steps_cons (fun vals u hb hf => ?_) (steps_cons (fun vals u hb hf => ?_) (steps_cons (fun vals u hb hf => ?_) (steps_cons (fun vals u hb hf => ?_) (steps_cons (fun vals u hb hf => ?_) (steps_cons (fun vals u hb hf => ?_) (steps_cons (fun vals u hb hf => ?_) steps_nil))))))))))))))))))))))
            · go_wp2_with fail
              exact stepPost_mk _ rfl rfl (Below.refl _ _)
            · go_wp2_with fail
              exact stepPost_mk _ rfl rfl (Below.refl _ _)
            · obtain ⟨(h1 : vals 1 = .pointer (some ⟨g5, 37, none⟩)), _⟩ := hf
              simp only [h1]
              clear h1
              have ca := (HC.out.next hb).int 37 (by decide)
              rw [XA.out] at ca
              go_wp2_with fail
              exact stepPost_mk _ rfl rfl (Below.refl _ _)
            · go_wp2_with fail
              exact stepPost_mk _ rfl rfl (Below.refl _ _)
            · obtain ⟨(h3 : vals 3 = .bool ny), _⟩ := hf
              simp only [h3]
              clear h3
              go_wp2_with (go_at_call 33; refine (KP.out u hb).mono ?_; rintro e u2 ⟨rfl, hw⟩; subst u2)
              exact stepPost_mk _ rfl rfl (Below.refl _ _)
            · obtain ⟨(h2 : vals 2 = .int .i64 xa), (h4 : vals 4 = .int .i64 p), _⟩ := hf
              simp only [h2, h4]
              clear h2 h4
              go_wp2_with fail
              exact stepPost_mk _ rfl rfl (Below.refl _ _)
            · go_wp2_with (first | (refine wpList_load_row rfl 24 (.tmp 5) rfl g5 rfl _ _ _ _ (HC.out.next hb) Tryd.underlying24 rfl (info_C _) ?_))
              exact stepPost_mk _ rfl rfl (Below.refl _ _)
            · go_wp2_with fail
              exact stepPost_mk _ rfl rfl (Below.refl _ _)
            · go_wp2_with fail
              exact stepPost_mk _ rfl rfl (Below.refl _ _)
            · go_wp2_with fail
              exact stepPost_mk _ rfl rfl (Below.refl _ _)
            · obtain ⟨(h9 : vals 9 = .bool true), (h4 : vals 4 = .int .i64 p), _⟩ := hf
              simp only [h9, h4]
              clear h9 h4
              go_wp2_with fail
              exact stepPost_mk _ rfl rfl (Below.refl _ _)
            · obtain ⟨(h10 : vals 10 = .bool true), _⟩ := hf
              simp only [h10]
              clear h10
              go_wp2_with fail
              exact stepPost_mk _ rfl (fun _ => rfl) (Below.refl _ _)
            · obtain ⟨(h11 : true = true → vals 11 = .bool dr), (h10 : vals 10 = .bool true), _⟩ := hf
              replace h11 := h11 rfl
              simp only [h11, h10]
              clear h11 h10
              go_wp2_with fail
              exact stepPost_mk _ rfl (fun _ => rfl) (Below.refl _ _)
            · obtain ⟨(h10 : vals 10 = .bool true), (h12 : true = true → vals 12 = .bool (!dr)), _⟩ := hf
              replace h12 := h12 rfl
              simp only [h10, h12]
              clear h10 h12
              go_wp2_with fail
              exact stepPost_mk _ rfl rfl (Below.refl _ _)
            · go_wp2_with fail
              exact stepPost_mk _ rfl rfl (Below.refl _ _)
            · go_wp2_with fail
              exact stepPost_mk _ rfl rfl (Below.refl _ _)
            · obtain ⟨(h15 : vals 15 = .pointer (some ⟨b, 0, none⟩)), _⟩ := hf
              simp only [h15]
              clear h15
              go_wp2_with fail
              exact stepPost_mk _ rfl rfl (Below.refl _ _)
            · obtain ⟨(h16 : vals 16 = .pointer (some ⟨b, 0, none⟩)), _⟩ := hf
              simp only [h16]
              clear h16
              go_wp2_with fail
              exact stepPost_mk _ rfl rfl (Below.refl _ _)
            · obtain ⟨(h17 : vals 17 = .pointer (some ⟨b, 1, none⟩)), _⟩ := hf
              simp only [h17]
              clear h17
              have cm := (HP.out.next hb).int 1 (by decide)
              rw [MN.out] at cm
              go_wp2_with fail
              exact stepPost_mk _ rfl rfl (Below.refl _ _)
            · obtain ⟨(h18 : vals 18 = .int .i64 mn), (h10 : vals 10 = .bool true), _⟩ := hf
              simp only [h18, h10]
              clear h18 h10
              go_wp2_with (go_at_call 34; refine (KG.out u hb).mono ?_; rintro e u2 ⟨rfl, b2⟩)
              exact stepPost_mk _ rfl rfl b2
            · obtain ⟨(h5 : vals 5 = .agg #[.int .i64 xa, .int .i64 p]), (h6 : vals 6 = .agg (rowF (iv (ch f k)) 40)), (h7 : vals 7 = .bool ny), (h8 : vals 8 = .bool dr), (h13 : vals 13 = .bool (true && !dr)), (h14 : vals 14 = .bool true), (h19 : vals 19 = .agg #[.int .i64 gl, .int .i64 gr]), _⟩ := hf
              simp only [h5, h6, h7, h8, h13, h14, h19]
              clear h5 h6 h7 h8 h13 h14 h19
              go_wp2_with (first | (refine wpList_built rfl 52 _ rfl #[(0, .agg #[.int .i64 xa, .int .i64 p]), (1, .agg (rowF (iv (ch f k)) 40)), (2, .bool ny), (3, .bool dr), (4, .bool (true && !dr)), (5, .bool true), (6, .agg #[.int .i64 gl, .int .i64 gr])] (by simp [Act.eval]) V KB.out ?_))
              exact stepPost_mk _ rfl rfl (Below.refl _ _)
            · obtain ⟨(h0 : vals 0 = .int .i64 (k : Int)), _⟩ := hf
              simp only [h0]
              clear h0
              go_wp2_with fail
              exact stepPost_mk _ rfl rfl (Below.refl _ _)
          intro vals u hb hf
          obtain ⟨_, _, _, _, _, _, _, _, _, _, _, _, _, _, _, _, _, _, _, _, (h20 : vals 20 = .agg V), (h21 : vals 21 = .pointer (some ⟨g3, k * 48, none⟩)), _⟩ := hf
          simp only [h20, h21]
          clear h20 h21
          have H9 := hide (H4.out.next hb)
          have C9 := hide (HC.out.next hb)
          have P9 := hide (HP.out.next hb)
          have B9 := hide (bnext2 B4.out S0.out hb)
          have N9 := hide (R4.out.next hb)
          clear H4 HC HP B4 R4 KP KG hb
          go_wp2_with (first | (refine wpList_store_part rfl 52 (.tmp 51) (.tmp 50) rfl g3 (k * 48) 48 (vFst f k) rfl VV.out H9.out (by omega) info_48 (fun j _ => vFst_one f k j) ?_; refine under_list fun wz hwz => ?_; have HZ : Hid (HasF 53 wz g3 288 (vPart f (k + 1))) := hide (by rw [hwz]; exact (H9.out.cells (k * 48) 48 (vFst f k)).ext (vPart_next f k)); have BZ : Hid (But g3 u wz) := hide (by rw [hwz]; exact But.cells _ _ _ (But.refl _ _)); clear hwz))
          exact ⟨⟨k + 1, by omega, by go_num, HZ.out, BZ.out.keep N9.out NE.out, BZ.out.keep P9.out NP.out, bbut B9.out BZ.out LE.out S0.out⟩, by simp [intOf]; omega⟩
      ·
        have HN : Hid (nyOf f k = false) := hide (by unfold nyOf; simp [h4])
        have ci := chan_index f k hlt
        have CR := hide (rowF_one (ch f k) 40)
        go_wp2_with (first
          | (refine wpList_alloced rfl 24 rfl (rowF (iv fun _ => 0) 40) zero_C ?_)
          | (refine wpList_store_row rfl 24 (.tmp 5) (.tmp 16) rfl wr.heap.size (rowF (iv (ch f k)) 40) (by simp [Act.eval]) rfl 24 _ (hasF_new _ _ _ _) (info_C _) (by rw [rowF_size, rowF_size]) (rowF_one _ _) ?_; refine under_list fun w2 hw2 => ?_; have C2 : Hid (HasF 24 w2 wr.heap.size 40 (iv (ch f k))) := hide (by rw [hw2]; exact setRow_heap _ _ _ _ _ _ (hasF_new _ _ _ _)); have W2 : Hid (Below wr.heap.size wr w2) := hide (by rw [hw2]; exact below_setRow ((Below.refl _ _).alloc (Nat.le_refl _) _) (Nat.le_refl _) _); have c3 := C2.out.int 3 (by decide); clear hw2)
          | (go_at_call 32; refine (S3.out _).mono ?_; rintro e w' ⟨rfl, hw⟩; subst w'))
        obtain ⟨g5, hg5⟩ : ∃ g, wr.heap.size = g := ⟨_, rfl⟩
        rw [hg5] at C2 ⊢
        have c1 := C2.out.int 1 (by decide)
        have k1 := kept_cell c1 C2.out.lt
        haveI := kept_some w2
        refine wp_region_kept (by kernel_rfl) (by kernel_rfl) ?_
        repeat (go_big_quiet_step ((first
          | (go_at_call 32; exact kept_same (isSet_any _ _ _)))))
        refine wpQuiet_nil ?_
        rintro _ ⟨wk, rfl⟩
        have HC := hide (C2.out.next wk.below)
        have W4 := hide (bnext W2.out wk.below)
        have H4 := hide (H1.out.next W4.out)
        have R4 := hide (R1.out.next W4.out)
        have HP := hide (P1.out.next W4.out)
        have B4 := hide (bnext2 B1.out S0.out W4.out)
        clear C2 W2 k1 c1 c3 H1 R1 P1 B1 W4 hg5
        generalize wk.val = w4 at *
        simp only [e7, e6]
        go_wp2_with fail
        have KB := hide (built_voice f k)
        have KP : Hid (∀ u, Below w4.heap.size w4 u → Calls Tryd.prog 33 #[.pointer (some ⟨g5, 0, none⟩), .bool (nyOf f k)] u fun e w' => e = Ending.returned (.int .i64 (per0 f k)) ∧ w' = u) := hide (fun u hb => chPeriod_any (HC.out.next hb) x0.1 x0.2 (nyOf f k))
        have KG : Hid (∀ u, Below w4.heap.size w4 u → Calls Tryd.prog 34 #[.pointer (some ⟨g5, 0, none⟩), .int .i64 (f 1)] u fun e w' => e = Ending.returned (.agg #[.int .i64 (glOf f k), .int .i64 (grOf f k)]) ∧ Below u.heap.size u w') := hide (fun u hb => chGain_any (HC.out.next hb) ((HL.out.next (by rw [hs0]; exact B4.out)).next hb) (f 1) x2.1 x2.2 m1.1 m1.2)
        obtain ⟨xa, XA⟩ : ∃ x, ch f k 37 = x := ⟨_, rfl⟩
        obtain ⟨mn, MN⟩ : ∃ x, f 1 = x := ⟨_, rfl⟩
        obtain ⟨V, VV⟩ : ∃ V, Value.agg V = .agg (rowF (vFst f k) 48) := ⟨_, rfl⟩
        rw [XA, ← VV] at KB
        rw [MN] at KG
        rw [HN.out] at KB KP
        replace XA := hide XA
        replace MN := hide MN
        replace VV := hide VV
        clear x0 x2 m1 ci S3 e6 e7 CR
        generalize per0 f k = p at *
        generalize glOf f k = gl at *
        generalize grOf f k = gr at *
        rcases hon : soOf f k with _ | _
        ·
          rw [hon] at KB
          clear hon
          generalize drOf f k = dr at *
          refine wp_region_facts_last [_, _, _, _, _, _, _, _, _, _, _, _, _, _, _, _, _, _, _, _, _, _] _ rfl (voR g5 b g3 f k xa p mn gl gr false dr false V) _ (fun vals => by simp only [putAll, Act.put, List.setIfInBounds_toArray, List.set_cons_succ, List.set_cons_zero, Nat.reduceAdd]; rfl) (by kernel_rfl) (by kernel_rfl) (by kernel_rfl) (by kernel_rfl) voR_next ?_ ?_
          · refine (steps_cons (fun vals u hb hf => ?_) (steps_cons (fun vals u hb hf => ?_) (steps_cons (fun vals u hb hf => ?_) (steps_cons (fun vals u hb hf => ?_) (steps_cons (fun vals u hb hf => ?_) (steps_cons (fun vals u hb hf => ?_) (steps_cons (fun vals u hb hf => ?_) (steps_cons (fun vals u hb hf => ?_) (steps_cons (fun vals u hb hf => ?_) (steps_cons (fun vals u hb hf => ?_) (steps_cons (fun vals u hb hf => ?_) (steps_cons (fun vals u hb hf => ?_) (steps_cons (fun vals u hb hf => ?_) (steps_cons (fun vals u hb hf => ?_) (steps_cons (fun vals u hb hf => ?_) (steps_cons (fun vals u hb hf => ?_) (steps_cons (fun vals u hb hf => ?_) (steps_cons (fun vals u hb hf => ?_) (steps_cons (fun vals u hb hf => ?_) (steps_cons (fun vals u hb hf => ?_) (steps_cons (fun vals u hb hf => ?_) (steps_cons (fun vals u hb hf => ?_) steps_nil))))))))))))))))))))))
            · go_wp2_with fail
              exact stepPost_mk _ rfl rfl (Below.refl _ _)
            · go_wp2_with fail
              exact stepPost_mk _ rfl rfl (Below.refl _ _)
            · obtain ⟨(h1 : vals 1 = .pointer (some ⟨g5, 37, none⟩)), _⟩ := hf
              simp only [h1]
              clear h1
              have ca := (HC.out.next hb).int 37 (by decide)
              rw [XA.out] at ca
              go_wp2_with fail
              exact stepPost_mk _ rfl rfl (Below.refl _ _)
            · go_wp2_with fail
              exact stepPost_mk _ rfl rfl (Below.refl _ _)
            · obtain ⟨(h3 : vals 3 = .bool false), _⟩ := hf
              simp only [h3]
              clear h3
              go_wp2_with (go_at_call 33; refine (KP.out u hb).mono ?_; rintro e u2 ⟨rfl, hw⟩; subst u2)
              exact stepPost_mk _ rfl rfl (Below.refl _ _)
            · obtain ⟨(h2 : vals 2 = .int .i64 xa), (h4 : vals 4 = .int .i64 p), _⟩ := hf
              simp only [h2, h4]
              clear h2 h4
              go_wp2_with fail
              exact stepPost_mk _ rfl rfl (Below.refl _ _)
            · go_wp2_with (first | (refine wpList_load_row rfl 24 (.tmp 5) rfl g5 rfl _ _ _ _ (HC.out.next hb) Tryd.underlying24 rfl (info_C _) ?_))
              exact stepPost_mk _ rfl rfl (Below.refl _ _)
            · go_wp2_with fail
              exact stepPost_mk _ rfl rfl (Below.refl _ _)
            · go_wp2_with fail
              exact stepPost_mk _ rfl rfl (Below.refl _ _)
            · go_wp2_with fail
              exact stepPost_mk _ rfl rfl (Below.refl _ _)
            · obtain ⟨(h9 : vals 9 = .bool false), (h4 : vals 4 = .int .i64 p), _⟩ := hf
              simp only [h9, h4]
              clear h9 h4
              go_wp2_with fail
              exact stepPost_mk _ rfl rfl (Below.refl _ _)
            · obtain ⟨(h10 : vals 10 = .bool false), _⟩ := hf
              simp only [h10]
              clear h10
              go_wp2_with fail
              exact stepPost_mk _ rfl (fun h => by cases h) (Below.refl _ _)
            · obtain ⟨(h11 : false = true → vals 11 = .bool dr), (h10 : vals 10 = .bool false), _⟩ := hf
              simp only [h10]
              clear h11 h10
              go_wp2_with fail
              exact stepPost_mk _ rfl (fun h => by cases h) (Below.refl _ _)
            · obtain ⟨(h10 : vals 10 = .bool false), (h12 : false = true → vals 12 = .bool (!dr)), _⟩ := hf
              simp only [h10]
              clear h10 h12
              go_wp2_with fail
              exact stepPost_mk _ rfl rfl (Below.refl _ _)
            · go_wp2_with fail
              exact stepPost_mk _ rfl rfl (Below.refl _ _)
            · go_wp2_with fail
              exact stepPost_mk _ rfl rfl (Below.refl _ _)
            · obtain ⟨(h15 : vals 15 = .pointer (some ⟨b, 0, none⟩)), _⟩ := hf
              simp only [h15]
              clear h15
              go_wp2_with fail
              exact stepPost_mk _ rfl rfl (Below.refl _ _)
            · obtain ⟨(h16 : vals 16 = .pointer (some ⟨b, 0, none⟩)), _⟩ := hf
              simp only [h16]
              clear h16
              go_wp2_with fail
              exact stepPost_mk _ rfl rfl (Below.refl _ _)
            · obtain ⟨(h17 : vals 17 = .pointer (some ⟨b, 1, none⟩)), _⟩ := hf
              simp only [h17]
              clear h17
              have cm := (HP.out.next hb).int 1 (by decide)
              rw [MN.out] at cm
              go_wp2_with fail
              exact stepPost_mk _ rfl rfl (Below.refl _ _)
            · obtain ⟨(h18 : vals 18 = .int .i64 mn), (h10 : vals 10 = .bool false), _⟩ := hf
              simp only [h18, h10]
              clear h18 h10
              go_wp2_with (go_at_call 34; refine (KG.out u hb).mono ?_; rintro e u2 ⟨rfl, b2⟩)
              exact stepPost_mk _ rfl rfl b2
            · obtain ⟨(h5 : vals 5 = .agg #[.int .i64 xa, .int .i64 p]), (h6 : vals 6 = .agg (rowF (iv (ch f k)) 40)), (h7 : vals 7 = .bool false), (h8 : vals 8 = .bool dr), (h13 : vals 13 = .bool (false && !dr)), (h14 : vals 14 = .bool false), (h19 : vals 19 = .agg #[.int .i64 gl, .int .i64 gr]), _⟩ := hf
              simp only [h5, h6, h7, h8, h13, h14, h19]
              clear h5 h6 h7 h8 h13 h14 h19
              go_wp2_with (first | (refine wpList_built rfl 52 _ rfl #[(0, .agg #[.int .i64 xa, .int .i64 p]), (1, .agg (rowF (iv (ch f k)) 40)), (2, .bool false), (3, .bool dr), (4, .bool (false && !dr)), (5, .bool false), (6, .agg #[.int .i64 gl, .int .i64 gr])] (by simp [Act.eval]) V KB.out ?_))
              exact stepPost_mk _ rfl rfl (Below.refl _ _)
            · obtain ⟨(h0 : vals 0 = .int .i64 (k : Int)), _⟩ := hf
              simp only [h0]
              clear h0
              go_wp2_with fail
              exact stepPost_mk _ rfl rfl (Below.refl _ _)
          intro vals u hb hf
          obtain ⟨_, _, _, _, _, _, _, _, _, _, _, _, _, _, _, _, _, _, _, _, (h20 : vals 20 = .agg V), (h21 : vals 21 = .pointer (some ⟨g3, k * 48, none⟩)), _⟩ := hf
          simp only [h20, h21]
          clear h20 h21
          have H9 := hide (H4.out.next hb)
          have C9 := hide (HC.out.next hb)
          have P9 := hide (HP.out.next hb)
          have B9 := hide (bnext2 B4.out S0.out hb)
          have N9 := hide (R4.out.next hb)
          clear H4 HC HP B4 R4 KP KG hb
          go_wp2_with (first | (refine wpList_store_part rfl 52 (.tmp 51) (.tmp 50) rfl g3 (k * 48) 48 (vFst f k) rfl VV.out H9.out (by omega) info_48 (fun j _ => vFst_one f k j) ?_; refine under_list fun wz hwz => ?_; have HZ : Hid (HasF 53 wz g3 288 (vPart f (k + 1))) := hide (by rw [hwz]; exact (H9.out.cells (k * 48) 48 (vFst f k)).ext (vPart_next f k)); have BZ : Hid (But g3 u wz) := hide (by rw [hwz]; exact But.cells _ _ _ (But.refl _ _)); clear hwz))
          exact ⟨⟨k + 1, by omega, by go_num, HZ.out, BZ.out.keep N9.out NE.out, BZ.out.keep P9.out NP.out, bbut B9.out BZ.out LE.out S0.out⟩, by simp [intOf]; omega⟩
        ·
          rw [hon] at KB
          clear hon
          generalize drOf f k = dr at *
          refine wp_region_facts_last [_, _, _, _, _, _, _, _, _, _, _, _, _, _, _, _, _, _, _, _, _, _] _ rfl (voR g5 b g3 f k xa p mn gl gr false dr true V) _ (fun vals => by simp only [putAll, Act.put, List.setIfInBounds_toArray, List.set_cons_succ, List.set_cons_zero, Nat.reduceAdd]; rfl) (by kernel_rfl) (by kernel_rfl) (by kernel_rfl) (by kernel_rfl) voR_next ?_ ?_
          · refine (steps_cons (fun vals u hb hf => ?_) (steps_cons (fun vals u hb hf => ?_) (steps_cons (fun vals u hb hf => ?_) (steps_cons (fun vals u hb hf => ?_) (steps_cons (fun vals u hb hf => ?_) (steps_cons (fun vals u hb hf => ?_) (steps_cons (fun vals u hb hf => ?_) (steps_cons (fun vals u hb hf => ?_) (steps_cons (fun vals u hb hf => ?_) (steps_cons (fun vals u hb hf => ?_) (steps_cons (fun vals u hb hf => ?_) (steps_cons (fun vals u hb hf => ?_) (steps_cons (fun vals u hb hf => ?_) (steps_cons (fun vals u hb hf => ?_) (steps_cons (fun vals u hb hf => ?_) (steps_cons (fun vals u hb hf => ?_) (steps_cons (fun vals u hb hf => ?_) (steps_cons (fun vals u hb hf => ?_) (steps_cons (fun vals u hb hf => ?_) (steps_cons (fun vals u hb hf => ?_) (steps_cons (fun vals u hb hf => ?_) (steps_cons (fun vals u hb hf => ?_) steps_nil))))))))))))))))))))))
            · go_wp2_with fail
              exact stepPost_mk _ rfl rfl (Below.refl _ _)
            · go_wp2_with fail
              exact stepPost_mk _ rfl rfl (Below.refl _ _)
            · obtain ⟨(h1 : vals 1 = .pointer (some ⟨g5, 37, none⟩)), _⟩ := hf
              simp only [h1]
              clear h1
              have ca := (HC.out.next hb).int 37 (by decide)
              rw [XA.out] at ca
              go_wp2_with fail
              exact stepPost_mk _ rfl rfl (Below.refl _ _)
            · go_wp2_with fail
              exact stepPost_mk _ rfl rfl (Below.refl _ _)
            · obtain ⟨(h3 : vals 3 = .bool false), _⟩ := hf
              simp only [h3]
              clear h3
              go_wp2_with (go_at_call 33; refine (KP.out u hb).mono ?_; rintro e u2 ⟨rfl, hw⟩; subst u2)
              exact stepPost_mk _ rfl rfl (Below.refl _ _)
            · obtain ⟨(h2 : vals 2 = .int .i64 xa), (h4 : vals 4 = .int .i64 p), _⟩ := hf
              simp only [h2, h4]
              clear h2 h4
              go_wp2_with fail
              exact stepPost_mk _ rfl rfl (Below.refl _ _)
            · go_wp2_with (first | (refine wpList_load_row rfl 24 (.tmp 5) rfl g5 rfl _ _ _ _ (HC.out.next hb) Tryd.underlying24 rfl (info_C _) ?_))
              exact stepPost_mk _ rfl rfl (Below.refl _ _)
            · go_wp2_with fail
              exact stepPost_mk _ rfl rfl (Below.refl _ _)
            · go_wp2_with fail
              exact stepPost_mk _ rfl rfl (Below.refl _ _)
            · go_wp2_with fail
              exact stepPost_mk _ rfl rfl (Below.refl _ _)
            · obtain ⟨(h9 : vals 9 = .bool true), (h4 : vals 4 = .int .i64 p), _⟩ := hf
              simp only [h9, h4]
              clear h9 h4
              go_wp2_with fail
              exact stepPost_mk _ rfl rfl (Below.refl _ _)
            · obtain ⟨(h10 : vals 10 = .bool true), _⟩ := hf
              simp only [h10]
              clear h10
              go_wp2_with fail
              exact stepPost_mk _ rfl (fun _ => rfl) (Below.refl _ _)
            · obtain ⟨(h11 : true = true → vals 11 = .bool dr), (h10 : vals 10 = .bool true), _⟩ := hf
              replace h11 := h11 rfl
              simp only [h11, h10]
              clear h11 h10
              go_wp2_with fail
              exact stepPost_mk _ rfl (fun _ => rfl) (Below.refl _ _)
            · obtain ⟨(h10 : vals 10 = .bool true), (h12 : true = true → vals 12 = .bool (!dr)), _⟩ := hf
              replace h12 := h12 rfl
              simp only [h10, h12]
              clear h10 h12
              go_wp2_with fail
              exact stepPost_mk _ rfl rfl (Below.refl _ _)
            · go_wp2_with fail
              exact stepPost_mk _ rfl rfl (Below.refl _ _)
            · go_wp2_with fail
              exact stepPost_mk _ rfl rfl (Below.refl _ _)
            · obtain ⟨(h15 : vals 15 = .pointer (some ⟨b, 0, none⟩)), _⟩ := hf
              simp only [h15]
              clear h15
              go_wp2_with fail
              exact stepPost_mk _ rfl rfl (Below.refl _ _)
            · obtain ⟨(h16 : vals 16 = .pointer (some ⟨b, 0, none⟩)), _⟩ := hf
              simp only [h16]
              clear h16
              go_wp2_with fail
              exact stepPost_mk _ rfl rfl (Below.refl _ _)
            · obtain ⟨(h17 : vals 17 = .pointer (some ⟨b, 1, none⟩)), _⟩ := hf
              simp only [h17]
              clear h17
              have cm := (HP.out.next hb).int 1 (by decide)
              rw [MN.out] at cm
              go_wp2_with fail
              exact stepPost_mk _ rfl rfl (Below.refl _ _)
            · obtain ⟨(h18 : vals 18 = .int .i64 mn), (h10 : vals 10 = .bool true), _⟩ := hf
              simp only [h18, h10]
              clear h18 h10
              go_wp2_with (go_at_call 34; refine (KG.out u hb).mono ?_; rintro e u2 ⟨rfl, b2⟩)
              exact stepPost_mk _ rfl rfl b2
            · obtain ⟨(h5 : vals 5 = .agg #[.int .i64 xa, .int .i64 p]), (h6 : vals 6 = .agg (rowF (iv (ch f k)) 40)), (h7 : vals 7 = .bool false), (h8 : vals 8 = .bool dr), (h13 : vals 13 = .bool (true && !dr)), (h14 : vals 14 = .bool true), (h19 : vals 19 = .agg #[.int .i64 gl, .int .i64 gr]), _⟩ := hf
              simp only [h5, h6, h7, h8, h13, h14, h19]
              clear h5 h6 h7 h8 h13 h14 h19
              go_wp2_with (first | (refine wpList_built rfl 52 _ rfl #[(0, .agg #[.int .i64 xa, .int .i64 p]), (1, .agg (rowF (iv (ch f k)) 40)), (2, .bool false), (3, .bool dr), (4, .bool (true && !dr)), (5, .bool true), (6, .agg #[.int .i64 gl, .int .i64 gr])] (by simp [Act.eval]) V KB.out ?_))
              exact stepPost_mk _ rfl rfl (Below.refl _ _)
            · obtain ⟨(h0 : vals 0 = .int .i64 (k : Int)), _⟩ := hf
              simp only [h0]
              clear h0
              go_wp2_with fail
              exact stepPost_mk _ rfl rfl (Below.refl _ _)
          intro vals u hb hf
          obtain ⟨_, _, _, _, _, _, _, _, _, _, _, _, _, _, _, _, _, _, _, _, (h20 : vals 20 = .agg V), (h21 : vals 21 = .pointer (some ⟨g3, k * 48, none⟩)), _⟩ := hf
          simp only [h20, h21]
          clear h20 h21
          have H9 := hide (H4.out.next hb)
          have C9 := hide (HC.out.next hb)
          have P9 := hide (HP.out.next hb)
          have B9 := hide (bnext2 B4.out S0.out hb)
          have N9 := hide (R4.out.next hb)
          clear H4 HC HP B4 R4 KP KG hb
          go_wp2_with (first | (refine wpList_store_part rfl 52 (.tmp 51) (.tmp 50) rfl g3 (k * 48) 48 (vFst f k) rfl VV.out H9.out (by omega) info_48 (fun j _ => vFst_one f k j) ?_; refine under_list fun wz hwz => ?_; have HZ : Hid (HasF 53 wz g3 288 (vPart f (k + 1))) := hide (by rw [hwz]; exact (H9.out.cells (k * 48) 48 (vFst f k)).ext (vPart_next f k)); have BZ : Hid (But g3 u wz) := hide (by rw [hwz]; exact But.cells _ _ _ (But.refl _ _)); clear hwz))
          exact ⟨⟨k + 1, by omega, by go_num, HZ.out, BZ.out.keep N9.out NE.out, BZ.out.keep P9.out NP.out, bbut B9.out BZ.out LE.out S0.out⟩, by simp [intOf]; omega⟩
    · obtain rfl : k = 6 := by omega
      have KL := hide (fun (u : World) (hu : HasF 27 u b 244 (iv f)) => lfo_any hu OK.out)
      by_cases h0 : lfoOf f = 0
      · have EQ := hide (rowF_ext (last_0 h0))
        have PE := hide (pers_0 h0)
        rw [h0] at KL
        rw [HasF, EQ.out] at H1
        have ZI := hide (info_V (vrow f (accs f) (per0 f)))
        have ZO := hide (rowF_all (N := 288) fun j _ => vAt_one f (accs f) (per0 f) (j / 48) (j % 48))
        have ZS : Hid ((rowF zV 288).size = (rowF (vrow f (accs f) (per0 f)) 288).size) := hide (by rw [rowF_size, rowF_size])
        clear h0
        have HZ := hide (show rowF (vrow f (accs f) (per0 f)) 288 = rowF (vrow f (accs f) (per0 f)) 288 from rfl)
        change Hid ((rowF (vrow f (accs f) (per0 f)) 288).all (·.oneCell') = true) at ZO
        obtain ⟨Z, hZ⟩ : ∃ Z, Z = rowF (vrow f (accs f) (per0 f)) 288 := ⟨_, rfl⟩
        rw [← hZ] at H1 ZI ZO ZS
        replace hZ := hide hZ
        clear EQ HZ
        set_option maxRecDepth 20000 in
        go_wp2_with (first
          | (go_at_call 17; refine (KL.out _ P1.out).mono ?_; rintro e w' ⟨rfl, hw⟩; subst w')
          | (refine wpList_load_row rfl 53 (.tmp 3) rfl g3 rfl _ _ _ _ H1.out Tryd.underlying53 rfl ZI.out ?_)
          | (refine wpList_store_row rfl 53 (.tmp 2) (.tmp 71) rfl s0 _ rfl rfl 53 _ R1.out ZI.out ZS.out ZO.out ?_))
        refine bodyPost_ret (results_cell_row rfl _ _ s0 53 _ (0, 0) _ rfl (setRow_heap _ _ _ _ _ _ R1.out) Tryd.underlying53 rfl ZI.out) rfl ?_
        exact ⟨per0 f, PE.out, by rw [hZ.out], by rw [hs0]; exact below_setRow B1.out (Nat.le_refl _) _⟩
      · have hl := lfoOf_in OK.out
        have PE := hide (pers_1 h0)
        have a1 := per0_1 f
        have x0 := (OK.out.chan (k := 1) (by decide)).1
        have q1 : 0 < orL (ch f 1 0) 4096 ∧ orL (ch f 1 0) 4096 ≤ 4096 := orL_in (by omega)
        have q2 : 0 < orL (f 2) 256 ∧ orL (f 2) 256 ≤ 256 := orL_in (by have := OK.out.2.2.1; omega)
        have y1 : 0 < per0 f 1 ∧ per0 f 1 ≤ 24576 := by omega
        have y2 : 0 < per0 f 1 * orL (f 2) 256 := Int.mul_pos y1.1 q2.1
        have y3 : per0 f 1 * orL (f 2) 256 ≤ 24576 * 256 := Int.mul_le_mul y1.2 q2.2 (by omega) (by omega)
        have w6 : IntKind.i64.wrap (per0 f 1 * orL (f 2) 256) = per0 f 1 * orL (f 2) 256 := i64_small _ (by omega) (by omega)
        have KO := hide (fun w => orLongest_any (f 2) 256 w)
        have C49 : wr.cell? ⟨g3, 49, none⟩ = some (.int .i64 (per0 f 1)) := (H1.out.at 49 (by decide)).trans (by rw [vPart_at f 1 1 (by decide) (by decide)]; rfl)
        have C2 : wr.cell? ⟨b, 2, none⟩ = some (.int .i64 (f 2)) := P1.out.int 2 (by decide)
        have LZ := hide (fun v => last_1 h0 v)
        clear a1 x0 q1 y1 y2 y3
        generalize hp1 : per0 f 1 = x1 at *
        generalize hq2 : orL (f 2) 256 = x2 at *
        set_option maxRecDepth 20000 in
        go_wp2_with (first
          | (go_at_call 17; refine (KL.out _ P1.out).mono ?_; rintro e w' ⟨rfl, hw⟩; subst w'))
        have k1 := kept_cell C49 H1.out.lt
        have k2 := kept_cell C2 P1.out.lt
        haveI := kept_some wr
        refine wp_region_kept_shut _ _ (show _ = [_, _, _, _, _, _, _, _, _, _, _, _, _] ++ [_] from rfl) (by kernel_rfl) (by kernel_rfl) (by kernel_rfl) ?_
        repeat (go_big_quiet_step ((first
          | (go_at_call 35; exact kept_same (KO.out _)))))
        refine wpQuiet_nil ?_
        rintro _ ⟨wk, rfl⟩
        have H2 := hide (H1.out.next wk.below)
        have R2 := hide (R1.out.next wk.below)
        have B2 := hide (bnext2 B1.out S0.out wk.below)
        have f49 := H2.out.frozen 49
        have f93 := H2.out.frozen 93
        have c49 := H2.out.at 49 (by decide)
        have c93 := H2.out.at 93 (by decide)
        clear k1 k2 H1 R1 B1 KO KL C49 C2
        generalize wk.val = w4 at *
        have NE2 := hide NE.out
        set_option maxRecDepth 20000 in
        go_wp2_with (first
          | (refine under_list fun w5 hw5 => ?_
             have H5 : Hid (HasF 53 w5 g3 288 (vrow f (accs f) (upN (per0 f) 1 (x1 * x2)))) := hide (by rw [hw5]; exact ((H2.out.set 49 _).set 93 _).ext (LZ.out _))
             have R5 : Hid (HasF 53 w5 s0 288 zV) := hide (by rw [hw5]; exact (R2.out.other _ _ NE.out).other _ _ NE.out)
             have B5 : Hid (Below s0 w w5) := hide (by rw [hw5]; exact set_below (set_below B2.out LE.out _ _) LE.out _ _)
             clear hw5 H2 R2 B2 f49 f93 c49 c93
             refine wpList_load_row rfl 53 (.tmp 3) rfl g3 rfl _ _ _ _ H5.out Tryd.underlying53 rfl (info_V _) ?_)
          | (refine wpList_store_row rfl 53 (.tmp 2) (.tmp 71) rfl s0 _ rfl rfl 53 _ R5.out (info_V _) (by rw [rowF_size, rowF_size]) (rowF_all (N := 288) fun j _ => vAt_one f _ _ (j / 48) (j % 48)) ?_))
        refine bodyPost_ret (results_cell_row rfl _ _ s0 53 _ (0, 0) _ rfl (setRow_heap _ _ _ _ _ _ R5.out) Tryd.underlying53 rfl (info_V _)) rfl ?_
        exact ⟨_, PE.out, rfl, by rw [hs0]; exact below_setRow B5.out (Nat.le_refl _) _⟩
end Go.Proofs.YtcpilhbinkamiaaDoor
