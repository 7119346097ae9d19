/- The program's processor: registers that are cut, and whether there is a machine. -/
import Derived.Test.YtoijhhbiknhlnaaGreatDoorCpuTakesJ41
namespace Go.Proofs.YtoijhhbiknhlnaaGreatDoor.L25
set_option maxRecDepth 20000
open A2 B4 C3 G6 I11 J23 K9 L24 M5 N8 O7 P22 R15 T10 V12 W13
open Go.RowKit
set_option linter.unusedVariables false
def cutR (R : Nat → Int) : Nat → Int := fun j => if j = 5 then R 5 % 65536 else R j % 256
theorem cutR_good (R : Nat → Int) : GZ 20 (cutR R) := by
  refine ⟨fun k hk => ?_, ?_⟩
  · unfold cutR
    rw [if_neg (by omega)]
    omega
  · unfold cutR
    rw [if_pos rfl]
    omega
set_option maxHeartbeats 1000000 in
theorem cut_is (R : Nat → Int) (w : World) : Calls Tryz.prog 19 #[.agg #[.int .i64 (R 0), .int .i64 (R 1), .int .i64 (R 2), .int .i64 (R 3), .int .i64 (R 4), .int .i64 (R 5)]] w fun e w' => e = Ending.returned (.agg #[.int .i64 (R 0 % 256), .int .i64 (R 1 % 256), .int .i64 (R 2 % 256), .int .i64 (R 3 % 256), .int .i64 (R 4 % 256), .int .i64 (R 5 % 65536)]) ∧ Below w.heap.size w w' := by
  go_enter Tryz.func19, Tryz.ntmps19
  go_upto_region 1 with fail
  refine under_name fun wa hwa => ?_
  obtain ⟨q1, q2, q3, bw⟩ := two_named hwa
  have G1 := hide q1
  have G2 := hide q2
  have BW := hide bw
  obtain ⟨g, hg⟩ : ∃ g, w.heap.size = g := ⟨_, rfl⟩
  obtain ⟨z, hz⟩ : ∃ z, w.heap.size + 1 = z := ⟨_, rfl⟩
  have ZL : Hid (z < wa.heap.size ∧ w.heap.size ≤ z) := hide (by omega)
  have GL : Hid (g < wa.heap.size) := hide (by omega)
  rw [hz] at G2
  rw [hz, hg]
  rw [hg] at G1
  have GF : Hid (∀ (x : World) (k : Nat), Below wa.heap.size wa x → x.cell? ⟨g, k, none⟩ = #[.int .i64 (R 0), .int .i64 (R 1), .int .i64 (R 2), .int .i64 (R 3), .int .i64 (R 4), .int .i64 (R 5)][k]?) := hide (fun x k o => cell_of_row x g k _ _ _ ((o.block g GL.out).trans G1.out))
  have ZF : Hid (∀ (x : World), Below wa.heap.size wa x → x.heap[z]? = some (.cells #[.int .i64 0, .int .i64 0, .int .i64 0, .int .i64 0, .int .i64 0, .int .i64 0] 23 (0, 0))) := hide (fun x o => (o.block z ZL.out.1).trans G2.out)
  clear hwa q1 q2 q3 bw hg hz
  refine wp_region_state (ofList [.pointer (some ⟨g, 0, none⟩), .int .i64 (R 0), .int .i64 (R 0 % 256), .pointer (some ⟨g, 1, none⟩), .int .i64 (R 1), .int .i64 (R 1 % 256), .pointer (some ⟨g, 2, none⟩), .int .i64 (R 2), .int .i64 (R 2 % 256), .pointer (some ⟨g, 3, none⟩), .int .i64 (R 3), .int .i64 (R 3 % 256), .pointer (some ⟨g, 4, none⟩), .int .i64 (R 4), .int .i64 (R 4 % 256), .pointer (some ⟨g, 5, none⟩), .int .i64 (R 5), .int .i64 (R 5 % 65536), .agg #[.int .i64 (R 0 % 256), .int .i64 (R 1 % 256), .int .i64 (R 2 % 256), .int .i64 (R 3 % 256), .int .i64 (R 4 % 256), .int .i64 (R 5 % 65536)], undef]) (fun dd ww => (stgs [(fun x => Below wa.heap.size wa x), (fun x => x.heap[z]? = some (.cells #[.int .i64 (R 0 % 256), .int .i64 (R 1 % 256), .int .i64 (R 2 % 256), .int .i64 (R 3 % 256), .int .i64 (R 4 % 256), .int .i64 (R 5 % 65536)] 23 (0, 0)) ∧ Below w.heap.size w x)]) (cntD [19] dd) ww) _ (fun vals => by simp only [putAll, Act.put, List.setIfInBounds_toArray, List.set_cons_succ, List.set_cons_zero, Nat.reduceAdd]; rfl) (by kernel_rfl) (by kernel_rfl) (by kernel_rfl) (fun dn hd => stage_none (A := (stgs [(fun x => Below wa.heap.size wa x), (fun x => x.heap[z]? = some (.cells #[.int .i64 (R 0 % 256), .int .i64 (R 1 % 256), .int .i64 (R 2 % 256), .int .i64 (R 3 % 256), .int .i64 (R 4 % 256), .int .i64 (R 5 % 65536)] 23 (0, 0)) ∧ Below w.heap.size w x)])) hd ((Below.refl _ wa).drew)) ?_ ?_
  · refine stepsS_cons (fun vals dn x hi hc hk hs => ?_) (stepsS_cons (fun vals dn x hi hc hk hs => ?_) (stepsS_cons (fun vals dn x hi hc hk hs => ?_) (stepsS_cons (fun vals dn x hi hc hk hs => ?_) (stepsS_cons (fun vals dn x hi hc hk hs => ?_) (stepsS_cons (fun vals dn x hi hc hk hs => ?_) (stepsS_cons (fun vals dn x hi hc hk hs => ?_) (stepsS_cons (fun vals dn x hi hc hk hs => ?_) (stepsS_cons (fun vals dn x hi hc hk hs => ?_) (stepsS_cons (fun vals dn x hi hc hk hs => ?_) (stepsS_cons (fun vals dn x hi hc hk hs => ?_) (stepsS_cons (fun vals dn x hi hc hk hs => ?_) (stepsS_cons (fun vals dn x hi hc hk hs => ?_) (stepsS_cons (fun vals dn x hi hc hk hs => ?_) (stepsS_cons (fun vals dn x hi hc hk hs => ?_) (stepsS_cons (fun vals dn x hi hc hk hs => ?_) (stepsS_cons (fun vals dn x hi hc hk hs => ?_) (stepsS_cons (fun vals dn x hi hc hk hs => ?_) (stepsS_cons (fun vals dn x hi hc hk hs => ?_) (stepsS_cons (fun vals dn x hi hc hk hs => ?_) stepsS_nil)))))))))))))))))))
    · set_option maxRecDepth 20000 in
      go_wp2_with fail
      exact postS_mk _ rfl rfl (stage_keep (A := (stgs [(fun x => Below wa.heap.size wa x), (fun x => x.heap[z]? = some (.cells #[.int .i64 (R 0 % 256), .int .i64 (R 1 % 256), .int .i64 (R 2 % 256), .int .i64 (R 3 % 256), .int .i64 (R 4 % 256), .int .i64 (R 5 % 65536)] 23 (0, 0)) ∧ Below w.heap.size w x)])) (ps := [19]) (i := 0) rfl hs)
    · obtain ⟨⟨(h0 : vals 0 = .pointer (some ⟨g, 0, none⟩)), t0⟩, _⟩ := hk
      simp only [h0]
      clear h0
      have d19 := not_yet hc hi 19 60 (by kernel_rfl)
      have hn : cntD [19] dn = 0 := by show (if dn 19 = true then 1 else 0) + 0 = 0; rw [d19]; rfl
      have hs1 := stage_at (A := (stgs [(fun x => Below wa.heap.size wa x), (fun x => x.heap[z]? = some (.cells #[.int .i64 (R 0 % 256), .int .i64 (R 1 % 256), .int .i64 (R 2 % 256), .int .i64 (R 3 % 256), .int .i64 (R 4 % 256), .int .i64 (R 5 % 65536)] 23 (0, 0)) ∧ Below w.heap.size w x)])) hn hs
      have q := (GF.out x 0 hs1).trans rfl
      go_wp2_with fail
      exact postS_mk _ rfl rfl (stage_keep (A := (stgs [(fun x => Below wa.heap.size wa x), (fun x => x.heap[z]? = some (.cells #[.int .i64 (R 0 % 256), .int .i64 (R 1 % 256), .int .i64 (R 2 % 256), .int .i64 (R 3 % 256), .int .i64 (R 4 % 256), .int .i64 (R 5 % 65536)] 23 (0, 0)) ∧ Below w.heap.size w x)])) (ps := [19]) (i := 1) rfl hs)
    · obtain ⟨⟨(h1 : vals 1 = .int .i64 (R 0)), t1⟩, _⟩ := hk
      simp only [h1]
      clear h1
      have d19 := not_yet hc hi 19 60 (by kernel_rfl)
      have hn : cntD [19] dn = 0 := by show (if dn 19 = true then 1 else 0) + 0 = 0; rw [d19]; rfl
      have hs1 := stage_at (A := (stgs [(fun x => Below wa.heap.size wa x), (fun x => x.heap[z]? = some (.cells #[.int .i64 (R 0 % 256), .int .i64 (R 1 % 256), .int .i64 (R 2 % 256), .int .i64 (R 3 % 256), .int .i64 (R 4 % 256), .int .i64 (R 5 % 65536)] 23 (0, 0)) ∧ Below w.heap.size w x)])) hn hs
      have HS := hide hs
      clear hs hs1
      go_wp2_with fail
      refine (byte_any _ _).mono ?_
      rintro e x2 ⟨rfl, hw⟩
      subst x2
      go_wp2_with fail
      exact postS_mk _ rfl rfl (stage_keep (A := (stgs [(fun x => Below wa.heap.size wa x), (fun x => x.heap[z]? = some (.cells #[.int .i64 (R 0 % 256), .int .i64 (R 1 % 256), .int .i64 (R 2 % 256), .int .i64 (R 3 % 256), .int .i64 (R 4 % 256), .int .i64 (R 5 % 65536)] 23 (0, 0)) ∧ Below w.heap.size w x)])) (ps := [19]) (i := 2) rfl HS.out)
    · set_option maxRecDepth 20000 in
      go_wp2_with fail
      exact postS_mk _ rfl rfl (stage_keep (A := (stgs [(fun x => Below wa.heap.size wa x), (fun x => x.heap[z]? = some (.cells #[.int .i64 (R 0 % 256), .int .i64 (R 1 % 256), .int .i64 (R 2 % 256), .int .i64 (R 3 % 256), .int .i64 (R 4 % 256), .int .i64 (R 5 % 65536)] 23 (0, 0)) ∧ Below w.heap.size w x)])) (ps := [19]) (i := 3) rfl hs)
    · obtain ⟨⟨(h3 : vals 3 = .pointer (some ⟨g, 1, none⟩)), t3⟩, _⟩ := hk
      simp only [h3]
      clear h3
      have d19 := not_yet hc hi 19 60 (by kernel_rfl)
      have hn : cntD [19] dn = 0 := by show (if dn 19 = true then 1 else 0) + 0 = 0; rw [d19]; rfl
      have hs1 := stage_at (A := (stgs [(fun x => Below wa.heap.size wa x), (fun x => x.heap[z]? = some (.cells #[.int .i64 (R 0 % 256), .int .i64 (R 1 % 256), .int .i64 (R 2 % 256), .int .i64 (R 3 % 256), .int .i64 (R 4 % 256), .int .i64 (R 5 % 65536)] 23 (0, 0)) ∧ Below w.heap.size w x)])) hn hs
      have q := (GF.out x 1 hs1).trans rfl
      go_wp2_with fail
      exact postS_mk _ rfl rfl (stage_keep (A := (stgs [(fun x => Below wa.heap.size wa x), (fun x => x.heap[z]? = some (.cells #[.int .i64 (R 0 % 256), .int .i64 (R 1 % 256), .int .i64 (R 2 % 256), .int .i64 (R 3 % 256), .int .i64 (R 4 % 256), .int .i64 (R 5 % 65536)] 23 (0, 0)) ∧ Below w.heap.size w x)])) (ps := [19]) (i := 4) rfl hs)
    · obtain ⟨⟨(h4 : vals 4 = .int .i64 (R 1)), t4⟩, ⟨(h2 : vals 2 = .int .i64 (R 0 % 256)), t2⟩, _⟩ := hk
      simp only [h4]
      clear h4 h2
      have d19 := not_yet hc hi 19 60 (by kernel_rfl)
      have hn : cntD [19] dn = 0 := by show (if dn 19 = true then 1 else 0) + 0 = 0; rw [d19]; rfl
      have hs1 := stage_at (A := (stgs [(fun x => Below wa.heap.size wa x), (fun x => x.heap[z]? = some (.cells #[.int .i64 (R 0 % 256), .int .i64 (R 1 % 256), .int .i64 (R 2 % 256), .int .i64 (R 3 % 256), .int .i64 (R 4 % 256), .int .i64 (R 5 % 65536)] 23 (0, 0)) ∧ Below w.heap.size w x)])) hn hs
      have HS := hide hs
      clear hs hs1
      go_wp2_with fail
      refine (byte_any _ _).mono ?_
      rintro e x2 ⟨rfl, hw⟩
      subst x2
      go_wp2_with fail
      exact postS_mk _ rfl rfl (stage_keep (A := (stgs [(fun x => Below wa.heap.size wa x), (fun x => x.heap[z]? = some (.cells #[.int .i64 (R 0 % 256), .int .i64 (R 1 % 256), .int .i64 (R 2 % 256), .int .i64 (R 3 % 256), .int .i64 (R 4 % 256), .int .i64 (R 5 % 65536)] 23 (0, 0)) ∧ Below w.heap.size w x)])) (ps := [19]) (i := 5) rfl HS.out)
    · set_option maxRecDepth 20000 in
      go_wp2_with fail
      exact postS_mk _ rfl rfl (stage_keep (A := (stgs [(fun x => Below wa.heap.size wa x), (fun x => x.heap[z]? = some (.cells #[.int .i64 (R 0 % 256), .int .i64 (R 1 % 256), .int .i64 (R 2 % 256), .int .i64 (R 3 % 256), .int .i64 (R 4 % 256), .int .i64 (R 5 % 65536)] 23 (0, 0)) ∧ Below w.heap.size w x)])) (ps := [19]) (i := 6) rfl hs)
    · obtain ⟨⟨(h6 : vals 6 = .pointer (some ⟨g, 2, none⟩)), t6⟩, _⟩ := hk
      simp only [h6]
      clear h6
      have d19 := not_yet hc hi 19 60 (by kernel_rfl)
      have hn : cntD [19] dn = 0 := by show (if dn 19 = true then 1 else 0) + 0 = 0; rw [d19]; rfl
      have hs1 := stage_at (A := (stgs [(fun x => Below wa.heap.size wa x), (fun x => x.heap[z]? = some (.cells #[.int .i64 (R 0 % 256), .int .i64 (R 1 % 256), .int .i64 (R 2 % 256), .int .i64 (R 3 % 256), .int .i64 (R 4 % 256), .int .i64 (R 5 % 65536)] 23 (0, 0)) ∧ Below w.heap.size w x)])) hn hs
      have q := (GF.out x 2 hs1).trans rfl
      go_wp2_with fail
      exact postS_mk _ rfl rfl (stage_keep (A := (stgs [(fun x => Below wa.heap.size wa x), (fun x => x.heap[z]? = some (.cells #[.int .i64 (R 0 % 256), .int .i64 (R 1 % 256), .int .i64 (R 2 % 256), .int .i64 (R 3 % 256), .int .i64 (R 4 % 256), .int .i64 (R 5 % 65536)] 23 (0, 0)) ∧ Below w.heap.size w x)])) (ps := [19]) (i := 7) rfl hs)
    · obtain ⟨⟨(h7 : vals 7 = .int .i64 (R 2)), t7⟩, ⟨(h5 : vals 5 = .int .i64 (R 1 % 256)), t5⟩, _⟩ := hk
      simp only [h7]
      clear h7 h5
      have d19 := not_yet hc hi 19 60 (by kernel_rfl)
      have hn : cntD [19] dn = 0 := by show (if dn 19 = true then 1 else 0) + 0 = 0; rw [d19]; rfl
      have hs1 := stage_at (A := (stgs [(fun x => Below wa.heap.size wa x), (fun x => x.heap[z]? = some (.cells #[.int .i64 (R 0 % 256), .int .i64 (R 1 % 256), .int .i64 (R 2 % 256), .int .i64 (R 3 % 256), .int .i64 (R 4 % 256), .int .i64 (R 5 % 65536)] 23 (0, 0)) ∧ Below w.heap.size w x)])) hn hs
      have HS := hide hs
      clear hs hs1
      go_wp2_with fail
      refine (byte_any _ _).mono ?_
      rintro e x2 ⟨rfl, hw⟩
      subst x2
      go_wp2_with fail
      exact postS_mk _ rfl rfl (stage_keep (A := (stgs [(fun x => Below wa.heap.size wa x), (fun x => x.heap[z]? = some (.cells #[.int .i64 (R 0 % 256), .int .i64 (R 1 % 256), .int .i64 (R 2 % 256), .int .i64 (R 3 % 256), .int .i64 (R 4 % 256), .int .i64 (R 5 % 65536)] 23 (0, 0)) ∧ Below w.heap.size w x)])) (ps := [19]) (i := 8) rfl HS.out)
    · set_option maxRecDepth 20000 in
      go_wp2_with fail
      exact postS_mk _ rfl rfl (stage_keep (A := (stgs [(fun x => Below wa.heap.size wa x), (fun x => x.heap[z]? = some (.cells #[.int .i64 (R 0 % 256), .int .i64 (R 1 % 256), .int .i64 (R 2 % 256), .int .i64 (R 3 % 256), .int .i64 (R 4 % 256), .int .i64 (R 5 % 65536)] 23 (0, 0)) ∧ Below w.heap.size w x)])) (ps := [19]) (i := 9) rfl hs)
    · obtain ⟨⟨(h9 : vals 9 = .pointer (some ⟨g, 3, none⟩)), t9⟩, _⟩ := hk
      simp only [h9]
      clear h9
      have d19 := not_yet hc hi 19 60 (by kernel_rfl)
      have hn : cntD [19] dn = 0 := by show (if dn 19 = true then 1 else 0) + 0 = 0; rw [d19]; rfl
      have hs1 := stage_at (A := (stgs [(fun x => Below wa.heap.size wa x), (fun x => x.heap[z]? = some (.cells #[.int .i64 (R 0 % 256), .int .i64 (R 1 % 256), .int .i64 (R 2 % 256), .int .i64 (R 3 % 256), .int .i64 (R 4 % 256), .int .i64 (R 5 % 65536)] 23 (0, 0)) ∧ Below w.heap.size w x)])) hn hs
      have q := (GF.out x 3 hs1).trans rfl
      go_wp2_with fail
      exact postS_mk _ rfl rfl (stage_keep (A := (stgs [(fun x => Below wa.heap.size wa x), (fun x => x.heap[z]? = some (.cells #[.int .i64 (R 0 % 256), .int .i64 (R 1 % 256), .int .i64 (R 2 % 256), .int .i64 (R 3 % 256), .int .i64 (R 4 % 256), .int .i64 (R 5 % 65536)] 23 (0, 0)) ∧ Below w.heap.size w x)])) (ps := [19]) (i := 10) rfl hs)
    · obtain ⟨⟨(h10 : vals 10 = .int .i64 (R 3)), t10⟩, ⟨(h8 : vals 8 = .int .i64 (R 2 % 256)), t8⟩, _⟩ := hk
      simp only [h10]
      clear h10 h8
      have d19 := not_yet hc hi 19 60 (by kernel_rfl)
      have hn : cntD [19] dn = 0 := by show (if dn 19 = true then 1 else 0) + 0 = 0; rw [d19]; rfl
      have hs1 := stage_at (A := (stgs [(fun x => Below wa.heap.size wa x), (fun x => x.heap[z]? = some (.cells #[.int .i64 (R 0 % 256), .int .i64 (R 1 % 256), .int .i64 (R 2 % 256), .int .i64 (R 3 % 256), .int .i64 (R 4 % 256), .int .i64 (R 5 % 65536)] 23 (0, 0)) ∧ Below w.heap.size w x)])) hn hs
      have HS := hide hs
      clear hs hs1
      go_wp2_with fail
      refine (byte_any _ _).mono ?_
      rintro e x2 ⟨rfl, hw⟩
      subst x2
      go_wp2_with fail
      exact postS_mk _ rfl rfl (stage_keep (A := (stgs [(fun x => Below wa.heap.size wa x), (fun x => x.heap[z]? = some (.cells #[.int .i64 (R 0 % 256), .int .i64 (R 1 % 256), .int .i64 (R 2 % 256), .int .i64 (R 3 % 256), .int .i64 (R 4 % 256), .int .i64 (R 5 % 65536)] 23 (0, 0)) ∧ Below w.heap.size w x)])) (ps := [19]) (i := 11) rfl HS.out)
    · set_option maxRecDepth 20000 in
      go_wp2_with fail
      exact postS_mk _ rfl rfl (stage_keep (A := (stgs [(fun x => Below wa.heap.size wa x), (fun x => x.heap[z]? = some (.cells #[.int .i64 (R 0 % 256), .int .i64 (R 1 % 256), .int .i64 (R 2 % 256), .int .i64 (R 3 % 256), .int .i64 (R 4 % 256), .int .i64 (R 5 % 65536)] 23 (0, 0)) ∧ Below w.heap.size w x)])) (ps := [19]) (i := 12) rfl hs)
    · obtain ⟨⟨(h12 : vals 12 = .pointer (some ⟨g, 4, none⟩)), t12⟩, _⟩ := hk
      simp only [h12]
      clear h12
      have d19 := not_yet hc hi 19 60 (by kernel_rfl)
      have hn : cntD [19] dn = 0 := by show (if dn 19 = true then 1 else 0) + 0 = 0; rw [d19]; rfl
      have hs1 := stage_at (A := (stgs [(fun x => Below wa.heap.size wa x), (fun x => x.heap[z]? = some (.cells #[.int .i64 (R 0 % 256), .int .i64 (R 1 % 256), .int .i64 (R 2 % 256), .int .i64 (R 3 % 256), .int .i64 (R 4 % 256), .int .i64 (R 5 % 65536)] 23 (0, 0)) ∧ Below w.heap.size w x)])) hn hs
      have q := (GF.out x 4 hs1).trans rfl
      go_wp2_with fail
      exact postS_mk _ rfl rfl (stage_keep (A := (stgs [(fun x => Below wa.heap.size wa x), (fun x => x.heap[z]? = some (.cells #[.int .i64 (R 0 % 256), .int .i64 (R 1 % 256), .int .i64 (R 2 % 256), .int .i64 (R 3 % 256), .int .i64 (R 4 % 256), .int .i64 (R 5 % 65536)] 23 (0, 0)) ∧ Below w.heap.size w x)])) (ps := [19]) (i := 13) rfl hs)
    · obtain ⟨⟨(h13 : vals 13 = .int .i64 (R 4)), t13⟩, ⟨(h11 : vals 11 = .int .i64 (R 3 % 256)), t11⟩, _⟩ := hk
      simp only [h13]
      clear h13 h11
      have d19 := not_yet hc hi 19 60 (by kernel_rfl)
      have hn : cntD [19] dn = 0 := by show (if dn 19 = true then 1 else 0) + 0 = 0; rw [d19]; rfl
      have hs1 := stage_at (A := (stgs [(fun x => Below wa.heap.size wa x), (fun x => x.heap[z]? = some (.cells #[.int .i64 (R 0 % 256), .int .i64 (R 1 % 256), .int .i64 (R 2 % 256), .int .i64 (R 3 % 256), .int .i64 (R 4 % 256), .int .i64 (R 5 % 65536)] 23 (0, 0)) ∧ Below w.heap.size w x)])) hn hs
      have HS := hide hs
      clear hs hs1
      go_wp2_with fail
      refine (byte_any _ _).mono ?_
      rintro e x2 ⟨rfl, hw⟩
      subst x2
      go_wp2_with fail
      exact postS_mk _ rfl rfl (stage_keep (A := (stgs [(fun x => Below wa.heap.size wa x), (fun x => x.heap[z]? = some (.cells #[.int .i64 (R 0 % 256), .int .i64 (R 1 % 256), .int .i64 (R 2 % 256), .int .i64 (R 3 % 256), .int .i64 (R 4 % 256), .int .i64 (R 5 % 65536)] 23 (0, 0)) ∧ Below w.heap.size w x)])) (ps := [19]) (i := 14) rfl HS.out)
    · set_option maxRecDepth 20000 in
      go_wp2_with fail
      exact postS_mk _ rfl rfl (stage_keep (A := (stgs [(fun x => Below wa.heap.size wa x), (fun x => x.heap[z]? = some (.cells #[.int .i64 (R 0 % 256), .int .i64 (R 1 % 256), .int .i64 (R 2 % 256), .int .i64 (R 3 % 256), .int .i64 (R 4 % 256), .int .i64 (R 5 % 65536)] 23 (0, 0)) ∧ Below w.heap.size w x)])) (ps := [19]) (i := 15) rfl hs)
    · obtain ⟨⟨(h15 : vals 15 = .pointer (some ⟨g, 5, none⟩)), t15⟩, _⟩ := hk
      simp only [h15]
      clear h15
      have d19 := not_yet hc hi 19 60 (by kernel_rfl)
      have hn : cntD [19] dn = 0 := by show (if dn 19 = true then 1 else 0) + 0 = 0; rw [d19]; rfl
      have hs1 := stage_at (A := (stgs [(fun x => Below wa.heap.size wa x), (fun x => x.heap[z]? = some (.cells #[.int .i64 (R 0 % 256), .int .i64 (R 1 % 256), .int .i64 (R 2 % 256), .int .i64 (R 3 % 256), .int .i64 (R 4 % 256), .int .i64 (R 5 % 65536)] 23 (0, 0)) ∧ Below w.heap.size w x)])) hn hs
      have q := (GF.out x 5 hs1).trans rfl
      go_wp2_with fail
      exact postS_mk _ rfl rfl (stage_keep (A := (stgs [(fun x => Below wa.heap.size wa x), (fun x => x.heap[z]? = some (.cells #[.int .i64 (R 0 % 256), .int .i64 (R 1 % 256), .int .i64 (R 2 % 256), .int .i64 (R 3 % 256), .int .i64 (R 4 % 256), .int .i64 (R 5 % 65536)] 23 (0, 0)) ∧ Below w.heap.size w x)])) (ps := [19]) (i := 16) rfl hs)
    · obtain ⟨⟨(h16 : vals 16 = .int .i64 (R 5)), t16⟩, ⟨(h14 : vals 14 = .int .i64 (R 4 % 256)), t14⟩, _⟩ := hk
      simp only [h16]
      clear h16 h14
      have d19 := not_yet hc hi 19 60 (by kernel_rfl)
      have hn : cntD [19] dn = 0 := by show (if dn 19 = true then 1 else 0) + 0 = 0; rw [d19]; rfl
      have hs1 := stage_at (A := (stgs [(fun x => Below wa.heap.size wa x), (fun x => x.heap[z]? = some (.cells #[.int .i64 (R 0 % 256), .int .i64 (R 1 % 256), .int .i64 (R 2 % 256), .int .i64 (R 3 % 256), .int .i64 (R 4 % 256), .int .i64 (R 5 % 65536)] 23 (0, 0)) ∧ Below w.heap.size w x)])) hn hs
      have HS := hide hs
      clear hs hs1
      go_wp2_with fail
      refine (word_any _ _).mono ?_
      rintro e x2 ⟨rfl, hw⟩
      subst x2
      go_wp2_with fail
      exact postS_mk _ rfl rfl (stage_keep (A := (stgs [(fun x => Below wa.heap.size wa x), (fun x => x.heap[z]? = some (.cells #[.int .i64 (R 0 % 256), .int .i64 (R 1 % 256), .int .i64 (R 2 % 256), .int .i64 (R 3 % 256), .int .i64 (R 4 % 256), .int .i64 (R 5 % 65536)] 23 (0, 0)) ∧ Below w.heap.size w x)])) (ps := [19]) (i := 17) rfl HS.out)
    · obtain ⟨⟨(h2 : vals 2 = .int .i64 (R 0 % 256)), t2⟩, ⟨(h5 : vals 5 = .int .i64 (R 1 % 256)), t5⟩, ⟨(h8 : vals 8 = .int .i64 (R 2 % 256)), t8⟩, ⟨(h11 : vals 11 = .int .i64 (R 3 % 256)), t11⟩, ⟨(h14 : vals 14 = .int .i64 (R 4 % 256)), t14⟩, ⟨(h17 : vals 17 = .int .i64 (R 5 % 65536)), t17⟩, _⟩ := hk
      simp only [h2, h5, h8, h11, h14, h17]
      clear h2 h5 h8 h11 h14 h17
      go_wp2_with fail
      exact postS_mk _ rfl rfl (stage_keep (A := (stgs [(fun x => Below wa.heap.size wa x), (fun x => x.heap[z]? = some (.cells #[.int .i64 (R 0 % 256), .int .i64 (R 1 % 256), .int .i64 (R 2 % 256), .int .i64 (R 3 % 256), .int .i64 (R 4 % 256), .int .i64 (R 5 % 65536)] 23 (0, 0)) ∧ Below w.heap.size w x)])) (ps := [19]) (i := 18) rfl hs)
    · obtain ⟨⟨(h18 : vals 18 = .agg #[.int .i64 (R 0 % 256), .int .i64 (R 1 % 256), .int .i64 (R 2 % 256), .int .i64 (R 3 % 256), .int .i64 (R 4 % 256), .int .i64 (R 5 % 65536)]), t18⟩, ⟨(h17 : vals 17 = .int .i64 (R 5 % 65536)), t17⟩, ⟨(h0 : vals 0 = .pointer (some ⟨g, 0, none⟩)), t0⟩, ⟨(h1 : vals 1 = .int .i64 (R 0)), t1⟩, ⟨(h2 : vals 2 = .int .i64 (R 0 % 256)), t2⟩, ⟨(h3 : vals 3 = .pointer (some ⟨g, 1, none⟩)), t3⟩, ⟨(h4 : vals 4 = .int .i64 (R 1)), t4⟩, ⟨(h5 : vals 5 = .int .i64 (R 1 % 256)), t5⟩, ⟨(h6 : vals 6 = .pointer (some ⟨g, 2, none⟩)), t6⟩, ⟨(h7 : vals 7 = .int .i64 (R 2)), t7⟩, ⟨(h8 : vals 8 = .int .i64 (R 2 % 256)), t8⟩, ⟨(h9 : vals 9 = .pointer (some ⟨g, 3, none⟩)), t9⟩, ⟨(h10 : vals 10 = .int .i64 (R 3)), t10⟩, ⟨(h11 : vals 11 = .int .i64 (R 3 % 256)), t11⟩, ⟨(h12 : vals 12 = .pointer (some ⟨g, 4, none⟩)), t12⟩, ⟨(h13 : vals 13 = .int .i64 (R 4)), t13⟩, ⟨(h14 : vals 14 = .int .i64 (R 4 % 256)), t14⟩, ⟨(h15 : vals 15 = .pointer (some ⟨g, 5, none⟩)), t15⟩, ⟨(h16 : vals 16 = .int .i64 (R 5)), t16⟩, _, _, _⟩ := hk
      simp only [h18]
      clear h18 h17 h0 h1 h2 h3 h4 h5 h6 h7 h8 h9 h10 h11 h12 h13 h14 h15 h16
      have d19 := hi
      have hn : cntD [19] dn = 0 := by show (if dn 19 = true then 1 else 0) + 0 = 0; rw [d19]; rfl
      have hs1 := stage_at (A := (stgs [(fun x => Below wa.heap.size wa x), (fun x => x.heap[z]? = some (.cells #[.int .i64 (R 0 % 256), .int .i64 (R 1 % 256), .int .i64 (R 2 % 256), .int .i64 (R 3 % 256), .int .i64 (R 4 % 256), .int .i64 (R 5 % 65536)] 23 (0, 0)) ∧ Below w.heap.size w x)])) hn hs
      have hn2 : cntD [19] (updD dn 19) = 1 := by show (if updD dn 19 19 = true then 1 else 0) + 0 = 1; rw [updD_same]; rfl
      have HN2 := hide hn2
      clear hn hn2 
      have H2 := hide ((fun h : Below wa.heap.size wa x => show (fun x => x.heap[z]? = some (.cells #[.int .i64 (R 0 % 256), .int .i64 (R 1 % 256), .int .i64 (R 2 % 256), .int .i64 (R 3 % 256), .int .i64 (R 4 % 256), .int .i64 (R 5 % 65536)] 23 (0, 0)) ∧ Below w.heap.size w x) (x.setRow z #[.int .i64 (R 0 % 256), .int .i64 (R 1 % 256), .int .i64 (R 2 % 256), .int .i64 (R 3 % 256), .int .i64 (R 4 % 256), .int .i64 (R 5 % 65536)]) from ⟨setRow_heap _ _ _ _ _ _ (ZF.out x h), below_setRow (bnext BW.out h) ZL.out.2 _⟩) hs1)
      refine wpList_store_row rfl 23 (.tmp 2) (.tmp 21) rfl z _ rfl rfl 23 _ (ZF.out x hs1) (by kernel_rfl) rfl (by kernel_rfl) ?_
      exact postS_mk _ rfl rfl (stage_of (A := (stgs [(fun x => Below wa.heap.size wa x), (fun x => x.heap[z]? = some (.cells #[.int .i64 (R 0 % 256), .int .i64 (R 1 % 256), .int .i64 (R 2 % 256), .int .i64 (R 3 % 256), .int .i64 (R 4 % 256), .int .i64 (R 5 % 65536)] 23 (0, 0)) ∧ Below w.heap.size w x)])) HN2.out H2.out)
  rintro vals dn x hall hs hv
  clear hv
  have hn : cntD [19] dn = 1 := by show (if dn 19 = true then 1 else 0) + 0 = 1; rw [hall 19 (by decide)]; rfl
  have hs := stage_at (A := (stgs [(fun x => Below wa.heap.size wa x), (fun x => x.heap[z]? = some (.cells #[.int .i64 (R 0 % 256), .int .i64 (R 1 % 256), .int .i64 (R 2 % 256), .int .i64 (R 3 % 256), .int .i64 (R 4 % 256), .int .i64 (R 5 % 65536)] 23 (0, 0)) ∧ Below w.heap.size w x)])) hn hs
  clear hn hall
  obtain ⟨r1, r2⟩ : x.heap[z]? = some (.cells #[.int .i64 (R 0 % 256), .int .i64 (R 1 % 256), .int .i64 (R 2 % 256), .int .i64 (R 3 % 256), .int .i64 (R 4 % 256), .int .i64 (R 5 % 65536)] 23 (0, 0)) ∧ Below w.heap.size w x := hs
  have R1 := hide r1
  have R2 := hide r2
  clear r1 r2
  go_wp2
  exact bodyPost_ret (results_cell_row rfl _ _ z _ _ _ _ rfl R1.out Tryz.underlying23 rfl (by kernel_rfl)) rfl ⟨rfl, R2.out⟩
theorem missing_is {w : World} {b v c d : Nat} {bs : List Int} {Z : Nat → Nat → Int} (h : HasP w b v c d bs Z) (g : ∀ k, GZ k (Z k)) : Calls Tryz.prog 17 #[.pointer (some ⟨b, 0, none⟩)] w fun e w' => e = Ending.returned (.bool false) ∧ HasP w' b v c d bs Z ∧ OnlyE (EX b v) w w' := by
  have K := hide (p_open h (good_of g) (-1) (by decide))
  clear h g
  go_enter Tryz.func17, Tryz.ntmps17
  go_wp2_with (go_at_call 28; refine K.out.mono ?_; rintro e w1 ⟨rfl, h1, o1⟩; have H1 := hide h1; have O1 := hide o1; clear h1 o1 K)
  go_ret
  exact ⟨rfl, H1.out, O1.out⟩
end Go.Proofs.YtoijhhbiknhlnaaGreatDoor.L25
