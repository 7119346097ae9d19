/- A block that is moved within Ram, apart, is where it is to be, byte by byte, and what was there stays; it takes 17 cycles, and 6 for each byte: the walk. -/
import Derived.Test.YtoijhhbiknhlnaaGreatDoorCpuMovesJ45
import Derived.Test.YtoijhhbiknhlnaaGreatDoorCpuMovesJ50
import Derived.Test.YtoijhhbiknhlnaaGreatDoorCpuMovesJ01
namespace Go.Proofs.YtoijhhbiknhlnaaGreatDoor
set_option maxRecDepth 20000
open A2 B4 C3 D24 G6 I11 J23 K9 L24 L25 M5 N8 O7 P22 R15 T10 V12 W13
open Go.RowKit
set_option linter.unusedVariables false
def mvM (M : Nat → Int) (fr tu : Nat) : Nat → Nat → Int
  | 0 => M
  | n + 1 => up (mvM M fr tu n) (tu + n) (mvM M fr tu n (fr + n) % 256)
theorem cz_trN {Y : Nat → Nat → Int} {M R : Nat → Int} {f l : Int} (bs : List Int) (h9 : Y 9 1 = 248) {fr tu : Nat} : ∀ n : Nat, fr + n ≤ 8192 → tu + n ≤ 8192 → n ≤ 1000 → trN bs 0 (8192 + (fr : Int)) (8192 + (tu : Int)) (cz Y M R f l 17) n = cz Y (mvM M fr tu n) R f l (17 + 6 * (n : Int))
  | 0, _, _, _ => rfl
  | n + 1, h1, h2, h3 => by
    show cyc (wS (rS (trN bs 0 (8192 + (fr : Int)) (8192 + (tu : Int)) (cz Y M R f l 17) n) (stA 0 (n : Int) (8192 + (fr : Int)))) (stB 0 (n : Int) (8192 + (tu : Int))) (rV bs (trN bs 0 (8192 + (fr : Int)) (8192 + (tu : Int)) (cz Y M R f l 17) n) (stA 0 (n : Int) (8192 + (fr : Int))))) 6 = _
    rw [cz_trN bs h9 n (by omega) (by omega) (by omega)]
    have ea : stA 0 (n : Int) (8192 + (fr : Int)) = 8192 + ((fr + n : Nat) : Int) := by
      unfold stA goOf
      rw [if_neg (by decide), if_neg (by decide)]
      omega
    have eb : stB 0 (n : Int) (8192 + (tu : Int)) = 8192 + ((tu + n : Nat) : Int) := by
      unfold stB goOf
      rw [if_neg (by decide), if_neg (by decide), if_neg (by decide)]
      omega
    rw [ea, eb, cz_rV bs h9 rfl (by omega), cz_rS h9 rfl (by omega) (by omega), cz_wS h9 rfl (by omega) (by omega), cz_cyc]
    show cz Y (mvM M fr tu (n + 1)) R f l _ = _
    rw [show wrap64 (17 + 6 * (n : Int) + 6) = 17 + 6 * ((n + 1 : Nat) : Int) by unfold wrap64; omega]
theorem mv_is {M : Nat → Int} {fr tu n : Nat} (hd : fr + n ≤ tu) (hb : ∀ j, 0 ≤ M j ∧ M j < 256) : ∀ k, k ≤ n → ∀ j, mvM M fr tu k j = if tu ≤ j ∧ j < tu + k then M (fr + (j - tu)) else M j
  | 0, _, j => by rw [if_neg (by omega)]; rfl
  | k + 1, hk, j => by
    show up (mvM M fr tu k) (tu + k) (mvM M fr tu k (fr + k) % 256) j = _
    rw [mv_is hd hb k (by omega) (fr + k), if_neg (by omega)]
    unfold up
    by_cases e : j = tu + k
    · rw [if_pos e, if_pos (by omega), e, show fr + (tu + k - tu) = fr + k by omega]
      have := hb (fr + k)
      omega
    · rw [if_neg e, mv_is hd hb k (by omega) j]
      by_cases e2 : tu ≤ j ∧ j < tu + k
      · rw [if_pos e2, if_pos (by omega)]
      · rw [if_neg e2, if_neg (by omega)]
theorem go_tii {bs : List Int} {M : Nat → Int} {fr tu n : Nat} (h1 : fr + n ≤ 8192) (h2 : tu + n ≤ 8192) (h3 : 0 < n ∧ n ≤ 1000) (hC : M 1024 = ((115 : Nat) : Int) ∧ (M 1025 = (fr : Int) % 256 ∧ M 1026 = 32 + (fr : Int) / 256) ∧ (M 1027 = (tu : Int) % 256 ∧ M 1028 = 32 + (tu : Int) / 256) ∧ M 1029 = (n : Int) % 256 ∧ M 1030 = (n : Int) / 256) : Goes bs Yp M 0 0 0 255 0 1024 false 0 (mvM M fr tu n) 0 0 0 255 0 1031 false 0 (17 + 6 * (n : Int)) := by
  obtain ⟨C0, ⟨C1, C2⟩, ⟨C3, C4⟩, C5, C6⟩ := hC
  refine goes_of calm_p zB zB zB mB zB (by decide) C0 (by decide) (by kernel_rfl) (by rw [show nameOf 115 = ⟨#[84, 73, 73]⟩ by kernel_rfl]; exact do_TII) ?_
  rw [show (lenOf 115 - 1).toNat = 6 by kernel_rfl, show lenOf 115 = 7 by kernel_rfl, show cycOf 115 = 17 by kernel_rfl, show anP 0 32 = 0 by unfold anP; decide +kernel]
  unfold trS
  rw [show beh M (1024 + 1) 6 0 = M 1025 from rfl, show beh M (1024 + 1) 6 1 = M 1026 from rfl, show beh M (1024 + 1) 6 2 = M 1027 from rfl, show beh M (1024 + 1) 6 3 = M 1028 from rfl, show beh M (1024 + 1) 6 4 = M 1029 from rfl, show beh M (1024 + 1) 6 5 = M 1030 from rfl, C1, C2, C3, C4, C5, C6]
  rw [show jn ((fr : Int) % 256) (32 + (fr : Int) / 256) = 8192 + (fr : Int) by unfold jn; omega, show jn ((tu : Int) % 256) (32 + (tu : Int) / 256) = 8192 + (tu : Int) by unfold jn; omega, show jn ((n : Int) % 256) ((n : Int) / 256) = (n : Int) by unfold jn; omega]
  rw [show countOf (n : Int) = (n : Int) by unfold countOf; rw [if_neg (by omega)]; omega, Int.toNat_natCast]
  exact cz_trN bs rfl n h1 h2 h3.2
theorem sm_next {W w w' : World} {b v c d g : Nat} {bs : List Int} {M : Nat → Int} {row : Array Value} (h : St W w b v c d g bs M row) (k : Below w.heap.size w w') : St W w' b v c d g bs M row := by
  obtain ⟨h1, h2, h3, r⟩ := h
  exact ⟨h1.next k, (k.block g (lt_of_block h2)).trans h2, bnext h3 k, r⟩
def flB (i : Nat) : Int := ((i : Int) * 7 + (i : Int) / 8) % 256
def flM (M : Nat → Int) (k : Nat) : Nat → Int := fun j => if 2048 ≤ j ∧ j < 2048 + k then flB (j - 2048) else M j
theorem flM_next (M : Nat → Int) (k : Nat) : up (flM M k) (2048 + k) (flB k) = flM M (k + 1) := funext fun j => by
  unfold up flM
  by_cases e : j = 2048 + k
  · rw [if_pos e, if_pos (by omega), e, show 2048 + k - 2048 = k by omega]
  · rw [if_neg e]
    by_cases e2 : 2048 ≤ j ∧ j < 2048 + k
    · rw [if_pos e2, if_pos (by omega)]
    · rw [if_neg e2, if_neg (by omega)]
theorem flB_in (i : Nat) : 0 ≤ flB i ∧ flB i < 256 := by unfold flB; omega
theorem flM_in {M : Nat → Int} (hb : ∀ j, 0 ≤ M j ∧ M j < 256) (k : Nat) : ∀ j, 0 ≤ flM M k j ∧ flM M k j < 256 := fun j => by
  unfold flM
  split
  · exact flB_in _
  · exact hb j
set_option maxHeartbeats 2000000 in
theorem cpuMoves_walk (a0 a1 a2 : Int) (W : World) (w0 : (Lit.int .i64 a0).wf = true) (w1 : (Lit.int .i64 a1).wf = true) (w2 : (Lit.int .i64 a2).wf = true) (hL : Tabs W ∧ HasErr W ∧ CT W) :
    Calls Tryz.prog 6 #[.int .i64 a0, .int .i64 a1, .int .i64 a2] W fun e w' => e = .returned (.bool true) ∧ Below W.heap.size W w' := by
  obtain ⟨n0, hn0, eN⟩ : ∃ k : Nat, k < 256 ∧ bits .and .i64 a0 255 = (k : Int) := ⟨(a0 % 256).toNat, by omega, by rw [and_255]; omega⟩
  obtain ⟨f0, hf0, eF⟩ : ∃ k : Nat, k < 1024 ∧ bits .and .i64 a1 1023 = (k : Int) := ⟨(a1 % 1024).toNat, by omega, by rw [show bits .and .i64 a1 1023 = a1 % 1024 from and_mask 10 (by decide) a1]; omega⟩
  obtain ⟨t0, ht0, eT⟩ : ∃ k : Nat, k < 1024 ∧ bits .and .i64 a2 1023 = (k : Int) := ⟨(a2 % 1024).toNat, by omega, by rw [show bits .and .i64 a2 1023 = a2 % 1024 from and_mask 10 (by decide) a2]; omega⟩
  have HL := hide hL
  clear hL w0 w1 w2
  go_enter Tryz.func6, Tryz.ntmps6
  go_wp2_with fail
  obtain ⟨n, en⟩ : ∃ n : Nat, n = 1 + n0 := ⟨_, rfl⟩
  obtain ⟨fr, ef⟩ : ∃ fr : Nat, fr = 2048 + f0 := ⟨_, rfl⟩
  obtain ⟨tu, et⟩ : ∃ tu : Nat, tu = 4096 + t0 := ⟨_, rfl⟩
  have i1 : (1 + (n0 : Int)) = (n : Int) := by omega
  have i2 : (2048 + (f0 : Int)) = (fr : Int) := by omega
  have i3 : (4096 + (t0 : Int)) = (tu : Int) := by omega
  simp only [i1, i2, i3]
  have hfr : 2048 ≤ fr ∧ fr < 3072 := by omega
  have htu : 4096 ≤ tu ∧ tu < 5120 := by omega
  have hn : 0 < n ∧ n ≤ 256 := by omega
  clear i1 i2 i3 en ef et
  obtain ⟨wa, hwa⟩ : ∃ wa, W.alloc (.cells (([115, (fr : Int) % 256, 32 + (fr : Int) / 256, (tu : Int) % 256, 32 + (tu : Int) / 256, (n : Int) % 256, (n : Int) / 256] : List Int).map (Value.int .u8)).toArray 5) = wa := ⟨_, rfl⟩
  have hwb := hwa
  simp only [List.map_cons, List.map_nil] at hwb
  rw [hwb]
  clear hwb
  have B0 := hide (show Below W.heap.size W wa by rw [← hwa]; exact (Below.refl _ W).alloc (Nat.le_refl _) _)
  have SL := hide (show SlB wa (some ⟨W.heap.size, 0, none⟩) 7 (fun i => [115, (fr : Int) % 256, 32 + (fr : Int) / 256, (tu : Int) % 256, 32 + (tu : Int) / 256, (n : Int) % 256, (n : Int) / 256].getD i 0) from lit_slb (l := [115, (fr : Int) % 256, 32 + (fr : Int) / 256, (tu : Int) % 256, 32 + (tu : Int) / 256, (n : Int) % 256, (n : Int) / 256]) (by rw [← hwa]; exact heap_alloc_new _ _) (show 7 ≤ 9223372036854775807 by decide) (fun y hy => by simp only [List.mem_cons, List.not_mem_nil, or_false] at hy; omega))
  clear hwa
  refine (put_is ⟨HL.out.1.next B0.out, HL.out.2.1.next B0.out, HL.out.2.2.next B0.out⟩ SL.out (nil_slb wa fun _ => 0) (by decide) (by decide)).mono ?_
  rintro e w1 ⟨b, v, c, d, bs, rfl, hc, ⟨lb, lv⟩, b1⟩
  have H1 := hide hc
  have B1 := hide (bnext B0.out b1)
  have LB := hide (show W.heap.size ≤ b ∧ W.heap.size ≤ v by have := B0.out.size; omega)
  clear hc lb lv b1 SL B0 HL
  obtain ⟨M0, hM⟩ : ∃ M, M = putM (fun i => [115, (fr : Int) % 256, 32 + (fr : Int) / 256, (tu : Int) % 256, 32 + (tu : Int) / 256, (n : Int) % 256, (n : Int) / 256].getD i 0) (fun _ => 0) 7 0 := ⟨_, rfl⟩
  rw [← hM] at H1
  have MM := hide (show M0 1024 = ((115 : Nat) : Int) ∧ (M0 1025 = (fr : Int) % 256 ∧ M0 1026 = 32 + (fr : Int) / 256) ∧ (M0 1027 = (tu : Int) % 256 ∧ M0 1028 = 32 + (tu : Int) / 256) ∧ M0 1029 = (n : Int) % 256 ∧ M0 1030 = (n : Int) / 256 by rw [hM]; exact ⟨rfl, ⟨rfl, rfl⟩, ⟨rfl, rfl⟩, rfl, rfl⟩)
  clear hM
  have MB := hide (fun j => H1.out.byte j)
  have S0 := hide (st_first H1.out B1.out LB.out #[.int .i64 0, .int .i64 0, .int .i64 0, .int .i64 0, .int .i64 0, .int .i64 0, .bool false, .int .i64 0])
  clear H1 B1 LB
  obtain ⟨g, hg⟩ : ∃ g, g = w1.heap.size := ⟨_, rfl⟩
  rw [← hg] at S0
  go_wp2_with (first
    | (rw [← hg]; clear hg; refine store_core rfl (.tmp 8) (.tmp 43) rfl S0.out rfl rfl _ rfl rfl (by kernel_rfl) ?_; intro x0 h2; have S2 := hide h2; clear h2 S0))
  go_loopw [9] (fun v9 wr => ∃ (t : Nat), t ≤ 2048 ∧ v9 = .int .i64 (t : Int) ∧ St W wr b v c d g bs (flM M0 t) #[.int .i64 0, .int .i64 0, .int .i64 0, .int .i64 255, .int .i64 0, .int .i64 9216, .bool false, .int .i64 0]) (fun v9 _ => 2048 - (intOf v9).toNat)
  case atStart => exact ⟨0, Nat.zero_le _, rfl, by rw [show flM M0 0 = M0 from funext fun j => by unfold flM; rw [if_neg (by omega)]]; exact S2.out⟩
  case round =>
    clear S2
    obtain ⟨t, ht, rfl, hS⟩ := hrel
    have S3 := hide hS
    clear hS
    by_cases hlt : t < 2048
    · have c3 := S3.out.get (2048 + t) (by omega)
      have f3 := S3.out.fro (2048 + t) (by omega)
      have eB : IntKind.u8.wrap ((t : Int) * 7 + (t : Int) / 8) = flB t := rfl
      go_wp2_with fail
      refine ⟨⟨t + 1, by omega, by go_num, ?_⟩, by simp [intOf]; omega⟩
      have k := S3.out.set (2048 + t) (by omega) (flB_in t)
      rw [flM_next] at k
      exact k
    · obtain rfl : t = 2048 := by omega
      obtain ⟨M1, hM1⟩ : ∃ M1, M1 = flM M0 2048 := ⟨_, rfl⟩
      have lo : ∀ j, j < 2048 → M1 j = M0 j := fun j hj => by rw [hM1]; unfold flM; rw [if_neg (by omega)]
      have hi : ∀ j, j < 2048 → M1 (2048 + j) = flB j := fun j hj => by rw [hM1]; unfold flM; rw [if_pos (by omega), show 2048 + j - 2048 = j by omega]
      have MB1 : ∀ j, 0 ≤ M1 j ∧ M1 j < 256 := by rw [hM1]; exact flM_in MB.out 2048
      rw [← hM1] at S3
      clear hM1
      have C := MM.out
      have G := hide (go_tii (bs := bs) (M := M1) (fr := fr) (tu := tu) (n := n) (by omega) (by omega) (by omega) ⟨by rw [lo _ (by decide)]; exact C.1, ⟨by rw [lo _ (by decide)]; exact C.2.1.1, by rw [lo _ (by decide)]; exact C.2.1.2⟩, ⟨by rw [lo _ (by decide)]; exact C.2.2.1.1, by rw [lo _ (by decide)]; exact C.2.2.1.2⟩, by rw [lo _ (by decide)]; exact C.2.2.2.1, by rw [lo _ (by decide)]; exact C.2.2.2.2⟩)
      have mv := mv_is (M := M1) (fr := fr) (tu := tu) (n := n) (by omega) MB1 n (Nat.le_refl _)
      have V1 := hide (show ∀ i, i < n → mvM M1 fr tu n (tu + i) = flB (fr - 2048 + i) from fun i hi2 => by
        rw [mv, if_pos (by omega), show fr + (tu + i - tu) = 2048 + (fr - 2048 + i) by omega]
        exact hi _ (by omega))
      have V2 := hide (show ∀ i, i < n → mvM M1 fr tu n (fr + i) = flB (fr - 2048 + i) from fun i hi2 => by
        rw [mv, if_neg (by omega), show fr + i = 2048 + (fr - 2048 + i) by omega]
        exact hi _ (by omega))
      clear C MM MB lo hi MB1 mv hlt
      obtain ⟨M2, hM2⟩ : ∃ M2, M2 = mvM M1 fr tu n := ⟨_, rfl⟩
      rw [← hM2] at G V1 V2
      clear hM2
      go_wp2_with (first
        | (refine load_core rfl (.tmp 8) rfl S3.out rfl rfl ?_)
        | (go_at_call 13; refine (st_step S3.out G.out).mono ?_; rintro e w4 ⟨rfl, h4⟩; have S4 := hide h4; clear h4 S3 G))
      refine under_name fun xs hxs => ?_
      have g2 := hide (show xs.heap[w4.heap.size]? = some (.cells #[.int .i64 0, .int .i64 0, .int .i64 0, .int .i64 255, .int .i64 0, .int .i64 9223, .bool false, .int .i64 0] 58 (0, 0)) by rw [hxs]; exact heap_alloc_new _ _)
      have b5 : Below w4.heap.size w4 xs := by rw [hxs]; exact (Below.refl _ _).alloc (Nat.le_refl _) _
      have S5 := hide (sm_next S4.out b5)
      clear hxs b5 S4
      generalize w4.heap.size = g5 at *
      go_loopw [12] (fun v12 wr => ∃ (t : Nat), t ≤ n ∧ v12 = .int .i64 (t : Int) ∧ Below xs.heap.size xs wr) (fun v12 _ => n - (intOf v12).toNat)
      case atStart => exact ⟨0, Nat.zero_le _, rfl, Below.refl _ _⟩
      case round =>
        obtain ⟨t, ht2, rfl, bel⟩ := hrel
        have BL := hide bel
        have S6 := hide (sm_next S5.out bel)
        have g6 := (bel.block g5 (lt_of_block g2.out)).trans g2.out
        clear bel
        by_cases hlt : t < n
        · have i1 := kept_cell (S6.out.get (tu + t) (by omega)) S6.out.lt
          have i2 := kept_cell (S6.out.get (fr + t) (by omega)) S6.out.lt
          rw [V1.out t hlt] at i1
          rw [V2.out t hlt] at i2
          have eB : IntKind.u8.wrap (((fr : Int) - 2048 + (t : Int)) * 7 + ((fr : Int) - 2048 + (t : Int)) / 8) = flB (fr - 2048 + t) := by
            unfold flB
            show _ % 256 = _
            rw [show ((fr - 2048 + t : Nat) : Int) = (fr : Int) - 2048 + (t : Int) by omega]
          have eM : ((fr : Int) - 2048 + (t : Int)) < 2048 ∧ 0 ≤ (fr : Int) - 2048 + (t : Int) := by omega
          generalize flB (fr - 2048 + t) = X at *
          clear g6
          go_wp2_with fail
          haveI := kept_some wr
          try dsimp only
          refine wp_region_kept (by kernel_rfl) (by kernel_rfl) ?_
          try simp only [List.append_eq, List.cons_append, List.nil_append]
          repeat (go_big_quiet_step ((fail)))
          refine wpQuiet_nil ?_
          rintro _ ⟨wk, rfl⟩
          have B10 := hide (bnext BL.out wk.below)
          clear i1 i2 BL S6
          generalize wk.val = w10 at *
          go_wp2_with fail
          go_roundw
          case rel => exact ⟨t + 1, by omega, by go_num, B10.out⟩
          case measure => simp [intOf]; omega
        · obtain rfl : t = n := by omega
          have r4 := S6.out.reg 4 rfl
          have d4 : wr.cell? ⟨g5, 4, none⟩ = some (.int .i64 0) := (cell_of_row _ _ 4 _ _ _ g6).trans rfl
          have d5 : wr.cell? ⟨g5, 5, none⟩ = some (.int .i64 9223) := (cell_of_row _ _ 5 _ _ _ g6).trans rfl
          clear g6
          go_wp2_with fail
          all_goals first | (go_ret; exact ⟨rfl, S6.out.below⟩) | (exfalso; simp_all; done) | (exfalso; omega) | trace_state
end Go.Proofs.YtoijhhbiknhlnaaGreatDoor
