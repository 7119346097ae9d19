/- The law's slices of calls: the cells of one of them. -/
import Derived.Test.YtbeiphnlckflpaaStructRows
import Derived.Test.YtbeiphnlckflpaaState13
namespace Go.Proofs.Ytbeiphnlckflpaa
open Go.RowKit
set_option linter.unusedVariables false

def IsActs (w : World) (a : Option Addr) (len cap : Nat) : Prop := IsStructs [some .i64, some .i64, some .i64, none] w a len cap
/-- The i-th: its four cells, in any world in whose old blocks nothing has turned. -/
theorem IsActs.act {w : World} {a : Option Addr} {len cap : Nat} (h : IsActs w a len cap) (i : Nat) (hi : i < len) : ∃ b off k n x hi, a = some ⟨b, off, none⟩ ∧ b < w.heap.size ∧ len ≤ cap ∧ cap ≤ maxLen ∧
    ∀ w', Below w.heap.size w w' → w'.cell? ⟨b, off + i * 4, none⟩ = some (.int .i64 k) ∧ w'.cell? ⟨b, off + i * 4 + 1, none⟩ = some (.int .i64 n) ∧ w'.cell? ⟨b, off + i * 4 + 2, none⟩ = some (.int .i64 x) ∧ w'.cell? ⟨b, off + i * 4 + 3, none⟩ = some (.bool hi) := by
  obtain ⟨b, off, e, hb, h1, h2, hc⟩ := IsStructs.cells h (by omega)
  obtain ⟨v0, ⟨k, rfl, _⟩, c0⟩ := hc i hi 0 _ rfl
  obtain ⟨v1, ⟨n, rfl, _⟩, c1⟩ := hc i hi 1 _ rfl
  obtain ⟨v2, ⟨x, rfl, _⟩, c2⟩ := hc i hi 2 _ rfl
  obtain ⟨v3, ⟨q, rfl⟩, c3⟩ := hc i hi 3 _ rfl
  exact ⟨b, off, k, n, x, q, e, hb, h1, h2, fun w' bw => ⟨(bw.cell (p := ⟨b, _, none⟩) hb).trans c0, (bw.cell (p := ⟨b, _, none⟩) hb).trans c1, (bw.cell (p := ⟨b, _, none⟩) hb).trans c2, (bw.cell (p := ⟨b, _, none⟩) hb).trans c3⟩⟩
end Go.Proofs.Ytbeiphnlckflpaa
