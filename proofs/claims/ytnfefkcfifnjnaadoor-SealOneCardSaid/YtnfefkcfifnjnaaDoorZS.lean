/- A slice from some place on. -/
import Derived.Test.YtnfefkcfifnjnaaDoorZC
import Derived.Laws.Slices
namespace Go.Proofs.YtnfefkcfifnjnaaDoor
open Go.RowKit Go.Shelf
theorem size5 (w : World) : (sizeOf 5).run Tryd.prog w = .ok 1 w := by kernel_rfl
theorem elem59 : Tryd.prog.elem 25 = 5 := by kernel_rfl
theorem slice_run (G p R C z : Nat) (h : z ≤ R) : ∃ a', (∀ wx : World, (Instr.slice 25 (.slice (some ⟨G, p, none⟩) R C) (some (.int .i64 (z : Int))) none none).run Tryd.prog wx = .ok (.slice a' (R - z) (C - z)) wx) ∧ (z < C → a' = some ⟨G, p + z, none⟩) := by
  refine ⟨if C = z then some ⟨G, p, none⟩ else (some ⟨G, p, none⟩ : Option Addr).map (·.add (z * 1)), fun wx => ?_, fun hz => ?_⟩
  · have e := run_slice_l (P := Tryd.prog) (t := 25) (a := some ⟨G, p, none⟩) (len := R) (cap := C) (w := wx) (ht := by rw [elem59]; exact Tryd.underlying25) (kl := .i64) (l := (z : Int)) (h0 := by omega) (h1 := by omega)
    rw [e, elem59, size5]
    simp [Result.andThen, sliced]
  · have e : (⟨G, p, none⟩ : Addr).add z = ⟨G, p + z, none⟩ := by unfold Addr.add; split <;> simp_all
    rw [if_neg (by omega)]
    simp [e]
end Go.Proofs.YtnfefkcfifnjnaaDoor
