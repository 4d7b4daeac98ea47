/- The walk of ParityJoins. -/
import Derived.Test.YtfagfenmampigaaS
import Derived.Test.YtfagfenmampigaaAB
namespace Go.Proofs.Ytfagfenmampigaa
open Go.RowKit Go.ChangeShapes
/-- What Join, and the reference's Right and Join, answer for four numbers. -/
theorem row_fact (K X Y N : Int) : ∃ (J E : Int) (r1 r2 : Bool),
    (∀ W, Calls Try.prog 19 #[.int .i64 K, .int .i64 X, .int .i64 Y, .int .i64 N] W fun e w' => e = .returned (.tuple #[.int .i64 J, .int .i64 E]) ∧ Below W.heap.size W w') ∧
    (∀ W, Calls Try.prog 15 #[.int .i64 K, .int .i64 X] W fun e w' => e = .returned (.bool r1) ∧ w' = W) ∧
    (r1 = true → ∀ W, Calls Try.prog 15 #[.int .i64 K, .int .i64 Y] W fun e w' => e = .returned (.bool r2) ∧ w' = W) ∧
    ((r1 = true ∧ r2 = true ∧ 0 ≤ N ∧ N ≤ 1073741824 ∧ (0 < N ∨ Y = 0) ∧ E = 0 ∧ (N ≤ 2000 → ∀ W, Calls Try.prog 20 #[.int .i64 K, .int .i64 X, .int .i64 Y, .int .i64 N] W fun e w' => e = .returned (.int .i64 J) ∧ w' = W)) ∨
      (J = 0 ∧ E = 2 ∧ (r1 = false ∨ (r1 = true ∧ r2 = false) ∨ (r1 = true ∧ r2 = true ∧ (N < 0 ∨ 1073741824 < N ∨ (N = 0 ∧ Y ≠ 0)))))) := by
  have keep : ∀ {id : FuncId} {args : Array Value} {a : Ending}, (∀ W, Calls Try.prog id args W fun e w' => e = a ∧ w' = W) → ∀ W, Calls Try.prog id args W fun e w' => e = a ∧ Below W.heap.size W w' := fun h W => (h W).mono fun e w' ⟨h1, h2⟩ => ⟨h1, by rw [h2]; exact Below.refl _ _⟩
  by_cases hK : badK K
  · exact ⟨0, 2, false, false, keep fun W => join_kind K X Y N W hK, fun W => right_kind K X W hK, fun h => by (cases h), .inr ⟨rfl, rfl, .inl rfl⟩⟩
  · obtain ⟨b, rfl⟩ : ∃ b : Bool, K = if b then 2 else 1 := by
      unfold badK at hK
      by_cases h : K = 2
      · exact ⟨true, h⟩
      · exact ⟨false, by simp; omega⟩
    by_cases hX : badC X
    · exact ⟨0, 2, false, false, keep fun W => join_a b X Y N W hX, fun W => right_crc b X W hX, fun h => by (cases h), .inr ⟨rfl, rfl, .inl rfl⟩⟩
    · have hX1 : 0 ≤ X ∧ X ≤ 4294967295 := by unfold badC at hX; omega
      have c1 := fun W => right_yes b X W hX1.1 hX1.2
      by_cases hY : badC Y
      · exact ⟨0, 2, true, false, keep fun W => join_b b X Y N W hX1.1 hX1.2 hY, c1, fun _ W => right_crc b Y W hY, .inr ⟨rfl, rfl, .inr (.inl ⟨rfl, rfl⟩)⟩⟩
      · have hY1 : 0 ≤ Y ∧ Y ≤ 4294967295 := by unfold badC at hY; omega
        have c2 := fun W => right_yes b Y W hY1.1 hY1.2
        by_cases h0 : N < 0
        · exact ⟨0, 2, true, true, keep fun W => join_lo b X Y N W hX1.1 hX1.2 hY1.1 hY1.2 h0, c1, fun _ => c2, .inr ⟨rfl, rfl, .inr (.inr ⟨rfl, rfl, .inl h0⟩)⟩⟩
        · by_cases h1 : 1073741824 < N
          · exact ⟨0, 2, true, true, keep fun W => join_hi b X Y N W hX1.1 hX1.2 hY1.1 hY1.2 h1, c1, fun _ => c2, .inr ⟨rfl, rfl, .inr (.inr ⟨rfl, rfl, .inr (.inl h1)⟩)⟩⟩
          · by_cases h2 : N = 0 ∧ Y ≠ 0
            · obtain ⟨rfl, h3⟩ := h2
              exact ⟨0, 2, true, true, keep fun W => join_z b X Y W hX1.1 hX1.2 hY1.1 hY1.2 h3, c1, fun _ => c2, .inr ⟨rfl, rfl, .inr (.inr ⟨rfl, rfl, .inr (.inr ⟨rfl, h3⟩)⟩)⟩⟩
            · obtain ⟨x, rfl⟩ := Int.eq_ofNat_of_zero_le hX1.1
              obtain ⟨y, rfl⟩ := Int.eq_ofNat_of_zero_le hY1.1
              obtain ⟨n, rfl⟩ := Int.eq_ofNat_of_zero_le (show 0 ≤ N by omega)
              exact ⟨_, 0, true, true, fun W => join_yes b x y n W (by omega) (by omega) (by omega) (by omega), c1, fun _ => c2, .inl ⟨rfl, rfl, by omega, by omega, by omega, rfl, fun h W => rJoin_any b x y n W (by unfold isW; omega) (by unfold isW; omega) (by omega)⟩⟩
theorem built39 (a b c d : Int) : Try.prog.built 39 [(0, .int .i64 a), (1, .int .i64 b), (2, .int .i64 c), (3, .int .i64 d)] = some #[.int .i64 a, .int .i64 b, .int .i64 c, .int .i64 d] := by kernel_rfl
theorem built40 (a0 a1 a2 a3 b0 b1 b2 b3 c0 c1 c2 c3 d0 d1 d2 d3 : Int) : Try.prog.built 40 [(0, .agg #[.int .i64 a0, .int .i64 a1, .int .i64 a2, .int .i64 a3]), (1, .agg #[.int .i64 b0, .int .i64 b1, .int .i64 b2, .int .i64 b3]), (2, .agg #[.int .i64 c0, .int .i64 c1, .int .i64 c2, .int .i64 c3]), (3, .agg #[.int .i64 d0, .int .i64 d1, .int .i64 d2, .int .i64 d3])] =
    some #[.int .i64 a0, .int .i64 a1, .int .i64 a2, .int .i64 a3, .int .i64 b0, .int .i64 b1, .int .i64 b2, .int .i64 b3, .int .i64 c0, .int .i64 c1, .int .i64 c2, .int .i64 c3, .int .i64 d0, .int .i64 d1, .int .i64 d2, .int .i64 d3] := by kernel_rfl
theorem idx40 (a0 a1 a2 a3 b0 b1 b2 b3 c0 c1 c2 c3 d0 d1 d2 d3 : Int) (j : Nat) (hj : j < 4) : ∃ K X Y N : Int, (∀ W, (Instr.index 40 (.agg #[.int .i64 a0, .int .i64 a1, .int .i64 a2, .int .i64 a3, .int .i64 b0, .int .i64 b1, .int .i64 b2, .int .i64 b3, .int .i64 c0, .int .i64 c1, .int .i64 c2, .int .i64 c3, .int .i64 d0, .int .i64 d1, .int .i64 d2, .int .i64 d3]) (.int .i64 (j : Int))).run Try.prog W = .ok (.agg #[.int .i64 K, .int .i64 X, .int .i64 Y, .int .i64 N]) W) := by
  have h : j = 0 ∨ j = 1 ∨ j = 2 ∨ j = 3 := by omega
  rcases h with rfl | rfl | rfl | rfl
  · exact ⟨a0, a1, a2, a3, fun W => by kernel_rfl⟩
  · exact ⟨b0, b1, b2, b3, fun W => by kernel_rfl⟩
  · exact ⟨c0, c1, c2, c3, fun W => by kernel_rfl⟩
  · exact ⟨d0, d1, d2, d3, fun W => by kernel_rfl⟩
def Z39 : Array Value := #[.int .i64 0, .int .i64 0, .int .i64 0, .int .i64 0]
def Z40 : Array Value := #[.int .i64 0, .int .i64 0, .int .i64 0, .int .i64 0, .int .i64 0, .int .i64 0, .int .i64 0, .int .i64 0, .int .i64 0, .int .i64 0, .int .i64 0, .int .i64 0, .int .i64 0, .int .i64 0, .int .i64 0, .int .i64 0]
theorem zero39 (w : World) : (zeroValue 39).run Try.prog w = .ok (.agg Z39) w := by kernel_rfl
theorem zero40 (w : World) : (zeroValue 40).run Try.prog w = .ok (.agg Z40) w := by kernel_rfl
theorem size39 : (Try.prog.info? 39).map (·.size) = some 4 := by kernel_rfl
theorem size40 : (Try.prog.info? 40).map (·.size) = some 16 := by kernel_rfl
theorem Wk.laid {w W : World} {ps : List (Nat × Obj)} (h : Wk w W ps) (Z cs : Array Value) (t : TypeId) : Wk w ((W.alloc (.cells Z t)).setRow W.heap.size cs) ((W.heap.size, .cells cs t (0, 0)) :: ps) := by
  have hb : Below W.heap.size W ((W.alloc (.cells Z t)).setRow W.heap.size cs) := below_setRow ((Below.refl _ W).alloc (Nat.le_refl _) _) (Nat.le_refl _) _
  have h2 := h.step hb
  refine ⟨h2.b, fun x hx => ?_⟩
  rcases List.mem_cons.1 hx with rfl | hx
  · exact setRow_heap _ _ _ _ _ _ (heap_alloc_new W _)
  · exact h2.k x hx
end Go.Proofs.Ytfagfenmampigaa
