/- What the walk of ParityChecks carries. -/
import Derived.Test.YtfagfenmampigaaS
import Derived.Test.YtfagfenmampigaaAB
import Derived.Great.BuildSlice
namespace Go.Proofs.Ytfagfenmampigaa
open Go.RowKit Go.ChangeShapes
set_option maxRecDepth 100000 in
theorem told_err (e : Int) (w : World) (h : e ≠ 0) : Calls Try.prog 18 #[.int .i64 0, .int .i64 e, .int .i64 e, .int .i64 0] w fun x w' => x = .returned (.bool true) ∧ w' = w := by
  go_enter Try.func18, Try.ntmps18
  go_wp2
  go_ret
  exact ⟨rfl, rfl⟩
set_option maxRecDepth 100000 in
theorem told_ok (n : Int) (w : World) : Calls Try.prog 18 #[.int .i64 n, .int .i64 0, .int .i64 0, .int .i64 n] w fun x w' => x = .returned (.bool true) ∧ w' = w := by
  go_enter Try.func18, Try.ntmps18
  go_wp2
  go_ret
  exact ⟨rfl, rfl⟩
/-- What More, Crc, the reference's Right, More and Crc answer for two numbers and octets. -/
theorem chk_fact (K X : Int) (T : ByteArray) : ∃ (M E D F : Int) (r0 r1 : Bool),
    (∀ W, Calls Try.prog 13 #[.int .i64 K, .int .i64 X, .string T] W fun e w' => e = .returned (.tuple #[.int .i64 M, .int .i64 E]) ∧ Below W.heap.size W w') ∧
    (∀ W, Calls Try.prog 14 #[.int .i64 K, .string T] W fun e w' => e = .returned (.tuple #[.int .i64 D, .int .i64 F]) ∧ Below W.heap.size W w') ∧
    (∀ W, Calls Try.prog 15 #[.int .i64 K, .int .i64 X] W fun e w' => e = .returned (.bool r0) ∧ w' = W) ∧
    (∀ W, Calls Try.prog 15 #[.int .i64 K, .int .i64 0] W fun e w' => e = .returned (.bool r1) ∧ w' = W) ∧
    ((r0 = false ∧ r1 = false ∧ M = 0 ∧ E = 2 ∧ D = 0 ∧ F = 2) ∨
     (r0 = false ∧ r1 = true ∧ T.size ≤ 4096 ∧ M = 0 ∧ E = 2 ∧ F = 0 ∧ ∀ W, Calls Try.prog 17 #[.int .i64 K, .string T] W fun e w' => e = .returned (.int .i64 D) ∧ Below W.heap.size W w') ∨
     (r0 = false ∧ r1 = true ∧ 4096 < T.size ∧ M = 0 ∧ E = 2 ∧ D = 0 ∧ F = 3) ∨
     (r0 = true ∧ r1 = true ∧ T.size ≤ 4096 ∧ E = 0 ∧ F = 0 ∧ (∀ W, Calls Try.prog 16 #[.int .i64 K, .int .i64 X, .string T] W fun e w' => e = .returned (.int .i64 M) ∧ Below W.heap.size W w') ∧ ∀ W, Calls Try.prog 17 #[.int .i64 K, .string T] W fun e w' => e = .returned (.int .i64 D) ∧ Below W.heap.size W w') ∨
     (r0 = true ∧ r1 = true ∧ 4096 < T.size ∧ M = 0 ∧ E = 3 ∧ D = 0 ∧ F = 3)) := by
  have keep : ∀ {id : FuncId} {args : Array Value} {a : Ending}, (∀ W, Calls Try.prog id args W fun e w' => e = a ∧ w' = W) → ∀ W, Calls Try.prog id args W fun e w' => e = a ∧ Below W.heap.size W w' := fun h W => (h W).mono fun e w' ⟨h1, h2⟩ => ⟨h1, by rw [h2]; exact Below.refl _ _⟩
  by_cases hK : badK K
  · exact ⟨0, 2, 0, 2, false, false, keep fun W => more_kind K X T W hK, keep fun W => crc_kind K T W hK, fun W => right_kind K X W hK, fun W => right_kind K 0 W hK, .inl ⟨rfl, rfl, rfl, rfl, rfl, rfl⟩⟩
  · obtain ⟨b, rfl⟩ : ∃ b : Bool, K = if b then 2 else 1 := by
      unfold badK at hK
      by_cases h : K = 2
      · exact ⟨true, h⟩
      · exact ⟨false, by simp; omega⟩
    have c1 := fun W => right_yes b 0 W (by omega) (by omega)
    have hTL : T.data.toList.length = T.size := rfl
    have hT : bs T.data.toList = T := rfl
    by_cases hX : badC X
    · have c0 := fun W => right_crc b X W hX
      by_cases hs : T.size ≤ 4096
      · have h1 := fun W => crc_yes b T.data.toList W (by omega)
        have h2 := fun W => rcrc_any b T.data.toList W (by omega)
        rw [hT] at h1 h2
        exact ⟨0, 2, _, 0, false, true, keep fun W => more_crc b X T W hX, h1, c0, c1, .inr (.inl ⟨rfl, rfl, hs, rfl, rfl, rfl, h2⟩)⟩
      · exact ⟨0, 2, 0, 3, false, true, keep fun W => more_crc b X T W hX, keep fun W => crc_long b T W (by omega), c0, c1, .inr (.inr (.inl ⟨rfl, rfl, by omega, rfl, rfl, rfl, rfl⟩))⟩
    · have hX1 : 0 ≤ X ∧ X ≤ 4294967295 := by unfold badC at hX; omega
      have c0 := fun W => right_yes b X W hX1.1 hX1.2
      by_cases hs : T.size ≤ 4096
      · obtain ⟨x, rfl⟩ := Int.eq_ofNat_of_zero_le hX1.1
        have h1 := fun W => crc_yes b T.data.toList W (by omega)
        have h2 := fun W => rcrc_any b T.data.toList W (by omega)
        have h3 := fun W => more_yes b x T.data.toList W (by omega) (by omega)
        have h4 := fun W => rmore_any b x T.data.toList W (by omega) (by omega)
        rw [hT] at h1 h2 h3 h4
        exact ⟨_, 0, _, 0, true, true, h3, h1, c0, c1, .inr (.inr (.inr (.inl ⟨rfl, rfl, hs, rfl, rfl, h4, h2⟩)))⟩
      · exact ⟨0, 3, 0, 3, true, true, keep fun W => more_long b X T W hX1.1 hX1.2 (by omega), keep fun W => crc_long b T W (by omega), c0, c1, .inr (.inr (.inr (.inr ⟨rfl, rfl, by omega, rfl, rfl, rfl, rfl⟩)))⟩
theorem built28 (a0 a1 b0 b1 c0 c1 : Int) : Try.prog.built 28 [(0, .agg #[.int .i64 a0, .int .i64 a1]), (1, .agg #[.int .i64 b0, .int .i64 b1]), (2, .agg #[.int .i64 c0, .int .i64 c1])] = some #[.int .i64 a0, .int .i64 a1, .int .i64 b0, .int .i64 b1, .int .i64 c0, .int .i64 c1] := by kernel_rfl
theorem idx28 (a0 a1 b0 b1 c0 c1 : Int) (j : Nat) (hj : j < 3) : ∃ K X : Int, ∀ W, (Instr.index 28 (.agg #[.int .i64 a0, .int .i64 a1, .int .i64 b0, .int .i64 b1, .int .i64 c0, .int .i64 c1]) (.int .i64 (j : Int))).run Try.prog W = .ok (.agg #[.int .i64 K, .int .i64 X]) W := by
  have h : j = 0 ∨ j = 1 ∨ j = 2 := by omega
  rcases h with rfl | rfl | rfl
  · exact ⟨a0, a1, fun W => by kernel_rfl⟩
  · exact ⟨b0, b1, fun W => by kernel_rfl⟩
  · exact ⟨c0, c1, fun W => by kernel_rfl⟩
def Z27 : Array Value := #[.int .i64 0, .int .i64 0]
theorem zero27 (w : World) : (zeroValue 27).run Try.prog w = .ok (.agg Z27) w := by kernel_rfl
theorem size27 : (Try.prog.info? 27).map (·.size) = some 2 := by kernel_rfl
theorem Wk.laid {w W : World} {ps : List (Nat × Obj)} (h : Wk w W ps) (Z cs : Array Value) (t : TypeId) : Wk w ((W.alloc (.cells Z t)).setRow W.heap.size cs) ((W.heap.size, .cells cs t (0, 0)) :: ps) := by
  have hb : Below W.heap.size W ((W.alloc (.cells Z t)).setRow W.heap.size cs) := below_setRow ((Below.refl _ W).alloc (Nat.le_refl _) _) (Nat.le_refl _) _
  have h2 := h.step hb
  refine ⟨h2.b, fun x hx => ?_⟩
  rcases List.mem_cons.1 hx with rfl | hx
  · exact setRow_heap _ _ _ _ _ _ (heap_alloc_new W _)
  · exact h2.k x hx
theorem Wk.made {w W : World} {ps : List (Nat × Obj)} (h : Wk w W ps) (cs : Array Value) (t : TypeId) : Wk w (W.alloc (.cells cs t)) ((W.heap.size, .cells cs t (0, 0)) :: ps) := by
  have h2 := h.alloc (.cells cs t)
  refine ⟨h2.b, fun x hx => ?_⟩
  rcases List.mem_cons.1 hx with rfl | hx
  · exact heap_alloc_new W _
  · exact h2.k x hx
theorem Wk.less {w W : World} {ps qs : List (Nat × Obj)} (h : Wk w W ps) (hs : ∀ x ∈ qs, x ∈ ps) : Wk w W qs := ⟨h.b, fun x hx => h.k x (hs x hx)⟩
theorem slice_q29 (g q : Nat) (hq : q ≤ 2) (wx : World) : (Instr.slice 29 (.slice (some ⟨g, 0, none⟩) 2 2) none (some (.int .i64 (q : Int))) none).run Try.prog wx = .ok (.slice (some ⟨g, 0, none⟩) q 2) wx := by
  have := run_slice_h (P := Try.prog) (w := wx) 29 (some ⟨g, 0, none⟩) 2 2 (by kernel_rfl) .i64 (q : Int) (by omega) (by omega)
  rw [this, Int.toNat_natCast]
  have hs : (sizeOf (Try.prog.elem 29)).run Try.prog wx = .ok 1 wx := by kernel_rfl
  rw [hs]
  simp [sliced, Result.andThen, Addr.add]
theorem wp_buildTo {P : Program} {o : Oper} {a : Act} {w : World} {K : Act → World → Prop} {Q : Exit → Act → World → Prop} (t : TypeId) (parts : Array (Nat × Operand)) (ho : o.op = .build t parts)
    (cells : Array Value) (hf : P.built t (parts.map fun (i, x) => (i, a.eval x)).toList = some cells) (h : K (a.put o.dst (.agg cells)) w) : o.wp P a w K Q :=
  wp_build t parts ho (by rw [hf]; rfl) (by rw [hf]; exact h)
theorem info9b : (Try.prog.info? 9).map (fun i => (i.zero, i.size, i.bytes)) = some (some (.string ⟨#[]⟩), 1, 16) := by kernel_rfl
theorem fill2 (A B : ByteArray) : Instr.fill (fun i => some (i * 1, 1)) ((Array.range (2 * 1)).map ((Value.string ⟨#[]⟩).cells[· % (Value.string ⟨#[]⟩).cells.size]!)) [(0, .string A), (1, .string B)] = some #[.string A, .string B] := by kernel_rfl
/-- What is repeated: of at least one octet. -/
theorem rep_le (l : List UInt8) (d n : Nat) (h : d ≤ n / l.length) (h1 : 1 ≤ l.length) : (Lib.repeatL l (d + 1)).length ≤ n + l.length := by
  rw [repeatL_length, Nat.succ_mul]
  have := Nat.mul_le_mul_right l.length h
  have := Nat.div_mul_le_self n l.length
  omega
end Go.Proofs.Ytfagfenmampigaa
