/- The reference: append(v, make([]bool, 32)...). -/
import Derived.Test.YtfagfenmampigaaY
import Derived.Maps.AppendAt
namespace Go.Proofs.Ytfagfenmampigaa
open Go.RowKit Go.ChangeShapes
/-- 32 bits that are not set, as cells. -/
def f32C : List Value := boC (List.replicate 32 false)
theorem f32_zero : Builtin.zeroCells #[Value.bool false] 32 = f32C.toArray := by kernel_rfl
theorem f32_length : f32C.length = 32 := by rfl
theorem f32_one : ∀ u ∈ f32C, u.oneCell' = true := fun u hu => by
  obtain ⟨x, _, rfl⟩ := List.mem_map.1 hu
  rfl
theorem run_append_falses (w : World) (base : Nat) (ty : TypeId) (v : Value) (n : Nat) (xs : List Value) (hown : w.ownsRow base 4 1 v n xs) (hn : n ≤ 40000) (hbase : base ≤ w.heap.size) :
    ∃ v' w', (Builtin.append_ #[78, 3] ty #[v, .int .i64 32]).run Try.prog w = .ok v' w' ∧ w'.ownsRow base 4 1 v' (n + 32) (xs ++ f32C) ∧ w.grownBy w' v.ownBlock := by
  obtain ⟨i0, hi, hz0, hz1, hz2⟩ := info_parts info4
  have hw : IntKind.i64.wrap (32 : Int) = 32 := IntWalk.i64_in _ (by omega)
  have hzf := f32_zero
  have hl : f32C.length = 32 := f32_length
  have hlen : (xs ++ f32C).length = (n + 32) * 1 := by rw [List.length_append, hown.1, hl]; omega
  have grown : ∀ (old : Nat), old < n + 32 → ∀ (row : Option Nat),
      (w.drew.alloc (.cells (xs.toArray ++ f32C.toArray ++ Builtin.zeroCells #[Value.bool false] (grownCap w (n + 32) old 4 - (n + 32))) 4)).ownsRow base 4 1
        (.slice (some ⟨w.heap.size, 0, none⟩) (n + 32) (grownCap w (n + 32) old 4)) (n + 32) (xs ++ f32C) ∧
      w.grownBy (w.drew.alloc (.cells (xs.toArray ++ f32C.toArray ++ Builtin.zeroCells #[Value.bool false] (grownCap w (n + 32) old 4 - (n + 32))) 4)) row := by
    intro old ho row
    have hge := grownCap_ge w (n + 32) old 4
    have hcm : grownCap w (n + 32) old 4 ≤ maxLen := grownCap_le_maxLen w (n + 32) old 4 (by unfold maxLen; omega)
    refine ⟨⟨hlen, .inr ⟨w.heap.size, _, _, rfl, hbase, heap_alloc_new w.drew _, hge, hcm, ?_, ?_⟩⟩, ⟨rfl, rfl, rfl, by simp, fun k hk _ => heap_alloc_old w.drew _ k hk⟩⟩
    · have := hown.1
      have h1 : (#[Value.bool false] : Array Value).size = 1 := rfl
      simp only [Array.size_append, List.size_toArray, size_zeroCells, hown.1, hl, h1]
      omega
    · simp only [Array.toList_append, List.append_assoc]
      rw [← List.append_assoc, ← hlen]
      exact List.take_left
  rcases hown.2 with ⟨rfl, rfl⟩ | ⟨g, cap, cur, rfl, hbg, hg, hnc, hcm, hcs, htake⟩
  · have hx : xs = [] := List.eq_nil_of_length_eq_zero (by simpa using hown.1)
    subst hx
    have hgr := grown 0 (by omega) (Value.ownBlock (.slice none 0 0))
    simp only [Nat.zero_add, List.nil_append, Array.empty_append] at hgr ⊢
    refine ⟨_, _, ?_, hgr.1, hgr.2⟩
    have h48 : ¬ (281474976710656 < Builtin.nextslicecap 32 0) := by decide
    simp [Builtin.append_, run_underlying Try.underlying78, run_underlying Try.underlying3, sizeOf, typeInfo, zeroValue, hi, hz0, hz1, hz2, asInt, asIntOf, go_sem, hw, h48, Question.forced, run_firstCells_none, newRow, grownCap, hzf]
    omega
  · by_cases hroom : n + 32 ≤ cap
    · have hfit : n * i0.size + f32C.length ≤ cur.size := by rw [hl, hcs, hz1]; omega
      have hst := run_storeCells_at Try.prog g (n * 1) 4 f32C 0 cur w hg (by rw [hz1] at hfit; simpa using hfit) f32_one
      simp only [Nat.add_zero] at hst
      have hr : (Builtin.append_ #[78, 3] ty #[.slice (some ⟨g, 0, none⟩) n cap, .int .i64 32]).run Try.prog w = .ok (.slice (some ⟨g, 0, none⟩) (n + 32) cap) (w.setRow g (cur.toList.take (n * 1) ++ f32C ++ cur.toList.drop (n * 1 + f32C.length)).toArray) := by
        rw [Nat.mul_one] at hst
        simp [Builtin.append_, run_underlying Try.underlying78, run_underlying Try.underlying3, sizeOf, typeInfo, zeroValue, hi, hz0, hz1, hz2, asInt, asIntOf, go_sem, hw, hroom, hzf, Addr.add_lit, hst]
      refine ⟨_, _, hr, ⟨hlen, .inr ⟨g, cap, _, rfl, hbg, setRow_heap w g cur _ 4 _ hg, hroom, hcm, ?_, ?_⟩⟩, ⟨rfl, rfl, rfl, by simp, fun k _ hk => setRow_other w g k _ (fun e => hk (by simp [Value.ownBlock, e]))⟩⟩
      · rw [hz1] at hfit
        simp only [List.size_toArray, List.length_append, List.length_take, List.length_drop, Array.length_toList]
        omega
      · rw [htake, ← hlen]
        exact List.take_left
    · have holds : ∀ j u, xs[j]? = some u → w.cell? ((⟨g, 0, none⟩ : Addr).add j) = some u := hown.cells (g := g) rfl
      have hgr := grown cap (by omega) (Value.ownBlock (.slice (some ⟨g, 0, none⟩) n cap))
      refine ⟨_, _, ?_, hgr.1, hgr.2⟩
      have hfo := run_firstCells_some (P := Try.prog) w.drew 1 n ⟨g, 0, none⟩ n cap xs hown.1 (by simpa using holds)
      have h63 : ¬ (9223372036854775807 < ((n : Int) + max 32 0)) := by omega
      have hfo2 : (loadCellsFrom ⟨g, 0, none⟩ 0 n #[]).run Try.prog w.drew = .ok xs.toArray w.drew := by simpa [Builtin.firstCells, loadCells] using hfo
      have h48 : ¬ (281474976710656 < Builtin.nextslicecap (n + 32) cap) := by
        have := nextslicecap_le (need := n + 32) (old := cap) (by omega)
        omega
      simp [Builtin.append_, run_underlying Try.underlying78, run_underlying Try.underlying3, sizeOf, typeInfo, zeroValue, hi, hz0, hz1, hz2, asInt, asIntOf, go_sem, hw, h48, h63, hroom, Question.forced, hfo2, newRow, grownCap, hzf]
      rw [show (xs ++ f32C).toArray = xs.toArray ++ f32C.toArray by simp, Array.append_assoc]
theorem wpList_append_falses {ops : Array Oper} {rest : List Oper} {o : Oper} {a : Act} {w : World} {Q : Exit → Act → World → Prop} (hgd : o.guard = none) (sl x : Operand)
    (ho : o.op = .call { callee := .builtin .append, args := #[sl, x], argTypes := #[78, 3] })
    (base : Nat) (v : Value) (n : Nat) (xs : List Value) (hs : a.eval sl = v) (hown : w.ownsRow base 4 1 v n xs) (hx : a.eval x = .int .i64 32)
    (hn : n ≤ 40000) (hbase : base ≤ w.heap.size)
    (h : ∀ v' w', w'.ownsRow base 4 1 v' (n + 32) (xs ++ f32C) → w.grownBy w' v.ownBlock → wpList Try.prog ops Q rest (a.put o.dst v') w') : wpList Try.prog ops Q (o :: rest) a w := by
  refine wpList_plain hgd fun K hK => ?_
  obtain ⟨v', w', hr2, h2, h3⟩ := run_append_falses w base o.type v n xs hown hn hbase
  unfold Oper.wp execOp
  simp only [ho, resolve, invoke, builtin, Sem.run_bind, Sem.run_pure, Result.andThen_ok, List.map_toArray, List.map_cons, List.map_nil, hs, hx, hr2]
  exact hK _ _ (h v' w' h2 h3)
end Go.Proofs.Ytfagfenmampigaa
