/- append(rows, others...) onto a row of strings of the call's own. -/
import Derived.Test.YtfagfenmampigaaN
import Derived.Maps.AppendAt
namespace Go.Proofs.Ytfagfenmampigaa
open Go.RowKit Go.ChangeShapes
/-- Strings, as a row's cells. -/
def stC (rows : List (List UInt8)) : List Value := rows.map fun r => .string (bs r)
theorem stC_length (rows : List (List UInt8)) : (stC rows).length = rows.length := by simp [stC]
theorem stC_append (a b : List (List UInt8)) : stC a ++ stC b = stC (a ++ b) := by simp [stC]
theorem stC_get {rows : List (List UInt8)} {i : Nat} (h : i < rows.length) : (stC rows)[i]? = some (.string (bs (rows.getD i []))) := by
  simp [stC, List.getElem?_eq_getElem h, List.getD_eq_getElem?_getD]
theorem stC_one (rows : List (List UInt8)) : ∀ u ∈ stC rows, u.oneCell' = true := fun u hu => by
  obtain ⟨r, _, rfl⟩ := List.mem_map.1 hu; rfl
theorem info9 : (Try.prog.info? 9).map (fun i => (i.zero, i.size, i.bytes)) = some (some (.string ⟨#[]⟩), 1, 16) := by kernel_rfl
theorem add_plain (b off j : Nat) : (⟨b, off, none⟩ : Addr).add j = ⟨b, off + j, none⟩ := by
  unfold Addr.add; split <;> simp_all
theorem append_none (ty : TypeId) (w : World) (v : Value) (base n : Nat) (xs : List Value) (h : w.ownsRow base 9 1 v n xs) : ∃ w', (Builtin.append_ #[29, 29] ty #[v, .slice none 0 0]).run Try.prog w = .ok v w' ∧ w'.ownsRow base 9 1 v n xs ∧ w.grownBy w' v.ownBlock := by
  obtain ⟨i, hi, hz, hs, hb⟩ := info_parts info9
  rcases h.2 with ⟨rfl, rfl⟩ | ⟨g, cap, cur, rfl, hbg, hg, hnc, hcm, hcs, htake⟩
  · refine ⟨w, ?_, h, ⟨rfl, rfl, rfl, Nat.le_refl _, fun _ _ _ => rfl⟩⟩
    simp [Builtin.append_, run_underlying Try.underlying29, sizeOf, typeInfo, hi, hz, hs, hb, Builtin.lenOf, Builtin.firstCells, loadCells, loadCellsFrom]
  · refine ⟨w, ?_, h, ⟨rfl, rfl, rfl, Nat.le_refl _, fun _ _ _ => rfl⟩⟩
    simp [Builtin.append_, run_underlying Try.underlying29, sizeOf, typeInfo, hi, hz, hs, hb, Builtin.lenOf, Builtin.firstCells, loadCells, loadCellsFrom, hnc, storeCells]
/-- Appended, whatever the other slice is. -/
theorem append_rows (ty : TypeId) (w : World) (base : Nat) (v : Value) (n : Nat) (xs rows : List (List UInt8)) (h : w.ownsRow base 9 1 v n (stC xs)) (ao : Option Addr) (m c : Nat) (hm : rows.length = m)
    (hn1 : n ≤ 100000) (hm1 : m ≤ 100000) (hbase : base ≤ w.heap.size) (h0 : m = 0 → ao = none → c = 0)
    (hR : ∀ i, i < m → ∃ g o, ao = some ⟨g, o, none⟩ ∧ w.cell? ⟨g, o + i, none⟩ = some (.string (bs (rows.getD i [])))) :
    ∃ v' w', (Builtin.append_ #[29, 29] ty #[v, .slice ao m c]).run Try.prog w = .ok v' w' ∧ w'.ownsRow base 9 1 v' (n + m) (stC (xs ++ rows)) ∧ w.grownBy w' v.ownBlock ∧ (v.ownBlock.isSome → v'.ownBlock.isSome) := by
  obtain ⟨i, hi, hz, hs, hb⟩ := info_parts info9
  cases ao with
  | none =>
    have hm0 : m = 0 := by
      rcases Nat.eq_zero_or_pos m with e | e
      · exact e
      · obtain ⟨g, o, e2, _⟩ := hR 0 e
        cases e2
    subst hm0
    have := h0 rfl rfl
    subst this
    have hr : rows = [] := List.length_eq_zero_iff.1 hm
    subst hr
    rw [List.append_nil]
    obtain ⟨w', h1, h2, h3⟩ := append_none ty w v base n _ h
    exact ⟨v, w', h1, h2, h3, id⟩
  | some ad =>
    have hnews : ∀ j u, (stC rows)[j]? = some u → w.cell? (ad.add j) = some u := fun j u hu => by
      have hj : j < rows.length := by
        have := (List.getElem?_eq_some_iff.1 hu).1
        rwa [stC_length] at this
      obtain ⟨g, o, e, hc⟩ := hR j (by omega)
      cases e
      rw [add_plain, hc, ← hu, stC_get hj]
    obtain ⟨v', w', h1, h2, h3, h4, h5⟩ := run_append_own_at (P := Try.prog) w base 29 ty 9 i _ 1 16 Try.underlying29 hi hz hs hb rfl (by decide) v n (stC xs) h ad m c (stC rows) (by rw [stC_length, hm, Nat.mul_one]) hnews (stC_one rows) (by unfold maxLen; omega) (by omega) hbase
    rw [stC_append] at h2
    refine ⟨v', w', h1, h2, h3, fun hsm => ?_⟩
    rcases h5 with e | e
    · rw [e]; exact hsm
    · rw [e]; rfl
/-- The law at the operation. -/
theorem wpList_append_rows {ops : Array Oper} {rest : List Oper} {o : Oper} {a : Act} {w : World} {Q : Exit → Act → World → Prop} (hgd : o.guard = none) (sl x : Operand)
    (ho : o.op = .call { callee := .builtin .append, args := #[sl, x], argTypes := #[29, 29] })
    (base : Nat) (v : Value) (n : Nat) (xs rows : List (List UInt8)) (hs : a.eval sl = v) (hown : w.ownsRow base 9 1 v n (stC xs)) (ao : Option Addr) (m c : Nat) (hx : a.eval x = .slice ao m c) (hm : rows.length = m)
    (hn1 : n ≤ 100000) (hm1 : m ≤ 100000) (hbase : base ≤ w.heap.size) (h0 : m = 0 → ao = none → c = 0)
    (hR : ∀ i, i < m → ∃ g o, ao = some ⟨g, o, none⟩ ∧ w.cell? ⟨g, o + i, none⟩ = some (.string (bs (rows.getD i []))))
    (h : ∀ v' w', w'.ownsRow base 9 1 v' (n + m) (stC (xs ++ rows)) → w.grownBy w' v.ownBlock → (v.ownBlock.isSome → v'.ownBlock.isSome) → wpList Try.prog ops Q rest (a.put o.dst v') w') : wpList Try.prog ops Q (o :: rest) a w := by
  refine wpList_plain hgd fun K hK => ?_
  obtain ⟨v', w', hr, h2, h3, h4⟩ := append_rows o.type w base v n xs rows hown ao m c hm hn1 hm1 hbase h0 hR
  unfold Oper.wp execOp
  simp only [ho, resolve, invoke, builtin, Sem.run_bind, Sem.run_pure, Result.andThen_ok, List.map_toArray, List.map_cons, List.map_nil, hs, hx, hr]
  exact hK _ _ (h v' w' h2 h3 h4)
/-- The law at the operation. -/
theorem wpList_append_rowsG {ops : Array Oper} {rest : List Oper} {o : Oper} {a : Act} {w : World} {Q : Exit → Act → World → Prop} (hw : Region.wanted o (yielded ops a.tmps) = true) (sl x : Operand)
    (ho : o.op = .call { callee := .builtin .append, args := #[sl, x], argTypes := #[29, 29] })
    (base : Nat) (v : Value) (n : Nat) (xs rows : List (List UInt8)) (hs : a.eval sl = v) (hown : w.ownsRow base 9 1 v n (stC xs)) (ao : Option Addr) (m c : Nat) (hx : a.eval x = .slice ao m c) (hm : rows.length = m)
    (hn1 : n ≤ 100000) (hm1 : m ≤ 100000) (hbase : base ≤ w.heap.size) (h0 : m = 0 → ao = none → c = 0)
    (hR : ∀ i, i < m → ∃ g o, ao = some ⟨g, o, none⟩ ∧ w.cell? ⟨g, o + i, none⟩ = some (.string (bs (rows.getD i []))))
    (h : ∀ v' w', w'.ownsRow base 9 1 v' (n + m) (stC (xs ++ rows)) → w.grownBy w' v.ownBlock → (v.ownBlock.isSome → v'.ownBlock.isSome) → wpList Try.prog ops Q rest (a.put o.dst v') w') : wpList Try.prog ops Q (o :: rest) a w := by
  refine wpList_step fun K hK => ?_
  rw [if_pos hw]
  obtain ⟨v', w', hr, h2, h3, h4⟩ := append_rows o.type w base v n xs rows hown ao m c hm hn1 hm1 hbase h0 hR
  unfold Oper.wp execOp
  simp only [ho, resolve, invoke, builtin, Sem.run_bind, Sem.run_pure, Result.andThen_ok, List.map_toArray, List.map_cons, List.map_nil, hs, hx, hr]
  exact hK _ _ (h v' w' h2 h3 h4)
theorem grown_below {base : Nat} {W W' : World} {v : Value} {n : Nat} {xs : List Value} (h : W.ownsRow base 9 1 v n xs) (hg : W.grownBy W' v.ownBlock) (hb : base ≤ W.heap.size) : Below base W W' :=
  (Below.refl base W).grown hg hb (fun k e => (h.lt k e).1)
theorem own_slice {W : World} {base n : Nat} {v : Value} {xs : List Value} (h : W.ownsRow base 9 1 v n xs) (h0 : v.ownBlock.isSome) : ∃ g cap, v = .slice (some ⟨g, 0, none⟩) n cap := by
  rcases h.2 with ⟨rfl, e⟩ | ⟨g, cap, cur, rfl, _⟩
  · cases h0
  · exact ⟨g, cap, rfl⟩
theorem own_cap {W : World} {base g n cap : Nat} {xs : List Value} (h : W.ownsRow base 9 1 (.slice (some ⟨g, 0, none⟩) n cap) n xs) : n ≤ cap := by
  rcases h.2 with ⟨h', _⟩ | ⟨g', cap', cur, h', _, _, hnc, _⟩
  · simp at h'
  · simp only [Value.slice.injEq, Option.some.injEq, Addr.mk.injEq, and_true, true_and] at h'
    obtain ⟨_, rfl⟩ := h'
    exact hnc
/-- The row's strings lie there. -/
theorem own_rw {W : World} {base g cap n : Nat} {rows : List (List UInt8)} (h : W.ownsRow base 9 1 (.slice (some ⟨g, 0, none⟩) n cap) n (stC rows)) (hn : rows.length = n) : Rw W (some ⟨g, 0, none⟩) rows := fun i hi => by
  refine ⟨g, 0, rfl, (h.lt g rfl).2, ?_⟩
  rw [Nat.zero_add, h.cellAt i (by omega), stC_get hi]
theorem Rw.src {W : World} {ao : Option Addr} {rows : List (List UInt8)} {m : Nat} (h : Rw W ao rows) (hm : rows.length = m) : ∀ i, i < m → ∃ g o, ao = some ⟨g, o, none⟩ ∧ W.cell? ⟨g, o + i, none⟩ = some (.string (bs (rows.getD i []))) := fun i hi => by
  obtain ⟨g, o, e, _, hc⟩ := h i (by omega)
  exact ⟨g, o, e, hc⟩
theorem one_src (W : World) (r : List UInt8) : ∀ i, i < 1 → ∃ g o, some (⟨W.heap.size, 0, none⟩ : Addr) = some ⟨g, o, none⟩ ∧ (W.alloc (.cells #[.string (bs r)] 9)).cell? ⟨g, o + i, none⟩ = some (.string (bs ([r].getD i []))) := fun i hi => by
  obtain rfl : i = 0 := by omega
  exact ⟨_, _, rfl, cell_of_row _ _ 0 _ 9 (0, 0) (heap_alloc_new W _)⟩
theorem new_row (W : World) : (W.alloc (.cells #[] 9)).ownsRow W.heap.size 9 1 (.slice (some ⟨W.heap.size, 0, none⟩) 0 0) 0 (stC []) := World.ownsRow_lit W #[] 0 (Nat.le_refl _) (by decide) rfl
theorem bel_alloc (W : World) (o : Obj) : Below W.heap.size W (W.alloc o) := (Below.refl _ W).alloc (Nat.le_refl _) _
theorem slice_lo29 (g len cap i : Nat) (h : i ≤ len) (hc : len ≤ cap) : ∃ o c, (∀ wx : World, (Instr.slice 29 (.slice (some ⟨g, 0, none⟩) len cap) (some (.int .i64 (i : Int))) none none).run Try.prog wx = .ok (.slice (some ⟨g, o, none⟩) (len - i) c) wx) ∧ (i < len → o = i) := by
  have hl := fun wx => run_slice_l (P := Try.prog) (w := wx) 29 (some ⟨g, 0, none⟩) len cap (by kernel_rfl) .i64 (i : Int) (by omega) (by omega)
  have hs : ∀ wx : World, (sizeOf (Try.prog.elem 29)).run Try.prog wx = .ok 1 wx := fun wx => by kernel_rfl
  by_cases e : cap = i
  · refine ⟨0, cap - i, fun wx => ?_, fun h2 => by omega⟩
    rw [hl wx, hs wx, Int.toNat_natCast]
    simp [sliced, Result.andThen, Addr.add, e]
  · refine ⟨i, cap - i, fun wx => ?_, fun _ => rfl⟩
    rw [hl wx, hs wx, Int.toNat_natCast]
    simp [sliced, Result.andThen, Addr.add, e]
    intro h0
    exact h0.symm
theorem slice_hi29 (g len cap i : Nat) (h : i ≤ cap) (wx : World) : (Instr.slice 29 (.slice (some ⟨g, 0, none⟩) len cap) none (some (.int .i64 (i : Int))) none).run Try.prog wx = .ok (.slice (some ⟨g, 0, none⟩) i cap) wx := by
  have hl := run_slice_h (P := Try.prog) (w := wx) 29 (some ⟨g, 0, none⟩) len cap (by kernel_rfl) .i64 (i : Int) (by omega) (by omega)
  have hs : (sizeOf (Try.prog.elem 29)).run Try.prog wx = .ok 1 wx := by kernel_rfl
  rw [hl, hs, Int.toNat_natCast]
  simp [sliced, Result.andThen, Addr.add]
theorem oper_append {o : Oper} {a : Act} {w : World} {K : Act → World → Prop} {Q : Exit → Act → World → Prop} (sl x : Operand) (ho : o.op = .call { callee := .builtin .append, args := #[sl, x], argTypes := #[29, 29] })
    {v y v' : Value} {w' : World} (hs : a.eval sl = v) (hx : a.eval x = y) (hr : (Builtin.append_ #[29, 29] o.type #[v, y]).run Try.prog w = .ok v' w') (h : K (a.put o.dst v') w') : Oper.wp Try.prog o a w K Q := by
  unfold Oper.wp execOp
  simp only [ho, resolve, invoke, builtin, Sem.run_bind, Sem.run_pure, Result.andThen_ok, List.map_toArray, List.map_cons, List.map_nil, hs, hx, hr]
  exact h
theorem slice_min20 (A : Option Addr) (len cap : Nat) (hl : len ≤ cap) (wx : World) : (Instr.slice 29 (.slice A len cap) none (some (.int .i64 (min (len : Int) 20))) none).run Try.prog wx = .ok (.slice A (min len 20) cap) wx := by
  have := run_slice_h (P := Try.prog) (w := wx) 29 A len cap (by kernel_rfl) .i64 (min (len : Int) 20) (by omega) (by omega)
  rw [this, show (min (len : Int) 20).toNat = min len 20 by omega]
  have hs : (sizeOf (Try.prog.elem 29)).run Try.prog wx = .ok 1 wx := by kernel_rfl
  rw [hs]
  cases A <;> simp [sliced, Result.andThen, Addr.add]
end Go.Proofs.Ytfagfenmampigaa
