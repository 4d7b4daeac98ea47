/- What the walks of the laws with the reference carry. -/
import Derived.Test.YtfdeegafdaobdaaDoorW7
import Derived.Test.YtfdeegafdaobdaaDoorRR
namespace Go.Proofs.YtfdeegafdaobdaaDoor
open Go.RowKit Go.ChangeShapes

/-- Old memory, the reference's table, and cells that stay. -/
structure LW (w W : World) (gs gk : Nat) (cs : List (Nat × Nat × Value)) : Prop where
  b : Below w.heap.size w W
  t : Tb W gs gk
  c : ∀ x ∈ cs, W.cell? ⟨x.1, x.2.1, none⟩ = some x.2.2 ∧ x.1 < W.heap.size
theorem LW.step {w W V : World} {gs gk : Nat} {cs : List (Nat × Nat × Value)} (h : LW w W gs gk cs) (hb : Below W.heap.size W V) : LW w V gs gk cs :=
  ⟨bstep h.b hb, h.t.below hb, fun x hx => ⟨(hb.cell (p := ⟨x.1, x.2.1, none⟩) (h.c x hx).2).trans (h.c x hx).1, Nat.lt_of_lt_of_le (h.c x hx).2 hb.size⟩⟩
theorem LW.al {w W : World} {gs gk : Nat} {cs : List (Nat × Nat × Value)} (h : LW w W gs gk cs) (o : Obj) : LW w (W.alloc o) gs gk cs := h.step ((Below.refl _ _).alloc (Nat.le_refl _) o)
theorem LW.add {w W : World} {gs gk : Nat} {cs : List (Nat × Nat × Value)} (h : LW w W gs gk cs) (g i : Nat) (v : Value) (hc : W.cell? ⟨g, i, none⟩ = some v) (hl : g < W.heap.size) : LW w W gs gk ((g, i, v) :: cs) :=
  ⟨h.b, h.t, fun x hx => by
    rcases List.mem_cons.1 hx with rfl | hx
    · exact ⟨hc, hl⟩
    · exact h.c x hx⟩
theorem LW.get {w W : World} {gs gk : Nat} {cs : List (Nat × Nat × Value)} (h : LW w W gs gk cs) (g i : Nat) (v : Value) (hm : (g, i, v) ∈ cs) : W.cell? ⟨g, i, none⟩ = some v := (h.c (g, i, v) hm).1
theorem LW.lt {w W : World} {gs gk : Nat} {cs : List (Nat × Nat × Value)} (h : LW w W gs gk cs) (g i : Nat) (v : Value) (hm : (g, i, v) ∈ cs) : g < W.heap.size := (h.c (g, i, v) hm).2
theorem LW.tail {w W : World} {gs gk : Nat} {q : Nat × Nat × Value} {cs : List (Nat × Nat × Value)} (h : LW w W gs gk (q :: cs)) : LW w W gs gk cs := ⟨h.b, h.t, fun x hx => h.c x (List.mem_cons_of_mem _ hx)⟩
theorem LW.pair {w W : World} {gs gk : Nat} {cs : List (Nat × Nat × Value)} (h : LW w W gs gk cs) (a b : Value) (ty : TypeId) : LW w (W.alloc (.cells #[a, b] ty)) gs gk ((W.heap.size, 0, a) :: (W.heap.size, 1, b) :: cs) :=
  ((h.al (.cells #[a, b] ty)).add W.heap.size 1 b (cell_of_row _ _ 1 _ ty (0, 0) (heap_alloc_new W _)) (by simp)).add W.heap.size 0 a (cell_of_row _ _ 0 _ ty (0, 0) (heap_alloc_new W _)) (by simp)
theorem LW.three {w W : World} {gs gk : Nat} {cs : List (Nat × Nat × Value)} (h : LW w W gs gk cs) (a b c : Value) (ty : TypeId) : LW w (W.alloc (.cells #[a, b, c] ty)) gs gk ((W.heap.size, 0, a) :: (W.heap.size, 1, b) :: (W.heap.size, 2, c) :: cs) :=
  (((h.al (.cells #[a, b, c] ty)).add W.heap.size 2 c (cell_of_row _ _ 2 _ ty (0, 0) (heap_alloc_new W _)) (by simp)).add W.heap.size 1 b (cell_of_row _ _ 1 _ ty (0, 0) (heap_alloc_new W _)) (by simp)).add W.heap.size 0 a (cell_of_row _ _ 0 _ ty (0, 0) (heap_alloc_new W _)) (by simp)
theorem LW.one {w W : World} {gs gk : Nat} {cs : List (Nat × Nat × Value)} (h : LW w W gs gk cs) (a : Value) (ty : TypeId) : LW w (W.alloc (.cells #[a] ty)) gs gk ((W.heap.size, 0, a) :: cs) :=
  (h.al (.cells #[a] ty)).add W.heap.size 0 a (cell_of_row _ _ 0 _ ty (0, 0) (heap_alloc_new W _)) (by simp)
/-- The constants, as the laws have them. -/
def GotT (w : World) (e : Ending) (w' : World) : Prop := ∃ gs cs gk ck : Nat, e = .returned (.agg #[.slice (some ⟨gs, 0, none⟩) 8 cs, .slice (some ⟨gk, 0, none⟩) 64 ck]) ∧ Tb w' gs gk ∧ Below w.heap.size w w'
theorem rconstT (w : World) : Calls Tryd.prog 12 #[] w (GotT w) := (rconstants w).mono fun _ _ h => by
  obtain ⟨sv, kv, h1, h2, h3, h4⟩ := h
  obtain ⟨gs, cs, rfl⟩ := Joins.ownsRow_form h2 (by decide)
  obtain ⟨gk, ck, rfl⟩ := Joins.ownsRow_form h3 (by decide)
  exact ⟨gs, cs, gk, ck, h1, ⟨fun j hj => by rw [h3.cellAt j (by omega), intC_get _ _ (by rw [KL_length]; exact hj)], (h3.lt gk rfl).2, fun j hj => by rw [h2.cellAt j (by omega), intC_get _ _ (by rw [IL_length]; exact hj)]; rfl, (h2.lt gs rfl).2⟩, h4⟩
theorem ovr_no {l : List ByteArray} (h : lng l = false) : ovr l = 0 := by unfold ovr; rw [h]; rfl
theorem ovr_yes {l : List ByteArray} (h : lng l = true) : ovr l = 3 := by unfold ovr; rw [h]; rfl
theorem over1 (s : ByteArray) (n : Int) (g : Nat) (w : World) (hn : ovr [s] = n) (hs : s.size ≤ 140737488351232) (hc : w.cell? ⟨g, 0, none⟩ = some (.string s)) :
    Calls Tryd.prog 14 #[.slice (some ⟨g, 0, none⟩) 1 1] w fun e w' => e = .returned (.int .i64 n) ∧ w = w' := by
  have h := over_any [s] 1 g w rfl (by decide) (fun j hj => by obtain rfl : j = 0 := by omega
                                                               exact hc) (fun j hj => by obtain rfl : j = 0 := by omega
                                                                                         exact hs)
  rw [hn] at h
  exact h
theorem over2 (s t : ByteArray) (n : Int) (g : Nat) (w : World) (hn : ovr [s, t] = n) (hs : s.size ≤ 140737488351232) (ht : t.size ≤ 140737488351232) (hc : w.cell? ⟨g, 0, none⟩ = some (.string s)) (hd : w.cell? ⟨g, 1, none⟩ = some (.string t)) :
    Calls Tryd.prog 14 #[.slice (some ⟨g, 0, none⟩) 2 2] w fun e w' => e = .returned (.int .i64 n) ∧ w = w' := by
  have h := over_any [s, t] 2 g w rfl (by decide) (fun j hj => by
    rcases (by omega : j = 0 ∨ j = 1) with rfl | rfl
    · exact hc
    · exact hd) (fun j hj => by
    rcases (by omega : j = 0 ∨ j = 1) with rfl | rfl
    · exact hs
    · exact ht)
  rw [hn] at h
  exact h
theorem over3 (s t u : ByteArray) (n : Int) (g : Nat) (w : World) (hn : ovr [s, t, u] = n) (hs : s.size ≤ 140737488351232) (ht : t.size ≤ 140737488351232) (hu : u.size ≤ 140737488351232) (hc : w.cell? ⟨g, 0, none⟩ = some (.string s)) (hd : w.cell? ⟨g, 1, none⟩ = some (.string t)) (he : w.cell? ⟨g, 2, none⟩ = some (.string u)) :
    Calls Tryd.prog 14 #[.slice (some ⟨g, 0, none⟩) 3 3] w fun e w' => e = .returned (.int .i64 n) ∧ w = w' := by
  have h := over_any [s, t, u] 3 g w rfl (by decide) (fun j hj => by
    rcases (by omega : j = 0 ∨ j = 1 ∨ j = 2) with rfl | rfl | rfl
    · exact hc
    · exact hd
    · exact he) (fun j hj => by
    rcases (by omega : j = 0 ∨ j = 1 ∨ j = 2) with rfl | rfl | rfl
    · exact hs
    · exact ht
    · exact hu)
  rw [hn] at h
  exact h
end Go.Proofs.YtfdeegafdaobdaaDoor
