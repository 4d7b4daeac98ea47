/- Contracts of read. -/
import Derived.Test.YtjoogiabimiioaaGreatDoorO
import Derived.Test.YtjoogiabimiioaaGreatDoorH
namespace Go.Proofs.YtjoogiabimiioaaGreatDoor
open Go.RowKit Go.ChangeShapes
attribute [local go_sem] Oper.semAt_some
theorem Only.setNew {g b : Nat} {w W : World} (h : Only g w W) (hb : w.heap.size ≤ b) (i : Nat) (v : Value) : Only g w (W.setCell ⟨b, i, none⟩ v) :=
  ⟨h.os, h.tape, h.output, by simpa [World.setCell] using h.size, fun k hk hn => (heap_setCell_other W ⟨b, i, none⟩ k v (by show k ≠ b; omega)).trans (h.block k hk hn)⟩
theorem Only.grown {g : Nat} {w W V : World} (h : Only g w W) {row : Option Nat} (hg : W.grownBy V row) (hr : ∀ r, row = some r → w.heap.size ≤ r) : Only g w V :=
  ⟨hg.os.trans h.os, hg.tape.trans h.tape, hg.output.trans h.output, Nat.le_trans h.size hg.size, fun k hk hn => (hg.block k (Nat.lt_of_lt_of_le hk h.size) (fun e => by have := hr k e.symm; omega)).trans (h.block k hk hn)⟩
abbrev kv (k : IntKind) (n : Nat) : Value := .int k (n : Int)
def rwK (k : IntKind) (l : List Nat) : Array Value := (l.map (kv k)).toArray
/-- The memory of read. -/
structure Rm (k : IntKind) (tp tt : TypeId) (w : World) (base np g : Nat) (row : List Nat) (cnt : Nat) (rt : Bool) (W : World) : Prop where
  p : W.heap[w.heap.size]? = some (.cells #[.slice (some ⟨g, 0, none⟩) np np] tp (0, 0))
  bb : W.heap[w.heap.size + 1]? = some (.cells #[.int .i64 (base : Int)] 3 (0, 0))
  c : W.heap[w.heap.size + 2]? = some (.cells #[.int .i64 (cnt : Int)] 3 (0, 0))
  r : W.heap[w.heap.size + 3]? = some (.cells #[.bool rt] 4 (0, 0))
  dg : W.heap[w.heap.size + 4]? = some (.cells #[.string (bs (digL base))] 9 (0, 0))
  d : W.heap[w.heap.size + 5]? = some (.cells #[.func (.func 122) #[] #[.pointer (some ⟨w.heap.size + 4, 0, none⟩)]] 145 (0, 0))
  pl : W.heap[g]? = some (.cells (rwK k row) tt (0, 0))
  o : Only g w W
  z : g < w.heap.size
variable {k : IntKind} {tp tt : TypeId} {w : World} {base np g : Nat} {row : List Nat} {cnt : Nat} {rt : Bool} {W : World}
theorem Rm.grown (h : Rm k tp tt w base np g row cnt rt W) {V : World} {rw' : Option Nat} (hg : W.grownBy V rw') (hr : ∀ r, rw' = some r → w.heap.size + 6 ≤ r) : Rm k tp tt w base np g row cnt rt V := by
  have hz := h.z
  have hd := (Array.getElem?_eq_some_iff.1 h.d).1
  have hs := h.o.size
  have hb : ∀ j, j ≤ w.heap.size + 5 → V.heap[j]? = W.heap[j]? := fun j hj => hg.block j (by omega) (fun e => by have := hr j e.symm; omega)
  exact ⟨(hb _ (by omega)).trans h.p, (hb _ (by omega)).trans h.bb, (hb _ (by omega)).trans h.c, (hb _ (by omega)).trans h.r, (hb _ (by omega)).trans h.dg, (hb _ (by omega)).trans h.d, (hb _ (by omega)).trans h.pl, h.o.grown hg (fun r e => by have := hr r e; omega), hz⟩
theorem Rm.cntSet (h : Rm k tp tt w base np g row cnt rt W) (c2 : Nat) : Rm k tp tt w base np g row c2 rt (W.setCell ⟨w.heap.size + 2, 0, none⟩ (.int .i64 (c2 : Int))) := by
  have hz := h.z
  have hb : ∀ j, j ≠ w.heap.size + 2 → (W.setCell ⟨w.heap.size + 2, 0, none⟩ (.int .i64 (c2 : Int))).heap[j]? = W.heap[j]? := fun j hj => heap_setCell_other W ⟨w.heap.size + 2, 0, none⟩ j _ hj
  exact ⟨(hb _ (by omega)).trans h.p, (hb _ (by omega)).trans h.bb, box_set h.c, (hb _ (by omega)).trans h.r, (hb _ (by omega)).trans h.dg, (hb _ (by omega)).trans h.d, (hb _ (by omega)).trans h.pl, h.o.setNew (by omega) _ _, hz⟩
theorem Rm.rtSet (h : Rm k tp tt w base np g row cnt rt W) (r2 : Bool) : Rm k tp tt w base np g row cnt r2 (W.setCell ⟨w.heap.size + 3, 0, none⟩ (.bool r2)) := by
  have hz := h.z
  have hb : ∀ j, j ≠ w.heap.size + 3 → (W.setCell ⟨w.heap.size + 3, 0, none⟩ (.bool r2)).heap[j]? = W.heap[j]? := fun j hj => heap_setCell_other W ⟨w.heap.size + 3, 0, none⟩ j _ hj
  exact ⟨(hb _ (by omega)).trans h.p, (hb _ (by omega)).trans h.bb, (hb _ (by omega)).trans h.c, box_set h.r, (hb _ (by omega)).trans h.dg, (hb _ (by omega)).trans h.d, (hb _ (by omega)).trans h.pl, h.o.setNew (by omega) _ _, hz⟩
theorem Rm.plSet (h : Rm k tp tt w base np g row cnt rt W) (i v : Nat) : Rm k tp tt w base np g (row.set i v) cnt rt (W.setCell ⟨g, i, none⟩ (kv k v)) := by
  have hz := h.z
  have hb : ∀ j, j ≠ g → (W.setCell ⟨g, i, none⟩ (kv k v)).heap[j]? = W.heap[j]? := fun j hj => heap_setCell_other W ⟨g, i, none⟩ j _ hj
  have hp : (W.setCell ⟨g, i, none⟩ (kv k v)).heap[g]? = some (.cells (rwK k (row.set i v)) tt (0, 0)) := by
    rw [heap_setCell_same W g i (rwK k row) tt (kv k v) h.pl]
    congr 2
    simp [rwK, List.map_set]
  exact ⟨(hb _ (by omega)).trans h.p, (hb _ (by omega)).trans h.bb, (hb _ (by omega)).trans h.c, (hb _ (by omega)).trans h.r, (hb _ (by omega)).trans h.dg, (hb _ (by omega)).trans h.d, hp, h.o.set i _, hz⟩
theorem Rm.cellP (h : Rm k tp tt w base np g row cnt rt W) {i : Nat} (hi : i < row.length) : W.cell? ⟨g, i, none⟩ = some (kv k (row.getD i 0)) := by
  rw [cell_of_row W g i _ tt (0, 0) h.pl]
  simp [rwK, hi, List.getD_eq_getElem?_getD]
/-- A round of read, begun in W0. -/
structure Rw (k : IntKind) (tp tt : TypeId) (w : World) (base np g : Nat) (row : List Nat) (cnt : Nat) (rt : Bool) (W0 W : World) : Prop where
  m : Rm k tp tt w base np g row cnt rt W
  k : KeepsOthers W0 W
  t : KpT (w.heap.size + 7) (w.heap.size + 6) (w.heap.size + 8) W0 W
variable {W0 : World}
theorem Rw.drew (h : Rw k tp tt w base np g row cnt rt W0 W) : Rw k tp tt w base np g row cnt rt W0 W.drew :=
  ⟨h.m.grown (row := row) (rw' := none) ⟨rfl, rfl, rfl, Nat.le_refl _, fun _ _ _ => rfl⟩ (fun r e => by cases e), ⟨h.k.1, fun j o hj hc => h.k.same j o hj hc⟩, h.t⟩
theorem keeps_set {W : World} {b i : Nat} {cs : Array Value} {t : TypeId} {fr : Nat × Nat} (h : W.heap[b]? = some (.cells cs t fr)) (v : Value) : KeepsOthers W (W.setCell ⟨b, i, none⟩ v) := keeps_only ((Only.refl b W).set i v) h
theorem kpt_set {b1 b2 b3 b i : Nat} {W : World} (v : Value) (h1 : b1 ≠ b) (h2 : b2 ≠ b) (h3 : b3 ≠ b) : KpT b1 b2 b3 W (W.setCell ⟨b, i, none⟩ v) :=
  ⟨heap_setCell_other W ⟨b, i, none⟩ b1 v h1, heap_setCell_other W ⟨b, i, none⟩ b2 v h2, heap_setCell_other W ⟨b, i, none⟩ b3 v h3⟩
theorem Rw.cntSet (h : Rw k tp tt w base np g row cnt rt W0 W) (c2 : Nat) : Rw k tp tt w base np g row c2 rt W0 (W.setCell ⟨w.heap.size + 2, 0, none⟩ (.int .i64 (c2 : Int))) :=
  ⟨h.m.cntSet c2, h.k.trans (keeps_set h.m.c _), h.t.trans (kpt_set _ (by omega) (by omega) (by omega))⟩
theorem Rw.rtSet (h : Rw k tp tt w base np g row cnt rt W0 W) (r2 : Bool) : Rw k tp tt w base np g row cnt r2 W0 (W.setCell ⟨w.heap.size + 3, 0, none⟩ (.bool r2)) :=
  ⟨h.m.rtSet r2, h.k.trans (keeps_set h.m.r _), h.t.trans (kpt_set _ (by omega) (by omega) (by omega))⟩
theorem Rw.plSet (h : Rw k tp tt w base np g row cnt rt W0 W) (i v : Nat) : Rw k tp tt w base np g (row.set i v) cnt rt W0 (W.setCell ⟨g, i, none⟩ (kv k v)) :=
  ⟨h.m.plSet i v, h.k.trans (keeps_set h.m.pl _), h.t.trans (kpt_set _ (by have := h.m.z; omega) (by have := h.m.z; omega) (by have := h.m.z; omega))⟩
/-- The row when some numbers are placed. -/
def plc (row vs : List Nat) : List Nat := vs ++ row.drop vs.length
theorem plc_nil (row : List Nat) : plc row [] = row := rfl
theorem plc_length (row vs : List Nat) (h : vs.length ≤ row.length) : (plc row vs).length = row.length := by simp [plc]; omega
theorem plc_set (row vs : List Nat) (v : Nat) (h : vs.length < row.length) : (plc row vs).set vs.length v = plc row (vs ++ [v]) := by
  unfold plc
  rw [List.set_append_right _ _ (Nat.le_refl _), Nat.sub_self, List.drop_eq_getElem_cons h, List.set_cons_zero, List.append_assoc, List.length_append]
  rfl
theorem heap_push (x : World) (o : Obj) : (x.alloc o).heap = x.heap.push o := rfl
theorem five_at (w : World) (a b c d e : Obj) : ∀ V, (((((w.alloc a).alloc b).alloc c).alloc d).alloc e) = V →
  V.heap[w.heap.size]? = some a ∧ V.heap[w.heap.size + 1]? = some b ∧ V.heap[w.heap.size + 2]? = some c ∧ V.heap[w.heap.size + 3]? = some d ∧ V.heap[w.heap.size + 4]? = some e ∧ (∀ j, j < w.heap.size → V.heap[j]? = w.heap[j]?) := by
  rintro V rfl
  simp only [heap_push]
  refine ⟨?_, ?_, ?_, ?_, ?_, fun j hj => ?_⟩
  all_goals simp only [Array.getElem?_push, Array.size_push]
  all_goals repeat (first | rw [if_pos trivial] | rw [if_neg (by omega)] | rw [if_pos (by omega)])
theorem three_at (w : World) (a b c : Obj) : ∀ V, (((w.alloc a).alloc b).alloc c) = V →
  V.heap[w.heap.size]? = some a ∧ V.heap[w.heap.size + 1]? = some b ∧ V.heap[w.heap.size + 2]? = some c ∧ (∀ j, j < w.heap.size → V.heap[j]? = w.heap[j]?) := by
  rintro V rfl
  simp only [heap_push]
  refine ⟨?_, ?_, ?_, fun j hj => ?_⟩
  all_goals simp only [Array.getElem?_push, Array.size_push]
  all_goals repeat (first | rw [if_pos trivial] | rw [if_neg (by omega)] | rw [if_pos (by omega)])
theorem four_at (w : World) (a b c d : Obj) : ∀ V, ((((w.alloc a).alloc b).alloc c).alloc d) = V → V.heap[w.heap.size + 1]? = some b := by
  rintro V rfl
  simp only [heap_push]
  simp only [Array.getElem?_push, Array.size_push]
  repeat (first | rw [if_pos trivial] | rw [if_neg (by omega)] | rw [if_pos (by omega)])
end Go.Proofs.YtjoogiabimiioaaGreatDoor
