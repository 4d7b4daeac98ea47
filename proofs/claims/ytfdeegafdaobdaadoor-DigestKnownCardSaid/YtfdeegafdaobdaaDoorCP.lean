/- What the walk of DigestCuts carries: pieces of octets, the digest that is being made in its block. -/
import Derived.Test.YtfdeegafdaobdaaDoorKX
import Derived.Laws.Slices
namespace Go.Proofs.YtfdeegafdaobdaaDoor
open Go.RowKit Go.ChangeShapes

/-- The block g after a digest that is being made was stored in it. -/
def put10 (W : World) (g : Nat) (p : W8) (u : ByteArray) (m : Int) : World := ((((((((((W.setCell ⟨g, 0, none⟩ (wd p.a)).setCell ⟨g, 1, none⟩ (wd p.b)).setCell ⟨g, 2, none⟩ (wd p.c)).setCell ⟨g, 3, none⟩ (wd p.d)).setCell ⟨g, 4, none⟩ (wd p.e)).setCell ⟨g, 5, none⟩ (wd p.f)).setCell ⟨g, 6, none⟩ (wd p.g)).setCell ⟨g, 7, none⟩ (wd p.h)).setCell ⟨g, 8, none⟩ (.string u)).setCell ⟨g, 9, none⟩ (.int .i64 m))
theorem put10_same (W : World) (g : Nat) (s p : W8) (t u : ByteArray) (n m : Int) (h : W.heap[g]? = some (hsO s t n)) : (put10 W g p u m).heap[g]? = some (hsO p u m) := by
  have h0 : W.heap[g]? = some (.cells #[wd s.a, wd s.b, wd s.c, wd s.d, wd s.e, wd s.f, wd s.g, wd s.h, .string t, .int .i64 n] 44 (0, 0)) := h
  have h1 : (W.setCell ⟨g, 0, none⟩ (wd p.a)).heap[g]? = some (.cells #[wd p.a, wd s.b, wd s.c, wd s.d, wd s.e, wd s.f, wd s.g, wd s.h, .string t, .int .i64 n] 44 (0, 0)) := heap_setCell_same W g 0 _ 44 (wd p.a) h0
  have h2 : ((W.setCell ⟨g, 0, none⟩ (wd p.a)).setCell ⟨g, 1, none⟩ (wd p.b)).heap[g]? = some (.cells #[wd p.a, wd p.b, wd s.c, wd s.d, wd s.e, wd s.f, wd s.g, wd s.h, .string t, .int .i64 n] 44 (0, 0)) := heap_setCell_same (W.setCell ⟨g, 0, none⟩ (wd p.a)) g 1 _ 44 (wd p.b) h1
  have h3 : (((W.setCell ⟨g, 0, none⟩ (wd p.a)).setCell ⟨g, 1, none⟩ (wd p.b)).setCell ⟨g, 2, none⟩ (wd p.c)).heap[g]? = some (.cells #[wd p.a, wd p.b, wd p.c, wd s.d, wd s.e, wd s.f, wd s.g, wd s.h, .string t, .int .i64 n] 44 (0, 0)) := heap_setCell_same ((W.setCell ⟨g, 0, none⟩ (wd p.a)).setCell ⟨g, 1, none⟩ (wd p.b)) g 2 _ 44 (wd p.c) h2
  have h4 : ((((W.setCell ⟨g, 0, none⟩ (wd p.a)).setCell ⟨g, 1, none⟩ (wd p.b)).setCell ⟨g, 2, none⟩ (wd p.c)).setCell ⟨g, 3, none⟩ (wd p.d)).heap[g]? = some (.cells #[wd p.a, wd p.b, wd p.c, wd p.d, wd s.e, wd s.f, wd s.g, wd s.h, .string t, .int .i64 n] 44 (0, 0)) := heap_setCell_same (((W.setCell ⟨g, 0, none⟩ (wd p.a)).setCell ⟨g, 1, none⟩ (wd p.b)).setCell ⟨g, 2, none⟩ (wd p.c)) g 3 _ 44 (wd p.d) h3
  have h5 : (((((W.setCell ⟨g, 0, none⟩ (wd p.a)).setCell ⟨g, 1, none⟩ (wd p.b)).setCell ⟨g, 2, none⟩ (wd p.c)).setCell ⟨g, 3, none⟩ (wd p.d)).setCell ⟨g, 4, none⟩ (wd p.e)).heap[g]? = some (.cells #[wd p.a, wd p.b, wd p.c, wd p.d, wd p.e, wd s.f, wd s.g, wd s.h, .string t, .int .i64 n] 44 (0, 0)) := heap_setCell_same ((((W.setCell ⟨g, 0, none⟩ (wd p.a)).setCell ⟨g, 1, none⟩ (wd p.b)).setCell ⟨g, 2, none⟩ (wd p.c)).setCell ⟨g, 3, none⟩ (wd p.d)) g 4 _ 44 (wd p.e) h4
  have h6 : ((((((W.setCell ⟨g, 0, none⟩ (wd p.a)).setCell ⟨g, 1, none⟩ (wd p.b)).setCell ⟨g, 2, none⟩ (wd p.c)).setCell ⟨g, 3, none⟩ (wd p.d)).setCell ⟨g, 4, none⟩ (wd p.e)).setCell ⟨g, 5, none⟩ (wd p.f)).heap[g]? = some (.cells #[wd p.a, wd p.b, wd p.c, wd p.d, wd p.e, wd p.f, wd s.g, wd s.h, .string t, .int .i64 n] 44 (0, 0)) := heap_setCell_same (((((W.setCell ⟨g, 0, none⟩ (wd p.a)).setCell ⟨g, 1, none⟩ (wd p.b)).setCell ⟨g, 2, none⟩ (wd p.c)).setCell ⟨g, 3, none⟩ (wd p.d)).setCell ⟨g, 4, none⟩ (wd p.e)) g 5 _ 44 (wd p.f) h5
  have h7 : (((((((W.setCell ⟨g, 0, none⟩ (wd p.a)).setCell ⟨g, 1, none⟩ (wd p.b)).setCell ⟨g, 2, none⟩ (wd p.c)).setCell ⟨g, 3, none⟩ (wd p.d)).setCell ⟨g, 4, none⟩ (wd p.e)).setCell ⟨g, 5, none⟩ (wd p.f)).setCell ⟨g, 6, none⟩ (wd p.g)).heap[g]? = some (.cells #[wd p.a, wd p.b, wd p.c, wd p.d, wd p.e, wd p.f, wd p.g, wd s.h, .string t, .int .i64 n] 44 (0, 0)) := heap_setCell_same ((((((W.setCell ⟨g, 0, none⟩ (wd p.a)).setCell ⟨g, 1, none⟩ (wd p.b)).setCell ⟨g, 2, none⟩ (wd p.c)).setCell ⟨g, 3, none⟩ (wd p.d)).setCell ⟨g, 4, none⟩ (wd p.e)).setCell ⟨g, 5, none⟩ (wd p.f)) g 6 _ 44 (wd p.g) h6
  have h8 : ((((((((W.setCell ⟨g, 0, none⟩ (wd p.a)).setCell ⟨g, 1, none⟩ (wd p.b)).setCell ⟨g, 2, none⟩ (wd p.c)).setCell ⟨g, 3, none⟩ (wd p.d)).setCell ⟨g, 4, none⟩ (wd p.e)).setCell ⟨g, 5, none⟩ (wd p.f)).setCell ⟨g, 6, none⟩ (wd p.g)).setCell ⟨g, 7, none⟩ (wd p.h)).heap[g]? = some (.cells #[wd p.a, wd p.b, wd p.c, wd p.d, wd p.e, wd p.f, wd p.g, wd p.h, .string t, .int .i64 n] 44 (0, 0)) := heap_setCell_same (((((((W.setCell ⟨g, 0, none⟩ (wd p.a)).setCell ⟨g, 1, none⟩ (wd p.b)).setCell ⟨g, 2, none⟩ (wd p.c)).setCell ⟨g, 3, none⟩ (wd p.d)).setCell ⟨g, 4, none⟩ (wd p.e)).setCell ⟨g, 5, none⟩ (wd p.f)).setCell ⟨g, 6, none⟩ (wd p.g)) g 7 _ 44 (wd p.h) h7
  have h9 : (((((((((W.setCell ⟨g, 0, none⟩ (wd p.a)).setCell ⟨g, 1, none⟩ (wd p.b)).setCell ⟨g, 2, none⟩ (wd p.c)).setCell ⟨g, 3, none⟩ (wd p.d)).setCell ⟨g, 4, none⟩ (wd p.e)).setCell ⟨g, 5, none⟩ (wd p.f)).setCell ⟨g, 6, none⟩ (wd p.g)).setCell ⟨g, 7, none⟩ (wd p.h)).setCell ⟨g, 8, none⟩ (.string u)).heap[g]? = some (.cells #[wd p.a, wd p.b, wd p.c, wd p.d, wd p.e, wd p.f, wd p.g, wd p.h, .string u, .int .i64 n] 44 (0, 0)) := heap_setCell_same ((((((((W.setCell ⟨g, 0, none⟩ (wd p.a)).setCell ⟨g, 1, none⟩ (wd p.b)).setCell ⟨g, 2, none⟩ (wd p.c)).setCell ⟨g, 3, none⟩ (wd p.d)).setCell ⟨g, 4, none⟩ (wd p.e)).setCell ⟨g, 5, none⟩ (wd p.f)).setCell ⟨g, 6, none⟩ (wd p.g)).setCell ⟨g, 7, none⟩ (wd p.h)) g 8 _ 44 (.string u) h8
  have h10 : ((((((((((W.setCell ⟨g, 0, none⟩ (wd p.a)).setCell ⟨g, 1, none⟩ (wd p.b)).setCell ⟨g, 2, none⟩ (wd p.c)).setCell ⟨g, 3, none⟩ (wd p.d)).setCell ⟨g, 4, none⟩ (wd p.e)).setCell ⟨g, 5, none⟩ (wd p.f)).setCell ⟨g, 6, none⟩ (wd p.g)).setCell ⟨g, 7, none⟩ (wd p.h)).setCell ⟨g, 8, none⟩ (.string u)).setCell ⟨g, 9, none⟩ (.int .i64 m)).heap[g]? = some (.cells #[wd p.a, wd p.b, wd p.c, wd p.d, wd p.e, wd p.f, wd p.g, wd p.h, .string u, .int .i64 m] 44 (0, 0)) := heap_setCell_same (((((((((W.setCell ⟨g, 0, none⟩ (wd p.a)).setCell ⟨g, 1, none⟩ (wd p.b)).setCell ⟨g, 2, none⟩ (wd p.c)).setCell ⟨g, 3, none⟩ (wd p.d)).setCell ⟨g, 4, none⟩ (wd p.e)).setCell ⟨g, 5, none⟩ (wd p.f)).setCell ⟨g, 6, none⟩ (wd p.g)).setCell ⟨g, 7, none⟩ (wd p.h)).setCell ⟨g, 8, none⟩ (.string u)) g 9 _ 44 (.int .i64 m) h9
  exact h10
theorem put10_other (W : World) (g : Nat) (p : W8) (u : ByteArray) (m : Int) (k : Nat) (h : k ≠ g) : (put10 W g p u m).heap[k]? = W.heap[k]? := by
  unfold put10
  simp only [heap_setCell_other _ ⟨g, _, none⟩ k _ h]
theorem put10_below {w W : World} {B : Nat} (h : Below B w W) {g : Nat} (hg : B ≤ g) (p : W8) (u : ByteArray) (m : Int) : Below B w (put10 W g p u m) := by
  unfold put10
  exact ((((((((((h.setCell hg _).setCell hg _).setCell hg _).setCell hg _).setCell hg _).setCell hg _).setCell hg _).setCell hg _).setCell hg _).setCell hg _)
theorem hs_cells {W : World} {g : Nat} {s : W8} {t : ByteArray} {n : Int} (hh : W.heap[g]? = some (hsO s t n)) :
    ((W.cell? ⟨g, 0, none⟩ = some (wd s.a) ∧ W.cell? ⟨g, 1, none⟩ = some (wd s.b) ∧ W.cell? ⟨g, 2, none⟩ = some (wd s.c) ∧ W.cell? ⟨g, 3, none⟩ = some (wd s.d)) ∧ (W.cell? ⟨g, 4, none⟩ = some (wd s.e) ∧ W.cell? ⟨g, 5, none⟩ = some (wd s.f) ∧ W.cell? ⟨g, 6, none⟩ = some (wd s.g) ∧ W.cell? ⟨g, 7, none⟩ = some (wd s.h))) ∧ (W.cell? ⟨g, 8, none⟩ = some (.string t) ∧ W.cell? ⟨g, 9, none⟩ = some (.int .i64 n)) :=
  ⟨⟨⟨cell_of_row W g 0 _ 44 (0, 0) hh, cell_of_row W g 1 _ 44 (0, 0) hh, cell_of_row W g 2 _ 44 (0, 0) hh, cell_of_row W g 3 _ 44 (0, 0) hh⟩, cell_of_row W g 4 _ 44 (0, 0) hh, cell_of_row W g 5 _ 44 (0, 0) hh, cell_of_row W g 6 _ 44 (0, 0) hh, cell_of_row W g 7 _ 44 (0, 0) hh⟩, cell_of_row W g 8 _ 44 (0, 0) hh, cell_of_row W g 9 _ 44 (0, 0) hh⟩
theorem hs_free {W : World} {g : Nat} {s : W8} {t : ByteArray} {n : Int} (hh : W.heap[g]? = some (hsO s t n)) (i : Nat) : W.frozen? ⟨g, i, none⟩ = false := frozen_of_row W g i _ 44 hh

/-- A piece, and the first k pieces together. -/
def ct (s : ByteArray) : List UInt8 := (s.extract 0 (min (s.size : Int) 200).toNat).data.toList
theorem ct_eq (s : ByteArray) : s.extract 0 (min (s.size : Int) 200).toNat = bs (ct s) := rfl
theorem ct_le (s : ByteArray) : (ct s).length ≤ 200 := by
  have : (s.extract 0 (min (s.size : Int) 200).toNat).size ≤ 200 := by rw [ByteArray.size_extract]; omega
  exact this
def al (ss : List ByteArray) : Nat → List UInt8
  | 0 => []
  | k + 1 => al ss k ++ ct (ss.getD k ByteArray.empty)
theorem al_le (ss : List ByteArray) : ∀ k, (al ss k).length ≤ 200 * k
  | 0 => by simp [al]
  | k + 1 => by
    have := al_le ss k
    have := ct_le (ss.getD k ByteArray.empty)
    rw [al, List.length_append]; omega
/-- The digest that is being made of octets. -/
def mk (l : List UInt8) : HH := moreH KL startH l
theorem mk_tail (l : List UInt8) : (mk l).tail = l.drop (l.length / 64 * 64) := rfl
theorem mk_count (l : List UInt8) : (mk l).count = l.length := by
  show 0 + l.length = l.length; omega
theorem mk_ok (l : List UInt8) (h : l.length ≤ 1099511627776) : okHH (mk l) := startH_okHH.more l (by show 0 + l.length ≤ _; omega)
theorem mk_more (a b : List UInt8) : moreH KL (mk a) b = mk (a ++ b) := moreH_append KL startH a b
theorem mk_nil : mk [] = startH := rfl
theorem slice_min (A : Option Addr) (len cap : Nat) (hl : len ≤ cap) (wx : World) : (Instr.slice 45 (.slice A len cap) none (some (.int .i64 (min (len : Int) 8))) none).run Tryd.prog wx = .ok (.slice A (min len 8) cap) wx := by
  have := run_slice_h (P := Tryd.prog) (w := wx) 45 A len cap (by kernel_rfl) .i64 (min (len : Int) 8) (by omega) (by omega)
  rw [this, show (min (len : Int) 8).toNat = min len 8 by omega]
  have hs : (sizeOf (Tryd.prog.elem 45)).run Tryd.prog wx = .ok 1 wx := by kernel_rfl
  rw [hs]
  cases A <;> simp [sliced, Result.andThen, Addr.add]
end Go.Proofs.YtfdeegafdaobdaaDoor
