/- Contract of more: octets go into a digest that is being made. -/
import Derived.Test.YtfdeegafdaobdaaDoorI
namespace Go.Proofs.YtfdeegafdaobdaaDoor
open Go.RowKit Go.Shelf
attribute [local go_sem] Oper.semAt_some

def bs (l : List UInt8) : ByteArray := ⟨l.toArray⟩
theorem bs_data (l : List UInt8) : (bs l).data.toList = l := rfl
theorem bs_of (s : ByteArray) : bs s.data.toList = s := rfl
theorem bs_size (l : List UInt8) : (bs l).size = l.length := rfl
theorem ext_list (s : ByteArray) (a b : Nat) : (s.extract a b).data.toList = (s.data.toList.drop a).take (b - a) := by
  simp [ByteArray.data_extract, Array.toList_extract, List.extract]
theorem ext_bs (s : ByteArray) (a b : Nat) : s.extract a b = bs ((s.data.toList.drop a).take (b - a)) := by rw [← ext_list]; rfl
/-- The block of a digest that is being made. -/
def Mk (W : World) (g : Nat) (s : W8) (t : ByteArray) (n : Int) (kb : Nat) : Prop := W.heap[g]? = some (.cells #[wd s.a, wd s.b, wd s.c, wd s.d, wd s.e, wd s.f, wd s.g, wd s.h, .string t, .int .i64 n, .pointer (some ⟨kb, 0, none⟩)] 76 (0, 0))
theorem Mk.cells {W : World} {g : Nat} {s : W8} {t : ByteArray} {n : Int} {kb : Nat} (h : Mk W g s t n kb) :
    ((W.cell? ⟨g, 0, none⟩ = some (wd s.a) ∧ W.cell? ⟨g, 1, none⟩ = some (wd s.b) ∧ W.cell? ⟨g, 2, none⟩ = some (wd s.c) ∧ W.cell? ⟨g, 3, none⟩ = some (wd s.d)) ∧ (W.cell? ⟨g, 4, none⟩ = some (wd s.e) ∧ W.cell? ⟨g, 5, none⟩ = some (wd s.f) ∧ W.cell? ⟨g, 6, none⟩ = some (wd s.g) ∧ W.cell? ⟨g, 7, none⟩ = some (wd s.h))) ∧
    (W.cell? ⟨g, 8, none⟩ = some (.string t) ∧ W.cell? ⟨g, 9, none⟩ = some (.int .i64 n) ∧ W.cell? ⟨g, 10, none⟩ = some (.pointer (some ⟨kb, 0, none⟩))) :=
  ⟨⟨⟨cell_of_row W g 0 _ 76 (0, 0) h, cell_of_row W g 1 _ 76 (0, 0) h, cell_of_row W g 2 _ 76 (0, 0) h, cell_of_row W g 3 _ 76 (0, 0) h⟩, ⟨cell_of_row W g 4 _ 76 (0, 0) h, cell_of_row W g 5 _ 76 (0, 0) h, cell_of_row W g 6 _ 76 (0, 0) h, cell_of_row W g 7 _ 76 (0, 0) h⟩⟩,
   ⟨cell_of_row W g 8 _ 76 (0, 0) h, cell_of_row W g 9 _ 76 (0, 0) h, cell_of_row W g 10 _ 76 (0, 0) h⟩⟩
theorem Mk.free {W : World} {g : Nat} {s : W8} {t : ByteArray} {n : Int} {kb : Nat} (h : Mk W g s t n kb) (i : Nat) : W.frozen? ⟨g, i, none⟩ = false := frozen_of_row W g i _ 76 h
theorem Mk.lt {W : World} {g : Nat} {s : W8} {t : ByteArray} {n : Int} {kb : Nat} (h : Mk W g s t n kb) : g < W.heap.size := (Array.getElem?_eq_some_iff.1 h).1
theorem Mk.below {W W' : World} {B g : Nat} {s : W8} {t : ByteArray} {n : Int} {kb : Nat} (h : Mk W g s t n kb) (hb : Below B W W') (hg : g < B) : Mk W' g s t n kb := (hb.block g hg).trans h
/-- Eight words are stored. -/
def put8 (W : World) (g : Nat) (s' : W8) : World := (((((((W.setCell ⟨g, 0, none⟩ (wd s'.a)).setCell ⟨g, 1, none⟩ (wd s'.b)).setCell ⟨g, 2, none⟩ (wd s'.c)).setCell ⟨g, 3, none⟩ (wd s'.d)).setCell ⟨g, 4, none⟩ (wd s'.e)).setCell ⟨g, 5, none⟩ (wd s'.f)).setCell ⟨g, 6, none⟩ (wd s'.g)).setCell ⟨g, 7, none⟩ (wd s'.h)
theorem put8_heap (W : World) (g : Nat) (s' : W8) (k : Nat) (h : k ≠ g) : (put8 W g s').heap[k]? = W.heap[k]? := by
  unfold put8
  repeat (refine (heap_setCell_other _ _ _ _ h).trans ?_)
  rfl
theorem put8_size (W : World) (g : Nat) (s' : W8) : (put8 W g s').heap.size = W.heap.size := by simp [put8]
theorem put8_below {W W' : World} {B : Nat} (h : Below B W W') {g : Nat} (hg : B ≤ g) (s' : W8) : Below B W (put8 W' g s') := by
  unfold put8
  repeat (refine Below.setCell ?_ hg _)
  exact h
theorem Mk.words {W : World} {g : Nat} {s : W8} {t : ByteArray} {n : Int} {kb : Nat} (h : Mk W g s t n kb) (s' : W8) : Mk (put8 W g s') g s' t n kb := by
  have h1 : (W.setCell ⟨g, 0, none⟩ (wd s'.a)).heap[g]? = some (.cells #[wd s'.a, wd s.b, wd s.c, wd s.d, wd s.e, wd s.f, wd s.g, wd s.h, .string t, .int .i64 n, .pointer (some ⟨kb, 0, none⟩)] 76 (0, 0)) := heap_setCell_same W g 0 _ 76 (wd s'.a) h
  have h2 : ((W.setCell ⟨g, 0, none⟩ (wd s'.a)).setCell ⟨g, 1, none⟩ (wd s'.b)).heap[g]? = some (.cells #[wd s'.a, wd s'.b, wd s.c, wd s.d, wd s.e, wd s.f, wd s.g, wd s.h, .string t, .int .i64 n, .pointer (some ⟨kb, 0, none⟩)] 76 (0, 0)) := heap_setCell_same (W.setCell ⟨g, 0, none⟩ (wd s'.a)) g 1 _ 76 (wd s'.b) h1
  have h3 : (((W.setCell ⟨g, 0, none⟩ (wd s'.a)).setCell ⟨g, 1, none⟩ (wd s'.b)).setCell ⟨g, 2, none⟩ (wd s'.c)).heap[g]? = some (.cells #[wd s'.a, wd s'.b, wd s'.c, wd s.d, wd s.e, wd s.f, wd s.g, wd s.h, .string t, .int .i64 n, .pointer (some ⟨kb, 0, none⟩)] 76 (0, 0)) := heap_setCell_same ((W.setCell ⟨g, 0, none⟩ (wd s'.a)).setCell ⟨g, 1, none⟩ (wd s'.b)) g 2 _ 76 (wd s'.c) h2
  have h4 : ((((W.setCell ⟨g, 0, none⟩ (wd s'.a)).setCell ⟨g, 1, none⟩ (wd s'.b)).setCell ⟨g, 2, none⟩ (wd s'.c)).setCell ⟨g, 3, none⟩ (wd s'.d)).heap[g]? = some (.cells #[wd s'.a, wd s'.b, wd s'.c, wd s'.d, wd s.e, wd s.f, wd s.g, wd s.h, .string t, .int .i64 n, .pointer (some ⟨kb, 0, none⟩)] 76 (0, 0)) := heap_setCell_same (((W.setCell ⟨g, 0, none⟩ (wd s'.a)).setCell ⟨g, 1, none⟩ (wd s'.b)).setCell ⟨g, 2, none⟩ (wd s'.c)) g 3 _ 76 (wd s'.d) h3
  have h5 : (((((W.setCell ⟨g, 0, none⟩ (wd s'.a)).setCell ⟨g, 1, none⟩ (wd s'.b)).setCell ⟨g, 2, none⟩ (wd s'.c)).setCell ⟨g, 3, none⟩ (wd s'.d)).setCell ⟨g, 4, none⟩ (wd s'.e)).heap[g]? = some (.cells #[wd s'.a, wd s'.b, wd s'.c, wd s'.d, wd s'.e, wd s.f, wd s.g, wd s.h, .string t, .int .i64 n, .pointer (some ⟨kb, 0, none⟩)] 76 (0, 0)) := heap_setCell_same ((((W.setCell ⟨g, 0, none⟩ (wd s'.a)).setCell ⟨g, 1, none⟩ (wd s'.b)).setCell ⟨g, 2, none⟩ (wd s'.c)).setCell ⟨g, 3, none⟩ (wd s'.d)) g 4 _ 76 (wd s'.e) h4
  have h6 : ((((((W.setCell ⟨g, 0, none⟩ (wd s'.a)).setCell ⟨g, 1, none⟩ (wd s'.b)).setCell ⟨g, 2, none⟩ (wd s'.c)).setCell ⟨g, 3, none⟩ (wd s'.d)).setCell ⟨g, 4, none⟩ (wd s'.e)).setCell ⟨g, 5, none⟩ (wd s'.f)).heap[g]? = some (.cells #[wd s'.a, wd s'.b, wd s'.c, wd s'.d, wd s'.e, wd s'.f, wd s.g, wd s.h, .string t, .int .i64 n, .pointer (some ⟨kb, 0, none⟩)] 76 (0, 0)) := heap_setCell_same (((((W.setCell ⟨g, 0, none⟩ (wd s'.a)).setCell ⟨g, 1, none⟩ (wd s'.b)).setCell ⟨g, 2, none⟩ (wd s'.c)).setCell ⟨g, 3, none⟩ (wd s'.d)).setCell ⟨g, 4, none⟩ (wd s'.e)) g 5 _ 76 (wd s'.f) h5
  have h7 : (((((((W.setCell ⟨g, 0, none⟩ (wd s'.a)).setCell ⟨g, 1, none⟩ (wd s'.b)).setCell ⟨g, 2, none⟩ (wd s'.c)).setCell ⟨g, 3, none⟩ (wd s'.d)).setCell ⟨g, 4, none⟩ (wd s'.e)).setCell ⟨g, 5, none⟩ (wd s'.f)).setCell ⟨g, 6, none⟩ (wd s'.g)).heap[g]? = some (.cells #[wd s'.a, wd s'.b, wd s'.c, wd s'.d, wd s'.e, wd s'.f, wd s'.g, wd s.h, .string t, .int .i64 n, .pointer (some ⟨kb, 0, none⟩)] 76 (0, 0)) := heap_setCell_same ((((((W.setCell ⟨g, 0, none⟩ (wd s'.a)).setCell ⟨g, 1, none⟩ (wd s'.b)).setCell ⟨g, 2, none⟩ (wd s'.c)).setCell ⟨g, 3, none⟩ (wd s'.d)).setCell ⟨g, 4, none⟩ (wd s'.e)).setCell ⟨g, 5, none⟩ (wd s'.f)) g 6 _ 76 (wd s'.g) h6
  have h8 : ((((((((W.setCell ⟨g, 0, none⟩ (wd s'.a)).setCell ⟨g, 1, none⟩ (wd s'.b)).setCell ⟨g, 2, none⟩ (wd s'.c)).setCell ⟨g, 3, none⟩ (wd s'.d)).setCell ⟨g, 4, none⟩ (wd s'.e)).setCell ⟨g, 5, none⟩ (wd s'.f)).setCell ⟨g, 6, none⟩ (wd s'.g)).setCell ⟨g, 7, none⟩ (wd s'.h)).heap[g]? = some (.cells #[wd s'.a, wd s'.b, wd s'.c, wd s'.d, wd s'.e, wd s'.f, wd s'.g, wd s'.h, .string t, .int .i64 n, .pointer (some ⟨kb, 0, none⟩)] 76 (0, 0)) := heap_setCell_same (((((((W.setCell ⟨g, 0, none⟩ (wd s'.a)).setCell ⟨g, 1, none⟩ (wd s'.b)).setCell ⟨g, 2, none⟩ (wd s'.c)).setCell ⟨g, 3, none⟩ (wd s'.d)).setCell ⟨g, 4, none⟩ (wd s'.e)).setCell ⟨g, 5, none⟩ (wd s'.f)).setCell ⟨g, 6, none⟩ (wd s'.g)) g 7 _ 76 (wd s'.h) h7
  unfold put8
  exact h8
/-- The result's block, still empty. -/
def Em (W : World) (g : Nat) : Prop := W.heap[g]? = some (.cells #[.int .u32 0, .int .u32 0, .int .u32 0, .int .u32 0, .int .u32 0, .int .u32 0, .int .u32 0, .int .u32 0, .string ⟨#[]⟩, .int .i64 0, .pointer none] 76 (0, 0))
theorem Em.cell {W : World} {g : Nat} (h : Em W g) (i : Nat) : W.cell? ⟨g, i, none⟩ = (#[.int .u32 0, .int .u32 0, .int .u32 0, .int .u32 0, .int .u32 0, .int .u32 0, .int .u32 0, .int .u32 0, .string ⟨#[]⟩, .int .i64 0, .pointer none] : Array Value)[i]? := cell_of_row W g i _ 76 (0, 0) h
theorem Em.cells {W : World} {g : Nat} (h : Em W g) :
    ((W.cell? ⟨g, 0, none⟩ = some (.int .u32 0) ∧ W.cell? ⟨g, 1, none⟩ = some (.int .u32 0) ∧ W.cell? ⟨g, 2, none⟩ = some (.int .u32 0) ∧ W.cell? ⟨g, 3, none⟩ = some (.int .u32 0)) ∧ (W.cell? ⟨g, 4, none⟩ = some (.int .u32 0) ∧ W.cell? ⟨g, 5, none⟩ = some (.int .u32 0) ∧ W.cell? ⟨g, 6, none⟩ = some (.int .u32 0) ∧ W.cell? ⟨g, 7, none⟩ = some (.int .u32 0))) ∧
    (W.cell? ⟨g, 8, none⟩ = some (.string ⟨#[]⟩) ∧ W.cell? ⟨g, 9, none⟩ = some (.int .i64 0) ∧ W.cell? ⟨g, 10, none⟩ = some (.pointer none)) :=
  ⟨⟨⟨h.cell 0, h.cell 1, h.cell 2, h.cell 3⟩, ⟨h.cell 4, h.cell 5, h.cell 6, h.cell 7⟩⟩, ⟨h.cell 8, h.cell 9, h.cell 10⟩⟩
theorem Em.free {W : World} {g : Nat} (h : Em W g) (i : Nat) : W.frozen? ⟨g, i, none⟩ = false := frozen_of_row W g i _ 76 h
theorem Em.lt {W : World} {g : Nat} (h : Em W g) : g < W.heap.size := (Array.getElem?_eq_some_iff.1 h).1
def put11 (W : World) (g : Nat) (s' : W8) (t : ByteArray) (n : Int) (kb : Nat) : World := (((put8 W g s').setCell ⟨g, 8, none⟩ (.string t)).setCell ⟨g, 9, none⟩ (.int .i64 n)).setCell ⟨g, 10, none⟩ (.pointer (some ⟨kb, 0, none⟩))
theorem put11_heap (W : World) (g : Nat) (s' : W8) (t : ByteArray) (n : Int) (kb : Nat) (k : Nat) (h : k ≠ g) : (put11 W g s' t n kb).heap[k]? = W.heap[k]? := by
  unfold put11
  exact (heap_setCell_other _ _ _ _ h).trans ((heap_setCell_other _ _ _ _ h).trans ((heap_setCell_other _ _ _ _ h).trans (put8_heap W g s' k h)))
theorem put11_below {W W' : World} {B : Nat} (h : Below B W W') {g : Nat} (hg : B ≤ g) (s' : W8) (t : ByteArray) (n : Int) (kb : Nat) : Below B W (put11 W' g s' t n kb) := by
  unfold put11
  exact (((put8_below h hg s').setCell hg _).setCell hg _).setCell hg _
theorem Em.put {W : World} {g : Nat} (h : Em W g) (s' : W8) (t : ByteArray) (n : Int) (kb : Nat) : Mk (put11 W g s' t n kb) g s' t n kb := by
  have h1 : (W.setCell ⟨g, 0, none⟩ (wd s'.a)).heap[g]? = some (.cells #[wd s'.a, .int .u32 0, .int .u32 0, .int .u32 0, .int .u32 0, .int .u32 0, .int .u32 0, .int .u32 0, .string ⟨#[]⟩, .int .i64 0, .pointer none] 76 (0, 0)) := heap_setCell_same W g 0 _ 76 (wd s'.a) h
  have h2 : ((W.setCell ⟨g, 0, none⟩ (wd s'.a)).setCell ⟨g, 1, none⟩ (wd s'.b)).heap[g]? = some (.cells #[wd s'.a, wd s'.b, .int .u32 0, .int .u32 0, .int .u32 0, .int .u32 0, .int .u32 0, .int .u32 0, .string ⟨#[]⟩, .int .i64 0, .pointer none] 76 (0, 0)) := heap_setCell_same (W.setCell ⟨g, 0, none⟩ (wd s'.a)) g 1 _ 76 (wd s'.b) h1
  have h3 : (((W.setCell ⟨g, 0, none⟩ (wd s'.a)).setCell ⟨g, 1, none⟩ (wd s'.b)).setCell ⟨g, 2, none⟩ (wd s'.c)).heap[g]? = some (.cells #[wd s'.a, wd s'.b, wd s'.c, .int .u32 0, .int .u32 0, .int .u32 0, .int .u32 0, .int .u32 0, .string ⟨#[]⟩, .int .i64 0, .pointer none] 76 (0, 0)) := heap_setCell_same ((W.setCell ⟨g, 0, none⟩ (wd s'.a)).setCell ⟨g, 1, none⟩ (wd s'.b)) g 2 _ 76 (wd s'.c) h2
  have h4 : ((((W.setCell ⟨g, 0, none⟩ (wd s'.a)).setCell ⟨g, 1, none⟩ (wd s'.b)).setCell ⟨g, 2, none⟩ (wd s'.c)).setCell ⟨g, 3, none⟩ (wd s'.d)).heap[g]? = some (.cells #[wd s'.a, wd s'.b, wd s'.c, wd s'.d, .int .u32 0, .int .u32 0, .int .u32 0, .int .u32 0, .string ⟨#[]⟩, .int .i64 0, .pointer none] 76 (0, 0)) := heap_setCell_same (((W.setCell ⟨g, 0, none⟩ (wd s'.a)).setCell ⟨g, 1, none⟩ (wd s'.b)).setCell ⟨g, 2, none⟩ (wd s'.c)) g 3 _ 76 (wd s'.d) h3
  have h5 : (((((W.setCell ⟨g, 0, none⟩ (wd s'.a)).setCell ⟨g, 1, none⟩ (wd s'.b)).setCell ⟨g, 2, none⟩ (wd s'.c)).setCell ⟨g, 3, none⟩ (wd s'.d)).setCell ⟨g, 4, none⟩ (wd s'.e)).heap[g]? = some (.cells #[wd s'.a, wd s'.b, wd s'.c, wd s'.d, wd s'.e, .int .u32 0, .int .u32 0, .int .u32 0, .string ⟨#[]⟩, .int .i64 0, .pointer none] 76 (0, 0)) := heap_setCell_same ((((W.setCell ⟨g, 0, none⟩ (wd s'.a)).setCell ⟨g, 1, none⟩ (wd s'.b)).setCell ⟨g, 2, none⟩ (wd s'.c)).setCell ⟨g, 3, none⟩ (wd s'.d)) g 4 _ 76 (wd s'.e) h4
  have h6 : ((((((W.setCell ⟨g, 0, none⟩ (wd s'.a)).setCell ⟨g, 1, none⟩ (wd s'.b)).setCell ⟨g, 2, none⟩ (wd s'.c)).setCell ⟨g, 3, none⟩ (wd s'.d)).setCell ⟨g, 4, none⟩ (wd s'.e)).setCell ⟨g, 5, none⟩ (wd s'.f)).heap[g]? = some (.cells #[wd s'.a, wd s'.b, wd s'.c, wd s'.d, wd s'.e, wd s'.f, .int .u32 0, .int .u32 0, .string ⟨#[]⟩, .int .i64 0, .pointer none] 76 (0, 0)) := heap_setCell_same (((((W.setCell ⟨g, 0, none⟩ (wd s'.a)).setCell ⟨g, 1, none⟩ (wd s'.b)).setCell ⟨g, 2, none⟩ (wd s'.c)).setCell ⟨g, 3, none⟩ (wd s'.d)).setCell ⟨g, 4, none⟩ (wd s'.e)) g 5 _ 76 (wd s'.f) h5
  have h7 : (((((((W.setCell ⟨g, 0, none⟩ (wd s'.a)).setCell ⟨g, 1, none⟩ (wd s'.b)).setCell ⟨g, 2, none⟩ (wd s'.c)).setCell ⟨g, 3, none⟩ (wd s'.d)).setCell ⟨g, 4, none⟩ (wd s'.e)).setCell ⟨g, 5, none⟩ (wd s'.f)).setCell ⟨g, 6, none⟩ (wd s'.g)).heap[g]? = some (.cells #[wd s'.a, wd s'.b, wd s'.c, wd s'.d, wd s'.e, wd s'.f, wd s'.g, .int .u32 0, .string ⟨#[]⟩, .int .i64 0, .pointer none] 76 (0, 0)) := heap_setCell_same ((((((W.setCell ⟨g, 0, none⟩ (wd s'.a)).setCell ⟨g, 1, none⟩ (wd s'.b)).setCell ⟨g, 2, none⟩ (wd s'.c)).setCell ⟨g, 3, none⟩ (wd s'.d)).setCell ⟨g, 4, none⟩ (wd s'.e)).setCell ⟨g, 5, none⟩ (wd s'.f)) g 6 _ 76 (wd s'.g) h6
  have h8 : ((((((((W.setCell ⟨g, 0, none⟩ (wd s'.a)).setCell ⟨g, 1, none⟩ (wd s'.b)).setCell ⟨g, 2, none⟩ (wd s'.c)).setCell ⟨g, 3, none⟩ (wd s'.d)).setCell ⟨g, 4, none⟩ (wd s'.e)).setCell ⟨g, 5, none⟩ (wd s'.f)).setCell ⟨g, 6, none⟩ (wd s'.g)).setCell ⟨g, 7, none⟩ (wd s'.h)).heap[g]? = some (.cells #[wd s'.a, wd s'.b, wd s'.c, wd s'.d, wd s'.e, wd s'.f, wd s'.g, wd s'.h, .string ⟨#[]⟩, .int .i64 0, .pointer none] 76 (0, 0)) := heap_setCell_same (((((((W.setCell ⟨g, 0, none⟩ (wd s'.a)).setCell ⟨g, 1, none⟩ (wd s'.b)).setCell ⟨g, 2, none⟩ (wd s'.c)).setCell ⟨g, 3, none⟩ (wd s'.d)).setCell ⟨g, 4, none⟩ (wd s'.e)).setCell ⟨g, 5, none⟩ (wd s'.f)).setCell ⟨g, 6, none⟩ (wd s'.g)) g 7 _ 76 (wd s'.h) h7
  have h9 : (((((((((W.setCell ⟨g, 0, none⟩ (wd s'.a)).setCell ⟨g, 1, none⟩ (wd s'.b)).setCell ⟨g, 2, none⟩ (wd s'.c)).setCell ⟨g, 3, none⟩ (wd s'.d)).setCell ⟨g, 4, none⟩ (wd s'.e)).setCell ⟨g, 5, none⟩ (wd s'.f)).setCell ⟨g, 6, none⟩ (wd s'.g)).setCell ⟨g, 7, none⟩ (wd s'.h)).setCell ⟨g, 8, none⟩ (.string t)).heap[g]? = some (.cells #[wd s'.a, wd s'.b, wd s'.c, wd s'.d, wd s'.e, wd s'.f, wd s'.g, wd s'.h, .string t, .int .i64 0, .pointer none] 76 (0, 0)) := heap_setCell_same ((((((((W.setCell ⟨g, 0, none⟩ (wd s'.a)).setCell ⟨g, 1, none⟩ (wd s'.b)).setCell ⟨g, 2, none⟩ (wd s'.c)).setCell ⟨g, 3, none⟩ (wd s'.d)).setCell ⟨g, 4, none⟩ (wd s'.e)).setCell ⟨g, 5, none⟩ (wd s'.f)).setCell ⟨g, 6, none⟩ (wd s'.g)).setCell ⟨g, 7, none⟩ (wd s'.h)) g 8 _ 76 (.string t) h8
  have h10 : ((((((((((W.setCell ⟨g, 0, none⟩ (wd s'.a)).setCell ⟨g, 1, none⟩ (wd s'.b)).setCell ⟨g, 2, none⟩ (wd s'.c)).setCell ⟨g, 3, none⟩ (wd s'.d)).setCell ⟨g, 4, none⟩ (wd s'.e)).setCell ⟨g, 5, none⟩ (wd s'.f)).setCell ⟨g, 6, none⟩ (wd s'.g)).setCell ⟨g, 7, none⟩ (wd s'.h)).setCell ⟨g, 8, none⟩ (.string t)).setCell ⟨g, 9, none⟩ (.int .i64 n)).heap[g]? = some (.cells #[wd s'.a, wd s'.b, wd s'.c, wd s'.d, wd s'.e, wd s'.f, wd s'.g, wd s'.h, .string t, .int .i64 n, .pointer none] 76 (0, 0)) := heap_setCell_same (((((((((W.setCell ⟨g, 0, none⟩ (wd s'.a)).setCell ⟨g, 1, none⟩ (wd s'.b)).setCell ⟨g, 2, none⟩ (wd s'.c)).setCell ⟨g, 3, none⟩ (wd s'.d)).setCell ⟨g, 4, none⟩ (wd s'.e)).setCell ⟨g, 5, none⟩ (wd s'.f)).setCell ⟨g, 6, none⟩ (wd s'.g)).setCell ⟨g, 7, none⟩ (wd s'.h)).setCell ⟨g, 8, none⟩ (.string t)) g 9 _ 76 (.int .i64 n) h9
  have h11 : (((((((((((W.setCell ⟨g, 0, none⟩ (wd s'.a)).setCell ⟨g, 1, none⟩ (wd s'.b)).setCell ⟨g, 2, none⟩ (wd s'.c)).setCell ⟨g, 3, none⟩ (wd s'.d)).setCell ⟨g, 4, none⟩ (wd s'.e)).setCell ⟨g, 5, none⟩ (wd s'.f)).setCell ⟨g, 6, none⟩ (wd s'.g)).setCell ⟨g, 7, none⟩ (wd s'.h)).setCell ⟨g, 8, none⟩ (.string t)).setCell ⟨g, 9, none⟩ (.int .i64 n)).setCell ⟨g, 10, none⟩ (.pointer (some ⟨kb, 0, none⟩))).heap[g]? = some (.cells #[wd s'.a, wd s'.b, wd s'.c, wd s'.d, wd s'.e, wd s'.f, wd s'.g, wd s'.h, .string t, .int .i64 n, .pointer (some ⟨kb, 0, none⟩)] 76 (0, 0)) := heap_setCell_same ((((((((((W.setCell ⟨g, 0, none⟩ (wd s'.a)).setCell ⟨g, 1, none⟩ (wd s'.b)).setCell ⟨g, 2, none⟩ (wd s'.c)).setCell ⟨g, 3, none⟩ (wd s'.d)).setCell ⟨g, 4, none⟩ (wd s'.e)).setCell ⟨g, 5, none⟩ (wd s'.f)).setCell ⟨g, 6, none⟩ (wd s'.g)).setCell ⟨g, 7, none⟩ (wd s'.h)).setCell ⟨g, 8, none⟩ (.string t)).setCell ⟨g, 9, none⟩ (.int .i64 n)) g 10 _ 76 (.pointer (some ⟨kb, 0, none⟩)) h10
  unfold put11 put8
  exact h11
/-- The words after some blocks. -/
def stOf (s : W8) (pre : List Blk) : W8 := pre.foldl (fun h x => mixW KL h x.1.data.toList) s
theorem stOf_snoc (s : W8) (pre : List Blk) (x : Blk) : stOf s (pre ++ [x]) = mixW KL (stOf s pre) x.1.data.toList := by simp [stOf]
theorem stOf_ok {s : W8} (h : s.ok) : ∀ pre : List Blk, (stOf s pre).ok := by
  intro pre
  induction pre generalizing s with
  | nil => exact h
  | cons x pre ih => exact ih (addW_ok _ _)
theorem stOf_blks (s : W8) (r : ByteArray) (pre : List Blk) (n : Nat) (h : pre.map (·.1) = blks r n) : stOf s pre = mixB KL s r.data.toList n := by
  have h1 : stOf s pre = (pre.map (·.1)).foldl (fun h (x : ByteArray) => mixW KL h x.data.toList) s := by rw [stOf, List.foldl_map]
  rw [h1, h]
  clear h h1
  induction n with
  | zero => rfl
  | succ n ih =>
    rw [blks_succ, List.foldl_append, ih, List.foldl_cons, List.foldl_nil, mixB, ext_list]
    rw [show 64 * n + 64 - 64 * n = 64 by omega]; rfl
theorem KeepsOthers.of_below {W W' : World} (h : Below W.heap.size W W') : KeepsOthers W W' := ⟨h.size, fun k _ hk _ => (h.block k (Array.getElem?_eq_some_iff.1 hk).1).trans hk⟩

theorem size76 : (Tryd.prog.info? 76).map (·.size) = some 11 := by kernel_rfl
set_option maxRecDepth 100000 in
set_option maxHeartbeats 4000000 in
theorem more_raw (s : W8) (hs : s.ok) (t : ByteArray) (n : Int) (kb : Nat) (x : ByteArray) (w : World) (hK : Arr w kb 103 KL) (hsz : t.size + x.size ≤ 140737488351232) (hn : 0 ≤ n) (hn2 : n ≤ 1099511627776) :
    Calls Tryd.prog 38 #[mkV s t n kb, .string x] w fun e w' => e = .returned (mkV (mixB KL s (t ++ x).data.toList ((t ++ x).size / 64)) (bs ((t ++ x).data.toList.drop ((t ++ x).size / 64 * 64))) (n + x.size) kb) ∧ Below w.heap.size w w' := by
  refine (callsIn_wide (n := 5)).1 ?_
  have hkb := hK.lt
  have hrs : (t ++ x).size ≤ 140737488351232 := by simpa using hsz
  obtain ⟨r, hr⟩ : ∃ r, t ++ x = r := ⟨_, rfl⟩
  rw [hr] at hrs ⊢
  refine callsIn_of_wp_marks Tryd.func38 rfl trivial ?_ rfl
  simp only [Tryd.ntmps38, List.size_toArray, List.length_cons, List.length_nil, Nat.reduceAdd, Nat.reduceSub, Array.replicate_succ, Array.replicate_zero, List.push_toArray, List.append_toArray, List.nil_append, List.cons_append]
  have HK := Lib.hid hK
  clear hK
  gi_wp2_with (refine ⟨trivial, ?_⟩; gi_at_call 60; refine (callsIn_wide.2 (blocks_any r _)).mono ?_; rintro e w' ⟨rfl, rfl⟩)
  have A0 : Mk (((w.alloc (Obj.cells #[wd s.a, wd s.b, wd s.c, wd s.d, wd s.e, wd s.f, wd s.g, wd s.h, Value.string t, Value.int IntKind.i64 n, Value.pointer (some ⟨kb, 0, none⟩)] 76)).alloc (Obj.cells #[Value.int IntKind.u32 0, Value.int IntKind.u32 0, Value.int IntKind.u32 0, Value.int IntKind.u32 0, Value.int IntKind.u32 0, Value.int IntKind.u32 0, Value.int IntKind.u32 0, Value.int IntKind.u32 0, Value.string ⟨#[]⟩, Value.int IntKind.i64 0, Value.pointer none] 76)).alloc (Obj.cells #[Value.string r] 9)) w.heap.size s t n kb := by
    have h0 := heap_alloc_new w (Obj.cells #[wd s.a, wd s.b, wd s.c, wd s.d, wd s.e, wd s.f, wd s.g, wd s.h, Value.string t, Value.int IntKind.i64 n, Value.pointer (some ⟨kb, 0, none⟩)] 76)
    exact (Below.heap_alloc _ _ _ (by simp; omega)).trans ((Below.heap_alloc _ _ _ (by simp)).trans h0)
  have A1 : Em (((w.alloc (Obj.cells #[wd s.a, wd s.b, wd s.c, wd s.d, wd s.e, wd s.f, wd s.g, wd s.h, Value.string t, Value.int IntKind.i64 n, Value.pointer (some ⟨kb, 0, none⟩)] 76)).alloc (Obj.cells #[Value.int IntKind.u32 0, Value.int IntKind.u32 0, Value.int IntKind.u32 0, Value.int IntKind.u32 0, Value.int IntKind.u32 0, Value.int IntKind.u32 0, Value.int IntKind.u32 0, Value.int IntKind.u32 0, Value.string ⟨#[]⟩, Value.int IntKind.i64 0, Value.pointer none] 76)).alloc (Obj.cells #[Value.string r] 9)) (w.heap.size + 1) := by
    have h0 := heap_alloc_new (w.alloc (Obj.cells #[wd s.a, wd s.b, wd s.c, wd s.d, wd s.e, wd s.f, wd s.g, wd s.h, Value.string t, Value.int IntKind.i64 n, Value.pointer (some ⟨kb, 0, none⟩)] 76)) (Obj.cells #[Value.int IntKind.u32 0, Value.int IntKind.u32 0, Value.int IntKind.u32 0, Value.int IntKind.u32 0, Value.int IntKind.u32 0, Value.int IntKind.u32 0, Value.int IntKind.u32 0, Value.int IntKind.u32 0, Value.string ⟨#[]⟩, Value.int IntKind.i64 0, Value.pointer none] 76)
    rw [World.size_alloc] at h0
    exact (Below.heap_alloc _ _ _ (by simp)).trans h0
  have A2 : (((w.alloc (Obj.cells #[wd s.a, wd s.b, wd s.c, wd s.d, wd s.e, wd s.f, wd s.g, wd s.h, Value.string t, Value.int IntKind.i64 n, Value.pointer (some ⟨kb, 0, none⟩)] 76)).alloc (Obj.cells #[Value.int IntKind.u32 0, Value.int IntKind.u32 0, Value.int IntKind.u32 0, Value.int IntKind.u32 0, Value.int IntKind.u32 0, Value.int IntKind.u32 0, Value.int IntKind.u32 0, Value.int IntKind.u32 0, Value.string ⟨#[]⟩, Value.int IntKind.i64 0, Value.pointer none] 76)).alloc (Obj.cells #[Value.string r] 9)).cell? ⟨w.heap.size + 1 + 1, 0, none⟩ = some (.string r) := by
    have h0 := heap_alloc_new (((w.alloc (Obj.cells #[wd s.a, wd s.b, wd s.c, wd s.d, wd s.e, wd s.f, wd s.g, wd s.h, Value.string t, Value.int IntKind.i64 n, Value.pointer (some ⟨kb, 0, none⟩)] 76)).alloc (Obj.cells #[Value.int IntKind.u32 0, Value.int IntKind.u32 0, Value.int IntKind.u32 0, Value.int IntKind.u32 0, Value.int IntKind.u32 0, Value.int IntKind.u32 0, Value.int IntKind.u32 0, Value.int IntKind.u32 0, Value.string ⟨#[]⟩, Value.int IntKind.i64 0, Value.pointer none] 76))) (Obj.cells #[Value.string r] 9)
    simp only [World.size_alloc] at h0
    exact cell_of_row _ _ 0 _ 9 (0, 0) h0
  have A3 := ((HK.out.alloc (Obj.cells #[wd s.a, wd s.b, wd s.c, wd s.d, wd s.e, wd s.f, wd s.g, wd s.h, Value.string t, Value.int IntKind.i64 n, Value.pointer (some ⟨kb, 0, none⟩)] 76)).alloc (Obj.cells #[Value.int IntKind.u32 0, Value.int IntKind.u32 0, Value.int IntKind.u32 0, Value.int IntKind.u32 0, Value.int IntKind.u32 0, Value.int IntKind.u32 0, Value.int IntKind.u32 0, Value.int IntKind.u32 0, Value.string ⟨#[]⟩, Value.int IntKind.i64 0, Value.pointer none] 76)).alloc (Obj.cells #[Value.string r] 9)
  have A4 : Below w.heap.size w (((w.alloc (Obj.cells #[wd s.a, wd s.b, wd s.c, wd s.d, wd s.e, wd s.f, wd s.g, wd s.h, Value.string t, Value.int IntKind.i64 n, Value.pointer (some ⟨kb, 0, none⟩)] 76)).alloc (Obj.cells #[Value.int IntKind.u32 0, Value.int IntKind.u32 0, Value.int IntKind.u32 0, Value.int IntKind.u32 0, Value.int IntKind.u32 0, Value.int IntKind.u32 0, Value.int IntKind.u32 0, Value.int IntKind.u32 0, Value.string ⟨#[]⟩, Value.int IntKind.i64 0, Value.pointer none] 76)).alloc (Obj.cells #[Value.string r] 9)) := by go_grown
  have A5 : (((w.alloc (Obj.cells #[wd s.a, wd s.b, wd s.c, wd s.d, wd s.e, wd s.f, wd s.g, wd s.h, Value.string t, Value.int IntKind.i64 n, Value.pointer (some ⟨kb, 0, none⟩)] 76)).alloc (Obj.cells #[Value.int IntKind.u32 0, Value.int IntKind.u32 0, Value.int IntKind.u32 0, Value.int IntKind.u32 0, Value.int IntKind.u32 0, Value.int IntKind.u32 0, Value.int IntKind.u32 0, Value.int IntKind.u32 0, Value.string ⟨#[]⟩, Value.int IntKind.i64 0, Value.pointer none] 76)).alloc (Obj.cells #[Value.string r] 9)).heap.size = w.heap.size + 3 := by simp
  generalize ((w.alloc (Obj.cells #[wd s.a, wd s.b, wd s.c, wd s.d, wd s.e, wd s.f, wd s.g, wd s.h, Value.string t, Value.int IntKind.i64 n, Value.pointer (some ⟨kb, 0, none⟩)] 76)).alloc (Obj.cells #[Value.int IntKind.u32 0, Value.int IntKind.u32 0, Value.int IntKind.u32 0, Value.int IntKind.u32 0, Value.int IntKind.u32 0, Value.int IntKind.u32 0, Value.int IntKind.u32 0, Value.int IntKind.u32 0, Value.string ⟨#[]⟩, Value.int IntKind.i64 0, Value.pointer none] 76)).alloc (Obj.cells #[Value.string r] 9) = wl at A0 A1 A2 A3 A4 A5 ⊢
  refine wpIn_rangeFunc_ownF rfl (by decide) (gf := 76) (lb := #[.pointer (some ⟨w.heap.size + 1 + 1, 0, none⟩)]) rfl trivial (enters_of Tryd.func76 (by kernel_rfl) rfl)
    (blocks_stops Fence.wide 4 trivial rfl (by decide) (w.heap.size + 1 + 1) r hrs wl (by omega) A2) (fun h k => k.trans h)
    (fun W l o o' hl ho hc _ => World.cell?_of_block (World.putObj_heap_other (by show w.heap.size + 1 + 1 ≠ l; omega))) (Below.refl _ _) (fun _ => rfl)
    (fun pre W => Mk W w.heap.size (stOf s pre) t n kb ∧ Em W (w.heap.size + 1) ∧ Arr W kb 103 KL ∧ w.heap.size + 3 ≤ W.heap.size ∧ Below w.heap.size w W)
    (fun _ _ _ => False)
    (fun pre W W' row hI hg hr => ⟨(grownBy_keeps_cells hg (fun r e => (hr r e).2) hI.1 rfl).trans hI.1, (grownBy_keeps_cells hg (fun r e => (hr r e).2) hI.2.1 rfl).trans hI.2.1, (grownBy_keeps_cells hg (fun r e => (hr r e).2) hI.2.2.1 rfl).trans hI.2.2.1, Nat.le_trans hI.2.2.2.1 hg.size, hI.2.2.2.2.grown hg hI.2.2.2.2.size (fun k e => by have := (hr k e).1; omega)⟩)
    (fun _ _ _ _ _ hs _ _ => hs)
    ⟨A0, A1, A3, by omega, A4⟩
    (fun y => { tmps := #[mkV s t n kb, Value.string x, Value.pointer (some ⟨w.heap.size, 0, none⟩), undef, Value.pointer (some ⟨w.heap.size + 1, 0, none⟩), Value.string r, Value.string y.1, Value.pointer (some ⟨w.heap.size, 0, none⟩), Value.pointer (some ⟨w.heap.size, 8, none⟩), Value.string t, Value.string x, Value.string r, Value.string r, Value.func (Fn.func 76) #[] #[Value.pointer (some ⟨w.heap.size + 1 + 1, 0, none⟩)], Value.string y.1, undef, undef, undef, undef, undef, undef, undef, undef, undef, undef, undef, undef, undef, undef, undef, undef, undef, undef, undef, undef, undef, undef, undef, undef, undef, undef], defers := [] }) ?assign ?body ?done ?stop
  case assign =>
    intro l x W K hK
    gi_wp2
    exact hK
  case body =>
    rintro l pre y W ⟨hM, hZ, hA, hz3, hB⟩ _
    obtain ⟨yb, hy⟩ := y
    have hok := stOf_ok hs pre
    have hsn := stOf_snoc s pre ⟨yb, hy⟩
    dsimp only at hsn
    obtain ⟨p, hp⟩ : ∃ p, stOf s pre = p := ⟨_, rfl⟩
    rw [hp] at hM hok hsn
    have hmx : ∀ w', Arr w' kb 103 KL → Calls Tryd.prog 61 #[.agg #[wd p.a, wd p.b, wd p.c, wd p.d, wd p.e, wd p.f, wd p.g, wd p.h], .string yb, .pointer (some ⟨kb, 0, none⟩)] w' fun e w'' => e = .returned (mixW KL p yb.data.toList).val ∧ Below w'.heap.size w' w'' := fun w' ha => mix_any p hok yb hy kb w' ha
    obtain ⟨q, hq⟩ : ∃ q, mixW KL p yb.data.toList = q := ⟨_, rfl⟩
    rw [hq] at hmx hsn
    obtain ⟨⟨⟨c0, c1, c2, c3⟩, ⟨c4, c5, c6, c7⟩⟩, ⟨c8, c9, c10⟩⟩ := hM.cells
    have f0 := hM.free 0
    have f1 := hM.free 1
    have f2 := hM.free 2
    have f3 := hM.free 3
    have f4 := hM.free 4
    have f5 := hM.free 5
    have f6 := hM.free 6
    have f7 := hM.free 7
    have z := hM.lt
    have HM := Lib.hid hM
    have HZ := Lib.hid hZ
    have HA := Lib.hid hA
    have HMX := Lib.hid (hmx W hA)
    have HSN := Lib.hid hsn
    have hkW : kb ≠ w.heap.size := by omega
    clear hp hok hsn hmx hq hM hZ hA
    gi_wp2_with (refine ⟨trivial, ?_⟩; gi_at_call 61; refine (CallsIn.inRound l (callsIn_wide.2 HMX.out)).mono ?_; rintro e w1 ⟨rfl, hb1⟩; obtain ⟨hc1, hf1⟩ := bcell hb1)
    refine ⟨?_, ?_, ?_⟩
    · refine (KeepsOthers.of_below hb1).trans ?_
      exact ((((((((KeepsOthers.setCell _ _ _).trans (KeepsOthers.setCell _ _ _)).trans (KeepsOthers.setCell _ _ _)).trans (KeepsOthers.setCell _ _ _)).trans (KeepsOthers.setCell _ _ _)).trans (KeepsOthers.setCell _ _ _)).trans (KeepsOthers.setCell _ _ _)).trans (KeepsOthers.setCell _ _ _))
    · exact World.cell?_of_block ((put8_heap w1 w.heap.size q (w.heap.size + 1 + 1) (by omega)).trans (hb1.block _ (by omega)))
    · refine ⟨?_, ?_, ?_, ?_, ?_⟩
      · rw [HSN.out]; exact (HM.out.below hb1 z).words q
      · exact (put8_heap w1 w.heap.size q (w.heap.size + 1) (by omega)).trans ((hb1.block _ (by omega)).trans HZ.out)
      · exact (put8_heap w1 w.heap.size q kb hkW).trans ((hb1.block _ HA.out.lt).trans HA.out)
      · exact Nat.le_trans hz3 (Nat.le_trans hb1.size (Nat.le_of_eq (put8_size w1 w.heap.size q).symm))
      · exact put8_below (hB.trans (hb1.mono hB.size)) (Nat.le_refl _) q
  case done =>
    rintro D ys W hD hys ⟨hM, hZ, hA, hz3, hB⟩ hK
    have hp := stOf_blks s r ys _ hys
    rw [hp] at hM
    obtain ⟨p, hp2⟩ : ∃ p, mixB KL s r.data.toList (r.size / 64) = p := ⟨_, rfl⟩
    rw [hp2] at hM
    obtain ⟨tl, htl⟩ : ∃ tl, bs (r.data.toList.drop (r.size / 64 * 64)) = tl := ⟨_, rfl⟩
    have hsl : ∀ wx : World, (Instr.slice 9 (.string r) (some (.int .i64 ((r.size : Int) / 64 * 64))) none none).run Tryd.prog wx = .ok (.string tl) wx := fun wx => by
      have := run_slice_string_l (P := Tryd.prog) (w := wx) 9 (s := r) Tryd.underlying9 .i64 ((r.size : Int) / 64 * 64) (by omega) (by omega)
      rw [this, ← htl, ext_bs, show ((r.size : Int) / 64 * 64).toNat = r.size / 64 * 64 by omega, List.take_of_length_le (by rw [List.length_drop]; exact Nat.le_refl _)]
    obtain ⟨⟨⟨c0, c1, c2, c3⟩, ⟨c4, c5, c6, c7⟩⟩, ⟨c8, c9, c10⟩⟩ := hM.cells
    have f8 := hM.free 8
    have f9 := hM.free 9
    obtain ⟨⟨⟨d0, d1, d2, d3⟩, ⟨d4, d5, d6, d7⟩⟩, ⟨d8, d9, d10⟩⟩ := hZ.cells
    have g0 := hZ.free 0
    have g1 := hZ.free 1
    have g2 := hZ.free 2
    have g3 := hZ.free 3
    have g4 := hZ.free 4
    have g5 := hZ.free 5
    have g6 := hZ.free 6
    have g7 := hZ.free 7
    have g8 := hZ.free 8
    have g9 := hZ.free 9
    have g10 := hZ.free 10
    have HZ := Lib.hid hZ
    have HKK := Lib.hid hK
    have HBB := Lib.hid hB
    have HD := Lib.hid hD
    have H5 := Lib.hid A5
    have HP2 := Lib.hid hp2
    have HTL := Lib.hid htl
    clear hp hp2 htl hys hM hZ hA hB hK A0 A1 A2 A3 A4 hD A5
    gi_wp2
    clear hsl c0 c1 c2 c3 c4 c5 c6 c7 c8 c9 c10 f8 f9 d0 d1 d2 d3 d4 d5 d6 d7 d8 d9 d10 g0 g1 g2 g3 g4 g5 g6 g7 g8 g9 g10
    have hD1 : D ≠ w.heap.size := by have := HD.out; have := H5.out; omega
    have hD2 : D ≠ w.heap.size + 1 := by have := HD.out; have := H5.out; omega
    have E2 : Em ((W.setCell ⟨w.heap.size, 8, none⟩ (.string tl)).setCell ⟨w.heap.size, 9, none⟩ (.int .i64 (n + x.size))) (w.heap.size + 1) := (heap_setCell_other _ _ _ _ (by simp)).trans ((heap_setCell_other _ _ _ _ (by simp)).trans HZ.out)
    have M2 := E2.put p tl (n + x.size) kb
    have KO : (put11 ((W.setCell ⟨w.heap.size, 8, none⟩ (.string tl)).setCell ⟨w.heap.size, 9, none⟩ (.int .i64 (n + x.size))) (w.heap.size + 1) p tl (n + x.size) kb).heap[D]? = some (Obj.deferred (some [])) :=
      (put11_heap _ _ _ _ _ _ D hD2).trans ((heap_setCell_other _ _ _ _ hD1).trans ((heap_setCell_other _ _ _ _ hD1).trans HKK.out))
    have B2 : Below w.heap.size w (put11 ((W.setCell ⟨w.heap.size, 8, none⟩ (.string tl)).setCell ⟨w.heap.size, 9, none⟩ (.int .i64 (n + x.size))) (w.heap.size + 1) p tl (n + x.size) kb) := put11_below ((HBB.out.setCell (Nat.le_refl _) _).setCell (Nat.le_refl _) _) (Nat.le_add_right _ _) _ _ _ _
    refine ⟨by simp, .inl ⟨_, _, rfl, run_takeDeferred KO, ?_⟩⟩
    have M3 : Mk ((put11 ((W.setCell ⟨w.heap.size, 8, none⟩ (.string tl)).setCell ⟨w.heap.size, 9, none⟩ (.int .i64 (n + x.size))) (w.heap.size + 1) p tl (n + x.size) kb).putObj D (.deferred none)) (w.heap.size + 1) p tl (n + x.size) kb :=
      (grownBy_keeps_cells (grownBy_putObj' _ D (.deferred none)) (fun r e => by cases e; exact ⟨_, KO, rfl⟩) M2 rfl).trans M2
    exact ⟨mkV p tl (n + x.size) kb, results_cell_row (p := 4) (ty := 76) Tryd.results38 _ _ (w.heap.size + 1) 76 _ (0, 0) _ rfl M3 Tryd.underlying76 rfl size76, by rw [HP2.out, HTL.out], B2.trans (belowK_b (w := w) (Nat.le_refl _) _ D _ _ (by have := HD.out; have := H5.out; omega) KO rfl rfl)⟩
  case stop =>
    rintro D c pre W _ _ h _
    exact h.elim
/-- More of a digest that is being made, as the plain words have it. -/
theorem more_any (h : HH) (hs : h.w.ok) (kb : Nat) (x : ByteArray) (w : World) (hK : Arr w kb 103 KL) (hsz : h.tail.length + x.size ≤ 140737488351232) (hn : h.count ≤ 1099511627776) :
    Calls Tryd.prog 38 #[mkV h.w (bs h.tail) h.count kb, .string x] w fun e w' => e = .returned (mkV (moreH KL h x.data.toList).w (bs (moreH KL h x.data.toList).tail) (moreH KL h x.data.toList).count kb) ∧ Below w.heap.size w w' := by
  have h1 := more_raw h.w hs (bs h.tail) h.count kb x w hK (by rw [bs_size]; exact hsz) (by omega) (by omega)
  have e1 : (bs h.tail ++ x).data.toList = h.tail ++ x.data.toList := by simp [bs]
  have e2 : (bs h.tail ++ x).size = (h.tail ++ x.data.toList).length := by rw [← e1]; simp
  rw [e1, e2] at h1
  have e3 : ((moreH KL h x.data.toList).count : Int) = (h.count : Int) + (x.size : Int) := by
    show (((h.count + x.data.toList.length : Nat)) : Int) = _
    rw [Int.natCast_add]; rfl
  rw [e3]
  exact h1
end Go.Proofs.YtfdeegafdaobdaaDoor
