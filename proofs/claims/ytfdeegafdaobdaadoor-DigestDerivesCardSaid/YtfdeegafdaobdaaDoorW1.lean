/- Rows of bits in memory, and words as bits (for the reference). Contracts of the reference's operations on words. Contracts of the reference's operations on words. Contracts of the reference: numbers as words and back, sums. Contracts of the reference's operations on words that are numbers. -/
import Derived.Test.YtfdeegafdaobdaaDoorR
import Derived.StillTailTactics
import Derived.Deep.QuietTactic
import Derived.BigQuiet
import Derived.Laws.CopyOwn
import Derived.Deep.RegionHeld3
namespace Go.Proofs.YtfdeegafdaobdaaDoor
open Go.RowKit Go.ChangeShapes

/-- A row of 32 bits, by its function. -/
def fL (f : Nat → Bool) : List Bool := (List.range 32).map f
theorem fL_length (f : Nat → Bool) : (fL f).length = 32 := by simp [fL]
theorem fL_get (f : Nat → Bool) (j : Nat) (h : j < 32) : (fL f).getD j false = f j := by
  unfold fL; rw [List.getD_eq_getElem?_getD, List.getElem?_map, List.getElem?_range h]; rfl
theorem fL_set (f : Nat → Bool) (j : Nat) (b : Bool) : (fL f).set j b = fL (fun x => if x = j then b else f x) := by
  apply List.ext_getElem?
  intro i
  unfold fL
  rw [List.getElem?_set]
  by_cases h : i < 32
  · by_cases hj : j = i
    · subst hj; simp [h]
    · rw [if_neg hj, List.getElem?_map, List.getElem?_map, List.getElem?_range h]; simp [Ne.symm hj]
  · have h1 : ∀ g : Nat → Bool, ((List.range 32).map g)[i]? = none := fun g => List.getElem?_eq_none (by simp; omega)
    rw [h1, h1]
    split
    · rename_i e; subst e; simp [h]
    · rfl
theorem fL_congr {f g : Nat → Bool} (h : ∀ j, j < 32 → f j = g j) : fL f = fL g := by
  unfold fL; exact List.map_congr_left fun j hj => h j (List.mem_range.1 hj)
def bC (l : List Bool) : Array Value := (l.map Value.bool).toArray
theorem bC_size (l : List Bool) : (bC l).size = l.length := by simp [bC]
theorem bC_one (l : List Bool) : (bC l).all (·.oneCell') = true := by simp [bC, Value.oneCell']
/-- Bits lie in block g. -/
def Bo (w : World) (g : Nat) (l : List Bool) : Prop := w.heap[g]? = some (.cells (bC l) 128 (0, 0))
theorem Bo.getD {w : World} {g : Nat} {l : List Bool} (h : Bo w g l) {i : Nat} (hi : i < l.length) : w.cell? ⟨g, i, none⟩ = some (.bool (l.getD i false)) := by
  rw [cell_of_row w g i _ 128 (0, 0) h, List.getD_eq_getElem?_getD, List.getElem?_eq_getElem hi]; simp [bC, hi]
theorem Bo.free {w : World} {g : Nat} {l : List Bool} (h : Bo w g l) (i : Nat) : w.frozen? ⟨g, i, none⟩ = false := frozen_of_row w g i _ 128 h
theorem Bo.lt {w : World} {g : Nat} {l : List Bool} (h : Bo w g l) : g < w.heap.size := (Array.getElem?_eq_some_iff.1 h).1
theorem Bo.alloc {w : World} {g : Nat} {l : List Bool} (h : Bo w g l) (o : Obj) : Bo (w.alloc o) g l := (Below.heap_alloc w o g h.lt).trans h
theorem Bo.new (w : World) (l : List Bool) : Bo (w.alloc (.cells (bC l) 128)) w.heap.size l := heap_alloc_new w _
theorem Bo.set {w : World} {g : Nat} {l : List Bool} (h : Bo w g l) (i : Nat) (x : Bool) : Bo (w.setCell ⟨g, i, none⟩ (.bool x)) g (l.set i x) := by
  have h1 := heap_setCell_same w g i _ 128 (.bool x) h
  have h2 : (bC l).setIfInBounds i (.bool x) = bC (l.set i x) := by simp [bC, List.map_set]
  unfold Bo
  rw [← h2]
  exact h1
theorem Bo.other {w : World} {g : Nat} {l : List Bool} (h : Bo w g l) {a : Addr} (ha : g ≠ a.block) (v : Value) : Bo (w.setCell a v) g l := (heap_setCell_other w a g v ha).trans h
theorem size128 : (Tryd.prog.info? 128).map (·.size) = some 32 := by kernel_rfl
/-- A number's bits, the greatest one first. -/
def fW (n : Nat) : Nat → Bool := fun j => n.testBit (31 - j)
abbrev WB (n : Nat) : Value := .agg (bC (fL (fW n)))
end Go.Proofs.YtfdeegafdaobdaaDoor

namespace Go.Proofs.YtfdeegafdaobdaaDoor
open Go.RowKit Go.ChangeShapes
theorem Bo.row {w : World} {g : Nat} {l : List Bool} (h : Bo w g l) (l' : List Bool) : Bo (w.setRow g (bC l')) g l' := setRow_heap w g _ _ 128 _ h
set_option maxRecDepth 100000 in
set_option maxHeartbeats 4000000 in
theorem rxor_any (f h : Nat → Bool) (w : World) :
    Calls Tryd.prog 86 #[.agg (bC (fL f)), .agg (bC (fL h))] w fun e w' => e = .returned (.agg (bC (fL (fun j => f j != h j)))) ∧ Below w.heap.size w w' := by
  go_enter Tryd.func86, Tryd.ntmps86
  go_wp2
  go_loopw [6] (fun i wr => ∃ k : Nat, k ≤ 32 ∧ i = .int .i64 k ∧ Hid (Bo wr (w.heap.size) (fL f)) ∧ Hid (Bo wr (w.heap.size + 1) (fL h)) ∧ Hid (Bo wr (w.heap.size + 1 + 1) (fL fun _ => false)) ∧ Hid (Bo wr (w.heap.size + 1 + 1 + 1) (fL (fun j => if j < k then (f j != h j) else false))) ∧ Below w.heap.size w wr) (fun i _ => 32 - (intOf i).toNat)
  case atStart =>
    refine ⟨0, Nat.zero_le _, rfl, ?_, ?_, ?_, ?_, by go_grown⟩
    · have := Bo.new w (fL f)
      try simp only [World.size_alloc] at this
      exact Lib.hid (((this.alloc (.cells (bC (fL h)) 128)).alloc (.cells (bC (fL fun _ => false)) 128)).alloc (.cells (bC (fL fun _ => false)) 128))
    · have := Bo.new (w.alloc (.cells (bC (fL f)) 128)) (fL h)
      try simp only [World.size_alloc] at this
      exact Lib.hid ((this.alloc (.cells (bC (fL fun _ => false)) 128)).alloc (.cells (bC (fL fun _ => false)) 128))
    · have := Bo.new ((w.alloc (.cells (bC (fL f)) 128)).alloc (.cells (bC (fL h)) 128)) (fL fun _ => false)
      try simp only [World.size_alloc] at this
      exact Lib.hid (this.alloc (.cells (bC (fL fun _ => false)) 128))
    · have := Bo.new (((w.alloc (.cells (bC (fL f)) 128)).alloc (.cells (bC (fL h)) 128)).alloc (.cells (bC (fL fun _ => false)) 128)) (fL fun _ => false)
      try simp only [World.size_alloc] at this
      exact Lib.hid this
  case round =>
    obtain ⟨k, hk, rfl, HF0, HF1, HR, HO, hB⟩ := hrel
    by_cases hlt : k < 32
    · have kk : k < 32 := hlt
      have a0 := HF0.out.getD (i := k) (by rw [fL_length]; exact hlt)
      rw [fL_get _ _ hlt] at a0
      have a1 := HF1.out.getD (i := k) (by rw [fL_length]; exact hlt)
      rw [fL_get _ _ hlt] at a1
      have c0 := HO.out.getD (i := k) (by rw [fL_length]; exact hlt)
      have f0 := HO.out.free k
      have hs := HO.out.set k (f k != h k)
      rw [fL_set, fL_congr (g := fun j => if j < k + 1 then (f j != h j) else false) (fun j _ => by
        by_cases h1 : j = k
        · subst h1; simp
        · have : (j < k + 1) = (j < k) := by apply propext; omega
          simp [h1, this])] at hs
      have HS := Lib.hid hs
      obtain ⟨old, hold⟩ : ∃ o, (fL (fun j => if j < k then (f j != h j) else false)).getD k false = o := ⟨_, rfl⟩
      rw [hold] at c0
      clear hs hold
      go_wp2
      go_still_tail 9, (by kernel_rfl)
      change wpList _ _ _ _ _ wr.drew
      have HF0' : Hid (Bo wr.drew w.heap.size (fL f)) := HF0
      have HF1' : Hid (Bo wr.drew (w.heap.size + 1) (fL h)) := HF1
      have HR' : Hid (Bo wr.drew (w.heap.size + 1 + 1) (fL fun _ => false)) := HR
      have HS' : Hid (Bo (wr.drew.setCell ⟨w.heap.size + 1 + 1 + 1, k, none⟩ (.bool (f k != h k))) (w.heap.size + 1 + 1 + 1) (fL fun j => if j < k + 1 then f j != h j else false)) := HS
      have c0' : wr.drew.cell? ⟨w.heap.size + 1 + 1 + 1, k, none⟩ = some (.bool old) := c0
      have f0' : wr.drew.frozen? ⟨w.heap.size + 1 + 1 + 1, k, none⟩ = false := f0
      have hB' : Below w.heap.size w wr.drew := hB.drew
      clear HF0 HF1 HR HS HO c0 f0 hB a0 a1
      generalize wr.drew = W1 at HF0' HF1' HR' HS' c0' f0' hB' ⊢
      go_wp2
      go_roundw
      case rel => exact ⟨k + 1, by omega, by go_num, Lib.hid (HF0'.out.other (by first | (simp; done) | (simp; omega)) _), Lib.hid (HF1'.out.other (by first | (simp; done) | (simp; omega)) _), Lib.hid (HR'.out.other (by first | (simp; done) | (simp; omega)) _), HS', hB'.setCell (by simp; omega) _⟩
      case measure => simp [intOf]; omega
    · obtain rfl : k = 32 := by omega
      have hb := HO.out
      rw [fL_congr (g := (fun j => f j != h j)) (fun j hj => by simp [hj])] at hb
      have hA := HR.out
      have hB2 : Below w.heap.size w (wr.setRow (w.heap.size + 1 + 1) (bC (fL (fun j => f j != h j)))) := below_setRow hB (by omega) _
      clear HR HO
      go_wp2_with (first | (refine wpList_load_row rfl 128 _ rfl (w.heap.size + 1 + 1 + 1) rfl 128 (bC (fL (fun j => f j != h j))) (0, 0) _ hb Tryd.underlying128 rfl (by rw [size128, bC_size, fL_length]) ?_) | (refine wpList_store_row rfl 128 _ _ rfl (w.heap.size + 1 + 1) (bC (fL (fun j => f j != h j))) rfl rfl 128 _ hA (by rw [size128, bC_size, fL_length]) (by rw [bC_size, bC_size, fL_length, fL_length]) (bC_one _) ?_))

      have hr2 := hA.row (fL (fun j => f j != h j))
      exact bodyPost_ret (v := .agg (bC (fL (fun j => f j != h j)))) (results_cell_row (p := 4) (ty := 128) Tryd.results86 _ _ (w.heap.size + 1 + 1) 128 _ (0, 0) _ rfl hr2 Tryd.underlying128 rfl (by rw [size128, bC_size, fL_length])) rfl ⟨rfl, hB2⟩
end Go.Proofs.YtfdeegafdaobdaaDoor

namespace Go.Proofs.YtfdeegafdaobdaaDoor
open Go.RowKit Go.ChangeShapes
set_option maxRecDepth 100000 in
set_option maxHeartbeats 4000000 in
theorem rnot_any (f : Nat → Bool) (w : World) :
    Calls Tryd.prog 88 #[.agg (bC (fL f))] w fun e w' => e = .returned (.agg (bC (fL (fun j => !f j)))) ∧ Below w.heap.size w w' := by
  go_enter Tryd.func88, Tryd.ntmps88
  go_wp2
  go_loopw [4] (fun i wr => ∃ k : Nat, k ≤ 32 ∧ i = .int .i64 k ∧ Hid (Bo wr (w.heap.size) (fL f)) ∧ Hid (Bo wr (w.heap.size + 1) (fL fun _ => false)) ∧ Hid (Bo wr (w.heap.size + 1 + 1) (fL (fun j => if j < k then (!f j) else false))) ∧ Below w.heap.size w wr) (fun i _ => 32 - (intOf i).toNat)
  case atStart =>
    refine ⟨0, by omega, rfl, ?_, ?_, ?_, by go_grown⟩
    · have := Bo.new w (fL f)
      try simp only [World.size_alloc] at this
      exact Lib.hid ((this.alloc (.cells (bC (fL fun _ => false)) 128)).alloc (.cells (bC (fL fun _ => false)) 128))
    · have := Bo.new (w.alloc (.cells (bC (fL f)) 128)) (fL fun _ => false)
      try simp only [World.size_alloc] at this
      exact Lib.hid (this.alloc (.cells (bC (fL fun _ => false)) 128))
    · have := Bo.new ((w.alloc (.cells (bC (fL f)) 128)).alloc (.cells (bC (fL fun _ => false)) 128)) (fL fun _ => false)
      try simp only [World.size_alloc] at this
      rw [fL_congr (f := fun j => if j < 0 then (!f j) else false) (g := fun _ => false) (fun j hj => by simp)]
      exact Lib.hid this
  case round =>
    obtain ⟨k, hk, rfl, HF0, HR, HO, hB⟩ := hrel
    by_cases hlt : k < 32
    · have kk : k < 32 := hlt
      have a0 := HF0.out.getD (i := k) (by rw [fL_length]; omega)
      rw [fL_get _ _ (by omega)] at a0
      have c0 := HO.out.getD (i := k) (by rw [fL_length]; omega)
      have f0 := HO.out.free k
      have hs := HO.out.set k (!f k)
      rw [fL_set, fL_congr (g := fun j => if j < (k + 1) then (!f j) else false) (fun j hj => by
        by_cases h1 : j = k
        · subst h1; simp
        · have : (j < k + 1) = (j < k) := by apply propext; omega
          simp [h1, this])] at hs
      obtain ⟨old, hold⟩ : ∃ o, (fL (fun j => if j < k then (!f j) else false)).getD k false = o := ⟨_, rfl⟩
      rw [hold] at c0
      have z := HO.out.lt
      clear hold
      obtain ⟨x, hx⟩ : ∃ x, f k = x := ⟨_, rfl⟩
      rw [hx] at a0 hs
      clear hx
      have HS := Lib.hid hs
      clear hs
      go_wp2
      go_roundw
      case rel => exact ⟨k + 1, by omega, by go_num, Lib.hid (HF0.out.other (by first | (simp; done) | (simp; omega)) _), Lib.hid (HR.out.other (by first | (simp; done) | (simp; omega)) _), HS, hB.setCell (by simp; omega) _⟩
      case measure => simp [intOf]; omega
    · obtain rfl : k = 32 := by omega
      have hb := HO.out
      rw [fL_congr (g := (fun j => !f j)) (fun j hj => by
        simp [hj])] at hb
      have hA := HR.out
      have hB2 : Below w.heap.size w (wr.setRow (w.heap.size + 1) (bC (fL (fun j => !f j)))) := below_setRow hB (by omega) _
      clear HR HO
      go_wp2_with (first | (refine wpList_load_row rfl 128 _ rfl (w.heap.size + 1 + 1) rfl 128 (bC (fL (fun j => !f j))) (0, 0) _ hb Tryd.underlying128 rfl (by rw [size128, bC_size, fL_length]) ?_) | (refine wpList_store_row rfl 128 _ _ rfl (w.heap.size + 1) (bC (fL (fun j => !f j))) rfl rfl 128 _ hA (by rw [size128, bC_size, fL_length]) (by rw [bC_size, bC_size, fL_length, fL_length]) (bC_one _) ?_))

      have hr2 := hA.row (fL (fun j => !f j))
      exact bodyPost_ret (v := .agg (bC (fL (fun j => !f j)))) (results_cell_row (p := 2) (ty := 128) Tryd.results88 _ _ (w.heap.size + 1) 128 _ (0, 0) _ rfl hr2 Tryd.underlying128 rfl (by rw [size128, bC_size, fL_length])) rfl ⟨rfl, hB2⟩
set_option maxRecDepth 100000 in
set_option maxHeartbeats 4000000 in
theorem rand_any (f h : Nat → Bool) (w : World) :
    Calls Tryd.prog 87 #[.agg (bC (fL f)), .agg (bC (fL h))] w fun e w' => e = .returned (.agg (bC (fL (fun j => f j && h j)))) ∧ Below w.heap.size w w' := by
  go_enter Tryd.func87, Tryd.ntmps87
  go_wp2
  go_loopw [6] (fun i wr => ∃ k : Nat, k ≤ 32 ∧ i = .int .i64 k ∧ Hid (Bo wr (w.heap.size) (fL f)) ∧ Hid (Bo wr (w.heap.size + 1) (fL h)) ∧ Hid (Bo wr (w.heap.size + 1 + 1) (fL fun _ => false)) ∧ Hid (Bo wr (w.heap.size + 1 + 1 + 1) (fL (fun j => if j < k then (f j && h j) else false))) ∧ Below w.heap.size w wr) (fun i _ => 32 - (intOf i).toNat)
  case atStart =>
    refine ⟨0, by omega, rfl, ?_, ?_, ?_, ?_, by go_grown⟩
    · have := Bo.new w (fL f)
      try simp only [World.size_alloc] at this
      exact Lib.hid (((this.alloc (.cells (bC (fL h)) 128)).alloc (.cells (bC (fL fun _ => false)) 128)).alloc (.cells (bC (fL fun _ => false)) 128))
    · have := Bo.new (w.alloc (.cells (bC (fL f)) 128)) (fL h)
      try simp only [World.size_alloc] at this
      exact Lib.hid ((this.alloc (.cells (bC (fL fun _ => false)) 128)).alloc (.cells (bC (fL fun _ => false)) 128))
    · have := Bo.new ((w.alloc (.cells (bC (fL f)) 128)).alloc (.cells (bC (fL h)) 128)) (fL fun _ => false)
      try simp only [World.size_alloc] at this
      exact Lib.hid (this.alloc (.cells (bC (fL fun _ => false)) 128))
    · have := Bo.new (((w.alloc (.cells (bC (fL f)) 128)).alloc (.cells (bC (fL h)) 128)).alloc (.cells (bC (fL fun _ => false)) 128)) (fL fun _ => false)
      try simp only [World.size_alloc] at this
      rw [fL_congr (f := fun j => if j < 0 then (f j && h j) else false) (g := fun _ => false) (fun j hj => by simp)]
      exact Lib.hid this
  case round =>
    obtain ⟨k, hk, rfl, HF0, HF1, HR, HO, hB⟩ := hrel
    by_cases hlt : k < 32
    · have kk : k < 32 := hlt
      have a0 := HF0.out.getD (i := k) (by rw [fL_length]; omega)
      rw [fL_get _ _ (by omega)] at a0
      have a1 := HF1.out.getD (i := k) (by rw [fL_length]; omega)
      rw [fL_get _ _ (by omega)] at a1
      have c0 := HO.out.getD (i := k) (by rw [fL_length]; omega)
      have f0 := HO.out.free k
      have hs := HO.out.set k (f k && h k)
      rw [fL_set, fL_congr (g := fun j => if j < (k + 1) then (f j && h j) else false) (fun j hj => by
        by_cases h1 : j = k
        · subst h1; simp
        · have : (j < k + 1) = (j < k) := by apply propext; omega
          simp [h1, this])] at hs
      obtain ⟨old, hold⟩ : ∃ o, (fL (fun j => if j < k then (f j && h j) else false)).getD k false = o := ⟨_, rfl⟩
      rw [hold] at c0
      have z := HO.out.lt
      clear hold
      obtain ⟨x, hx⟩ : ∃ x, f k = x := ⟨_, rfl⟩
      obtain ⟨y, hy⟩ : ∃ x, h k = x := ⟨_, rfl⟩
      rw [hx] at a0 hs
      rw [hy] at a1 hs
      clear hx hy
      cases x
      · rw [Bool.false_and] at hs
        have HS := Lib.hid hs
        clear hs
        go_wp2
        go_roundw
        case rel => exact ⟨k + 1, by omega, by go_num, Lib.hid (HF0.out.other (by first | (simp; done) | (simp; omega)) _), Lib.hid (HF1.out.other (by first | (simp; done) | (simp; omega)) _), Lib.hid (HR.out.other (by first | (simp; done) | (simp; omega)) _), HS, hB.setCell (by simp; omega) _⟩
        case measure => simp [intOf]; omega
      · rw [Bool.true_and] at hs
        have HS := Lib.hid hs
        clear hs
        go_wp2
        go_roundw
        case rel => exact ⟨k + 1, by omega, by go_num, Lib.hid (HF0.out.other (by first | (simp; done) | (simp; omega)) _), Lib.hid (HF1.out.other (by first | (simp; done) | (simp; omega)) _), Lib.hid (HR.out.other (by first | (simp; done) | (simp; omega)) _), HS, hB.setCell (by simp; omega) _⟩
        case measure => simp [intOf]; omega
    · obtain rfl : k = 32 := by omega
      have hb := HO.out
      rw [fL_congr (g := (fun j => f j && h j)) (fun j hj => by
        simp [hj])] at hb
      have hA := HR.out
      have hB2 : Below w.heap.size w (wr.setRow (w.heap.size + 1 + 1) (bC (fL (fun j => f j && h j)))) := below_setRow hB (by omega) _
      clear HR HO
      go_wp2_with (first | (refine wpList_load_row rfl 128 _ rfl (w.heap.size + 1 + 1 + 1) rfl 128 (bC (fL (fun j => f j && h j))) (0, 0) _ hb Tryd.underlying128 rfl (by rw [size128, bC_size, fL_length]) ?_) | (refine wpList_store_row rfl 128 _ _ rfl (w.heap.size + 1 + 1) (bC (fL (fun j => f j && h j))) rfl rfl 128 _ hA (by rw [size128, bC_size, fL_length]) (by rw [bC_size, bC_size, fL_length, fL_length]) (bC_one _) ?_))

      have hr2 := hA.row (fL (fun j => f j && h j))
      exact bodyPost_ret (v := .agg (bC (fL (fun j => f j && h j)))) (results_cell_row (p := 4) (ty := 128) Tryd.results87 _ _ (w.heap.size + 1 + 1) 128 _ (0, 0) _ rfl hr2 Tryd.underlying128 rfl (by rw [size128, bC_size, fL_length])) rfl ⟨rfl, hB2⟩
set_option maxRecDepth 100000 in
set_option maxHeartbeats 4000000 in
theorem rturn_any (f : Nat → Bool) (m : Nat) (w : World) (hm : m ≤ 31) :
    Calls Tryd.prog 84 #[.agg (bC (fL f)), .int .i64 (m : Int)] w fun e w' => e = .returned (.agg (bC (fL (fun j => f ((j + (32 - m)) % 32))))) ∧ Below w.heap.size w w' := by
  go_enter Tryd.func84, Tryd.ntmps84
  go_wp2
  go_loopw [6] (fun i wr => ∃ k : Nat, k ≤ 32 ∧ i = .int .i64 k ∧ Hid (Bo wr (w.heap.size) (fL f)) ∧ Hid (Bo wr (w.heap.size + 1) (fL fun _ => false)) ∧ Hid (Bo wr (w.heap.size + 1 + 1) (fL (fun j => if (j + (32 - m)) % 32 < k then f ((j + (32 - m)) % 32) else false))) ∧ Below w.heap.size w wr) (fun i _ => 32 - (intOf i).toNat)
  case atStart =>
    refine ⟨0, by omega, rfl, ?_, ?_, ?_, by go_grown⟩
    · have := Bo.new w (fL f)
      try simp only [World.size_alloc] at this
      exact Lib.hid ((this.alloc (.cells (bC (fL fun _ => false)) 128)).alloc (.cells (bC (fL fun _ => false)) 128))
    · have := Bo.new (w.alloc (.cells (bC (fL f)) 128)) (fL fun _ => false)
      try simp only [World.size_alloc] at this
      exact Lib.hid (this.alloc (.cells (bC (fL fun _ => false)) 128))
    · have := Bo.new ((w.alloc (.cells (bC (fL f)) 128)).alloc (.cells (bC (fL fun _ => false)) 128)) (fL fun _ => false)
      try simp only [World.size_alloc] at this
      rw [fL_congr (f := fun j => if (j + (32 - m)) % 32 < 0 then f ((j + (32 - m)) % 32) else false) (g := fun _ => false) (fun j hj => by simp)]
      exact Lib.hid this
  case round =>
    obtain ⟨k, hk, rfl, HF0, HR, HO, hB⟩ := hrel
    by_cases hlt : k < 32
    · have kk : k < 32 := hlt
      obtain ⟨q, hq⟩ : ∃ q, (k + m) % 32 = q := ⟨_, rfl⟩
      have hq32 : q < 32 := by omega
      have hidx : ((k : Int) + (m : Int)) % 32 = (q : Int) := by omega
      have a0 := HF0.out.getD (i := k) (by rw [fL_length]; omega)
      rw [fL_get _ _ (by omega)] at a0
      have c0 := HO.out.getD (i := q) (by rw [fL_length]; omega)
      have f0 := HO.out.free q
      have hs := HO.out.set q (f k)
      rw [fL_set, fL_congr (g := fun j => if (j + (32 - m)) % 32 < (k + 1) then f ((j + (32 - m)) % 32) else false) (fun j hj => by
        by_cases h1 : j = q
        · have h2 : (j + (32 - m)) % 32 = k := by omega
          rw [if_pos h1, h2, if_pos (by omega)]
        · have h2 : ((j + (32 - m)) % 32 < k + 1) = ((j + (32 - m)) % 32 < k) := by apply propext; omega
          rw [if_neg h1]; simp only [h2])] at hs
      obtain ⟨old, hold⟩ : ∃ o, (fL (fun j => if (j + (32 - m)) % 32 < k then f ((j + (32 - m)) % 32) else false)).getD q false = o := ⟨_, rfl⟩
      rw [hold] at c0
      have z := HO.out.lt
      clear hold
      obtain ⟨x, hx⟩ : ∃ x, f k = x := ⟨_, rfl⟩
      rw [hx] at a0 hs
      clear hx hq
      have HS := Lib.hid hs
      clear hs
      go_wp2
      go_roundw
      case rel => exact ⟨k + 1, by omega, by go_num, Lib.hid (HF0.out.other (by first | (simp; done) | (simp; omega)) _), Lib.hid (HR.out.other (by first | (simp; done) | (simp; omega)) _), HS, hB.setCell (by simp; omega) _⟩
      case measure => simp [intOf]; omega
    · obtain rfl : k = 32 := by omega
      have hb := HO.out
      rw [fL_congr (g := (fun j => f ((j + (32 - m)) % 32))) (fun j hj => by
        rw [if_pos (by omega)])] at hb
      have hA := HR.out
      have hB2 : Below w.heap.size w (wr.setRow (w.heap.size + 1) (bC (fL (fun j => f ((j + (32 - m)) % 32))))) := below_setRow hB (by omega) _
      clear HR HO
      go_wp2_with (first | (refine wpList_load_row rfl 128 _ rfl (w.heap.size + 1 + 1) rfl 128 (bC (fL (fun j => f ((j + (32 - m)) % 32)))) (0, 0) _ hb Tryd.underlying128 rfl (by rw [size128, bC_size, fL_length]) ?_) | (refine wpList_store_row rfl 128 _ _ rfl (w.heap.size + 1) (bC (fL (fun j => f ((j + (32 - m)) % 32)))) rfl rfl 128 _ hA (by rw [size128, bC_size, fL_length]) (by rw [bC_size, bC_size, fL_length, fL_length]) (bC_one _) ?_))

      have hr2 := hA.row (fL (fun j => f ((j + (32 - m)) % 32)))
      exact bodyPost_ret (v := .agg (bC (fL (fun j => f ((j + (32 - m)) % 32))))) (results_cell_row (p := 4) (ty := 128) Tryd.results84 _ _ (w.heap.size + 1) 128 _ (0, 0) _ rfl hr2 Tryd.underlying128 rfl (by rw [size128, bC_size, fL_length])) rfl ⟨rfl, hB2⟩
set_option maxRecDepth 100000 in
set_option maxHeartbeats 4000000 in
theorem rmove_any (f : Nat → Bool) (m : Nat) (w : World) (hm : m ≤ 31) :
    Calls Tryd.prog 85 #[.agg (bC (fL f)), .int .i64 (m : Int)] w fun e w' => e = .returned (.agg (bC (fL (fun j => if m ≤ j then f (j - m) else false)))) ∧ Below w.heap.size w w' := by
  go_enter Tryd.func85, Tryd.ntmps85
  go_wp2
  go_loopw [6] (fun i wr => ∃ k : Nat, k + m ≤ 32 ∧ i = .int .i64 k ∧ Hid (Bo wr (w.heap.size) (fL f)) ∧ Hid (Bo wr (w.heap.size + 1) (fL fun _ => false)) ∧ Hid (Bo wr (w.heap.size + 1 + 1) (fL (fun j => if m ≤ j ∧ j - m < k then f (j - m) else false))) ∧ Below w.heap.size w wr) (fun i _ => 32 - (intOf i).toNat)
  case atStart =>
    refine ⟨0, by omega, rfl, ?_, ?_, ?_, by go_grown⟩
    · have := Bo.new w (fL f)
      try simp only [World.size_alloc] at this
      exact Lib.hid ((this.alloc (.cells (bC (fL fun _ => false)) 128)).alloc (.cells (bC (fL fun _ => false)) 128))
    · have := Bo.new (w.alloc (.cells (bC (fL f)) 128)) (fL fun _ => false)
      try simp only [World.size_alloc] at this
      exact Lib.hid (this.alloc (.cells (bC (fL fun _ => false)) 128))
    · have := Bo.new ((w.alloc (.cells (bC (fL f)) 128)).alloc (.cells (bC (fL fun _ => false)) 128)) (fL fun _ => false)
      try simp only [World.size_alloc] at this
      rw [fL_congr (f := fun j => if m ≤ j ∧ j - m < 0 then f (j - m) else false) (g := fun _ => false) (fun j hj => by simp)]
      exact Lib.hid this
  case round =>
    obtain ⟨k, hk, rfl, HF0, HR, HO, hB⟩ := hrel
    by_cases hlt : k + m < 32
    · obtain ⟨q, hq⟩ : ∃ q, k + m = q := ⟨_, rfl⟩
      have hq32 : q < 32 := by omega
      have hidx : (k : Int) + (m : Int) = (q : Int) := by omega
      have a0 := HF0.out.getD (i := k) (by rw [fL_length]; omega)
      rw [fL_get _ _ (by omega)] at a0
      have c0 := HO.out.getD (i := q) (by rw [fL_length]; omega)
      have f0 := HO.out.free q
      have hs := HO.out.set q (f k)
      rw [fL_set, fL_congr (g := fun j => if m ≤ j ∧ j - m < (k + 1) then f (j - m) else false) (fun j hj => by
        by_cases h1 : j = q
        · have h2 : j - m = k := by omega
          rw [if_pos h1, h2, if_pos ⟨by omega, by omega⟩]
        · have h2 : (m ≤ j ∧ j - m < k + 1) = (m ≤ j ∧ j - m < k) := by apply propext; omega
          rw [if_neg h1]; simp only [h2])] at hs
      obtain ⟨old, hold⟩ : ∃ o, (fL (fun j => if m ≤ j ∧ j - m < k then f (j - m) else false)).getD q false = o := ⟨_, rfl⟩
      rw [hold] at c0
      have z := HO.out.lt
      clear hold
      obtain ⟨x, hx⟩ : ∃ x, f k = x := ⟨_, rfl⟩
      rw [hx] at a0 hs
      have hqq := Lib.hid hq
      have hkm : (k : Int) ≤ 31 := by omega
      clear hx hq
      have HS := Lib.hid hs
      clear hs
      go_wp2
      go_roundw
      case rel => exact ⟨k + 1, by have := hqq.out; omega, by go_num, Lib.hid (HF0.out.other (by first | (simp; done) | (simp; omega)) _), Lib.hid (HR.out.other (by first | (simp; done) | (simp; omega)) _), HS, hB.setCell (by simp; omega) _⟩
      case measure => simp [intOf]; omega
    · have hkk : (32 : Int) ≤ (k : Int) + (m : Int) := by omega
      have hb := HO.out
      rw [fL_congr (g := (fun j => if m ≤ j then f (j - m) else false)) (fun j hj => by
        by_cases h1 : m ≤ j
        · rw [if_pos ⟨h1, by omega⟩, if_pos h1]
        · rw [if_neg h1, if_neg (fun h => h1 h.1)])] at hb
      have hA := HR.out
      have hB2 : Below w.heap.size w (wr.setRow (w.heap.size + 1) (bC (fL (fun j => if m ≤ j then f (j - m) else false)))) := below_setRow hB (by omega) _
      clear HR HO
      go_wp2_with (first | (refine wpList_load_row rfl 128 _ rfl (w.heap.size + 1 + 1) rfl 128 (bC (fL (fun j => if m ≤ j then f (j - m) else false))) (0, 0) _ hb Tryd.underlying128 rfl (by rw [size128, bC_size, fL_length]) ?_) | (refine wpList_store_row rfl 128 _ _ rfl (w.heap.size + 1) (bC (fL (fun j => if m ≤ j then f (j - m) else false))) rfl rfl 128 _ hA (by rw [size128, bC_size, fL_length]) (by rw [bC_size, bC_size, fL_length, fL_length]) (bC_one _) ?_))

      have hr2 := hA.row (fL (fun j => if m ≤ j then f (j - m) else false))
      exact bodyPost_ret (v := .agg (bC (fL (fun j => if m ≤ j then f (j - m) else false)))) (results_cell_row (p := 4) (ty := 128) Tryd.results85 _ _ (w.heap.size + 1) 128 _ (0, 0) _ rfl hr2 Tryd.underlying128 rfl (by rw [size128, bC_size, fL_length])) rfl ⟨rfl, hB2⟩
end Go.Proofs.YtfdeegafdaobdaaDoor

namespace Go.Proofs.YtfdeegafdaobdaaDoor
open Go.RowKit Go.ChangeShapes

theorem tb (n k : Nat) : n.testBit k = decide (n / 2 ^ k % 2 = 1) := Nat.testBit_eq_decide_div_mod_eq
set_option maxRecDepth 100000 in
set_option maxHeartbeats 4000000 in
theorem rword_any (n : Nat) (w : World) (hn : n ≤ 4294967295) :
    Calls Tryd.prog 80 #[.int .i64 (n : Int)] w fun e w' => e = .returned (WB n) ∧ Below w.heap.size w w' := by
  go_enter Tryd.func80, Tryd.ntmps80
  go_wp2
  go_loopw [0, 4] (fun s i wr => ∃ k v : Nat, k ≤ 32 ∧ i = .int .i64 (31 - (k : Int)) ∧ s = .int .i64 (v : Int) ∧ v ≤ 4294967295 ∧ Hid (v = n / 2 ^ k) ∧ Hid (Bo wr w.heap.size (fL fun _ => false)) ∧ Hid (Bo wr (w.heap.size + 1) (fL fun j => if 32 ≤ j + k then fW n j else false)) ∧ Below w.heap.size w wr) (fun _ i _ => 32 - (31 - intOf i).toNat)
  case atStart =>
    refine ⟨0, n, by omega, rfl, rfl, hn, Lib.hid (by simp), ?_, ?_, by go_grown⟩
    · have := Bo.new w (fL fun _ => false)
      exact Lib.hid (this.alloc (.cells (bC (fL fun _ => false)) 128))
    · have := Bo.new (w.alloc (.cells (bC (fL fun _ => false)) 128)) (fL fun _ => false)
      simp only [World.size_alloc] at this
      rw [fL_congr (f := fun j => if 32 ≤ j + 0 then fW n j else false) (g := fun _ => false) (fun j hj => by rw [if_neg (by omega)])]
      exact Lib.hid this
  case round =>
    obtain ⟨k, v, hk, rfl, rfl, hv, HV, HR, HO, hB⟩ := hrel
    by_cases hlt : k < 32
    · obtain ⟨q, hq⟩ : ∃ q, 31 - k = q := ⟨_, rfl⟩
      have hidx : 31 - (k : Int) = (q : Int) := by omega
      have hq32 : q < 32 := by omega
      have c0 := HO.out.getD (i := q) (by rw [fL_length]; omega)
      have f0 := HO.out.free q
      have hbit : fW n q = decide (v % 2 = 1) := by
        unfold fW
        rw [show 31 - q = k by omega, tb, HV.out]
      have hs := HO.out.set q (decide (v % 2 = 1))
      rw [fL_set, fL_congr (g := fun j => if 32 ≤ j + (k + 1) then fW n j else false) (fun j hj => by
        by_cases h1 : j = q
        · subst h1; rw [if_pos rfl, if_pos (by omega), hbit]
        · have h2 : (32 ≤ j + (k + 1)) = (32 ≤ j + k) := by apply propext; omega
          rw [if_neg h1]; simp only [h2])] at hs
      obtain ⟨old, hold⟩ : ∃ o, (fL (fun j => if 32 ≤ j + k then fW n j else false)).getD q false = o := ⟨_, rfl⟩
      rw [hold] at c0
      have HV2 : Hid (v / 2 = n / 2 ^ (k + 1)) := Lib.hid (by rw [HV.out, Nat.div_div_eq_div_mul, Nat.pow_succ])
      have z := HO.out.lt
      have ht : (((v : Int) % 2 == 1)) = decide (v % 2 = 1) := by
        rw [Bool.eq_iff_iff]; simp; omega
      obtain ⟨x, hx⟩ : ∃ x, decide (v % 2 = 1) = x := ⟨_, rfl⟩
      rw [hx] at hs ht
      have HS := Lib.hid hs
      have HQ := Lib.hid hq
      clear hs hold hbit hx hq
      go_wp2

      go_roundw
      case rel => exact ⟨k + 1, v / 2, by have := HQ.out; omega, by go_num, by go_num, by omega, HV2, Lib.hid (HR.out.other (by first | (simp; done) | (simp; omega)) _), HS, hB.setCell (by simp) _⟩
      case measure => simp [intOf]; omega
    · obtain rfl : k = 32 := by omega
      have hb := HO.out
      rw [fL_congr (g := fW n) (fun j hj => by rw [if_pos (by omega)])] at hb
      have hA := HR.out
      have hB2 : Below w.heap.size w (wr.setRow w.heap.size (bC (fL (fW n)))) := below_setRow hB (by omega) _
      clear HR HO
      go_wp2_with (first | (refine wpList_load_row rfl 128 _ rfl (w.heap.size + 1) rfl 128 (bC (fL (fW n))) (0, 0) _ hb Tryd.underlying128 rfl (by rw [size128, bC_size, fL_length]) ?_) | (refine wpList_store_row rfl 128 _ _ rfl w.heap.size (bC (fL (fW n))) rfl rfl 128 _ hA (by rw [size128, bC_size, fL_length]) (by rw [bC_size, bC_size, fL_length, fL_length]) (bC_one _) ?_))
      have hr2 := hA.row (fL (fW n))
      exact bodyPost_ret (v := WB n) (results_cell_row (p := 2) (ty := 128) Tryd.results80 _ _ w.heap.size 128 _ (0, 0) _ rfl hr2 Tryd.underlying128 rfl (by rw [size128, bC_size, fL_length])) rfl ⟨rfl, hB2⟩
set_option maxRecDepth 100000 in
set_option maxHeartbeats 4000000 in
theorem rvalue_any (n : Nat) (w : World) (hn : n ≤ 4294967295) :
    Calls Tryd.prog 82 #[WB n] w fun e w' => e = .returned (.int .i64 (n : Int)) ∧ Below w.heap.size w w' := by
  have hH := Bo.new w (fL (fW n))
  have HH := Lib.hid hH
  have hB0 : Below w.heap.size w (w.alloc (.cells (bC (fL (fW n))) 128)) := by go_grown
  have HB0 := Lib.hid hB0
  clear hH hB0
  go_enter Tryd.func82, Tryd.ntmps82
  go_wp2
  generalize w.alloc (.cells (bC (fL (fW n))) 128) = W at HH HB0 ⊢
  go_loop [3, 4] (fun s i => ∃ k v : Nat, k ≤ 32 ∧ i = .int .i64 (k : Int) ∧ s = .int .i64 (v : Int) ∧ v ≤ 4294967295 ∧ Hid (v = n / 2 ^ (32 - k))) (fun _ i => 32 - (intOf i).toNat)
  case atStart => exact ⟨0, 0, by omega, rfl, rfl, by omega, Lib.hid (by rw [Nat.sub_zero]; exact (Nat.div_eq_of_lt (by omega)).symm)⟩
  case round =>
    obtain ⟨k, v, hk, rfl, rfl, hv, HV⟩ := hrel
    by_cases hlt : k < 32
    · have a0 := HH.out.getD (i := k) (by rw [fL_length]; exact hlt)
      rw [fL_get _ _ hlt] at a0
      have hb : n / 2 ^ (32 - (k + 1)) = 2 * v + (if fW n k then 1 else 0) := by
        unfold fW
        rw [tb, HV.out, show 32 - k = (31 - k) + 1 by omega, show 32 - (k + 1) = 31 - k by omega, Nat.pow_succ, ← Nat.div_div_eq_div_mul]
        by_cases h : n / 2 ^ (31 - k) % 2 = 1
        · simp [h]; omega
        · simp [h]; omega
      have hle : n / 2 ^ (32 - (k + 1)) ≤ 4294967295 := Nat.le_trans (Nat.div_le_self _ _) hn
      obtain ⟨x, hx⟩ : ∃ x, fW n k = x := ⟨_, rfl⟩
      rw [hx] at a0 hb
      cases x
      · have HB := Lib.hid hb
        rw [hb] at hle
        simp at hle
        clear hb hx
        go_wp2
        go_round
        case rel => exact ⟨k + 1, 2 * v, by omega, by go_num, by go_num, by omega, Lib.hid (by rw [HB.out]; simp)⟩
        case measure => simp [intOf]; omega
      · have HB := Lib.hid hb
        rw [hb] at hle
        simp at hle
        clear hb hx
        go_wp2
        go_round
        case rel => exact ⟨k + 1, 2 * v + 1, by omega, by go_num, by go_num, by omega, Lib.hid (by rw [HB.out]; simp)⟩
        case measure => simp [intOf]; omega
    · obtain rfl : k = 32 := by omega
      go_wp2
      go_ret
      exact ⟨ret_i (by rw [HV.out]; simp), HB0.out⟩
set_option maxHeartbeats 1000000 in
theorem rsum_any (a b c d e : Nat) (w : World) (ha : a ≤ 4294967295) (hb : b ≤ 4294967295) (hc : c ≤ 4294967295) (hd : d ≤ 4294967295) (he : e ≤ 4294967295) :
    Calls Tryd.prog 81 #[.int .i64 (a : Int), .int .i64 (b : Int), .int .i64 (c : Int), .int .i64 (d : Int), .int .i64 (e : Int)] w fun e' w' => e' = .returned (.int .i64 (((a + b + c + d + e) % 4294967296 : Nat) : Int)) ∧ w = w' := by
  go_enter Tryd.func81, Tryd.ntmps81
  go_wp2
  go_ret
  exact ⟨ret_i (by omega), rfl⟩
end Go.Proofs.YtfdeegafdaobdaaDoor

namespace Go.Proofs.YtfdeegafdaobdaaDoor
open Go.RowKit Go.ChangeShapes

theorem w_xor (a b : Nat) : (fL fun j => fW a j != fW b j) = fL (fW (a ^^^ b)) := fL_congr fun j _ => by unfold fW; rw [Nat.testBit_xor]
theorem w_and (a b : Nat) : (fL fun j => fW a j && fW b j) = fL (fW (a &&& b)) := fL_congr fun j _ => by unfold fW; rw [Nat.testBit_and]
theorem w_not (n : Nat) (hn : n ≤ 4294967295) : (fL fun j => !fW n j) = fL (fW (4294967295 - n)) := fL_congr fun j hj => by
  unfold fW
  have h := Nat.testBit_two_pow_sub_succ (x := n) (n := 32) (by omega) (31 - j)
  rw [show 4294967295 - n = 2 ^ 32 - (n + 1) by omega, h]
  simp; omega
theorem tb_big {n i : Nat} (hn : n ≤ 4294967295) (hi : 32 ≤ i) : n.testBit i = false :=
  Nat.testBit_lt_two_pow (Nat.lt_of_lt_of_le (by omega : n < 2 ^ 32) (Nat.pow_le_pow_right (by decide) hi))
theorem w_move (n k : Nat) (hn : n ≤ 4294967295) : (fL fun j => if k ≤ j then fW n (j - k) else false) = fL (fW (n / 2 ^ k)) := fL_congr fun j hj => by
  unfold fW
  rw [Nat.testBit_div_two_pow]
  by_cases h : k ≤ j
  · rw [if_pos h]; congr 1; omega
  · rw [if_neg h, tb_big hn (by omega)]
theorem w_turn (n k : Nat) (hn : n ≤ 4294967295) (h1 : 1 ≤ k) (h2 : k ≤ 31) : (fL fun j => fW n ((j + (32 - k)) % 32)) = fL (fW (rotr n k)) := fL_congr fun j hj => by
  unfold fW rotr
  rw [Nat.testBit_or, Nat.testBit_div_two_pow, show (4294967296 : Nat) = 2 ^ 32 from rfl, Nat.testBit_mod_two_pow, Nat.mul_comm n, Nat.testBit_two_pow_mul]
  by_cases h : k ≤ j
  · have e1 : (j + (32 - k)) % 32 = j - k := by omega
    have e2 : decide (32 - k ≤ 31 - j) = false := decide_eq_false (by omega)
    rw [e1, e2]
    simp
    congr 1; omega
  · have e1 : (j + (32 - k)) % 32 = j + (32 - k) := by omega
    have e2 : decide (32 - k ≤ 31 - j) = true := decide_eq_true (by omega)
    have e3 : decide (31 - j < 32) = true := decide_eq_true (by omega)
    rw [e1, e2, e3, tb_big hn (show 32 ≤ 31 - j + k by omega)]
    simp
    congr 1; omega
theorem rturn (n k : Nat) (z : Int) (w : World) (hz : z = (k : Int)) (hn : n ≤ 4294967295) (h1 : 1 ≤ k) (h2 : k ≤ 31) : Calls Tryd.prog 84 #[WB n, .int .i64 z] w fun e w' => e = .returned (WB (rotr n k)) ∧ Below w.heap.size w w' := by
  subst hz
  have := rturn_any (fW n) k w h2
  rw [w_turn n k hn h1 h2] at this
  exact this
theorem rmove (n k : Nat) (z : Int) (w : World) (hz : z = (k : Int)) (hn : n ≤ 4294967295) (h2 : k ≤ 31) : Calls Tryd.prog 85 #[WB n, .int .i64 z] w fun e w' => e = .returned (WB (n / 2 ^ k)) ∧ Below w.heap.size w w' := by
  subst hz
  have := rmove_any (fW n) k w h2
  rw [w_move n k hn] at this
  exact this
theorem rxor (a b : Nat) (w : World) : Calls Tryd.prog 86 #[WB a, WB b] w fun e w' => e = .returned (WB (a ^^^ b)) ∧ Below w.heap.size w w' := by
  have := rxor_any (fW a) (fW b) w
  rw [w_xor] at this
  exact this
theorem rand (a b : Nat) (w : World) : Calls Tryd.prog 87 #[WB a, WB b] w fun e w' => e = .returned (WB (a &&& b)) ∧ Below w.heap.size w w' := by
  have := rand_any (fW a) (fW b) w
  rw [w_and] at this
  exact this
theorem rnot (n : Nat) (w : World) (hn : n ≤ 4294967295) : Calls Tryd.prog 88 #[WB n] w fun e w' => e = .returned (WB (4294967295 - n)) ∧ Below w.heap.size w w' := by
  have := rnot_any (fW n) w
  rw [w_not n hn] at this
  exact this
end Go.Proofs.YtfdeegafdaobdaaDoor
