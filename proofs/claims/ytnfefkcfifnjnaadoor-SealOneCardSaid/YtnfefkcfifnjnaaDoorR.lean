/- Rows of words in memory: a whole block known by its list. -/
import Derived.Test.YtnfefkcfifnjnaaDoorO
import Derived.Laws.Rows
import Derived.Laws.Tables
import Derived.Deep.MidRow
import Derived.WalkSmall
namespace Go.Proofs.YtnfefkcfifnjnaaDoor
open Go.RowKit Go.ChangeShapes
def wsC (l : List Nat) : Array Value := (l.map wd).toArray
theorem wsC_size (l : List Nat) : (wsC l).size = l.length := by simp [wsC]
theorem wsC_get {l : List Nat} {i : Nat} (h : i < l.length) : (wsC l)[i]? = some (wd l[i]) := by simp [wsC, h]
theorem wsC_one (l : List Nat) : (wsC l).all (·.oneCell') = true := by simp [wsC, Value.oneCell']
/-- Block g holds a row of words, and may be written. -/
def Arr (w : World) (g : Nat) (t : TypeId) (l : List Nat) : Prop := w.heap[g]? = some (.cells (wsC l) t (0, 0))
theorem Arr.get {w : World} {g : Nat} {t : TypeId} {l : List Nat} (h : Arr w g t l) {i : Nat} (hi : i < l.length) : w.cell? ⟨g, i, none⟩ = some (wd l[i]) :=
  (cell_of_row w g i _ t (0, 0) h).trans (wsC_get hi)
theorem Arr.getD {w : World} {g : Nat} {t : TypeId} {l : List Nat} (h : Arr w g t l) {i : Nat} (hi : i < l.length) : w.cell? ⟨g, i, none⟩ = some (wd (l.getD i 0)) := by
  rw [h.get hi, List.getD_eq_getElem?_getD, List.getElem?_eq_getElem hi]; rfl
theorem Arr.free {w : World} {g : Nat} {t : TypeId} {l : List Nat} (h : Arr w g t l) (i : Nat) : w.frozen? ⟨g, i, none⟩ = false := frozen_of_row w g i _ t h
theorem Arr.lt {w : World} {g : Nat} {t : TypeId} {l : List Nat} (h : Arr w g t l) : g < w.heap.size := (Array.getElem?_eq_some_iff.1 h).1
theorem Arr.below {w w' : World} {B g : Nat} {t : TypeId} {l : List Nat} (h : Arr w g t l) (hb : Below B w w') (hg : g < B) : Arr w' g t l := (hb.block g hg).trans h
theorem Arr.heap {w w' : World} {g : Nat} {t : TypeId} {l : List Nat} (h : Arr w g t l) (hb : w'.heap = w.heap) : Arr w' g t l := by unfold Arr; rw [hb]; exact h
theorem Arr.drewN {w : World} {g : Nat} {t : TypeId} {l : List Nat} (h : Arr w g t l) (n : Nat) : Arr (w.drewN n) g t l := h
theorem Arr.drew {w : World} {g : Nat} {t : TypeId} {l : List Nat} (h : Arr w g t l) : Arr w.drew g t l := h
theorem Arr.alloc {w : World} {g : Nat} {t : TypeId} {l : List Nat} (h : Arr w g t l) (o : Obj) : Arr (w.alloc o) g t l := (Below.heap_alloc w o g h.lt).trans h
theorem Arr.new (w : World) (t : TypeId) (l : List Nat) : Arr (w.alloc (.cells (wsC l) t)) w.heap.size t l := heap_alloc_new w _
theorem Arr.set {w : World} {g : Nat} {t : TypeId} {l : List Nat} (h : Arr w g t l) (i x : Nat) : Arr (w.setCell ⟨g, i, none⟩ (wd x)) g t (l.set i x) := by
  have := heap_setCell_same w g i (wsC l) t (wd x) h
  unfold Arr
  rw [this]
  congr 2
  simp [wsC, List.map_set]
theorem Arr.other {w : World} {g : Nat} {t : TypeId} {l : List Nat} (h : Arr w g t l) {a : Addr} (ha : g ≠ a.block) (v : Value) : Arr (w.setCell a v) g t l := (heap_setCell_other w a g v ha).trans h
theorem Arr.row {w : World} {g : Nat} {t : TypeId} {l : List Nat} (h : Arr w g t l) (l' : List Nat) : Arr (w.setRow g (wsC l')) g t l' := setRow_heap w g _ _ t _ h
theorem set_snoc (l : List Nat) (n x : Nat) : (l ++ List.replicate (n + 1) 0).set l.length x = (l ++ [x]) ++ List.replicate n 0 := by
  rw [List.set_append_right _ _ (Nat.le_refl _), Nat.sub_self, List.replicate_succ, List.set_cons_zero, List.append_assoc]; rfl
/-- 'a[i]' of a row by value. -/
theorem run_index_ws {P : Program} (w : World) (t e : TypeId) (n : Nat) (l : List Nat) (k : IntKind) (i : Nat) (h : P.underlying t = some (.array n e)) (hn : l.length = n) (hi : i < n) (hsz : (sizeOf e).run P w = .ok 1 w) (hag : (isAgg e).run P w = .ok false w) :
    (Instr.index t (.agg (wsC l)) (.int k (i : Int))).run P w = .ok (wd (l.getD i 0)) w := by
  have e1 : (0 : Int) ≤ (i : Int) ∧ (i : Int) < (n : Int) := by omega
  have hl : i < l.length := by omega
  have hg : l.getD i 0 = l[i] := by rw [List.getD_eq_getElem?_getD, List.getElem?_eq_getElem hl]; rfl
  rw [hg]
  simp [Instr.index, run_underlying h, asIntOf, e1, go_sem, wsC, hsz, hag, hi, hl]
theorem size22 (w : World) : (sizeOf 57).run Tryd.prog w = .ok 1 w := by kernel_rfl
theorem agg22 (w : World) : (isAgg 57).run Tryd.prog w = .ok false w := by kernel_rfl
theorem size53 : (Tryd.prog.info? 84).map (·.size) = some 16 := by kernel_rfl
theorem size79 : (Tryd.prog.info? 119).map (·.size) = some 32 := by kernel_rfl
theorem size92 : (Tryd.prog.info? 136).map (·.size) = some 4 := by kernel_rfl
def bs (l : List UInt8) : ByteArray := ⟨l.toArray⟩
theorem bs_data (l : List UInt8) : (bs l).data.toList = l := rfl
theorem bs_of (s : ByteArray) : bs s.data.toList = s := rfl
theorem bs_size (l : List UInt8) : (bs l).size = l.length := rfl
theorem ext_list (s : ByteArray) (a b : Nat) : (s.extract a b).data.toList = (s.data.toList.drop a).take (b - a) := by
  simp [ByteArray.data_extract, Array.toList_extract, List.extract]
theorem ext_bs (s : ByteArray) (a b : Nat) : s.extract a b = bs ((s.data.toList.drop a).take (b - a)) := by rw [← ext_list]; rfl
end Go.Proofs.YtnfefkcfifnjnaaDoor
