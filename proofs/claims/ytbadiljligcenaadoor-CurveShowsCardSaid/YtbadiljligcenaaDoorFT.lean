/- Contracts of the reference's Sized and Prime. -/
import Derived.Test.YtbadiljligcenaaDoorFS
import Derived.Lib.BufferWrite
namespace Go.Proofs.YtbadiljligcenaaDoor
open Go.RowKit Go.Shelf
/-- 32 octets that begin with those of s. -/
def szL (s : List UInt8) : List UInt8 := s.take 32 ++ List.replicate (32 - s.length) 0
theorem szL_length (s : List UInt8) : (szL s).length = 32 := by simp [szL]; omega
theorem szL_same {s : List UInt8} (h : s.length = 32) : szL s = s := by
  unfold szL; rw [h, List.take_of_length_le (by omega)]; simp
theorem szL_take (s : List UInt8) (h : 32 ≤ s.length) : szL (s.take 32) = szL s := by
  unfold szL; rw [List.length_take, List.take_take]
  congr 2; omega
def B32 : Array Value := (List.replicate 32 (Value.int .u8 0)).toArray
theorem make32 (w : World) : (Instr.makeSlice 32 (.int .i64 32) (.int .i64 32)).run Tryd.prog w = .ok (.slice (some ⟨w.heap.size, 0, none⟩) 32 32) (w.alloc (.cells B32 5)) := by kernel_rfl
theorem copy_cut (ty : TypeId) (d : Option Addr) (c : Nat) (s : ByteArray) (h : 32 ≤ s.size) (w : World) :
    (Builtin.copy_ #[32, 9] ty #[.slice d 32 c, .string s]).run Tryd.prog w = (Builtin.copy_ #[32, 9] ty #[.slice d 32 c, .string (s.extract 0 32)]).run Tryd.prog w := by
  have e1 : Nat.min s.size 32 = 32 := Nat.min_eq_right h
  have e2 : (s.extract 0 32).size = 32 := by rw [ByteArray.size_extract]; omega
  have e3 : (s.extract 0 32).extract 0 32 = s.extract 0 32 := by
    rw [ByteArray.extract_extract]; congr 1
  obtain ⟨i0, hi, hz0, hz1, hz2⟩ := info_parts info5
  simp [Builtin.copy_, run_underlying Tryd.underlying32, Builtin.lenOf, Builtin.firstCells, sizeOf, typeInfo, hi, hz1, e1, e2, e3]
theorem B32_list : B32.toList = List.replicate 32 (Value.int .u8 0) := rfl
theorem row_sz (s : List UInt8) (h : s.length ≤ 32) : (B32.toList.take 0 ++ Lib.byteCells (bs s).data.toList ++ B32.toList.drop (0 + (bs s).size)).toArray = (byC (szL s)).toArray := by
  congr 1
  rw [B32_list, List.take_zero, List.nil_append, Nat.zero_add, bs_size, List.drop_replicate, bs_data]
  unfold szL byC
  rw [List.take_of_length_le h, List.map_append, List.map_replicate]
  rfl
theorem copy32 (ty : TypeId) (g c : Nat) (s : List UInt8) (w : World) (hg : w.heap[g]? = some (.cells B32 5 (0, 0))) :
    ∃ k : Int, (Builtin.copy_ #[32, 9] ty #[.slice (some ⟨g, 0, none⟩) 32 c, .string (bs s)]).run Tryd.prog w = .ok (goInt k) (w.setRow g (byC (szL s)).toArray) := by
  have hs5 : (Tryd.prog.info? 5).map (·.size) = some 1 := by kernel_rfl
  have hB : B32.size = 32 := rfl
  by_cases h : s.length ≤ 32
  · have h2 := Lib.run_copy_row_string (P := Tryd.prog) w 32 9 ty 5 g 0 32 c (bs s) B32 5 Tryd.underlying32 hs5 hg (by rw [bs_size]; exact h) (by rw [bs_size, hB]; omega)
    rw [row_sz s h] at h2
    exact ⟨_, h2⟩
  · have e : (bs s).extract 0 32 = bs (s.take 32) := by rw [ext_bs, bs_data, List.drop_zero]
    have hl : (s.take 32).length ≤ 32 := by rw [List.length_take]; omega
    have h2 := Lib.run_copy_row_string (P := Tryd.prog) w 32 9 ty 5 g 0 32 c (bs (s.take 32)) B32 5 Tryd.underlying32 hs5 hg (by rw [bs_size]; exact hl) (by rw [bs_size, hB]; omega)
    rw [row_sz _ hl, szL_take s (by omega)] at h2
    rw [← e, ← copy_cut ty _ c (bs s) (by rw [bs_size]; omega) w] at h2
    exact ⟨_, h2⟩
theorem oc_row {w : World} {g : Nat} {l : List UInt8} (h : w.heap[g]? = some (.cells (byC l).toArray 5 (0, 0))) : Oc w g l := fun j hj => by
  refine ⟨(cell_of_row _ _ j _ 5 (0, 0) h).trans ?_, frozen_of_row _ _ j _ 5 h⟩
  rw [List.getElem?_toArray, byC_get hj, List.getD_eq_getElem?_getD, List.getElem?_eq_getElem hj]; rfl
set_option maxRecDepth 100000 in
set_option maxHeartbeats 2000000 in
theorem sized_any (s : List UInt8) (w : World) : Calls Tryd.prog 12 #[.string (bs s)] w fun e w' => e = .returned (.string (bs (szL s))) ∧ Below w.heap.size w w' := by
  have hmk := make32
  have hg := heap_alloc_new w (.cells B32 5)
  have hrow : ((w.alloc (.cells B32 5)).setRow w.heap.size (byC (szL s)).toArray).heap[w.heap.size]? = some (.cells (byC (szL s)).toArray 5 (0, 0)) := setRow_heap _ _ _ _ _ _ hg
  have hcv := string_of_oc (cap := 32) (oc_row hrow)
  rw [szL_length] at hcv
  have hB := below_setRow (bstep1 (o := .cells B32 5) (Below.refl w.heap.size w)) (Nat.le_refl _) (byC (szL s)).toArray
  have HG := Lib.hid hg
  have HB := Lib.hid hB
  obtain ⟨k, hcp⟩ := copy32 3 w.heap.size 32 s _ hg
  obtain ⟨S, hS⟩ : ∃ S, bs s = S := ⟨_, rfl⟩
  rw [hS] at hcp
  generalize bs (szL s) = R at hcv ⊢
  generalize (byC (szL s)).toArray = RR at hcv HB hcp
  rw [hS]
  clear hg hrow hB hS HG
  go_enter Tryd.func12, Tryd.ntmps12
  go_wp2
  go_ret
  exact ⟨rfl, HB.out⟩
end Go.Proofs.YtbadiljligcenaaDoor
