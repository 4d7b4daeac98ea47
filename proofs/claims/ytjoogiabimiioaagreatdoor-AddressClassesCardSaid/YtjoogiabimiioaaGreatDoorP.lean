/- Contract of four: a host of 4 octets of which the first ones are told. -/
import Derived.Test.YtjoogiabimiioaaGreatDoorA
import Derived.Laws.CopyRow
namespace Go.Proofs.YtjoogiabimiioaaGreatDoor
open Go.RowKit Go.ChangeShapes
/-- Four octets that begin with some. -/
def fo (l : List UInt8) : List UInt8 := l ++ List.replicate (4 - l.length) 0
theorem fo_length (l : List UInt8) (h : l.length ≤ 4) : (fo l).length = 4 := by unfold fo; rw [List.length_append, List.length_replicate]; omega
abbrev Z4 : Array Value := #[.int .u8 0, .int .u8 0, .int .u8 0, .int .u8 0]
set_option maxRecDepth 100000 in
set_option maxHeartbeats 2000000 in
theorem four_any (g : Nat) (l : List UInt8) (w : World) (h1 : l.length ≤ 4) (hg : w.heap[g]? = some (.cells (byC l).toArray 5 (0, 0))) :
    Calls Tryz.prog 108 #[.slice (some ⟨g, 0, none⟩) l.length l.length] w fun e w' => e = .returned (.string (bs (fo l))) ∧ Below w.heap.size w w' := by
  have hu : Tryz.prog.underlying 54 = some (.slice 5) := Tryz.underlying54
  have hs : (Tryz.prog.info? 5).map (·.size) = some 1 := by kernel_rfl
  have hV1 := heap_alloc_new w (.cells Z4 122)
  have hlt : g < w.heap.size := (Array.getElem?_eq_some_iff.1 hg).1
  have hVg : (w.alloc (.cells Z4 122)).heap[g]? = some (.cells (byC l).toArray 5 (0, 0)) := (Below.heap_alloc w _ g hlt).trans hg
  have hB := (Below.refl w.heap.size w).alloc (Nat.le_refl _) (.cells Z4 122)
  have hcp := fun ty => run_copy_row Tryz.prog (w.alloc (.cells Z4 122)) 54 54 ty 5 w.heap.size 0 4 4 ⟨g, 0, none⟩ l.length l.length Z4 122 (byC l) hu hs hV1
    (by rw [byC_length]; simp [Nat.min_def]; omega)
    (fun j v hj => by rw [WideShapes.add_plain, cell_of_row _ g (0 + j) _ 5 (0, 0) hVg, ← hj]; simp)
    (by rw [byC_length]; show 0 + l.length ≤ 4; omega)
    (fun v hv => by obtain ⟨n, _, rfl⟩ := List.mem_map.1 hv; rfl)
  have hX : (Z4.toList.take 0 ++ byC l ++ Z4.toList.drop (0 + (byC l).length)).toArray = (byC (fo l)).toArray := by
    congr 1
    rw [List.take_zero, List.nil_append, Nat.zero_add, byC_length]
    unfold fo
    rw [← byC_append]
    congr 1
    rcases l with _ | ⟨a, _ | ⟨b, _ | ⟨c, _ | ⟨d, _ | ⟨f, r⟩⟩⟩⟩⟩
    · rfl
    · rfl
    · rfl
    · rfl
    · rfl
    · simp only [List.length_cons] at h1; omega
  rw [hX, byC_length] at hcp
  have hrow := setRow_heap (w.alloc (.cells Z4 122)) w.heap.size Z4 (byC (fo l)).toArray 122 (0, 0) hV1
  have hcv := run_convert_bytes_back (P := Tryz.prog) ((w.alloc (.cells Z4 122)).setRow w.heap.size (byC (fo l)).toArray) 54 100 5 ⟨w.heap.size, 0, none⟩ 4 (fo l) Tryz.underlying54 Tryz.underlying5 Tryz.underlying100 (fun j hj => by
    rw [WideShapes.add_plain, cell_of_row _ w.heap.size (0 + j) _ 122 (0, 0) hrow]
    rw [Nat.zero_add, List.getElem?_toArray]; exact byC_get hj)
  rw [fo_length l h1] at hcv
  have HB := Lib.hid (below_setRow hB (Nat.le_refl _) (byC (fo l)).toArray)
  change (convert 54 100 _).run Tryz.prog _ = .ok (.string (bs (fo l))) _ at hcv
  have hz : ∀ W, (zeroValue 122).run Tryz.prog W = .ok (.agg Z4) W := fun W => by kernel_rfl
  have hsa : ∀ W, (Instr.sliceAt 122 (.pointer (some ⟨w.heap.size, 0, none⟩)) none none none).run Tryz.prog W = .ok (.slice (some ⟨w.heap.size, 0, none⟩) 4 4) W := fun W => by kernel_rfl
  clear hX hrow hVg hV1 hB hu hs hg
  generalize (w.alloc (.cells Z4 122)).setRow w.heap.size (byC (fo l)).toArray = V1 at *
  generalize l.length = n at *
  generalize bs (fo l) = R at *
  go_enter Tryz.func108, Tryz.ntmps108
  go_upto_region 2 with fail
  generalize w.alloc (.cells Z4 122) = V at *
  go_wp2
  go_ret
  exact ⟨rfl, HB.out⟩
end Go.Proofs.YtjoogiabimiioaaGreatDoor
