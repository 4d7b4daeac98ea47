/- readSix: plain facts, memory and the copy. -/
import Derived.Test.YtjoogiabimiioaaGreatDoorND
import Derived.Test.YtjoogiabimiioaaGreatDoorNE
import Derived.Test.YtjoogiabimiioaaGreatDoorNF
import Derived.Test.YtjoogiabimiioaaGreatDoorL
import Derived.Laws.CopyRow
import Derived.Laws.CopyOwn
namespace Go.Proofs.YtjoogiabimiioaaGreatDoor
open Go.RowKit Go.ChangeShapes
def cut1 (s : List UInt8) : List UInt8 := (Lib.cut s [58, 58]).1
def cut2 (s : List UInt8) : List UInt8 := (Lib.cut s [58, 58]).2.1
theorem cut1_len (s : List UInt8) : (cut1 s).length ≤ s.length := by
  unfold cut1 Lib.cut
  split
  · simp only [List.length_take]; omega
  · exact Nat.le_refl _
theorem cut2_len (s : List UInt8) : (cut2 s).length ≤ s.length := by
  unfold cut2 Lib.cut
  split
  · simp only [List.length_drop]; omega
  · exact Nat.zero_le _
abbrev z8 : List Nat := [0, 0, 0, 0, 0, 0, 0, 0]
/-- The groups before, the groups behind. -/
def six1 (s : List UInt8) : List Nat := plc z8 (rdP 8 16 65535 0 (splP 58 (cut1 s))).1
def six2 (s : List UInt8) : List Nat := (rdP 8 16 65535 0 (splP 58 (cut2 s))).1
def sixG (s : List UInt8) : List Nat := (six1 s).take (8 - (six2 s).length) ++ six2 s
theorem six1_val (s : List UInt8) : (six1 s).length = 8 ∧ ∀ v ∈ six1 s, v ≤ 65535 := plc_val 8 16 65535 z8 _ rfl (by simp)
theorem six2_val (s : List UInt8) : (six2 s).length ≤ 8 ∧ ∀ v ∈ six2 s, v ≤ 65535 :=
  ⟨by have := rdP_len 8 16 65535 (splP 58 (cut2 s)) 0 (by decide); show (rdP 8 16 65535 0 (splP 58 (cut2 s))).1.length ≤ 8; omega, rdP_le 8 16 65535 _ 0⟩
theorem sixG_val (s : List UInt8) : (sixG s).length = 8 ∧ ∀ v ∈ sixG s, v < 65536 := by
  have h1 := six1_val s
  have h2 := six2_val s
  refine ⟨by rw [sixG, List.length_append, List.length_take, h1.1]; omega, fun v hv => ?_⟩
  rcases List.mem_append.1 hv with h | h
  · have := h1.2 v (List.mem_of_mem_take h); omega
  · have := h2.2 v h; omega
/-- The memory of readSix. -/
structure Sx (w : World) (r1 r2 : List Nat) (W : World) : Prop where
  e : Env W
  g1 : W.heap[w.heap.size]? = some (.cells (gsC r1) 120 (0, 0))
  g2 : W.heap[w.heap.size + 1]? = some (.cells (gsC r2) 120 (0, 0))
  b : Below w.heap.size w W
variable {w W V : World} {r1 r2 : List Nat}
theorem Sx.below (h : Sx w r1 r2 W) (hb : Below W.heap.size W V) : Sx w r1 r2 V :=
  ⟨h.e.below hb, (hb.block _ (Array.getElem?_eq_some_iff.1 h.g1).1).trans h.g1, (hb.block _ (Array.getElem?_eq_some_iff.1 h.g2).1).trans h.g2, bstep h.b hb⟩
theorem Sx.drew (h : Sx w r1 r2 W) : Sx w r1 r2 W.drew := h.below (Below.refl _ _).drew
theorem below_only {g : Nat} (hb : Below w.heap.size w W) (ho : Only g W V) (hg : w.heap.size ≤ g) : Below w.heap.size w V :=
  ⟨ho.os.trans hb.os, ho.tape.trans hb.tape, ho.output.trans hb.output, Nat.le_trans hb.size ho.size, fun j hj => (ho.block j (Nat.lt_of_lt_of_le hj hb.size) (fun e => by injection e; omega)).trans (hb.block j hj)⟩
theorem below_drewN (n : Nat) (w : World) : Below w.heap.size w (w.drewN n) := ⟨rfl, rfl, rfl, Nat.le_refl _, fun _ _ => rfl⟩
theorem Sx.new (hE : Env w) (n : Nat) : Sx w z8 z8 (((w.drewN n).alloc (.cells (gsC z8) 120)).alloc (.cells (gsC z8) 120)) := by
  have hz0 : (w.drewN n).heap.size = w.heap.size := rfl
  have hz : ((w.drewN n).alloc (.cells (gsC z8) 120)).heap.size = w.heap.size + 1 := by rw [World.size_alloc, hz0]
  have hb : Below w.heap.size w (((w.drewN n).alloc (.cells (gsC z8) 120)).alloc (.cells (gsC z8) 120)) := ((below_drewN n w).alloc (Nat.le_of_eq hz0.symm) _).alloc (by rw [hz]; omega) _
  refine ⟨hE.below hb, (Below.heap_alloc _ _ _ (by rw [hz]; omega)).trans (heap_alloc_new (w.drewN n) _), ?_, hb⟩
  rw [← hz]
  exact heap_alloc_new ((w.drewN n).alloc _) _
theorem Sx.put1 (h : Sx w r1 r2 W) {r : List Nat} (ho : Only w.heap.size W V) (hr : V.heap[w.heap.size]? = some (.cells (rwK .u16 r) 120 (0, 0))) (hE : Env w) : Sx w r r2 V :=
  have hb := below_only h.b ho (Nat.le_refl _)
  ⟨hE.below hb, hr, (ho.block _ (Array.getElem?_eq_some_iff.1 h.g2).1 (fun e => by injection e; omega)).trans h.g2, hb⟩
theorem Sx.put2 (h : Sx w r1 r2 W) {r : List Nat} (ho : Only (w.heap.size + 1) W V) (hr : V.heap[w.heap.size + 1]? = some (.cells (rwK .u16 r) 120 (0, 0))) (hE : Env w) : Sx w r1 r V :=
  have hb := below_only h.b ho (Nat.le_succ _)
  ⟨hE.below hb, (ho.block _ (Array.getElem?_eq_some_iff.1 h.g1).1 (fun e => by injection e; omega)).trans h.g1, hr, hb⟩
theorem Sx.copied (h : Sx w r1 r2 W) (r : List Nat) (hE : Env w) : Sx w r r2 (W.setRow w.heap.size (gsC r)) :=
  have hb := below_setRow h.b (Nat.le_refl _) (gsC r)
  ⟨hE.below hb, setRow_heap W w.heap.size (gsC r1) (gsC r) 120 (0, 0) h.g1, (setRow_other W w.heap.size _ (gsC r) (by omega)).trans h.g2, hb⟩
theorem copyG (ty : TypeId) (W : World) (A B : Nat) (r1 r2 : List Nat) (cc o : Nat) (h1 : r1.length = 8) (h2 : r2.length = 8) (hcc : cc ≤ 8) (ho : 8 - cc < 8 → o = 8 - cc)
    (hg1 : W.heap[A]? = some (.cells (gsC r1) 120 (0, 0))) (hg2 : W.heap[B]? = some (.cells (gsC r2) 120 (0, 0))) :
    (Builtin.copy_ #[125, 125] ty #[.slice (some ⟨A, o, none⟩) (8 - (8 - cc)) (8 - (8 - cc)), .slice (some ⟨B, 0, none⟩) cc 8]).run Tryz.prog W = .ok (goInt cc) (W.setRow A (gsC (r1.take (8 - cc) ++ r2.take cc))) := by
  have hu : Tryz.prog.underlying 125 = some (.slice 24) := by kernel_rfl
  have hs : (Tryz.prog.info? 24).map (·.size) = some 1 := by kernel_rfl
  rw [show 8 - (8 - cc) = cc by omega]
  by_cases h0 : cc = 0
  · subst h0
    rw [run_copy_none W 125 125 ty 24 (some ⟨A, o, none⟩) (some ⟨B, 0, none⟩) 0 0 0 8 hu hs rfl, List.take_zero, List.append_nil, List.take_of_length_le (by omega), setRow_self W A (gsC r1) 120 (0, 0) hg1]
    rfl
  · have := ho (by omega)
    subst this
    have h := run_copy_row Tryz.prog W 125 125 ty 24 A (8 - cc) cc cc ⟨B, 0, none⟩ cc 8 (gsC r1) 120 ((r2.take cc).map g16) hu hs hg1 (by rw [List.length_map, List.length_take, h2]; simp [Nat.min_def]; omega)
      (fun j v hj => by
        rw [Lib.add_plain, cell_of_row W B (0 + j) _ 120 (0, 0) hg2, ← hj]
        have hjl : j < cc := by
          have := (List.getElem?_eq_some_iff.1 hj).1
          rw [List.length_map, List.length_take] at this
          omega
        simp [gsC, hjl])
      (by rw [List.length_map, List.length_take, gsC_size, h1, h2]; omega)
      (fun v hv => by obtain ⟨n, _, rfl⟩ := List.mem_map.1 hv; rfl)
    have e1 : ((r2.take cc).map g16).length = cc := by rw [List.length_map, List.length_take, h2]; omega
    have e2 : ((gsC r1).toList.take (8 - cc) ++ (r2.take cc).map g16 ++ (gsC r1).toList.drop (8 - cc + cc)).toArray = gsC (r1.take (8 - cc) ++ r2.take cc) := by
      unfold gsC
      rw [show 8 - cc + cc = 8 by omega, List.drop_eq_nil_of_le (by simp [h1]), List.append_nil, List.map_append]
      simp only [List.map_take]
    rw [e1, e2] at h
    exact h
end Go.Proofs.YtjoogiabimiioaaGreatDoor
