/- The laws' cut and told; a change of octets. The walk of SealBoxes. -/
import Derived.Test.YtnfefkcfifnjnaaDoorSX
import Derived.Test.YtnfefkcfifnjnaaDoorZC
import Derived.Test.YtnfefkcfifnjnaaDoorW
import Derived.Test.YtnfefkcfifnjnaaDoorNV
import Derived.Test.YtnfefkcfifnjnaaDoorWB
import Derived.Deep.CutBlock
import Derived.Deep.DeepCutAuto
namespace Go.Proofs.YtnfefkcfifnjnaaDoor
section
open Go.RowKit Go.ChangeShapes
set_option maxRecDepth 1000000 in
set_option maxHeartbeats 8000000 in
theorem edit_any (ea el : Nat) (ep s : ByteArray) (_ha : ea ≤ 65535) (hl : el ≤ 255) (hs : s.size ≤ 5000) (_hp : ep.size ≤ maxLen) : ∃ Z : ByteArray, Z.size ≤ s.size + 8 ∧ ∀ w, Calls Tryd.prog 19 #[.agg #[.int .u16 (ea : Int), .int .u8 (el : Int), .string ep], .string s] w fun e w' => e = .returned (.string Z) ∧ Below w.heap.size w w' := by
  unfold maxLen at _hp
  obtain ⟨d, hd⟩ : ∃ d, ea % (s.size + 1) = d := ⟨_, rfl⟩
  have hd1 : d ≤ s.size := by have := Nat.mod_lt ea (show 0 < s.size + 1 by omega); omega
  have d1 : (ea : Int).tmod ((s.size : Int) + 1) = (d : Int) := by
    rw [Int.tmod_eq_emod_of_nonneg (by omega), ← hd]; simp
  have d2 : (ea : Int) % ((s.size : Int) + 1) = (d : Int) := by rw [← hd]; simp
  obtain ⟨m1, z1, hz1, hl1, i1, j1⟩ := cut_m ep 8 8 rfl
  obtain ⟨l5, hl5⟩ : ∃ x, el % 5 = x := ⟨_, rfl⟩
  have l51 : (el : Int).tmod 5 = (l5 : Int) := by rw [Int.tmod_eq_emod_of_nonneg (by omega)]; omega
  have l52 : (el : Int) % 5 = (l5 : Int) := by omega
  have l53 : l5 ≤ 4 := by omega
  have l54 : IntKind.i64.wrap (l5 : Int) = (l5 : Int) := IntWalk.i64_in _ (by omega)
  obtain ⟨m2, hm2⟩ : ∃ x, min (d + l5) s.size = x := ⟨_, rfl⟩
  obtain ⟨ed, hed⟩ : ∃ x, d + l5 = x := ⟨_, rfl⟩
  have m20 : IntKind.i64.wrap ((d : Int) + (l5 : Int)) = (ed : Int) := by rw [IntWalk.i64_in _ (by omega)]; omega
  have m21 : min (ed : Int) (s.size : Int) = (m2 : Int) := by omega
  have m22 : m2 ≤ s.size := by omega
  have m23 : d ≤ m2 := by omega
  obtain ⟨S1, hS1⟩ : ∃ S, s.extract 0 d = S := ⟨_, rfl⟩
  obtain ⟨P1, hP1⟩ : ∃ S, bs z1 = S := ⟨_, rfl⟩
  obtain ⟨S3, hS3⟩ : ∃ S, s.extract m2 s.size = S := ⟨_, rfl⟩
  have s1 : S1.size = d := by rw [← hS1, ByteArray.size_extract]; omega
  have s2 : P1.size ≤ 8 := by rw [← hP1, bs_size]; exact hl1
  have s3 : S3.size = s.size - m2 := by rw [← hS3, ByteArray.size_extract]; omega
  have a1 : ∀ wx : World, (Instr.slice 9 (.string s) none (some (.int .i64 (d : Int))) none).run Tryd.prog wx = .ok (.string S1) wx := fun wx => by
    have := run_slice_string_h (P := Tryd.prog) (w := wx) (t := 9) (s := s) Tryd.underlying9 .i64 (d : Int) (by omega) (by omega)
    rw [this, Int.toNat_natCast, hS1]
  have a2 : ∀ wx : World, (Instr.slice 9 (.string ep) none (some (.int .i64 (m1 : Int))) none).run Tryd.prog wx = .ok (.string P1) wx := fun wx => by
    have := run_slice_string_h (P := Tryd.prog) (w := wx) (t := 9) (s := ep) Tryd.underlying9 .i64 (m1 : Int) (by omega) (by omega)
    rw [this, Int.toNat_natCast, hz1, hP1]
  have a3 : ∀ wx : World, (Instr.slice 9 (.string s) (some (.int .i64 (m2 : Int))) none none).run Tryd.prog wx = .ok (.string S3) wx := fun wx => by
    have := run_slice_string_l (P := Tryd.prog) (w := wx) 9 (s := s) Tryd.underlying9 .i64 (m2 : Int) (by omega) (by omega)
    rw [this, Int.toNat_natCast, hS3]
  have c1 : ∀ wx : World, (Op.stringOp .add S1 P1).run Tryd.prog wx = .ok (.string (S1 ++ P1)) wx := fun wx => run_string_add wx S1 P1 (by omega) (by omega)
  have c2 : ∀ wx : World, (Op.stringOp .add (S1 ++ P1) S3).run Tryd.prog wx = .ok (.string (S1 ++ P1 ++ S3)) wx := fun wx => run_string_add wx _ S3 (by rw [ByteArray.size_append]; omega) (by omega)
  have cva : IntKind.i64.wrap (ea : Int) = (ea : Int) := IntWalk.i64_in _ (by omega)
  refine ⟨S1 ++ P1 ++ S3, by rw [ByteArray.size_append, ByteArray.size_append]; omega, fun w => ?_⟩
  clear hd hz1 hl1 hl5 hm2 hed hS1 hP1 hS3 s1 s2 s3 m23
  have hne : ¬ (s.size : Int) + 1 = 0 := by omega
  go_enter Tryd.func19, Tryd.ntmps19
  go_wp2_with fail
  have x0 : ((w.alloc (.cells #[.int .u16 (ea : Int), .int .u8 (el : Int), .string ep] 35)).drew).cell? ⟨w.heap.size, 0, none⟩ = some (.int .u16 (ea : Int)) := cell_of_row _ _ 0 _ 35 (0, 0) (heap_alloc_new w _)
  have x1 : ((w.alloc (.cells #[.int .u16 (ea : Int), .int .u8 (el : Int), .string ep] 35)).drew).cell? ⟨w.heap.size, 1, none⟩ = some (.int .u8 (el : Int)) := cell_of_row _ _ 1 _ 35 (0, 0) (heap_alloc_new w _)
  have x2 : ((w.alloc (.cells #[.int .u16 (ea : Int), .int .u8 (el : Int), .string ep] 35)).drew).cell? ⟨w.heap.size, 2, none⟩ = some (.string ep) := cell_of_row _ _ 2 _ 35 (0, 0) (heap_alloc_new w _)
  refine region_anyC (fun w' => w'.cell? ⟨w.heap.size, 0, none⟩ = some (.int .u16 (ea : Int)) ∧ w'.cell? ⟨w.heap.size, 1, none⟩ = some (.int .u8 (el : Int)) ∧ w'.cell? ⟨w.heap.size, 2, none⟩ = some (.string ep)) (fun _ => True) [] (by kernel_rfl) ?_
  refine anyC_takeS (i := 0) (oi := ⟨some 13, _, _, _, _, _⟩) (v := _) rfl (by kernel_rfl) (by kernel_rfl) (by kernel_rfl) (by kernel_rfl) (fun _ _ _ h => h) (Or.inl ⟨by rfl, fun w' hw' => (by obtain ⟨k1, k2, k3⟩ := hw'; go_simp; try with_reducible rfl)⟩) ⟨x0, x1, x2⟩ (fun _ => trivial) ?_
  try simp only [Act.put, List.setIfInBounds_toArray, List.set_cons_zero, List.set_cons_succ]
  refine anyC_takeS (i := 1) (oi := ⟨some 14, _, _, _, _, _⟩) (v := _) rfl (by kernel_rfl) (by kernel_rfl) (by kernel_rfl) (by kernel_rfl) (fun _ _ _ h => h) (Or.inl ⟨by rfl, fun w' hw' => (by obtain ⟨k1, k2, k3⟩ := hw'; go_simp; try with_reducible rfl)⟩) ⟨x0, x1, x2⟩ (fun _ => trivial) ?_
  try simp only [Act.put, List.setIfInBounds_toArray, List.set_cons_zero, List.set_cons_succ]
  refine anyC_takeS (i := 2) (oi := ⟨some 15, _, _, _, _, _⟩) (v := _) rfl (by kernel_rfl) (by kernel_rfl) (by kernel_rfl) (by kernel_rfl) (fun _ _ _ h => h) (Or.inl ⟨by rfl, fun w' hw' => (by obtain ⟨k1, k2, k3⟩ := hw'; go_simp; try with_reducible rfl)⟩) ⟨x0, x1, x2⟩ (fun _ => trivial) ?_
  try simp only [Act.put, List.setIfInBounds_toArray, List.set_cons_zero, List.set_cons_succ]
  refine anyC_takeS (i := 3) (oi := ⟨some 16, _, _, _, _, _⟩) (v := _) rfl (by kernel_rfl) (by kernel_rfl) (by kernel_rfl) (by kernel_rfl) (fun _ _ _ h => h) (Or.inl ⟨by rfl, fun w' hw' => (by obtain ⟨k1, k2, k3⟩ := hw'; go_simp; try with_reducible rfl)⟩) ⟨x0, x1, x2⟩ (fun _ => trivial) ?_
  try simp only [Act.put, List.setIfInBounds_toArray, List.set_cons_zero, List.set_cons_succ]
  refine anyC_takeS (i := 4) (oi := ⟨some 17, _, _, _, _, _⟩) (v := _) rfl (by kernel_rfl) (by kernel_rfl) (by kernel_rfl) (by kernel_rfl) (fun _ _ _ h => h) (Or.inl ⟨by rfl, fun w' hw' => (by obtain ⟨k1, k2, k3⟩ := hw'; go_simp; try with_reducible rfl)⟩) ⟨x0, x1, x2⟩ (fun _ => trivial) ?_
  try simp only [Act.put, List.setIfInBounds_toArray, List.set_cons_zero, List.set_cons_succ]
  refine anyC_takeS (i := 5) (oi := ⟨some 18, _, _, _, _, _⟩) (v := _) rfl (by kernel_rfl) (by kernel_rfl) (by kernel_rfl) (by kernel_rfl) (fun _ _ _ h => h) (Or.inl ⟨by rfl, fun w' hw' => (by obtain ⟨k1, k2, k3⟩ := hw'; go_simp; try with_reducible rfl)⟩) ⟨x0, x1, x2⟩ (fun _ => trivial) ?_
  try simp only [Act.put, List.setIfInBounds_toArray, List.set_cons_zero, List.set_cons_succ]
  refine anyC_takeS (i := 6) (oi := ⟨some 19, _, _, _, _, _⟩) (v := _) rfl (by kernel_rfl) (by kernel_rfl) (by kernel_rfl) (by kernel_rfl) (fun _ _ _ h => h) (Or.inl ⟨by rfl, fun w' hw' => (by obtain ⟨k1, k2, k3⟩ := hw'; go_simp; try with_reducible rfl)⟩) ⟨x0, x1, x2⟩ (fun _ => trivial) ?_
  try simp only [Act.put, List.setIfInBounds_toArray, List.set_cons_zero, List.set_cons_succ]
  refine anyC_takeS (i := 7) (oi := ⟨some 20, _, _, _, _, _⟩) (v := _) rfl (by kernel_rfl) (by kernel_rfl) (by kernel_rfl) (by kernel_rfl) (fun _ _ _ h => h) (Or.inl ⟨by rfl, fun w' hw' => (by obtain ⟨k1, k2, k3⟩ := hw'; go_simp; try with_reducible rfl)⟩) ⟨x0, x1, x2⟩ (fun _ => trivial) ?_
  try simp only [Act.put, List.setIfInBounds_toArray, List.set_cons_zero, List.set_cons_succ]
  refine anyC_takeS (i := 8) (oi := ⟨some 21, _, _, _, _, _⟩) (v := _) rfl (by kernel_rfl) (by kernel_rfl) (by kernel_rfl) (by kernel_rfl) (fun _ _ _ h => h) (Or.inl ⟨by rfl, fun w' hw' => (by obtain ⟨k1, k2, k3⟩ := hw'; go_simp; try with_reducible rfl)⟩) ⟨x0, x1, x2⟩ (fun _ => trivial) ?_
  try simp only [Act.put, List.setIfInBounds_toArray, List.set_cons_zero, List.set_cons_succ]
  refine anyC_takeS (i := 9) (oi := ⟨some 22, _, _, _, _, _⟩) (v := _) rfl (by kernel_rfl) (by kernel_rfl) (by kernel_rfl) (by kernel_rfl) (fun _ _ _ h => h) (Or.inl ⟨by rfl, fun w' hw' => (by obtain ⟨k1, k2, k3⟩ := hw'; go_simp; try with_reducible rfl)⟩) ⟨x0, x1, x2⟩ (fun _ => trivial) ?_
  try simp only [Act.put, List.setIfInBounds_toArray, List.set_cons_zero, List.set_cons_succ]
  refine anyC_takeS (i := 10) (oi := ⟨some 23, _, _, _, _, _⟩) (v := _) rfl (by kernel_rfl) (by kernel_rfl) (by kernel_rfl) (by kernel_rfl) (fun _ _ _ h => h) (Or.inl ⟨by rfl, fun w' hw' => (by obtain ⟨k1, k2, k3⟩ := hw'; go_simp; try with_reducible rfl)⟩) ⟨x0, x1, x2⟩ (fun _ => trivial) ?_
  try simp only [Act.put, List.setIfInBounds_toArray, List.set_cons_zero, List.set_cons_succ]
  refine anyC_takeS (i := 11) (oi := ⟨some 24, _, _, _, _, _⟩) (v := _) rfl (by kernel_rfl) (by kernel_rfl) (by kernel_rfl) (by kernel_rfl) (fun _ _ _ h => h) (Or.inl ⟨by rfl, fun w' hw' => (by obtain ⟨k1, k2, k3⟩ := hw'; go_simp; try with_reducible rfl)⟩) ⟨x0, x1, x2⟩ (fun _ => trivial) ?_
  try simp only [Act.put, List.setIfInBounds_toArray, List.set_cons_zero, List.set_cons_succ]
  refine anyC_takeS (i := 12) (oi := ⟨some 25, _, _, _, _, _⟩) (v := _) rfl (by kernel_rfl) (by kernel_rfl) (by kernel_rfl) (by kernel_rfl) (fun _ _ _ h => h) (Or.inl ⟨by rfl, fun w' hw' => (by obtain ⟨k1, k2, k3⟩ := hw'; go_simp; try with_reducible rfl)⟩) ⟨x0, x1, x2⟩ (fun _ => trivial) ?_
  try simp only [Act.put, List.setIfInBounds_toArray, List.set_cons_zero, List.set_cons_succ]
  refine anyC_takeS (i := 13) (oi := ⟨some 26, _, _, _, _, _⟩) (v := _) rfl (by kernel_rfl) (by kernel_rfl) (by kernel_rfl) (by kernel_rfl) (fun _ _ _ h => h) (Or.inl ⟨by rfl, fun w' hw' => (by obtain ⟨k1, k2, k3⟩ := hw'; go_simp; try with_reducible rfl)⟩) ⟨x0, x1, x2⟩ (fun _ => trivial) ?_
  try simp only [Act.put, List.setIfInBounds_toArray, List.set_cons_zero, List.set_cons_succ]
  refine anyC_takeS (i := 14) (oi := ⟨some 27, _, _, _, _, _⟩) (v := _) rfl (by kernel_rfl) (by kernel_rfl) (by kernel_rfl) (by kernel_rfl) (fun _ _ _ h => h) (Or.inl ⟨by rfl, fun w' hw' => (by obtain ⟨k1, k2, k3⟩ := hw'; go_simp; try with_reducible rfl)⟩) ⟨x0, x1, x2⟩ (fun _ => trivial) ?_
  try simp only [Act.put, List.setIfInBounds_toArray, List.set_cons_zero, List.set_cons_succ]
  refine anyC_takeS (i := 15) (oi := ⟨some 28, _, _, _, _, _⟩) (v := _) rfl (by kernel_rfl) (by kernel_rfl) (by kernel_rfl) (by kernel_rfl) (fun _ _ _ h => h) (Or.inl ⟨by rfl, fun w' hw' => (by obtain ⟨k1, k2, k3⟩ := hw'; go_simp; try with_reducible rfl)⟩) ⟨x0, x1, x2⟩ (fun _ => trivial) ?_
  try simp only [Act.put, List.setIfInBounds_toArray, List.set_cons_zero, List.set_cons_succ]
  refine anyC_takeS (i := 16) (oi := ⟨some 29, _, _, _, _, _⟩) (v := _) rfl (by kernel_rfl) (by kernel_rfl) (by kernel_rfl) (by kernel_rfl) (fun _ _ _ h => h) (Or.inl ⟨by rfl, fun w' hw' => (by obtain ⟨k1, k2, k3⟩ := hw'; go_simp; try with_reducible rfl)⟩) ⟨x0, x1, x2⟩ (fun _ => trivial) ?_
  try simp only [Act.put, List.setIfInBounds_toArray, List.set_cons_zero, List.set_cons_succ]
  refine anyC_takeS (i := 17) (oi := ⟨some 30, _, _, _, _, _⟩) (v := _) rfl (by kernel_rfl) (by kernel_rfl) (by kernel_rfl) (by kernel_rfl) (fun _ _ _ h => h) (Or.inl ⟨by rfl, fun w' hw' => (by obtain ⟨k1, k2, k3⟩ := hw'; go_simp; try with_reducible rfl)⟩) ⟨x0, x1, x2⟩ (fun _ => trivial) ?_
  try simp only [Act.put, List.setIfInBounds_toArray, List.set_cons_zero, List.set_cons_succ]
  refine anyC_takeS (i := 18) (oi := ⟨some 31, _, _, _, _, _⟩) (v := _) rfl (by kernel_rfl) (by kernel_rfl) (by kernel_rfl) (by kernel_rfl) (fun _ _ _ h => h) (Or.inl ⟨by rfl, fun w' hw' => (by obtain ⟨k1, k2, k3⟩ := hw'; go_simp; try with_reducible rfl)⟩) ⟨x0, x1, x2⟩ (fun _ => trivial) ?_
  try simp only [Act.put, List.setIfInBounds_toArray, List.set_cons_zero, List.set_cons_succ]
  refine anyC_takeS (i := 19) (oi := ⟨some 32, _, _, _, _, _⟩) (v := _) rfl (by kernel_rfl) (by kernel_rfl) (by kernel_rfl) (by kernel_rfl) (fun _ _ _ h => h) (Or.inl ⟨by rfl, fun w' hw' => (by obtain ⟨k1, k2, k3⟩ := hw'; go_simp; try with_reducible rfl)⟩) ⟨x0, x1, x2⟩ (fun _ => trivial) ?_
  try simp only [Act.put, List.setIfInBounds_toArray, List.set_cons_zero, List.set_cons_succ]
  refine anyC_takeS (i := 20) (oi := ⟨some 33, _, _, _, _, _⟩) (v := _) rfl (by kernel_rfl) (by kernel_rfl) (by kernel_rfl) (by kernel_rfl) (fun _ _ _ h => h) (Or.inl ⟨by rfl, fun w' hw' => (by obtain ⟨k1, k2, k3⟩ := hw'; go_simp; try with_reducible rfl)⟩) ⟨x0, x1, x2⟩ (fun _ => trivial) ?_
  try simp only [Act.put, List.setIfInBounds_toArray, List.set_cons_zero, List.set_cons_succ]
  refine anyC_takeS (i := 21) (oi := ⟨some 34, _, _, _, _, _⟩) (v := _) rfl (by kernel_rfl) (by kernel_rfl) (by kernel_rfl) (by kernel_rfl) (fun _ _ _ h => h) (Or.inl ⟨by rfl, fun w' hw' => (by obtain ⟨k1, k2, k3⟩ := hw'; go_simp; try with_reducible rfl)⟩) ⟨x0, x1, x2⟩ (fun _ => trivial) ?_
  try simp only [Act.put, List.setIfInBounds_toArray, List.set_cons_zero, List.set_cons_succ]
  refine anyC_takeS (i := 22) (oi := ⟨some 35, _, _, _, _, _⟩) (v := _) rfl (by kernel_rfl) (by kernel_rfl) (by kernel_rfl) (by kernel_rfl) (fun _ _ _ h => h) (Or.inl ⟨by rfl, fun w' hw' => (by obtain ⟨k1, k2, k3⟩ := hw'; go_simp; try with_reducible rfl)⟩) ⟨x0, x1, x2⟩ (fun _ => trivial) ?_
  try simp only [Act.put, List.setIfInBounds_toArray, List.set_cons_zero, List.set_cons_succ]
  refine anyC_takeS (i := 23) (oi := ⟨some 4, _, _, _, _, _⟩) (v := _) rfl (by kernel_rfl) (by kernel_rfl) (by kernel_rfl) (by kernel_rfl) (fun _ _ _ h => h) (Or.inl ⟨by rfl, fun w' hw' => (by obtain ⟨k1, k2, k3⟩ := hw'; go_simp; try with_reducible rfl)⟩) ⟨x0, x1, x2⟩ (fun _ => trivial) ?_
  try simp only [Act.put, List.setIfInBounds_toArray, List.set_cons_zero, List.set_cons_succ]
  refine anyC_done (by kernel_rfl) ?_ _
  go_wp2
  go_ret
  exact ⟨rfl, ((Below.refl _ w).alloc (Nat.le_refl _) _).drew⟩
set_option maxRecDepth 100000 in
set_option maxHeartbeats 1000000 in
theorem cutq (s : ByteArray) (n : Nat) (y : Int) (hy : y = (n : Int)) : ∃ z : List UInt8, z.length ≤ n ∧ ∀ w, Calls Tryd.prog 13 #[.string s, .int .i64 y] w fun e w' => e = .returned (.string (bs z)) ∧ w = w' := by
  obtain ⟨m, z, hz, hl, i1, j1⟩ := cut_m s n y hy
  refine ⟨z, hl, fun w => ?_⟩
  subst hy
  go_enter Tryd.func13, Tryd.ntmps13
  go_wp2
  go_ret
  exact ⟨rfl, rfl⟩
set_option maxRecDepth 100000 in
set_option maxHeartbeats 1000000 in
theorem toldE (n : Int) (x : ByteArray) (w : World) (hn : n ≠ 0) :
    Calls Tryd.prog 17 #[.string ⟨#[]⟩, .int .i64 n, .int .i64 n, .string x] w fun e w' => e = .returned (.bool true) ∧ w = w' := by
  go_enter Tryd.func17, Tryd.ntmps17
  go_wp2
  go_ret
  exact ⟨ret_b (by simp), rfl⟩
set_option maxRecDepth 100000 in
set_option maxHeartbeats 1000000 in
theorem toldS (s : ByteArray) (w : World) :
    Calls Tryd.prog 17 #[.string s, .int .i64 0, .int .i64 0, .string s] w fun e w' => e = .returned (.bool true) ∧ w = w' := by
  go_enter Tryd.func17, Tryd.ntmps17
  go_wp2
  go_ret
  exact ⟨ret_b (by simp), rfl⟩
theorem toldG (n : Int) (s x : ByteArray) (w : World) (h : n = 0 ∧ s = x ∨ n ≠ 0 ∧ s = ⟨#[]⟩) :
    Calls Tryd.prog 17 #[.string s, .int .i64 n, .int .i64 n, .string x] w fun e w' => e = .returned (.bool true) ∧ w = w' := by
  rcases h with ⟨rfl, rfl⟩ | ⟨hn, rfl⟩
  · exact toldS s w
  · exact toldE n x w hn
end
section
open Go.RowKit Go.ChangeShapes
def pq4 {α : Type} (a b c d : α) (i : Nat) : α := if i = 0 then a else if i = 1 then b else if i = 2 then c else d
def pq5 {α : Type} (a b c d e : α) (i : Nat) : α := if i = 0 then a else if i = 1 then b else if i = 2 then c else if i = 3 then d else e
theorem idx37 (a b c d : ByteArray) (i : Nat) (w : World) (h : i < 4) : (Instr.index 37 (.agg #[.string a, .string b, .string c, .string d]) (.int .i64 (i : Int))).run Tryd.prog w = .ok (.string (pq4 a b c d i)) w := by
  rcases (by omega : i = 0 ∨ i = 1 ∨ i = 2 ∨ i = 3) with rfl | rfl | rfl | rfl
  · kernel_rfl
  · kernel_rfl
  · kernel_rfl
  · kernel_rfl
theorem idx39 (a b c d k o z t : ByteArray) (i : Nat) (w : World) (h : i < 5) : (Instr.index 39 (.agg #[.string a, .string b, .string c, .string d, .string k, .string o, .string c, .string d, .string k, .string o, .string z, .string d, .string k, .string o, .string c, .string t, .string k, .string o, .string t, .string d]) (.int .i64 (i : Int))).run Tryd.prog w = .ok (.agg #[.string (pq5 a k k k k i), .string (pq5 b o o o o i), .string (pq5 c c z c t i), .string (pq5 d d d t d i)]) w := by
  rcases (by omega : i = 0 ∨ i = 1 ∨ i = 2 ∨ i = 3 ∨ i = 4) with rfl | rfl | rfl | rfl | rfl
  · kernel_rfl
  · kernel_rfl
  · kernel_rfl
  · kernel_rfl
  · kernel_rfl
theorem good_of (a b : ByteArray) : good a b 0 = decide (a.size = 32 ∧ b.size = 12) := by
  unfold good
  apply decide_eq_decide.2
  exact ⟨fun h => ⟨h.1, h.2.1⟩, fun h => ⟨h.1, h.2, by decide, by decide⟩⟩
set_option maxRecDepth 1000000 in
set_option maxHeartbeats 16000000 in
theorem boxes_true (s1 s2 s3 s4 : ByteArray) (n ea el : Nat) (ep : ByteArray) (wh : Nat) (w : World) (hD : Digits w) (hn : n ≤ 65535) (hea : ea ≤ 65535) (hel : el ≤ 255) (hep : ep.size ≤ maxLen) (hwh : wh ≤ 255) :
    Calls Tryd.prog 4 #[.string s1, .string s2, .string s3, .string s4, .int .u16 (n : Int), .agg #[.int .u16 (ea : Int), .int .u8 (el : Int), .string ep], .int .u8 (wh : Int)] w fun e w' => e = .returned (.bool true) ∧ Below w.heap.size w w' := by
  have K0 := (Wk.start hD).alloc (.cells #[.int .u16 (ea : Int), .int .u8 (el : Int), .string ep] 35)
  obtain ⟨z1, hl1, c1⟩ := cutq s1 40 40 rfl
  obtain ⟨z2, hl2, c2⟩ := cutq s2 40 40 rfl
  obtain ⟨z3, hl3, c3⟩ := cutq s3 100 100 rfl
  obtain ⟨z4, hl4, c4⟩ := cutq s4 100 100 rfl
  have nm : n % 4200 ≤ 4200 := by omega
  have q1 : ∀ w, Calls Tryd.prog 14 #[.string (bs z1), .int .i64 32] w fun e w' => e = .returned (.string (bs (sizL z1 32))) ∧ Below w.heap.size w w' := fun w => sized_any z1 32 w (by decide) (by omega)
  have q2 : ∀ w, Calls Tryd.prog 14 #[.string (bs z2), .int .i64 12] w fun e w' => e = .returned (.string (bs (sizL z2 12))) ∧ Below w.heap.size w w' := fun w => sized_any z2 12 w (by decide) (by omega)
  have q3 : ∀ w, Calls Tryd.prog 14 #[.string (bs z4), .int .i64 ((n % 4200 : Nat) : Int)] w fun e w' => e = .returned (.string (bs (sizL z4 (n % 4200)))) ∧ Below w.heap.size w w' := fun w => sized_any z4 (n % 4200) w (by omega) (by omega)
  obtain ⟨z5, hl5, c5⟩ := cutq (bs (sizL z4 (n % 4200))) 300 300 rfl
  have lk : (sizL z1 32).length = 32 := sizL_length _ _
  have lo : (sizL z2 12).length = 12 := sizL_length _ _
  have q4 : ∀ w, Calls Tryd.prog 18 #[.string (bs (sizL z1 32)), .string (bs (sizL z2 12)), .string (bs z3), .string (bs z4)] w fun e w' => e = .returned (.string (bs (sealO (sizL z1 32) (sizL z2 12) z3 z4))) ∧ Below w.heap.size w w' := fun w => rseal _ _ z3 z4 w lk lo (by omega) (by omega)
  have sb : (bs (sealO (sizL z1 32) (sizL z2 12) z3 z4)).size ≤ 116 := by rw [bs_size, sealO_length]; omega
  have sl : (bs (sizL z4 (n % 4200))).size = n % 4200 := by rw [bs_size, sizL_length]
  have se : (bs z3).size ≤ 100 := hl3
  have sp : (bs z4).size ≤ 100 := hl4
  have s5 : (bs z5).size ≤ 300 := hl5
  have hm1 : (n : Int).tmod 4200 = ((n % 4200 : Nat) : Int) := by rw [Int.tmod_eq_emod_of_nonneg (by omega)]; omega
  have hm2 : (n : Int) % 4200 = ((n % 4200 : Nat) : Int) := by omega
  have hcv : IntKind.i64.wrap (n : Int) = (n : Int) := IntWalk.i64_in _ (by omega)
  obtain ⟨A, hA⟩ : ∃ Y : ByteArray, bs z1 = Y := ⟨_, rfl⟩
  obtain ⟨B, hB⟩ : ∃ Y : ByteArray, bs z2 = Y := ⟨_, rfl⟩
  obtain ⟨E, hE⟩ : ∃ Y : ByteArray, bs z3 = Y := ⟨_, rfl⟩
  obtain ⟨P, hP⟩ : ∃ Y : ByteArray, bs z4 = Y := ⟨_, rfl⟩
  obtain ⟨KK, hKK⟩ : ∃ Y : ByteArray, bs (sizL z1 32) = Y := ⟨_, rfl⟩
  obtain ⟨OO, hOO⟩ : ∃ Y : ByteArray, bs (sizL z2 12) = Y := ⟨_, rfl⟩
  obtain ⟨LL, hLL⟩ : ∃ Y : ByteArray, bs (sizL z4 (n % 4200)) = Y := ⟨_, rfl⟩
  obtain ⟨L3, hL3⟩ : ∃ Y : ByteArray, bs z5 = Y := ⟨_, rfl⟩
  obtain ⟨BX, hBX⟩ : ∃ Y : ByteArray, bs (sealO (sizL z1 32) (sizL z2 12) z3 z4) = Y := ⟨_, rfl⟩
  rw [hA] at c1 q1
  rw [hB] at c2 q2
  rw [hE] at c3 q4 se
  rw [hP] at c4 q3 q4 sp
  rw [hKK] at q1 q4
  rw [hOO] at q2 q4
  rw [hLL] at q3 sl c5
  rw [hL3] at c5 s5
  rw [hBX] at q4 sb
  obtain ⟨ZE, hze, ce⟩ := edit_any ea el ep E hea hel (by omega) hep
  obtain ⟨ZB, hzb, cb⟩ := edit_any ea el ep BX hea hel (by omega) hep
  obtain ⟨nl, hnl⟩ : ∃ x, n % 4200 = x := ⟨_, rfl⟩
  rw [hnl] at q3 sl hm1 hm2 nm
  obtain ⟨w8, hw8⟩ : ∃ x, wh % 8 = x := ⟨_, rfl⟩
  have w81 : (wh : Int).tmod 8 = (w8 : Int) := by rw [Int.tmod_eq_emod_of_nonneg (by omega)]; omega
  have w82 : (wh : Int) % 8 = (w8 : Int) := by omega
  have w83 : w8 ≤ 7 := by omega
  have C1 := Lib.hid c1
  have C2 := Lib.hid c2
  have C3 := Lib.hid c3
  have C4 := Lib.hid c4
  have C5 := Lib.hid c5
  have Q1 := Lib.hid q1
  have Q2 := Lib.hid q2
  have Q3 := Lib.hid q3
  have Q4 := Lib.hid q4
  have CE := Lib.hid ce
  have CB := Lib.hid cb
  clear c1 c2 c3 c4 c5 q1 q2 q3 q4 ce cb hA hB hE hP hKK hOO hLL hL3 hBX hnl hw8 hl1 hl2 hl3 hl4 hl5 lk lo hD
  have e0 := cell_of_row _ _ 0 _ 35 (0, 0) (heap_alloc_new w (.cells #[.int .u16 (ea : Int), .int .u8 (el : Int), .string ep] 35))
  have e1 := cell_of_row _ _ 1 _ 35 (0, 0) (heap_alloc_new w (.cells #[.int .u16 (ea : Int), .int .u8 (el : Int), .string ep] 35))
  have e2 := cell_of_row _ _ 2 _ 35 (0, 0) (heap_alloc_new w (.cells #[.int .u16 (ea : Int), .int .u8 (el : Int), .string ep] 35))
  have zb0 : w.heap.size < (w.alloc (.cells #[.int .u16 (ea : Int), .int .u8 (el : Int), .string ep] 35)).heap.size := by simp
  have BW := Lib.hid ((Below.refl _ w).alloc (Nat.le_refl _) (.cells #[.int .u16 (ea : Int), .int .u8 (el : Int), .string ep] 35))
  go_enter Tryd.func4, Tryd.ntmps4
  go_wp2_with fail
  refine (worksQ_true _ K0.d).mono ?_
  generalize (w.alloc (.cells #[.int .u16 (ea : Int), .int .u8 (el : Int), .string ep] 35)) = W0 at e0 e1 e2 zb0 BW K0 ⊢
  rintro e W1 ⟨rfl, hb⟩
  have B1 := Lib.hid hb
  clear hb K0
  have ED : Hid (∀ wr, Below W0.heap.size W0 wr → wr.cell? ⟨w.heap.size, 0, none⟩ = some (.int .u16 (ea : Int)) ∧ wr.cell? ⟨w.heap.size, 1, none⟩ = some (.int .u8 (el : Int)) ∧ wr.cell? ⟨w.heap.size, 2, none⟩ = some (.string ep)) := Lib.hid fun wr hb =>
    ⟨(hb.cell (p := ⟨w.heap.size, 0, none⟩) zb0).trans e0, (hb.cell (p := ⟨w.heap.size, 1, none⟩) zb0).trans e1, (hb.cell (p := ⟨w.heap.size, 2, none⟩) zb0).trans e2⟩
  clear e0 e1 e2 zb0
  go_upto_region 6 with (first
    | (go_at_call 13; (first | (with_reducible refine (C1.out _).mono ?_) | (with_reducible refine (C2.out _).mono ?_) | (with_reducible refine (C3.out _).mono ?_) | (with_reducible refine (C4.out _).mono ?_)); rintro e V ⟨rfl, rfl⟩)
    | (go_at_call 14; (first
        | ((with_reducible refine (Q1.out _).mono ?_); rintro e W2 ⟨rfl, hb⟩; have B2 := Lib.hid (B1.out.trans (hb.mono B1.out.size)); clear hb)
        | ((with_reducible refine (Q2.out _).mono ?_); rintro e W3 ⟨rfl, hb⟩; have B3 := Lib.hid (B2.out.trans (hb.mono B2.out.size)); clear hb)
        | ((with_reducible refine (Q3.out _).mono ?_); rintro e W4 ⟨rfl, hb⟩; have B4 := Lib.hid (B3.out.trans (hb.mono B3.out.size)); clear hb))))
  clear B1 B2 B3
  go_cut [60] (fun a60 wx => (a60 = .bool true ∧ LL.size ≤ 4096 ∨ a60 = .bool false) ∧ Hid (Below W0.heap.size W0 wx))
  case first =>
    by_cases h96 : nl ≤ 4096
    · have h961 : (LL.size : Int) ≤ 4096 := by omega
      by_cases h8 : 0 < w8
      · have h81 : (0 : Int) < (w8 : Int) := by omega
        go_wp2_with fail
        go_meet
        exact ⟨.inl ⟨by first | rfl | simp [h81, h961], by omega⟩, B4⟩
      · have h81 : ¬ (0 : Int) < (w8 : Int) := by omega
        go_wp2_with fail
        go_meet
        exact ⟨.inr (by first | rfl | simp [h81]), B4⟩
    · have h961 : ¬ (LL.size : Int) ≤ 4096 := by omega
      go_wp2_with fail
      go_meet
      exact ⟨.inr (by first | rfl | simp [h961]), B4⟩
  case rest =>
  obtain ⟨h60, B40⟩ := hcut
  clear B4 C1 C2 C3 C4 Q1 Q2 Q3
  go_upto_if 60 with fail
  go_cut [17] (fun a17 wx => ∃ TT : ByteArray, TT.size ≤ 4200 ∧ a17 = .string TT ∧ Hid (Below W0.heap.size W0 wx))
  case first =>
    rcases h60 with ⟨rfl, h96⟩ | rfl
    · go_wp2_with (first | (go_at_call 13; (with_reducible refine (C5.out _).mono ?_); rintro e V ⟨rfl, rfl⟩))
      go_meet
      exact ⟨L3, by omega, rfl, B40⟩
    · go_wp2_with fail
      go_meet
      exact ⟨LL, by omega, rfl, B40⟩
  case rest =>
    obtain ⟨TT, sT, rfl, B5⟩ := hcut
    clear B40 h60 C5 s5
    go_upto_region 9 with (first
      | (go_at_call 18; (with_reducible refine (Q4.out _).mono ?_); rintro e W5 ⟨rfl, hb⟩; have B6 := Lib.hid (B5.out.trans (hb.mono B5.out.size)); clear hb))
    obtain ⟨x0, x1, x2⟩ := ED.out W5 B6.out
    clear B5 Q4
    go_wp2_with (first
      | (go_at_call 19; (with_reducible refine (CE.out _).mono ?_); rintro e W6 ⟨rfl, hb⟩; have B7 := Lib.hid (B6.out.trans (hb.mono B6.out.size)); clear hb))
    clear B6 x0 x1 x2 CE
    have HIX : Hid (∀ (j : Nat) (w : World), j < 5 → (Instr.index 39 (.agg #[.string A, .string B, .string E, .string P, .string KK, .string OO, .string E, .string P, .string KK, .string OO, .string ZE, .string P, .string KK, .string OO, .string E, .string TT, .string KK, .string OO, .string TT, .string P]) (.int .i64 (j : Int))).run Tryd.prog w = .ok (.agg #[.string (pq5 A KK KK KK KK j), .string (pq5 B OO OO OO OO j), .string (pq5 E E ZE E TT j), .string (pq5 P P P TT P j)]) w) := Lib.hid fun j w hj => idx39 A B E P KK OO ZE TT j w hj
    have HS2 : Hid (∀ j, (pq5 E E ZE E TT j).size ≤ 4200) := Lib.hid fun j => by unfold pq5; (repeat' split) <;> omega
    have HS3 : Hid (∀ j, (pq5 P P P TT P j).size ≤ 4200) := Lib.hid fun j => by unfold pq5; (repeat' split) <;> omega
    generalize (#[.string A, .string B, .string E, .string P, .string KK, .string OO, .string E, .string P, .string KK, .string OO, .string ZE, .string P, .string KK, .string OO, .string E, .string TT, .string KK, .string OO, .string TT, .string P] : Array Value) = AR at HIX ⊢
    generalize pq5 A KK KK KK KK = F0 at HIX
    generalize pq5 B OO OO OO OO = F1 at HIX
    generalize pq5 E E ZE E TT = F2 at HIX HS2
    generalize pq5 P P P TT P = F3 at HIX HS3
    go_loopw [96] (fun i wr => ∃ j : Nat, j ≤ 5 ∧ i = .int .i64 j ∧ Hid (Below W0.heap.size W0 wr)) (fun i _ => 5 - (intOf i).toNat)
    case atStart => exact ⟨0, Nat.zero_le _, rfl, B7⟩
    case round =>
      clear B7
      obtain ⟨j, hj, rfl, HB⟩ := hrel
      by_cases hlt : j < 5
      · have j5 : (j : Int) < 5 := by omega
        have hix := HIX.out j wr hlt
        have g2 := HS2.out j
        have g3 := HS3.out j
        generalize F0 j = a0 at hix
        generalize F1 j = a1 at hix
        generalize F2 j = a2 at hix g2
        generalize F3 j = a3 at hix g3
        go_upto_region 12 with fail
        have y0 := cell_of_row _ _ 0 _ 37 (0, 0) (heap_alloc_new wr (.cells #[.string a0, .string a1, .string a2, .string a3] 37))
        have y1 := cell_of_row _ _ 1 _ 37 (0, 0) (heap_alloc_new wr (.cells #[.string a0, .string a1, .string a2, .string a3] 37))
        have y2 := cell_of_row _ _ 2 _ 37 (0, 0) (heap_alloc_new wr (.cells #[.string a0, .string a1, .string a2, .string a3] 37))
        have y3 := cell_of_row _ _ 3 _ 37 (0, 0) (heap_alloc_new wr (.cells #[.string a0, .string a1, .string a2, .string a3] 37))
        have zb : wr.heap.size < (wr.alloc (.cells #[.string a0, .string a1, .string a2, .string a3] 37)).heap.size := by simp
        have B8 := Lib.hid (HB.out.alloc HB.out.size (.cells #[.string a0, .string a1, .string a2, .string a3] 37))
        generalize (wr.alloc (.cells #[.string a0, .string a1, .string a2, .string a3] 37)) = W7 at y0 y1 y2 y3 zb B8 ⊢
        generalize wr.heap.size = b7 at y0 y1 y2 y3 zb ⊢
        have YD : Hid (∀ wr, Below W7.heap.size W7 wr → wr.cell? ⟨b7, 0, none⟩ = some (.string a0) ∧ wr.cell? ⟨b7, 1, none⟩ = some (.string a1) ∧ wr.cell? ⟨b7, 2, none⟩ = some (.string a2) ∧ wr.cell? ⟨b7, 3, none⟩ = some (.string a3)) := Lib.hid fun wr hb =>
          ⟨(hb.cell (p := ⟨b7, 0, none⟩) zb).trans y0, (hb.cell (p := ⟨b7, 1, none⟩) zb).trans y1, (hb.cell (p := ⟨b7, 2, none⟩) zb).trans y2, (hb.cell (p := ⟨b7, 3, none⟩) zb).trans y3⟩
        clear HB hix zb y2 y3
        go_cut [21] from 97 to 210 (fun a21 wx => a21 = .bool (decide (a0.size = 32 ∧ a1.size = 12)) ∧ W7 = wx)
        case first =>
          as_aux_lemma =>
            by_cases h32 : a0.size = 32
            · have b1 : ((a0.size : Int) == 32) = true := by simp; omega
              by_cases h12 : a1.size = 12
              · have b2 : ((a1.size : Int) == 12) = true := by simp; omega
                go_wp2_with fail
                go_meet
                exact ⟨by rw [decide_eq_true (⟨h32, h12⟩ : a0.size = 32 ∧ a1.size = 12)], rfl⟩
              · have b2 : ((a1.size : Int) == 12) = false := by simp; omega
                go_wp2_with fail
                go_meet
                exact ⟨by rw [decide_eq_false (fun h : a0.size = 32 ∧ a1.size = 12 => h12 h.2)], rfl⟩
            · have b1 : ((a0.size : Int) == 32) = false := by simp; omega
              go_wp2_with fail
              go_meet
              exact ⟨by rw [decide_eq_false (fun h : a0.size = 32 ∧ a1.size = 12 => h32 h.1)], rfl⟩
        case rest =>
          obtain ⟨rfl, rfl⟩ := hcut
          have HG := Lib.hid (good_of a0 a1)
          have HR1 : Hid (decide (a0.size = 32 ∧ a1.size = 12) = true → a0.size = 32 ∧ a1.size = 12) := Lib.hid fun h => of_decide_eq_true h
          generalize decide (a0.size = 32 ∧ a1.size = 12) = R at HG HR1 ⊢
          clear y0 y1
          as_aux_lemma =>
            go_upto_block 2 with fail
            go_cut [22, 23] from 97 to 210 (fun a22 a23 wx => ∃ (no : Int) (WT : ByteArray), a22 = .int .i64 no ∧ a23 = .string WT ∧ WT.size ≤ 4200 ∧ Hid (Below W7.heap.size W7 wx) ∧ (R = false ∧ no = 2 ∧ WT = ⟨#[]⟩ ∨ R = true ∧ (4096 < a2.size ∨ 4096 < a3.size) ∧ no = 3 ∧ WT = ⟨#[]⟩ ∨ R = true ∧ a2.size ≤ 4096 ∧ a3.size ≤ 4096 ∧ no = 0 ∧ WT = bs (sealO a0.data.toList a1.data.toList a2.data.toList a3.data.toList)))
            case first =>
              as_aux_lemma =>
                obtain ⟨y0, y1, y2, y3⟩ := YD.out _ (Below.refl _ _)
                cases R
                · go_wp2_with fail
                  go_meet
                  exact ⟨2, ⟨#[]⟩, rfl, rfl, Nat.zero_le _, Lib.hid (Below.refl _ _), by simp⟩
                · obtain ⟨h32, h12⟩ := HR1.out rfl
                  by_cases h2 : 4096 < a2.size
                  · have h21 : (4096 : Int) < (a2.size : Int) := by omega
                    go_wp2_with fail
                    go_meet
                    exact ⟨3, ⟨#[]⟩, rfl, rfl, Nat.zero_le _, Lib.hid (Below.refl _ _), by simp [h2]⟩
                  · have h21 : ¬ (4096 : Int) < (a2.size : Int) := by omega
                    by_cases h3 : 4096 < a3.size
                    · have h31 : (4096 : Int) < (a3.size : Int) := by omega
                      go_wp2_with fail
                      go_meet
                      exact ⟨3, ⟨#[]⟩, rfl, rfl, Nat.zero_le _, Lib.hid (Below.refl _ _), by simp [h3]⟩
                    · have h31 : ¬ (4096 : Int) < (a3.size : Int) := by omega
                      have t1 := fun w => rseal a0.data.toList a1.data.toList a2.data.toList a3.data.toList w h32 h12 g2 g3
                      rw [bs_of, bs_of, bs_of, bs_of] at t1
                      have hsz : (bs (sealO a0.data.toList a1.data.toList a2.data.toList a3.data.toList)).size ≤ 4200 := by
                        rw [bs_size, sealO_length]; show a3.size + 16 ≤ 4200; omega
                      obtain ⟨WT, hWT⟩ : ∃ x, bs (sealO a0.data.toList a1.data.toList a2.data.toList a3.data.toList) = x := ⟨_, rfl⟩
                      rw [hWT] at t1 hsz
                      have T1 := Lib.hid t1
                      clear t1
                      go_wp2_with (first | (go_at_call 18; (with_reducible refine (T1.out _).mono ?_); rintro e V ⟨rfl, hb⟩))
                      go_meet
                      exact ⟨0, WT, rfl, rfl, hsz, Lib.hid hb, .inr (.inr ⟨by first | rfl | trivial, by omega, by omega, by first | rfl | trivial, hWT.symm⟩)⟩
            case rest =>
            obtain ⟨no, WT, rfl, rfl, hws, B9, hsw⟩ := hcut
            as_aux_lemma =>
              go_upto_region 19 with fail
              go_cut [24, 25] from 97 to 210 (fun a24 a25 wx => ∃ VS : ByteArray, a24 = .string VS ∧ a25 = .int .i64 no ∧ (no = 0 ∧ VS = WT ∨ no ≠ 0 ∧ VS = ⟨#[]⟩) ∧ Hid (Below W7.heap.size W7 wx))
              case first =>
                as_aux_lemma =>
                  obtain ⟨y0, y1, y2, y3⟩ := YD.out _ B9.out
                  rcases hsw with ⟨rfl, rfl, rfl⟩ | ⟨rfl, hbig, rfl, rfl⟩ | ⟨rfl, h2, h3, rfl, hWT⟩
                  · have T1 := Lib.hid fun w => seal_arg a0 a1 a2 a3 w HG.out
                    go_wp2_with (first
                      | (go_at_call 20; (with_reducible refine (T1.out _).mono ?_); rintro e V ⟨rfl, rfl⟩))
                    go_meet
                    exact ⟨⟨#[]⟩, rfl, rfl, by simp, B9⟩
                  · obtain ⟨h32, h12⟩ := HR1.out rfl
                    have t1 := fun w => seal_long a0.data.toList a1.data.toList a2 a3 w h32 h12 hbig
                    rw [bs_of, bs_of] at t1
                    have T1 := Lib.hid t1
                    clear t1
                    go_wp2_with (first
                      | (go_at_call 20; (with_reducible refine (T1.out _).mono ?_); rintro e V ⟨rfl, hb⟩))
                    go_meet
                    exact ⟨⟨#[]⟩, rfl, rfl, by simp, Lib.hid (B9.out.trans (hb.mono B9.out.size))⟩
                  · obtain ⟨h32, h12⟩ := HR1.out rfl
                    have t1 := fun w => seal_ok a0.data.toList a1.data.toList a2.data.toList a3.data.toList w h32 h12 h2 h3
                    rw [bs_of, bs_of, bs_of, bs_of, ← hWT] at t1
                    have T1 := Lib.hid t1
                    clear t1 hWT
                    go_wp2_with (first
                      | (go_at_call 20; (with_reducible refine (T1.out _).mono ?_); rintro e V ⟨rfl, hb⟩))
                    go_meet
                    exact ⟨WT, rfl, rfl, by simp, Lib.hid (B9.out.trans (hb.mono B9.out.size))⟩
              case rest =>
              obtain ⟨VS, rfl, rfl, hvs, B10⟩ := hcut
              clear B9 hsw
              as_aux_lemma =>
                go_upto_region 22 with (first | (go_at_call 17; (with_reducible refine (toldG no VS WT _ hvs).mono ?_); rintro e V ⟨rfl, rfl⟩))
                have B11 := Lib.hid B10.out.drew
                obtain ⟨y0, y1, y2, y3⟩ := YD.out _ B11.out
                obtain ⟨x0, x1, x2⟩ := ED.out _ (B8.out.trans (B11.out.mono B8.out.size))
                clear y0 y1 y2
                refine region_anyC (fun w' => w'.cell? ⟨b7, 3, none⟩ = some (.string a3) ∧ w'.cell? ⟨w.heap.size, 0, none⟩ = some (.int .u16 (ea : Int)) ∧ w'.cell? ⟨w.heap.size, 1, none⟩ = some (.int .u8 (el : Int)) ∧ w'.cell? ⟨w.heap.size, 2, none⟩ = some (.string ep)) (fun _ => True) [] (by kernel_rfl) ?_
                refine anyC_takeS (i := 0) (oi := ⟨some 150, _, _, _, _, _⟩) (v := _) rfl (by kernel_rfl) (by kernel_rfl) (by kernel_rfl) (by kernel_rfl) (fun _ _ _ h => h) (Or.inl ⟨by rfl, fun w' hw' => (by obtain ⟨k0, k1, k2, k3⟩ := hw'; go_simp; try with_reducible rfl)⟩) ⟨y3, x0, x1, x2⟩ (fun _ => trivial) ?_
                try simp only [Act.put, List.setIfInBounds_toArray, List.set_cons_zero, List.set_cons_succ]
                refine anyC_takeS (i := 1) (oi := ⟨some 151, _, _, _, _, _⟩) (v := _) rfl (by kernel_rfl) (by kernel_rfl) (by kernel_rfl) (by kernel_rfl) (fun _ _ _ h => h) (Or.inl ⟨by rfl, fun w' hw' => (by obtain ⟨k0, k1, k2, k3⟩ := hw'; go_simp; try with_reducible rfl)⟩) ⟨y3, x0, x1, x2⟩ (fun _ => trivial) ?_
                try simp only [Act.put, List.setIfInBounds_toArray, List.set_cons_zero, List.set_cons_succ]
                refine anyC_takeS (i := 2) (oi := ⟨some 152, _, _, _, _, _⟩) (v := _) rfl (by kernel_rfl) (by kernel_rfl) (by kernel_rfl) (by kernel_rfl) (fun _ _ _ h => h) (Or.inl ⟨by rfl, fun w' hw' => (by obtain ⟨k0, k1, k2, k3⟩ := hw'; go_simp; try with_reducible rfl)⟩) ⟨y3, x0, x1, x2⟩ (fun _ => trivial) ?_
                try simp only [Act.put, List.setIfInBounds_toArray, List.set_cons_zero, List.set_cons_succ]
                refine anyC_takeS (i := 3) (oi := ⟨some 153, _, _, _, _, _⟩) (v := _) rfl (by kernel_rfl) (by kernel_rfl) (by kernel_rfl) (by kernel_rfl) (fun _ _ _ h => h) (Or.inl ⟨by rfl, fun w' hw' => (by obtain ⟨k0, k1, k2, k3⟩ := hw'; go_simp; try with_reducible rfl)⟩) ⟨y3, x0, x1, x2⟩ (fun _ => trivial) ?_
                try simp only [Act.put, List.setIfInBounds_toArray, List.set_cons_zero, List.set_cons_succ]
                refine anyC_takeS (i := 4) (oi := ⟨some 154, _, _, _, _, _⟩) (v := _) rfl (by kernel_rfl) (by kernel_rfl) (by kernel_rfl) (by kernel_rfl) (fun _ _ _ h => h) (Or.inl ⟨by rfl, fun w' hw' => (by obtain ⟨k0, k1, k2, k3⟩ := hw'; go_simp; try with_reducible rfl)⟩) ⟨y3, x0, x1, x2⟩ (fun _ => trivial) ?_
                try simp only [Act.put, List.setIfInBounds_toArray, List.set_cons_zero, List.set_cons_succ]
                refine anyC_takeS (i := 6) (oi := ⟨some 156, _, _, _, _, _⟩) (v := _) rfl (by kernel_rfl) (by kernel_rfl) (by kernel_rfl) (by kernel_rfl) (fun _ _ _ h => h) (Or.inl ⟨by rfl, fun w' hw' => (by obtain ⟨k0, k1, k2, k3⟩ := hw'; go_simp; try with_reducible rfl)⟩) ⟨y3, x0, x1, x2⟩ (fun _ => trivial) ?_
                try simp only [Act.put, List.setIfInBounds_toArray, List.set_cons_zero, List.set_cons_succ]
                refine anyC_takeS (i := 8) (oi := ⟨some 158, _, _, _, _, _⟩) (v := _) rfl (by kernel_rfl) (by kernel_rfl) (by kernel_rfl) (by kernel_rfl) (fun _ _ _ h => h) (Or.inl ⟨by rfl, fun w' hw' => (by obtain ⟨k0, k1, k2, k3⟩ := hw'; go_simp; try with_reducible rfl)⟩) ⟨y3, x0, x1, x2⟩ (fun _ => trivial) ?_
                try simp only [Act.put, List.setIfInBounds_toArray, List.set_cons_zero, List.set_cons_succ]
                refine anyC_keep (i := 5) (o := ⟨some 155, _, _, _, _, _⟩) (by kernel_rfl) rfl (fun K hK => ?_)
                rw [if_pos (by rfl)]
                go_wp2_with (go_at_call 19; (with_reducible refine (CB.out _).mono ?_); rintro e V ⟨rfl, hb⟩)
                have B12 := Lib.hid (B11.out.trans (hb.mono B11.out.size))
                obtain ⟨_, _, _, v3⟩ := YD.out _ B12.out
                obtain ⟨u0, u1, u2⟩ := ED.out _ (B8.out.trans (B12.out.mono B8.out.size))
                refine hK.out _ _ ⟨⟨v3, u0, u1, u2⟩, fun _ => trivial⟩ ?_
                clear hK K hb B10 B11
                try simp only [Act.put, List.setIfInBounds_toArray, List.set_cons_zero, List.set_cons_succ]
                refine anyC_takeS (i := 7) (oi := ⟨some 157, _, _, _, _, _⟩) (v := _) rfl (by kernel_rfl) (by kernel_rfl) (by kernel_rfl) (by kernel_rfl) (fun _ _ _ h => h) (Or.inl ⟨by rfl, fun w' hw' => (by obtain ⟨k0, k1, k2, k3⟩ := hw'; go_simp; try with_reducible rfl)⟩) ⟨v3, u0, u1, u2⟩ (fun _ => trivial) ?_
                try simp only [Act.put, List.setIfInBounds_toArray, List.set_cons_zero, List.set_cons_succ]
                refine anyC_done (by kernel_rfl) ?_ _
                clear v3 u0 u1 u2 x0 x1 x2 y3
                as_aux_lemma =>
                  have HIB : Hid (∀ (q : Nat) (w : World), q < 4 → (Instr.index 37 (.agg #[.string a3, .string BX, .string ZB, .string WT]) (.int .i64 (q : Int))).run Tryd.prog w = .ok (.string (pq4 a3 BX ZB WT q)) w) := Lib.hid fun q w hq => idx37 a3 BX ZB WT q w hq
                  have HBS : Hid (∀ q, (pq4 a3 BX ZB WT q).size ≤ 4200) := Lib.hid fun q => by unfold pq4; (repeat' split) <;> omega
                  generalize (#[.string a3, .string BX, .string ZB, .string WT] : Array Value) = AB at HIB ⊢
                  generalize pq4 a3 BX ZB WT = PB at HIB HBS
                  go_wp2_with fail
                  go_loopw [158] (fun i wr => ∃ q : Nat, q ≤ 4 ∧ i = .int .i64 q ∧ Hid (Below W7.heap.size W7 wr)) (fun i _ => 4 - (intOf i).toNat)
                  case atStart => exact ⟨0, Nat.zero_le _, rfl, B12⟩
                  case round =>
                    clear B12
                    obtain ⟨q, hq, rfl, HB⟩ := hrel
                    by_cases hq4 : q < 4
                    · have q4 : (q : Int) < 4 := by omega
                      have hix := HIB.out q wr hq4
                      have gt := HBS.out q
                      generalize PB q = tb at hix gt
                      obtain ⟨y0, y1, y2, y3⟩ := YD.out _ HB.out
                      clear y3
                      as_aux_lemma =>
                        cases R
                        · have T1 := Lib.hid fun w => open_arg a0 a1 a2 tb w HG.out
                          as_aux_lemma =>
                            go_wp2_with (first
                              | (go_at_call 22; (with_reducible refine (T1.out _).mono ?_); rintro e V ⟨rfl, rfl⟩)
                              | (go_at_call 17; (with_reducible refine (toldE 2 _ _ (by decide)).mono ?_); rintro e V ⟨rfl, rfl⟩))
                            go_roundw
                            case rel => exact ⟨q + 1, by omega, by go_num, HB⟩
                            case measure => simp [intOf]; omega
                        · obtain ⟨h32, h12⟩ := HR1.out rfl
                          by_cases h2 : 4096 < a2.size
                          · have h21 : (4096 : Int) < (a2.size : Int) := by omega
                            have t1 := fun w => open_long a0.data.toList a1.data.toList a2 tb w h32 h12 (.inl h2)
                            rw [bs_of, bs_of] at t1
                            have T1 := Lib.hid t1
                            clear t1
                            as_aux_lemma =>
                              go_wp2_with (first
                                | (go_at_call 22; (with_reducible refine (T1.out _).mono ?_); rintro e V ⟨rfl, hb⟩)
                                | (go_at_call 17; (with_reducible refine (toldE 3 _ _ (by decide)).mono ?_); rintro e V ⟨rfl, rfl⟩))
                              go_roundw
                              case rel => exact ⟨q + 1, by omega, by go_num, Lib.hid (HB.out.trans (hb.mono HB.out.size))⟩
                              case measure => simp [intOf]; omega
                          · have h21 : ¬ (4096 : Int) < (a2.size : Int) := by omega
                            by_cases h3 : 4112 < tb.size
                            · have h31 : (4112 : Int) < (tb.size : Int) := by omega
                              have t1 := fun w => open_long a0.data.toList a1.data.toList a2 tb w h32 h12 (.inr h3)
                              rw [bs_of, bs_of] at t1
                              have T1 := Lib.hid t1
                              clear t1
                              as_aux_lemma =>
                                go_wp2_with (first
                                  | (go_at_call 22; (with_reducible refine (T1.out _).mono ?_); rintro e V ⟨rfl, hb⟩)
                                  | (go_at_call 17; (with_reducible refine (toldE 3 _ _ (by decide)).mono ?_); rintro e V ⟨rfl, rfl⟩))
                                go_roundw
                                case rel => exact ⟨q + 1, by omega, by go_num, Lib.hid (HB.out.trans (hb.mono HB.out.size))⟩
                                case measure => simp [intOf]; omega
                            · have h31 : ¬ (4112 : Int) < (tb.size : Int) := by omega
                              by_cases h4 : tb.size < 16
                              · have h41 : (tb.size : Int) < 16 := by omega
                                have t1 := fun w => open_short a0.data.toList a1.data.toList a2 tb w h32 h12 (by omega) h4
                                rw [bs_of, bs_of] at t1
                                have T1 := Lib.hid t1
                                clear t1
                                as_aux_lemma =>
                                  go_wp2_with (first
                                    | (go_at_call 22; (with_reducible refine (T1.out _).mono ?_); rintro e V ⟨rfl, hb⟩)
                                    | (go_at_call 17; (with_reducible refine (toldE 7 _ _ (by decide)).mono ?_); rintro e V ⟨rfl, rfl⟩))
                                  go_roundw
                                  case rel => exact ⟨q + 1, by omega, by go_num, Lib.hid (HB.out.trans (hb.mono HB.out.size))⟩
                                  case measure => simp [intOf]; omega
                              · have h41 : ¬ (tb.size : Int) < 16 := by omega
                                obtain ⟨h, t, ht1, ht2, ht3⟩ : ∃ h t : List UInt8, tb.data.toList = h ++ t ∧ t.length = 16 ∧ h.length + 16 = tb.size := ⟨tb.data.toList.take (tb.size - 16), tb.data.toList.drop (tb.size - 16), (List.take_append_drop _ _).symm, by rw [List.length_drop]; show tb.size - (tb.size - 16) = 16; omega, by rw [List.length_take]; show min (tb.size - 16) tb.size + 16 = tb.size; omega⟩
                                obtain ⟨b, hb⟩ : ∃ b, b = decide (t = tagO (bkO a0.data.toList a1.data.toList) (covO a2.data.toList h)) := ⟨_, rfl⟩
                                have t1 := fun w => ropen a0.data.toList a1.data.toList a2.data.toList h t w h32 h12 g2 (by omega) ht2 b hb
                                have t2 := fun w => open_raw a0.data.toList a1.data.toList a2.data.toList h t w h32 h12 (by show a2.size ≤ 4096; omega) (by omega) ht2 b hb
                                rw [bs_of, bs_of, bs_of, ← ht1, bs_of] at t1 t2
                                generalize bs (appO a0.data.toList a1.data.toList 1 h) = AP at t1 t2
                                clear hb ht1 ht2 ht3
                                cases b
                                · have T1 : Hid (∀ w, Calls Tryd.prog 21 #[.string a0, .string a1, .string a2, .string tb] w fun e w' => e = .returned (.tuple #[.string ⟨#[]⟩, .bool false]) ∧ Below w.heap.size w w') := Lib.hid t1
                                  have T2 : Hid (∀ w, Calls Tryd.prog 22 #[.string a0, .string a1, .string a2, .string tb] w fun e w' => e = .returned (.tuple #[.string ⟨#[]⟩, .int .i64 9]) ∧ Below w.heap.size w w') := Lib.hid t2
                                  clear t1 t2
                                  as_aux_lemma =>
                                    go_wp2_with (first
                                      | (go_at_call 21; (with_reducible refine (T1.out _).mono ?_); rintro e V ⟨rfl, hb⟩; have HB2 := Lib.hid (HB.out.trans (hb.mono HB.out.size)); clear hb; obtain ⟨y20, y21, y22, _⟩ := YD.out _ HB2.out)
                                      | (go_at_call 22; (with_reducible refine (T2.out _).mono ?_); rintro e V2 ⟨rfl, hb⟩; have HB3 := Lib.hid (HB2.out.trans (hb.mono HB2.out.size)); clear hb)
                                      | (go_at_call 17; (with_reducible refine (toldE 9 _ _ (by decide)).mono ?_); rintro e V ⟨rfl, rfl⟩))
                                    go_roundw
                                    case rel => exact ⟨q + 1, by omega, by go_num, HB3⟩
                                    case measure => simp [intOf]; omega
                                · have T1 : Hid (∀ w, Calls Tryd.prog 21 #[.string a0, .string a1, .string a2, .string tb] w fun e w' => e = .returned (.tuple #[.string AP, .bool true]) ∧ Below w.heap.size w w') := Lib.hid t1
                                  have T2 : Hid (∀ w, Calls Tryd.prog 22 #[.string a0, .string a1, .string a2, .string tb] w fun e w' => e = .returned (.tuple #[.string AP, .int .i64 0]) ∧ Below w.heap.size w w') := Lib.hid t2
                                  clear t1 t2
                                  as_aux_lemma =>
                                    go_wp2_with (first
                                      | (go_at_call 21; (with_reducible refine (T1.out _).mono ?_); rintro e V ⟨rfl, hb⟩; have HB2 := Lib.hid (HB.out.trans (hb.mono HB.out.size)); clear hb; obtain ⟨y20, y21, y22, _⟩ := YD.out _ HB2.out)
                                      | (go_at_call 22; (with_reducible refine (T2.out _).mono ?_); rintro e V2 ⟨rfl, hb⟩; have HB3 := Lib.hid (HB2.out.trans (hb.mono HB2.out.size)); clear hb)
                                      | (go_at_call 17; (with_reducible refine (toldS _ _).mono ?_); rintro e V ⟨rfl, rfl⟩))
                                    go_roundw
                                    case rel => exact ⟨q + 1, by omega, by go_num, HB3⟩
                                    case measure => simp [intOf]; omega
                    · have q4 : ¬ (q : Int) < 4 := by omega
                      have BF := Lib.hid (B8.out.trans (HB.out.mono B8.out.size))
                      go_wp2
                      go_roundw
                      case rel => exact ⟨j + 1, by omega, by go_num, BF⟩
                      case measure => simp [intOf]; omega
      · have j5 : ¬ (j : Int) < 5 := by omega
        go_wp2
        go_ret
        exact ⟨rfl, BW.out.trans (HB.out.mono BW.out.size)⟩
end
end Go.Proofs.YtnfefkcfifnjnaaDoor
