/- Contracts of wide's plus and cut. -/
import Derived.Test.YtbadiljligcenaaDoorFB
import Derived.Test.YtbadiljligcenaaDoorW
import Derived.Laws.Externs
namespace Go.Proofs.YtbadiljligcenaaDoor
open Go.RowKit Go.ChangeShapes
def two64 : Nat := 18446744073709551616
/-- A number below 2^128 in two words. -/
def wC (v : Nat) : Array Value := #[ld (v / 18446744073709551616), ld (v % 18446744073709551616)]
theorem add64_run (x y c q d : Nat) (hc : c ≤ 1) (hq : (x + y + c) % 18446744073709551616 = q) (hd : (x + y + c) / 18446744073709551616 = d) (wx : World) :
    (callFunc 67 #[.int .u64 (x : Int), .int .u64 (y : Int), .int .u64 (c : Int)]).run Tryd.prog wx = .ok (.value (.tuple #[.int .u64 (q : Int), .int .u64 (d : Int)])) wx := by
  rw [run_callFunc_extern Tryd.func67 (by kernel_rfl) (by kernel_rfl) (by kernel_rfl) (e := add64Entry) (by kernel_rfl), run_add64 (x : Int) (y : Int) (c : Int) (by omega) (by omega) (by omega) (by omega)]
  have e1 : ((x : Int) + (y : Int) + (c : Int)) % 18446744073709551616 = (q : Int) := by omega
  have e2 : ((x : Int) + (y : Int) + (c : Int)) / 18446744073709551616 = (d : Int) := by omega
  rw [e1, e2]; rfl
set_option maxRecDepth 100000 in
set_option maxHeartbeats 4000000 in
theorem wplus_any (A B : Nat) (w : World) (h : A + B < 340282366920938463463374607431768211456) :
    Calls Tryd.prog 64 #[.agg (wC A), .agg (wC B)] w fun e w' => e = .returned (.agg (wC (A + B))) ∧ Below w.heap.size w w' := by
  unfold wC
  obtain ⟨h1, e1⟩ : ∃ x, A / 18446744073709551616 = x := ⟨_, rfl⟩
  obtain ⟨l1, e2⟩ : ∃ x, A % 18446744073709551616 = x := ⟨_, rfl⟩
  obtain ⟨h2, e3⟩ : ∃ x, B / 18446744073709551616 = x := ⟨_, rfl⟩
  obtain ⟨l2, e4⟩ : ∃ x, B % 18446744073709551616 = x := ⟨_, rfl⟩
  obtain ⟨h3, e5⟩ : ∃ x, (A + B) / 18446744073709551616 = x := ⟨_, rfl⟩
  obtain ⟨l3, e6⟩ : ∃ x, (A + B) % 18446744073709551616 = x := ⟨_, rfl⟩
  obtain ⟨c, e7⟩ : ∃ x, (l1 + l2) / 18446744073709551616 = x := ⟨_, rfl⟩
  have a1 : ∀ wx, (callFunc 67 #[.int .u64 (l1 : Int), .int .u64 (l2 : Int), .int .u64 0]).run Tryd.prog wx = .ok (.value (.tuple #[.int .u64 (l3 : Int), .int .u64 (c : Int)])) wx := fun wx => add64_run l1 l2 0 l3 c (by decide) (by omega) (by omega) wx
  have a2 : ∀ wx, (callFunc 67 #[.int .u64 (h1 : Int), .int .u64 (h2 : Int), .int .u64 (c : Int)]).run Tryd.prog wx = .ok (.value (.tuple #[.int .u64 (h3 : Int), .int .u64 0])) wx := fun wx => add64_run h1 h2 c h3 0 (by omega) (by omega) (by omega) wx
  rw [e1, e2, e3, e4, e5, e6]
  clear e1 e2 e3 e4 e5 e6 e7 h
  go_enter Tryd.func64, Tryd.ntmps64
  go_wp2
  exact bodyPost_ret (v := .agg #[ld h3, ld l3]) (results_cell_row (p := 4) (ty := 96) Tryd.results64 _ _ (w.heap.size + 1 + 1) 96 _ (0, 0) _ rfl (by rw [show w.heap.size + 1 + 1 = ((w.alloc (Obj.cells #[ld h1, ld l1] 96)).alloc (Obj.cells #[ld h2, ld l2] 96)).heap.size by simp]; exact heap_alloc_new _ _) Tryd.underlying96 rfl (by kernel_rfl)) rfl ⟨rfl, by go_grown⟩
theorem u64_sum (a b : Nat) (k : Nat) (hb : b < 2 ^ k) (h : a * 2 ^ k + b < 2 ^ 64) : bits .or .u64 ((a * 2 ^ k : Nat) : Int) (b : Int) = ((a * 2 ^ k + b : Nat) : Int) := by
  rw [u64_or (by omega) (by omega), Nat.mul_comm, ← Nat.two_pow_add_eq_or_of_lt hb]
set_option maxRecDepth 100000 in
set_option maxHeartbeats 4000000 in
theorem wcut_any (A : Nat) (w : World) (h : A < 41538374868278621028243970633760768) :
    Calls Tryd.prog 65 #[.agg (wC A)] w fun e w' => e = .returned (.tuple #[ld (A % 2251799813685248), ld (A / 2251799813685248)]) ∧ Below w.heap.size w w' := by
  unfold wC
  obtain ⟨h1, e1⟩ : ∃ x, A / 18446744073709551616 = x := ⟨_, rfl⟩
  obtain ⟨l1, e2⟩ : ∃ x, A % 18446744073709551616 = x := ⟨_, rfl⟩
  obtain ⟨r, e3⟩ : ∃ x, A % 2251799813685248 = x := ⟨_, rfl⟩
  obtain ⟨o, e4⟩ : ∃ x, A / 2251799813685248 = x := ⟨_, rfl⟩
  obtain ⟨t, e5⟩ : ∃ x, l1 / 2251799813685248 = x := ⟨_, rfl⟩
  obtain ⟨s, e6⟩ : ∃ x, h1 * 2 ^ 13 = x := ⟨_, rfl⟩
  have b1 : l1 < 18446744073709551616 := by omega
  have m1 : bits .and .u64 (l1 : Int) 2251799813685247 = (r : Int) := by rw [u64_mask (by omega)]; congr 1; omega
  have m2 : (h1 : Int) * 2 ^ 13 % 18446744073709551616 = (s : Int) := by omega
  have m3 : (h1 : Int) * 2 ^ 13 = (s : Int) := by omega
  have m4 : (l1 : Int) / 2 ^ 51 = (t : Int) := by omega
  have m5 : bits .or .u64 (s : Int) (t : Int) = (o : Int) := by
    rw [← e6, u64_sum h1 t 13 (by omega) (by omega)]; congr 1; omega
  have m6 : IntKind.u64.wrap (s : Int) = (s : Int) := u64_back (by omega)
  have m7 : (h1 : Int) * 8192 = (s : Int) := by omega
  have m8 : (l1 : Int) / 2251799813685248 = (t : Int) := by omega
  have x0 : ((w.alloc (.cells #[.int .u64 (h1 : Int), .int .u64 (l1 : Int)] 96)).drew).cell? ⟨w.heap.size, 0, none⟩ = some (.int .u64 (h1 : Int)) := cell_of_row _ _ 0 _ 96 (0, 0) (heap_alloc_new w _)
  have x1 : ((w.alloc (.cells #[.int .u64 (h1 : Int), .int .u64 (l1 : Int)] 96)).drew).cell? ⟨w.heap.size, 1, none⟩ = some (.int .u64 (l1 : Int)) := cell_of_row _ _ 1 _ 96 (0, 0) (heap_alloc_new w _)
  rw [e1, e2, e3, e4]
  clear e1 e2 e3 e4 e5 e6 h
  go_enter Tryd.func65, Tryd.ntmps65
  go_wp2_with fail
  refine region_anyC (fun w' => w'.cell? ⟨w.heap.size, 0, none⟩ = some (.int .u64 (h1 : Int)) ∧ w'.cell? ⟨w.heap.size, 1, none⟩ = some (.int .u64 (l1 : Int))) (fun _ => True) [] (by kernel_rfl) ?_
  refine anyC_takeS (i := 0) (oi := ⟨some 4, _, _, _, _, _⟩) (v := _) rfl (by kernel_rfl) (by kernel_rfl) (by kernel_rfl) (by kernel_rfl) (fun _ _ _ h => h) (Or.inl ⟨by rfl, fun w' hw' => (by obtain ⟨k1, k2⟩ := hw'; go_simp; try with_reducible rfl)⟩) ⟨x0, x1⟩ (fun _ => trivial) ?_
  try simp only [Act.put, List.setIfInBounds_toArray, List.set_cons_zero, List.set_cons_succ]
  refine anyC_takeS (i := 1) (oi := ⟨some 5, _, _, _, _, _⟩) (v := _) rfl (by kernel_rfl) (by kernel_rfl) (by kernel_rfl) (by kernel_rfl) (fun _ _ _ h => h) (Or.inl ⟨by rfl, fun w' hw' => (by obtain ⟨k1, k2⟩ := hw'; go_simp; try with_reducible rfl)⟩) ⟨x0, x1⟩ (fun _ => trivial) ?_
  try simp only [Act.put, List.setIfInBounds_toArray, List.set_cons_zero, List.set_cons_succ]
  refine anyC_takeS (i := 2) (oi := ⟨some 6, _, _, _, _, _⟩) (v := _) rfl (by kernel_rfl) (by kernel_rfl) (by kernel_rfl) (by kernel_rfl) (fun _ _ _ h => h) (Or.inl ⟨by rfl, fun w' hw' => (by obtain ⟨k1, k2⟩ := hw'; go_simp; try with_reducible rfl)⟩) ⟨x0, x1⟩ (fun _ => trivial) ?_
  try simp only [Act.put, List.setIfInBounds_toArray, List.set_cons_zero, List.set_cons_succ]
  refine anyC_takeS (i := 3) (oi := ⟨some 7, _, _, _, _, _⟩) (v := _) rfl (by kernel_rfl) (by kernel_rfl) (by kernel_rfl) (by kernel_rfl) (fun _ _ _ h => h) (Or.inl ⟨by rfl, fun w' hw' => (by obtain ⟨k1, k2⟩ := hw'; go_simp; try with_reducible rfl)⟩) ⟨x0, x1⟩ (fun _ => trivial) ?_
  try simp only [Act.put, List.setIfInBounds_toArray, List.set_cons_zero, List.set_cons_succ]
  refine anyC_takeS (i := 4) (oi := ⟨some 8, _, _, _, _, _⟩) (v := _) rfl (by kernel_rfl) (by kernel_rfl) (by kernel_rfl) (by kernel_rfl) (fun _ _ _ h => h) (Or.inl ⟨by rfl, fun w' hw' => (by obtain ⟨k1, k2⟩ := hw'; go_simp; try with_reducible rfl)⟩) ⟨x0, x1⟩ (fun _ => trivial) ?_
  try simp only [Act.put, List.setIfInBounds_toArray, List.set_cons_zero, List.set_cons_succ]
  refine anyC_takeS (i := 5) (oi := ⟨some 9, _, _, _, _, _⟩) (v := _) rfl (by kernel_rfl) (by kernel_rfl) (by kernel_rfl) (by kernel_rfl) (fun _ _ _ h => h) (Or.inl ⟨by rfl, fun w' hw' => (by obtain ⟨k1, k2⟩ := hw'; go_simp; try with_reducible rfl)⟩) ⟨x0, x1⟩ (fun _ => trivial) ?_
  try simp only [Act.put, List.setIfInBounds_toArray, List.set_cons_zero, List.set_cons_succ]
  refine anyC_takeS (i := 6) (oi := ⟨some 10, _, _, _, _, _⟩) (v := _) rfl (by kernel_rfl) (by kernel_rfl) (by kernel_rfl) (by kernel_rfl) (fun _ _ _ h => h) (Or.inl ⟨by rfl, fun w' hw' => (by obtain ⟨k1, k2⟩ := hw'; go_simp; try with_reducible rfl)⟩) ⟨x0, x1⟩ (fun _ => trivial) ?_
  try simp only [Act.put, List.setIfInBounds_toArray, List.set_cons_zero, List.set_cons_succ]
  refine anyC_takeS (i := 7) (oi := ⟨some 11, _, _, _, _, _⟩) (v := _) rfl (by kernel_rfl) (by kernel_rfl) (by kernel_rfl) (by kernel_rfl) (fun _ _ _ h => h) (Or.inl ⟨by rfl, fun w' hw' => (by obtain ⟨k1, k2⟩ := hw'; go_simp; try with_reducible rfl)⟩) ⟨x0, x1⟩ (fun _ => trivial) ?_
  try simp only [Act.put, List.setIfInBounds_toArray, List.set_cons_zero, List.set_cons_succ]
  refine anyC_takeS (i := 8) (oi := ⟨some 12, _, _, _, _, _⟩) (v := _) rfl (by kernel_rfl) (by kernel_rfl) (by kernel_rfl) (by kernel_rfl) (fun _ _ _ h => h) (Or.inl ⟨by rfl, fun w' hw' => (by obtain ⟨k1, k2⟩ := hw'; go_simp; try with_reducible rfl)⟩) ⟨x0, x1⟩ (fun _ => trivial) ?_
  try simp only [Act.put, List.setIfInBounds_toArray, List.set_cons_zero, List.set_cons_succ]
  refine anyC_takeS (i := 9) (oi := ⟨some 13, _, _, _, _, _⟩) (v := _) rfl (by kernel_rfl) (by kernel_rfl) (by kernel_rfl) (by kernel_rfl) (fun _ _ _ h => h) (Or.inl ⟨by rfl, fun w' hw' => (by obtain ⟨k1, k2⟩ := hw'; go_simp; try with_reducible rfl)⟩) ⟨x0, x1⟩ (fun _ => trivial) ?_
  try simp only [Act.put, List.setIfInBounds_toArray, List.set_cons_zero, List.set_cons_succ]
  refine anyC_takeS (i := 10) (oi := ⟨some 2, _, _, _, _, _⟩) (v := _) rfl (by kernel_rfl) (by kernel_rfl) (by kernel_rfl) (by kernel_rfl) (fun _ _ _ h => h) (Or.inl ⟨by rfl, fun w' hw' => (by obtain ⟨k1, k2⟩ := hw'; go_simp; try with_reducible rfl)⟩) ⟨x0, x1⟩ (fun _ => trivial) ?_
  try simp only [Act.put, List.setIfInBounds_toArray, List.set_cons_zero, List.set_cons_succ]
  refine anyC_takeS (i := 11) (oi := ⟨some 3, _, _, _, _, _⟩) (v := _) rfl (by kernel_rfl) (by kernel_rfl) (by kernel_rfl) (by kernel_rfl) (fun _ _ _ h => h) (Or.inl ⟨by rfl, fun w' hw' => (by obtain ⟨k1, k2⟩ := hw'; go_simp; try with_reducible rfl)⟩) ⟨x0, x1⟩ (fun _ => trivial) ?_
  try simp only [Act.put, List.setIfInBounds_toArray, List.set_cons_zero, List.set_cons_succ]
  refine anyC_done (by kernel_rfl) ?_ _
  go_wp2
  go_ret2
  exact ⟨rfl, ((Below.refl _ w).alloc (Nat.le_refl _) _).drew⟩
end Go.Proofs.YtbadiljligcenaaDoor
