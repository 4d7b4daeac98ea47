/- Contracts of takes, counts and skips, out of what Take, Uint and Skip return. -/
import Derived.Test.YtebaagmbnbbflaaDoorE
import Derived.Deep.RegionHeld3
namespace Go.Proofs.YtebaagmbnbbflaaDoor
open Go.RowKit Go.ChangeShapes

set_option maxHeartbeats 400000 in
theorem at_new (s : ByteArray) (a : Int) (w : World) :
    Calls Tryd.prog 39 #[.string s, .int .i64 a] w fun e w' => e = .returned (.agg #[.string s, .int .i64 a]) ∧ w' = w.alloc (.cells #[.string s, .int .i64 a] 23) := by
  go_enter Tryd.func39, Tryd.ntmps39
  go_wp2
  go_returns
  exact ⟨rfl, rfl⟩

set_option maxRecDepth 100000 in
set_option maxHeartbeats 1000000 in
theorem takes_ok (s : ByteArray) (a n p : Int) (want : ByteArray) (w : World)
    (hT : ∀ w : World, Calls Tryd.prog 15 #[.agg #[.string s, .int .i64 a], .int .i64 n] w fun e w' => e = .returned (.tuple #[.string want, .agg #[.string s, .int .i64 p], .int .i64 0]) ∧ Below w.heap.size w w') :
    Calls Tryd.prog 38 #[.agg #[.string s, .int .i64 a], .int .i64 n, .string want, .int .i64 p, .int .i64 0] w fun e w' => e = .returned (.bool true) ∧ Below w.heap.size w w' := by
  have HT := Lib.hid hT
  clear hT
  go_enter Tryd.func38, Tryd.ntmps38
  go_wp2_with (first | (go_at_call 15; refine (HT.out _).mono ?_; rintro e w1 ⟨rfl, hbw1⟩; obtain ⟨hcw1, hfw1⟩ := bcell hbw1; have hzw1 := hbw1.size; (try simp at hzw1); have hl0w1 : w.heap.size < w1.heap.size := (by omega); have hBw1 : Below w.heap.size w w1 := Below.trans (by go_grown) (hbw1.mono (by go_size)); clear hbw1))
  have c1 : (w1.alloc (Obj.cells #[.string s, .int .i64 p] 23)).cell? ⟨w.heap.size, 0, none⟩ = some (.string s) := by simp [*, World.cell?_alloc_some]
  have c2 : (w1.alloc (Obj.cells #[.string s, .int .i64 p] 23)).cell? ⟨w.heap.size, 1, none⟩ = some (.int .i64 a) := by simp [*, World.cell?_alloc_some]
  have c3 : (w1.alloc (Obj.cells #[.string s, .int .i64 p] 23)).cell? ⟨w1.heap.size, 0, none⟩ = some (.string s) := by simp
  have c4 : (w1.alloc (Obj.cells #[.string s, .int .i64 p] 23)).cell? ⟨w1.heap.size, 1, none⟩ = some (.int .i64 p) := by simp
  have hB : Below w.heap.size w (w1.alloc (Obj.cells #[.string s, .int .i64 p] 23)) := by go_grown
  have hL := hB.size
  clear hcw1 hfw1 hBw1
  generalize (w1.alloc (Obj.cells #[.string s, .int .i64 p] 23)) = w2 at c1 c2 c3 c4 hB hL ⊢
  go_region_held3 (fun w' => (w'.cell? ⟨w.heap.size, 0, none⟩ = some (.string s) ∧ w'.cell? ⟨w.heap.size, 1, none⟩ = some (.int .i64 a)) ∧ (w'.cell? ⟨w1.heap.size, 0, none⟩ = some (.string s) ∧ w'.cell? ⟨w1.heap.size, 1, none⟩ = some (.int .i64 p))) (go_keep)
    (first | (go_at_call 39; refine (at_new s p _).mono ?_; rintro e w3 ⟨rfl, rfl⟩))
  all_goals go_wp2
  all_goals go_ret
  all_goals exact ⟨ret_b (by simp), by go_grown⟩

set_option maxRecDepth 100000 in
set_option maxHeartbeats 1000000 in
theorem takes_no (s : ByteArray) (a n p : Int) (want : ByteArray) (w : World) (no : Int) (hno : no ≠ 0)
    (hT : ∀ w : World, Calls Tryd.prog 15 #[.agg #[.string s, .int .i64 a], .int .i64 n] w fun e w' => e = .returned (.tuple #[.string ByteArray.empty, .agg #[.string ByteArray.empty, .int .i64 0], .int .i64 no]) ∧ Below w.heap.size w w') :
    Calls Tryd.prog 38 #[.agg #[.string s, .int .i64 a], .int .i64 n, .string want, .int .i64 p, .int .i64 no] w fun e w' => e = .returned (.bool true) ∧ Below w.heap.size w w' := by
  have HT := Lib.hid hT
  have b1 : (no == 0) = false := by simp [hno]
  have b2 : (no != 0) = true := by simp [hno]
  clear hT hno
  go_enter Tryd.func38, Tryd.ntmps38
  go_wp2_with (first | (go_at_call 15; refine (HT.out _).mono ?_; rintro e w1 ⟨rfl, hbw1⟩; obtain ⟨hcw1, hfw1⟩ := bcell hbw1; have hzw1 := hbw1.size; (try simp at hzw1); have hl0w1 : w.heap.size < w1.heap.size := (by omega); have hBw1 : Below w.heap.size w w1 := Below.trans (by go_grown) (hbw1.mono (by go_size)); clear hbw1))
  all_goals go_ret
  all_goals exact ⟨ret_b (by first | rfl | simp), by go_grown⟩

set_option maxRecDepth 100000 in
set_option maxHeartbeats 1000000 in
theorem counts_ok (s : ByteArray) (a n p : Int) (want : Int) (w : World)
    (hT : ∀ w : World, Calls Tryd.prog 16 #[.agg #[.string s, .int .i64 a], .int .i64 n] w fun e w' => e = .returned (.tuple #[.int .i64 want, .agg #[.string s, .int .i64 p], .int .i64 0]) ∧ Below w.heap.size w w') :
    Calls Tryd.prog 40 #[.agg #[.string s, .int .i64 a], .int .i64 n, .int .i64 want, .int .i64 p, .int .i64 0] w fun e w' => e = .returned (.bool true) ∧ Below w.heap.size w w' := by
  have HT := Lib.hid hT
  clear hT
  go_enter Tryd.func40, Tryd.ntmps40
  go_wp2_with (first | (go_at_call 16; refine (HT.out _).mono ?_; rintro e w1 ⟨rfl, hbw1⟩; obtain ⟨hcw1, hfw1⟩ := bcell hbw1; have hzw1 := hbw1.size; (try simp at hzw1); have hl0w1 : w.heap.size < w1.heap.size := (by omega); have hBw1 : Below w.heap.size w w1 := Below.trans (by go_grown) (hbw1.mono (by go_size)); clear hbw1))
  have c1 : (w1.alloc (Obj.cells #[.string s, .int .i64 p] 23)).cell? ⟨w.heap.size, 0, none⟩ = some (.string s) := by simp [*, World.cell?_alloc_some]
  have c2 : (w1.alloc (Obj.cells #[.string s, .int .i64 p] 23)).cell? ⟨w.heap.size, 1, none⟩ = some (.int .i64 a) := by simp [*, World.cell?_alloc_some]
  have c3 : (w1.alloc (Obj.cells #[.string s, .int .i64 p] 23)).cell? ⟨w1.heap.size, 0, none⟩ = some (.string s) := by simp
  have c4 : (w1.alloc (Obj.cells #[.string s, .int .i64 p] 23)).cell? ⟨w1.heap.size, 1, none⟩ = some (.int .i64 p) := by simp
  have hB : Below w.heap.size w (w1.alloc (Obj.cells #[.string s, .int .i64 p] 23)) := by go_grown
  have hL := hB.size
  clear hcw1 hfw1 hBw1
  generalize (w1.alloc (Obj.cells #[.string s, .int .i64 p] 23)) = w2 at c1 c2 c3 c4 hB hL ⊢
  go_region_held3 (fun w' => (w'.cell? ⟨w.heap.size, 0, none⟩ = some (.string s) ∧ w'.cell? ⟨w.heap.size, 1, none⟩ = some (.int .i64 a)) ∧ (w'.cell? ⟨w1.heap.size, 0, none⟩ = some (.string s) ∧ w'.cell? ⟨w1.heap.size, 1, none⟩ = some (.int .i64 p))) (go_keep)
    (first | (go_at_call 39; refine (at_new s p _).mono ?_; rintro e w3 ⟨rfl, rfl⟩))
  all_goals go_wp2
  all_goals go_ret
  all_goals exact ⟨ret_b (by simp), by go_grown⟩

set_option maxRecDepth 100000 in
set_option maxHeartbeats 1000000 in
theorem counts_no (s : ByteArray) (a n p : Int) (want : Int) (w : World) (no : Int) (hno : no ≠ 0)
    (hT : ∀ w : World, Calls Tryd.prog 16 #[.agg #[.string s, .int .i64 a], .int .i64 n] w fun e w' => e = .returned (.tuple #[.int .i64 0, .agg #[.string ByteArray.empty, .int .i64 0], .int .i64 no]) ∧ Below w.heap.size w w') :
    Calls Tryd.prog 40 #[.agg #[.string s, .int .i64 a], .int .i64 n, .int .i64 want, .int .i64 p, .int .i64 no] w fun e w' => e = .returned (.bool true) ∧ Below w.heap.size w w' := by
  have HT := Lib.hid hT
  have b1 : (no == 0) = false := by simp [hno]
  have b2 : (no != 0) = true := by simp [hno]
  clear hT hno
  go_enter Tryd.func40, Tryd.ntmps40
  go_wp2_with (first | (go_at_call 16; refine (HT.out _).mono ?_; rintro e w1 ⟨rfl, hbw1⟩; obtain ⟨hcw1, hfw1⟩ := bcell hbw1; have hzw1 := hbw1.size; (try simp at hzw1); have hl0w1 : w.heap.size < w1.heap.size := (by omega); have hBw1 : Below w.heap.size w w1 := Below.trans (by go_grown) (hbw1.mono (by go_size)); clear hbw1))
  all_goals go_ret
  all_goals exact ⟨ret_b (by first | rfl | simp), by go_grown⟩

set_option maxRecDepth 100000 in
set_option maxHeartbeats 1000000 in
theorem skips_ok (s : ByteArray) (a n p : Int) (w : World)
    (hT : ∀ w : World, Calls Tryd.prog 17 #[.agg #[.string s, .int .i64 a], .int .i64 n] w fun e w' => e = .returned (.tuple #[.agg #[.string s, .int .i64 p], .int .i64 0]) ∧ Below w.heap.size w w') :
    Calls Tryd.prog 41 #[.agg #[.string s, .int .i64 a], .int .i64 n, .int .i64 p, .int .i64 0] w fun e w' => e = .returned (.bool true) ∧ Below w.heap.size w w' := by
  have HT := Lib.hid hT
  clear hT
  go_enter Tryd.func41, Tryd.ntmps41
  go_wp2_with (first | (go_at_call 17; refine (HT.out _).mono ?_; rintro e w1 ⟨rfl, hbw1⟩; obtain ⟨hcw1, hfw1⟩ := bcell hbw1; have hzw1 := hbw1.size; (try simp at hzw1); have hl0w1 : w.heap.size < w1.heap.size := (by omega); have hBw1 : Below w.heap.size w w1 := Below.trans (by go_grown) (hbw1.mono (by go_size)); clear hbw1))
  have c1 : (w1.alloc (Obj.cells #[.string s, .int .i64 p] 23)).cell? ⟨w.heap.size, 0, none⟩ = some (.string s) := by simp [*, World.cell?_alloc_some]
  have c2 : (w1.alloc (Obj.cells #[.string s, .int .i64 p] 23)).cell? ⟨w.heap.size, 1, none⟩ = some (.int .i64 a) := by simp [*, World.cell?_alloc_some]
  have c3 : (w1.alloc (Obj.cells #[.string s, .int .i64 p] 23)).cell? ⟨w1.heap.size, 0, none⟩ = some (.string s) := by simp
  have c4 : (w1.alloc (Obj.cells #[.string s, .int .i64 p] 23)).cell? ⟨w1.heap.size, 1, none⟩ = some (.int .i64 p) := by simp
  have hB : Below w.heap.size w (w1.alloc (Obj.cells #[.string s, .int .i64 p] 23)) := by go_grown
  have hL := hB.size
  clear hcw1 hfw1 hBw1
  generalize (w1.alloc (Obj.cells #[.string s, .int .i64 p] 23)) = w2 at c1 c2 c3 c4 hB hL ⊢
  go_region_held3 (fun w' => (w'.cell? ⟨w.heap.size, 0, none⟩ = some (.string s) ∧ w'.cell? ⟨w.heap.size, 1, none⟩ = some (.int .i64 a)) ∧ (w'.cell? ⟨w1.heap.size, 0, none⟩ = some (.string s) ∧ w'.cell? ⟨w1.heap.size, 1, none⟩ = some (.int .i64 p))) (go_keep)
    (first | (go_at_call 39; refine (at_new s p _).mono ?_; rintro e w3 ⟨rfl, rfl⟩))
  all_goals go_wp2
  all_goals go_ret
  all_goals exact ⟨ret_b (by simp), by go_grown⟩

set_option maxRecDepth 100000 in
set_option maxHeartbeats 1000000 in
theorem skips_no (s : ByteArray) (a n p : Int) (w : World) (no : Int) (hno : no ≠ 0)
    (hT : ∀ w : World, Calls Tryd.prog 17 #[.agg #[.string s, .int .i64 a], .int .i64 n] w fun e w' => e = .returned (.tuple #[.agg #[.string ByteArray.empty, .int .i64 0], .int .i64 no]) ∧ Below w.heap.size w w') :
    Calls Tryd.prog 41 #[.agg #[.string s, .int .i64 a], .int .i64 n, .int .i64 p, .int .i64 no] w fun e w' => e = .returned (.bool true) ∧ Below w.heap.size w w' := by
  have HT := Lib.hid hT
  have b1 : (no == 0) = false := by simp [hno]
  have b2 : (no != 0) = true := by simp [hno]
  clear hT hno
  go_enter Tryd.func41, Tryd.ntmps41
  go_wp2_with (first | (go_at_call 17; refine (HT.out _).mono ?_; rintro e w1 ⟨rfl, hbw1⟩; obtain ⟨hcw1, hfw1⟩ := bcell hbw1; have hzw1 := hbw1.size; (try simp at hzw1); have hl0w1 : w.heap.size < w1.heap.size := (by omega); have hBw1 : Below w.heap.size w w1 := Below.trans (by go_grown) (hbw1.mono (by go_size)); clear hbw1))
  all_goals go_ret
  all_goals exact ⟨ret_b (by first | rfl | simp), by go_grown⟩
end Go.Proofs.YtebaagmbnbbflaaDoor
