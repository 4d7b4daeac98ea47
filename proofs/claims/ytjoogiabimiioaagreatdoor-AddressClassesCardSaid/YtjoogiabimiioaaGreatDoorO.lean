/- Contracts of SplitSeq and of digits; what read makes of parts. -/
import Derived.Test.YtjoogiabimiioaaGreatDoorM
namespace Go.Proofs.YtjoogiabimiioaaGreatDoor
open Go.RowKit Go.ChangeShapes
theorem split_any (S T : ByteArray) (w : World) :
    Calls Tryz.prog 106 #[.string S, .string T] w fun e w' => e = .returned (.func (.func 139) #[] #[.pointer (some ⟨w.heap.size + 1, 0, none⟩), .pointer (some ⟨w.heap.size, 0, none⟩), .pointer (some ⟨w.heap.size + 2, 0, none⟩)]) ∧
      w' = ((w.alloc (.cells #[.string S] 9)).alloc (.cells #[.string T] 9)).alloc (.cells #[.int .i64 0] 3) := by
  have hmf : ∀ (fn : Fn) (first cap : Array Value) (w : World), (Instr.makeFunc fn first cap).run Tryz.prog w = .ok (.func fn first cap) w := fun _ _ _ _ => rfl
  have h : Calls Tryz.prog 124 #[.string S, .string T, .int .i64 0] w fun e w' => e = .returned (.func (.func 139) #[] #[.pointer (some ⟨w.heap.size + 1, 0, none⟩), .pointer (some ⟨w.heap.size, 0, none⟩), .pointer (some ⟨w.heap.size + 2, 0, none⟩)]) ∧
      w' = ((w.alloc (.cells #[.string S] 9)).alloc (.cells #[.string T] 9)).alloc (.cells #[.int .i64 0] 3) := by
    go_enter Tryz.func124, Tryz.ntmps124
    go_wp2
    go_ret
    exact ⟨rfl, rfl⟩
  go_enter Tryz.func106, Tryz.ntmps106
  go_wp2_with fail
  (with_reducible refine h.mono ?_)
  rintro e V ⟨rfl, rfl⟩
  go_wp2
  go_ret
  exact ⟨rfl, rfl⟩
/-- The digits of a base. -/
def digL (base : Nat) : List UInt8 := ([48, 49, 50, 51, 52, 53, 54, 55, 56, 57, 97, 98, 99, 100, 101, 102] : List UInt8).take base
/-- What a digit is worth; less than 0 for what is none. -/
def dgV (base : Nat) (c : UInt8) : Int := Lib.indexByte (digL base) c
theorem sl_dig (base : Nat) (hb : base = 10 ∨ base = 16) (W : World) : (Instr.slice 9 (.string ⟨#[48, 49, 50, 51, 52, 53, 54, 55, 56, 57, 97, 98, 99, 100, 101, 102]⟩) none (some (.int .i64 (base : Int))) none).run Tryz.prog W = .ok (.string (bs (digL base))) W := by
  rcases hb with rfl | rfl <;> (show _ = _; kernel_rfl)
set_option maxRecDepth 100000 in
theorem digits_any (base : Nat) (hb : base = 10 ∨ base = 16) (w : World) :
    Calls Tryz.prog 105 #[.int .i64 (base : Int)] w fun e w' => e = .returned (.func (.func 122) #[] #[.pointer (some ⟨w.heap.size, 0, none⟩)]) ∧ w' = w.alloc (.cells #[.string (bs (digL base))] 9) := by
  have hmf : ∀ (fn : Fn) (first cap : Array Value) (w : World), (Instr.makeFunc fn first cap).run Tryz.prog w = .ok (.func fn first cap) w := fun _ _ _ _ => rfl
  have hsl := sl_dig base hb
  go_enter Tryz.func105, Tryz.ntmps105
  go_wp2
  go_ret
  exact ⟨rfl, rfl⟩
set_option maxRecDepth 100000 in
theorem dig1_any (base : Nat) (c : UInt8) (B : Nat) (w : World) (hB : w.heap[B]? = some (.cells #[.string (bs (digL base))] 9 (0, 0))) :
    Calls Tryz.prog 122 #[.int .u8 (c.toNat : Int), .pointer (some ⟨B, 0, none⟩)] w fun e w' => e = .returned (.tuple #[.int .i64 (dgV base c), .bool (decide (0 ≤ dgV base c))]) ∧ w' = w := by
  have c0 : w.cell? ⟨B, 0, none⟩ = some (.string (bs (digL base))) := cell_of_row _ _ 0 _ 9 (0, 0) hB
  have hix := Tryz.strings_IndexByte (bs (digL base)) (c.toNat : Int) w
  rw [bs_data, Int.toNat_natCast, show c.toNat.toUInt8 = c from UInt8.ofNat_toNat] at hix
  change Calls Tryz.prog 123 _ w fun e w' => e = .returned (.int .i64 (dgV base c)) ∧ w' = w at hix
  have HI := Lib.hid hix
  generalize dgV base c = d at HI ⊢
  clear hix hB
  go_enter Tryz.func122, Tryz.ntmps122
  go_wp2_with fail
  (with_reducible refine HI.out.mono ?_)
  rintro e V ⟨rfl, rfl⟩
  go_wp2
  go_ret2
  exact ⟨rfl, rfl⟩
theorem dgV_ge (base : Nat) (c : UInt8) : -1 ≤ dgV base c := Lib.indexByte_ge _ _
theorem idxB_lt : ∀ (l : List UInt8) (c : UInt8), Lib.indexByte l c < (l.length : Int) ∨ Lib.indexByte l c = -1
  | [], _ => .inr rfl
  | b :: r, c => by
    have ih := idxB_lt r c
    unfold Lib.indexByte
    split
    · left; simp
    · split
      · right; rfl
      · rename_i h
        have h2 : Lib.indexByte r c ≠ -1 := by simpa using h
        left
        rw [List.length_cons]
        omega
theorem dgV_lt (base : Nat) (hb : base = 10 ∨ base = 16) (c : UInt8) : dgV base c < 16 := by
  have h := idxB_lt (digL base) c
  have hl : (digL base).length ≤ 16 := by rcases hb with rfl | rfl <;> decide
  unfold dgV
  omega
/-- The number of digits, behind what is read already; none for a wrong digit, or a number that is too great. -/
def valO (base max : Nat) : List UInt8 → Nat → Option Nat
  | [], n => some n
  | c :: r, n => if dgV base c < 0 ∨ max < n * base + (dgV base c).toNat then none else valO base max r (n * base + (dgV base c).toNat)
/-- The number of a part. -/
def parO (base max : Nat) (p : List UInt8) : Option Nat := if p = [] ∨ p.head? = some 48 ∧ p ≠ [48] then none else valO base max p 0
theorem valO_le (base max : Nat) : ∀ (p : List UInt8) (n v : Nat), n ≤ max → valO base max p n = some v → v ≤ max
  | [], n, v, h, e => by simp [valO] at e; omega
  | c :: r, n, v, h, e => by
    rw [valO] at e
    split at e
    · cases e
    · exact valO_le base max r _ v (by omega) e
/-- What read makes of parts: the numbers up to the first wrong part, and whether there is none. -/
def rdP (np base max : Nat) : Nat → List (List UInt8) → List Nat × Bool
  | _, [] => ([], true)
  | k, p :: ps => if k = np then ([], false) else
    match parO base max p with
    | none => ([], false)
    | some v => (v :: (rdP np base max (k + 1) ps).1, (rdP np base max (k + 1) ps).2)
/-- All of these parts are read as these numbers. -/
def Acc (np base max : Nat) (pre : List (List UInt8)) (vs : List Nat) : Prop := pre.map (parO base max) = vs.map some ∧ pre.length ≤ np
theorem Acc.len {np base max : Nat} {pre : List (List UInt8)} {vs : List Nat} (h : Acc np base max pre vs) : pre.length = vs.length := by have := congrArg List.length h.1; simpa using this
theorem rdP_acc (np base max : Nat) : ∀ (pre : List (List UInt8)) (vs : List Nat) (k : Nat) (rest : List (List UInt8)), pre.map (parO base max) = vs.map some → k + pre.length ≤ np →
    rdP np base max k (pre ++ rest) = (vs ++ (rdP np base max (k + pre.length) rest).1, (rdP np base max (k + pre.length) rest).2)
  | [], [], k, rest, _, _ => by simp
  | [], v :: vs, k, rest, h, _ => by simp at h
  | p :: ps, [], k, rest, h, _ => by simp at h
  | p :: ps, v :: vs, k, rest, h, hk => by
    simp only [List.map_cons, List.cons.injEq] at h
    simp only [List.length_cons] at hk
    have ih := rdP_acc np base max ps vs (k + 1) rest h.2 (by omega)
    rw [List.cons_append, rdP, if_neg (by omega), h.1, ih]
    simp only [List.length_cons, List.cons_append, show k + (ps.length + 1) = k + 1 + ps.length by omega]
theorem rdP_all {np base max : Nat} {pre : List (List UInt8)} {vs : List Nat} (h : Acc np base max pre vs) : rdP np base max 0 pre = (vs, true) := by
  have := rdP_acc np base max pre vs 0 [] h.1 (by have := h.2; omega)
  rw [List.append_nil] at this
  rw [this]
  simp [rdP]
theorem rdP_stop {np base max : Nat} {pre : List (List UInt8)} {vs : List Nat} {x : List UInt8} {rest : List (List UInt8)} (h : Acc np base max pre vs) (hx : pre.length = np ∨ parO base max x = none) : rdP np base max 0 (pre ++ (x :: rest)) = (vs, false) := by
  rw [rdP_acc np base max pre vs 0 (x :: rest) h.1 (by have := h.2; omega), rdP]
  by_cases hk : 0 + pre.length = np
  · rw [if_pos hk]; simp
  · rw [if_neg hk]
    have : parO base max x = none := by rcases hx with hx | hx; omega; exact hx
    rw [this]
    simp
end Go.Proofs.YtjoogiabimiioaaGreatDoor
