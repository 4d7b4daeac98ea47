/- Contracts of turning a word and of one step of mixing. -/
import Derived.Test.YtfdeegafdaobdaaDoorRows
import Derived.Test.YtfdeegafdaobdaaDoorP
import Derived.Handy
import Derived.Lib.Hide
import Derived.Deep.QuietTactic
import Derived.BigQuiet
namespace Go.Proofs.YtfdeegafdaobdaaDoor
open Go.RowKit Go.ChangeShapes

abbrev wd (n : Nat) : Value := .int .u32 (n : Int)
theorem ret_i {a b : Int} {k : IntKind} (h : a = b) : Ending.returned (.int k a) = .returned (.int k b) := by rw [h]
theorem rot_eq (x s k : Nat) (hx : isW x) (hk : k = 32 - s) (hs : s ≤ 32) : bits .or .u32 ((x : Int) * 2 ^ s % 4294967296) ((x : Int) / 2 ^ (32 - s)) = ((rotr x k : Nat) : Int) := by
  have e1 : (x : Int) * 2 ^ s % 4294967296 = ((x * 2 ^ s % 4294967296 : Nat) : Int) := by simp
  have e2 : (x : Int) / 2 ^ (32 - s) = ((x / 2 ^ (32 - s) : Nat) : Int) := by simp
  rw [e1, e2, u32_or (isW_of_lt (Nat.mod_lt _ (by decide))) (isW_div hx _)]
  unfold rotr
  subst hk
  rw [show 32 - (32 - s) = s by omega]
set_option maxHeartbeats 400000 in
theorem rot_any (x s k : Nat) (z : Int) (w : World) (hx : isW x) (h1 : 1 ≤ s) (h2 : s ≤ 31) (hk : k = 32 - s) (hz : bits .and .u64 (IntKind.u64.wrap z) 31 = (s : Int)) :
    Calls Tryd.prog 99 #[.int .u32 (x : Int), .int .i64 z] w fun e w' => e = .returned (.int .u32 (rotr x k : Nat)) ∧ w = w' := by
  have HE := Lib.hid (rot_eq x s k hx hk (by omega))
  unfold isW at hx
  clear hk
  have hs : ∀ w, (Op.shift BinOp.shl IntKind.u32 (x : Int) IntKind.u64 (s : Int)).run Tryd.prog w = .ok (.int .u32 ((x : Int) * 2 ^ s % 4294967296)) w := by
    intro w
    rw [shift_shl_any _ _ _ _ (by omega)]
    rw [IntKind.wrap_u32, Int.toNat_natCast, show min s IntKind.u32.bits = s by simp [IntKind.bits]; omega]
    rfl
  have hs2 : ∀ w, (Op.shift BinOp.shr IntKind.u32 (x : Int) IntKind.u64 (32 - (s : Int))).run Tryd.prog w = .ok (.int .u32 ((x : Int) / 2 ^ (32 - s))) w := by
    intro w
    rw [shift_shr_any _ _ _ _ (by omega)]
    rw [show min ((32 : Int) - (s : Int)).toNat IntKind.u32.bits = 32 - s by simp [IntKind.bits]]
    rfl
  go_enter Tryd.func99, Tryd.ntmps99
  go_wp2
  go_ret
  exact ⟨ret_i HE.out, rfl⟩
set_option maxHeartbeats 400000 in
theorem turned_any (x k : Nat) (z : Int) (w : World) (hx : isW x) (hz : z = (k : Int)) (h1 : 1 ≤ k) (h2 : k ≤ 31) (hb : bits .and .u64 (IntKind.u64.wrap (-z)) 31 = ((32 - k : Nat) : Int)) :
    Calls Tryd.prog 94 #[.int .u32 (x : Int), .int .i64 z] w fun e w' => e = .returned (.int .u32 (rotr x k : Nat)) ∧ w = w' := by
  have HC := fun w => rot_any x (32 - k) k (-z) w hx (by omega) (by omega) (by omega) hb
  have hz0 : 0 ≤ z := by omega
  have hz1 : z ≤ 31 := by omega
  clear hz hb
  unfold isW at hx
  go_enter Tryd.func94, Tryd.ntmps94
  go_wp2_with (go_at_call 99; refine (HC _).mono ?_; rintro e w' ⟨rfl, rfl⟩)
  go_ret
  exact ⟨rfl, rfl⟩
theorem turned_q (x k : Nat) (z : Int) (w : World) (hx : isW x) (hz : z = (k : Int)) (h1 : 1 ≤ k) (h2 : k ≤ 31) (hb : bits .and .u64 (IntKind.u64.wrap (-z)) 31 = ((32 - k : Nat) : Int)) :
    Calls Tryd.prog 94 #[.int .u32 (x : Int), .int .i64 z] w fun e w' => e = .returned (.int .u32 (rotr x k : Nat)) ∧ w' = w :=
  (turned_any x k z w hx hz h1 h2 hb).mono fun _ _ h => ⟨h.1, h.2.symm⟩
/-- A call that leaves the world alone, behind draws. -/
theorem drawn_same {P : Program} {f : FuncId} {args : Array Value} {w : World} {a n : Nat} {v : Value}
    (h : ∀ W : World, Calls P f args W fun e w' => e = .returned v ∧ W = w') :
    Calls P f args (w.drewN (a + n)) fun e w' => e = .returned v ∧ ∃ m, w' = w.drewN (a + m) :=
  (h _).mono fun _ _ g => ⟨g.1, n, g.2.symm⟩
theorem turned_w {x : Nat} (k : Nat) (z : Int) (hx : isW x) (hz : z = (k : Int)) (h1 : 1 ≤ k) (h2 : k ≤ 31) (hb : bits .and .u64 (IntKind.u64.wrap (-z)) 31 = ((32 - k : Nat) : Int)) (W : World) :
    Calls Tryd.prog 94 #[.int .u32 (x : Int), .int .i64 z] W fun e w' => e = .returned (.int .u32 (rotr x k : Nat)) ∧ W = w' := turned_any x k z W hx hz h1 h2 hb
theorem turn2 (x : Nat) (w : World) (hx : isW x) : Calls Tryd.prog 94 #[.int .u32 (x : Int), .int .i64 2] w fun e w' => e = .returned (.int .u32 (rotr x 2 : Nat)) ∧ w = w' := turned_any x 2 2 w hx rfl (by decide) (by decide) (by decide)
theorem turn6 (x : Nat) (w : World) (hx : isW x) : Calls Tryd.prog 94 #[.int .u32 (x : Int), .int .i64 6] w fun e w' => e = .returned (.int .u32 (rotr x 6 : Nat)) ∧ w = w' := turned_any x 6 6 w hx rfl (by decide) (by decide) (by decide)
theorem turn7 (x : Nat) (w : World) (hx : isW x) : Calls Tryd.prog 94 #[.int .u32 (x : Int), .int .i64 7] w fun e w' => e = .returned (.int .u32 (rotr x 7 : Nat)) ∧ w = w' := turned_any x 7 7 w hx rfl (by decide) (by decide) (by decide)
theorem turn11 (x : Nat) (w : World) (hx : isW x) : Calls Tryd.prog 94 #[.int .u32 (x : Int), .int .i64 11] w fun e w' => e = .returned (.int .u32 (rotr x 11 : Nat)) ∧ w = w' := turned_any x 11 11 w hx rfl (by decide) (by decide) (by decide)
theorem turn13 (x : Nat) (w : World) (hx : isW x) : Calls Tryd.prog 94 #[.int .u32 (x : Int), .int .i64 13] w fun e w' => e = .returned (.int .u32 (rotr x 13 : Nat)) ∧ w = w' := turned_any x 13 13 w hx rfl (by decide) (by decide) (by decide)
theorem turn17 (x : Nat) (w : World) (hx : isW x) : Calls Tryd.prog 94 #[.int .u32 (x : Int), .int .i64 17] w fun e w' => e = .returned (.int .u32 (rotr x 17 : Nat)) ∧ w = w' := turned_any x 17 17 w hx rfl (by decide) (by decide) (by decide)
theorem turn18 (x : Nat) (w : World) (hx : isW x) : Calls Tryd.prog 94 #[.int .u32 (x : Int), .int .i64 18] w fun e w' => e = .returned (.int .u32 (rotr x 18 : Nat)) ∧ w = w' := turned_any x 18 18 w hx rfl (by decide) (by decide) (by decide)
theorem turn19 (x : Nat) (w : World) (hx : isW x) : Calls Tryd.prog 94 #[.int .u32 (x : Int), .int .i64 19] w fun e w' => e = .returned (.int .u32 (rotr x 19 : Nat)) ∧ w = w' := turned_any x 19 19 w hx rfl (by decide) (by decide) (by decide)
theorem turn22 (x : Nat) (w : World) (hx : isW x) : Calls Tryd.prog 94 #[.int .u32 (x : Int), .int .i64 22] w fun e w' => e = .returned (.int .u32 (rotr x 22 : Nat)) ∧ w = w' := turned_any x 22 22 w hx rfl (by decide) (by decide) (by decide)
theorem turn25 (x : Nat) (w : World) (hx : isW x) : Calls Tryd.prog 94 #[.int .u32 (x : Int), .int .i64 25] w fun e w' => e = .returned (.int .u32 (rotr x 25 : Nat)) ∧ w = w' := turned_any x 25 25 w hx rfl (by decide) (by decide) (by decide)
abbrev W8.val (s : W8) : Value := .agg #[wd s.a, wd s.b, wd s.c, wd s.d, wd s.e, wd s.f, wd s.g, wd s.h]
end Go.Proofs.YtfdeegafdaobdaaDoor
