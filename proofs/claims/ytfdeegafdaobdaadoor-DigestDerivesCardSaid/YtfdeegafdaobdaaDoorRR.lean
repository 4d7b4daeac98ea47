/- Contract of what the laws with the reference share: grown. -/
import Derived.Test.YtfdeegafdaobdaaDoorRJ
import Derived.Test.YtfdeegafdaobdaaDoorE
namespace Go.Proofs.YtfdeegafdaobdaaDoor
open Go.RowKit Go.ChangeShapes

theorem rep_len (l : List UInt8) (n : Nat) : (Lib.repeatL l n).length = l.length * n := by
  induction n with
  | zero => rfl
  | succ n ih => rw [Lib.repeatL, List.length_append, ih, Nat.mul_succ]; omega
/-- What grown gives for a string that is not empty. -/
def grw (l : List UInt8) (n : Nat) : List UInt8 := (Lib.repeatL l (n % 4200 / l.length + 1)).take (n % 4200)
theorem grw_length (l : List UInt8) (n : Nat) (h : 0 < l.length) : (grw l n).length = n % 4200 := by
  unfold grw
  rw [List.length_take, rep_len]
  have := Nat.lt_mul_div_succ (n % 4200) h
  omega
set_option maxRecDepth 100000 in
set_option maxHeartbeats 1000000 in
theorem grown_some (l : List UInt8) (n : Nat) (w : World) (h0 : 0 < l.length) (hl : l.length ≤ 300) (hn : n ≤ 65535) :
    Calls Tryd.prog 13 #[.string (bs l), .int .u16 n] w fun e w' => e = .returned (.string (bs (grw l n))) ∧ Below w.heap.size w w' := by
  obtain ⟨m, hm⟩ : ∃ m, n % 4200 = m := ⟨_, rfl⟩
  have hm1 : m ≤ 4199 := by omega
  have hmi : ((n : Int) % 4200) = (m : Int) := by omega
  obtain ⟨q, hq⟩ : ∃ q, m / l.length = q := ⟨_, rfl⟩
  have hlt := Nat.lt_mul_div_succ m h0
  rw [hq] at hlt
  have hqm : q ≤ m := by rw [← hq]; exact Nat.div_le_self _ _
  have hmul : l.length * (q + 1) ≤ 300 * 4200 := Nat.mul_le_mul hl (by omega)
  have hq1 : ((m : Int) / (l.length : Int)) = (q : Int) := by rw [← hq]; exact (Int.natCast_ediv _ _).symm
  have hr : ∀ w, Calls Tryd.prog 20 #[.string (bs l), .int .i64 ((q : Int) + 1)] w fun e w' => e = .returned (.string (bs (Lib.repeatL l (q + 1)))) ∧ Below w.heap.size w w' := fun w => by
    have h := Tryd.strings_Repeat (bs l) (q + 1) w (by omega) (by rw [bs_size]; omega)
    rw [show (bs l).data.toList = l from rfl] at h
    exact h
  obtain ⟨x, hx⟩ : ∃ x, bs l = x := ⟨_, rfl⟩
  obtain ⟨y, hy⟩ : ∃ y, bs (Lib.repeatL l (q + 1)) = y := ⟨_, rfl⟩
  have x0 : x.size = l.length := by rw [← hx, bs_size]
  have y0 : y.size = l.length * (q + 1) := by rw [← hy, bs_size, rep_len]
  have HF : Hid (bs (grw l n) = y.extract 0 m) := by
    show _ = _
    unfold grw
    rw [hm, hq, ← hy]
    apply ByteArray.ext
    simp [bs]
  rw [hx] at hr ⊢
  rw [hy] at hr
  have x1 : 0 < x.size := by omega
  have x2 : x.size ≤ 300 := by omega
  have y1 : m ≤ y.size := by omega
  have y2 : y.size ≤ 1260000 := by omega
  rw [← x0] at hq1
  have xi : x.toList.isEmpty = false := by
    rw [← hx, Lib.toList_data]
    cases l with
    | nil => exact absurd h0 (by decide)
    | cons a r => rfl
  have q1 : q ≤ 4199 := by omega
  clear hm hq hlt hmul hx hy x0 y0 hqm h0 hl
  go_enter Tryd.func13, Tryd.ntmps13
  go_wp2_with (first | (go_at_call 20; (with_reducible refine (hr _).mono ?_); rintro e w2 ⟨rfl, hb2⟩))
  go_ret
  exact ⟨by rw [HF.out]; rfl, hb2⟩
set_option maxRecDepth 100000 in
set_option maxHeartbeats 1000000 in
theorem grown_none (n : Nat) (w : World) (hn : n ≤ 65535) :
    Calls Tryd.prog 13 #[.string (bs []), .int .u16 n] w fun e w' => e = .returned (.string (bs (grw [120] n))) ∧ Below w.heap.size w w' := by
  obtain ⟨m, hm⟩ : ∃ m, n % 4200 = m := ⟨_, rfl⟩
  have hm1 : m ≤ 4199 := by omega
  have hmi : ((n : Int) % 4200) = (m : Int) := by omega
  have hr : ∀ w, Calls Tryd.prog 20 #[.string ⟨#[120]⟩, .int .i64 ((m : Int) + 1)] w fun e w' => e = .returned (.string (bs (Lib.repeatL [120] (m + 1)))) ∧ Below w.heap.size w w' := fun w =>
    Tryd.strings_Repeat ⟨#[120]⟩ (m + 1) w (by omega) (by show 1 * (m + 1) ≤ _; omega)
  obtain ⟨y, hy⟩ : ∃ y, bs (Lib.repeatL [120] (m + 1)) = y := ⟨_, rfl⟩
  have y0 : y.size = m + 1 := by rw [← hy, bs_size, rep_len]; simp
  have HF : Hid (bs (grw [120] n) = y.extract 0 m) := by
    show _ = _
    unfold grw
    rw [hm, ← hy, show ([120] : List UInt8).length = 1 from rfl, Nat.div_one]
    apply ByteArray.ext
    simp [bs]
  rw [hy] at hr
  have y1 : m ≤ y.size := by omega
  have y2 : y.size ≤ 1260000 := by omega
  obtain ⟨x, hx⟩ : ∃ x, bs [] = x := ⟨_, rfl⟩
  have xi : x.toList.isEmpty = true := by rw [← hx, Lib.toList_data]; rfl
  have x2 : x.size = 0 := by rw [← hx]; rfl
  rw [hx]
  clear hm hy y0 hx
  go_enter Tryd.func13, Tryd.ntmps13
  go_wp2_with (first | (go_at_call 20; (with_reducible refine (hr _).mono ?_); rintro e w2 ⟨rfl, hb2⟩))
  go_ret
  exact ⟨by rw [HF.out]; rfl, hb2⟩
theorem grown_any (l : List UInt8) (n : Nat) (hl : l.length ≤ 300) (hn : n ≤ 65535) : ∃ z : List UInt8, z.length ≤ 4199 ∧ ∀ w,
    Calls Tryd.prog 13 #[.string (bs l), .int .u16 n] w fun e w' => e = .returned (.string (bs z)) ∧ Below w.heap.size w w' := by
  rcases Nat.eq_zero_or_pos l.length with h | h
  · obtain rfl := List.eq_nil_of_length_eq_zero h
    exact ⟨grw [120] n, by rw [grw_length _ _ (by decide)]; omega, fun w => grown_none n w hn⟩
  · exact ⟨grw l n, by rw [grw_length _ _ h]; omega, fun w => grown_some l n w h hl hn⟩
end Go.Proofs.YtfdeegafdaobdaaDoor
