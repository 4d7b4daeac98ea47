/- Contracts of the reference of layer 1: Number, Put (moved to this seat). Contracts of the reference's constants: below. Contract of the reference's below, for cubes. Contract of the reference's root. Contract of the reference's primes. Contract of the reference's octets of words. Contract of the reference's closing. -/
import Derived.Test.YtfdeegafdaobdaaDoorRG
import Derived.Laws.Externs
import Derived.Test.YtfdeegafdaobdaaDoorC
import Derived.Lib.SmallJoins
namespace Go.Proofs.YtfdeegafdaobdaaDoor
open Go.RowKit Go.ChangeShapes
/-- What Unhex makes of a text. -/
def tAt (s : ByteArray) (k : Nat) : Nat := (s.data.toList.getD k 0).toNat
theorem tAt_lt (s : ByteArray) (k : Nat) : tAt s k < 256 := UInt8.toNat_lt _
theorem tAt_eq (s : ByteArray) (k : Nat) (h : k < s.size) : s[k].toNat = tAt s k := by
  unfold tAt
  rw [List.getD_eq_getElem?_getD, List.getElem?_eq_getElem (by simpa using h)]
  rfl
theorem idx_run (s : ByteArray) (k : Nat) (i : Int) (hi : i = (k : Int)) (h : k < s.size) (w : World) : (Instr.index 9 (.string s) (.int .i64 i)).run Tryd.prog w = .ok (.int .u8 (tAt s k : Int)) w := by
  subst hi
  rw [run_index_string w 9 s .i64 _ Tryd.underlying9, dif_pos ⟨by omega, by omega⟩]
  simp only [Int.toNat_natCast]
  rw [tAt_eq s k h]
set_option maxHeartbeats 400000 in
theorem refNumber_any (s : ByteArray) (w : World) (hs : s.size ≤ 7) :
    Calls Tryd.prog 79 #[.string s] w fun e w' => e = .returned (.int .i64 (beN s.data.toList)) ∧ w = w' := by
  go_enter Tryd.func79, Tryd.ntmps79
  go_wp2
  go_loop [3, 4] (fun v i => ∃ k : Nat, k ≤ s.size ∧ i = .int .i64 k ∧ v = .int .i64 (beN (s.data.toList.take k) : Nat)) (fun _ i => s.size - (intOf i).toNat)
  case atStart => exact ⟨0, Nat.zero_le _, rfl, rfl⟩
  case round =>
    obtain ⟨k, hk, rfl, rfl⟩ := hrel
    by_cases hlt : k < s.size
    · have hl := beN_lt (s.data.toList.take k)
      have hb : beN (s.data.toList.take k) < 256 ^ 6 := Nat.lt_of_lt_of_le hl (Nat.pow_le_pow_right (by decide) (by simp; omega))
      have ea := idx_run s k (k : Int) rfl hlt
      have hcb := tAt_lt s k
      have HS : Hid (beN (s.data.toList.take (k + 1)) = beN (s.data.toList.take k) * 256 + tAt s k) := by
        rw [take_snoc s k hlt, beN_snoc, tAt_eq s k hlt]; exact rfl
      generalize hv : beN (s.data.toList.take k) = v at hb hl HS ⊢
      have HV := Lib.hid hv
      generalize tAt s k = c at ea hcb HS
      clear hv hl
      go_wp2
      go_round
      case rel => exact ⟨k + 1, by omega, by go_num, by rw [HS.out]; go_num⟩
      case measure => simp [intOf]; omega
    · go_wp2
      go_ret
      exact ⟨ret_i (by rw [List.take_of_length_le (by simp; omega)]), rfl⟩
theorem beB_succ (n v : Nat) : beB (n + 1) v = UInt8.ofNat (v / 256 ^ n % 256) :: beB n v := by
  unfold beB
  rw [List.range_succ_eq_map, List.map_cons, List.map_map]
  refine congr (congrArg List.cons ?_) ?_
  · rw [show n + 1 - 1 - 0 = n by omega]
  · apply List.map_congr_left
    intro j hj
    simp only [Function.comp]
    rw [show n + 1 - 1 - (j + 1) = n - 1 - j by omega]
theorem one_append (c : UInt8) (l : List UInt8) : (⟨#[c]⟩ : ByteArray) ++ ⟨l.toArray⟩ = ⟨(c :: l).toArray⟩ := by
  apply ByteArray.ext
  rw [ByteArray.data_append]
  simp
theorem one_string (W : World) (c : Nat) (hc : c < 256) (x : Int) (hx : x = (c : Int)) : (convert 65 9 (.slice (some ⟨W.heap.size, 0, none⟩) 1 1)).run Tryd.prog (W.alloc (.cells #[.int .u8 x] 5)) = .ok (.string ⟨#[UInt8.ofNat c]⟩) (W.alloc (.cells #[.int .u8 x] 5)) := by
  subst hx
  have hcc : ((UInt8.ofNat c).toNat : Int) = (c : Int) := by rw [UInt8.toNat_ofNat_of_lt' (by simpa [UInt8.size] using hc)]
  exact run_convert_bytes_back _ 65 9 5 ⟨W.heap.size, 0, none⟩ 1 [UInt8.ofNat c] Tryd.underlying65 Tryd.underlying5 Tryd.underlying9 fun j hj => by
    have hj0 : j = 0 := by simp at hj; omega
    subst hj0
    rw [show (⟨W.heap.size, 0, none⟩ : Addr).add 0 = ⟨W.heap.size, 0, none⟩ from rfl, World.cell?_alloc_at _ _ _ _ rfl]
    simp only [List.getElem_cons_zero, hcc]
    rfl
set_option maxRecDepth 100000 in
set_option maxHeartbeats 1000000 in
theorem refPut_any (n v : Nat) (w : World) (hn : n ≤ 7) (hv : v ≤ 9223372036854775807) :
    Calls Tryd.prog 64 #[.int .i64 n, .int .i64 v] w fun e w' => e = .returned (.string ⟨(beB n v).toArray⟩) ∧ Below w.heap.size w w' := by
  go_enter Tryd.func64, Tryd.ntmps64
  go_wp2
  go_loopw [1, 5, 6] (fun x t i wr => ∃ k : Nat, k ≤ n ∧ i = .int .i64 k ∧ x = .int .i64 ((v / 256 ^ k : Nat) : Int) ∧ t = .string ⟨(beB k v).toArray⟩ ∧ Below w.heap.size w wr) (fun _ _ i _ => n - (intOf i).toNat)
  case atStart => exact ⟨0, Nat.zero_le _, rfl, by simp, rfl, Below.refl _ _⟩
  case round =>
    obtain ⟨k, hk, rfl, rfl, rfl, hB⟩ := hrel
    have hz := hB.size
    by_cases hlt : k < n
    · have hq : v / 256 ^ k ≤ 9223372036854775807 := Nat.le_trans (Nat.div_le_self _ _) hv
      have hs : v / 256 ^ (k + 1) = v / 256 ^ k / 256 := by rw [Nat.pow_succ, Nat.div_div_eq_div_mul]
      have hb := beB_succ k v
      have hl := beB_length k v
      have HS := Lib.hid hs
      have HBB := Lib.hid hb
      generalize hx : v / 256 ^ k = q at hq HBB HS ⊢
      have hq256 : q % 256 < 256 := Nat.mod_lt _ (by decide)
      have hone := one_string wr (q % 256) hq256 ((q : Int) % 256) (by omega)
      have hl1 : (beB k v).length ≤ 7 := by omega
      have hl2 : (⟨(beB k v).toArray⟩ : ByteArray).size ≤ 7 := by show (beB k v).toArray.size ≤ 7; simpa using hl1
      have hqw : IntKind.u8.wrap ((q : Int) % 256) = (q : Int) % 256 := by rw [IntKind.wrap_u8']; omega
      clear hs hb hx hl
      go_wp2
      go_roundw
      case rel => exact ⟨k + 1, by omega, by go_num, by rw [HS.out]; go_num, by rw [one_append, HBB.out], hB.alloc hz _⟩
      case measure => simp [intOf]; omega
    · obtain rfl : k = n := by omega
      go_wp2
      go_ret
      exact ⟨rfl, hB⟩
end Go.Proofs.YtfdeegafdaobdaaDoor

namespace Go.Proofs.YtfdeegafdaobdaaDoor
open Go.RowKit Go.ChangeShapes

/-- Whether x to the power e is at most p 2^(32 e). -/
def belP (e x p : Nat) : Bool := decide (x ^ e ≤ p * 4294967296 ^ e)
set_option maxHeartbeats 1000000 in
theorem rbelow2 (x p : Nat) (w : World) (hx : x ≤ 274877906944) (hp : p ≤ 400) :
    Calls Tryd.prog 58 #[.int .u64 (x : Int), .int .u64 (p : Int), .int .i64 2] w fun e w' => e = .returned (.bool (belP 2 x p)) ∧ w = w' := by
  have hc := fun w => Tryd.bits_Mul64 x x (by omega) (by omega) w
  have hlt : x * x % 18446744073709551616 < 18446744073709551616 := Nat.mod_lt _ (by decide)
  have HE : Hid (∀ a b : Nat, x * x / 18446744073709551616 = a → x * x % 18446744073709551616 = b → (decide (a < p) || (decide (a = p) && decide (b = 0))) = belP 2 x p) := fun a b ha hb => by
    unfold belP
    rw [show x ^ 2 = x * x from Nat.pow_two x, show (4294967296 : Nat) ^ 2 = 18446744073709551616 from rfl, Bool.eq_iff_iff]
    generalize x * x = y at ha hb hlt ⊢
    simp
    omega
  have hle : x * x / 18446744073709551616 ≤ 4096 := by
    have := Nat.mul_le_mul hx hx
    omega
  obtain ⟨a, ha⟩ : ∃ a, x * x / 18446744073709551616 = a := ⟨_, rfl⟩
  obtain ⟨b, hb⟩ : ∃ a, x * x % 18446744073709551616 = a := ⟨_, rfl⟩
  rw [ha, hb] at hc
  rw [ha] at hle
  have HA := Lib.hid ha
  have HB := Lib.hid hb
  clear ha hb hlt
  by_cases h1 : a < p
  · have h1' : (a : Int) < (p : Int) := by omega
    go_enter Tryd.func58, Tryd.ntmps58
    go_wp2_with (go_at_call 68; (with_reducible refine (hc _).mono ?_); rintro e w' ⟨rfl, hw⟩; subst hw)
    go_ret
    exact ⟨ret_b (by rw [← HE.out a b HA.out HB.out]; simp [h1]), rfl⟩
  · by_cases h2 : a = p
    · subst h2
      by_cases h3 : b = 0
      · subst h3
        go_enter Tryd.func58, Tryd.ntmps58
        go_wp2_with (go_at_call 68; (with_reducible refine (hc _).mono ?_); rintro e w' ⟨rfl, hw⟩; subst hw)
        all_goals go_ret
        all_goals exact ⟨ret_b (by rw [← HE.out a 0 HA.out HB.out]; simp), rfl⟩
      · have h3' : ((b : Int) == 0) = false := by simp [h3]
        go_enter Tryd.func58, Tryd.ntmps58
        go_wp2_with (go_at_call 68; (with_reducible refine (hc _).mono ?_); rintro e w' ⟨rfl, hw⟩; subst hw)
        all_goals go_ret
        all_goals exact ⟨ret_b (by rw [← HE.out a b HA.out HB.out]; simp [h3]), rfl⟩
    · have h1' : (p : Int) < (a : Int) := by omega
      have h2' : ((a : Int) == (p : Int)) = false := by simp; omega
      go_enter Tryd.func58, Tryd.ntmps58
      go_wp2_with (go_at_call 68; (with_reducible refine (hc _).mono ?_); rintro e w' ⟨rfl, hw⟩; subst hw)
      all_goals go_ret
      all_goals exact ⟨ret_b (by rw [← HE.out a b HA.out HB.out]; simp [h1, h2]), rfl⟩
theorem add64_run (c m q : Nat) (hq : c + m = q) (h : q < 18446744073709551616) (wx : World) :
    (callFunc 73 #[.int .u64 (c : Int), .int .u64 (m : Int), .int .u64 0]).run Tryd.prog wx = .ok (.value (.tuple #[.int .u64 (q : Int), .int .u64 0])) wx := by
  rw [run_callFunc_extern Tryd.func73 (by kernel_rfl) (by kernel_rfl) (by kernel_rfl) (e := add64Entry) (by kernel_rfl), run_add64 (c : Int) (m : Int) 0 (by omega) (by omega) (by omega) (by omega)]
  simp only [Result.andThen]
  have e1 : ((c : Int) + (m : Int) + 0) % 18446744073709551616 = (q : Int) := by omega
  have e2 : ((c : Int) + (m : Int) + 0) / 18446744073709551616 = 0 := by omega
  rw [e1, e2]
theorem belP3_eq (x p a b c d m q : Nat) (hxx : 18446744073709551616 * a + b = x * x) (hbx : 18446744073709551616 * c + d = b * x) (hm : a * x = m) (hq : c + m = q) (hd : d < 18446744073709551616) :
    (decide (q < p * 4294967296) || (decide (q = p * 4294967296) && decide (d = 0))) = belP 3 x p := by
  have hcube : x ^ 3 = q * 18446744073709551616 + d := by
    have e1 : x ^ 3 = x * x * x := by rw [Nat.pow_succ, Nat.pow_two]
    rw [e1, ← hxx, Nat.add_mul, Nat.mul_assoc, hm, ← hbx]; omega
  unfold belP
  rw [hcube, show (4294967296 : Nat) ^ 3 = 4294967296 * 18446744073709551616 from rfl, ← Nat.mul_assoc, Bool.eq_iff_iff]
  simp
  omega
end Go.Proofs.YtfdeegafdaobdaaDoor

namespace Go.Proofs.YtfdeegafdaobdaaDoor
open Go.RowKit Go.ChangeShapes
set_option maxRecDepth 100000 in
set_option maxHeartbeats 2000000 in
theorem rbelow3_lt (x p a b c d m q s : Nat) (w : World) (hw : IntKind.u64.wrap ((p : Int) * 4294967296) = (s : Int))
    (hc : ∀ w : World, Calls Tryd.prog 68 #[.int .u64 (x : Int), .int .u64 (x : Int)] w fun e w' => e = .returned (.tuple #[.int .u64 (a : Int), .int .u64 (b : Int)]) ∧ w' = w)
    (hd : ∀ w : World, Calls Tryd.prog 68 #[.int .u64 (b : Int), .int .u64 (x : Int)] w fun e w' => e = .returned (.tuple #[.int .u64 (c : Int), .int .u64 (d : Int)]) ∧ w' = w)
    (he : ∀ w : World, Calls Tryd.prog 68 #[.int .u64 (a : Int), .int .u64 (x : Int)] w fun e w' => e = .returned (.tuple #[.int .u64 0, .int .u64 (m : Int)]) ∧ w' = w)
    (hadd : ∀ wx : World, (callFunc 73 #[.int .u64 (c : Int), .int .u64 (m : Int), .int .u64 0]).run Tryd.prog wx = .ok (.value (.tuple #[.int .u64 (q : Int), .int .u64 0])) wx)
    (hB : q < s) :
    Calls Tryd.prog 58 #[.int .u64 (x : Int), .int .u64 (p : Int), .int .i64 3] w fun e w' => e = .returned (.bool true) ∧ w = w' := by
  go_enter Tryd.func58, Tryd.ntmps58
  go_wp2_with (first | (go_at_call 68; (with_reducible refine (hc _).mono ?_); rintro e w' ⟨rfl, hw⟩; subst hw) | (go_at_call 68; (with_reducible refine (hd _).mono ?_); rintro e w' ⟨rfl, hw⟩; subst hw) | (go_at_call 68; (with_reducible refine (he _).mono ?_); rintro e w' ⟨rfl, hw⟩; subst hw))
  go_ret
  exact ⟨ret_b (by simp_all), rfl⟩
set_option maxRecDepth 100000 in
set_option maxHeartbeats 2000000 in
theorem rbelow3_gt (x p a b c d m q s : Nat) (w : World) (hw : IntKind.u64.wrap ((p : Int) * 4294967296) = (s : Int))
    (hc : ∀ w : World, Calls Tryd.prog 68 #[.int .u64 (x : Int), .int .u64 (x : Int)] w fun e w' => e = .returned (.tuple #[.int .u64 (a : Int), .int .u64 (b : Int)]) ∧ w' = w)
    (hd : ∀ w : World, Calls Tryd.prog 68 #[.int .u64 (b : Int), .int .u64 (x : Int)] w fun e w' => e = .returned (.tuple #[.int .u64 (c : Int), .int .u64 (d : Int)]) ∧ w' = w)
    (he : ∀ w : World, Calls Tryd.prog 68 #[.int .u64 (a : Int), .int .u64 (x : Int)] w fun e w' => e = .returned (.tuple #[.int .u64 0, .int .u64 (m : Int)]) ∧ w' = w)
    (hadd : ∀ wx : World, (callFunc 73 #[.int .u64 (c : Int), .int .u64 (m : Int), .int .u64 0]).run Tryd.prog wx = .ok (.value (.tuple #[.int .u64 (q : Int), .int .u64 0])) wx)
    (hB : s ≤ q) (hC : ((q : Int) == (s : Int)) = false) :
    Calls Tryd.prog 58 #[.int .u64 (x : Int), .int .u64 (p : Int), .int .i64 3] w fun e w' => e = .returned (.bool false) ∧ w = w' := by
  go_enter Tryd.func58, Tryd.ntmps58
  go_wp2_with (first | (go_at_call 68; (with_reducible refine (hc _).mono ?_); rintro e w' ⟨rfl, hw⟩; subst hw) | (go_at_call 68; (with_reducible refine (hd _).mono ?_); rintro e w' ⟨rfl, hw⟩; subst hw) | (go_at_call 68; (with_reducible refine (he _).mono ?_); rintro e w' ⟨rfl, hw⟩; subst hw))
  go_ret
  exact ⟨ret_b (by simp_all), rfl⟩
set_option maxRecDepth 100000 in
set_option maxHeartbeats 2000000 in
theorem rbelow3_eq (x p a b c d m q s : Nat) (w : World) (hw : IntKind.u64.wrap ((p : Int) * 4294967296) = (s : Int))
    (hc : ∀ w : World, Calls Tryd.prog 68 #[.int .u64 (x : Int), .int .u64 (x : Int)] w fun e w' => e = .returned (.tuple #[.int .u64 (a : Int), .int .u64 (b : Int)]) ∧ w' = w)
    (hd : ∀ w : World, Calls Tryd.prog 68 #[.int .u64 (b : Int), .int .u64 (x : Int)] w fun e w' => e = .returned (.tuple #[.int .u64 (c : Int), .int .u64 (d : Int)]) ∧ w' = w)
    (he : ∀ w : World, Calls Tryd.prog 68 #[.int .u64 (a : Int), .int .u64 (x : Int)] w fun e w' => e = .returned (.tuple #[.int .u64 0, .int .u64 (m : Int)]) ∧ w' = w)
    (hadd : ∀ wx : World, (callFunc 73 #[.int .u64 (c : Int), .int .u64 (m : Int), .int .u64 0]).run Tryd.prog wx = .ok (.value (.tuple #[.int .u64 (q : Int), .int .u64 0])) wx)
    (hB : s ≤ q) (hC : ((q : Int) == (s : Int)) = true) (hD : ((d : Int) == 0) = true) :
    Calls Tryd.prog 58 #[.int .u64 (x : Int), .int .u64 (p : Int), .int .i64 3] w fun e w' => e = .returned (.bool true) ∧ w = w' := by
  go_enter Tryd.func58, Tryd.ntmps58
  go_wp2_with (first | (go_at_call 68; (with_reducible refine (hc _).mono ?_); rintro e w' ⟨rfl, hw⟩; subst hw) | (go_at_call 68; (with_reducible refine (hd _).mono ?_); rintro e w' ⟨rfl, hw⟩; subst hw) | (go_at_call 68; (with_reducible refine (he _).mono ?_); rintro e w' ⟨rfl, hw⟩; subst hw))
  go_ret
  exact ⟨ret_b (by simp_all), rfl⟩
set_option maxRecDepth 100000 in
set_option maxHeartbeats 2000000 in
theorem rbelow3_ne (x p a b c d m q s : Nat) (w : World) (hw : IntKind.u64.wrap ((p : Int) * 4294967296) = (s : Int))
    (hc : ∀ w : World, Calls Tryd.prog 68 #[.int .u64 (x : Int), .int .u64 (x : Int)] w fun e w' => e = .returned (.tuple #[.int .u64 (a : Int), .int .u64 (b : Int)]) ∧ w' = w)
    (hd : ∀ w : World, Calls Tryd.prog 68 #[.int .u64 (b : Int), .int .u64 (x : Int)] w fun e w' => e = .returned (.tuple #[.int .u64 (c : Int), .int .u64 (d : Int)]) ∧ w' = w)
    (he : ∀ w : World, Calls Tryd.prog 68 #[.int .u64 (a : Int), .int .u64 (x : Int)] w fun e w' => e = .returned (.tuple #[.int .u64 0, .int .u64 (m : Int)]) ∧ w' = w)
    (hadd : ∀ wx : World, (callFunc 73 #[.int .u64 (c : Int), .int .u64 (m : Int), .int .u64 0]).run Tryd.prog wx = .ok (.value (.tuple #[.int .u64 (q : Int), .int .u64 0])) wx)
    (hB : s ≤ q) (hC : ((q : Int) == (s : Int)) = true) (hD : ((d : Int) == 0) = false) :
    Calls Tryd.prog 58 #[.int .u64 (x : Int), .int .u64 (p : Int), .int .i64 3] w fun e w' => e = .returned (.bool false) ∧ w = w' := by
  go_enter Tryd.func58, Tryd.ntmps58
  go_wp2_with (first | (go_at_call 68; (with_reducible refine (hc _).mono ?_); rintro e w' ⟨rfl, hw⟩; subst hw) | (go_at_call 68; (with_reducible refine (hd _).mono ?_); rintro e w' ⟨rfl, hw⟩; subst hw) | (go_at_call 68; (with_reducible refine (he _).mono ?_); rintro e w' ⟨rfl, hw⟩; subst hw))
  go_ret
  exact ⟨ret_b (by simp_all), rfl⟩
theorem rbelow3 (x p : Nat) (w : World) (hx : x ≤ 274877906944) (hp : p ≤ 400) :
    Calls Tryd.prog 58 #[.int .u64 (x : Int), .int .u64 (p : Int), .int .i64 3] w fun e w' => e = .returned (.bool (belP 3 x p)) ∧ w = w' := by
  have hc := fun w => Tryd.bits_Mul64 x x (by omega) (by omega) w
  have hb0 : x * x % 18446744073709551616 < 18446744073709551616 := Nat.mod_lt _ (by decide)
  have ha0 : x * x / 18446744073709551616 ≤ 4096 := by
    have := Nat.mul_le_mul hx hx
    omega
  have hxx := Nat.div_add_mod (x * x) 18446744073709551616
  obtain ⟨a, ha⟩ : ∃ a, x * x / 18446744073709551616 = a := ⟨_, rfl⟩
  obtain ⟨b, hb⟩ : ∃ a, x * x % 18446744073709551616 = a := ⟨_, rfl⟩
  rw [ha, hb] at hc hxx
  rw [ha] at ha0
  rw [hb] at hb0
  have hd := fun w => Tryd.bits_Mul64 b x hb0 (by omega) w
  have he := fun w => Tryd.bits_Mul64 a x (by omega) (by omega) w
  have hax : a * x ≤ 4096 * 274877906944 := Nat.mul_le_mul ha0 hx
  have hax1 : a * x / 18446744073709551616 = 0 := Nat.div_eq_of_lt (by omega)
  have hax2 : a * x % 18446744073709551616 = a * x := Nat.mod_eq_of_lt (by omega)
  rw [hax1, hax2] at he
  have hbx := Nat.div_add_mod (b * x) 18446744073709551616
  have hcle : b * x / 18446744073709551616 ≤ 274877906944 := by
    rw [Nat.div_le_iff_le_mul (by decide)]
    have := Nat.mul_le_mul (Nat.le_of_lt hb0) hx; omega
  have hdlt : b * x % 18446744073709551616 < 18446744073709551616 := Nat.mod_lt _ (by decide)
  obtain ⟨c, hcc⟩ : ∃ a, b * x / 18446744073709551616 = a := ⟨_, rfl⟩
  obtain ⟨d, hdd⟩ : ∃ a, b * x % 18446744073709551616 = a := ⟨_, rfl⟩
  obtain ⟨m, hm⟩ : ∃ m, a * x = m := ⟨_, rfl⟩
  rw [hcc, hdd] at hd hbx
  rw [hcc] at hcle
  rw [hdd] at hdlt
  rw [hm] at he hax
  obtain ⟨q, hq⟩ : ∃ q, c + m = q := ⟨_, rfl⟩
  have hB := belP3_eq x p a b c d m q hxx hbx hm hq hdlt
  have hadd := add64_run c m q hq (by omega)
  obtain ⟨s, hs⟩ : ∃ s, p * 4294967296 = s := ⟨_, rfl⟩
  have hw : IntKind.u64.wrap ((p : Int) * 4294967296) = (s : Int) := by
    rw [← hs, Int.natCast_mul]; exact IntWalk.u64_in _ (by omega)
  rw [hs] at hB
  by_cases h1 : q < s
  · rw [← hB, decide_eq_true h1, Bool.true_or]
    exact rbelow3_lt x p a b c d m q s w hw hc hd he hadd h1
  · by_cases h2 : q = s
    · by_cases h3 : d = 0
      · rw [← hB, decide_eq_true h2, decide_eq_true h3, Bool.and_self, Bool.or_true]
        exact rbelow3_eq x p a b c d m q s w hw hc hd he hadd (by omega) (by simp [h2]) (by simp [h3])
      · rw [← hB, decide_eq_false h1, decide_eq_false h3, Bool.and_false, Bool.or_false]
        exact rbelow3_ne x p a b c d m q s w hw hc hd he hadd (by omega) (by simp [h2]) (by simp [h3])
    · rw [← hB, decide_eq_false h1, decide_eq_false h2, Bool.false_and, Bool.or_false]
      exact rbelow3_gt x p a b c d m q s w hw hc hd he hadd (by omega) (by simp; omega)
end Go.Proofs.YtfdeegafdaobdaaDoor

namespace Go.Proofs.YtfdeegafdaobdaaDoor
open Go.RowKit Go.ChangeShapes

theorem belP_mono {e x y p : Nat} (h : belP e x p = true) (hy : y ≤ x) : belP e y p = true := by
  unfold belP at h ⊢
  have h1 := of_decide_eq_true h
  exact decide_eq_true (Nat.le_trans (Nat.pow_le_pow_left hy e) h1)
theorem belP_up {e x y p : Nat} (h : belP e x p = false) (hy : x ≤ y) : belP e y p = false := by
  cases hb : belP e y p
  · rfl
  · rw [belP_mono hb hy] at h; exact h
set_option maxRecDepth 100000 in
set_option maxHeartbeats 1000000 in
theorem rroot (e p R : Nat) (w : World) (hp : p ≤ 400)
    (hb : ∀ (x : Nat) (w : World), x ≤ 274877906944 → Calls Tryd.prog 58 #[.int .u64 (x : Int), .int .u64 (p : Int), .int .i64 (e : Int)] w fun e' w' => e' = .returned (.bool (belP e x p)) ∧ w = w')
    (h1 : belP e R p = true) (h2 : belP e (R + 1) p = false) (hR : R + 1 ≤ 274877906944) :
    Calls Tryd.prog 35 #[.int .i64 (p : Int), .int .i64 (e : Int)] w fun e' w' => e' = .returned (.int .i64 ((R % 4294967296 : Nat) : Int)) ∧ w = w' := by
  have HB := Lib.hid hb
  have H1 := Lib.hid h1
  have H2 := Lib.hid h2
  have hp0 : (0 : Int) ≤ (p : Int) := by omega
  have hp4 : (p : Int) ≤ 400 := by omega
  clear hb h1 h2
  go_enter Tryd.func35, Tryd.ntmps35
  go_wp2
  go_loop [5, 6] (fun l h => ∃ a b : Nat, l = .int .u64 (a : Int) ∧ h = .int .u64 (b : Int) ∧ a < b ∧ b ≤ 274877906944 ∧ Hid (belP e a p = true) ∧ Hid (belP e b p = false)) (fun l h => (intOf h).toNat - (intOf l).toNat)
  case atStart => exact ⟨0, 274877906944, rfl, rfl, by decide, Nat.le_refl _, Lib.hid (belP_mono H1.out (Nat.zero_le _)), Lib.hid (belP_up H2.out hR)⟩
  case round =>
    obtain ⟨a, b, rfl, rfl, hab, hb38, HA, HBB⟩ := hrel
    by_cases hlt : a + 1 < b
    · obtain ⟨m, hm⟩ : ∃ m, (a + b) / 2 = m := ⟨_, rfl⟩
      have hmi : ((a : Int) + (b : Int)) / 2 = (m : Int) := by omega
      have hma : a < m := by omega
      have hmb : m < b := by omega
      have hcall := HB.out m
      have hm38 : m ≤ 274877906944 := by omega
      have hlt' : (a : Int) + 1 < (b : Int) := by omega
      by_cases hbel : belP e m p = true
      · rw [hbel] at hcall
        have HM := Lib.hid hbel
        have HCL := Lib.hid (fun w => hcall w hm38)
        clear hbel hcall hm
        go_wp2_with (go_at_call 58; (with_reducible refine (HCL.out _).mono ?_); rintro e' w' ⟨rfl, rfl⟩)
        go_round
        case rel => exact ⟨m, b, rfl, rfl, hmb, hb38, HM, HBB⟩
        case measure => simp [intOf]; omega
      · have hbf : belP e m p = false := by simpa using hbel
        rw [hbf] at hcall
        have HM := Lib.hid hbf
        have HCL := Lib.hid (fun w => hcall w hm38)
        clear hbel hbf hcall hm
        go_wp2_with (go_at_call 58; (with_reducible refine (HCL.out _).mono ?_); rintro e' w' ⟨rfl, rfl⟩)
        go_round
        case rel => exact ⟨a, m, rfl, rfl, hma, by omega, HA, HM⟩
        case measure => simp [intOf]; omega
    · have hab1 : b = a + 1 := by omega
      have haR : a = R := by
        have k1 := HA.out
        have k2 := HBB.out
        rw [hab1] at k2
        rcases Nat.lt_trichotomy a R with h | h | h
        · rw [belP_mono H1.out (show a + 1 ≤ R by omega)] at k2; cases k2
        · exact h
        · rw [belP_up H2.out (show R + 1 ≤ a by omega)] at k1; cases k1
      have HAR := Lib.hid haR
      have hlt' : (b : Int) ≤ (a : Int) + 1 := by omega
      clear hab1 haR hlt
      go_wp2
      go_ret
      exact ⟨ret_i (by rw [← HAR.out]), rfl⟩
end Go.Proofs.YtfdeegafdaobdaaDoor

namespace Go.Proofs.YtfdeegafdaobdaaDoor
open Go.RowKit Go.ChangeShapes

/-- Numbers as cells. -/
def intC (l : List Nat) : List Value := l.map fun n : Nat => .int .i64 (n : Int)
theorem intC_length (l : List Nat) : (intC l).length = l.length := by simp [intC]
theorem intC_snoc (l : List Nat) (n : Nat) : intC (l ++ [n]) = intC l ++ [.int .i64 (n : Int)] := by simp [intC]
theorem intC_get (l : List Nat) (j : Nat) (h : j < l.length) : (intC l)[j]? = some (.int .i64 ((l.getD j 0 : Nat) : Int)) := by
  simp [intC, List.getD_eq_getElem?_getD, h]
/-- The first k primes. -/
def PL (k : Nat) : List Nat := (prL.drop 1).take k
theorem PL_len (k : Nat) (h : k ≤ 64) : (PL k).length = k := by
  unfold PL; rw [List.length_take, List.length_drop]; show min k 64 = k; omega
theorem PL_get (k : Nat) (j : Nat) (hj : j < k) : (PL k).getD j 0 = pr (j + 1) := by
  unfold PL pr
  rw [List.getD_eq_getElem?_getD, List.getElem?_take_of_lt hj, List.getElem?_drop, List.getD_eq_getElem?_getD, Nat.add_comm 1 j]
theorem PL_succ : ∀ k, k < 64 → PL (k + 1) = PL k ++ [pr (k + 1)] := by decide +kernel
def allP (p : Nat) : Nat → Bool
  | 0 => true
  | j + 1 => allP p j && decide (p % pr (j + 1) ≠ 0)
theorem prime_tab : ∀ k, k < 64 → ∀ p, p < 320 → pr k < p → p ≤ pr (k + 1) → allP p k = decide (p = pr (k + 1)) := by decide +kernel
theorem pr_bound : ∀ k, k < 65 → 1 ≤ pr k ∧ pr k ≤ 311 := by decide +kernel
theorem info3 : (Tryd.prog.info? 3).map (fun i => (i.zero, i.size, i.bytes)) = some (some (.int .i64 0), 1, 8) := by kernel_rfl
def GotP (w : World) (e : Ending) (w' : World) : Prop := ∃ v, e = .returned v ∧ w'.ownsRow w.heap.size 3 1 v 64 (intC (PL 64)) ∧ Below w.heap.size w w'
set_option maxRecDepth 100000 in
set_option maxHeartbeats 2000000 in
theorem rprimes (w : World) : Calls Tryd.prog 34 #[.int .i64 64] w (GotP w) := by
  obtain ⟨i0, hi, hz0, hz1, hz2⟩ := info_parts info3
  go_enter Tryd.func34, Tryd.ntmps34
  go_wp2
  go_loopw [3, 4] (fun v pv wr => ∃ k p : Nat, k ≤ 64 ∧ pv = .int .i64 (p : Int) ∧ 2 ≤ p ∧ p ≤ 312 ∧ Hid (k < 64 → pr k < p ∧ p ≤ pr (k + 1)) ∧ wr.ownsRow w.heap.size 3 1 v k (intC (PL k)) ∧ Below w.heap.size w wr) (fun _ pv _ => 400 - (intOf pv).toNat)
  case atStart => exact ⟨0, 2, by decide, rfl, by decide, by decide, Lib.hid (fun _ => by decide +kernel), World.ownsRow_nil _ _ _ _, Below.refl _ _⟩
  case round =>
    obtain ⟨k, p, hk, rfl, hp2, hp3, HP, hown, hB⟩ := hrel
    have hz := hB.size
    obtain ⟨A, cap, rfl⟩ : ∃ A cap, u3 = .slice A k cap := by
      rcases Joins.ownsRow_forms hown with ⟨h1, h2⟩ | ⟨g, cap, h1⟩
      · exact ⟨none, 0, by rw [h1, h2]⟩
      · exact ⟨_, _, h1⟩
    by_cases hlt : k < 64
    · have hq := HP.out hlt
      have hp3' : p ≤ 311 := Nat.le_trans hq.2 (pr_bound (k + 1) (by omega)).2
      have htab := prime_tab k hlt p (by omega) hq.1 hq.2
      have hAk : ∀ j, j < k → ∃ g, A = some ⟨g, 0, none⟩ ∧ wr.cell? ⟨g, j, none⟩ = some (.int .i64 ((pr (j + 1) : Nat) : Int)) := fun j hj => by
        obtain ⟨g, cp, hv⟩ := Joins.ownsRow_form hown (by omega : 0 < k)
        injection hv with h1 _ _
        subst h1
        refine ⟨g, rfl, ?_⟩
        rw [hown.cellAt j (by omega), intC_get _ _ (by rw [PL_len k hk]; exact hj), PL_get k j hj]
      have HAk := Lib.hid hAk
      have HTB := Lib.hid htab
      have HQ := Lib.hid hq
      have HO := Lib.hid hown
      have k64 : (k : Int) ≤ 64 := by omega
      have p2i : (2 : Int) ≤ (p : Int) := by omega
      have p3i : (p : Int) ≤ 311 := by omega
      have HB := Lib.hid hB
      clear hAk htab hq HP hown hB
      go_wp2
      go_loop [5, 6] (fun f i => ∃ j : Nat, j ≤ k ∧ i = .int .i64 (j : Int) ∧ f = .bool (allP p j)) (fun _ i => 64 - (intOf i).toNat)
      case atStart => exact ⟨0, Nat.zero_le _, rfl, rfl⟩
      case round =>
        obtain ⟨j, hj, rfl, rfl⟩ := hrel
        by_cases hjk : j < k
        · obtain ⟨g, rfl, hc⟩ := HAk.out j hjk
          have hb := pr_bound (j + 1) (by omega)
          have hal : allP p (j + 1) = (allP p j && decide (p % pr (j + 1) ≠ 0)) := rfl
          obtain ⟨q, hq⟩ : ∃ q, pr (j + 1) = q := ⟨_, rfl⟩
          rw [hq] at hc hb hal
          have q1 : (1 : Int) ≤ (q : Int) := by omega
          have j0 : (j : Int) < (k : Int) := by omega
          by_cases hm : p % q = 0
          · have hmi : (p : Int) % (q : Int) = 0 := by omega
            have HAL : Hid (allP p (j + 1) = false) := Lib.hid (by rw [hal]; simp [hm])
            clear hal hm hq
            go_wp2
            go_round
            case rel => exact ⟨j + 1, by omega, by go_num, by rw [HAL.out]⟩
            case measure => simp [intOf]; omega
          · have hmi : ((p : Int) % (q : Int) == 0) = false := by simp; omega
            have HAL : Hid (allP p (j + 1) = allP p j) := Lib.hid (by rw [hal]; simp [hm])
            clear hal hm hq
            go_wp2
            go_round
            case rel => exact ⟨j + 1, by omega, by go_num, by rw [HAL.out]⟩
            case measure => simp [intOf]; omega
        · obtain rfl : j = k := by omega
          by_cases hpp : p = pr (j + 1)
          · have hfl : allP p j = true := by rw [HTB.out, decide_eq_true hpp]
            rw [hfl]
            have HPP := Lib.hid hpp
            have hown := HO.out
            clear hfl hpp
            go_wp2_with (first | (at_builtin; refine wpList_append_own _ rfl _ _ 25 rfl w.heap.size 3 i0 (.int .i64 0) 1 8 Tryd.underlying25 hi hz0 hz1 hz2 rfl (by decide) _ j _ rfl (hown.alloc _) ⟨wr.heap.size, 0, none⟩ 1 1 [.int .i64 (p : Int)] rfl rfl ?_ ?_ ?_ ?_ ?_ ?_; exact World.news_of_block (cs := #[.int .i64 (p : Int)]) (t := 3) (fr := (0, 0)) (heap_alloc_new wr _); (simp [Value.oneCell']); (unfold maxLen; omega); omega; (simp; omega); intro v2 w3 hown3 hg3 _))
            have hB3 : Below w.heap.size w w3 := (HB.out.alloc hz _).grown hg3 (by simp; omega) (fun g hg => (hown.lt g hg).1)
            have hrow : intC (PL j) ++ [.int .i64 (p : Int)] = intC (PL (j + 1)) := by rw [PL_succ j hlt, intC_snoc, HPP.out]
            rw [hrow] at hown3
            have HO3 := Lib.hid hown3
            clear hrow hown3 hown hg3
            go_roundw
            case rel => exact ⟨j + 1, p + 1, by omega, by go_num, by omega, by omega, Lib.hid (fun h => by have h2 := pr_next (j + 1) h; have := HPP.out; omega), HO3.out, hB3⟩
            case measure => simp [intOf]; omega
          · have hfl : allP p j = false := by rw [HTB.out, decide_eq_false hpp]
            rw [hfl]
            have HPP := Lib.hid hpp
            clear hfl hpp
            go_wp2
            go_roundw
            case rel => exact ⟨j, p + 1, by omega, by go_num, by omega, by omega, Lib.hid (fun _ => by have := HQ.out; have := HPP.out; omega), HO.out, HB.out⟩
            case measure => simp [intOf]; omega
    · obtain rfl : k = 64 := by omega
      go_wp2
      go_ret
      exact ⟨_, rfl, hown, hB⟩
end Go.Proofs.YtfdeegafdaobdaaDoor

namespace Go.Proofs.YtfdeegafdaobdaaDoor
open Go.RowKit Go.ChangeShapes

def octP (l : List Nat) : Nat → List UInt8
  | 0 => []
  | k + 1 => octP l k ++ beB 4 (l.getD k 0)
theorem octP_len (l : List Nat) : ∀ k, (octP l k).length = 4 * k
  | 0 => rfl
  | k + 1 => by rw [octP, List.length_append, octP_len l k, beB_length]; omega
theorem octP_W (s : W8) : octP s.list 8 = octW s := by
  simp [octP, W8.list, octW]
set_option maxRecDepth 100000 in
set_option maxHeartbeats 1000000 in
theorem roctets (l : List Nat) (g cap : Nat) (w : World) (hl : ∀ j, j < 8 → l.getD j 0 ≤ 4294967295) (hg : g < w.heap.size) (hc : ∀ j, j < 8 → w.cell? ⟨g, j, none⟩ = some (.int .i64 ((l.getD j 0 : Nat) : Int))) :
    Calls Tryd.prog 40 #[.slice (some ⟨g, 0, none⟩) 8 cap] w fun e w' => e = .returned (.string (bs (octP l 8))) ∧ Below w.heap.size w w' := by
  have HC := Lib.hid hc
  have HL := Lib.hid hl
  clear hc hl
  go_enter Tryd.func40, Tryd.ntmps40
  go_wp2
  go_loopw [3, 4] (fun t i wr => ∃ k : Nat, k ≤ 8 ∧ i = .int .i64 (k : Int) ∧ t = .string (bs (octP l k)) ∧ Below w.heap.size w wr) (fun _ i _ => 8 - (intOf i).toNat)
  case atStart => exact ⟨0, Nat.zero_le _, rfl, rfl, Below.refl _ _⟩
  case round =>
    obtain ⟨k, hk, rfl, rfl, hB⟩ := hrel
    by_cases hlt : k < 8
    · have c0 := (hB.cell (p := ⟨g, k, none⟩) hg).trans (HC.out k hlt)
      have v0 := HL.out k hlt
      have HN : Hid (octP l (k + 1) = octP l k ++ beB 4 (l.getD k 0)) := Lib.hid rfl
      have hsz : (bs (octP l k)).size ≤ 32 := by rw [bs_size, octP_len]; omega
      obtain ⟨v, hv⟩ : ∃ v, l.getD k 0 = v := ⟨_, rfl⟩
      rw [hv] at c0 v0 HN
      have hp := fun w => refPut_any 4 v w (by decide) (by omega)
      have hs4 : (⟨(beB 4 v).toArray⟩ : ByteArray).size ≤ 4 := by show (beB 4 v).toArray.size ≤ 4; rw [List.size_toArray, beB_length]; exact Nat.le_refl _
      have HP := Lib.hid hp
      have k0 : (k : Int) < 8 := by omega
      clear hv hp
      go_wp2_with (go_at_call 64; refine (HP.out _).mono ?_; rintro e w1 ⟨rfl, hb⟩)
      have hB1 : Below w.heap.size w w1 := bstep hB hb
      clear hb
      go_roundw
      case rel => exact ⟨k + 1, by omega, by go_num, by rw [HN.out, ← bs_append]; rfl, hB1⟩
      case measure => simp [intOf]; omega
    · obtain rfl : k = 8 := by omega
      go_wp2
      go_ret
      exact ⟨rfl, hB⟩
end Go.Proofs.YtfdeegafdaobdaaDoor

namespace Go.Proofs.YtfdeegafdaobdaaDoor
open Go.RowKit Go.ChangeShapes

def szOf : Value → Nat
  | .string s => s.size
  | _ => 0
/-- How many octets 0 stand behind n octets and the octet 128. -/
def zN (n : Nat) : Nat := (119 - n % 64) % 64
theorem close_eq (n : Nat) (hn : n ≤ 1099511627776) : [128] ++ List.replicate (zN n) 0 ++ beB 8 (8 * n) = closeL n := by
  have h : beB 8 (8 * n) = 0 :: beB 7 (8 * n) := by
    rw [beB_succ 7 (8 * n)]
    congr 1
    rw [Nat.div_eq_of_lt (by omega)]
    rfl
  rw [h]
  unfold closeL zN
  rw [List.replicate_succ']
  simp
set_option maxRecDepth 100000 in
set_option maxHeartbeats 2000000 in
theorem rclosing (t : List UInt8) (n : Nat) (w : World) (hn : n ≤ 1099511627776) (ht : t.length = n % 64) :
    Calls Tryd.prog 42 #[.string (bs t), .int .i64 (n : Int)] w fun e w' => e = .returned (.string (bs (t ++ closeL n))) ∧ Below w.heap.size w w' := by
  have HT := Lib.hid ht
  have HCL := Lib.hid (close_eq n hn)
  have lt : (bs t).size ≤ 63 := by rw [bs_size]; omega
  have hz : zN n ≤ 63 := by unfold zN; omega
  have hone := one_string w 128 (by decide) 128 rfl
  clear ht
  go_enter Tryd.func42, Tryd.ntmps42
  go_wp2
  go_loopw [5] (fun s wr => ∃ j : Nat, j ≤ zN n ∧ s = .string (bs (t ++ [128] ++ List.replicate j 0)) ∧ Below w.heap.size w wr) (fun s _ => 200 - szOf s)
  case atStart => exact ⟨0, Nat.zero_le _, by rw [List.replicate_zero, List.append_nil, ← bs_append]; rfl, by go_grown⟩
  case round =>
    obtain ⟨j, hj, rfl, hB⟩ := hrel
    clear hone
    have hsz : (bs (t ++ [128] ++ List.replicate j 0)).size = n % 64 + 1 + j := by rw [bs_size, List.length_append, List.length_append, List.length_replicate, HT.out]; rfl
    have HR : Hid (bs (t ++ [128] ++ List.replicate (j + 1) 0) = bs (t ++ [128] ++ List.replicate j 0) ++ ⟨#[0]⟩) := Lib.hid (by
      rw [List.replicate_succ', ← List.append_assoc, ← bs_append]; rfl)
    obtain ⟨s, hs⟩ : ∃ s, bs (t ++ [128] ++ List.replicate j 0) = s := ⟨_, rfl⟩
    rw [hs] at hsz HR ⊢
    have hs9 : s.size ≤ 127 := by omega
    have hone := one_string wr 0 (by decide) 0 rfl
    rw [show UInt8.ofNat 0 = 0 from rfl] at hone
    by_cases hlt : j < zN n
    · have hne : ((s.size : Int) % 64 == 56) = false := by
        simp; unfold zN at hlt; omega
      have HSZ := Lib.hid hsz
      clear hs hsz
      go_wp2
      go_roundw
      case rel => exact ⟨j + 1, by omega, by rw [HR.out], hB.alloc hB.size _⟩
      case measure =>
        show 200 - (s ++ (⟨#[0]⟩ : ByteArray)).size < 200 - s.size
        rw [ByteArray.size_append, show (⟨#[0]⟩ : ByteArray).size = 1 from rfl]
        omega
    · obtain rfl : j = zN n := by omega
      have heq : (s.size : Int) % 64 = 56 := by unfold zN at hsz; omega
      have HS := Lib.hid hs
      clear hs hsz hone HR hlt hj
      go_wp2
      go_loopw [6, 7, 8] (fun x t i wq => ∃ k : Nat, k ≤ 8 ∧ i = .int .i64 (k : Int) ∧ x = .int .i64 ((8 * n / 256 ^ k : Nat) : Int) ∧ t = .string ⟨(beB k (8 * n)).toArray⟩ ∧ Below w.heap.size w wq) (fun _ _ i _ => 8 - (intOf i).toNat)
      case atStart => exact ⟨0, Nat.zero_le _, rfl, by simp, rfl, hB⟩
      case round =>
        obtain ⟨k, hk, rfl, rfl, rfl, hBq⟩ := hrel
        have hz := hBq.size
        by_cases hk8 : k < 8
        · have hq : 8 * n / 256 ^ k ≤ 8796093022208 := Nat.le_trans (Nat.div_le_self _ _) (by omega)
          have hs2 : 8 * n / 256 ^ (k + 1) = 8 * n / 256 ^ k / 256 := by rw [Nat.pow_succ, Nat.div_div_eq_div_mul]
          have hb := beB_succ k (8 * n)
          have hl := beB_length k (8 * n)
          have HS2 := Lib.hid hs2
          have HBB := Lib.hid hb
          generalize hx : 8 * n / 256 ^ k = q at hq HBB HS2 ⊢
          have hq256 : q % 256 < 256 := Nat.mod_lt _ (by decide)
          have hone2 := one_string wr (q % 256) hq256 ((q : Int) % 256) (by omega)
          have hl1 : (beB k (8 * n)).length ≤ 8 := by omega
          have hl2 : (⟨(beB k (8 * n)).toArray⟩ : ByteArray).size ≤ 8 := by show (beB k (8 * n)).toArray.size ≤ 8; simpa using hl1
          have hqw : IntKind.u8.wrap ((q : Int) % 256) = (q : Int) % 256 := by rw [IntKind.wrap_u8']; omega
          clear hs2 hb hx hl
          go_wp2
          go_roundw
          case rel => exact ⟨k + 1, by omega, by go_num, by rw [HS2.out]; go_num, by rw [one_append, HBB.out], hBq.alloc hz _⟩
          case measure => simp [intOf]; omega
        · obtain rfl : k = 8 := by omega
          have hl2 : (⟨(beB 8 (8 * n)).toArray⟩ : ByteArray).size ≤ 8 := by show (beB 8 (8 * n)).toArray.size ≤ 8; rw [List.size_toArray, beB_length]; exact Nat.le_refl _
          go_wp2
          go_ret
          refine ⟨?_, hBq⟩
          rw [← HS.out, show (⟨(beB 8 (8 * n)).toArray⟩ : ByteArray) = bs (beB 8 (8 * n)) from rfl, bs_append, ← HCL.out]
          simp
end Go.Proofs.YtfdeegafdaobdaaDoor
