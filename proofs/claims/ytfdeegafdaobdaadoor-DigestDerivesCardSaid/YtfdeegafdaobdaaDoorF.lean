/- Contracts of the search for the constants: primes, roots. -/
import Derived.Test.YtfdeegafdaobdaaDoorR
import Derived.Test.YtfdeegafdaobdaaDoorShelf
namespace Go.Proofs.YtfdeegafdaobdaaDoor
open Go.RowKit Go.ChangeShapes

theorem ret_b {a b : Bool} (h : a = b) : Ending.returned (.bool a) = .returned (.bool b) := by rw [h]
/-- Whether no number from d on whose square is at most n divides n. -/
def prmF : Nat → Nat → Nat → Bool
  | 0, _, _ => false
  | f + 1, n, d => if d * d ≤ n then (if n % d = 0 then false else prmF f n (d + 1)) else decide (1 < n)
def prm (n : Nat) : Bool := prmF 30 n 2
set_option maxHeartbeats 400000 in
theorem isPrime_any (n : Nat) (w : World) (hn : n ≤ 400) :
    Calls Tryd.prog 95 #[.int .u64 (n : Int)] w fun e w' => e = .returned (.bool (prm n)) ∧ w = w' := by
  go_enter Tryd.func95, Tryd.ntmps95
  go_wp2
  go_loop [3] (fun i => ∃ d : Nat, 2 ≤ d ∧ d ≤ 21 ∧ i = .int .u64 d ∧ Hid (prmF (32 - d) n d = prm n)) (fun i => 22 - (intOf i).toNat)
  case atStart => exact ⟨2, by decide, by decide, rfl, rfl⟩
  case round =>
    obtain ⟨d, h2, h21, rfl, HP⟩ := hrel
    have hs : d * d ≤ 441 := by
      have := Nat.mul_le_mul h21 h21; omega
    have hu : prmF (32 - d) n d = if d * d ≤ n then (if n % d = 0 then false else prmF (32 - (d + 1)) n (d + 1)) else decide (1 < n) := by
      rw [show 32 - d = (32 - (d + 1)) + 1 by omega, prmF]
    have HU := Lib.hid (HP.out.symm.trans hu)
    obtain ⟨q, hq⟩ : ∃ q, d * d = q := ⟨_, rfl⟩
    have hw : IntKind.u64.wrap ((d : Int) * (d : Int)) = (q : Int) := by
      rw [← Int.natCast_mul, hq]; exact IntWalk.u64_in _ (by omega)
    have HQ := Lib.hid hq
    have hm : ((d : Int) * (d : Int)) = (q : Int) := by rw [← Int.natCast_mul, hq]
    clear hu HP
    by_cases hlt : q ≤ n
    · have hd : d ≤ 20 := by
        rcases Nat.lt_or_ge d 21 with h | h
        · omega
        · have := Nat.mul_le_mul h h; omega
      clear hq
      by_cases h0 : n % d = 0
      · have hz : (n : Int) % (d : Int) = 0 := by omega
        have hb : ((n : Int) % (d : Int) == 0) = true := by simp [hz]
        have H0 := Lib.hid h0
        clear h0 hz
        go_wp2
        go_ret
        exact ⟨ret_b (by rw [HU.out, HQ.out, if_pos hlt, if_pos H0.out]), rfl⟩
      · have hz : (n : Int) % (d : Int) ≠ 0 := by omega
        have hb : ((n : Int) % (d : Int) == 0) = false := by simp [hz]
        have H0 := Lib.hid h0
        clear h0 hz
        go_wp2
        go_round
        case rel => exact ⟨d + 1, by omega, by omega, by go_num, Lib.hid (by rw [HU.out, HQ.out, if_pos hlt, if_neg H0.out])⟩
        case measure => simp [intOf]; omega
    · clear hq
      go_wp2
      go_ret
      exact ⟨ret_b (by rw [HU.out, HQ.out, if_neg hlt, Bool.eq_iff_iff]; simp; omega), rfl⟩
set_option maxHeartbeats 400000 in
theorem primeAfter_any (p q : Nat) (w : World) (hpq : p < q) (hq : q ≤ 400) (hp : prm q = true) (hb : ∀ m, p < m → m < q → prm m = false) :
    Calls Tryd.prog 91 #[.int .u64 (p : Int)] w fun e w' => e = .returned (.int .u64 (q : Int)) ∧ w = w' := by
  have HP := Lib.hid hp
  have HB := Lib.hid hb
  clear hp hb
  go_enter Tryd.func91, Tryd.ntmps91
  go_wp2
  go_loop [0] (fun i => ∃ m : Nat, p < m ∧ m ≤ q ∧ i = .int .u64 m) (fun i => 400 - (intOf i).toNat)
  case atStart => exact ⟨p + 1, by omega, by omega, by go_num⟩
  case round =>
    obtain ⟨m, h1, h2, rfl⟩ := hrel
    by_cases hlt : m < q
    · have hc : ∀ w, Calls Tryd.prog 95 #[.int .u64 (m : Int)] w fun e w' => e = .returned (.bool false) ∧ w = w' := fun w => by
        have := isPrime_any m w (by omega); rw [HB.out m h1 hlt] at this; exact this
      go_wp2_with (go_at_call 95; (with_reducible refine (hc _).mono ?_); rintro e w' ⟨rfl, rfl⟩)
      go_round
      case rel => exact ⟨m + 1, by omega, by omega, by go_num⟩
      case measure => simp [intOf]; omega
    · obtain rfl : m = q := by omega
      have hc : ∀ w, Calls Tryd.prog 95 #[.int .u64 (m : Int)] w fun e w' => e = .returned (.bool true) ∧ w = w' := fun w => by
        have := isPrime_any m w (by omega); rw [HP.out] at this; exact this
      go_wp2_with (go_at_call 95; (with_reducible refine (hc _).mono ?_); rintro e w' ⟨rfl, rfl⟩)
      go_ret
      exact ⟨rfl, rfl⟩
def sqB (x p : Nat) : Bool := decide (x * x / 18446744073709551616 < p)
def cuB (x p : Nat) : Bool := decide (x * x / 18446744073709551616 * x + x * x % 18446744073709551616 * x / 18446744073709551616 < p * 4294967296)
set_option maxHeartbeats 400000 in
theorem sqB_any (x p : Nat) (w : World) (hx : x < 34359738368) (_hp : p ≤ 400) :
    Calls Tryd.prog 72 #[.int .u64 (x : Int), .int .u64 (p : Int)] w fun e w' => e = .returned (.bool (sqB x p)) ∧ w = w' := by
  have hc := fun w => Tryd.bits_Mul64 x x (by omega) (by omega) w
  have HE : Hid (∀ a : Nat, x * x / 18446744073709551616 = a → decide (a < p) = sqB x p) := fun a ha => by
    unfold sqB; rw [ha]
  obtain ⟨a, ha⟩ : ∃ a, x * x / 18446744073709551616 = a := ⟨_, rfl⟩
  obtain ⟨b, hb⟩ : ∃ a, x * x % 18446744073709551616 = a := ⟨_, rfl⟩
  rw [ha, hb] at hc
  have HA := Lib.hid ha
  clear ha hb
  go_enter Tryd.func72, Tryd.ntmps72
  go_wp2_with (go_at_call 68; (with_reducible refine (hc _).mono ?_); rintro e w' ⟨rfl, hw⟩; subst hw)
  go_ret
  exact ⟨ret_b (HE.out a HA.out), rfl⟩
set_option maxHeartbeats 400000 in
theorem cuB_any (x p : Nat) (w : World) (hx : x < 34359738368) (hp : p ≤ 400) :
    Calls Tryd.prog 75 #[.int .u64 (x : Int), .int .u64 (p : Int)] w fun e w' => e = .returned (.bool (cuB x p)) ∧ w = w' := by
  have hc := fun w => Tryd.bits_Mul64 x x (by omega) (by omega) w
  have hb0 : x * x % 18446744073709551616 < 18446744073709551616 := Nat.mod_lt _ (by decide)
  have hxx : x * x < 34359738368 * 34359738368 := Nat.mul_lt_mul'' hx hx
  have ha0 : x * x / 18446744073709551616 ≤ 63 := by omega
  have hd := fun w => Tryd.bits_Mul64 (x * x % 18446744073709551616) x hb0 (by omega) w
  have hc0 : x * x % 18446744073709551616 * x / 18446744073709551616 ≤ x := by
    rw [Nat.div_le_iff_le_mul (by decide)]
    have := Nat.mul_le_mul_right x (Nat.le_of_lt hb0); omega
  have hax : x * x / 18446744073709551616 * x ≤ 63 * x := Nat.mul_le_mul_right x ha0
  have hcu : cuB x p = decide (x * x / 18446744073709551616 * x + x * x % 18446744073709551616 * x / 18446744073709551616 < p * 4294967296) := rfl
  obtain ⟨a, ha⟩ : ∃ a, x * x / 18446744073709551616 = a := ⟨_, rfl⟩
  obtain ⟨b, hb⟩ : ∃ a, x * x % 18446744073709551616 = a := ⟨_, rfl⟩
  rw [ha, hb] at hc hcu
  rw [ha] at hax
  rw [hb] at hd hc0
  obtain ⟨c, hcc⟩ : ∃ a, b * x / 18446744073709551616 = a := ⟨_, rfl⟩
  obtain ⟨d, hdd⟩ : ∃ a, b * x % 18446744073709551616 = a := ⟨_, rfl⟩
  rw [hcc, hdd] at hd
  rw [hcc] at hcu hc0
  obtain ⟨m, hm⟩ : ∃ m, a * x = m := ⟨_, rfl⟩
  rw [hm] at hcu hax
  have hmw : IntKind.u64.wrap ((a : Int) * (x : Int)) = (m : Int) := by
    rw [← Int.natCast_mul, hm]; exact IntWalk.u64_in _ (by omega)
  have hmi : ((a : Int) * (x : Int)) = (m : Int) := by rw [← Int.natCast_mul, hm]
  have HCU := Lib.hid hcu
  clear ha hb hcc hdd hm hcu hb0 hxx ha0
  go_enter Tryd.func75, Tryd.ntmps75
  go_wp2_with (first | (go_at_call 68; (with_reducible refine (hc _).mono ?_); rintro e w' ⟨rfl, hw⟩; subst hw) | (go_at_call 68; (with_reducible refine (hd _).mono ?_); rintro e w' ⟨rfl, hw⟩; subst hw))
  go_ret
  refine ⟨ret_b ?_, rfl⟩
  rw [HCU.out, Bool.eq_iff_iff]
  simp
  omega
theorem u64_or {a b : Nat} (ha : a < 9223372036854775808) (hb : b < 9223372036854775808) : bits .or .u64 (a : Int) (b : Int) = ((a ||| b : Nat) : Int) := by
  show IntKind.u64.wrap ((BitVec.ofInt 64 (a : Int) ||| BitVec.ofInt 64 (b : Int)).toNat : Int) = _
  have h3 : a ||| b < 2 ^ 63 := Nat.or_lt_two_pow ha hb
  rw [BitVec.toNat_or, BitVec.ofInt_natCast, BitVec.ofInt_natCast, BitVec.toNat_ofNat, BitVec.toNat_ofNat, Nat.mod_eq_of_lt (by omega), Nat.mod_eq_of_lt (by omega)]
  exact IntWalk.u64_in _ (by omega)
/-- The greatest number below, bit by bit: i bits are done. -/
def lastB (B : Nat → Nat → Bool) (p : Nat) : Nat → Nat
  | 0 => 0
  | i + 1 => if B (lastB B p i ||| 2 ^ (34 - i)) p = true then lastB B p i ||| 2 ^ (34 - i) else lastB B p i
theorem bit_lt (i : Nat) : 2 ^ (34 - i) < 34359738368 := by
  have : 2 ^ (34 - i) ≤ 2 ^ 34 := Nat.pow_le_pow_right (by decide) (by omega)
  omega
theorem lastB_lt (B : Nat → Nat → Bool) (p : Nat) : ∀ i, lastB B p i < 34359738368
  | 0 => Nat.zero_lt_succ _
  | i + 1 => by
    have h := lastB_lt B p i
    have h2 : lastB B p i ||| 2 ^ (34 - i) < 2 ^ 35 := Nat.or_lt_two_pow h (bit_lt i)
    rw [lastB]
    split
    · exact h2
    · exact h
set_option maxRecDepth 100000 in
set_option maxHeartbeats 400000 in
theorem last_sq (p : Nat) (hp : p ≤ 400) (w : World) :
    Calls Tryd.prog 92 #[.int .u64 (p : Int), .func (.func 72) #[] #[]] w fun e w' => e = .returned (.int .u64 (lastB sqB p 35 : Nat)) ∧ w = w' := by
  go_enter Tryd.func92, Tryd.ntmps92
  go_wp2
  go_loop [5, 8] (fun x i => ∃ k v : Nat, k ≤ 35 ∧ i = .int .i64 k ∧ x = .int .u64 v ∧ Hid (lastB sqB p k = v)) (fun _ i => 35 - (intOf i).toNat)
  case atStart => exact ⟨0, 0, by decide, rfl, rfl, rfl⟩
  case round =>
    obtain ⟨k, v, hk, rfl, rfl, HV⟩ := hrel
    by_cases hlt : k < 35
    · have hv : v < 34359738368 := HV.out ▸ lastB_lt sqB p k
      have hb := bit_lt k
      have hn : lastB sqB p (k + 1) = if sqB (v ||| 2 ^ (34 - k)) p = true then v ||| 2 ^ (34 - k) else v := by rw [lastB, HV.out]
      obtain ⟨m, hm⟩ : ∃ m, 2 ^ (34 - k) = m := ⟨_, rfl⟩
      have hpw : IntKind.u64.wrap ((2 : Int) ^ (34 - k)) = (m : Int) := by
        rw [show ((2 : Int) ^ (34 - k)) = (m : Int) by rw [← hm]; simp, IntWalk.u64_in _ (by omega)]
      have ho := u64_or (a := v) (b := m) (by omega) (by omega)
      have hlo : v ||| m < 2 ^ 35 := Nat.or_lt_two_pow hv (by omega)
      rw [hm] at hn
      have HN := Lib.hid hn
      have hc := fun w => sqB_any (v ||| m) p w hlo hp
      obtain ⟨x, hx⟩ : ∃ x, v ||| m = x := ⟨_, rfl⟩
      rw [hx] at ho hc
      have HX := Lib.hid hx
      clear hn hm hx hlo hv hb
      cases hbb : sqB x p
      · have HBB := Lib.hid hbb
        rw [hbb] at hc
        clear hbb
        go_wp2_with (go_at_call 72; (with_reducible refine (hc _).mono ?_); rintro e w' ⟨rfl, rfl⟩)
        go_round
        case rel => exact ⟨k + 1, v, by omega, by go_num, rfl, Lib.hid (by rw [HN.out, HX.out, if_neg (by rw [HBB.out]; decide)])⟩
        case measure => simp [intOf]; omega
      · have HBB := Lib.hid hbb
        rw [hbb] at hc
        clear hbb
        go_wp2_with (go_at_call 72; (with_reducible refine (hc _).mono ?_); rintro e w' ⟨rfl, rfl⟩)
        go_round
        case rel => exact ⟨k + 1, x, by omega, by go_num, rfl, Lib.hid (by rw [HN.out, HX.out, if_pos HBB.out])⟩
        case measure => simp [intOf]; omega
    · obtain rfl : k = 35 := by omega
      go_wp2
      go_ret
      exact ⟨by rw [HV.out]; rfl, rfl⟩
set_option maxRecDepth 100000 in
set_option maxHeartbeats 400000 in
theorem last_cu (p : Nat) (hp : p ≤ 400) (w : World) :
    Calls Tryd.prog 92 #[.int .u64 (p : Int), .func (.func 75) #[] #[]] w fun e w' => e = .returned (.int .u64 (lastB cuB p 35 : Nat)) ∧ w = w' := by
  go_enter Tryd.func92, Tryd.ntmps92
  go_wp2
  go_loop [5, 8] (fun x i => ∃ k v : Nat, k ≤ 35 ∧ i = .int .i64 k ∧ x = .int .u64 v ∧ Hid (lastB cuB p k = v)) (fun _ i => 35 - (intOf i).toNat)
  case atStart => exact ⟨0, 0, by decide, rfl, rfl, rfl⟩
  case round =>
    obtain ⟨k, v, hk, rfl, rfl, HV⟩ := hrel
    by_cases hlt : k < 35
    · have hv : v < 34359738368 := HV.out ▸ lastB_lt cuB p k
      have hb := bit_lt k
      have hn : lastB cuB p (k + 1) = if cuB (v ||| 2 ^ (34 - k)) p = true then v ||| 2 ^ (34 - k) else v := by rw [lastB, HV.out]
      obtain ⟨m, hm⟩ : ∃ m, 2 ^ (34 - k) = m := ⟨_, rfl⟩
      have hpw : IntKind.u64.wrap ((2 : Int) ^ (34 - k)) = (m : Int) := by
        rw [show ((2 : Int) ^ (34 - k)) = (m : Int) by rw [← hm]; simp, IntWalk.u64_in _ (by omega)]
      have ho := u64_or (a := v) (b := m) (by omega) (by omega)
      have hlo : v ||| m < 2 ^ 35 := Nat.or_lt_two_pow hv (by omega)
      rw [hm] at hn
      have HN := Lib.hid hn
      have hc := fun w => cuB_any (v ||| m) p w hlo hp
      obtain ⟨x, hx⟩ : ∃ x, v ||| m = x := ⟨_, rfl⟩
      rw [hx] at ho hc
      have HX := Lib.hid hx
      clear hn hm hx hlo hv hb
      cases hbb : cuB x p
      · have HBB := Lib.hid hbb
        rw [hbb] at hc
        clear hbb
        go_wp2_with (go_at_call 75; (with_reducible refine (hc _).mono ?_); rintro e w' ⟨rfl, rfl⟩)
        go_round
        case rel => exact ⟨k + 1, v, by omega, by go_num, rfl, Lib.hid (by rw [HN.out, HX.out, if_neg (by rw [HBB.out]; decide)])⟩
        case measure => simp [intOf]; omega
      · have HBB := Lib.hid hbb
        rw [hbb] at hc
        clear hbb
        go_wp2_with (go_at_call 75; (with_reducible refine (hc _).mono ?_); rintro e w' ⟨rfl, rfl⟩)
        go_round
        case rel => exact ⟨k + 1, x, by omega, by go_num, rfl, Lib.hid (by rw [HN.out, HX.out, if_pos HBB.out])⟩
        case measure => simp [intOf]; omega
    · obtain rfl : k = 35 := by omega
      go_wp2
      go_ret
      exact ⟨by rw [HV.out]; rfl, rfl⟩
end Go.Proofs.YtfdeegafdaobdaaDoor
