/- Contracts of numberOf and of octets. -/
import Derived.Test.YtbadiljligcenaaDoorFH
import Derived.StillTailTactics
import Derived.Laws.CopyOwn
namespace Go.Proofs.YtbadiljligcenaaDoor
open Go.RowKit Go.ChangeShapes
/-- The number of octets, the first one counting least. -/
def num : List UInt8 → Nat
  | [] => 0
  | b :: s => b.toNat + 256 * num s
theorem num_append (l m : List UInt8) : num (l ++ m) = num l + 256 ^ l.length * num m := by
  induction l with
  | nil => simp [num]
  | cons x l ih => rw [List.cons_append, num, num, ih, List.length_cons, Nat.pow_succ', Nat.mul_add, Nat.mul_assoc, Nat.add_assoc]
theorem num_lt (l : List UInt8) : num l < 256 ^ l.length := by
  induction l with
  | nil => simp [num]
  | cons a l ih =>
    have h2 := a.toNat_lt
    rw [num, List.length_cons, Nat.pow_succ']
    omega
theorem take_snocB (l : List UInt8) (k : Nat) (h : k < l.length) : l.take (k + 1) = l.take k ++ [l.getD k 0] := by
  rw [List.take_succ_eq_append_getElem h, List.getD_eq_getElem?_getD, List.getElem?_eq_getElem h]; rfl
theorem num_take (l : List UInt8) (k : Nat) (h : k < l.length) : num (l.take (k + 1)) = num (l.take k) + 256 ^ k * (l.getD k 0).toNat := by
  rw [take_snocB l k h, num_append, List.length_take, Nat.min_eq_left (by omega)]; simp [num]
/-- The limbs while octets go in: k of them. -/
def nbK (s : List UInt8) : Nat → List Nat
  | 0 => [0, 0, 0, 0, 0]
  | k + 1 => (nbK s k).set (8 * k / 51) ((nbK s k).getD (8 * k / 51) 0 ||| (s.getD k 0).toNat * 2 ^ (8 * k % 51))
theorem nbK_length (s : List UInt8) (k : Nat) : (nbK s k).length = 5 := by
  induction k with
  | zero => rfl
  | succ k ih => simp [nbK, ih]
theorem oct_sh (c : UInt8) (m : Nat) (h : m ≤ 50) : c.toNat * 2 ^ m < 2 ^ 58 := by
  have h1 := c.toNat_lt
  have h2 : 2 ^ m ≤ 2 ^ 50 := Nat.pow_le_pow_right (by decide) h
  have := Nat.mul_le_mul (show c.toNat ≤ 255 by omega) h2
  omega
theorem nbK_le (s : List UInt8) (k : Nat) : ∀ x ∈ nbK s k, x < 2 ^ 58 := by
  induction k with
  | zero => intro x hx; simp [nbK] at hx; omega
  | succ k ih =>
    intro x hx
    rcases List.mem_or_eq_of_mem_set hx with h | rfl
    · exact ih x h
    · refine Nat.or_lt_two_pow ?_ (oct_sh _ _ (by omega))
      rw [List.getD_eq_getElem?_getD]
      by_cases hi : 8 * k / 51 < (nbK s k).length
      · rw [List.getElem?_eq_getElem hi]; exact ih _ (List.getElem_mem hi)
      · rw [List.getElem?_eq_none (by omega)]; exact (by decide)
theorem nbK_inv (s : List UInt8) (k : Nat) (hk : k ≤ s.length) (h32 : k ≤ 32) :
    val (nbK s k) = num (s.take k) ∧ (∀ q, 8 * k ≤ 51 * q + 7 → (nbK s k).getD q 0 = 0) ∧ (nbK s k).getD (8 * k / 51) 0 < 2 ^ (8 * k % 51) := by
  induction k with
  | zero =>
    have h0 : ∀ q, (nbK s 0).getD q 0 = 0 := fun q => by
      simp only [nbK, List.getD_eq_getElem?_getD]
      match q with
      | 0 | 1 | 2 | 3 | 4 => rfl
      | q + 5 => rfl
    exact ⟨rfl, fun q _ => h0 q, by rw [h0]; exact Nat.pow_pos (by decide)⟩
  | succ k ih =>
    obtain ⟨h3, h2, h1⟩ := ih (by omega) (by omega)
    have hk5 : 8 * k / 51 < 5 := by omega
    have hor : (nbK s k).getD (8 * k / 51) 0 ||| (s.getD k 0).toNat * 2 ^ (8 * k % 51) = (nbK s k).getD (8 * k / 51) 0 + (s.getD k 0).toNat * 2 ^ (8 * k % 51) := by
      rw [Nat.or_comm, Nat.mul_comm (s.getD k 0).toNat, ← Nat.two_pow_add_eq_or_of_lt h1, Nat.add_comm]
    have hc := (s.getD k 0).toNat_lt
    rw [nbK, hor]
    refine ⟨?_, ?_, ?_⟩
    · rw [val_set _ _ _ _ (by rw [nbK_length]; exact hk5) rfl, h3, num_take s k (by omega)]
      congr 1
      rw [show (256 : Nat) = 2 ^ 8 from rfl, show (2251799813685248 : Nat) = 2 ^ 51 from rfl, ← Nat.pow_mul, ← Nat.pow_mul, Nat.mul_left_comm, ← Nat.pow_add, Nat.mul_comm]
      congr 2
      omega
    · intro q hq
      rw [getD_setM, if_neg (by omega)]
      exact h2 q (by omega)
    · rw [getD_setM]
      by_cases e : 8 * k / 51 = 8 * (k + 1) / 51
      · rw [if_pos ⟨e, by rw [nbK_length]; omega⟩, show 8 * (k + 1) % 51 = 8 * k % 51 + 8 by omega, Nat.pow_add]
        have := Nat.mul_le_mul_right (2 ^ (8 * k % 51)) (show (s.getD k 0).toNat ≤ 255 by omega)
        omega
      · rw [if_neg (fun h => e h.1), h2 _ (by omega)]
        exact Nat.pow_pos (by decide)
theorem nbK_val (s : List UInt8) (h : s.length ≤ 32) : val (nbK s s.length) = num s := by
  rw [(nbK_inv s s.length (Nat.le_refl _) h).1, List.take_length]
/-- Octets of a number. -/
def octV (v n : Nat) : List UInt8 := (List.range n).map fun i => UInt8.ofNat (v / 256 ^ i % 256)
theorem octV_length (v n : Nat) : (octV v n).length = n := by simp [octV]
theorem octV_succ (v n : Nat) : octV v (n + 1) = octV v n ++ [UInt8.ofNat (v / 256 ^ n % 256)] := by simp [octV, List.range_succ]
theorem octV_num (l : List UInt8) (n : Nat) (h : n ≤ l.length) : octV (num l) n = l.take n := by
  induction n with
  | zero => simp [octV]
  | succ n ih =>
    rw [octV_succ, ih (by omega), take_snocB l n (by omega)]
    congr 2
    have e : num l = num (l.take n) + 256 ^ n * num (l.drop n) := by
      have := num_append (l.take n) (l.drop n)
      rwa [List.take_append_drop, List.length_take, Nat.min_eq_left (by omega)] at this
    have hl := num_lt (l.take n)
    rw [List.length_take, Nat.min_eq_left (by omega)] at hl
    have hd : l.drop n = l.getD n 0 :: l.drop (n + 1) := by
      rw [List.drop_eq_getElem_cons (by omega), List.getD_eq_getElem?_getD, List.getElem?_eq_getElem (by omega)]; rfl
    have hc := (l.getD n 0).toNat_lt
    rw [e, Nat.add_mul_div_left _ _ (Nat.pow_pos (by decide)), Nat.div_eq_of_lt hl, Nat.zero_add, hd, num, Nat.add_mul_mod_self_left, Nat.mod_eq_of_lt (by omega)]
    simp
/-- What is held behind k limbs and j octets. -/
def hld (v k j : Nat) : Nat := v % 2251799813685248 ^ k / 256 ^ j
theorem pow_51 (k j : Nat) (h : 8 * j ≤ 51 * k) : 2251799813685248 ^ k = 256 ^ j * 2 ^ (51 * k - 8 * j) := by
  rw [show (256 : Nat) = 2 ^ 8 from rfl, show (2251799813685248 : Nat) = 2 ^ 51 from rfl, ← Nat.pow_mul, ← Nat.pow_mul, ← Nat.pow_add]
  congr 1; omega
theorem hld_lt (v k j : Nat) (h : 8 * j ≤ 51 * k) : hld v k j < 2 ^ (51 * k - 8 * j) := by
  unfold hld
  rw [Nat.div_lt_iff_lt_mul (Nat.pow_pos (by decide)), Nat.mul_comm, ← pow_51 k j h]
  exact Nat.mod_lt _ (Nat.pow_pos (by decide))
theorem hld_limb (v k j : Nat) (h : 8 * j ≤ 51 * k) : hld v k j ||| (v / 2251799813685248 ^ k % 2251799813685248) * 2 ^ (51 * k - 8 * j) = hld v (k + 1) j := by
  rw [Nat.or_comm, Nat.mul_comm, ← Nat.two_pow_add_eq_or_of_lt (hld_lt v k j h)]
  unfold hld
  rw [Nat.pow_succ, Nat.mod_mul]
  conv => rhs; rw [pow_51 k j h, Nat.mul_assoc, Nat.add_mul_div_left _ _ (Nat.pow_pos (by decide))]
  rw [← pow_51 k j h, Nat.add_comm]
theorem hld_oct (v k j : Nat) (h : 8 * (j + 1) ≤ 51 * k) : hld v k j % 256 = v / 256 ^ j % 256 ∧ hld v k j / 256 = hld v k (j + 1) := by
  unfold hld
  constructor
  · rw [pow_51 k (j + 1) h, Nat.pow_succ, Nat.mul_assoc, Nat.mod_mul_right_div_self, Nat.mod_mul_right_mod]
  · rw [Nat.div_div_eq_div_mul, ← Nat.pow_succ]
theorem Oc.drew' {w : World} {g : Nat} {l : List UInt8} (h : Oc w g l) : Oc w.drew g l := h
theorem oct_sh64 (c : UInt8) (m : Nat) (hm : m ≤ 50) : IntKind.u64.wrap ((c.toNat : Int) * 2 ^ m) = ((c.toNat * 2 ^ m : Nat) : Int) := by
  have h2 := oct_sh c m hm
  have e2 : (c.toNat : Int) * 2 ^ m = ((c.toNat * 2 ^ m : Nat) : Int) := by simp
  rw [e2]
  exact u64_back (by omega)
set_option maxRecDepth 100000 in
set_option maxHeartbeats 4000000 in
theorem numberOf_any (s : List UInt8) (w : World) (hn : s.length ≤ 32) :
    Calls Tryd.prog 29 #[.string (bs s)] w fun e w' => e = .returned (nv (num s % two255 % pC)) ∧ Below w.heap.size w w' := by
  have hval := nbK_val s hn
  have hle := nbK_le s s.length
  have h0 : Lar ((w.alloc (.cells #[.int .u64 0, .int .u64 0, .int .u64 0, .int .u64 0, .int .u64 0] 44)).alloc (.cells #[.int .u64 0, .int .u64 0, .int .u64 0, .int .u64 0, .int .u64 0] 44)) w.heap.size 44 [0, 0, 0, 0, 0] := (Lar.new w 44 [0, 0, 0, 0, 0]).alloc (.cells (lsC [0, 0, 0, 0, 0]) 44)
  have h1 : Lar ((w.alloc (.cells #[.int .u64 0, .int .u64 0, .int .u64 0, .int .u64 0, .int .u64 0] 44)).alloc (.cells #[.int .u64 0, .int .u64 0, .int .u64 0, .int .u64 0, .int .u64 0] 44)) (w.heap.size + 1) 44 [0, 0, 0, 0, 0] := by
    have h1 := Lar.new (w.alloc (.cells (lsC [0, 0, 0, 0, 0]) 44)) 44 [0, 0, 0, 0, 0]
    rw [World.size_alloc] at h1
    exact h1
  have hB : Below w.heap.size w ((w.alloc (.cells #[.int .u64 0, .int .u64 0, .int .u64 0, .int .u64 0, .int .u64 0] 44)).alloc (.cells #[.int .u64 0, .int .u64 0, .int .u64 0, .int .u64 0, .int .u64 0] 44)) := by go_grown
  obtain ⟨cap, W1, hcap, hconv, hO1, hB1, hz1⟩ := bytes_made (bs s) ((w.alloc (.cells #[.int .u64 0, .int .u64 0, .int .u64 0, .int .u64 0, .int .u64 0] 44)).alloc (.cells #[.int .u64 0, .int .u64 0, .int .u64 0, .int .u64 0, .int .u64 0] 44))
  have HV := Lib.hid hval
  have HL := Lib.hid hle
  have HR := Lib.hid (h0.below hB1 h0.lt)
  have HA := Lib.hid (h1.below hB1 h1.lt)
  have HB := Lib.hid (bstep hB hB1)
  simp only [World.size_alloc] at hconv hO1 hz1
  rw [bs_size] at hconv hcap
  change Oc W1 (w.heap.size + 1 + 1) s at hO1
  have HO := Lib.hid hO1
  clear hval hle h0 h1 hB hO1 hB1 hz1
  go_enter Tryd.func29, Tryd.ntmps29
  go_wp2_with fail
  clear hconv
  go_loopw [10] (fun i wr => ∃ k : Nat, k ≤ s.length ∧ i = .int .i64 k ∧ Hid (Lar wr (w.heap.size + 1) 44 (nbK s k)) ∧ Hid (Lar wr w.heap.size 44 [0, 0, 0, 0, 0]) ∧ Hid (Oc wr (w.heap.size + 1 + 1) s) ∧ Hid (Below w.heap.size w wr)) (fun i _ => s.length - (intOf i).toNat)
  case atStart => exact ⟨0, by omega, rfl, HA, HR, HO, HB⟩
  case round =>
    clear HA HR HB HO
    obtain ⟨k, hk, rfl, HA, HR, HO, HB⟩ := hrel
    by_cases hlt : k < s.length
    · obtain ⟨q, hq⟩ : ∃ q, 8 * k / 51 = q := ⟨_, rfl⟩
      obtain ⟨m, hm⟩ : ∃ m, 8 * k % 51 = m := ⟨_, rfl⟩
      have hq5 : q < 5 := by omega
      have hm50 : m ≤ 50 := by omega
      have r0 : (0 : Int) ≤ (q : Int) := by omega
      have r1 : (q : Int) < 5 := by omega
      have hlen := nbK_length s k
      have cx := HA.out.getD (i := q) (by omega)
      have cf := HA.out.free q
      have co := (HO.out k hlt).1
      have hww : (nbK s k).getD q 0 < 2 ^ 64 := by have := getD_le (B := 288230376151711743) (fun x hx => by have := nbK_le s k x hx; omega) q; omega
      obtain ⟨c, hcb⟩ : ∃ c, s.getD k 0 = c := ⟨_, rfl⟩
      have hsv := oct_sh64 (s.getD k 0) m hm50
      have hyy : (s.getD k 0).toNat * 2 ^ m < 2 ^ 64 := by have := oct_sh (s.getD k 0) m hm50; omega
      have hor := u64_or hww hyy
      have HS := Lib.hid ((HA.out.set q ((nbK s k).getD q 0 ||| (s.getD k 0).toNat * 2 ^ m)).drew)
      have HE : Hid ((nbK s k).set q ((nbK s k).getD q 0 ||| (s.getD k 0).toNat * 2 ^ m) = nbK s (k + 1)) := Lib.hid (by rw [nbK, hq, hm])
      rw [HE.out] at HS
      clear HE
      rw [hcb] at hsv hor HS co
      obtain ⟨x, hx⟩ : ∃ x, (nbK s k).getD q 0 = x := ⟨_, rfl⟩
      obtain ⟨y, hy⟩ : ∃ x, c.toNat * 2 ^ m = x := ⟨_, rfl⟩
      rw [hx] at cx hor HS
      rw [hy] at hsv hor HS
      have q1 : 8 * (k : Int) / 51 = (q : Int) := by omega
      have m1 : 8 * (k : Int) % 51 = (m : Int) := by omega
      have q2 : (8 * (k : Int)).tdiv 51 = (q : Int) := by rw [Int.tdiv_eq_ediv_of_nonneg (by omega)]; omega
      have m2 : (8 * (k : Int)).tmod 51 = (m : Int) := by rw [Int.tmod_eq_emod_of_nonneg (by omega)]; omega
      have e5 : IntKind.u64.wrap (c.toNat : Int) = (c.toNat : Int) := IntWalk.u64_in _ (by have := c.toNat_lt; omega)
      have e1 : IntKind.i64.wrap (q : Int) = (q : Int) := IntWalk.i64_in _ (by omega)
      have e3 : IntKind.i64.wrap (m : Int) = (m : Int) := IntWalk.i64_in _ (by omega)
      have HR2 := Lib.hid (HR.out.other (a := ⟨w.heap.size + 1, q, none⟩) (by simp) (ld (x ||| y)))
      have HO2 := Lib.hid (HO.out.other (a := ⟨w.heap.size + 1, q, none⟩) (by show w.heap.size + 1 + 1 ≠ w.heap.size + 1; omega) (ld (x ||| y)))
      have HB2 := Lib.hid (HB.out.setCell (p := ⟨w.heap.size + 1, q, none⟩) (by simp) (ld (x ||| y)))
      have kn : (k : Int) < (s.length : Int) := by omega
      clear hx hy hq hm hcb hlen hww hyy
      go_wp2
      refine wp_region_still_tail 11 (by kernel_rfl) (by kernel_rfl) ?_
      change wpStill _ _ (World.drew wr) (fun a' => wpList _ _ _ _ a' (World.drew wr)) _ _
      simp only [List.take_succ_cons, List.take_zero, List.drop_succ_cons, List.drop_zero]
      repeat still_step
      refine wpStill_nil ?_
      go_wp2
      go_roundw
      case rel =>
        exact ⟨k + 1, by omega, by go_num, HS, Lib.hid HR2.out.drew, Lib.hid HO2.out.drew', Lib.hid HB2.out.drew⟩
      case measure => simp [intOf]; omega
    · obtain rfl : k = s.length := by omega
      have hs := Lib.hid (carry_any (w.heap.size + 1) 44 (nbK s s.length) [] wr (nbK_length _ _) (fun x hx => by have := HL.out x hx; omega) (by rw [List.append_nil]; exact HA.out))
      have hzz := HB.out.size
      rw [HV.out] at hs
      have hR : ∀ W, Calls Tryd.prog 49 #[.agg (lsC (lm (num s)))] W fun e w' => e = .returned (nv (num s % two255 % pC)) ∧ Below W.heap.size W w' := fun W => by
        have h := rest_any (lm (num s)) W (lm_length _) (fun x hx => by have := lm_lt _ x hx; omega)
        rw [← lm_mod, val_lm _ (Nat.mod_lt _ (by decide)), lm_mod] at h
        exact h
      have HRE := Lib.hid hR
      obtain ⟨M, hM⟩ : ∃ M, num s % two255 % pC = M := ⟨_, rfl⟩
      rw [hM] at HRE
      have HM := Lib.hid hM
      have kn : ¬ (s.length : Int) < (s.length : Int) := by omega
      clear hR hM HO HV HL
      go_wp2_with fail
      (with_reducible refine hs.out.mono ?_)
      rintro e w2 ⟨rfl, hA2, hO2⟩
      rw [List.append_nil] at hA2
      have HA2 := Lib.hid hA2
      have HR2 := Lib.hid (Lar.of_only hO2 HR.out (by omega))
      have HB2 := Lib.hid (hO2.below HB.out hzz (by omega))
      clear hA2 hO2 hs HR HB HA
      go_wp2_with (refine wpList_load_row rfl 44 _ rfl (w.heap.size + 1) rfl 44 (lsC (lm (num s))) (0, 0) _ HA2.out Tryd.underlying44 rfl (by rw [size44, lsC_size, lm_length]) ?_)
      (with_reducible refine (HRE.out _).mono ?_)
      rintro e w3 ⟨rfl, hb3⟩
      have HR3 := Lib.hid (HR2.out.below hb3 HR2.out.lt)
      have HB3 := Lib.hid (bstep HB2.out hb3)
      clear HR2 HB2 HA2 HRE hb3
      go_wp2_with (refine wpList_store_row rfl 44 _ _ rfl w.heap.size (lsC (lm M)) rfl rfl 44 _ HR3.out (by rw [size44, lsC_size, lm_length]) (by rw [lsC_size, lsC_size, lm_length]; rfl) (lsC_one _) ?_)
      exact bodyPost_ret (v := nv M) (results_cell_row (p := 2) (ty := 44) Tryd.results29 _ _ w.heap.size 44 _ (0, 0) _ rfl (HR3.out.row (lm M)) Tryd.underlying44 rfl (by rw [size44, lsC_size, lm_length])) rfl ⟨by rw [HM.out], below_setRow HB3.out (Nat.le_refl _) _⟩
theorem hld_small (v k j : Nat) (h : 8 * j ≤ 51 * k) (h2 : 51 * k ≤ 8 * j + 58) : hld v k j < 2 ^ 58 := by
  have h1 := hld_lt v k j h
  have h2 : 2 ^ (51 * k - 8 * j) ≤ 2 ^ 58 := Nat.pow_le_pow_right (by decide) (by omega)
  omega
set_option maxRecDepth 100000 in
set_option maxHeartbeats 8000000 in
theorem octets_any (v : Nat) (w : World) (hv : v < two255) :
    Calls Tryd.prog 28 #[nv v] w fun e w' => e = .returned (.string (bs (octV v 32))) ∧ Below w.heap.size w w' := by
  obtain ⟨i0, hi, hz0, hz1, hz2⟩ := info_parts info5
  have h1 := Lar.new w 44 (lm v)
  have hB : Below w.heap.size w (w.alloc (.cells (lsC (lm v)) 44)) := by go_grown
  have HA := Lib.hid h1
  have HB := Lib.hid hB
  have HI := Lib.hid (idx_limb (lm v) (lm_length v))
  clear h1 hB
  go_enter Tryd.func28, Tryd.ntmps28
  go_upto_region 3 with (first | (at_make; refine wpList_make_own _ rfl _ _ 32 rfl (w.heap.size + 1) 5 i0 (.int .u8 0) 1 Tryd.underlying32 hi hz0 hz1 .i64 .i64 _ 32 rfl rfl ?_ ?_ ?_ ?_ ?_; omega; rw [hz2]; omega; (unfold maxLen; omega); (simp); intro w1 hown1 hg1))
  have HA1 : Hid (Lar w1 w.heap.size 44 (lm v)) := Lib.hid ((hg1.block _ HA.out.lt (fun e => by cases e)).trans HA.out)
  have HB1 : Hid (Below w.heap.size w w1) := Lib.hid (HB.out.grown hg1 (by simp) (fun g hg => by cases hg))
  have hz1' : w.heap.size + 1 ≤ w1.heap.size := by have := hg1.size; rw [World.size_alloc] at this; exact this
  rw [World.size_alloc] at hown1
  clear HA HB hg1
  go_upto_region 4 with (refine wpList_load_row rfl 44 _ rfl w.heap.size rfl 44 (lsC (lm v)) (0, 0) _ HA1.out Tryd.underlying44 rfl (by rw [size44, lsC_size, lm_length]) ?_)
  clear HA1
  go_loopw [3, 4, 5, 10] (fun o h b i wr => ∃ k : Nat, k ≤ 5 ∧ i = .int .i64 k ∧ b = .int .i64 ((51 * k - 8 * (51 * k / 8) : Nat) : Int) ∧ h = .int .u64 ((hld v k (51 * k / 8) : Nat) : Int) ∧ Hid (wr.ownsRow (w.heap.size + 1) 5 1 o (51 * k / 8) (byC (octV v (51 * k / 8)))) ∧ Hid (Below w.heap.size w wr) ∧ w.heap.size + 1 ≤ wr.heap.size) (fun _ _ _ i _ => 5 - (intOf i).toNat)
  case atStart => exact ⟨0, by omega, rfl, rfl, by simp [hld, Nat.mod_one], Lib.hid hown1, HB1, hz1'⟩
  case round =>
    clear HB1 hown1 hz1'
    obtain ⟨k, hk, rfl, rfl, rfl, HO, HB, hzz⟩ := hrel
    by_cases hlt : k < 5
    · have hix := HI.out k wr hlt
      have hg := dig_get 5 v k hlt
      obtain ⟨j0, hj0⟩ : ∃ j, 51 * k / 8 = j := ⟨_, rfl⟩
      rw [hj0] at HO ⊢
      have hd := hld_limb v k j0 (by omega)
      have hs1 := hld_small v k j0 (by omega) (by omega)
      have hs2 := hld_small v (k + 1) j0 (by omega) (by omega)
      obtain ⟨b, hb⟩ : ∃ b, 51 * k - 8 * j0 = b := ⟨_, rfl⟩
      obtain ⟨x, hx⟩ : ∃ x, (lm v).getD k 0 = x := ⟨_, rfl⟩
      have hxe : v / 2251799813685248 ^ k % 2251799813685248 = x := by rw [← hx]; exact hg.symm
      have hxl : x < 2251799813685248 := by rw [← hxe]; exact Nat.mod_lt _ (by decide)
      rw [hx] at hix
      rw [hb, hxe] at hd
      rw [hb]
      obtain ⟨h, hh⟩ : ∃ h, hld v k j0 = h := ⟨_, rfl⟩
      obtain ⟨h2, hh2⟩ : ∃ h, hld v (k + 1) j0 = h := ⟨_, rfl⟩
      obtain ⟨xs, hxs⟩ : ∃ xs, x * 2 ^ b = xs := ⟨_, rfl⟩
      rw [hh, hh2, hxs] at hd
      rw [hh] at hs1 ⊢
      rw [hh2] at hs2
      have hb8 : b < 8 := by omega
      have hxsb : xs < 2 ^ 59 := by
        have h1 : 2 ^ b ≤ 2 ^ 7 := Nat.pow_le_pow_right (by decide) (by omega)
        have h2 := Nat.mul_le_mul (show x ≤ 2251799813685247 by omega) h1
        rw [hxs] at h2
        omega
      have a1 : IntKind.u64.wrap ((x : Int) * 2 ^ b) = (xs : Int) := by
        have e2 : (x : Int) * 2 ^ b = ((x * 2 ^ b : Nat) : Int) := by simp
        rw [e2, hxs]; exact u64_back (by omega)
      have a2 : bits .or .u64 (h : Int) (xs : Int) = (h2 : Int) := by rw [u64_or (by omega) (by omega), hd]
      have b0 : (0 : Int) ≤ (b : Int) := by omega
      have k5 : (k : Int) < 5 := by omega
      have hbb : b + 51 = 51 * (k + 1) - 8 * j0 := by omega
      have HH2 := Lib.hid hh2
      have HJ := Lib.hid hj0
      clear hg hd hx hxe hh hh2 hxs hs1 hs2 hb hj0
      go_wp2_with fail
      clear hix a1 a2
      go_loopw [3, 4, 5] (fun o h b wr => ∃ j : Nat, j0 ≤ j ∧ 8 * j ≤ 51 * (k + 1) ∧ b = .int .i64 ((51 * (k + 1) - 8 * j : Nat) : Int) ∧ h = .int .u64 ((hld v (k + 1) j : Nat) : Int) ∧ Hid (wr.ownsRow (w.heap.size + 1) 5 1 o j (byC (octV v j))) ∧ Hid (Below w.heap.size w wr) ∧ w.heap.size + 1 ≤ wr.heap.size) (fun _ _ b _ => (intOf b).toNat)
      case atStart => exact ⟨j0, Nat.le_refl _, by have := HJ.out; omega, by rw [← hbb]; rfl, by rw [HH2.out], HO, HB, hzz⟩
      case round =>
        clear HO HB hzz
        obtain ⟨j, hjj, hj51, rfl, rfl, HO, HB, hzz⟩ := hrel
        obtain ⟨c, hc⟩ : ∃ c, 51 * (k + 1) - 8 * j = c := ⟨_, rfl⟩
        rw [hc]
        have hj0 := HJ.out
        have hc40 : c ≤ 58 := by omega
        by_cases h8 : 8 ≤ c
        · obtain ⟨d, hd⟩ : ∃ d, c - 8 = d := ⟨_, rfl⟩
          have e8 : (c : Int) - 8 = (d : Int) := by omega
          obtain ⟨ho1, ho2⟩ := hld_oct v (k + 1) j (by omega)
          have hs1 := hld_small v (k + 1) j (by omega) (by omega)
          obtain ⟨h, hh⟩ : ∃ h, hld v (k + 1) j = h := ⟨_, rfl⟩
          rw [hh] at ho1 ho2 hs1 ⊢
          obtain ⟨y, hy⟩ : ∃ y, h % 256 = y := ⟨_, rfl⟩
          have a1 : IntKind.u8.wrap (h : Int) = (y : Int) := by rw [IntKind.wrap_u8']; omega
          have a2 : (h : Int) / 256 = ((hld v (k + 1) (j + 1) : Nat) : Int) := by rw [← ho2]; simp
          have hrow : byC (octV v j) ++ [.int .u8 (y : Int)] = byC (octV v (j + 1)) := by
            rw [octV_succ, ← byC_append, ← ho1, hy]
            have : ((UInt8.ofNat y).toNat : Int) = (y : Int) := by rw [UInt8.toNat_ofNat']; omega
            simp [byC]; omega
          have hj31 : j ≤ 31 := by omega
          have c8 : (8 : Int) ≤ (c : Int) := by omega
          have HROW := Lib.hid hrow
          have HC := Lib.hid hc
          clear hrow hy ho1 ho2 hh hs1 hc
          go_wp2_with (first | (at_builtin; refine wpList_append_own _ rfl _ _ 32 rfl (w.heap.size + 1) 5 i0 (.int .u8 0) 1 1 Tryd.underlying32 hi hz0 hz1 hz2 rfl (by decide) _ j _ rfl (HO.out.alloc _) ⟨wr.heap.size, 0, none⟩ 1 1 [.int .u8 (y : Int)] rfl rfl ?_ ?_ ?_ ?_ ?_ ?_; exact World.news_of_block (cs := #[.int .u8 (y : Int)]) (t := 5) (fr := (0, 0)) (heap_alloc_new wr _); (simp [Value.oneCell']); (unfold maxLen; omega); omega; (simp; omega); intro v2 w3 hown3 hg3 _))
          rw [HROW.out] at hown3
          have hB3 : Below w.heap.size w w3 := (HB.out.alloc (by omega) _).grown hg3 (by simp; omega) (fun g hg => by have := (HO.out.lt g hg).1; omega)
          have hz3 : w.heap.size + 1 ≤ w3.heap.size := by have := hg3.size; rw [World.size_alloc] at this; omega
          have HO3 := Lib.hid hown3
          have HB3 := Lib.hid hB3
          clear hown3 hg3 hB3 HO HB
          go_wp2
          go_roundw
          case rel =>
            exact ⟨j + 1, by omega, by have := HC.out; omega, by have := HC.out; rw [show 51 * (k + 1) - 8 * (j + 1) = d by omega], rfl, HO3, HB3, hz3⟩
          case measure => simp [intOf]; omega
        · have e : 51 * (k + 1) / 8 = j := by omega
          have hc2 : 51 * (k + 1) - 8 * (51 * (k + 1) / 8) = c := by rw [e]; exact hc
          have c8 : ¬ (8 : Int) ≤ (c : Int) := by omega
          have HE := Lib.hid e
          have HC2 := Lib.hid hc2
          clear e hc hc2
          go_wp2
          go_roundw
          case rel => exact ⟨k + 1, by omega, by go_num, by rw [HC2.out], by rw [HE.out], by rw [HE.out]; exact HO, HB, hzz⟩
          case measure => simp [intOf]; omega
    · obtain rfl : k = 5 := by omega
      rw [show 51 * 5 / 8 = 31 from rfl] at HO ⊢
      have hh0 : hld v 5 31 = v / 256 ^ 31 := by unfold hld; rw [pow5, Nat.mod_eq_of_lt hv]
      obtain ⟨h, hh⟩ : ∃ h, hld v 5 31 = h := ⟨_, rfl⟩
      rw [hh] at hh0 ⊢
      have hs1 : h < 2 ^ 58 := by have := hld_small v 5 31 (by decide) (by decide); omega
      obtain ⟨y, hy⟩ : ∃ y, h % 256 = y := ⟨_, rfl⟩
      have a1 : IntKind.u8.wrap (h : Int) = (y : Int) := by rw [IntKind.wrap_u8']; omega
      have hrow : byC (octV v 31) ++ [.int .u8 (y : Int)] = byC (octV v 32) := by
        rw [octV_succ v 31, ← byC_append, ← hh0, hy]
        have : ((UInt8.ofNat y).toNat : Int) = (y : Int) := by rw [UInt8.toNat_ofNat']; omega
        simp [byC]; omega
      have HROW := Lib.hid hrow
      have e255 : 51 * 5 - 8 * 31 = 7 := rfl
      clear hrow hy hh hh0 hs1
      go_wp2_with (first | (at_builtin; refine wpList_append_own _ rfl _ _ 32 rfl (w.heap.size + 1) 5 i0 (.int .u8 0) 1 1 Tryd.underlying32 hi hz0 hz1 hz2 rfl (by decide) _ 31 _ rfl (HO.out.alloc _) ⟨wr.heap.size, 0, none⟩ 1 1 [.int .u8 (y : Int)] rfl rfl ?_ ?_ ?_ ?_ ?_ ?_; exact World.news_of_block (cs := #[.int .u8 (y : Int)]) (t := 5) (fr := (0, 0)) (heap_alloc_new wr _); (simp [Value.oneCell']); (unfold maxLen; omega); omega; (simp; omega); intro v2 w3 hown3 hg3 _; rw [HROW.out] at hown3; have hcv := string_of_own (w := w3) (l := octV v 32) (by rw [octV_length]; exact hown3)))
      go_ret
      exact ⟨rfl, (HB.out.alloc (by omega) _).grown hg3 (by simp; omega) (fun g hg => by have := (HO.out.lt g hg).1; omega)⟩
end Go.Proofs.YtbadiljligcenaaDoor
