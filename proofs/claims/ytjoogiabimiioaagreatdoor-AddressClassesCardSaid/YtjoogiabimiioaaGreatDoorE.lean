/- Numbers in hexadecimal digits: FormatUint at base 16; and FormatUint. -/
import Derived.Test.YtjoogiabimiioaaGreatDoorD
namespace Go.Proofs.YtjoogiabimiioaaGreatDoor
open Go.RowKit Go.ChangeShapes
/-- A hexadecimal digit. -/
def hd (n : Nat) : UInt8 := if n < 10 then UInt8.ofNat (48 + n) else UInt8.ofNat (87 + n)
/-- The last j hexadecimal digits. -/
def hexL (n : Nat) : Nat → List UInt8
  | 0 => []
  | j + 1 => hd (n / 16 ^ j % 16) :: hexL n j
theorem hexL_length (n j : Nat) : (hexL n j).length = j := by induction j with | zero => rfl | succ j ih => rw [hexL, List.length_cons, ih]
/-- A number in hexadecimal digits. -/
def hx (n : Nat) : List UInt8 := if n < 16 then hexL n 1 else if n < 256 then hexL n 2 else if n < 4096 then hexL n 3 else hexL n 4
theorem hx_eq (n j : Nat) (hn : n < 65536) (hj : j ≤ 3) (h1 : j = 0 ∨ 16 ^ j ≤ n) (h2 : n < 16 ^ (j + 1)) : hx n = hexL n (j + 1) := by
  unfold hx
  have : j = 0 ∨ j = 1 ∨ j = 2 ∨ j = 3 := by omega
  rcases this with rfl | rfl | rfl | rfl
  · rw [if_pos (by omega)]
  · rw [if_neg (by omega), if_pos (by omega)]
  · rw [if_neg (by omega), if_neg (by omega), if_pos (by omega)]
  · rw [if_neg (by omega), if_neg (by omega), if_neg (by omega)]
def padL (n j : Nat) : List UInt8 := List.replicate (65 - j) 0 ++ hexL n j
theorem padL_length (n j : Nat) (hj : j ≤ 65) : (padL n j).length = 65 := by simp [padL, hexL_length]; omega
theorem padL_set (n j : Nat) (hj : j < 65) : (padL n j).set (64 - j) (hd (n / 16 ^ j % 16)) = padL n (j + 1) := by
  unfold padL
  rw [show 65 - j = (64 - j) + 1 by omega, List.replicate_succ', List.append_assoc, List.set_append_right _ _ (by simp), List.length_replicate, Nat.sub_self, show 65 - (j + 1) = 64 - j by omega]
  rfl
theorem padL_drop (n j : Nat) : (padL n j).drop (65 - j) = hexL n j := by
  unfold padL
  rw [List.drop_append_of_le_length (by simp), List.drop_of_length_le (by simp), List.nil_append]
theorem idx_dig (r : Nat) (h : r < 16) (W : World) : (Instr.index 9 (.string ⟨#[48, 49, 50, 51, 52, 53, 54, 55, 56, 57, 97, 98, 99, 100, 101, 102, 103, 104, 105, 106, 107, 108, 109, 110, 111, 112, 113, 114, 115, 116, 117, 118, 119, 120, 121, 122]⟩) (.int .u64 (r : Int))).run Tryz.prog W = .ok (.int .u8 ((hd r).toNat : Int)) W := by
  have : r = 0 ∨ r = 1 ∨ r = 2 ∨ r = 3 ∨ r = 4 ∨ r = 5 ∨ r = 6 ∨ r = 7 ∨ r = 8 ∨ r = 9 ∨ r = 10 ∨ r = 11 ∨ r = 12 ∨ r = 13 ∨ r = 14 ∨ r = 15 := by omega
  rcases this with rfl | rfl | rfl | rfl | rfl | rfl | rfl | rfl | rfl | rfl | rfl | rfl | rfl | rfl | rfl | rfl <;> (show _ = _; kernel_rfl)
theorem ofInt_64 (x : Nat) (h : x < 18446744073709551616) : (BitVec.ofInt 64 (x : Int)).toNat = x := by
  rw [BitVec.ofInt_natCast, BitVec.toNat_ofNat, Nat.mod_eq_of_lt (by simpa using h)]
theorem and_15 (x : Nat) (h : x < 65536) : bits .and .u64 (x : Int) 15 = ((x % 16 : Nat) : Int) := by
  show IntKind.u64.wrap ((BitVec.ofInt 64 (x : Int) &&& BitVec.ofInt 64 ((15 : Nat) : Int)).toNat : Int) = _
  rw [BitVec.toNat_and, ofInt_64 x (by omega), ofInt_64 15 (by omega), show (15 : Nat) = 2 ^ 4 - 1 from rfl, Nat.and_two_pow_sub_one_eq_mod, IntKind.wrap_u64]
  omega
set_option maxRecDepth 100000 in
set_option maxHeartbeats 2000000 in
theorem zeros_16 (w : World) (hE : Env w) : Calls Tryz.prog 138 #[.int .u64 16] w fun e w' => e = .returned (.int .i64 4) ∧ w' = w := by
  have c := hE.d
  have h145 : Calls Tryz.prog 145 #[.int .u64 16] w fun e w' => e = .returned (.int .i64 4) ∧ w' = w := by
    clear hE
    have b0 : IntKind.u64.wrap (-16) = 18446744073709551600 := by decide
    have b1 : bits .and .u64 16 18446744073709551600 = 16 := by decide
    have b2 : IntKind.u64.wrap (16 * 285870213051353865) = 4573923408821661840 := by decide
    go_enter Tryz.func145, Tryz.ntmps145
    go_wp2
    go_ret
    exact ⟨rfl, rfl⟩
  clear hE c
  go_enter Tryz.func138, Tryz.ntmps138
  go_wp2_with (go_at_call 145; (with_reducible refine h145.mono ?_); rintro e V ⟨rfl, rfl⟩)
  go_ret
  exact ⟨rfl, rfl⟩
set_option maxRecDepth 100000 in
theorem pow2_16 (w : World) : Calls Tryz.prog 137 #[.int .i64 16] w fun e w' => e = .returned (.bool true) ∧ w' = w := by
  have b1 : bits .and .i64 16 15 = 0 := by decide
  go_enter Tryz.func137, Tryz.ntmps137
  go_wp2
  go_ret
  exact ⟨rfl, rfl⟩
/-- The row of 65 octets. -/
def Z65 : Array Value := (byC (List.replicate 65 0)).toArray
theorem oc_new (w : World) (t : TypeId) (l : List UInt8) : Oc (w.alloc (.cells (byC l).toArray t)) w.heap.size l := fun j hj => by
  have hrow : (w.alloc (.cells (byC l).toArray t)).heap[w.heap.size]? = some (.cells (byC l).toArray t (0, 0)) := heap_alloc_new w _
  refine ⟨?_, frozen_of_row _ _ _ _ _ hrow⟩
  rw [cell_of_row _ _ j _ t (0, 0) hrow]
  simp [byC, hj, List.getD_eq_getElem?_getD]
theorem below_setCell {w V : World} (h : Below w.heap.size w V) {g : Nat} (hg : w.heap.size ≤ g) (i : Nat) (v : Value) : Below w.heap.size w (V.setCell ⟨g, i, none⟩ v) := h.setCell (p := ⟨g, i, none⟩) hg v
theorem tail_conv {W : World} {g : Nat} {L : List UInt8} (k m cap : Nat) (h : Oc W g L) (hk : k + m = L.length) : (convert 54 9 (.slice (some ⟨g, k, none⟩) m cap)).run Tryz.prog W = .ok (.string (bs (L.drop k))) W := by
  have h2 := run_convert_bytes_back (P := Tryz.prog) W 54 9 5 ⟨g, k, none⟩ cap (L.drop k) Tryz.underlying54 Tryz.underlying5 Tryz.underlying9 (fun j hj => by
    have hj2 : k + j < L.length := by rw [List.length_drop] at hj; omega
    rw [Lib.add_plain, (h (k + j) hj2).1, List.getElem_drop, List.getD_eq_getElem?_getD, List.getElem?_eq_getElem hj2]
    rfl)
  rw [List.length_drop, ← hk, Nat.add_sub_cancel_left] at h2
  exact h2
set_option maxRecDepth 100000 in
set_option maxHeartbeats 8000000 in
theorem bits_fmt (n : Nat) (hn : n < 65536) (w : World) (hE : Env w) :
    Calls Tryz.prog 119 #[.slice none 0 0, .int .u64 (n : Int), .int .i64 16, .bool false, .bool false] w fun e w' => e = .returned (.tuple #[.slice none 0 0, .string (bs (hx n))]) ∧ Below w.heap.size w w' := by
  have hz : ∀ W, (zeroValue 174).run Tryz.prog W = .ok (.agg Z65) W := fun W => by kernel_rfl
  have H0 := Lib.hid (oc_new w 174 (List.replicate 65 0))
  have HB := Lib.hid ((Below.refl w.heap.size w).alloc (Nat.le_refl _) (.cells Z65 174))
  have hE2 := hE.alloc (.cells Z65 174)
  have HZT := Lib.hid (zeros_16 (w.alloc (.cells Z65 174)) hE2)
  have HID := Lib.hid (fun r h W => idx_dig r h W)
  have HN := Lib.hid hn
  clear hE hE2
  go_enter Tryz.func119, Tryz.ntmps119
  go_wp2_with fail
  (with_reducible refine (pow2_16 _).mono ?_)
  rintro e V ⟨rfl, rfl⟩
  go_wp2_with fail
  (with_reducible refine HZT.out.mono ?_)
  rintro e V ⟨rfl, rfl⟩
  have w16 : IntKind.u64.wrap 16 = 16 := by decide
  clear HZT
  change Hid (Oc (w.alloc (.cells Z65 174)) w.heap.size (padL n 0)) at H0
  go_wp2_with fail
  generalize w.alloc (.cells Z65 174) = V at H0 HB ⊢
  obtain ⟨g, hg⟩ : ∃ g, w.heap.size = g := ⟨_, rfl⟩
  rw [hg] at H0 ⊢
  have HGE := Lib.hid hg
  clear hg
  go_loopw [1, 13] (fun a1 a13 wr => ∃ j : Nat, j ≤ 3 ∧ a1 = .int .u64 ((n / 16 ^ j : Nat) : Int) ∧ a13 = .int .i64 (65 - (j : Int)) ∧ Hid (j = 0 ∨ 16 ^ j ≤ n) ∧ Hid (Oc wr g (padL n j)) ∧ Hid (Below w.heap.size w wr)) (fun a1 _ _ => (intOf a1).toNat)
  case atStart => exact ⟨0, by omega, by simp, rfl, Lib.hid (.inl rfl), H0, HB⟩
  case round =>
    clear H0 HB
    obtain ⟨j, hj, rfl, rfl, HJ, HO, HB⟩ := hrel
    have hx0 : (n / 16 ^ j : Nat) / 16 = n / 16 ^ (j + 1) := by rw [Nat.div_div_eq_div_mul, Nat.pow_succ]
    have hul : n / 16 ^ j < 65536 := Nat.lt_of_le_of_lt (Nat.div_le_self _ _) HN.out
    obtain ⟨u, hu⟩ : ∃ u, n / 16 ^ j = u := ⟨_, rfl⟩
    have hset := padL_set n j (by omega)
    have hpl := padL_length n j (by omega)
    rw [hu] at hx0 hul hset ⊢
    have hk1 : (65 : Int) - (j : Int) - 1 = ((64 - j : Nat) : Int) := by omega
    obtain ⟨k, hk⟩ : ∃ k, 64 - j = k := ⟨_, rfl⟩
    rw [hk] at hk1 hset
    have hkl : k < 65 := by omega
    have hk0 : (0 : Int) ≤ (k : Int) := by omega
    have hk65 : (k : Int) < 65 := by omega
    obtain ⟨r, hr⟩ : ∃ r, u % 16 = r := ⟨_, rfl⟩
    have hrl : r < 16 := by omega
    rw [hr] at hset
    have hdig := fun W => HID.out r hrl W
    have hand := and_15 u hul
    rw [hr] at hand
    obtain ⟨c0, f0⟩ := HO.out k (by rw [hpl]; omega)
    have hO2 := HO.out.set k (hd r)
    rw [hset] at hO2
    have hB2 := below_setCell HB.out (g := g) (by have := HGE.out; omega) k (by8 (hd r))
    have HO2 := Lib.hid hO2
    have HB2 := Lib.hid hB2
    have HSET := Lib.hid (And.intro hk (And.intro hr hu))
    clear hO2 hB2 hset hpl hk hr HO HB
    obtain ⟨dg, hdg⟩ : ∃ dg, hd r = dg := ⟨_, rfl⟩
    rw [hdg] at HO2 HB2
    simp only [hdg] at hdig
    clear hdg
    by_cases hlt : 16 ≤ u
    · have hi16 : (16 : Int) ≤ (u : Int) := by omega
      obtain ⟨v, hv⟩ : ∃ v, u / 16 = v := ⟨_, rfl⟩
      have hv1 : (u : Int) / 16 = (v : Int) := by omega
      have hv2 : (u : Int) / 2 ^ 4 = (v : Int) := by omega
      have hv0 : v < u := by omega
      have HV := Lib.hid (And.intro hv hx0)
      have HLT := Lib.hid hlt
      clear hv hx0 hu
      go_wp2
      go_roundw
      case rel =>
        refine ⟨j + 1, ?_, ?_, ?_, ?_, HO2, HB2⟩
        · have h1 := HSET.out.2.2
          have h2 := HLT.out
          have h3 := HN.out
          by_cases hj3 : j = 3
          · subst hj3; omega
          · omega
        · rw [← HV.out.2, HV.out.1]
        · have := HSET.out.1; congr 1; omega
        · refine Lib.hid (.inr ?_)
          have h1 := HSET.out.2.2
          have h2 := HLT.out
          rw [Nat.pow_succ]
          have h3 := Nat.div_mul_le_self n (16 ^ j)
          rw [h1] at h3
          calc 16 ^ j * 16 ≤ 16 ^ j * u := Nat.mul_le_mul_left _ h2
            _ = u * 16 ^ j := Nat.mul_comm _ _
            _ ≤ n := h3
      case measure => simp [intOf]; omega
    · have hi16 : ¬ (16 : Int) ≤ (u : Int) := by omega
      have hru : u = r := by have := HSET.out.2.1; omega
      subst hru
      have hal : Tryz.prog.arrayLen 174 = 65 := by kernel_rfl
      have hsl : ∀ W, (Instr.sliceAt 174 (.pointer (some ⟨g, 0, none⟩)) (some (.int .i64 (k : Int))) none none).run Tryz.prog W = .ok (.slice (some ⟨g, k, none⟩) (65 - k) (65 - k)) W := fun W => by
        rw [run_sliceAt_array_l W 174 ⟨g, 0, none⟩ (by kernel_rfl) .i64 (k : Int) (by omega) (by rw [hal]; omega)]
        go_simp
        omega
      have hcv := tail_conv k (65 - k) (65 - k) HO2.out (by rw [padL_length n (j + 1) (by omega)]; omega)
      have hkk : k = 65 - (j + 1) := by have := HSET.out.1; omega
      have hdrop : (padL n (j + 1)).drop k = hx n := by
        rw [hkk, padL_drop]
        refine (hx_eq n j HN.out hj HJ.out ?_).symm
        have h1 := HSET.out.2.2
        have h2 := Nat.lt_mul_div_succ n (show 0 < 16 ^ j from Nat.pow_pos (by decide))
        rw [h1] at h2
        rw [Nat.pow_succ]
        exact Nat.lt_of_lt_of_le h2 (Nat.mul_le_mul_left _ (by omega))
      rw [hdrop] at hcv
      clear hdrop hkk hal hand hu hx0
      go_wp2
      go_ret2
      exact ⟨rfl, HB2.out⟩
set_option maxRecDepth 100000 in
set_option maxHeartbeats 2000000 in
theorem hex_fmt (n : Nat) (hn : n < 65536) (w : World) (hE : Env w) :
    Calls Tryz.prog 120 #[.int .u64 (n : Int), .int .i64 16] w fun e w' => e = .returned (.string (bs (hx n))) ∧ Below w.heap.size w w' := by
  have HF := Lib.hid (bits_fmt n hn w hE)
  clear hE
  go_enter Tryz.func120, Tryz.ntmps120
  go_wp2_with fail
  (with_reducible refine HF.out.mono ?_)
  rintro e V ⟨rfl, hb⟩
  go_wp2
  go_ret
  exact ⟨rfl, hb⟩
/-- A number in the digits of base 10 or 16. -/
def numT (base n : Nat) : List UInt8 := if base = 10 then Lib.decDigits n else hx n
set_option maxRecDepth 100000 in
set_option maxHeartbeats 2000000 in
theorem FormatUint_any (base n : Nat) (hb : base = 10 ∨ base = 16) (hn : n < 65536) (w : World) (hE : Env w) :
    Calls Tryz.prog 100 #[.int .u64 (n : Int), .int .i64 (base : Int)] w fun e w' => e = .returned (.string (bs (numT base n))) ∧ Below w.heap.size w w' := by
  have hf : Calls Tryz.prog 120 #[.int .u64 (n : Int), .int .i64 (base : Int)] w fun e w' => e = .returned (.string (bs (numT base n))) ∧ Below w.heap.size w w' := by
    rcases hb with rfl | rfl
    · exact dec_fmt n hn w hE
    · exact hex_fmt n hn w hE
  have HF := Lib.hid hf
  clear hE hf
  go_enter Tryz.func100, Tryz.ntmps100
  go_wp2_with fail
  (with_reducible refine HF.out.mono ?_)
  rintro e V ⟨rfl, hb⟩
  go_wp2
  go_ret
  exact ⟨rfl, hb⟩
end Go.Proofs.YtjoogiabimiioaaGreatDoor
