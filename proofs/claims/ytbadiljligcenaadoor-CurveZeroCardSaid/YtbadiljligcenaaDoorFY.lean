/- The walk of CurveZero: the law returns true. -/
import Derived.Test.YtbadiljligcenaaDoorFX
import Derived.Test.YtbadiljligcenaaDoorFV
namespace Go.Proofs.YtbadiljligcenaaDoor
open Go.RowKit Go.Shelf
theorem num_zeros (n : Nat) : num (List.replicate n 0) = 0 := by
  induction n with
  | zero => rfl
  | succ n ih => rw [List.replicate_succ, num, ih]; rfl
theorem u_small (k : Nat) (h : k ≤ 18) : num (smL k) % two255 % pC = k := by
  have e : num (smL k) = k := by rw [smL, num, num_zeros, UInt8.toNat_ofNat_of_lt' (by show k < 256; omega)]; rfl
  rw [e, Nat.mod_eq_of_lt (Nat.lt_of_le_of_lt h (by decide)), Nat.mod_eq_of_lt (Nat.lt_of_le_of_lt h (by decide))]
theorem num_mid : num (List.replicate 30 255 ++ [127]) = 128 * 256 ^ 30 - 1 := by decide +kernel
theorem num_pr (m : Nat) (h : m ≤ 19) : num (prN m) + 1 = pC + m := by
  rw [prN, num, num_mid, UInt8.toNat_ofNat_of_lt' (by show 236 + m < 256; omega)]
  have e : 256 * (128 * 256 ^ 30 - 1) + 237 = pC := by decide
  omega
theorem u_prime (m : Nat) (h1 : 1 ≤ m) (h : m ≤ 19) : num (prN m) % two255 % pC = m - 1 := by
  have e := num_pr m h
  have e2 : num (prN m) = pC + (m - 1) := by omega
  have e3 : pC + (m - 1) < two255 := by
    have : pC + 19 = two255 := by decide
    omega
  have e4 : m - 1 < pC := Nat.lt_of_le_of_lt (show m - 1 ≤ 19 by omega) (by decide)
  rw [e2, Nat.mod_eq_of_lt e3, Nat.add_mod_left, Nat.mod_eq_of_lt e4]
theorem u_less : num (prN 0) % two255 % pC = pC - 1 := by
  have e := num_pr 0 (by decide)
  have e2 : num (prN 0) = pC - 1 := by omega
  have e3 : pC - 1 < two255 := by decide
  rw [e2, Nat.mod_eq_of_lt e3, Nat.mod_eq_of_lt (by decide)]
theorem sh_zero (a u : List UInt8) (ha : a.length = 32) (h : num u % two255 % pC = 0 ∨ num u % two255 % pC = 1 ∨ num u % two255 % pC = pC - 1) : shRes (shN a u) = #[.string ⟨#[]⟩, .int .i64 2] := by
  have e : shN a u = 0 := by
    unfold shN
    rcases h with h | h | h
    · rw [h]; exact resN_zero a ha
    · rw [h]; exact resN_unit 1 (.inl rfl) a ha
    · rw [h]; exact resN_unit (pC - 1) (.inr rfl) a ha
  rw [e]; rfl
theorem sh_rest (a : List UInt8) (k : Nat) (h : k ≤ 18) : shN a (prN (k + 1)) = shN a (smL k) := by
  unfold shN
  rw [u_prime (k + 1) (by omega) (by omega), u_small k h]
  rfl
theorem idx40 (A B C D E : ByteArray) (j : Nat) (hj : j < 5) (P : ByteArray → Prop) (h0 : P A) (h1 : P B) (h2 : P C) (h3 : P D) (h4 : P E) : ∃ X : ByteArray, P X ∧ ∀ W, (Instr.index 40 (.agg #[.string A, .string B, .string C, .string D, .string E]) (.int .i64 (j : Int))).run Tryd.prog W = .ok (.string X) W := by
  have h : j = 0 ∨ j = 1 ∨ j = 2 ∨ j = 3 ∨ j = 4 := by omega
  rcases h with rfl | rfl | rfl | rfl | rfl
  · exact ⟨A, h0, fun W => by kernel_rfl⟩
  · exact ⟨B, h1, fun W => by kernel_rfl⟩
  · exact ⟨C, h2, fun W => by kernel_rfl⟩
  · exact ⟨D, h3, fun W => by kernel_rfl⟩
  · exact ⟨E, h4, fun W => by kernel_rfl⟩
theorem built40 (A B C D E : ByteArray) : Tryd.prog.built 40 [(0, .string A), (1, .string B), (2, .string C), (3, .string D), (4, .string E)] = some #[.string A, .string B, .string C, .string D, .string E] := by kernel_rfl
theorem wp_buildTo {P : Program} {o : Oper} {a : Act} {w : World} {K : Act → World → Prop} {Q : Exit → Act → World → Prop} (t : TypeId) (parts : Array (Nat × Operand)) (ho : o.op = .build t parts)
    (cells : Array Value) (hf : P.built t (parts.map fun (i, x) => (i, a.eval x)).toList = some cells) (h : K (a.put o.dst (.agg cells)) w) : o.wp P a w K Q :=
  wp_build t parts ho (by rw [hf]; rfl) (by rw [hf]; exact h)
set_option maxRecDepth 100000 in
set_option maxHeartbeats 8000000 in
theorem zero_true (S : ByteArray) (n : Nat) (w : World) (hD : Digits w) (hs : S.size ≤ maxLen) (hn : n ≤ 255) :
    Calls Tryd.prog 9 #[.string S, .int .u8 (n : Int)] w fun e w' => e = .returned (.bool true) ∧ Below w.heap.size w w' := by
  unfold maxLen at hs
  have K0 := Wk.start hD
  obtain ⟨m1, z1, hz1, _, hmin1, hms1⟩ := cut_m S 32 32 rfl
  have hsl1 := fun w => cut_run S m1 z1 hz1 hms1 w
  have HZ1 := Lib.hid (fun W => sized_any z1 W)
  have hLa := szL_length z1
  generalize szL z1 = a at HZ1 hLa
  obtain ⟨k, hk⟩ : ∃ k, 2 + n % 17 = k := ⟨_, rfl⟩
  have hk18 : k ≤ 18 := by omega
  have mk : ∀ u : List UInt8, u.length = 32 → (num u % two255 % pC = 0 ∨ num u % two255 % pC = 1 ∨ num u % two255 % pC = pC - 1) → ∀ W, Calls Tryd.prog 17 #[.string (bs a), .string (bs u)] W fun e w' => e = .returned (.tuple #[.string ⟨#[]⟩, .int .i64 2]) ∧ Below W.heap.size W w' := fun u hu h W => by
    have hh := Shared_yes a u W hLa hu
    rw [sh_zero a u hLa h] at hh
    exact hh
  have s0 := mk (smL 0) (smL_length 0) (.inl (u_small 0 (by decide)))
  have s1 := mk (smL 1) (smL_length 1) (.inr (.inl (u_small 1 (by decide))))
  have s2 := mk (prN 0) (prN_length 0) (.inr (.inr u_less))
  have s3 := mk (prN 1) (prN_length 1) (.inl (u_prime 1 (by decide) (by decide)))
  have s4 := mk (prN 2) (prN_length 2) (.inr (.inl (u_prime 2 (by decide) (by decide))))
  have t1 := fun W => Shared_yes a (smL k) W hLa (smL_length k)
  have t2 := fun W => Shared_yes a (prN (k + 1)) W hLa (prN_length _)
  rw [sh_rest a k hk18] at t2
  obtain ⟨X, E, hXE⟩ := shRes_two (shN a (smL k))
  rw [hXE] at t1 t2
  have HT1 := Lib.hid t1
  have HT2 := Lib.hid t2
  have HM0 := Lib.hid (fun W => small_any 0 0 rfl (by decide) W)
  have HM1 := Lib.hid (fun W => small_any 1 1 rfl (by decide) W)
  have HP0 := Lib.hid (fun W => prime_any 0 (-1) rfl (by decide) W)
  have HP1 := Lib.hid (fun W => prime_any 1 0 rfl (by decide) W)
  have HP2 := Lib.hid (fun W => prime_any 2 1 rfl (by decide) W)
  have HMk := Lib.hid (fun W => small_any k (k : Int) rfl (by omega) W)
  have HPk := Lib.hid (fun W => prime_any (k + 1) (k : Int) (by omega) (by omega) W)
  have HIX : Hid (∀ j : Nat, j < 5 → ∃ U : ByteArray, (∀ W, Calls Tryd.prog 17 #[.string (bs a), .string U] W fun e w' => e = .returned (.tuple #[.string ⟨#[]⟩, .int .i64 2]) ∧ Below W.heap.size W w') ∧ ∀ W, (Instr.index 40 (.agg #[.string (bs (smL 0)), .string (bs (smL 1)), .string (bs (prN 0)), .string (bs (prN 1)), .string (bs (prN 2))]) (.int .i64 (j : Int))).run Tryd.prog W = .ok (.string U) W) :=
    Lib.hid (fun j hj => idx40 _ _ _ _ _ j hj (fun U => ∀ W, Calls Tryd.prog 17 #[.string (bs a), .string U] W fun e w' => e = .returned (.tuple #[.string ⟨#[]⟩, .int .i64 2]) ∧ Below W.heap.size W w') s0 s1 s2 s3 s4)
  obtain ⟨L, hL⟩ : ∃ L : Array Value, L = #[.string (bs (smL 0)), .string (bs (smL 1)), .string (bs (prN 0)), .string (bs (prN 1)), .string (bs (prN 2))] := ⟨_, rfl⟩
  have hb40 := built40 (bs (smL 0)) (bs (smL 1)) (bs (prN 0)) (bs (prN 1)) (bs (prN 2))
  rw [← hL] at HIX hb40
  have HB40 := Lib.hid hb40
  have HTN := Lib.hid (fun W => told_no ⟨#[]⟩ W)
  generalize bs (smL 0) = A0 at HM0 HB40
  generalize bs (smL 1) = A1 at HM1 HB40
  generalize bs (prN 0) = A2 at HP0 HB40
  generalize bs (prN 1) = A3 at HP1 HB40
  generalize bs (prN 2) = A4 at HP2 HB40
  generalize bs (smL k) = B1 at HMk HT1
  generalize bs (prN (k + 1)) = B2 at HPk HT2
  generalize bs a = A at HZ1 HIX HT1 HT2
  obtain ⟨r, hr⟩ : ∃ r, n % 17 = r := ⟨_, rfl⟩
  have hr2 : r < 17 := by omega
  have hq1 : (n : Int).tmod 17 = (r : Int) := by rw [Int.tmod_eq_emod_of_nonneg (by omega)]; omega
  have hq1b : (n : Int) % 17 = (r : Int) := by omega
  have hq2 : (2 : Int) + (r : Int) = (k : Int) := by omega
  clear hD hs hz1 mk s0 s1 s2 s3 s4 t1 t2 hXE hb40 hL hk hr hLa
  go_enter Tryd.func9, Tryd.ntmps9
  go_upto_region 6 with (first
    | (go_at_call 11; (with_reducible refine (works_true _ K0.d).mono ?_); rintro e V ⟨rfl, hb⟩; with_reducible replace K0 := Wk.step K0 hb; clear hb)
    | (go_at_call 12; (with_reducible refine (HZ1.out _).mono ?_); rintro e V1 ⟨rfl, hb⟩; with_reducible replace K0 := Wk.step K0 hb; clear hb)
    | (go_at_call 20; (with_reducible refine (HM0.out _).mono ?_); rintro e V2 ⟨rfl, hb⟩; with_reducible replace K0 := Wk.step K0 hb; clear hb)
    | (go_at_call 20; (with_reducible refine (HM1.out _).mono ?_); rintro e V3 ⟨rfl, hb⟩; with_reducible replace K0 := Wk.step K0 hb; clear hb)
    | (go_at_call 22; (with_reducible refine (HP0.out _).mono ?_); rintro e V4 ⟨rfl, hb⟩; with_reducible replace K0 := Wk.step K0 hb; clear hb)
    | (go_at_call 22; (with_reducible refine (HP1.out _).mono ?_); rintro e V5 ⟨rfl, hb⟩; with_reducible replace K0 := Wk.step K0 hb; clear hb)
    | (go_at_call 22; (with_reducible refine (HP2.out _).mono ?_); rintro e V6 ⟨rfl, hb⟩; with_reducible replace K0 := Wk.step K0 hb; clear hb)
    | (refine wpList_plain (o := ⟨some 31, _, _, _, _, _⟩) rfl fun K hK => ?_; refine wp_buildTo 40 _ rfl L (by simp only [List.map_toArray, List.map_cons, List.map_nil]; exact HB40.out) ?_; refine hK _ _ ?_; clear hK K))
  clear HM0 HM1 HP0 HP1 HP2 HB40 HZ1 hsl1
  have HK := Lib.hid K0
  clear K0
  go_wp2
  go_loopw [32] (fun i wr => ∃ j : Nat, j ≤ 5 ∧ i = .int .i64 (j : Int) ∧ Hid (Wk w wr [])) (fun i _ => 5 - (intOf i).toNat)
  case atStart => exact ⟨0, by omega, rfl, HK⟩
  case round =>
    clear HK
    obtain ⟨j, hj, rfl, HK⟩ := hrel
    by_cases hj5 : j < 5
    · have hji : (j : Int) < 5 := by omega
      obtain ⟨U, hsh, hix⟩ := HIX.out j hj5
      have HSH := Lib.hid hsh
      clear hsh HIX
      have K0 := HK.out
      go_wp2_with (first
        | (go_at_call 17; (with_reducible refine (HSH.out _).mono ?_); rintro e V7 ⟨rfl, hb⟩; with_reducible replace K0 := Wk.step K0 hb; clear hb)
        | (go_at_call 15; (with_reducible refine (HTN.out _).mono ?_); rintro e V8 ⟨rfl, rfl⟩))
      go_roundw
      case rel => exact ⟨j + 1, by omega, by go_num, Lib.hid K0⟩
      case measure => simp [intOf]; omega
    · obtain rfl : j = 5 := by omega
      have K0 := HK.out
      clear HIX HK
      have tt : (E == E) = true := beq_self_eq_true _
      go_wp2_with (first
        | (go_at_call 20; (with_reducible refine (HMk.out _).mono ?_); rintro e V2 ⟨rfl, hb⟩; with_reducible replace K0 := Wk.step K0 hb; clear hb)
        | (go_at_call 22; (with_reducible refine (HPk.out _).mono ?_); rintro e V4 ⟨rfl, hb⟩; with_reducible replace K0 := Wk.step K0 hb; clear hb)
        | (go_at_call 17; (with_reducible refine (HT1.out _).mono ?_); rintro e V7 ⟨rfl, hb⟩; with_reducible replace K0 := Wk.step K0 hb; clear hb)
        | (go_at_call 17; (with_reducible refine (HT2.out _).mono ?_); rintro e V7 ⟨rfl, hb⟩; with_reducible replace K0 := Wk.step K0 hb; clear hb))
      go_ret
      exact ⟨rfl, K0.b⟩
end Go.Proofs.YtbadiljligcenaaDoor
