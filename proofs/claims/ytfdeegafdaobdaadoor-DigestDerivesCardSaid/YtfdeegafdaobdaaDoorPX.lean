/- DigestPrefix returns true. -/
import Derived.Test.YtfdeegafdaobdaaDoorG3
import Derived.Deep.QuietTactic
import Derived.BigQuiet
namespace Go.Proofs.YtfdeegafdaobdaaDoor
open Go.RowKit Go.ChangeShapes
theorem cut_list (s : ByteArray) (n : Nat) : ∃ z : List UInt8, s.extract 0 (min (s.size : Int) n).toNat = bs z ∧ z.length ≤ n := by
  refine ⟨(s.extract 0 (min (s.size : Int) n).toNat).data.toList, rfl, ?_⟩
  have : (s.extract 0 (min (s.size : Int) n).toNat).size ≤ n := by rw [ByteArray.size_extract]; omega
  exact this
theorem hasPrefix_take (l : List UInt8) (n : Nat) : Lib.hasPrefix l (l.take n) = true := by
  unfold Lib.hasPrefix
  rw [List.isPrefixOf_iff_prefix]
  exact List.take_prefix n l
theorem Wk.drewN {w W : World} {ps : List (Nat × Obj)} (h : Wk w W ps) : ∀ n, Wk w (W.drewN n) ps
  | 0 => h
  | n + 1 => (h.drewN n).drew
set_option maxRecDepth 1000000 in
set_option maxHeartbeats 8000000 in
theorem prefix_true (s t l : ByteArray) (a b : Nat) (w : World) (hD : Digits w) (hs : s.size ≤ maxLen) (ht : t.size ≤ maxLen) (hl : l.size ≤ maxLen) (ha : a ≤ 255) (hb : b ≤ 255) :
    Calls Tryd.prog 8 #[.string s, .string t, .string l, .int .u8 a, .int .u8 b] w fun e w' => e = .returned (.bool true) ∧ Below w.heap.size w w' := by
  have K0 := Wk.start hD
  unfold maxLen at hs ht hl
  obtain ⟨z, hz, hz1⟩ := cut_list s 100
  obtain ⟨y, hy, hy1⟩ := cut_list t 100
  obtain ⟨x, hx, hx1⟩ := cut_list l 100
  have hk0 : b % (a + 1) ≤ a := by have := Nat.mod_lt b (show 0 < a + 1 by omega); omega
  obtain ⟨k, hk⟩ : ∃ k, b % (a + 1) = k := ⟨_, rfl⟩
  rw [hk] at hk0
  have hkm : ((b : Int) % ((a : Int) + 1)) = (k : Int) := by rw [← hk, Int.natCast_emod]; rfl
  obtain ⟨P, hP⟩ : ∃ P, macB y z = P := ⟨_, rfl⟩
  obtain ⟨A, hA⟩ : ∃ A, macB P (x ++ [1]) = A := ⟨_, rfl⟩
  obtain ⟨B, hB⟩ : ∃ B, macB P (A ++ x ++ [2]) = B := ⟨_, rfl⟩
  obtain ⟨D, hDD⟩ : ∃ D, derB z y x a = D := ⟨_, rfl⟩
  have hPl : P.length = 32 := by rw [← hP]; exact macB_length _ _
  have hAl : A.length = 32 := by rw [← hA]; exact macB_length _ _
  have hBl : B.length = 32 := by rw [← hB]; exact macB_length _ _
  have hDl : D.length = a := by rw [← hDD]; exact derB_len _ _ _ _ ha
  have h2 : outL P x 2 = A ++ B := by
    show ([] ++ macB P ([] ++ x ++ [1])) ++ macB P (macB P ([] ++ x ++ [1]) ++ x ++ [2]) = _
    rw [List.nil_append, List.nil_append, hA, hB]
  have hDk : derB z y x k = D.take k := by
    rw [← hDD]; unfold derB
    rw [List.take_take, Nat.min_eq_left hk0]
  have hD64 : D.take 64 = (A ++ B).take a := by
    rw [← hDD, ← h2]; unfold derB
    rw [hP, List.take_take]
    by_cases h : a ≤ 64
    · rw [Nat.min_eq_right h, outL_take P x a 2 (by omega) (by decide)]
    · rw [Nat.min_eq_left (by omega), ← outL_take P x 64 2 (by omega) (by decide), List.take_of_length_le (by rw [outL_len]; omega), List.take_of_length_le (by rw [outL_len]; omega)]
  have c1 : ∀ w, Calls Tryd.prog 28 #[.string (bs z), .string (bs y), .string (bs x), .int .i64 a] w fun e w' => e = .returned (.tuple #[.string (bs D), .int .i64 0]) ∧ Below w.heap.size w w' := fun w => by
    rw [← hDD]; exact derive_ok z y x a w (by omega) (by omega) (by omega) ha
  have c2 : ∀ w, Calls Tryd.prog 28 #[.string (bs z), .string (bs y), .string (bs x), .int .i64 k] w fun e w' => e = .returned (.tuple #[.string (bs (D.take k)), .int .i64 0]) ∧ Below w.heap.size w w' := fun w => by
    rw [← hDk]; exact derive_ok z y x k w (by omega) (by omega) (by omega) (by omega)
  have c3 : ∀ w, Calls Tryd.prog 18 #[.string (bs y), .string (bs z)] w fun e w' => e = .returned (.tuple #[.string (bs P), .int .i64 0]) ∧ Below w.heap.size w w' := fun w => by
    rw [← hP]; exact mac_ok y z w (by omega) (by omega)
  have c4 : ∀ w, Calls Tryd.prog 18 #[.string (bs P), .string (bs x ++ ⟨#[1]⟩)] w fun e w' => e = .returned (.tuple #[.string (bs A), .int .i64 0]) ∧ Below w.heap.size w w' := fun w => by
    rw [show bs x ++ ⟨#[1]⟩ = bs (x ++ [1]) from bs_append x [1], ← hA]; exact mac_ok P (x ++ [1]) w (by omega) (by simp; omega)
  have c5 : ∀ w, Calls Tryd.prog 18 #[.string (bs P), .string (bs A ++ bs x ++ ⟨#[2]⟩)] w fun e w' => e = .returned (.tuple #[.string (bs B), .int .i64 0]) ∧ Below w.heap.size w w' := fun w => by
    rw [bs_append, show bs (A ++ x) ++ ⟨#[2]⟩ = bs (A ++ x ++ [2]) from bs_append (A ++ x) [2], ← hB]; exact mac_ok P (A ++ x ++ [2]) w (by omega) (by simp; omega)
  have hDz : (bs D).size = a := hDl
  have hAz : (bs A).size = 32 := hAl
  have hBz : (bs B).size = 32 := hBl
  have lz : (bs z).size ≤ 100 := hz1
  have ly : (bs y).size ≤ 100 := hy1
  have lx : (bs x).size ≤ 100 := hx1
  have s1 : ∀ wx : World, (Instr.slice 9 (.string (bs D)) none (some (.int .i64 (k : Int))) none).run Tryd.prog wx = .ok (.string (bs (D.take k))) wx := fun wx => by
    have := run_slice_string_h (P := Tryd.prog) (w := wx) (t := 9) (s := bs D) Tryd.underlying9 .i64 (k : Int) (by omega) (by omega)
    rw [this, ext_bs, List.drop_zero]; rfl
  have e64 : (bs D).extract 0 (min ((bs D).size : Int) 64).toNat = bs (D.take 64) := by
    rw [ext_bs, List.drop_zero, show (min ((bs D).size : Int) 64).toNat - 0 = min 64 a by omega, ← List.take_take, List.take_of_length_le (l := (bs D).data.toList) (i := a) (by rw [bs_data]; omega)]; rfl
  have hx1' : ∀ w, Calls Tryd.prog 31 #[.string (bs A ++ bs B), .string ((bs D).extract 0 (min ((bs D).size : Int) 64).toNat)] w fun e w' => e = .returned (.bool true) ∧ w = w' := fun w => by
    have h := Tryd.strings_HasPrefix (bs A ++ bs B) (bs (D.take 64)) w
    rw [bs_append, bs_data, bs_data, hD64, hasPrefix_take] at h
    rw [bs_append, e64, hD64]
    exact h.mono fun _ _ hh => ⟨hh.1, hh.2.symm⟩
  clear e64
  have C1 := Lib.hid c1
  have C2 := Lib.hid c2
  have C3 := Lib.hid c3
  have C4 := Lib.hid c4
  have C5 := Lib.hid c5
  have HZ := Lib.hid (And.intro hz (And.intro hy hx))
  clear hD c1 c2 c3 c4 c5 hz hy hx hP hA hB hDD h2 hDk hD64 hk hDl hAl hBl hPl hz1 hy1 hx1
  have t1 : (((bs D).size : Int) != (a : Int)) = false := by rw [hDz]; simp
  have t2 : (((bs A).size : Int) != 32) = false := by rw [hAz]; rfl
  have hwk : IntKind.i64.wrap ((a : Int) + 1) = (a : Int) + 1 := IntWalk.i64_in _ ⟨by omega, by omega⟩
  have lD : (bs D).size ≤ 255 := by omega
  have lA : (bs A).size ≤ 32 := by omega
  have lB : (bs B).size ≤ 32 := by omega
  have HDz := Lib.hid hDz
  clear hDz hAz hBz
  go_enter Tryd.func8, Tryd.ntmps8
  go_wp2_with fail
  refine (works_true _ K0.d).mono ?_
  rintro e W1 ⟨rfl, h1⟩
  have K1 := K0.step h1
  clear h1 K0
  go_upto_region 3 with fail
  go_quiet ((fail))
  have HZ1 := HZ.out.1
  have HZ2 := HZ.out.2.1
  have HZ3 := HZ.out.2.2
  have K2 : Wk w (W1.drewN nq) [] := K1.drewN nq
  rw [show ((100 : Nat) : Int) = 100 from rfl] at HZ1 HZ2 HZ3
  rw [HZ1, HZ2, HZ3]
  clear HZ1 HZ2 HZ3 K1
  generalize W1.drewN nq = W2 at K2 ⊢
  go_wp2_with fail
  (with_reducible refine (C1.out _).mono ?_)
  rintro e W3 ⟨rfl, hb⟩
  have K3 := K2.step hb
  clear hb K2
  go_wp2_with fail
  (with_reducible refine (C3.out _).mono ?_)
  rintro e W4 ⟨rfl, hb⟩
  have K4 := K3.step hb
  clear hb K3
  go_wp2_with fail
  (with_reducible refine (C4.out _).mono ?_)
  rintro e W5 ⟨rfl, hb⟩
  have K5 := K4.step hb
  clear hb K4
  go_wp2_with fail
  (with_reducible refine (C5.out _).mono ?_)
  rintro e W6 ⟨rfl, hb⟩
  have K6 := K5.step hb
  clear hb K5
  go_wp2_with (first
    | (go_at_call 30; (with_reducible refine (same_any _ _).mono ?_); rintro e X ⟨rfl, rfl⟩)
    | (go_at_call 28; (with_reducible refine (C2.out _).mono ?_); rintro e V ⟨rfl, hb⟩; (repeat (with_reducible replace hb := bel_of_drew hb)); with_reducible obtain ⟨K, hp, hz⟩ := Wk.cell1 (by assumption) hb; clear hb)
    | (go_at_call 53; (with_reducible refine (same1_yes _ _ _ (by assumption)).mono ?_); rintro e V ⟨rfl, rfl⟩)
    | (go_at_call 31; (with_reducible refine (hx1' _).mono ?_); rintro e V ⟨rfl, rfl⟩))
  go_ret
  exact ⟨rfl, Wk.b (by assumption)⟩
end Go.Proofs.YtfdeegafdaobdaaDoor
