/- The walk of CurveClamps. -/
import Derived.Test.YtbadiljligcenaaDoorFT
namespace Go.Proofs.YtbadiljligcenaaDoor
open Go.RowKit Go.Shelf
theorem cut_run (S : ByteArray) (m : Nat) (z : List UInt8) (hz : S.extract 0 m = bs z) (hm : (m : Int) ≤ (S.size : Int)) (w : World) : (Instr.slice 9 (.string S) none (some (.int .i64 (m : Int))) none).run Tryd.prog w = .ok (.string (bs z)) w := by
  rw [run_slice_string_h (P := Tryd.prog) (w := w) 9 (s := S) Tryd.underlying9 .i64 (m : Int) (by omega) hm, Int.toNat_natCast, hz]
theorem idx24_0 (A B : ByteArray) (w : World) : (Instr.index 24 (.agg #[.string A, .string B]) (.int .i64 0)).run Tryd.prog w = .ok (.string A) w := by kernel_rfl
theorem idx24_1 (A B : ByteArray) (w : World) : (Instr.index 24 (.agg #[.string A, .string B]) (.int .i64 1)).run Tryd.prog w = .ok (.string B) w := by kernel_rfl
theorem idx24 (A B : ByteArray) (k : Nat) (hk : k < 2) (w : World) : (Instr.index 24 (.agg #[.string A, .string B]) (.int .i64 (k : Int))).run Tryd.prog w = .ok (.string (if k = 0 then A else B)) w := by
  have h : k = 0 ∨ k = 1 := by omega
  rcases h with rfl | rfl
  · exact idx24_0 A B w
  · exact idx24_1 A B w
set_option maxRecDepth 100000 in
set_option maxHeartbeats 8000000 in
theorem clamps_true (S : ByteArray) (w : World) (hD : Digits w) (hs : S.size ≤ maxLen) :
    Calls Tryd.prog 3 #[.string S] w fun e w' => e = .returned (.bool true) ∧ Below w.heap.size w w' := by
  unfold maxLen at hs
  have K0 := Wk.start hD
  obtain ⟨m, z, hz, hzl, hmin, hms⟩ := cut_m S 40 40 rfl
  have hsl := fun w => cut_run S m z hz hms w
  have HSZ := Lib.hid (fun W => sized_any z W)
  have HI := Lib.hid (fun k hk W => idx24 (bs z) (bs (szL z)) k hk W)
  have HX : Hid (∀ k, k < 2 → ∃ x : List UInt8, (if k = 0 then bs z else bs (szL z)) = bs x ∧ x.length ≤ 40) := Lib.hid (fun k _ => by
    by_cases h : k = 0
    · exact ⟨z, by rw [if_pos h], hzl⟩
    · exact ⟨szL z, by rw [if_neg h], by rw [szL_length]; decide⟩)
  have HLE : Hid (z.length ≤ 40) := Lib.hid hzl
  have HNO : Hid (z.length ≠ 32 → ∀ W U, (Calls Tryd.prog 16 #[.string (bs z)] W fun e w' => e = .returned (.tuple #[.string ⟨#[]⟩, .int .i64 2]) ∧ w' = W) ∧ (Calls Tryd.prog 17 #[.string (bs z), .string U] W fun e w' => e = .returned (.tuple #[.string ⟨#[]⟩, .int .i64 2]) ∧ w' = W) ∧ (Calls Tryd.prog 17 #[.string U, .string (bs z)] W fun e w' => e = .returned (.tuple #[.string ⟨#[]⟩, .int .i64 2]) ∧ w' = W)) :=
    Lib.hid (fun h W U => ⟨Public_no _ W (by rw [bs_size]; exact h), Shared_no _ _ W (.inl (by rw [bs_size]; exact h)), Shared_no _ _ W (.inr (by rw [bs_size]; exact h))⟩)
  have HZ : Hid ((bs z).size = z.length) := Lib.hid (bs_size z)
  obtain ⟨Z, hZ⟩ : ∃ Z, bs z = Z := ⟨_, rfl⟩
  obtain ⟨F, hF⟩ : ∃ F, bs (szL z) = F := ⟨_, rfl⟩
  rw [hZ] at HI HX HNO HZ HSZ
  simp only [hZ] at hsl
  rw [hF] at HI HX HSZ
  clear hD hs hz hzl hZ hF
  go_enter Tryd.func3, Tryd.ntmps3
  go_wp2_with (first
    | (go_at_call 11; (with_reducible refine (works_true _ K0.d).mono ?_); rintro e V ⟨rfl, hb⟩; with_reducible replace K0 := Wk.step K0 hb; clear hb)
    | (go_at_call 12; (with_reducible refine (HSZ.out _).mono ?_); rintro e V ⟨rfl, hb⟩; with_reducible replace K0 := Wk.step K0 hb; clear hb))
  have HK0 := Lib.hid K0
  clear K0 hsl hmin hms
  go_loopw [5, 6, 7, 8, 27] (fun _ _ _ _ i wr => ∃ k : Nat, k ≤ 2 ∧ i = .int .i64 (k : Int) ∧ Hid (Wk w wr [])) (fun _ _ _ _ i _ => 2 - (intOf i).toNat)
  case atStart => exact ⟨0, by omega, rfl, HK0⟩
  case round =>
    clear HK0
    obtain ⟨k, hk, rfl, HKr⟩ := hrel
    by_cases hlt : k < 2
    · have hi := fun W => HI.out k hlt W
      obtain ⟨x, hx, hxl⟩ := HX.out k hlt
      rw [hx] at hi
      have K1 := HKr.out
      have hki : (k : Int) < 2 := by omega
      by_cases h32 : x.length = 32
      · have HC := Lib.hid (fun W => Clamp_yes x W h32)
        have HR := Lib.hid (fun W => rclamp x W h32)
        have hxs : (bs x).size = 32 := by rw [bs_size]; exact h32
        generalize bs x = X at hi HC hxs HR
        generalize bs (clN x) = R at HC HR
        clear hx hxl HKr h32
        go_wp2_with (first
          | (go_at_call 13; (with_reducible refine (HC.out _).mono ?_); rintro e V ⟨rfl, hb⟩; with_reducible replace K1 := Wk.step K1 hb; clear hb)
          | (go_at_call 14; (with_reducible refine (HR.out _).mono ?_); rintro e V ⟨rfl, hb⟩; with_reducible replace K1 := Wk.step K1 hb; clear hb)
          | (go_at_call 15; (with_reducible refine (told_yes _ _).mono ?_); rintro e V ⟨rfl, rfl⟩))
        go_roundw
        case rel => exact ⟨k + 1, by omega, by go_num, Lib.hid K1⟩
        case measure => simp [intOf]; omega
      · have HC := Lib.hid (fun W => Clamp_no (bs x) W (by rw [bs_size]; exact h32))
        have hxs : (bs x).size ≠ 32 := by rw [bs_size]; exact h32
        generalize bs x = X at hi HC hxs
        have hn1 : ((X.size : Int) == 32) = false := by simp; omega
        have hn2 : decide ((X.size : Int) = 32) = false := decide_eq_false (by omega)
        clear hx hxl HKr h32 hxs
        go_wp2_with (first
          | (go_at_call 13; (with_reducible refine (HC.out _).mono ?_); rintro e V ⟨rfl, rfl⟩)
          | (go_at_call 15; (with_reducible refine (told_no _ _).mono ?_); rintro e V ⟨rfl, rfl⟩))
        go_roundw
        case rel => exact ⟨k + 1, by omega, by go_num, Lib.hid K1⟩
        case measure => simp [intOf]; omega
    · obtain rfl : k = 2 := by omega
      by_cases h32 : z.length = 32
      · have hzs : Z.size = 32 := HZ.out.trans h32
        clear hlt
        go_wp2
        go_ret
        exact ⟨rfl, HKr.out.b⟩
      · have HP := Lib.hid (HNO.out h32)
        have hn2 : decide ((Z.size : Int) = 32) = false := decide_eq_false (by have := HZ.out; omega)
        have hn1 : ((Z.size : Int) == 32) = false := hn2
        clear hlt
        go_wp2_with (first
          | (go_at_call 16; (with_reducible refine (HP.out _ F).1.mono ?_); rintro e V ⟨rfl, rfl⟩)
          | (go_at_call 17; (first | (with_reducible refine (HP.out _ _).2.1.mono ?_) | (with_reducible refine (HP.out _ _).2.2.mono ?_)); rintro e V ⟨rfl, rfl⟩)
          | (go_at_call 15; (with_reducible refine (told_no _ _).mono ?_); rintro e V ⟨rfl, rfl⟩))
        go_ret
        exact ⟨rfl, HKr.out.b⟩
end Go.Proofs.YtbadiljligcenaaDoor
