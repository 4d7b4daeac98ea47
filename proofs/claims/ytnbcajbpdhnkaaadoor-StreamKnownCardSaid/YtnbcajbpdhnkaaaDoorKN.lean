/- StreamKnown returns true. -/
import Derived.Test.YtnbcajbpdhnkaaaDoorG
import Derived.Laws.Concat
namespace Go.Proofs.YtnbcajbpdhnkaaaDoor
open Go.RowKit Go.ChangeShapes

theorem same_bel {w w' : World} (h : w = w') : Below w.heap.size w w' := by subst h; exact Below.refl _ _
theorem blockB_no (s t : ByteArray) (c : Int) (w : World) (hg : good s t c = false) :
    Calls Tryd.prog 10 #[.string s, .string t, .int .i64 c] w fun e w' => e = .returned (.tuple #[.string ⟨#[]⟩, .int .i64 2]) ∧ Below w.heap.size w w' := (block_no s t c w hg).mono fun _ _ h => ⟨h.1, same_bel h.2⟩
theorem applyB_arg (s t : ByteArray) (c : Int) (u : ByteArray) (w : World) (hg : good s t c = false) :
    Calls Tryd.prog 14 #[.string s, .string t, .int .i64 c, .string u] w fun e w' => e = .returned (.tuple #[.string ⟨#[]⟩, .int .i64 2]) ∧ Below w.heap.size w w' := (apply_arg s t c u w hg).mono fun _ _ h => ⟨h.1, same_bel h.2⟩
theorem kBig2 (w : World) : Calls Tryd.prog 14 #[.string (bs KEY), .string ⟨#[0, 0, 0, 9, 0, 0, 0, 74, 0, 0, 0, 0]⟩, .int .i64 4294967233, .string (rp 120 4096)] w fun e w' => e = .returned (.tuple #[.string ⟨#[]⟩, .int .i64 6]) ∧ Below w.heap.size w w' :=
  (apply_big (bs KEY) _ 4294967233 (rp 120 4096) w (by decide +kernel) (by rw [rp_size]; decide) (by rw [rp_size]; decide) (by decide)).mono fun _ _ h => ⟨h.1, same_bel h.2⟩
theorem kLong (w : World) : Calls Tryd.prog 14 #[.string (bs KEY), .string ⟨#[0, 0, 0, 9, 0, 0, 0, 74, 0, 0, 0, 0]⟩, .int .i64 4294967295, .string (rp 120 4097)] w fun e w' => e = .returned (.tuple #[.string ⟨#[]⟩, .int .i64 3]) ∧ Below w.heap.size w w' :=
  (apply_long (bs KEY) _ 4294967295 (rp 120 4097) w (by rw [rp_size]; decide) (by decide +kernel) (by rw [rp_size]; decide)).mono fun _ _ h => ⟨h.1, same_bel h.2⟩
theorem kRF (w : World) : Calls Tryd.prog 18 #[.string ⟨#[120]⟩, .int .i64 4096] w fun e w' => e = .returned (.string (rp 120 4096)) ∧ Below w.heap.size w w' := kRep 120 4096 4096 w rfl (by decide)
theorem kRL (w : World) : Calls Tryd.prog 18 #[.string ⟨#[120]⟩, .int .i64 4097] w fun e w' => e = .returned (.string (rp 120 4097)) ∧ Below w.heap.size w w' := kRep 120 4097 4097 w rfl (by decide)
theorem kRZ (w : World) : Calls Tryd.prog 18 #[.string ⟨#[0]⟩, .int .i64 64] w fun e w' => e = .returned (.string (rp 0 64)) ∧ Below w.heap.size w w' := kRep 0 64 64 w rfl (by decide)
theorem app_get (k n : List UInt8) (c : Nat) (s : List UInt8) (i : Nat) (h : i < s.length) : (appO k n c s).getD i 0 = s.getD i 0 ^^^ strB k n c i := by simp [appO, appN, List.getD_eq_getElem?_getD, h]
/-- Octets 0 become the block. -/
theorem app_zero (k n : List UInt8) (c : Nat) : appO k n c (List.replicate 64 0) = blockO k n c := by
  apply list_ext_getD
  · rw [appO_length, blockO_length, List.length_replicate]
  · intro i hi
    rw [appO_length, List.length_replicate] at hi
    have h1 : (appO k n c (List.replicate 64 0)).getD i 0 = (List.replicate 64 (0 : UInt8)).getD i 0 ^^^ strB k n c i := app_get k n c _ i (by rw [List.length_replicate]; exact hi)
    have h2 : (List.replicate 64 (0 : UInt8)).getD i 0 = 0 := by rw [List.getD_eq_getElem?_getD, List.getElem?_replicate, if_pos hi]; rfl
    rw [h1, h2, UInt8.zero_xor]
    unfold strB
    rw [show i / 64 = 0 by omega, show i % 64 = i by omega, Nat.add_zero]
theorem kFull : ∃ A : ByteArray, (A.size : Int) = 4096 ∧ ∀ w : World, Calls Tryd.prog 14 #[.string (bs KEY), .string ⟨#[0, 0, 0, 9, 0, 0, 0, 74, 0, 0, 0, 0]⟩, .int .i64 4294967232, .string (rp 120 4096)] w fun e w' => e = .returned (.tuple #[.string A, .int .i64 0]) ∧ Below w.heap.size w w' :=
  ⟨bs (appO KEY NONL 4294967232 (List.replicate 4096 120)), by rw [bs_size, appO_length, List.length_replicate]; rfl, fun w => apply_ok KEY NONL 4294967232 (List.replicate 4096 120) w rfl rfl (by decide) (by rw [List.length_replicate]; decide) (by rw [List.length_replicate]; decide)⟩
theorem kLast : ∃ B : ByteArray, (∀ w : World, Calls Tryd.prog 10 #[.string (bs KEY), .string ⟨#[0, 0, 0, 9, 0, 0, 0, 74, 0, 0, 0, 0]⟩, .int .i64 4294967295] w fun e w' => e = .returned (.tuple #[.string B, .int .i64 0]) ∧ Below w.heap.size w w') ∧
    ∀ w : World, Calls Tryd.prog 14 #[.string (bs KEY), .string ⟨#[0, 0, 0, 9, 0, 0, 0, 74, 0, 0, 0, 0]⟩, .int .i64 4294967295, .string (rp 0 64)] w fun e w' => e = .returned (.tuple #[.string B, .int .i64 0]) ∧ Below w.heap.size w w' :=
  ⟨bs (blockO KEY NONL 4294967295), fun w => block_ok KEY NONL 4294967295 w rfl rfl (by decide), fun w => by
    have h := apply_ok KEY NONL 4294967295 (List.replicate 64 0) w rfl rfl (by decide) (by rw [List.length_replicate]; decide) (by rw [List.length_replicate]; decide)
    rw [app_zero] at h
    exact h⟩
theorem kNone (w : World) : Calls Tryd.prog 14 #[.string (bs KEY), .string ⟨#[0, 0, 0, 9, 0, 0, 0, 74, 0, 0, 0, 0]⟩, .int .i64 4294967295, .string ⟨#[]⟩] w fun e w' => e = .returned (.tuple #[.string ⟨#[]⟩, .int .i64 0]) ∧ Below w.heap.size w w' :=
  apply_ok KEY NONL 4294967295 [] w rfl rfl (by decide) (by decide) (by decide)
set_option maxRecDepth 1000000 in
set_option maxHeartbeats 16000000 in
theorem known_true (w : World) (hD : Digits w) :
    Calls Tryd.prog 7 #[] w fun e w' => e = .returned (.bool true) ∧ Below w.heap.size w w' := by
  have K0 := Wk.start hD
  obtain ⟨A, hA, kA⟩ := kFull
  obtain ⟨B, kB, kZ⟩ := kLast
  have KA := Lib.hid kA
  have KB := Lib.hid kB
  have KZ := Lib.hid kZ
  clear hD kA kB kZ
  go_enter Tryd.func7, Tryd.ntmps7
  go_wp2_with (first
    | (go_at_call 8; (with_reducible refine (works_true _ K0.d).mono ?_); rintro e V ⟨rfl, hb⟩; with_reducible replace K0 := Wk.step K0 hb; clear hb)
    | (go_at_call 19; (with_reducible refine (keys_any _).mono ?_); rintro e V ⟨rfl, hb⟩; with_reducible replace K0 := Wk.step K0 hb; clear hb)
    | (go_at_call 18; (first | (with_reducible refine (kRF _).mono ?_) | (with_reducible refine (kRL _).mono ?_) | (with_reducible refine (kRZ _).mono ?_)); rintro e V ⟨rfl, hb⟩; with_reducible replace K0 := Wk.step K0 hb; clear hb)
    | (go_at_call 10; (with_reducible refine (KB.out _).mono ?_); rintro e V ⟨rfl, hb⟩; with_reducible replace K0 := Wk.step K0 hb; clear hb)
    | (go_at_call 14; (first
        | ((with_reducible refine (KA.out _).mono ?_); rintro e V ⟨rfl, hb⟩; with_reducible replace K0 := Wk.step K0 hb; clear hb)
        | ((with_reducible refine (KZ.out _).mono ?_); rintro e V ⟨rfl, hb⟩; with_reducible replace K0 := Wk.step K0 hb; clear hb)
        | ((first | (with_reducible refine (kNone _).mono ?_) | (with_reducible refine (kBig2 _).mono ?_) | (with_reducible refine (kLong _).mono ?_)); rintro e V ⟨rfl, hb⟩; (try clear hp hz); obtain ⟨K1, hp, hz⟩ := Wk.cell1 K0 hb; clear hb K0; have K0 := K1; clear K1)
        | ((with_reducible refine (applyB_arg _ _ _ _ _ ?_).mono ?_); (decide +kernel); rintro e V ⟨rfl, hb⟩; (try clear hp hz); obtain ⟨K1, hp, hz⟩ := Wk.cell1 K0 hb; clear hb K0; have K0 := K1; clear K1)))
    | (go_at_call 17; (with_reducible refine (same_any _ _).mono ?_); rintro e X ⟨rfl, rfl⟩)
    | (go_at_call 20; (with_reducible refine (fails_any _ _).mono ?_); rintro e X ⟨rfl, rfl⟩)
    | (go_at_call 29; (with_reducible refine (same1_yes _ _ _ hp).mono ?_); rintro e V ⟨rfl, rfl⟩)
    | (go_at_call 36; (with_reducible refine (fails1_yes _ _ _ hp).mono ?_); rintro e V ⟨rfl, rfl⟩))
  clear hp hz
  have hc1 : ∀ wx : World, (Op.stringOp .add (bs KEY) ⟨#[120]⟩).run Tryd.prog wx = .ok (.string (bs KEY ++ ⟨#[120]⟩)) wx := fun wx => run_string_add wx (bs KEY) ⟨#[120]⟩ (by decide) (by decide)
  have hc2 : ∀ wx : World, (Op.stringOp .add ⟨#[0, 0, 0, 9, 0, 0, 0, 74, 0, 0, 0, 0]⟩ ⟨#[120]⟩).run Tryd.prog wx = .ok (.string (⟨#[0, 0, 0, 9, 0, 0, 0, 74, 0, 0, 0, 0]⟩ ++ ⟨#[120]⟩)) wx := fun wx => run_string_add wx ⟨#[0, 0, 0, 9, 0, 0, 0, 74, 0, 0, 0, 0]⟩ ⟨#[120]⟩ (by decide) (by decide)
  go_region_held3 (fun _ => True)
    (first | trivial)
    (first
    | (go_at_call 8; (first | (with_reducible refine (works_true _ (Wk.d (by assumption))).mono ?_) | (with_reducible refine (works_true _ (Wk.d (Wk.drew (by assumption)))).mono ?_)); rintro e V ⟨rfl, hb⟩; (repeat (with_reducible replace hb := bel_of_drew hb)); with_reducible have K := Wk.step (by assumption) hb; clear hb)
    | (go_at_call 20; (with_reducible refine (fails_any _ _).mono ?_); rintro e X ⟨rfl, rfl⟩)
    | (go_at_call 10; (with_reducible refine (blockB_no _ _ _ _ ?_).mono ?_); (decide +kernel); rintro e V ⟨rfl, hb⟩; (repeat (with_reducible replace hb := bel_of_drew hb)); with_reducible obtain ⟨K, hp, hz⟩ := Wk.cell1 (by assumption) hb; clear hb)
    | (go_at_call 14; (with_reducible refine (applyB_arg _ _ _ _ _ ?_).mono ?_); (decide +kernel); rintro e V ⟨rfl, hb⟩; (repeat (with_reducible replace hb := bel_of_drew hb)); with_reducible obtain ⟨K, hp, hz⟩ := Wk.cell1 (by assumption) hb; clear hb)
    | (go_at_call 36; (with_reducible refine (fails1_yes _ _ _ (by assumption)).mono ?_); rintro e V ⟨rfl, rfl⟩))
  all_goals go_wp2
  all_goals go_ret
  all_goals exact ⟨rfl, Wk.b (by assumption)⟩
end Go.Proofs.YtnbcajbpdhnkaaaDoor
