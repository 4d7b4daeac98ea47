/- told() and works() of layer 5: the chapter's examples. -/
import Derived.Test.YtbadiljligcenaaDoorFR
import Derived.Test.YtbadiljligcenaaDoorUH
namespace Go.Proofs.YtbadiljligcenaaDoor
open Go.RowKit Go.Shelf
def exA : List UInt8 := [165, 70, 227, 107, 240, 82, 124, 157, 59, 22, 21, 75, 130, 70, 94, 221, 98, 20, 76, 10, 193, 252, 90, 24, 80, 106, 34, 68, 186, 68, 154, 196]
def exU : List UInt8 := [230, 219, 104, 103, 88, 48, 48, 219, 53, 148, 193, 164, 36, 177, 95, 124, 114, 102, 36, 236, 38, 179, 53, 59, 16, 169, 3, 166, 208, 171, 28, 76]
def exR : List UInt8 := [195, 218, 85, 55, 157, 233, 198, 144, 142, 148, 234, 77, 242, 141, 8, 79, 50, 236, 207, 3, 73, 28, 113, 247, 84, 180, 7, 85, 119, 162, 133, 82]
def FULL : List UInt8 := 248 :: (List.replicate 30 255 ++ [127])
theorem exShared : octV (shN exA exU) 32 = exR ∧ shN exA exU ≠ 0 := by decide +kernel
theorem exZero : shN exA (List.replicate 32 0) = 0 := by decide +kernel
theorem exHex : (⟨(hexL exR).toArray⟩ : ByteArray) = ⟨#[99, 51, 100, 97, 53, 53, 51, 55, 57, 100, 101, 57, 99, 54, 57, 48, 56, 101, 57, 52, 101, 97, 52, 100, 102, 50, 56, 100, 48, 56, 52, 102, 51, 50, 101, 99, 99, 102, 48, 51, 52, 57, 49, 99, 55, 49, 102, 55, 53, 52, 98, 52, 48, 55, 53, 53, 55, 55, 97, 50, 56, 53, 53, 50]⟩ := by decide +kernel
theorem exClamp : bs (clN (List.replicate 32 255)) = bs FULL := by decide +kernel
theorem exFull : (⟨#[248]⟩ : ByteArray) ++ bs (List.replicate 30 255) ++ ⟨#[127]⟩ = bs FULL := by decide +kernel
theorem exCut : ((bs exU).extract 0 (min (32 : Int) 31).toNat).size ≠ 32 := by decide +kernel
theorem xUnA (w : World) (hD : Digits w) : Calls Tryd.prog 23 #[.string ⟨#[97, 53, 52, 54, 101, 51, 54, 98, 102, 48, 53, 50, 55, 99, 57, 100, 51, 98, 49, 54, 49, 53, 52, 98, 56, 50, 52, 54, 53, 101, 100, 100, 54, 50, 49, 52, 52, 99, 48, 97, 99, 49, 102, 99, 53, 97, 49, 56, 53, 48, 54, 97, 50, 50, 52, 52, 98, 97, 52, 52, 57, 97, 99, 52]⟩] w fun e w' => e = .returned (.tuple #[.string (bs exA), .int .i64 0]) ∧ Below w.heap.size w w' :=
  (unhex_any ⟨#[97, 53, 52, 54, 101, 51, 54, 98, 102, 48, 53, 50, 55, 99, 57, 100, 51, 98, 49, 54, 49, 53, 52, 98, 56, 50, 52, 54, 53, 101, 100, 100, 54, 50, 49, 52, 52, 99, 48, 97, 99, 49, 102, 99, 53, 97, 49, 56, 53, 48, 54, 97, 50, 50, 52, 52, 98, 97, 52, 52, 57, 97, 99, 52]⟩ w hD (by decide +kernel)).mono fun e w' h => ⟨h.1.trans ((congrArg Ending.returned (unRes_yes (s := ⟨#[97, 53, 52, 54, 101, 51, 54, 98, 102, 48, 53, 50, 55, 99, 57, 100, 51, 98, 49, 54, 49, 53, 52, 98, 56, 50, 52, 54, 53, 101, 100, 100, 54, 50, 49, 52, 52, 99, 48, 97, 99, 49, 102, 99, 53, 97, 49, 56, 53, 48, 54, 97, 50, 50, 52, 52, 98, 97, 52, 52, 57, 97, 99, 52]⟩) ⟨by decide +kernel, by unfold pairOk; decide +kernel⟩)).trans (by kernel_rfl)), h.2⟩
theorem xUnU (w : World) (hD : Digits w) : Calls Tryd.prog 23 #[.string ⟨#[101, 54, 100, 98, 54, 56, 54, 55, 53, 56, 51, 48, 51, 48, 100, 98, 51, 53, 57, 52, 99, 49, 97, 52, 50, 52, 98, 49, 53, 102, 55, 99, 55, 50, 54, 54, 50, 52, 101, 99, 50, 54, 98, 51, 51, 53, 51, 98, 49, 48, 97, 57, 48, 51, 97, 54, 100, 48, 97, 98, 49, 99, 52, 99]⟩] w fun e w' => e = .returned (.tuple #[.string (bs exU), .int .i64 0]) ∧ Below w.heap.size w w' :=
  (unhex_any ⟨#[101, 54, 100, 98, 54, 56, 54, 55, 53, 56, 51, 48, 51, 48, 100, 98, 51, 53, 57, 52, 99, 49, 97, 52, 50, 52, 98, 49, 53, 102, 55, 99, 55, 50, 54, 54, 50, 52, 101, 99, 50, 54, 98, 51, 51, 53, 51, 98, 49, 48, 97, 57, 48, 51, 97, 54, 100, 48, 97, 98, 49, 99, 52, 99]⟩ w hD (by decide +kernel)).mono fun e w' h => ⟨h.1.trans ((congrArg Ending.returned (unRes_yes (s := ⟨#[101, 54, 100, 98, 54, 56, 54, 55, 53, 56, 51, 48, 51, 48, 100, 98, 51, 53, 57, 52, 99, 49, 97, 52, 50, 52, 98, 49, 53, 102, 55, 99, 55, 50, 54, 54, 50, 52, 101, 99, 50, 54, 98, 51, 51, 53, 51, 98, 49, 48, 97, 57, 48, 51, 97, 54, 100, 48, 97, 98, 49, 99, 52, 99]⟩) ⟨by decide +kernel, by unfold pairOk; decide +kernel⟩)).trans (by kernel_rfl)), h.2⟩
theorem rep_cons (c : UInt8) (n : Nat) : Lib.repeatL [c] n = List.replicate n c := by
  induction n with
  | zero => rfl
  | succ n ih => rw [Lib.repeatL, ih]; rfl
/-- One octet, n times. -/
def rp (c : UInt8) (n : Nat) : ByteArray := bs (List.replicate n c)
theorem rp_size (c : UInt8) (n : Nat) : (rp c n).size = n := by unfold rp; rw [bs_size, List.length_replicate]
theorem kRep (c : UInt8) (n : Nat) (z : Int) (w : World) (hz : z = (n : Int)) (hn : n ≤ 140737488355328) :
    Calls Tryd.prog 21 #[.string ⟨#[c]⟩, .int .i64 z] w fun e w' => e = .returned (.string (rp c n)) ∧ Below w.heap.size w w' := by
  subst hz
  have h1 : (⟨#[c]⟩ : ByteArray).size = 1 := rfl
  refine (Tryd.strings_Repeat ⟨#[c]⟩ n w (by omega) (by rw [h1]; omega)).mono ?_
  rintro e w' ⟨rfl, h⟩
  refine ⟨?_, h⟩
  show Ending.returned (.string ⟨(Lib.repeatL [c] n).toArray⟩) = _
  rw [rep_cons]; rfl
theorem xShared (w : World) : Calls Tryd.prog 17 #[.string (bs exA), .string (bs exU)] w fun e w' => e = .returned (.tuple #[.string (bs exR), .int .i64 0]) ∧ Below w.heap.size w w' := by
  refine (Shared_yes exA exU w rfl rfl).mono ?_
  rintro e w' ⟨rfl, h⟩
  refine ⟨?_, h⟩
  rw [shRes, if_neg exShared.2, exShared.1]
theorem xZero (w : World) : Calls Tryd.prog 17 #[.string (bs exA), .string (rp 0 32)] w fun e w' => e = .returned (.tuple #[.string ⟨#[]⟩, .int .i64 2]) ∧ Below w.heap.size w w' := by
  refine (Shared_yes exA (List.replicate 32 0) w rfl (by rw [List.length_replicate])).mono ?_
  rintro e w' ⟨rfl, h⟩
  refine ⟨?_, h⟩
  rw [shRes, if_pos exZero]
theorem xClamp (w : World) : Calls Tryd.prog 13 #[.string (rp 255 32)] w fun e w' => e = .returned (.tuple #[.string (bs FULL), .int .i64 0]) ∧ Below w.heap.size w w' := by
  refine (Clamp_yes (List.replicate 32 255) w (by rw [List.length_replicate])).mono ?_
  rintro e w' ⟨rfl, h⟩
  exact ⟨by rw [exClamp], h⟩
theorem xHex (w : World) (hD : Digits w) : Calls Tryd.prog 24 #[.string (bs exR)] w fun e w' => e = .returned (.string ⟨#[99, 51, 100, 97, 53, 53, 51, 55, 57, 100, 101, 57, 99, 54, 57, 48, 56, 101, 57, 52, 101, 97, 52, 100, 102, 50, 56, 100, 48, 56, 52, 102, 51, 50, 101, 99, 99, 102, 48, 51, 52, 57, 49, 99, 55, 49, 102, 55, 53, 52, 98, 52, 48, 55, 53, 53, 55, 55, 97, 50, 56, 53, 53, 50]⟩) ∧ Below w.heap.size w w' := by
  refine (hex_any (bs exR) w hD (by rw [bs_size]; decide)).mono ?_
  rintro e w' ⟨rfl, h⟩
  refine ⟨?_, h⟩
  rw [bs_data, exHex]
set_option maxRecDepth 100000 in
set_option maxHeartbeats 2000000 in
theorem told_no (S : ByteArray) (w : World) : Calls Tryd.prog 15 #[.string ⟨#[]⟩, .int .i64 2, .bool false, .string S] w fun e w' => e = .returned (.bool true) ∧ w' = w := by
  go_enter Tryd.func15, Tryd.ntmps15
  go_wp2
  go_ret
  exact ⟨rfl, rfl⟩
set_option maxRecDepth 100000 in
set_option maxHeartbeats 2000000 in
theorem told_yes (S : ByteArray) (w : World) : Calls Tryd.prog 15 #[.string S, .int .i64 0, .bool true, .string S] w fun e w' => e = .returned (.bool true) ∧ w' = w := by
  go_enter Tryd.func15, Tryd.ntmps15
  go_wp2
  go_ret
  exact ⟨rfl, rfl⟩
set_option maxRecDepth 1000000 in
set_option maxHeartbeats 8000000 in
theorem works_true (w : World) (hD : Digits w) :
    Calls Tryd.prog 11 #[] w fun e w' => e = .returned (.bool true) ∧ Below w.heap.size w w' := by
  have K0 := Wk.start hD
  have z1 : (bs exU).size = 32 := rfl
  have hcut := exCut
  have hfull := exFull
  have hr : rp 255 30 = bs (List.replicate 30 255) := rfl
  rw [← hr] at hfull
  have s1 : ∀ w : World, (Instr.slice 9 (.string (bs exU)) none (some (.int .i64 31)) none).run Tryd.prog w = .ok (.string ((bs exU).extract 0 31)) w := fun w => by kernel_rfl
  have HCUT := Lib.hid hcut
  have z2 : (rp 255 30).size = 30 := rp_size _ _
  clear hD hcut hr
  go_enter Tryd.func11, Tryd.ntmps11
  go_wp2_with (first
    | (go_at_call 23; (first | (with_reducible refine (xUnA _ K0.d).mono ?_) | (with_reducible refine (xUnU _ K0.d).mono ?_)); rintro e V ⟨rfl, hb⟩; with_reducible replace K0 := Wk.step K0 hb; clear hb)
    | (go_at_call 21; (first | (with_reducible refine (kRep 255 32 32 _ rfl (by decide)).mono ?_) | (with_reducible refine (kRep 0 32 32 _ rfl (by decide)).mono ?_) | (with_reducible refine (kRep 255 30 30 _ rfl (by decide)).mono ?_)); rintro e V ⟨rfl, hb⟩; with_reducible replace K0 := Wk.step K0 hb; clear hb)
    | (go_at_call 13; (with_reducible refine (xClamp _).mono ?_); rintro e V ⟨rfl, hb⟩; with_reducible replace K0 := Wk.step K0 hb; clear hb)
    | (go_at_call 24; (with_reducible refine (xHex _ K0.d).mono ?_); rintro e V ⟨rfl, hb⟩; with_reducible replace K0 := Wk.step K0 hb; clear hb)
    | (go_at_call 15; (with_reducible refine (told_no _ _).mono ?_); rintro e V ⟨rfl, rfl⟩)
    | (go_at_call 17; (first | ((with_reducible refine (xShared _).mono ?_); rintro e V ⟨rfl, hb⟩; with_reducible replace K0 := Wk.step K0 hb; clear hb) | ((with_reducible refine (xZero _).mono ?_); rintro e V ⟨rfl, hb⟩; with_reducible replace K0 := Wk.step K0 hb; clear hb) | ((with_reducible refine (Shared_no _ _ _ (.inr HCUT.out)).mono ?_); rintro e V ⟨rfl, rfl⟩))))
  go_ret
  exact ⟨rfl, K0.b⟩
end Go.Proofs.YtbadiljligcenaaDoor
