/- The walk of CurveKnown. -/
import Derived.Test.YtbadiljligcenaaDoorFS
namespace Go.Proofs.YtbadiljligcenaaDoor
open Go.RowKit Go.Shelf
def PZ : List UInt8 := [47, 229, 125, 163, 71, 205, 98, 67, 21, 40, 218, 172, 95, 187, 41, 7, 48, 255, 246, 132, 175, 196, 207, 194, 237, 144, 153, 95, 88, 203, 59, 116]
def CZ : List UInt8 := List.replicate 31 0 ++ [64]
theorem exPZ : pubN (List.replicate 32 0) = PZ ∧ pubN CZ = PZ ∧ clN (List.replicate 32 0) = CZ := by decide +kernel
theorem exNe : ((bs PZ).toList == (rp 0 32).toList) = false := by decide +kernel
theorem exCZ : rp 0 31 ++ (⟨#[64]⟩ : ByteArray) = bs CZ := by decide +kernel
theorem xClampZ (w : World) : Calls Tryd.prog 13 #[.string (rp 0 32)] w fun e w' => e = .returned (.tuple #[.string (bs CZ), .int .i64 0]) ∧ Below w.heap.size w w' := by
  refine (Clamp_yes (List.replicate 32 0) w (by rw [List.length_replicate])).mono ?_
  rintro e w' ⟨rfl, h⟩
  exact ⟨by rw [exPZ.2.2], h⟩
theorem xPubZ (w : World) : Calls Tryd.prog 16 #[.string (rp 0 32)] w fun e w' => e = .returned (.tuple #[.string (bs PZ), .int .i64 0]) ∧ Below w.heap.size w w' := by
  refine (Public_yes (List.replicate 32 0) w (by rw [List.length_replicate])).mono ?_
  rintro e w' ⟨rfl, h⟩
  exact ⟨by rw [exPZ.1], h⟩
theorem xPubC (w : World) : Calls Tryd.prog 16 #[.string (bs CZ)] w fun e w' => e = .returned (.tuple #[.string (bs PZ), .int .i64 0]) ∧ Below w.heap.size w w' := by
  refine (Public_yes CZ w (by decide)).mono ?_
  rintro e w' ⟨rfl, h⟩
  exact ⟨by rw [exPZ.2.1], h⟩
theorem emp_ne : (⟨#[]⟩ : ByteArray).size ≠ 32 := by decide
set_option maxRecDepth 1000000 in
set_option maxHeartbeats 8000000 in
theorem known_true (w : World) (hD : Digits w) :
    Calls Tryd.prog 10 #[] w fun e w' => e = .returned (.bool true) ∧ Below w.heap.size w w' := by
  have K0 := Wk.start hD
  have hne := exNe
  have hcz := exCZ
  have z1 : (bs PZ).size = 32 := rfl
  have z2 : (rp 0 31).size = 31 := rp_size _ _
  have z3 : (rp 107 32).size = 32 := rp_size _ _
  have HLONG := Lib.hid (show (rp 107 32 ++ (⟨#[107]⟩ : ByteArray)).size ≠ 32 by rw [ByteArray.size_append, rp_size]; decide)
  clear hD
  go_enter Tryd.func10, Tryd.ntmps10
  go_wp2_with (first
    | (go_at_call 11; (with_reducible refine (works_true _ K0.d).mono ?_); rintro e V ⟨rfl, hb⟩; with_reducible replace K0 := Wk.step K0 hb; clear hb)
    | (go_at_call 21; (first | (with_reducible refine (kRep 107 32 32 _ rfl (by decide)).mono ?_) | (with_reducible refine (kRep 0 32 32 _ rfl (by decide)).mono ?_) | (with_reducible refine (kRep 0 31 31 _ rfl (by decide)).mono ?_)); rintro e V ⟨rfl, hb⟩; with_reducible replace K0 := Wk.step K0 hb; clear hb)
    | (go_at_call 13; (first | ((with_reducible refine (xClampZ _).mono ?_); rintro e V ⟨rfl, hb⟩; with_reducible replace K0 := Wk.step K0 hb; clear hb) | ((with_reducible refine (Clamp_no _ _ emp_ne).mono ?_); rintro e V ⟨rfl, rfl⟩)))
    | (go_at_call 16; (first | ((with_reducible refine (xPubZ _).mono ?_); rintro e V ⟨rfl, hb⟩; with_reducible replace K0 := Wk.step K0 hb; clear hb) | ((with_reducible refine (xPubC _).mono ?_); rintro e V ⟨rfl, hb⟩; with_reducible replace K0 := Wk.step K0 hb; clear hb) | ((with_reducible refine (Public_no _ _ HLONG.out).mono ?_); rintro e V ⟨rfl, rfl⟩)))
    | (go_at_call 15; (with_reducible refine (told_no _ _).mono ?_); rintro e V ⟨rfl, rfl⟩)
    | (go_at_call 17; (first | ((with_reducible refine (Shared_no _ _ _ (.inr emp_ne)).mono ?_); rintro e V ⟨rfl, rfl⟩) | ((with_reducible refine (Shared_no _ _ _ (.inl emp_ne)).mono ?_); rintro e V ⟨rfl, rfl⟩))))
  go_ret
  exact ⟨rfl, K0.b⟩
end Go.Proofs.YtbadiljligcenaaDoor
