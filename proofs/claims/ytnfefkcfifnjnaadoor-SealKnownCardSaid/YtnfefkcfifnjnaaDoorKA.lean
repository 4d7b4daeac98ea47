/- Closed calls of SealKnown. -/
import Derived.Test.YtnfefkcfifnjnaaDoorWB
namespace Go.Proofs.YtnfefkcfifnjnaaDoor
open Go.RowKit Go.ChangeShapes
def FULL : List UInt8 := List.replicate 4096 120
theorem FULL_length : FULL.length = 4096 := List.length_replicate ..
def BXF : List UInt8 := sealO KK NN FULL FULL
theorem BXF_size : (bs BXF).size = 4112 := by rw [bs_size, BXF, sealO_length, FULL_length]
def EMB : List UInt8 := [139, 173, 136, 134, 7, 98, 73, 220, 33, 142, 217, 107, 123, 108, 15, 158]
def ONE : List UInt8 := 1 :: List.replicate 31 0
def FA : List UInt8 := 250 :: List.replicate 15 255
def THR : List UInt8 := FA ++ List.replicate 32 0
def ZRO : List UInt8 := 251 :: List.replicate 15 255 ++ List.replicate 32 0
theorem y_one : (⟨#[1]⟩ : ByteArray) ++ rp 0 31 = bs ONE := by decide +kernel
theorem y_fa : (⟨#[250]⟩ : ByteArray) ++ rp 255 15 = bs FA := by decide +kernel
theorem y_thr : (⟨#[250]⟩ : ByteArray) ++ rp 255 15 ++ rp 0 16 ++ rp 0 16 = bs THR := by decide +kernel
theorem y_zro : (⟨#[251]⟩ : ByteArray) ++ rp 255 15 ++ rp 0 16 ++ rp 0 16 = bs ZRO := by decide +kernel
theorem ySeal (w : World) : Calls Tryd.prog 20 #[.string (rp 107 32), .string (rp 110 12), .string (rp 120 4096), .string (rp 120 4096)] w fun r w' => r = .returned (.tuple #[.string (bs BXF), .int .i64 0]) ∧ Below w.heap.size w w' :=
  seal_ok KK NN FULL FULL w rfl rfl (by rw [FULL_length]; decide) (by rw [FULL_length]; decide)
theorem exE : sealO KK NN [] [] = EMB := by decide +kernel
theorem exE1 : tagO (bkO KK NN) (covO [] []) = EMB := by decide +kernel
theorem ySealE (w : World) : Calls Tryd.prog 20 #[.string (rp 107 32), .string (rp 110 12), .string ⟨#[]⟩, .string ⟨#[]⟩] w fun r w' => r = .returned (.tuple #[.string (bs EMB), .int .i64 0]) ∧ Below w.heap.size w w' := by
  have h := seal_ok KK NN [] [] w rfl rfl (by decide) (by decide)
  rw [exE] at h
  exact h
theorem app_get (k n : List UInt8) (c : Nat) (s : List UInt8) (i : Nat) (h : i < s.length) : (appO k n c s).getD i 0 = s.getD i 0 ^^^ strB k n c i := by simp [appO, appN, List.getD_eq_getElem?_getD, h]
theorem app_back (k n : List UInt8) (c : Nat) (s : List UInt8) : appO k n c (appO k n c s) = s := by
  apply list_ext_getD
  · rw [appO_length, appO_length]
  · intro i hi
    rw [appO_length, appO_length] at hi
    rw [app_get _ _ _ _ _ (by rw [appO_length]; exact hi), app_get _ _ _ _ _ hi, UInt8.xor_assoc, UInt8.xor_self, UInt8.xor_zero]
theorem yOpenF (w : World) : Calls Tryd.prog 22 #[.string (rp 107 32), .string (rp 110 12), .string (rp 120 4096), .string (bs BXF)] w fun r w' => r = .returned (.tuple #[.string (rp 120 4096), .int .i64 0]) ∧ Below w.heap.size w w' := by
  have h := open_raw KK NN FULL (appO KK NN 1 FULL) (tagO (bkO KK NN) (covO FULL (appO KK NN 1 FULL))) w rfl rfl (by rw [FULL_length]; decide) (by rw [appO_length, FULL_length]; decide) (tagO_length _ _) true (by simp)
  rw [app_back] at h
  exact h
theorem yOpenE (w : World) : Calls Tryd.prog 22 #[.string (rp 107 32), .string (rp 110 12), .string ⟨#[]⟩, .string (bs EMB)] w fun r w' => r = .returned (.tuple #[.string ⟨#[]⟩, .int .i64 0]) ∧ Below w.heap.size w w' :=
  open_raw KK NN [] [] EMB w rfl rfl (by decide) (by decide) (by decide) true (by rw [exE1]; simp)
theorem exT1 : tagO ONE THR = FA := by decide +kernel
theorem exT0 : tagO ONE ZRO = List.replicate 16 0 := by decide +kernel
theorem yTag1 (w : World) : Calls Tryd.prog 16 #[.string (bs ONE), .string (bs THR)] w fun r w' => r = .returned (.tuple #[.string (bs FA), .int .i64 0]) ∧ Below w.heap.size w w' := by
  have h := tag_ok ONE THR w (by decide) (by decide)
  rw [exT1] at h
  exact h
theorem yTag0 (w : World) : Calls Tryd.prog 16 #[.string (bs ONE), .string (bs ZRO)] w fun r w' => r = .returned (.tuple #[.string (rp 0 16), .int .i64 0]) ∧ Below w.heap.size w w' := by
  have h := tag_ok ONE ZRO w (by decide) (by decide)
  rw [exT0] at h
  exact h
theorem exX : ¬ EMB = tagO (bkO KK NN) (covO [120] []) := by decide +kernel
def MM : List UInt8 := List.replicate 12 109
theorem exM : ¬ EMB = tagO (bkO KK MM) (covO [] []) := by decide +kernel
theorem exQ : ¬ List.replicate 16 120 = tagO (bkO KK NN) (covO [] FULL) := by decide +kernel
theorem y_4112 : rp 120 4112 = bs (FULL ++ List.replicate 16 120) := by
  unfold rp FULL
  rw [List.replicate_append_replicate]
theorem yOpenX (w : World) : Calls Tryd.prog 22 #[.string (rp 107 32), .string (rp 110 12), .string ⟨#[120]⟩, .string (bs EMB)] w fun r w' => r = .returned (.tuple #[.string ⟨#[]⟩, .int .i64 9]) ∧ Below w.heap.size w w' := open_raw KK NN [120] [] EMB w rfl rfl (by decide) (by decide) (by decide) false (by simp [exX])
theorem yOpenM (w : World) : Calls Tryd.prog 22 #[.string (rp 107 32), .string (rp 109 12), .string ⟨#[]⟩, .string (bs EMB)] w fun r w' => r = .returned (.tuple #[.string ⟨#[]⟩, .int .i64 9]) ∧ Below w.heap.size w w' := open_raw KK MM [] [] EMB w rfl rfl (by decide) (by decide) (by decide) false (by simp [exM])
theorem yOpenQ (w : World) : Calls Tryd.prog 22 #[.string (rp 107 32), .string (rp 110 12), .string ⟨#[]⟩, .string (rp 120 4112)] w fun r w' => r = .returned (.tuple #[.string ⟨#[]⟩, .int .i64 9]) ∧ Below w.heap.size w w' := by
  rw [y_4112]
  exact open_raw KK NN [] FULL (List.replicate 16 120) w rfl rfl (by decide) (by rw [FULL_length]; decide) (by decide) false (by simp only [exQ]; rfl)
theorem yTagA (w : World) : Calls Tryd.prog 16 #[.string (rp 107 32 ++ ⟨#[107]⟩), .string (rp 120 4097)] w fun r w' => r = .returned (.tuple #[.string ⟨#[]⟩, .int .i64 2]) ∧ Below w.heap.size w w' := (tag_arg _ _ w (by rw [ByteArray.size_append, rp_size]; decide)).mono fun r w' h => ⟨h.1, h.2 ▸ Below.refl _ _⟩
theorem yTagL (w : World) : Calls Tryd.prog 16 #[.string (rp 107 32), .string (rp 120 4097)] w fun r w' => r = .returned (.tuple #[.string ⟨#[]⟩, .int .i64 3]) ∧ Below w.heap.size w w' := (tag_long _ _ w (rp_size _ _) (by rw [rp_size]; decide)).mono fun r w' h => ⟨h.1, h.2 ▸ Below.refl _ _⟩
theorem ySealA (w : World) : Calls Tryd.prog 20 #[.string (bs K31), .string (rp 110 12), .string (rp 120 4097), .string (rp 120 4097)] w fun r w' => r = .returned (.tuple #[.string ⟨#[]⟩, .int .i64 2]) ∧ Below w.heap.size w w' := (seal_arg _ _ _ _ w (by decide)).mono fun r w' h => ⟨h.1, h.2 ▸ Below.refl _ _⟩
theorem ySealAe (w : World) : Calls Tryd.prog 20 #[.string ((rp 107 32).extract 0 31), .string (rp 110 12), .string (rp 120 4097), .string (rp 120 4097)] w fun r w' => r = .returned (.tuple #[.string ⟨#[]⟩, .int .i64 2]) ∧ Below w.heap.size w w' := (seal_arg _ _ _ _ w (by decide +kernel)).mono fun r w' h => ⟨h.1, h.2 ▸ Below.refl _ _⟩
theorem ySealB (w : World) : Calls Tryd.prog 20 #[.string (rp 107 32), .string (rp 110 12 ++ ⟨#[110]⟩), .string ⟨#[]⟩, .string ⟨#[]⟩] w fun r w' => r = .returned (.tuple #[.string ⟨#[]⟩, .int .i64 2]) ∧ Below w.heap.size w w' := (seal_arg _ _ _ _ w (by decide +kernel)).mono fun r w' h => ⟨h.1, h.2 ▸ Below.refl _ _⟩
theorem ySealC (w : World) : Calls Tryd.prog 20 #[.string (rp 107 32), .string (rp 110 12), .string (rp 120 4097), .string ⟨#[]⟩] w fun r w' => r = .returned (.tuple #[.string ⟨#[]⟩, .int .i64 3]) ∧ Below w.heap.size w w' := seal_long KK NN _ _ w rfl rfl (.inl (by rw [rp_size]; decide))
theorem yOpenA (w : World) : Calls Tryd.prog 22 #[.string ⟨#[]⟩, .string (rp 110 12), .string (rp 120 4097), .string ⟨#[]⟩] w fun r w' => r = .returned (.tuple #[.string ⟨#[]⟩, .int .i64 2]) ∧ Below w.heap.size w w' := (open_arg _ _ _ _ w (by decide)).mono fun r w' h => ⟨h.1, h.2 ▸ Below.refl _ _⟩
theorem yOpenL (w : World) : Calls Tryd.prog 22 #[.string (rp 107 32), .string (rp 110 12), .string (rp 120 4097), .string ⟨#[]⟩] w fun r w' => r = .returned (.tuple #[.string ⟨#[]⟩, .int .i64 3]) ∧ Below w.heap.size w w' := open_long KK NN _ _ w rfl rfl (.inl (by rw [rp_size]; decide))
theorem yOpenP (w : World) : Calls Tryd.prog 22 #[.string (rp 107 32), .string (rp 110 12), .string ⟨#[]⟩, .string (rp 120 4113)] w fun r w' => r = .returned (.tuple #[.string ⟨#[]⟩, .int .i64 3]) ∧ Below w.heap.size w w' := open_long KK NN _ _ w rfl rfl (.inr (by rw [rp_size]; decide))
theorem yOpenS (w : World) : Calls Tryd.prog 22 #[.string (rp 107 32), .string (rp 110 12), .string ⟨#[]⟩, .string ⟨#[]⟩] w fun r w' => r = .returned (.tuple #[.string ⟨#[]⟩, .int .i64 7]) ∧ Below w.heap.size w w' := open_short KK NN _ _ w rfl rfl (by decide) (by decide)
theorem yTagF (w : World) : Calls Tryd.prog 16 #[.string (rp 107 32), .string (rp 120 4096)] w fun r w' => r = .returned (.tuple #[.string (bs (tagO KK FULL)), .int .i64 0]) ∧ Below w.heap.size w w' :=
  tag_ok KK FULL w rfl (by rw [FULL_length]; decide)
end Go.Proofs.YtnfefkcfifnjnaaDoor
