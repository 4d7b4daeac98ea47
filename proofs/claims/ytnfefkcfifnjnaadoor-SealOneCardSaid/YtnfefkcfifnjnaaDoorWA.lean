/- The examples of layer 4; the laws' closures. -/
import Derived.Test.YtnfefkcfifnjnaaDoorMN
import Derived.Test.YtnfefkcfifnjnaaDoorUH
import Derived.Test.YtnfefkcfifnjnaaDoorSZ
namespace Go.Proofs.YtnfefkcfifnjnaaDoor
open Go.RowKit Go.ChangeShapes
set_option maxHeartbeats 400000 in
theorem sameQ_any (s : ByteArray) (w : World) :
    Calls Tryd.prog 24 #[.string s] w fun e w' => e = .returned (.func (.func 52) #[] #[.pointer (some ⟨w.heap.size, 0, none⟩)]) ∧ w' = w.alloc (.cells #[.string s] 9) := by
  have hmf : ∀ (fn : Fn) (first cap : Array Value) (w : World), (Instr.makeFunc fn first cap).run Tryd.prog w = .ok (.func fn first cap) w := fun _ _ _ _ => rfl
  go_enter Tryd.func24, Tryd.ntmps24
  go_wp2
  go_ret
  exact ⟨rfl, rfl⟩
set_option maxHeartbeats 400000 in
theorem failsQ_any (n : Int) (w : World) :
    Calls Tryd.prog 25 #[.int .i64 n] w fun e w' => e = .returned (.func (.func 53) #[] #[.pointer (some ⟨w.heap.size, 0, none⟩)]) ∧ w' = w.alloc (.cells #[.int .i64 n] 28) := by
  have hmf : ∀ (fn : Fn) (first cap : Array Value) (w : World), (Instr.makeFunc fn first cap).run Tryd.prog w = .ok (.func fn first cap) w := fun _ _ _ _ => rfl
  go_enter Tryd.func25, Tryd.ntmps25
  go_wp2
  go_ret
  exact ⟨rfl, rfl⟩
set_option maxHeartbeats 400000 in
theorem sameQ1_yes (s : ByteArray) (p : Addr) (w : World) (hp : w.cell? p = some (.string s)) :
    Calls Tryd.prog 52 #[.string s, .int .i64 0, .pointer (some p)] w fun e w' => e = .returned (.bool true) ∧ w = w' := by
  go_enter Tryd.func52, Tryd.ntmps52
  go_wp2
  go_ret
  exact ⟨ret_b (by simp), rfl⟩
set_option maxHeartbeats 400000 in
theorem failsQ1_yes (n : Int) (p : Addr) (w : World) (hp : w.cell? p = some (.int .i64 n)) :
    Calls Tryd.prog 53 #[.string ⟨#[]⟩, .int .i64 n, .pointer (some p)] w fun e w' => e = .returned (.bool true) ∧ w = w' := by
  go_enter Tryd.func53, Tryd.ntmps53
  go_wp2
  go_ret
  exact ⟨ret_b (by simp), rfl⟩
set_option maxRecDepth 100000 in
set_option maxHeartbeats 1000000 in
theorem zerosQ_any (n : Nat) (z : Int) (w : World) (hz : z = (n : Int)) (hn : n ≤ 140737488355328) :
    Calls Tryd.prog 28 #[.int .i64 z] w fun e w' => e = .returned (.string (rp 0 n)) ∧ Below w.heap.size w w' := by
  have H := Lib.hid fun w => kRep 0 n z w hz hn
  clear hz hn
  go_enter Tryd.func28, Tryd.ntmps28
  go_wp2_with (go_at_call 30; (with_reducible refine (H.out _).mono ?_); rintro e V ⟨rfl, hb⟩)
  go_ret
  exact ⟨rfl, hb⟩
def KX : List UInt8 := [133, 214, 190, 120, 87, 85, 109, 51, 127, 68, 82, 254, 66, 213, 6, 168, 1, 3, 128, 138, 251, 13, 178, 253, 74, 191, 246, 175, 65, 73, 245, 27]
def TX : List UInt8 := [168, 6, 29, 193, 48, 81, 54, 198, 194, 43, 139, 175, 12, 1, 39, 169]
def MSG : List UInt8 := [67, 114, 121, 112, 116, 111, 103, 114, 97, 112, 104, 105, 99, 32, 70, 111, 114, 117, 109, 32, 82, 101, 115, 101, 97, 114, 99, 104, 32, 71, 114, 111, 117, 112]
def BOX : List UInt8 := [254, 147, 95, 59, 172, 249, 249, 112, 248, 214, 136, 199, 209, 19, 14, 154, 59, 49, 77, 90, 62]
def KK : List UInt8 := List.replicate 32 107
def NN : List UInt8 := List.replicate 12 110
def EXT : List UInt8 := [101, 120, 116, 114, 97]
def PLN : List UInt8 := [112, 108, 97, 105, 110]
def ANY : List UInt8 := [97, 110, 121, 116, 104, 105, 110, 103]
theorem xUnhex1 (w : World) (hD : Digits w) : Calls Tryd.prog 37 #[.string ⟨#[56, 53, 100, 54, 98, 101, 55, 56, 53, 55, 53, 53, 54, 100, 51, 51, 55, 102, 52, 52, 53, 50, 102, 101, 52, 50, 100, 53, 48, 54, 97, 56, 48, 49, 48, 51, 56, 48, 56, 97, 102, 98, 48, 100, 98, 50, 102, 100, 52, 97, 98, 102, 102, 54, 97, 102, 52, 49, 52, 57, 102, 53, 49, 98]⟩] w fun e w' => e = .returned (.tuple #[.string (bs KX), .int .i64 0]) ∧ Below w.heap.size w w' :=
  (unhex_any ⟨#[56, 53, 100, 54, 98, 101, 55, 56, 53, 55, 53, 53, 54, 100, 51, 51, 55, 102, 52, 52, 53, 50, 102, 101, 52, 50, 100, 53, 48, 54, 97, 56, 48, 49, 48, 51, 56, 48, 56, 97, 102, 98, 48, 100, 98, 50, 102, 100, 52, 97, 98, 102, 102, 54, 97, 102, 52, 49, 52, 57, 102, 53, 49, 98]⟩ w hD (by decide +kernel)).mono fun e w' h => ⟨h.1.trans ((congrArg Ending.returned (unRes_yes (s := ⟨#[56, 53, 100, 54, 98, 101, 55, 56, 53, 55, 53, 53, 54, 100, 51, 51, 55, 102, 52, 52, 53, 50, 102, 101, 52, 50, 100, 53, 48, 54, 97, 56, 48, 49, 48, 51, 56, 48, 56, 97, 102, 98, 48, 100, 98, 50, 102, 100, 52, 97, 98, 102, 102, 54, 97, 102, 52, 49, 52, 57, 102, 53, 49, 98]⟩) ⟨by decide +kernel, by unfold pairOk; decide +kernel⟩)).trans (by kernel_rfl)), h.2⟩
theorem xUnhex2 (w : World) (hD : Digits w) : Calls Tryd.prog 37 #[.string ⟨#[97, 56, 48, 54, 49, 100, 99, 49, 51, 48, 53, 49, 51, 54, 99, 54, 99, 50, 50, 98, 56, 98, 97, 102, 48, 99, 48, 49, 50, 55, 97, 57]⟩] w fun e w' => e = .returned (.tuple #[.string (bs TX), .int .i64 0]) ∧ Below w.heap.size w w' :=
  (unhex_any ⟨#[97, 56, 48, 54, 49, 100, 99, 49, 51, 48, 53, 49, 51, 54, 99, 54, 99, 50, 50, 98, 56, 98, 97, 102, 48, 99, 48, 49, 50, 55, 97, 57]⟩ w hD (by decide +kernel)).mono fun e w' h => ⟨h.1.trans ((congrArg Ending.returned (unRes_yes (s := ⟨#[97, 56, 48, 54, 49, 100, 99, 49, 51, 48, 53, 49, 51, 54, 99, 54, 99, 50, 50, 98, 56, 98, 97, 102, 48, 99, 48, 49, 50, 55, 97, 57]⟩) ⟨by decide +kernel, by unfold pairOk; decide +kernel⟩)).trans (by kernel_rfl)), h.2⟩
theorem exTag1 : tagO KX MSG = TX := by decide +kernel
theorem exTag2 : tagO (List.replicate 32 0) ANY = List.replicate 16 0 := by decide +kernel
theorem exBox : sealO KK NN EXT PLN = BOX := by decide +kernel
theorem exHid : appO KK NN 1 PLN = BOX.take 5 := by decide +kernel
theorem exBack : appO KK NN 1 (BOX.take 5) = PLN := by decide +kernel
theorem exTag3 : tagO (bkO KK NN) (covO EXT (BOX.take 5)) = BOX.drop 5 := by decide +kernel
theorem xSeal (w : World) : Calls Tryd.prog 20 #[.string (rp 107 32), .string (rp 110 12), .string ⟨#[101, 120, 116, 114, 97]⟩, .string ⟨#[112, 108, 97, 105, 110]⟩] w fun e w' => e = .returned (.tuple #[.string (bs BOX), .int .i64 0]) ∧ Below w.heap.size w w' := by
  have h := seal_ok KK NN EXT PLN w rfl rfl (by decide) (by decide)
  rw [exBox] at h
  exact h
theorem xOpen (w : World) : Calls Tryd.prog 22 #[.string (rp 107 32), .string (rp 110 12), .string ⟨#[101, 120, 116, 114, 97]⟩, .string (bs BOX)] w fun e w' => e = .returned (.tuple #[.string ⟨#[112, 108, 97, 105, 110]⟩, .int .i64 0]) ∧ Below w.heap.size w w' := by
  have h := open_raw KK NN EXT (BOX.take 5) (BOX.drop 5) w rfl rfl (by decide) (by decide) (by decide) true (by rw [exTag3]; simp)
  rw [exBack] at h
  exact h
def BENT : List UInt8 := [254, 147, 95, 59, 172, 249, 249, 112, 248, 214, 136, 199, 209, 19, 14, 154, 59, 49, 77, 90, 63]
theorem xOpenB (w : World) : Calls Tryd.prog 22 #[.string (rp 107 32), .string (rp 110 12), .string ⟨#[101, 120, 116, 114, 97]⟩, .string (bs BENT)] w fun e w' => e = .returned (.tuple #[.string ⟨#[]⟩, .int .i64 9]) ∧ Below w.heap.size w w' :=
  open_raw KK NN EXT (BOX.take 5) (BENT.drop 5) w rfl rfl (by decide) (by decide) (by decide) false (by rw [exTag3]; decide)
theorem xOpenS (w : World) : Calls Tryd.prog 22 #[.string (rp 107 32), .string (rp 110 12), .string ⟨#[101, 120, 116, 114, 97]⟩, .string (bs (BOX.take 15))] w fun e w' => e = .returned (.tuple #[.string ⟨#[]⟩, .int .i64 7]) ∧ Below w.heap.size w w' :=
  open_short KK NN _ _ w rfl rfl (by decide) (by decide)
theorem xTag1 (w : World) : Calls Tryd.prog 16 #[.string (bs KX), .string ⟨#[67, 114, 121, 112, 116, 111, 103, 114, 97, 112, 104, 105, 99, 32, 70, 111, 114, 117, 109, 32, 82, 101, 115, 101, 97, 114, 99, 104, 32, 71, 114, 111, 117, 112]⟩] w fun e w' => e = .returned (.tuple #[.string (bs TX), .int .i64 0]) ∧ Below w.heap.size w w' := by
  have h := tag_ok KX MSG w rfl (by decide)
  rw [exTag1] at h
  exact h
theorem xTag2 (w : World) : Calls Tryd.prog 16 #[.string (rp 0 32), .string ⟨#[97, 110, 121, 116, 104, 105, 110, 103]⟩] w fun e w' => e = .returned (.tuple #[.string (rp 0 16), .int .i64 0]) ∧ Below w.heap.size w w' := by
  have h := tag_ok (List.replicate 32 0) ANY w rfl (by decide)
  rw [exTag2] at h
  exact h
theorem xTag3 (w : World) : Calls Tryd.prog 16 #[.string (bs (List.replicate 31 107)), .string ⟨#[]⟩] w fun e w' => e = .returned (.tuple #[.string ⟨#[]⟩, .int .i64 2]) ∧ w = w' := tag_arg _ _ w (by decide)
theorem xSealL (w : World) : Calls Tryd.prog 20 #[.string (rp 107 32), .string (rp 110 12), .string ⟨#[]⟩, .string (rp 112 4097)] w fun e w' => e = .returned (.tuple #[.string ⟨#[]⟩, .int .i64 3]) ∧ Below w.heap.size w w' :=
  seal_long KK NN _ _ w rfl rfl (.inr (by rw [rp_size]; decide))
end Go.Proofs.YtnfefkcfifnjnaaDoor
