/- Contracts of isLink, isPrivate, isMany. -/
import Derived.Test.YtjoogiabimiioaaGreatDoorP
import Derived.Test.YtjoogiabimiioaaGreatDoorL
namespace Go.Proofs.YtjoogiabimiioaaGreatDoor
open Go.RowKit Go.ChangeShapes
/-- Is a host within the hosts that begin so? -/
def w4 (S : ByteArray) (l : List UInt8) (n : Nat) : Bool := wiB S (bs (fo l)) n
def w6 (S : ByteArray) (x n : Nat) : Bool := wiB S (bs (octL [x, 0, 0, 0, 0, 0, 0, 0])) n
/-- four of octets that were just laid. -/
theorem four_new (l : List UInt8) (n : Nat) (cs : Array Value) (w : World) (hn : l.length = n) (h1 : n ≤ 4) (hc : cs = (byC l).toArray) :
    Calls Tryz.prog 108 #[.slice (some ⟨w.heap.size, 0, none⟩) n n] (w.alloc (.cells cs 5)) fun e w' => e = .returned (.string (bs (fo l))) ∧ Below w.heap.size w w' := by
  subst hn hc
  refine (four_any w.heap.size l (w.alloc (.cells (byC l).toArray 5)) h1 (heap_alloc_new w _)).mono ?_
  rintro e V ⟨rfl, hb⟩
  exact ⟨rfl, bstep ((Below.refl _ w).alloc (Nat.le_refl _) _) hb⟩
theorem with4 (S : ByteArray) (l : List UInt8) (n : Nat) (z : Int) (w : World) (hz : z = (n : Int)) (h1 : l.length ≤ 4) (hn : n ≤ 32) (hS : S.size ≤ 1000) :
    Calls Tryz.prog 59 #[.string S, .string (bs (fo l)), .int .i64 z] w fun e w' => e = .returned (.bool (w4 S l n)) ∧ Below w.heap.size w w' :=
  hz ▸ within_any S (bs (fo l)) n w (by rw [bs_size, fo_length l h1]; omega) (by rw [bs_size, fo_length l h1]; omega) hS
theorem six_new (n : Nat) (z : Int) (w : World) (hz : z = (n : Int)) (hn : n < 65536) : Calls Tryz.prog 109 #[.int .u16 z] w fun e w' => e = .returned (.string (bs (octL [n, 0, 0, 0, 0, 0, 0, 0]))) ∧ Below w.heap.size w w' := hz ▸ six_any n w hn
theorem with6 (S : ByteArray) (x n : Nat) (z : Int) (w : World) (hz : z = (n : Int)) (hn : n ≤ 128) (hS : S.size ≤ 1000) :
    Calls Tryz.prog 59 #[.string S, .string (bs (octL [x, 0, 0, 0, 0, 0, 0, 0])), .int .i64 z] w fun e w' => e = .returned (.bool (w6 S x n)) ∧ Below w.heap.size w w' :=
  hz ▸ within_any S _ n w (by rw [bs_size, octL_length]; simp; omega) (by rw [bs_size, octL_length]; simp) hS
def linkB (S : ByteArray) : Bool := w4 S [169, 254] 16 || w6 S 65152 10
set_option maxRecDepth 100000 in
set_option maxHeartbeats 4000000 in
theorem link_any (S : ByteArray) (w : World) (hS : S.size ≤ 1000) : Calls Tryz.prog 90 #[.string S] w fun e w' => e = .returned (.bool (linkB S)) ∧ Below w.heap.size w w' := by
  have F0 := Lib.hid (fun W => four_new [169, 254] 2 #[.int .u8 169, .int .u8 254] W rfl (by decide) rfl)
  have T0 := Lib.hid (fun W => with4 S [169, 254] 16 16 W rfl (by decide) (by decide) hS)
  have F1 := Lib.hid (fun W => six_new 65152 65152 W rfl (by decide))
  have T1 := Lib.hid (fun W => with6 S 65152 10 10 W rfl (by decide) hS)
  have K0 : Wk w w [] := Wk.start
  unfold linkB
  generalize w4 S [169, 254] 16 = a at *
  generalize w6 S 65152 10 = b at *
  generalize bs (fo [169, 254]) = X0 at *
  generalize bs (octL [65152, 0, 0, 0, 0, 0, 0, 0]) = X1 at *
  clear hS
  rcases a with _ | _
  rotate_left
  · skip
    go_enter Tryz.func90, Tryz.ntmps90
    go_wp2_with (first
    | (go_at_call 108; (first | (with_reducible refine (F0.out _).mono ?_)); rintro e V ⟨rfl, hb⟩; with_reducible replace K0 := Wk.step K0 hb; clear hb)
    | (go_at_call 59; (first | (with_reducible refine (T0.out _).mono ?_) | (with_reducible refine (T1.out _).mono ?_)); rintro e V ⟨rfl, hb⟩; with_reducible replace K0 := Wk.step K0 hb; clear hb)
    | (go_at_call 109; (first | (with_reducible refine (F1.out _).mono ?_)); rintro e V ⟨rfl, hb⟩; with_reducible replace K0 := Wk.step K0 hb; clear hb))
    go_ret
    first | exact ⟨rfl, K0.b⟩ | exact ⟨show Ending.returned (.bool (_ || _)) = _ by rw [ht]; rfl, K0.b⟩
  · skip
    go_enter Tryz.func90, Tryz.ntmps90
    go_wp2_with (first
    | (go_at_call 108; (first | (with_reducible refine (F0.out _).mono ?_)); rintro e V ⟨rfl, hb⟩; with_reducible replace K0 := Wk.step K0 hb; clear hb)
    | (go_at_call 59; (first | (with_reducible refine (T0.out _).mono ?_) | (with_reducible refine (T1.out _).mono ?_)); rintro e V ⟨rfl, hb⟩; with_reducible replace K0 := Wk.step K0 hb; clear hb)
    | (go_at_call 109; (first | (with_reducible refine (F1.out _).mono ?_)); rintro e V ⟨rfl, hb⟩; with_reducible replace K0 := Wk.step K0 hb; clear hb))
    go_ret
    first | exact ⟨rfl, K0.b⟩ | exact ⟨show Ending.returned (.bool (_ || _)) = _ by rw [ht]; rfl, K0.b⟩
def privB (S : ByteArray) : Bool := w4 S [10] 8 || w4 S [172, 16] 12 || w4 S [192, 168] 16 || w6 S 64512 7
set_option maxRecDepth 100000 in
set_option maxHeartbeats 4000000 in
theorem priv_any (S : ByteArray) (w : World) (hS : S.size ≤ 1000) : Calls Tryz.prog 91 #[.string S] w fun e w' => e = .returned (.bool (privB S)) ∧ Below w.heap.size w w' := by
  have F0 := Lib.hid (fun W => four_new [10] 1 #[.int .u8 10] W rfl (by decide) rfl)
  have T0 := Lib.hid (fun W => with4 S [10] 8 8 W rfl (by decide) (by decide) hS)
  have F1 := Lib.hid (fun W => four_new [172, 16] 2 #[.int .u8 172, .int .u8 16] W rfl (by decide) rfl)
  have T1 := Lib.hid (fun W => with4 S [172, 16] 12 12 W rfl (by decide) (by decide) hS)
  have F2 := Lib.hid (fun W => four_new [192, 168] 2 #[.int .u8 192, .int .u8 168] W rfl (by decide) rfl)
  have T2 := Lib.hid (fun W => with4 S [192, 168] 16 16 W rfl (by decide) (by decide) hS)
  have F3 := Lib.hid (fun W => six_new 64512 64512 W rfl (by decide))
  have T3 := Lib.hid (fun W => with6 S 64512 7 7 W rfl (by decide) hS)
  have K0 : Wk w w [] := Wk.start
  unfold privB
  generalize w4 S [10] 8 = a at *
  generalize w4 S [172, 16] 12 = b at *
  generalize w4 S [192, 168] 16 = c at *
  generalize w6 S 64512 7 = d at *
  generalize bs (fo [10]) = X0 at *
  generalize bs (fo [172, 16]) = X1 at *
  generalize bs (fo [192, 168]) = X2 at *
  generalize bs (octL [64512, 0, 0, 0, 0, 0, 0, 0]) = X3 at *
  clear hS
  rcases a with _ | _
  rotate_left
  · skip
    go_enter Tryz.func91, Tryz.ntmps91
    go_wp2_with (first
    | (go_at_call 108; (first | (with_reducible refine (F0.out _).mono ?_) | (with_reducible refine (F1.out _).mono ?_) | (with_reducible refine (F2.out _).mono ?_)); rintro e V ⟨rfl, hb⟩; with_reducible replace K0 := Wk.step K0 hb; clear hb)
    | (go_at_call 59; (first | (with_reducible refine (T0.out _).mono ?_) | (with_reducible refine (T1.out _).mono ?_) | (with_reducible refine (T2.out _).mono ?_) | (with_reducible refine (T3.out _).mono ?_)); rintro e V ⟨rfl, hb⟩; with_reducible replace K0 := Wk.step K0 hb; clear hb)
    | (go_at_call 109; (first | (with_reducible refine (F3.out _).mono ?_)); rintro e V ⟨rfl, hb⟩; with_reducible replace K0 := Wk.step K0 hb; clear hb))
    go_ret
    first | exact ⟨rfl, K0.b⟩ | exact ⟨show Ending.returned (.bool (_ || _)) = _ by rw [ht]; rfl, K0.b⟩
  · skip
    rcases b with _ | _
    rotate_left
    · skip
      go_enter Tryz.func91, Tryz.ntmps91
      go_wp2_with (first
    | (go_at_call 108; (first | (with_reducible refine (F0.out _).mono ?_) | (with_reducible refine (F1.out _).mono ?_) | (with_reducible refine (F2.out _).mono ?_)); rintro e V ⟨rfl, hb⟩; with_reducible replace K0 := Wk.step K0 hb; clear hb)
    | (go_at_call 59; (first | (with_reducible refine (T0.out _).mono ?_) | (with_reducible refine (T1.out _).mono ?_) | (with_reducible refine (T2.out _).mono ?_) | (with_reducible refine (T3.out _).mono ?_)); rintro e V ⟨rfl, hb⟩; with_reducible replace K0 := Wk.step K0 hb; clear hb)
    | (go_at_call 109; (first | (with_reducible refine (F3.out _).mono ?_)); rintro e V ⟨rfl, hb⟩; with_reducible replace K0 := Wk.step K0 hb; clear hb))
      go_ret
      first | exact ⟨rfl, K0.b⟩ | exact ⟨show Ending.returned (.bool (_ || _)) = _ by rw [ht]; rfl, K0.b⟩
    · skip
      rcases c with _ | _
      rotate_left
      · skip
        go_enter Tryz.func91, Tryz.ntmps91
        go_wp2_with (first
    | (go_at_call 108; (first | (with_reducible refine (F0.out _).mono ?_) | (with_reducible refine (F1.out _).mono ?_) | (with_reducible refine (F2.out _).mono ?_)); rintro e V ⟨rfl, hb⟩; with_reducible replace K0 := Wk.step K0 hb; clear hb)
    | (go_at_call 59; (first | (with_reducible refine (T0.out _).mono ?_) | (with_reducible refine (T1.out _).mono ?_) | (with_reducible refine (T2.out _).mono ?_) | (with_reducible refine (T3.out _).mono ?_)); rintro e V ⟨rfl, hb⟩; with_reducible replace K0 := Wk.step K0 hb; clear hb)
    | (go_at_call 109; (first | (with_reducible refine (F3.out _).mono ?_)); rintro e V ⟨rfl, hb⟩; with_reducible replace K0 := Wk.step K0 hb; clear hb))
        go_ret
        first | exact ⟨rfl, K0.b⟩ | exact ⟨show Ending.returned (.bool (_ || _)) = _ by rw [ht]; rfl, K0.b⟩
      · skip
        go_enter Tryz.func91, Tryz.ntmps91
        go_wp2_with (first
    | (go_at_call 108; (first | (with_reducible refine (F0.out _).mono ?_) | (with_reducible refine (F1.out _).mono ?_) | (with_reducible refine (F2.out _).mono ?_)); rintro e V ⟨rfl, hb⟩; with_reducible replace K0 := Wk.step K0 hb; clear hb)
    | (go_at_call 59; (first | (with_reducible refine (T0.out _).mono ?_) | (with_reducible refine (T1.out _).mono ?_) | (with_reducible refine (T2.out _).mono ?_) | (with_reducible refine (T3.out _).mono ?_)); rintro e V ⟨rfl, hb⟩; with_reducible replace K0 := Wk.step K0 hb; clear hb)
    | (go_at_call 109; (first | (with_reducible refine (F3.out _).mono ?_)); rintro e V ⟨rfl, hb⟩; with_reducible replace K0 := Wk.step K0 hb; clear hb))
        go_ret
        first | exact ⟨rfl, K0.b⟩ | exact ⟨show Ending.returned (.bool (_ || _)) = _ by rw [ht]; rfl, K0.b⟩
def manyB (S : ByteArray) : Bool := w4 S [224] 4 || (S.toList == (bs (fo [255, 255, 255, 255])).toList) || w6 S 65280 8
set_option maxRecDepth 100000 in
set_option maxHeartbeats 4000000 in
theorem many_any (S : ByteArray) (w : World) (hS : S.size ≤ 1000) : Calls Tryz.prog 92 #[.string S] w fun e w' => e = .returned (.bool (manyB S)) ∧ Below w.heap.size w w' := by
  have F0 := Lib.hid (fun W => four_new [224] 1 #[.int .u8 224] W rfl (by decide) rfl)
  have T0 := Lib.hid (fun W => with4 S [224] 4 4 W rfl (by decide) (by decide) hS)
  have F1 := Lib.hid (fun W => four_new [255, 255, 255, 255] 4 #[.int .u8 255, .int .u8 255, .int .u8 255, .int .u8 255] W rfl (by decide) rfl)
  have F2 := Lib.hid (fun W => six_new 65280 65280 W rfl (by decide))
  have T2 := Lib.hid (fun W => with6 S 65280 8 8 W rfl (by decide) hS)
  have K0 : Wk w w [] := Wk.start
  unfold manyB
  generalize w4 S [224] 4 = a at *
  generalize w6 S 65280 8 = c at *
  generalize bs (fo [224]) = X0 at *
  generalize bs (fo [255, 255, 255, 255]) = X1 at *
  generalize bs (octL [65280, 0, 0, 0, 0, 0, 0, 0]) = X2 at *
  clear hS
  rcases a with _ | _
  rotate_left
  · skip
    go_enter Tryz.func92, Tryz.ntmps92
    go_wp2_with (first
    | (go_at_call 108; (first | (with_reducible refine (F0.out _).mono ?_) | (with_reducible refine (F1.out _).mono ?_)); rintro e V ⟨rfl, hb⟩; with_reducible replace K0 := Wk.step K0 hb; clear hb)
    | (go_at_call 59; (first | (with_reducible refine (T0.out _).mono ?_) | (with_reducible refine (T2.out _).mono ?_)); rintro e V ⟨rfl, hb⟩; with_reducible replace K0 := Wk.step K0 hb; clear hb)
    | (go_at_call 109; (first | (with_reducible refine (F2.out _).mono ?_)); rintro e V ⟨rfl, hb⟩; with_reducible replace K0 := Wk.step K0 hb; clear hb))
    go_ret
    first | exact ⟨rfl, K0.b⟩ | exact ⟨show Ending.returned (.bool (_ || _)) = _ by rw [ht]; rfl, K0.b⟩
  · skip
    by_cases he : S.toList = X1.toList
    · rw [beq_iff_eq.2 he]
      go_enter Tryz.func92, Tryz.ntmps92
      go_wp2_with (first
    | (go_at_call 108; (first | (with_reducible refine (F0.out _).mono ?_) | (with_reducible refine (F1.out _).mono ?_)); rintro e V ⟨rfl, hb⟩; with_reducible replace K0 := Wk.step K0 hb; clear hb)
    | (go_at_call 59; (first | (with_reducible refine (T0.out _).mono ?_) | (with_reducible refine (T2.out _).mono ?_)); rintro e V ⟨rfl, hb⟩; with_reducible replace K0 := Wk.step K0 hb; clear hb)
    | (go_at_call 109; (first | (with_reducible refine (F2.out _).mono ?_)); rintro e V ⟨rfl, hb⟩; with_reducible replace K0 := Wk.step K0 hb; clear hb))
      go_ret
      first | exact ⟨rfl, K0.b⟩ | exact ⟨show Ending.returned (.bool (_ || _)) = _ by rw [ht]; rfl, K0.b⟩
    · have ht := beq_false_of_ne he
      rw [ht]
      go_enter Tryz.func92, Tryz.ntmps92
      go_wp2_with (first
    | (go_at_call 108; (first | (with_reducible refine (F0.out _).mono ?_) | (with_reducible refine (F1.out _).mono ?_)); rintro e V ⟨rfl, hb⟩; with_reducible replace K0 := Wk.step K0 hb; clear hb)
    | (go_at_call 59; (first | (with_reducible refine (T0.out _).mono ?_) | (with_reducible refine (T2.out _).mono ?_)); rintro e V ⟨rfl, hb⟩; with_reducible replace K0 := Wk.step K0 hb; clear hb)
    | (go_at_call 109; (first | (with_reducible refine (F2.out _).mono ?_)); rintro e V ⟨rfl, hb⟩; with_reducible replace K0 := Wk.step K0 hb; clear hb))
      go_ret
      first | exact ⟨rfl, K0.b⟩ | exact ⟨show Ending.returned (.bool (_ || _)) = _ by rw [ht]; rfl, K0.b⟩
end Go.Proofs.YtjoogiabimiioaaGreatDoor
