/- works() of layer 6: the chapter's examples. -/
import Derived.Test.YtfagfenmampigaaM
import Derived.Test.YtfagfenmampigaaH
import Derived.Test.YtfagfenmampigaaShelf
namespace Go.Proofs.Ytfagfenmampigaa
open Go.RowKit Go.ChangeShapes
theorem bel_of_alloc {V W : World} {o : Obj} (h : Below (V.alloc o).heap.size (V.alloc o) W) : Below V.heap.size V W := (bstep1 (Below.refl _ V)).trans (h.mono (by simp))
set_option maxRecDepth 100000 in
theorem is_any (n : Int) (w : World) : Calls Try.prog 23 #[.int .i64 n] w fun e w' => e = .returned (.func (.func 43) #[] #[.pointer (some ⟨w.heap.size, 0, none⟩)]) ∧ w'.cell? ⟨w.heap.size, 0, none⟩ = some (.int .i64 n) ∧ w.heap.size < w'.heap.size ∧ Below w.heap.size w w' := by
  have hmf : ∀ (fn : Fn) (first cap : Array Value) (w : World), (Instr.makeFunc fn first cap).run Try.prog w = .ok (.func fn first cap) w := fun _ _ _ _ => rfl
  go_enter Try.func23, Try.ntmps23
  go_wp2
  go_ret
  exact ⟨rfl, by simp, by simp, by go_grown⟩
set_option maxRecDepth 100000 in
theorem same_any (s : ByteArray) (w : World) : Calls Try.prog 24 #[.string s] w fun e w' => e = .returned (.func (.func 44) #[] #[.pointer (some ⟨w.heap.size, 0, none⟩)]) ∧ w'.cell? ⟨w.heap.size, 0, none⟩ = some (.string s) ∧ w.heap.size < w'.heap.size ∧ Below w.heap.size w w' := by
  have hmf : ∀ (fn : Fn) (first cap : Array Value) (w : World), (Instr.makeFunc fn first cap).run Try.prog w = .ok (.func fn first cap) w := fun _ _ _ _ => rfl
  go_enter Try.func24, Try.ntmps24
  go_wp2
  go_ret
  exact ⟨rfl, by simp, by simp, by go_grown⟩
set_option maxRecDepth 100000 in
theorem fails_any (n : Int) (w : World) : Calls Try.prog 25 #[.int .i64 n] w fun e w' => e = .returned (.func (.func 45) #[] #[.pointer (some ⟨w.heap.size, 0, none⟩)]) ∧ w'.cell? ⟨w.heap.size, 0, none⟩ = some (.int .i64 n) ∧ w.heap.size < w'.heap.size ∧ Below w.heap.size w w' := by
  have hmf : ∀ (fn : Fn) (first cap : Array Value) (w : World), (Instr.makeFunc fn first cap).run Try.prog w = .ok (.func fn first cap) w := fun _ _ _ _ => rfl
  go_enter Try.func25, Try.ntmps25
  go_wp2
  go_ret
  exact ⟨rfl, by simp, by simp, by go_grown⟩
set_option maxRecDepth 100000 in
theorem is1_yes (g : Nat) (n : Int) (w : World) (h : w.cell? ⟨g, 0, none⟩ = some (.int .i64 n)) : Calls Try.prog 43 #[.int .i64 n, .int .i64 0, .pointer (some ⟨g, 0, none⟩)] w fun e w' => e = .returned (.bool true) ∧ w = w' := by
  go_enter Try.func43, Try.ntmps43
  go_wp2
  go_ret
  exact ⟨rfl, rfl⟩
set_option maxRecDepth 100000 in
theorem same1_yes (g : Nat) (s : ByteArray) (w : World) (h : w.cell? ⟨g, 0, none⟩ = some (.string s)) : Calls Try.prog 44 #[.string s, .int .i64 0, .pointer (some ⟨g, 0, none⟩)] w fun e w' => e = .returned (.bool true) ∧ w = w' := by
  go_enter Try.func44, Try.ntmps44
  go_wp2
  go_ret
  exact ⟨rfl, rfl⟩
set_option maxRecDepth 100000 in
theorem fails1_yes (g : Nat) (n : Int) (w : World) (h : w.cell? ⟨g, 0, none⟩ = some (.int .i64 n)) : Calls Try.prog 45 #[.int .i64 0, .int .i64 n, .pointer (some ⟨g, 0, none⟩)] w fun e w' => e = .returned (.bool true) ∧ w = w' := by
  go_enter Try.func45, Try.ntmps45
  go_wp2
  go_ret
  exact ⟨rfl, rfl⟩
theorem rep_cons (c : UInt8) (n : Nat) : Lib.repeatL [c] n = List.replicate n c := by
  induction n with
  | zero => rfl
  | succ n ih => rw [Lib.repeatL, ih]; rfl
/-- One octet, n times. -/
def rp (c : UInt8) (n : Nat) : ByteArray := bs (List.replicate n c)
theorem rp_size (c : UInt8) (n : Nat) : (rp c n).size = n := by unfold rp; rw [bs_size, List.length_replicate]
theorem kRep (c : UInt8) (n : Nat) (z : Int) (w : World) (hz : z = (n : Int)) (hn : n ≤ 140737488355328) :
    Calls Try.prog 12 #[.string ⟨#[c]⟩, .int .i64 z] w fun e w' => e = .returned (.string (rp c n)) ∧ Below w.heap.size w w' := by
  subst hz
  have h1 : (⟨#[c]⟩ : ByteArray).size = 1 := rfl
  refine (Try.strings_Repeat ⟨#[c]⟩ n w (by omega) (by rw [h1]; omega)).mono ?_
  rintro e w' ⟨rfl, h⟩
  refine ⟨?_, h⟩
  show Ending.returned (.string ⟨(Lib.repeatL [c] n).toArray⟩) = _
  rw [rep_cons]; rfl
theorem xCrcA (w : World) : Calls Try.prog 14 #[.int .i64 1, .string ⟨#[49, 50, 51, 52]⟩] w fun e w' => e = .returned (.tuple #[.int .i64 2615402659, .int .i64 0]) ∧ Below w.heap.size w w' := by
  have h := crc_yes false [49, 50, 51, 52] w (by decide)
  rw [show moreN (kC false) 0 [49, 50, 51, 52] = 2615402659 by decide +kernel] at h
  exact h
theorem xCrcB (w : World) : Calls Try.prog 14 #[.int .i64 1, .string ⟨#[53, 54, 55, 56, 57]⟩] w fun e w' => e = .returned (.tuple #[.int .i64 320708720, .int .i64 0]) ∧ Below w.heap.size w w' := by
  have h := crc_yes false [53, 54, 55, 56, 57] w (by decide)
  rw [show moreN (kC false) 0 [53, 54, 55, 56, 57] = 320708720 by decide +kernel] at h
  exact h
theorem xCrcC (w : World) : Calls Try.prog 14 #[.int .i64 1, .string ⟨#[49, 50, 51, 52, 53, 54, 55, 56, 57]⟩] w fun e w' => e = .returned (.tuple #[.int .i64 3421780262, .int .i64 0]) ∧ Below w.heap.size w w' := by
  have h := crc_yes false [49, 50, 51, 52, 53, 54, 55, 56, 57] w (by decide)
  rw [show moreN (kC false) 0 [49, 50, 51, 52, 53, 54, 55, 56, 57] = 3421780262 by decide +kernel] at h
  exact h
theorem xCrcD (w : World) : Calls Try.prog 14 #[.int .i64 2, .string ⟨#[49, 50, 51, 52, 53, 54, 55, 56, 57]⟩] w fun e w' => e = .returned (.tuple #[.int .i64 3808858755, .int .i64 0]) ∧ Below w.heap.size w w' := by
  have h := crc_yes true [49, 50, 51, 52, 53, 54, 55, 56, 57] w (by decide)
  rw [show moreN (kC true) 0 [49, 50, 51, 52, 53, 54, 55, 56, 57] = 3808858755 by decide +kernel] at h
  exact h
theorem xCrcE (w : World) : Calls Try.prog 14 #[.int .i64 1, .string ⟨#[]⟩] w fun e w' => e = .returned (.tuple #[.int .i64 0, .int .i64 0]) ∧ Below w.heap.size w w' := by
  have h := crc_yes false [] w (by decide)
  rw [show moreN (kC false) 0 [] = 0 by decide +kernel] at h
  exact h
theorem xMore (w : World) : Calls Try.prog 13 #[.int .i64 1, .int .i64 2615402659, .string ⟨#[53, 54, 55, 56, 57]⟩] w fun e w' => e = .returned (.tuple #[.int .i64 3421780262, .int .i64 0]) ∧ Below w.heap.size w w' := by
  have h := more_yes false 2615402659 [53, 54, 55, 56, 57] w (by decide) (by decide)
  rw [show moreN (kC false) 2615402659 [53, 54, 55, 56, 57] = 3421780262 by decide +kernel] at h
  exact h
theorem xJoin (w : World) : Calls Try.prog 19 #[.int .i64 1, .int .i64 2615402659, .int .i64 320708720, .int .i64 5] w fun e w' => e = .returned (.tuple #[.int .i64 3421780262, .int .i64 0]) ∧ Below w.heap.size w w' := by
  have h := join_yes false 2615402659 320708720 5 w (by decide) (by decide) (by decide) (by decide)
  rw [show joinN (kC false) 2615402659 320708720 5 = 3421780262 by decide +kernel] at h
  exact h
theorem xJoinZ (w : World) : Calls Try.prog 19 #[.int .i64 1, .int .i64 0, .int .i64 1, .int .i64 0] w fun e w' => e = .returned (.tuple #[.int .i64 0, .int .i64 2]) ∧ w' = w :=
  join_z false 0 1 w (by decide) (by decide) (by decide) (by decide) (by decide)
theorem xKind (w : World) : Calls Try.prog 14 #[.int .i64 3, .string ⟨#[]⟩] w fun e w' => e = .returned (.tuple #[.int .i64 0, .int .i64 2]) ∧ w' = w := crc_kind 3 _ w ⟨by decide, by decide⟩
theorem xLong (w : World) : Calls Try.prog 14 #[.int .i64 1, .string (rp 120 4097)] w fun e w' => e = .returned (.tuple #[.int .i64 0, .int .i64 3]) ∧ w' = w := crc_long false _ w (by rw [rp_size]; decide)
theorem xXor (W : World) : Calls Try.prog 21 #[.slice (some ⟨W.heap.size, 0, none⟩) 2 2] (W.alloc (.cells #[.string ⟨#[1, 2, 3]⟩, .string ⟨#[255]⟩] 9)) fun e w' => e = .returned (.tuple #[.string ⟨#[254, 2, 3]⟩, .int .i64 0]) ∧ Below (W.alloc (.cells #[.string ⟨#[1, 2, 3]⟩, .string ⟨#[255]⟩] 9)).heap.size (W.alloc (.cells #[.string ⟨#[1, 2, 3]⟩, .string ⟨#[255]⟩] 9)) w' := by
  have hc := heap_alloc_new W (.cells #[.string ⟨#[1, 2, 3]⟩, .string ⟨#[255]⟩] 9)
  have h := xor_any (some ⟨W.heap.size, 0, none⟩) 2 [[1, 2, 3], [255]] (W.alloc (.cells #[.string ⟨#[1, 2, 3]⟩, .string ⟨#[255]⟩] 9)) (fun i hi => ⟨W.heap.size, 0, rfl, by simp, by
    have h2 : i = 0 ∨ i = 1 := by simp at hi; omega
    rcases h2 with rfl | rfl
    · exact cell_of_row _ _ 0 _ 9 (0, 0) hc
    · exact cell_of_row _ _ 1 _ 9 (0, 0) hc⟩) (by decide)
  rw [xorRes_yes (by decide) (by decide), show paL [[1, 2, 3], [255]] = [254, 2, 3] by decide +kernel] at h
  exact h
theorem xXor0 (W : World) : Calls Try.prog 21 #[.slice none 0 0] W fun e w' => e = .returned (.tuple #[.string ⟨#[]⟩, .int .i64 0]) ∧ Below W.heap.size W w' := by
  have h := xor_any none 0 [] W (fun i hi => absurd hi (by simp)) (by decide)
  rw [xorRes_yes (by decide) (by decide)] at h
  exact h
set_option maxRecDepth 1000000 in
set_option maxHeartbeats 8000000 in
theorem works_true (w : World) : Calls Try.prog 10 #[] w fun e w' => e = .returned (.bool true) ∧ Below w.heap.size w w' := by
  have K0 : Wk w w [] := Wk.start
  go_enter Try.func10, Try.ntmps10
  go_wp2_with fail
  (with_reducible refine (xCrcA _).mono ?_)
  rintro e V ⟨rfl, hb⟩
  with_reducible replace K0 := Wk.step K0 hb
  clear hb
  go_wp2_with fail
  (with_reducible refine (xCrcB _).mono ?_)
  rintro e V ⟨rfl, hb⟩
  with_reducible replace K0 := Wk.step K0 hb
  clear hb
  go_wp2_with (first
    | (go_at_call 14; (first | (with_reducible refine (xCrcC _).mono ?_) | (with_reducible refine (xCrcD _).mono ?_) | (with_reducible refine (xCrcE _).mono ?_)); rintro e V ⟨rfl, hb⟩; obtain ⟨K0, hp, hz⟩ := Wk.keep1 K0 hp hz hb; clear hb)
    | (go_at_call 14; (first | (with_reducible refine (xKind _).mono ?_) | (with_reducible refine (xLong _).mono ?_)); rintro e V ⟨rfl, rfl⟩)
    | (go_at_call 13; (with_reducible refine (xMore _).mono ?_); rintro e V ⟨rfl, hb⟩; obtain ⟨K0, hp, hz⟩ := Wk.keep1 K0 hp hz hb; clear hb)
    | (go_at_call 19; (first | ((with_reducible refine (xJoin _).mono ?_); rintro e V ⟨rfl, hb⟩; obtain ⟨K0, hp, hz⟩ := Wk.keep1 K0 hp hz hb; clear hb) | ((with_reducible refine (xJoinZ _).mono ?_); rintro e V ⟨rfl, rfl⟩)))
    | (go_at_call 21; (first | ((with_reducible refine (xXor _).mono ?_); rintro e V ⟨rfl, hb⟩; obtain ⟨K0, hp, hz⟩ := Wk.keep1 K0 hp hz (bel_of_alloc hb); clear hb) | ((with_reducible refine (xXor0 _).mono ?_); rintro e V ⟨rfl, hb⟩; obtain ⟨K0, hp, hz⟩ := Wk.keep1 K0 hp hz hb; clear hb)))
    | (go_at_call 12; (with_reducible refine (kRep 120 4097 4097 _ rfl (by decide)).mono ?_); rintro e V ⟨rfl, hb⟩; obtain ⟨K0, hp, hz⟩ := Wk.keep1 K0 hp hz hb; clear hb)
    | (go_at_call 23; (with_reducible refine (is_any _ _).mono ?_); rintro e V ⟨rfl, hp, hz, hb⟩; with_reducible replace K0 := Wk.step K0 hb; clear hb)
    | (go_at_call 24; (with_reducible refine (same_any _ _).mono ?_); rintro e V ⟨rfl, hp, hz, hb⟩; with_reducible replace K0 := Wk.step K0 hb; clear hb)
    | (go_at_call 25; (with_reducible refine (fails_any _ _).mono ?_); rintro e V ⟨rfl, hp, hz, hb⟩; with_reducible replace K0 := Wk.step K0 hb; clear hb)
    | (go_at_call 43; (with_reducible refine (is1_yes _ _ _ hp).mono ?_); rintro e V ⟨rfl, rfl⟩)
    | (go_at_call 44; (with_reducible refine (same1_yes _ _ _ hp).mono ?_); rintro e V ⟨rfl, rfl⟩)
    | (go_at_call 45; (with_reducible refine (fails1_yes _ _ _ hp).mono ?_); rintro e V ⟨rfl, rfl⟩))
  go_ret
  exact ⟨rfl, K0.b⟩
end Go.Proofs.Ytfagfenmampigaa
