/- works() of layer 7: the chapter's examples. -/
import Derived.Test.YtjoogiabimiioaaGreatDoorPF
namespace Go.Proofs.YtjoogiabimiioaaGreatDoor
open Go.RowKit Go.ChangeShapes
/-- The host of eight groups. -/
def hst (l : List Nat) : ByteArray := bs (octL l)
theorem xT0 (w : World) (hE : Env w) : Calls Tryz.prog 15 #[.agg #[.string (⟨#[192, 168, 0, 1]⟩), .int .i64 80]] w fun e w' => e = .returned (.tuple #[.string ⟨#[49, 57, 50, 46, 49, 54, 56, 46, 48, 46, 49, 58, 56, 48]⟩, .int .i64 0]) ∧ Below w.heap.size w w' := by
  have h := Text_yes ([192, 168, 0, 1]) 80 w (by decide) (by decide) hE
  rw [show adT ([192, 168, 0, 1]) 80 = [49, 57, 50, 46, 49, 54, 56, 46, 48, 46, 49, 58, 56, 48] by decide +kernel] at h
  exact h
theorem xl0 (w : World) : Calls Tryz.prog 38 #[.slice (some ⟨w.heap.size, 0, none⟩) 8 8] (w.alloc (.cells #[.int .i64 0, .int .i64 0, .int .i64 0, .int .i64 0, .int .i64 0, .int .i64 0, .int .i64 0, .int .i64 1] 3)) fun e w' => e = .returned (.string (hst [0, 0, 0, 0, 0, 0, 0, 1])) ∧ Below w.heap.size w w' :=
  long_new [0, 0, 0, 0, 0, 0, 0, 1] _ w rfl (by decide) rfl
theorem xT1 (w : World) (hE : Env w) : Calls Tryz.prog 15 #[.agg #[.string (hst [0, 0, 0, 0, 0, 0, 0, 1]), .int .i64 0]] w fun e w' => e = .returned (.tuple #[.string ⟨#[91, 58, 58, 49, 93, 58, 48]⟩, .int .i64 0]) ∧ Below w.heap.size w w' := by
  have h := Text_yes (octL [0, 0, 0, 0, 0, 0, 0, 1]) 0 w (by decide) (by decide) hE
  rw [show adT (octL [0, 0, 0, 0, 0, 0, 0, 1]) 0 = [91, 58, 58, 49, 93, 58, 48] by decide +kernel] at h
  exact h
theorem xl1 (w : World) : Calls Tryz.prog 38 #[.slice (some ⟨w.heap.size, 0, none⟩) 8 8] (w.alloc (.cells #[.int .i64 8193, .int .i64 3512, .int .i64 0, .int .i64 0, .int .i64 1, .int .i64 0, .int .i64 0, .int .i64 1] 3)) fun e w' => e = .returned (.string (hst [8193, 3512, 0, 0, 1, 0, 0, 1])) ∧ Below w.heap.size w w' :=
  long_new [8193, 3512, 0, 0, 1, 0, 0, 1] _ w rfl (by decide) rfl
theorem xH2 (w : World) (hE : Env w) : Calls Tryz.prog 20 #[.string (hst [8193, 3512, 0, 0, 1, 0, 0, 1])] w fun e w' => e = .returned (.tuple #[.string ⟨#[50, 48, 48, 49, 58, 100, 98, 56, 58, 58, 49, 58, 48, 58, 48, 58, 49]⟩, .int .i64 0]) ∧ Below w.heap.size w w' := by
  have h := HostText_yes (octL [8193, 3512, 0, 0, 1, 0, 0, 1]) w (by decide) hE
  rw [show hostT (octL [8193, 3512, 0, 0, 1, 0, 0, 1]) = [50, 48, 48, 49, 58, 100, 98, 56, 58, 58, 49, 58, 48, 58, 48, 58, 49] by decide +kernel] at h
  exact h
theorem xl2 (w : World) : Calls Tryz.prog 38 #[.slice (some ⟨w.heap.size, 0, none⟩) 8 8] (w.alloc (.cells #[.int .i64 0, .int .i64 0, .int .i64 1, .int .i64 0, .int .i64 0, .int .i64 0, .int .i64 1, .int .i64 1] 3)) fun e w' => e = .returned (.string (hst [0, 0, 1, 0, 0, 0, 1, 1])) ∧ Below w.heap.size w w' :=
  long_new [0, 0, 1, 0, 0, 0, 1, 1] _ w rfl (by decide) rfl
theorem xH3 (w : World) (hE : Env w) : Calls Tryz.prog 20 #[.string (hst [0, 0, 1, 0, 0, 0, 1, 1])] w fun e w' => e = .returned (.tuple #[.string ⟨#[48, 58, 48, 58, 49, 58, 58, 49, 58, 49]⟩, .int .i64 0]) ∧ Below w.heap.size w w' := by
  have h := HostText_yes (octL [0, 0, 1, 0, 0, 0, 1, 1]) w (by decide) hE
  rw [show hostT (octL [0, 0, 1, 0, 0, 0, 1, 1]) = [48, 58, 48, 58, 49, 58, 58, 49, 58, 49] by decide +kernel] at h
  exact h
theorem xl3 (w : World) : Calls Tryz.prog 38 #[.slice (some ⟨w.heap.size, 0, none⟩) 8 8] (w.alloc (.cells #[.int .i64 1, .int .i64 0, .int .i64 2, .int .i64 0, .int .i64 3, .int .i64 0, .int .i64 4, .int .i64 0] 3)) fun e w' => e = .returned (.string (hst [1, 0, 2, 0, 3, 0, 4, 0])) ∧ Below w.heap.size w w' :=
  long_new [1, 0, 2, 0, 3, 0, 4, 0] _ w rfl (by decide) rfl
theorem xH4 (w : World) (hE : Env w) : Calls Tryz.prog 20 #[.string (hst [1, 0, 2, 0, 3, 0, 4, 0])] w fun e w' => e = .returned (.tuple #[.string ⟨#[49, 58, 48, 58, 50, 58, 48, 58, 51, 58, 48, 58, 52, 58, 48]⟩, .int .i64 0]) ∧ Below w.heap.size w w' := by
  have h := HostText_yes (octL [1, 0, 2, 0, 3, 0, 4, 0]) w (by decide) hE
  rw [show hostT (octL [1, 0, 2, 0, 3, 0, 4, 0]) = [49, 58, 48, 58, 50, 58, 48, 58, 51, 58, 48, 58, 52, 58, 48] by decide +kernel] at h
  exact h
theorem xl4 (w : World) : Calls Tryz.prog 38 #[.slice (some ⟨w.heap.size, 0, none⟩) 8 8] (w.alloc (.cells #[.int .i64 0, .int .i64 0, .int .i64 0, .int .i64 0, .int .i64 0, .int .i64 0, .int .i64 0, .int .i64 0] 3)) fun e w' => e = .returned (.string (hst [0, 0, 0, 0, 0, 0, 0, 0])) ∧ Below w.heap.size w w' :=
  long_new [0, 0, 0, 0, 0, 0, 0, 0] _ w rfl (by decide) rfl
theorem xH5 (w : World) (hE : Env w) : Calls Tryz.prog 20 #[.string (hst [0, 0, 0, 0, 0, 0, 0, 0])] w fun e w' => e = .returned (.tuple #[.string ⟨#[58, 58]⟩, .int .i64 0]) ∧ Below w.heap.size w w' := by
  have h := HostText_yes (octL [0, 0, 0, 0, 0, 0, 0, 0]) w (by decide) hE
  rw [show hostT (octL [0, 0, 0, 0, 0, 0, 0, 0]) = [58, 58] by decide +kernel] at h
  exact h
theorem xl5 (w : World) : Calls Tryz.prog 38 #[.slice (some ⟨w.heap.size, 0, none⟩) 8 8] (w.alloc (.cells #[.int .i64 1, .int .i64 0, .int .i64 0, .int .i64 0, .int .i64 0, .int .i64 0, .int .i64 0, .int .i64 0] 3)) fun e w' => e = .returned (.string (hst [1, 0, 0, 0, 0, 0, 0, 0])) ∧ Below w.heap.size w w' :=
  long_new [1, 0, 0, 0, 0, 0, 0, 0] _ w rfl (by decide) rfl
theorem xH6 (w : World) (hE : Env w) : Calls Tryz.prog 20 #[.string (hst [1, 0, 0, 0, 0, 0, 0, 0])] w fun e w' => e = .returned (.tuple #[.string ⟨#[49, 58, 58]⟩, .int .i64 0]) ∧ Below w.heap.size w w' := by
  have h := HostText_yes (octL [1, 0, 0, 0, 0, 0, 0, 0]) w (by decide) hE
  rw [show hostT (octL [1, 0, 0, 0, 0, 0, 0, 0]) = [49, 58, 58] by decide +kernel] at h
  exact h
theorem xP7 (w : World) (hE : Env w) : Calls Tryz.prog 18 #[.string ⟨#[49, 46, 50, 46, 51, 46, 52, 58, 53]⟩] w fun e w' => e = .returned (.tuple #[.agg #[.string ⟨#[1, 2, 3, 4]⟩, .int .i64 5], .int .i64 0]) ∧ Below w.heap.size w w' := by
  have h := Parse_any [49, 46, 50, 46, 51, 46, 52, 58, 53] w (by decide) hE
  rw [show paT [49, 46, 50, 46, 51, 46, 52, 58, 53] = .tuple #[.agg #[.string ⟨#[1, 2, 3, 4]⟩, .int .i64 5], .int .i64 0] by unfold paT; rw [if_pos (by decide +kernel), show paL [49, 46, 50, 46, 51, 46, 52, 58, 53] = [1, 2, 3, 4] by decide +kernel, show poN (pB [49, 46, 50, 46, 51, 46, 52, 58, 53]) = 5 by decide +kernel]; rfl] at h
  exact h
theorem xP8 (w : World) (hE : Env w) : Calls Tryz.prog 18 #[.string ⟨#[49, 46, 50, 46, 51, 46, 52]⟩] w fun e w' => e = .returned (.tuple #[.agg #[.string ⟨#[]⟩, .int .i64 0], .int .i64 5]) ∧ Below w.heap.size w w' := by
  have h := Parse_any [49, 46, 50, 46, 51, 46, 52] w (by decide) hE
  rw [show paT [49, 46, 50, 46, 51, 46, 52] = .tuple #[.agg #[.string ⟨#[]⟩, .int .i64 0], .int .i64 5] by unfold paT; rw [if_neg (by decide +kernel)]] at h
  exact h
theorem xP9 (w : World) (hE : Env w) : Calls Tryz.prog 18 #[.string ⟨#[48, 49, 46, 50, 46, 51, 46, 52, 58, 53]⟩] w fun e w' => e = .returned (.tuple #[.agg #[.string ⟨#[]⟩, .int .i64 0], .int .i64 5]) ∧ Below w.heap.size w w' := by
  have h := Parse_any [48, 49, 46, 50, 46, 51, 46, 52, 58, 53] w (by decide) hE
  rw [show paT [48, 49, 46, 50, 46, 51, 46, 52, 58, 53] = .tuple #[.agg #[.string ⟨#[]⟩, .int .i64 0], .int .i64 5] by unfold paT; rw [if_neg (by decide +kernel)]] at h
  exact h
theorem xP10 (w : World) (hE : Env w) : Calls Tryz.prog 18 #[.string ⟨#[49, 46, 50, 46, 51, 46, 52, 58, 54, 53, 53, 51, 54]⟩] w fun e w' => e = .returned (.tuple #[.agg #[.string ⟨#[]⟩, .int .i64 0], .int .i64 5]) ∧ Below w.heap.size w w' := by
  have h := Parse_any [49, 46, 50, 46, 51, 46, 52, 58, 54, 53, 53, 51, 54] w (by decide) hE
  rw [show paT [49, 46, 50, 46, 51, 46, 52, 58, 54, 53, 53, 51, 54] = .tuple #[.agg #[.string ⟨#[]⟩, .int .i64 0], .int .i64 5] by unfold paT; rw [if_neg (by decide +kernel)]] at h
  exact h
theorem xP11 (w : World) (hE : Env w) : Calls Tryz.prog 18 #[.string ⟨#[91, 49, 58, 58, 48, 93, 58, 49]⟩] w fun e w' => e = .returned (.tuple #[.agg #[.string ⟨#[]⟩, .int .i64 0], .int .i64 5]) ∧ Below w.heap.size w w' := by
  have h := Parse_any [91, 49, 58, 58, 48, 93, 58, 49] w (by decide) hE
  rw [show paT [91, 49, 58, 58, 48, 93, 58, 49] = .tuple #[.agg #[.string ⟨#[]⟩, .int .i64 0], .int .i64 5] by unfold paT; rw [if_neg (by decide +kernel)]] at h
  exact h
theorem xC12 (w : World) : Calls Tryz.prog 26 #[.string (⟨#[127, 9, 9, 9]⟩)] w fun e w' => e = .returned (.tuple #[.int .i64 3, .int .i64 0]) ∧ Below w.heap.size w w' := by
  have h := Class_yes ([127, 9, 9, 9]) w (by decide)
  rw [show clsN ([127, 9, 9, 9]) = 3 by decide +kernel] at h
  exact h
theorem xC13 (w : World) : Calls Tryz.prog 26 #[.string (⟨#[172, 31, 0, 1]⟩)] w fun e w' => e = .returned (.tuple #[.int .i64 5, .int .i64 0]) ∧ Below w.heap.size w w' := by
  have h := Class_yes ([172, 31, 0, 1]) w (by decide)
  rw [show clsN ([172, 31, 0, 1]) = 5 by decide +kernel] at h
  exact h
theorem xC14 (w : World) : Calls Tryz.prog 26 #[.string (⟨#[172, 32, 0, 1]⟩)] w fun e w' => e = .returned (.tuple #[.int .i64 1, .int .i64 0]) ∧ Below w.heap.size w w' := by
  have h := Class_yes ([172, 32, 0, 1]) w (by decide)
  rw [show clsN ([172, 32, 0, 1]) = 1 by decide +kernel] at h
  exact h
theorem xl6 (w : World) : Calls Tryz.prog 38 #[.slice (some ⟨w.heap.size, 0, none⟩) 8 8] (w.alloc (.cells #[.int .i64 65152, .int .i64 0, .int .i64 0, .int .i64 0, .int .i64 0, .int .i64 0, .int .i64 0, .int .i64 1] 3)) fun e w' => e = .returned (.string (hst [65152, 0, 0, 0, 0, 0, 0, 1])) ∧ Below w.heap.size w w' :=
  long_new [65152, 0, 0, 0, 0, 0, 0, 1] _ w rfl (by decide) rfl
theorem xC15 (w : World) : Calls Tryz.prog 26 #[.string (hst [65152, 0, 0, 0, 0, 0, 0, 1])] w fun e w' => e = .returned (.tuple #[.int .i64 4, .int .i64 0]) ∧ Below w.heap.size w w' := by
  have h := Class_yes (octL [65152, 0, 0, 0, 0, 0, 0, 1]) w (by decide)
  rw [show clsN (octL [65152, 0, 0, 0, 0, 0, 0, 1]) = 4 by decide +kernel] at h
  exact h
theorem xC16 (w : World) : Calls Tryz.prog 26 #[.string (⟨#[239, 1, 1, 1]⟩)] w fun e w' => e = .returned (.tuple #[.int .i64 6, .int .i64 0]) ∧ Below w.heap.size w w' := by
  have h := Class_yes ([239, 1, 1, 1]) w (by decide)
  rw [show clsN ([239, 1, 1, 1]) = 6 by decide +kernel] at h
  exact h
theorem xW17 (w : World) : Calls Tryz.prog 28 #[.string (⟨#[10, 1, 2, 3]⟩), .string (⟨#[10, 1, 0, 0]⟩), .int .i64 16] w fun e w' => e = .returned (.tuple #[.bool true, .int .i64 0]) ∧ Below w.heap.size w w' := by
  have h := Within_yes (bs ([10, 1, 2, 3])) (bs ([10, 1, 0, 0])) 16 w (by decide +kernel) (by decide +kernel) (by decide +kernel)
  rw [show wiB (bs ([10, 1, 2, 3])) (bs ([10, 1, 0, 0])) 16 = true by decide +kernel] at h
  exact h
theorem xW18 (w : World) : Calls Tryz.prog 28 #[.string (⟨#[10, 1, 2, 3]⟩), .string (⟨#[10, 1, 0, 0]⟩), .int .i64 17] w fun e w' => e = .returned (.tuple #[.bool true, .int .i64 0]) ∧ Below w.heap.size w w' := by
  have h := Within_yes (bs ([10, 1, 2, 3])) (bs ([10, 1, 0, 0])) 17 w (by decide +kernel) (by decide +kernel) (by decide +kernel)
  rw [show wiB (bs ([10, 1, 2, 3])) (bs ([10, 1, 0, 0])) 17 = true by decide +kernel] at h
  exact h
theorem xW19 (w : World) : Calls Tryz.prog 28 #[.string (⟨#[10, 1, 2, 3]⟩), .string (hst [0, 0, 0, 0, 0, 0, 0, 0]), .int .i64 0] w fun e w' => e = .returned (.tuple #[.bool false, .int .i64 0]) ∧ Below w.heap.size w w' := by
  have h := Within_yes (bs ([10, 1, 2, 3])) (bs (octL [0, 0, 0, 0, 0, 0, 0, 0])) 0 w (by decide +kernel) (by decide +kernel) (by decide +kernel)
  rw [show wiB (bs ([10, 1, 2, 3])) (bs (octL [0, 0, 0, 0, 0, 0, 0, 0])) 0 = false by decide +kernel] at h
  exact h
theorem xW20 (w : World) : Calls Tryz.prog 28 #[.string (⟨#[10, 1, 2, 3]⟩), .string (⟨#[10, 1, 0, 0]⟩), .int .i64 (33)] w fun e w' => e = .returned (.tuple #[.bool false, .int .i64 2]) ∧ Below w.heap.size w w' :=
  Within_no _ _ (33) w (by decide) (by decide) (by decide +kernel) (by decide +kernel)
set_option maxRecDepth 1000000 in
set_option maxHeartbeats 16000000 in
theorem works_true (w : World) (hE : Env w) : Calls Tryz.prog 10 #[] w fun e w' => e = .returned (.bool true) ∧ Below w.heap.size w w' := by
  have K0 := Wq.start hE
  clear hE
  go_enter Tryz.func10, Tryz.ntmps10
  go_upto_region 5 with (first
    | (go_at_call 15; (first | (with_reducible refine (xT0 _ K0.e).mono ?_) | (with_reducible refine (xT1 _ K0.e).mono ?_)); rintro e V ⟨rfl, hb⟩; with_reducible replace K0 := Wq.step K0 hb; (try with_reducible replace hp := Wh.step hp hb); clear hb)
    | (go_at_call 20; (first | (with_reducible refine (xH2 _ K0.e).mono ?_) | (with_reducible refine (xH3 _ K0.e).mono ?_) | (with_reducible refine (xH4 _ K0.e).mono ?_) | (with_reducible refine (xH5 _ K0.e).mono ?_) | (with_reducible refine (xH6 _ K0.e).mono ?_)); rintro e V ⟨rfl, hb⟩; with_reducible replace K0 := Wq.step K0 hb; (try with_reducible replace hp := Wh.step hp hb); clear hb)
    | (go_at_call 18; (first | (with_reducible refine (xP7 _ K0.e).mono ?_) | (with_reducible refine (xP8 _ K0.e).mono ?_) | (with_reducible refine (xP9 _ K0.e).mono ?_) | (with_reducible refine (xP10 _ K0.e).mono ?_) | (with_reducible refine (xP11 _ K0.e).mono ?_)); rintro e V ⟨rfl, hb⟩; with_reducible replace K0 := Wq.step K0 hb; (try with_reducible replace hp := Wh.step hp hb); clear hb)
    | (go_at_call 26; (first | (with_reducible refine (xC12 _).mono ?_) | (with_reducible refine (xC13 _).mono ?_) | (with_reducible refine (xC14 _).mono ?_) | (with_reducible refine (xC15 _).mono ?_) | (with_reducible refine (xC16 _).mono ?_)); rintro e V ⟨rfl, hb⟩; with_reducible replace K0 := Wq.step K0 hb; (try with_reducible replace hp := Wh.step hp hb); clear hb)
    | (go_at_call 28; (first | (with_reducible refine (xW17 _).mono ?_) | (with_reducible refine (xW18 _).mono ?_) | (with_reducible refine (xW19 _).mono ?_) | (with_reducible refine (xW20 _).mono ?_)); rintro e V ⟨rfl, hb⟩; with_reducible replace K0 := Wq.step K0 hb; (try with_reducible replace hp := Wh.step hp hb); clear hb)
    | (go_at_call 38; (first | (with_reducible refine (xl0 _).mono ?_) | (with_reducible refine (xl1 _).mono ?_) | (with_reducible refine (xl2 _).mono ?_) | (with_reducible refine (xl3 _).mono ?_) | (with_reducible refine (xl4 _).mono ?_) | (with_reducible refine (xl5 _).mono ?_) | (with_reducible refine (xl6 _).mono ?_)); rintro e V ⟨rfl, hb⟩; with_reducible replace K0 := Wq.step K0 hb; (try with_reducible replace hp := Wh.step hp hb); clear hb)
    | (go_at_call 30; (with_reducible refine (isA_any _ _ _).mono ?_); rintro e V ⟨g, rfl, hp, hb⟩; with_reducible replace K0 := Wq.step K0 hb; clear hb)
    | (go_at_call 61; (with_reducible refine (isA_yes _ _ _ _ hp).mono ?_); rintro e V ⟨rfl, hb⟩; with_reducible replace K0 := Wq.step K0 hb; clear hb hp)
    | (go_at_call 31; (with_reducible refine (isS_any _ _).mono ?_); rintro e V ⟨g, rfl, hp, hb⟩; with_reducible replace K0 := Wq.step K0 hb; clear hb)
    | (go_at_call 62; (with_reducible refine (isS_yes _ _ _ hp).mono ?_); rintro e V ⟨rfl, hb⟩; with_reducible replace K0 := Wq.step K0 hb; clear hb hp)
    | (go_at_call 37; (with_reducible refine (isB_any _ _).mono ?_); rintro e V ⟨g, rfl, hp, hb⟩; with_reducible replace K0 := Wq.step K0 hb; clear hb)
    | (go_at_call 73; (with_reducible refine (isB_yes _ _ _ hp).mono ?_); rintro e V ⟨rfl, hb⟩; with_reducible replace K0 := Wq.step K0 hb; clear hb hp)
    | (go_at_call 39; (with_reducible refine (isI_any _ _).mono ?_); rintro e V ⟨g, rfl, hp, hb⟩; with_reducible replace K0 := Wq.step K0 hb; clear hb)
    | (go_at_call 74; (with_reducible refine (isI_yes _ _ _ hp).mono ?_); rintro e V ⟨rfl, hb⟩; with_reducible replace K0 := Wq.step K0 hb; clear hb hp)
    | (go_at_call 40; (with_reducible refine (failsA_any _ _).mono ?_); rintro e V ⟨g, rfl, hp, hb⟩; with_reducible replace K0 := Wq.step K0 hb; clear hb)
    | (go_at_call 75; (with_reducible refine (failsA_yes _ _ _ hp).mono ?_); rintro e V ⟨rfl, hb⟩; with_reducible replace K0 := Wq.step K0 hb; clear hb hp)
    | (go_at_call 41; (with_reducible refine (failsS_any _ _).mono ?_); rintro e V ⟨g, rfl, hp, hb⟩; with_reducible replace K0 := Wq.step K0 hb; clear hb)
    | (go_at_call 76; (with_reducible refine (failsS_yes _ _ _ hp).mono ?_); rintro e V ⟨rfl, hb⟩; with_reducible replace K0 := Wq.step K0 hb; clear hb hp)
    | (go_at_call 42; (with_reducible refine (failsI_any _ _).mono ?_); rintro e V ⟨g, rfl, hp, hb⟩; with_reducible replace K0 := Wq.step K0 hb; clear hb)
    | (go_at_call 77; (with_reducible refine (failsI_yes _ _ _ hp).mono ?_); rintro e V ⟨rfl, hb⟩; with_reducible replace K0 := Wq.step K0 hb; clear hb hp)
    | (go_at_call 43; (with_reducible refine (failsB_any _ _).mono ?_); rintro e V ⟨g, rfl, hp, hb⟩; with_reducible replace K0 := Wq.step K0 hb; clear hb)
    | (go_at_call 78; (with_reducible refine (failsB_yes _ _ _ hp).mono ?_); rintro e V ⟨rfl, hb⟩; with_reducible replace K0 := Wq.step K0 hb; clear hb hp))
  go_loopw [2, 4, 77] (fun b _ i wr => b = .bool true ∧ ∃ k : Nat, k ≤ 4 ∧ i = .int .i64 (k : Int) ∧ Hid (Wq w wr)) (fun _ _ i _ => 4 - (intOf i).toNat)
  case atStart => exact ⟨rfl, 0, by omega, rfl, Lib.hid K0⟩
  case round =>
    clear K0
    obtain ⟨rfl, k, hk, rfl, HK⟩ := hrel
    have K0 := HK.out
    clear HK
    have hkc : k = 0 ∨ k = 1 ∨ k = 2 ∨ k = 3 ∨ k = 4 := by omega
    rcases hkc with rfl | rfl | rfl | rfl | rfl
    · have hix : ∀ W, (Instr.index 40 (.agg #[.string ⟨#[49, 46, 50, 46, 51, 46, 52]⟩, .string ⟨#[48, 49, 46, 50, 46, 51, 46, 52, 58, 53]⟩, .string ⟨#[49, 46, 50, 46, 51, 46, 52, 58, 54, 53, 53, 51, 54]⟩, .string ⟨#[91, 49, 58, 58, 48, 93, 58, 49]⟩]) (.int .i64 0)).run Tryz.prog W = .ok (.string ⟨#[49, 46, 50, 46, 51, 46, 52]⟩) W := fun W => by kernel_rfl
      go_wp2_with (first
    | (go_at_call 15; (first | (with_reducible refine (xT0 _ K0.e).mono ?_) | (with_reducible refine (xT1 _ K0.e).mono ?_)); rintro e V ⟨rfl, hb⟩; with_reducible replace K0 := Wq.step K0 hb; (try with_reducible replace hp := Wh.step hp hb); clear hb)
    | (go_at_call 20; (first | (with_reducible refine (xH2 _ K0.e).mono ?_) | (with_reducible refine (xH3 _ K0.e).mono ?_) | (with_reducible refine (xH4 _ K0.e).mono ?_) | (with_reducible refine (xH5 _ K0.e).mono ?_) | (with_reducible refine (xH6 _ K0.e).mono ?_)); rintro e V ⟨rfl, hb⟩; with_reducible replace K0 := Wq.step K0 hb; (try with_reducible replace hp := Wh.step hp hb); clear hb)
    | (go_at_call 18; (first | (with_reducible refine (xP7 _ K0.e).mono ?_) | (with_reducible refine (xP8 _ K0.e).mono ?_) | (with_reducible refine (xP9 _ K0.e).mono ?_) | (with_reducible refine (xP10 _ K0.e).mono ?_) | (with_reducible refine (xP11 _ K0.e).mono ?_)); rintro e V ⟨rfl, hb⟩; with_reducible replace K0 := Wq.step K0 hb; (try with_reducible replace hp := Wh.step hp hb); clear hb)
    | (go_at_call 26; (first | (with_reducible refine (xC12 _).mono ?_) | (with_reducible refine (xC13 _).mono ?_) | (with_reducible refine (xC14 _).mono ?_) | (with_reducible refine (xC15 _).mono ?_) | (with_reducible refine (xC16 _).mono ?_)); rintro e V ⟨rfl, hb⟩; with_reducible replace K0 := Wq.step K0 hb; (try with_reducible replace hp := Wh.step hp hb); clear hb)
    | (go_at_call 28; (first | (with_reducible refine (xW17 _).mono ?_) | (with_reducible refine (xW18 _).mono ?_) | (with_reducible refine (xW19 _).mono ?_) | (with_reducible refine (xW20 _).mono ?_)); rintro e V ⟨rfl, hb⟩; with_reducible replace K0 := Wq.step K0 hb; (try with_reducible replace hp := Wh.step hp hb); clear hb)
    | (go_at_call 38; (first | (with_reducible refine (xl0 _).mono ?_) | (with_reducible refine (xl1 _).mono ?_) | (with_reducible refine (xl2 _).mono ?_) | (with_reducible refine (xl3 _).mono ?_) | (with_reducible refine (xl4 _).mono ?_) | (with_reducible refine (xl5 _).mono ?_) | (with_reducible refine (xl6 _).mono ?_)); rintro e V ⟨rfl, hb⟩; with_reducible replace K0 := Wq.step K0 hb; (try with_reducible replace hp := Wh.step hp hb); clear hb)
    | (go_at_call 30; (with_reducible refine (isA_any _ _ _).mono ?_); rintro e V ⟨g, rfl, hp, hb⟩; with_reducible replace K0 := Wq.step K0 hb; clear hb)
    | (go_at_call 61; (with_reducible refine (isA_yes _ _ _ _ hp).mono ?_); rintro e V ⟨rfl, hb⟩; with_reducible replace K0 := Wq.step K0 hb; clear hb hp)
    | (go_at_call 31; (with_reducible refine (isS_any _ _).mono ?_); rintro e V ⟨g, rfl, hp, hb⟩; with_reducible replace K0 := Wq.step K0 hb; clear hb)
    | (go_at_call 62; (with_reducible refine (isS_yes _ _ _ hp).mono ?_); rintro e V ⟨rfl, hb⟩; with_reducible replace K0 := Wq.step K0 hb; clear hb hp)
    | (go_at_call 37; (with_reducible refine (isB_any _ _).mono ?_); rintro e V ⟨g, rfl, hp, hb⟩; with_reducible replace K0 := Wq.step K0 hb; clear hb)
    | (go_at_call 73; (with_reducible refine (isB_yes _ _ _ hp).mono ?_); rintro e V ⟨rfl, hb⟩; with_reducible replace K0 := Wq.step K0 hb; clear hb hp)
    | (go_at_call 39; (with_reducible refine (isI_any _ _).mono ?_); rintro e V ⟨g, rfl, hp, hb⟩; with_reducible replace K0 := Wq.step K0 hb; clear hb)
    | (go_at_call 74; (with_reducible refine (isI_yes _ _ _ hp).mono ?_); rintro e V ⟨rfl, hb⟩; with_reducible replace K0 := Wq.step K0 hb; clear hb hp)
    | (go_at_call 40; (with_reducible refine (failsA_any _ _).mono ?_); rintro e V ⟨g, rfl, hp, hb⟩; with_reducible replace K0 := Wq.step K0 hb; clear hb)
    | (go_at_call 75; (with_reducible refine (failsA_yes _ _ _ hp).mono ?_); rintro e V ⟨rfl, hb⟩; with_reducible replace K0 := Wq.step K0 hb; clear hb hp)
    | (go_at_call 41; (with_reducible refine (failsS_any _ _).mono ?_); rintro e V ⟨g, rfl, hp, hb⟩; with_reducible replace K0 := Wq.step K0 hb; clear hb)
    | (go_at_call 76; (with_reducible refine (failsS_yes _ _ _ hp).mono ?_); rintro e V ⟨rfl, hb⟩; with_reducible replace K0 := Wq.step K0 hb; clear hb hp)
    | (go_at_call 42; (with_reducible refine (failsI_any _ _).mono ?_); rintro e V ⟨g, rfl, hp, hb⟩; with_reducible replace K0 := Wq.step K0 hb; clear hb)
    | (go_at_call 77; (with_reducible refine (failsI_yes _ _ _ hp).mono ?_); rintro e V ⟨rfl, hb⟩; with_reducible replace K0 := Wq.step K0 hb; clear hb hp)
    | (go_at_call 43; (with_reducible refine (failsB_any _ _).mono ?_); rintro e V ⟨g, rfl, hp, hb⟩; with_reducible replace K0 := Wq.step K0 hb; clear hb)
    | (go_at_call 78; (with_reducible refine (failsB_yes _ _ _ hp).mono ?_); rintro e V ⟨rfl, hb⟩; with_reducible replace K0 := Wq.step K0 hb; clear hb hp))
      exact ⟨⟨rfl, 1, by omega, rfl, Lib.hid K0⟩, by simp [intOf]⟩
    · have hix : ∀ W, (Instr.index 40 (.agg #[.string ⟨#[49, 46, 50, 46, 51, 46, 52]⟩, .string ⟨#[48, 49, 46, 50, 46, 51, 46, 52, 58, 53]⟩, .string ⟨#[49, 46, 50, 46, 51, 46, 52, 58, 54, 53, 53, 51, 54]⟩, .string ⟨#[91, 49, 58, 58, 48, 93, 58, 49]⟩]) (.int .i64 1)).run Tryz.prog W = .ok (.string ⟨#[48, 49, 46, 50, 46, 51, 46, 52, 58, 53]⟩) W := fun W => by kernel_rfl
      go_wp2_with (first
    | (go_at_call 15; (first | (with_reducible refine (xT0 _ K0.e).mono ?_) | (with_reducible refine (xT1 _ K0.e).mono ?_)); rintro e V ⟨rfl, hb⟩; with_reducible replace K0 := Wq.step K0 hb; (try with_reducible replace hp := Wh.step hp hb); clear hb)
    | (go_at_call 20; (first | (with_reducible refine (xH2 _ K0.e).mono ?_) | (with_reducible refine (xH3 _ K0.e).mono ?_) | (with_reducible refine (xH4 _ K0.e).mono ?_) | (with_reducible refine (xH5 _ K0.e).mono ?_) | (with_reducible refine (xH6 _ K0.e).mono ?_)); rintro e V ⟨rfl, hb⟩; with_reducible replace K0 := Wq.step K0 hb; (try with_reducible replace hp := Wh.step hp hb); clear hb)
    | (go_at_call 18; (first | (with_reducible refine (xP7 _ K0.e).mono ?_) | (with_reducible refine (xP8 _ K0.e).mono ?_) | (with_reducible refine (xP9 _ K0.e).mono ?_) | (with_reducible refine (xP10 _ K0.e).mono ?_) | (with_reducible refine (xP11 _ K0.e).mono ?_)); rintro e V ⟨rfl, hb⟩; with_reducible replace K0 := Wq.step K0 hb; (try with_reducible replace hp := Wh.step hp hb); clear hb)
    | (go_at_call 26; (first | (with_reducible refine (xC12 _).mono ?_) | (with_reducible refine (xC13 _).mono ?_) | (with_reducible refine (xC14 _).mono ?_) | (with_reducible refine (xC15 _).mono ?_) | (with_reducible refine (xC16 _).mono ?_)); rintro e V ⟨rfl, hb⟩; with_reducible replace K0 := Wq.step K0 hb; (try with_reducible replace hp := Wh.step hp hb); clear hb)
    | (go_at_call 28; (first | (with_reducible refine (xW17 _).mono ?_) | (with_reducible refine (xW18 _).mono ?_) | (with_reducible refine (xW19 _).mono ?_) | (with_reducible refine (xW20 _).mono ?_)); rintro e V ⟨rfl, hb⟩; with_reducible replace K0 := Wq.step K0 hb; (try with_reducible replace hp := Wh.step hp hb); clear hb)
    | (go_at_call 38; (first | (with_reducible refine (xl0 _).mono ?_) | (with_reducible refine (xl1 _).mono ?_) | (with_reducible refine (xl2 _).mono ?_) | (with_reducible refine (xl3 _).mono ?_) | (with_reducible refine (xl4 _).mono ?_) | (with_reducible refine (xl5 _).mono ?_) | (with_reducible refine (xl6 _).mono ?_)); rintro e V ⟨rfl, hb⟩; with_reducible replace K0 := Wq.step K0 hb; (try with_reducible replace hp := Wh.step hp hb); clear hb)
    | (go_at_call 30; (with_reducible refine (isA_any _ _ _).mono ?_); rintro e V ⟨g, rfl, hp, hb⟩; with_reducible replace K0 := Wq.step K0 hb; clear hb)
    | (go_at_call 61; (with_reducible refine (isA_yes _ _ _ _ hp).mono ?_); rintro e V ⟨rfl, hb⟩; with_reducible replace K0 := Wq.step K0 hb; clear hb hp)
    | (go_at_call 31; (with_reducible refine (isS_any _ _).mono ?_); rintro e V ⟨g, rfl, hp, hb⟩; with_reducible replace K0 := Wq.step K0 hb; clear hb)
    | (go_at_call 62; (with_reducible refine (isS_yes _ _ _ hp).mono ?_); rintro e V ⟨rfl, hb⟩; with_reducible replace K0 := Wq.step K0 hb; clear hb hp)
    | (go_at_call 37; (with_reducible refine (isB_any _ _).mono ?_); rintro e V ⟨g, rfl, hp, hb⟩; with_reducible replace K0 := Wq.step K0 hb; clear hb)
    | (go_at_call 73; (with_reducible refine (isB_yes _ _ _ hp).mono ?_); rintro e V ⟨rfl, hb⟩; with_reducible replace K0 := Wq.step K0 hb; clear hb hp)
    | (go_at_call 39; (with_reducible refine (isI_any _ _).mono ?_); rintro e V ⟨g, rfl, hp, hb⟩; with_reducible replace K0 := Wq.step K0 hb; clear hb)
    | (go_at_call 74; (with_reducible refine (isI_yes _ _ _ hp).mono ?_); rintro e V ⟨rfl, hb⟩; with_reducible replace K0 := Wq.step K0 hb; clear hb hp)
    | (go_at_call 40; (with_reducible refine (failsA_any _ _).mono ?_); rintro e V ⟨g, rfl, hp, hb⟩; with_reducible replace K0 := Wq.step K0 hb; clear hb)
    | (go_at_call 75; (with_reducible refine (failsA_yes _ _ _ hp).mono ?_); rintro e V ⟨rfl, hb⟩; with_reducible replace K0 := Wq.step K0 hb; clear hb hp)
    | (go_at_call 41; (with_reducible refine (failsS_any _ _).mono ?_); rintro e V ⟨g, rfl, hp, hb⟩; with_reducible replace K0 := Wq.step K0 hb; clear hb)
    | (go_at_call 76; (with_reducible refine (failsS_yes _ _ _ hp).mono ?_); rintro e V ⟨rfl, hb⟩; with_reducible replace K0 := Wq.step K0 hb; clear hb hp)
    | (go_at_call 42; (with_reducible refine (failsI_any _ _).mono ?_); rintro e V ⟨g, rfl, hp, hb⟩; with_reducible replace K0 := Wq.step K0 hb; clear hb)
    | (go_at_call 77; (with_reducible refine (failsI_yes _ _ _ hp).mono ?_); rintro e V ⟨rfl, hb⟩; with_reducible replace K0 := Wq.step K0 hb; clear hb hp)
    | (go_at_call 43; (with_reducible refine (failsB_any _ _).mono ?_); rintro e V ⟨g, rfl, hp, hb⟩; with_reducible replace K0 := Wq.step K0 hb; clear hb)
    | (go_at_call 78; (with_reducible refine (failsB_yes _ _ _ hp).mono ?_); rintro e V ⟨rfl, hb⟩; with_reducible replace K0 := Wq.step K0 hb; clear hb hp))
      exact ⟨⟨rfl, 2, by omega, rfl, Lib.hid K0⟩, by simp [intOf]⟩
    · have hix : ∀ W, (Instr.index 40 (.agg #[.string ⟨#[49, 46, 50, 46, 51, 46, 52]⟩, .string ⟨#[48, 49, 46, 50, 46, 51, 46, 52, 58, 53]⟩, .string ⟨#[49, 46, 50, 46, 51, 46, 52, 58, 54, 53, 53, 51, 54]⟩, .string ⟨#[91, 49, 58, 58, 48, 93, 58, 49]⟩]) (.int .i64 2)).run Tryz.prog W = .ok (.string ⟨#[49, 46, 50, 46, 51, 46, 52, 58, 54, 53, 53, 51, 54]⟩) W := fun W => by kernel_rfl
      go_wp2_with (first
    | (go_at_call 15; (first | (with_reducible refine (xT0 _ K0.e).mono ?_) | (with_reducible refine (xT1 _ K0.e).mono ?_)); rintro e V ⟨rfl, hb⟩; with_reducible replace K0 := Wq.step K0 hb; (try with_reducible replace hp := Wh.step hp hb); clear hb)
    | (go_at_call 20; (first | (with_reducible refine (xH2 _ K0.e).mono ?_) | (with_reducible refine (xH3 _ K0.e).mono ?_) | (with_reducible refine (xH4 _ K0.e).mono ?_) | (with_reducible refine (xH5 _ K0.e).mono ?_) | (with_reducible refine (xH6 _ K0.e).mono ?_)); rintro e V ⟨rfl, hb⟩; with_reducible replace K0 := Wq.step K0 hb; (try with_reducible replace hp := Wh.step hp hb); clear hb)
    | (go_at_call 18; (first | (with_reducible refine (xP7 _ K0.e).mono ?_) | (with_reducible refine (xP8 _ K0.e).mono ?_) | (with_reducible refine (xP9 _ K0.e).mono ?_) | (with_reducible refine (xP10 _ K0.e).mono ?_) | (with_reducible refine (xP11 _ K0.e).mono ?_)); rintro e V ⟨rfl, hb⟩; with_reducible replace K0 := Wq.step K0 hb; (try with_reducible replace hp := Wh.step hp hb); clear hb)
    | (go_at_call 26; (first | (with_reducible refine (xC12 _).mono ?_) | (with_reducible refine (xC13 _).mono ?_) | (with_reducible refine (xC14 _).mono ?_) | (with_reducible refine (xC15 _).mono ?_) | (with_reducible refine (xC16 _).mono ?_)); rintro e V ⟨rfl, hb⟩; with_reducible replace K0 := Wq.step K0 hb; (try with_reducible replace hp := Wh.step hp hb); clear hb)
    | (go_at_call 28; (first | (with_reducible refine (xW17 _).mono ?_) | (with_reducible refine (xW18 _).mono ?_) | (with_reducible refine (xW19 _).mono ?_) | (with_reducible refine (xW20 _).mono ?_)); rintro e V ⟨rfl, hb⟩; with_reducible replace K0 := Wq.step K0 hb; (try with_reducible replace hp := Wh.step hp hb); clear hb)
    | (go_at_call 38; (first | (with_reducible refine (xl0 _).mono ?_) | (with_reducible refine (xl1 _).mono ?_) | (with_reducible refine (xl2 _).mono ?_) | (with_reducible refine (xl3 _).mono ?_) | (with_reducible refine (xl4 _).mono ?_) | (with_reducible refine (xl5 _).mono ?_) | (with_reducible refine (xl6 _).mono ?_)); rintro e V ⟨rfl, hb⟩; with_reducible replace K0 := Wq.step K0 hb; (try with_reducible replace hp := Wh.step hp hb); clear hb)
    | (go_at_call 30; (with_reducible refine (isA_any _ _ _).mono ?_); rintro e V ⟨g, rfl, hp, hb⟩; with_reducible replace K0 := Wq.step K0 hb; clear hb)
    | (go_at_call 61; (with_reducible refine (isA_yes _ _ _ _ hp).mono ?_); rintro e V ⟨rfl, hb⟩; with_reducible replace K0 := Wq.step K0 hb; clear hb hp)
    | (go_at_call 31; (with_reducible refine (isS_any _ _).mono ?_); rintro e V ⟨g, rfl, hp, hb⟩; with_reducible replace K0 := Wq.step K0 hb; clear hb)
    | (go_at_call 62; (with_reducible refine (isS_yes _ _ _ hp).mono ?_); rintro e V ⟨rfl, hb⟩; with_reducible replace K0 := Wq.step K0 hb; clear hb hp)
    | (go_at_call 37; (with_reducible refine (isB_any _ _).mono ?_); rintro e V ⟨g, rfl, hp, hb⟩; with_reducible replace K0 := Wq.step K0 hb; clear hb)
    | (go_at_call 73; (with_reducible refine (isB_yes _ _ _ hp).mono ?_); rintro e V ⟨rfl, hb⟩; with_reducible replace K0 := Wq.step K0 hb; clear hb hp)
    | (go_at_call 39; (with_reducible refine (isI_any _ _).mono ?_); rintro e V ⟨g, rfl, hp, hb⟩; with_reducible replace K0 := Wq.step K0 hb; clear hb)
    | (go_at_call 74; (with_reducible refine (isI_yes _ _ _ hp).mono ?_); rintro e V ⟨rfl, hb⟩; with_reducible replace K0 := Wq.step K0 hb; clear hb hp)
    | (go_at_call 40; (with_reducible refine (failsA_any _ _).mono ?_); rintro e V ⟨g, rfl, hp, hb⟩; with_reducible replace K0 := Wq.step K0 hb; clear hb)
    | (go_at_call 75; (with_reducible refine (failsA_yes _ _ _ hp).mono ?_); rintro e V ⟨rfl, hb⟩; with_reducible replace K0 := Wq.step K0 hb; clear hb hp)
    | (go_at_call 41; (with_reducible refine (failsS_any _ _).mono ?_); rintro e V ⟨g, rfl, hp, hb⟩; with_reducible replace K0 := Wq.step K0 hb; clear hb)
    | (go_at_call 76; (with_reducible refine (failsS_yes _ _ _ hp).mono ?_); rintro e V ⟨rfl, hb⟩; with_reducible replace K0 := Wq.step K0 hb; clear hb hp)
    | (go_at_call 42; (with_reducible refine (failsI_any _ _).mono ?_); rintro e V ⟨g, rfl, hp, hb⟩; with_reducible replace K0 := Wq.step K0 hb; clear hb)
    | (go_at_call 77; (with_reducible refine (failsI_yes _ _ _ hp).mono ?_); rintro e V ⟨rfl, hb⟩; with_reducible replace K0 := Wq.step K0 hb; clear hb hp)
    | (go_at_call 43; (with_reducible refine (failsB_any _ _).mono ?_); rintro e V ⟨g, rfl, hp, hb⟩; with_reducible replace K0 := Wq.step K0 hb; clear hb)
    | (go_at_call 78; (with_reducible refine (failsB_yes _ _ _ hp).mono ?_); rintro e V ⟨rfl, hb⟩; with_reducible replace K0 := Wq.step K0 hb; clear hb hp))
      exact ⟨⟨rfl, 3, by omega, rfl, Lib.hid K0⟩, by simp [intOf]⟩
    · have hix : ∀ W, (Instr.index 40 (.agg #[.string ⟨#[49, 46, 50, 46, 51, 46, 52]⟩, .string ⟨#[48, 49, 46, 50, 46, 51, 46, 52, 58, 53]⟩, .string ⟨#[49, 46, 50, 46, 51, 46, 52, 58, 54, 53, 53, 51, 54]⟩, .string ⟨#[91, 49, 58, 58, 48, 93, 58, 49]⟩]) (.int .i64 3)).run Tryz.prog W = .ok (.string ⟨#[91, 49, 58, 58, 48, 93, 58, 49]⟩) W := fun W => by kernel_rfl
      go_wp2_with (first
    | (go_at_call 15; (first | (with_reducible refine (xT0 _ K0.e).mono ?_) | (with_reducible refine (xT1 _ K0.e).mono ?_)); rintro e V ⟨rfl, hb⟩; with_reducible replace K0 := Wq.step K0 hb; (try with_reducible replace hp := Wh.step hp hb); clear hb)
    | (go_at_call 20; (first | (with_reducible refine (xH2 _ K0.e).mono ?_) | (with_reducible refine (xH3 _ K0.e).mono ?_) | (with_reducible refine (xH4 _ K0.e).mono ?_) | (with_reducible refine (xH5 _ K0.e).mono ?_) | (with_reducible refine (xH6 _ K0.e).mono ?_)); rintro e V ⟨rfl, hb⟩; with_reducible replace K0 := Wq.step K0 hb; (try with_reducible replace hp := Wh.step hp hb); clear hb)
    | (go_at_call 18; (first | (with_reducible refine (xP7 _ K0.e).mono ?_) | (with_reducible refine (xP8 _ K0.e).mono ?_) | (with_reducible refine (xP9 _ K0.e).mono ?_) | (with_reducible refine (xP10 _ K0.e).mono ?_) | (with_reducible refine (xP11 _ K0.e).mono ?_)); rintro e V ⟨rfl, hb⟩; with_reducible replace K0 := Wq.step K0 hb; (try with_reducible replace hp := Wh.step hp hb); clear hb)
    | (go_at_call 26; (first | (with_reducible refine (xC12 _).mono ?_) | (with_reducible refine (xC13 _).mono ?_) | (with_reducible refine (xC14 _).mono ?_) | (with_reducible refine (xC15 _).mono ?_) | (with_reducible refine (xC16 _).mono ?_)); rintro e V ⟨rfl, hb⟩; with_reducible replace K0 := Wq.step K0 hb; (try with_reducible replace hp := Wh.step hp hb); clear hb)
    | (go_at_call 28; (first | (with_reducible refine (xW17 _).mono ?_) | (with_reducible refine (xW18 _).mono ?_) | (with_reducible refine (xW19 _).mono ?_) | (with_reducible refine (xW20 _).mono ?_)); rintro e V ⟨rfl, hb⟩; with_reducible replace K0 := Wq.step K0 hb; (try with_reducible replace hp := Wh.step hp hb); clear hb)
    | (go_at_call 38; (first | (with_reducible refine (xl0 _).mono ?_) | (with_reducible refine (xl1 _).mono ?_) | (with_reducible refine (xl2 _).mono ?_) | (with_reducible refine (xl3 _).mono ?_) | (with_reducible refine (xl4 _).mono ?_) | (with_reducible refine (xl5 _).mono ?_) | (with_reducible refine (xl6 _).mono ?_)); rintro e V ⟨rfl, hb⟩; with_reducible replace K0 := Wq.step K0 hb; (try with_reducible replace hp := Wh.step hp hb); clear hb)
    | (go_at_call 30; (with_reducible refine (isA_any _ _ _).mono ?_); rintro e V ⟨g, rfl, hp, hb⟩; with_reducible replace K0 := Wq.step K0 hb; clear hb)
    | (go_at_call 61; (with_reducible refine (isA_yes _ _ _ _ hp).mono ?_); rintro e V ⟨rfl, hb⟩; with_reducible replace K0 := Wq.step K0 hb; clear hb hp)
    | (go_at_call 31; (with_reducible refine (isS_any _ _).mono ?_); rintro e V ⟨g, rfl, hp, hb⟩; with_reducible replace K0 := Wq.step K0 hb; clear hb)
    | (go_at_call 62; (with_reducible refine (isS_yes _ _ _ hp).mono ?_); rintro e V ⟨rfl, hb⟩; with_reducible replace K0 := Wq.step K0 hb; clear hb hp)
    | (go_at_call 37; (with_reducible refine (isB_any _ _).mono ?_); rintro e V ⟨g, rfl, hp, hb⟩; with_reducible replace K0 := Wq.step K0 hb; clear hb)
    | (go_at_call 73; (with_reducible refine (isB_yes _ _ _ hp).mono ?_); rintro e V ⟨rfl, hb⟩; with_reducible replace K0 := Wq.step K0 hb; clear hb hp)
    | (go_at_call 39; (with_reducible refine (isI_any _ _).mono ?_); rintro e V ⟨g, rfl, hp, hb⟩; with_reducible replace K0 := Wq.step K0 hb; clear hb)
    | (go_at_call 74; (with_reducible refine (isI_yes _ _ _ hp).mono ?_); rintro e V ⟨rfl, hb⟩; with_reducible replace K0 := Wq.step K0 hb; clear hb hp)
    | (go_at_call 40; (with_reducible refine (failsA_any _ _).mono ?_); rintro e V ⟨g, rfl, hp, hb⟩; with_reducible replace K0 := Wq.step K0 hb; clear hb)
    | (go_at_call 75; (with_reducible refine (failsA_yes _ _ _ hp).mono ?_); rintro e V ⟨rfl, hb⟩; with_reducible replace K0 := Wq.step K0 hb; clear hb hp)
    | (go_at_call 41; (with_reducible refine (failsS_any _ _).mono ?_); rintro e V ⟨g, rfl, hp, hb⟩; with_reducible replace K0 := Wq.step K0 hb; clear hb)
    | (go_at_call 76; (with_reducible refine (failsS_yes _ _ _ hp).mono ?_); rintro e V ⟨rfl, hb⟩; with_reducible replace K0 := Wq.step K0 hb; clear hb hp)
    | (go_at_call 42; (with_reducible refine (failsI_any _ _).mono ?_); rintro e V ⟨g, rfl, hp, hb⟩; with_reducible replace K0 := Wq.step K0 hb; clear hb)
    | (go_at_call 77; (with_reducible refine (failsI_yes _ _ _ hp).mono ?_); rintro e V ⟨rfl, hb⟩; with_reducible replace K0 := Wq.step K0 hb; clear hb hp)
    | (go_at_call 43; (with_reducible refine (failsB_any _ _).mono ?_); rintro e V ⟨g, rfl, hp, hb⟩; with_reducible replace K0 := Wq.step K0 hb; clear hb)
    | (go_at_call 78; (with_reducible refine (failsB_yes _ _ _ hp).mono ?_); rintro e V ⟨rfl, hb⟩; with_reducible replace K0 := Wq.step K0 hb; clear hb hp))
      exact ⟨⟨rfl, 4, by omega, rfl, Lib.hid K0⟩, by simp [intOf]⟩
    · go_wp2_with (first
    | (go_at_call 15; (first | (with_reducible refine (xT0 _ K0.e).mono ?_) | (with_reducible refine (xT1 _ K0.e).mono ?_)); rintro e V ⟨rfl, hb⟩; with_reducible replace K0 := Wq.step K0 hb; (try with_reducible replace hp := Wh.step hp hb); clear hb)
    | (go_at_call 20; (first | (with_reducible refine (xH2 _ K0.e).mono ?_) | (with_reducible refine (xH3 _ K0.e).mono ?_) | (with_reducible refine (xH4 _ K0.e).mono ?_) | (with_reducible refine (xH5 _ K0.e).mono ?_) | (with_reducible refine (xH6 _ K0.e).mono ?_)); rintro e V ⟨rfl, hb⟩; with_reducible replace K0 := Wq.step K0 hb; (try with_reducible replace hp := Wh.step hp hb); clear hb)
    | (go_at_call 18; (first | (with_reducible refine (xP7 _ K0.e).mono ?_) | (with_reducible refine (xP8 _ K0.e).mono ?_) | (with_reducible refine (xP9 _ K0.e).mono ?_) | (with_reducible refine (xP10 _ K0.e).mono ?_) | (with_reducible refine (xP11 _ K0.e).mono ?_)); rintro e V ⟨rfl, hb⟩; with_reducible replace K0 := Wq.step K0 hb; (try with_reducible replace hp := Wh.step hp hb); clear hb)
    | (go_at_call 26; (first | (with_reducible refine (xC12 _).mono ?_) | (with_reducible refine (xC13 _).mono ?_) | (with_reducible refine (xC14 _).mono ?_) | (with_reducible refine (xC15 _).mono ?_) | (with_reducible refine (xC16 _).mono ?_)); rintro e V ⟨rfl, hb⟩; with_reducible replace K0 := Wq.step K0 hb; (try with_reducible replace hp := Wh.step hp hb); clear hb)
    | (go_at_call 28; (first | (with_reducible refine (xW17 _).mono ?_) | (with_reducible refine (xW18 _).mono ?_) | (with_reducible refine (xW19 _).mono ?_) | (with_reducible refine (xW20 _).mono ?_)); rintro e V ⟨rfl, hb⟩; with_reducible replace K0 := Wq.step K0 hb; (try with_reducible replace hp := Wh.step hp hb); clear hb)
    | (go_at_call 38; (first | (with_reducible refine (xl0 _).mono ?_) | (with_reducible refine (xl1 _).mono ?_) | (with_reducible refine (xl2 _).mono ?_) | (with_reducible refine (xl3 _).mono ?_) | (with_reducible refine (xl4 _).mono ?_) | (with_reducible refine (xl5 _).mono ?_) | (with_reducible refine (xl6 _).mono ?_)); rintro e V ⟨rfl, hb⟩; with_reducible replace K0 := Wq.step K0 hb; (try with_reducible replace hp := Wh.step hp hb); clear hb)
    | (go_at_call 30; (with_reducible refine (isA_any _ _ _).mono ?_); rintro e V ⟨g, rfl, hp, hb⟩; with_reducible replace K0 := Wq.step K0 hb; clear hb)
    | (go_at_call 61; (with_reducible refine (isA_yes _ _ _ _ hp).mono ?_); rintro e V ⟨rfl, hb⟩; with_reducible replace K0 := Wq.step K0 hb; clear hb hp)
    | (go_at_call 31; (with_reducible refine (isS_any _ _).mono ?_); rintro e V ⟨g, rfl, hp, hb⟩; with_reducible replace K0 := Wq.step K0 hb; clear hb)
    | (go_at_call 62; (with_reducible refine (isS_yes _ _ _ hp).mono ?_); rintro e V ⟨rfl, hb⟩; with_reducible replace K0 := Wq.step K0 hb; clear hb hp)
    | (go_at_call 37; (with_reducible refine (isB_any _ _).mono ?_); rintro e V ⟨g, rfl, hp, hb⟩; with_reducible replace K0 := Wq.step K0 hb; clear hb)
    | (go_at_call 73; (with_reducible refine (isB_yes _ _ _ hp).mono ?_); rintro e V ⟨rfl, hb⟩; with_reducible replace K0 := Wq.step K0 hb; clear hb hp)
    | (go_at_call 39; (with_reducible refine (isI_any _ _).mono ?_); rintro e V ⟨g, rfl, hp, hb⟩; with_reducible replace K0 := Wq.step K0 hb; clear hb)
    | (go_at_call 74; (with_reducible refine (isI_yes _ _ _ hp).mono ?_); rintro e V ⟨rfl, hb⟩; with_reducible replace K0 := Wq.step K0 hb; clear hb hp)
    | (go_at_call 40; (with_reducible refine (failsA_any _ _).mono ?_); rintro e V ⟨g, rfl, hp, hb⟩; with_reducible replace K0 := Wq.step K0 hb; clear hb)
    | (go_at_call 75; (with_reducible refine (failsA_yes _ _ _ hp).mono ?_); rintro e V ⟨rfl, hb⟩; with_reducible replace K0 := Wq.step K0 hb; clear hb hp)
    | (go_at_call 41; (with_reducible refine (failsS_any _ _).mono ?_); rintro e V ⟨g, rfl, hp, hb⟩; with_reducible replace K0 := Wq.step K0 hb; clear hb)
    | (go_at_call 76; (with_reducible refine (failsS_yes _ _ _ hp).mono ?_); rintro e V ⟨rfl, hb⟩; with_reducible replace K0 := Wq.step K0 hb; clear hb hp)
    | (go_at_call 42; (with_reducible refine (failsI_any _ _).mono ?_); rintro e V ⟨g, rfl, hp, hb⟩; with_reducible replace K0 := Wq.step K0 hb; clear hb)
    | (go_at_call 77; (with_reducible refine (failsI_yes _ _ _ hp).mono ?_); rintro e V ⟨rfl, hb⟩; with_reducible replace K0 := Wq.step K0 hb; clear hb hp)
    | (go_at_call 43; (with_reducible refine (failsB_any _ _).mono ?_); rintro e V ⟨g, rfl, hp, hb⟩; with_reducible replace K0 := Wq.step K0 hb; clear hb)
    | (go_at_call 78; (with_reducible refine (failsB_yes _ _ _ hp).mono ?_); rintro e V ⟨rfl, hb⟩; with_reducible replace K0 := Wq.step K0 hb; clear hb hp))
      go_ret
      exact ⟨rfl, K0.b⟩
end Go.Proofs.YtjoogiabimiioaaGreatDoor
