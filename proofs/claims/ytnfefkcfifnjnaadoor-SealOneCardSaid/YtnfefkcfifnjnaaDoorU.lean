/- Contracts of a round, of the words that are there at first, of a block. -/
import Derived.Test.YtnfefkcfifnjnaaDoorT
namespace Go.Proofs.YtnfefkcfifnjnaaDoor
open Go.RowKit Go.ChangeShapes

theorem colP_lt : ∀ p ∈ colP, p.lt 16 := by
  intro p hp
  simp only [colP, List.mem_cons, List.not_mem_nil, or_false] at hp
  rcases hp with rfl | rfl | rfl | rfl <;> exact ⟨by decide, by decide, by decide, by decide⟩
theorem diaP_lt : ∀ p ∈ diaP, p.lt 16 := by
  intro p hp
  simp only [diaP, List.mem_cons, List.not_mem_nil, or_false] at hp
  rcases hp with rfl | rfl | rfl | rfl <;> exact ⟨by decide, by decide, by decide, by decide⟩
theorem colP_new (w : World) : Pl (w.alloc (.cells #[.int .i64 0, .int .i64 4, .int .i64 8, .int .i64 12, .int .i64 1, .int .i64 5, .int .i64 9, .int .i64 13, .int .i64 2, .int .i64 6, .int .i64 10, .int .i64 14, .int .i64 3, .int .i64 7, .int .i64 11, .int .i64 15] 136)) w.heap.size colP := by
  refine ⟨by simp, fun j p hj => ?_⟩
  have hh := heap_alloc_new w (.cells #[.int .i64 0, .int .i64 4, .int .i64 8, .int .i64 12, .int .i64 1, .int .i64 5, .int .i64 9, .int .i64 13, .int .i64 2, .int .i64 6, .int .i64 10, .int .i64 14, .int .i64 3, .int .i64 7, .int .i64 11, .int .i64 15] 136)
  rcases (by have := (List.getElem?_eq_some_iff.1 hj).1; simp [colP] at this; omega : j = 0 ∨ j = 1 ∨ j = 2 ∨ j = 3) with rfl | rfl | rfl | rfl
  · obtain rfl : ⟨0, 4, 8, 12⟩ = p := Option.some.inj hj
    exact World.rangeAt_of_block hh 0 4
  · obtain rfl : ⟨1, 5, 9, 13⟩ = p := Option.some.inj hj
    exact World.rangeAt_of_block hh 4 4
  · obtain rfl : ⟨2, 6, 10, 14⟩ = p := Option.some.inj hj
    exact World.rangeAt_of_block hh 8 4
  · obtain rfl : ⟨3, 7, 11, 15⟩ = p := Option.some.inj hj
    exact World.rangeAt_of_block hh 12 4
theorem diaP_new (w : World) : Pl (w.alloc (.cells #[.int .i64 0, .int .i64 5, .int .i64 10, .int .i64 15, .int .i64 1, .int .i64 6, .int .i64 11, .int .i64 12, .int .i64 2, .int .i64 7, .int .i64 8, .int .i64 13, .int .i64 3, .int .i64 4, .int .i64 9, .int .i64 14] 136)) w.heap.size diaP := by
  refine ⟨by simp, fun j p hj => ?_⟩
  have hh := heap_alloc_new w (.cells #[.int .i64 0, .int .i64 5, .int .i64 10, .int .i64 15, .int .i64 1, .int .i64 6, .int .i64 11, .int .i64 12, .int .i64 2, .int .i64 7, .int .i64 8, .int .i64 13, .int .i64 3, .int .i64 4, .int .i64 9, .int .i64 14] 136)
  rcases (by have := (List.getElem?_eq_some_iff.1 hj).1; simp [diaP] at this; omega : j = 0 ∨ j = 1 ∨ j = 2 ∨ j = 3) with rfl | rfl | rfl | rfl
  · obtain rfl : ⟨0, 5, 10, 15⟩ = p := Option.some.inj hj
    exact World.rangeAt_of_block hh 0 4
  · obtain rfl : ⟨1, 6, 11, 12⟩ = p := Option.some.inj hj
    exact World.rangeAt_of_block hh 4 4
  · obtain rfl : ⟨2, 7, 8, 13⟩ = p := Option.some.inj hj
    exact World.rangeAt_of_block hh 8 4
  · obtain rfl : ⟨3, 4, 9, 14⟩ = p := Option.some.inj hj
    exact World.rangeAt_of_block hh 12 4
set_option maxRecDepth 100000 in
set_option maxHeartbeats 4000000 in
theorem round_any (g : Nat) (l : List Nat) (w : World) (hl : 16 ≤ l.length) (hW : AllW l) (hA : Arr w g 119 l) :
    Calls Tryd.prog 81 #[.pointer (some ⟨g, 0, none⟩)] w fun e w' => (∃ v, e = .returned v) ∧ Arr w' g 119 (roundL l) ∧ Only g w w' := by
  have hg := hA.lt
  have hP := colP_new w
  have A1 := hA.alloc (.cells #[.int .i64 0, .int .i64 4, .int .i64 8, .int .i64 12, .int .i64 1, .int .i64 5, .int .i64 9, .int .i64 13, .int .i64 2, .int .i64 6, .int .i64 10, .int .i64 14, .int .i64 3, .int .i64 7, .int .i64 11, .int .i64 15] 136)
  have O1 := (Only.refl g w).alloc (.cells #[.int .i64 0, .int .i64 4, .int .i64 8, .int .i64 12, .int .i64 1, .int .i64 5, .int .i64 9, .int .i64 13, .int .i64 2, .int .i64 6, .int .i64 10, .int .i64 14, .int .i64 3, .int .i64 7, .int .i64 11, .int .i64 15] 136)
  have HC := Lib.hid (quarters_any g w.heap.size 119 l colP 4 _ rfl (by decide) hl hW colP_lt A1 hP (by omega))
  have HO := Lib.hid O1
  have HL := Lib.hid hl
  have HW := Lib.hid hW
  clear hP A1 O1 hA hl hW
  go_enter Tryd.func81, Tryd.ntmps81
  go_wp2_with fail
  (with_reducible refine HC.out.mono ?_)
  rintro e w1 ⟨⟨v, rfl⟩, hA1, hO1⟩
  have HO1 := Lib.hid (HO.out.trans hO1)
  have hg1 := hA1.lt
  have hP := diaP_new w1
  have A1 := hA1.alloc (.cells #[.int .i64 0, .int .i64 5, .int .i64 10, .int .i64 15, .int .i64 1, .int .i64 6, .int .i64 11, .int .i64 12, .int .i64 2, .int .i64 7, .int .i64 8, .int .i64 13, .int .i64 3, .int .i64 4, .int .i64 9, .int .i64 14] 136)
  have O1 := HO1.out.alloc (.cells #[.int .i64 0, .int .i64 5, .int .i64 10, .int .i64 15, .int .i64 1, .int .i64 6, .int .i64 11, .int .i64 12, .int .i64 2, .int .i64 7, .int .i64 8, .int .i64 13, .int .i64 3, .int .i64 4, .int .i64 9, .int .i64 14] 136)
  have HC2 := Lib.hid (quarters_any g w1.heap.size 119 (qrs l colP) diaP 4 _ rfl (by decide) (by rw [qrs_length]; exact HL.out) (qrs_all _ _ HW.out) diaP_lt A1 hP (by omega))
  have HO2 := Lib.hid O1
  clear hP A1 O1 hA1 HC HO hO1 HO1 HL HW
  go_wp2_with fail
  (with_reducible refine HC2.out.mono ?_)
  rintro e w2 ⟨⟨v2, rfl⟩, hA2, hO2⟩
  have HO3 := Lib.hid (HO2.out.trans hO2)
  have HA3 := Lib.hid hA2
  clear hA2 hO2 HO2 HC2
  go_wp2
  go_end0
  exact ⟨⟨_, rfl⟩, HA3.out, HO3.out⟩
theorem zeroC_eq : (#[wd 0, wd 0, wd 0, wd 0, wd 0, wd 0, wd 0, wd 0, wd 0, wd 0, wd 0, wd 0, wd 0, wd 0, wd 0, wd 0] : Array Value) = wsC zeroL := rfl
end Go.Proofs.YtnfefkcfifnjnaaDoor
