/- Contract of end. -/
import Derived.Test.YtnfefkcfifnjnaaDoorMG
namespace Go.Proofs.YtnfefkcfifnjnaaDoor
open Go.RowKit Go.ChangeShapes
theorem range_lm {w : World} {g : Nat} {t : TypeId} {l f : List Nat} (h : Lar w g t (l ++ f)) : w.rangeAt g 0 (l.map ld) := fun j v hv => by
  have hj : j < l.length := by
    have := (List.getElem?_eq_some_iff.1 hv).1
    simpa using this
  rw [Nat.zero_add, h.get (by simp; omega), ← hv]
  simp [hj]
set_option maxRecDepth 100000 in
set_option maxHeartbeats 4000000 in
theorem end_any (g a r : Nat) (s : List UInt8) (w : World) (hs : s.length ≤ 16) (ha : a < two130) (hA : Lar w g 113 (lm a ++ lm r)) :
    Calls Tryd.prog 75 #[.pointer (some ⟨g, 0, none⟩), .string (bs s)] w fun e w' => e = .returned (.string (bs (octV (a + num s) 16))) ∧ Only g w w' := by
  have hx0 := num_16 s hs
  have h1 : ∀ w, Calls Tryd.prog 93 #[.string (bs s)] w fun e w' => e = .returned (nv (num s)) ∧ Below w.heap.size w w' := fun w => numberOf_any s w (by omega)
  obtain ⟨x, hx⟩ : ∃ x, num s = x := ⟨_, rfl⟩
  obtain ⟨S, hS⟩ : ∃ S, bs s = S := ⟨_, rfl⟩
  rw [hx] at h1 hx0 ⊢
  rw [hS] at h1 ⊢
  have hx1 : x < two130 := by unfold two130; omega
  clear hx hS hs
  have f1 : (adK (lm a) (lm x) 5).length = 5 := by rw [adK_length, lm_length]
  have f2 : val (adK (lm a) (lm x) 5) = a + x := by
    rw [adK_val _ _ _ (by rw [lm_length]; decide), val_lm a ha, List.take_of_length_le (by rw [lm_length]; decide), val_lm x hx1]
  have f3 : ∀ y ∈ adK (lm a) (lm x) 5, y ≤ 4611686018427387904 := fun y hy => by
    have := adK_le (lm a) (lm x) 5 67108864 67108864 (fun y hy => by have := lm_lt a y hy; omega) (fun y hy => by have := lm_lt x y hy; omega) y hy
    omega
  have h2 : ∀ w, Lar w g 113 (lm a ++ lm r) → Calls Tryd.prog 95 #[.pointer (some ⟨g, 0, none⟩), nv x] w fun e w' => (∃ v, e = .returned v) ∧ Lar w' g 113 (adK (lm a) (lm x) 5 ++ lm r) ∧ Only g w w' := fun w h =>
    add_any g 113 (lm a) (lm r) (lm x) w (lm_length _) (lm_length _) (limb32 _) (limb32 _) h
  have h3 : ∀ w, Lar w g 113 (adK (lm a) (lm x) 5 ++ lm r) → Calls Tryd.prog 97 #[.pointer (some ⟨g, 0, none⟩)] w fun e w' => e = .returned (.int .u64 (((a + x) / two130 : Nat) : Int)) ∧ Lar w' g 113 (lm (a + x) ++ lm r) ∧ Only g w w' := fun w h => by
    have h := settle_any g 113 _ (lm r) w f1 f3 h
    rw [f2] at h
    exact h
  obtain ⟨z, hz⟩ : ∃ z, a + x = z := ⟨_, rfl⟩
  rw [hz] at h3 ⊢
  have hgw := hA.lt
  have HA := Lib.hid hA
  have H1 := Lib.hid h1
  have H2 := Lib.hid h2
  have H3 := Lib.hid h3
  clear hA h1 h2 h3 f1 f2 f3 hz hx0 hx1
  go_enter Tryd.func75, Tryd.ntmps75
  go_wp2_with (first
    | (go_at_call 93; (with_reducible refine (H1.out _).mono ?_); rintro e w1 ⟨rfl, hb1⟩; have HA1 := Lib.hid (HA.out.below hb1 hgw); have HO1 := Lib.hid (Only.of_below (g := g) hb1); clear hb1)
    | (go_at_call 95; (with_reducible refine (H2.out _ HA1.out).mono ?_); rintro e w2 ⟨⟨v, rfl⟩, hA2, hO2⟩; have HA2 := Lib.hid hA2; have HO2 := Lib.hid (HO1.out.trans hO2); clear hA2 hO2)
    | (go_at_call 97; (with_reducible refine (H3.out _ HA2.out).mono ?_); rintro e w3 ⟨rfl, hA3, hO3⟩; have HA3 := Lib.hid hA3; have HO3 := Lib.hid (HO2.out.trans hO3); have HRG := Lib.hid (range_lm hA3); clear hA3 hO3)
    | (refine wpList_load_mid rfl 110 _ rfl g 0 rfl ((lm z).map ld) _ HRG.out Tryd.underlying110 rfl (by rw [size110, List.length_map, lm_length]) ?_)
    | (go_at_call 98; (refine (low_any z _).mono ?_); rintro e w4 ⟨rfl, hb4⟩; have HO4 := Lib.hid (HO3.out.trans (Only.of_below hb4)); clear hb4))
  go_ret
  exact ⟨rfl, HO4.out⟩
end Go.Proofs.YtnfefkcfifnjnaaDoor
