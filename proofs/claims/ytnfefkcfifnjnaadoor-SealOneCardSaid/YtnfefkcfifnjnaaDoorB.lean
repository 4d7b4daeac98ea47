/- Contracts of adding the first words, of filling words with octets, of writing words as octets. -/
import Derived.Test.YtnfefkcfifnjnaaDoorR
import Derived.StillTailTactics
namespace Go.Proofs.YtnfefkcfifnjnaaDoor
open Go.RowKit Go.ChangeShapes

/-- Of old memory only block g has changed. -/
def Only (g : Nat) (w w' : World) : Prop := w.grownBy w' (some g)
theorem Only.refl (g : Nat) (w : World) : Only g w w := ⟨rfl, rfl, rfl, Nat.le_refl _, fun _ _ _ => rfl⟩
theorem Only.trans {g : Nat} {a b c : World} (h : Only g a b) (k : Only g b c) : Only g a c :=
  ⟨k.os.trans h.os, k.tape.trans h.tape, k.output.trans h.output, Nat.le_trans h.size k.size, fun j hj hn => (k.block j (Nat.lt_of_lt_of_le hj h.size) hn).trans (h.block j hj hn)⟩
theorem Only.drew {g : Nat} {a b : World} (h : Only g a b) : Only g a b.drew := h.trans ⟨rfl, rfl, rfl, Nat.le_refl _, fun _ _ _ => rfl⟩
theorem Only.set {g : Nat} {a b : World} (h : Only g a b) (i : Nat) (v : Value) : Only g a (b.setCell ⟨g, i, none⟩ v) :=
  h.trans ⟨rfl, rfl, rfl, by simp, fun k _ hk => heap_setCell_other b ⟨g, i, none⟩ k v (fun e => hk (by rw [e]))⟩
theorem Only.alloc {g : Nat} {a b : World} (h : Only g a b) (o : Obj) : Only g a (b.alloc o) := h.trans (World.grownBy_alloc _ _ _)
theorem Only.of_below {g : Nat} {a b : World} (h : Below a.heap.size a b) : Only g a b := ⟨h.os, h.tape, h.output, h.size, fun k hk _ => h.block k hk⟩
theorem Only.arr {g k : Nat} {a b : World} (h : Only g a b) {t : TypeId} {l : List Nat} (hA : Arr a k t l) (hk : k ≠ g) : Arr b k t l := (h.block k hA.lt (fun e => hk (by injection e))).trans hA
theorem Only.below {B : Nat} {w a b : World} {g : Nat} (h : Only g a b) (hB : Below B w a) (hBa : B ≤ a.heap.size) (hg : B ≤ g) : Below B w b :=
  hB.grown h hBa (fun k e => by injection e with e; omega)
theorem getD_app_l {l f : List Nat} {i : Nat} (h : i < l.length) : (l ++ f).getD i 0 = l.getD i 0 := by
  rw [List.getD_eq_getElem?_getD, List.getElem?_append_left h, List.getD_eq_getElem?_getD]
theorem set_app_l {l f : List Nat} {i : Nat} (h : i < l.length) (x : Nat) : (l ++ f).set i x = l.set i x ++ f := List.set_append_left _ _ h
set_option maxRecDepth 100000 in
set_option maxHeartbeats 2000000 in
theorem addFirst_any (g : Nat) (l f : List Nat) (w : World) (hl : l.length = 16) (hf : f.length = 16) (hA : Arr w g 119 (l ++ f)) :
    Calls Tryd.prog 82 #[.pointer (some ⟨g, 0, none⟩)] w fun e w' => (∃ v, e = .returned v) ∧ Arr w' g 119 (addN f 16 l ++ f) ∧ Only g w w' := by
  have hrg : w.rangeAt g 16 (f.map wd) := fun j v hv => by
    have hj : j < f.length := by
      have := (List.getElem?_eq_some_iff.1 hv).1
      simpa using this
    rw [hA.get (by simp; omega), ← hv]
    simp [hl, hj]
  have hix : ∀ (k : Nat) (w' : World), k < 16 → (Instr.index 84 (.agg (f.map wd).toArray) (.int .i64 (k : Int))).run Tryd.prog w' = .ok (wd (f.getD k 0)) w' := fun k w' hk =>
    run_index_ws w' 84 57 16 f .i64 k Tryd.underlying84 hf hk (size22 w') (agg22 w')
  have HRG := Lib.hid hrg
  have HIX := Lib.hid hix
  have HA := Lib.hid hA
  have HL := Lib.hid hl
  have HF := Lib.hid hf
  clear hrg hix hA hl hf
  go_enter Tryd.func82, Tryd.ntmps82
  go_wp2_with (refine wpList_load_mid rfl 84 _ rfl g 16 rfl (f.map wd) _ HRG.out Tryd.underlying84 rfl (by rw [size53, List.length_map, HF.out]) ?_)
  go_loopw [8] (fun i wr => ∃ k : Nat, k ≤ 16 ∧ i = .int .i64 k ∧ Hid (Arr wr g 119 (addN f k l ++ f)) ∧ Hid (Only g w wr)) (fun i _ => 16 - (intOf i).toNat)
  case atStart => exact ⟨0, by omega, rfl, HA, Lib.hid (Only.refl _ _)⟩
  case round =>
    clear HA HRG
    obtain ⟨k, hk, rfl, HA, HO⟩ := hrel
    by_cases hlt : k < 16
    · have hlen : (addN f k l).length = 16 := by rw [addN_length, HL.out]
      have hix := HIX.out k
      have h1 := hix wr hlt
      have cx := HA.out.getD (i := k) (by simp [hlen]; omega)
      have cf := HA.out.free k
      rw [getD_app_l (by omega)] at cx
      have HS := Lib.hid (HA.out.drew.set k (ad ((addN f k l).getD k 0) (f.getD k 0)))
      obtain ⟨x, hx⟩ : ∃ x, (addN f k l).getD k 0 = x := ⟨_, rfl⟩
      obtain ⟨y, hy⟩ : ∃ x, f.getD k 0 = x := ⟨_, rfl⟩
      rw [hx] at cx
      rw [hy] at h1
      have a1 := u32_add x y
      have HX := Lib.hid hx
      have HY := Lib.hid hy
      have HN := Lib.hid hlen
      clear hx hy hix hlen HIX
      go_wp2
      refine wp_region_still_tail 10 (by kernel_rfl) (by kernel_rfl) ?_
      change wpStill _ _ (World.drew wr) (fun a' => wpList _ _ _ _ a' (World.drew wr)) _ _
      simp only [List.take_succ_cons, List.take_zero, List.drop_succ_cons, List.drop_zero]
      repeat still_step
      refine wpStill_nil ?_
      go_wp2
      go_roundw
      case rel =>
        refine ⟨k + 1, by omega, by go_num, Lib.hid ?_, Lib.hid (HO.out.drew.set _ _)⟩
        rw [addN, ← set_app_l (by rw [HN.out]; omega)]
        rw [← HX.out, ← HY.out]
        exact HS.out
      case measure => simp [intOf]; omega
    · obtain rfl : k = 16 := by omega
      go_wp2
      go_end0
      exact ⟨⟨_, rfl⟩, HA.out, HO.out⟩
end Go.Proofs.YtnfefkcfifnjnaaDoor
