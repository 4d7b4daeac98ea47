/- What the reference's constants carry while they are made. Contract of the reference's constants. -/
import Derived.Test.YtfdeegafdaobdaaDoorW3
import Derived.Test.YtfdeegafdaobdaaDoorW4
import Derived.Deep.AppendLies
namespace Go.Proofs.YtfdeegafdaobdaaDoor
open Go.RowKit Go.ChangeShapes

theorem grown_cell (w : World) (a : Addr) (u : Value) : w.grownBy (w.setCell a u) (some a.block) :=
  ⟨rfl, rfl, rfl, by simp, fun k _ hk => heap_setCell_other w a k u (fun e => hk (by rw [e]))⟩
theorem grown_drew {W V : World} {row : Option Nat} (h : W.drew.grownBy V row) : W.grownBy V row := ⟨h.os, h.tape, h.output, h.size, h.block⟩
/-- Two values own different blocks. -/
def Apart (u v : Value) : Prop := ∀ b, u.ownBlock = some b → v.ownBlock ≠ some b
theorem Apart.symm {u v : Value} (h : Apart u v) : Apart v u := fun b hv hu => h b hu hv
theorem Apart.row {u v : Value} (h : Apart u v) : u.ownBlock = none ∨ u.ownBlock ≠ v.ownBlock := by
  cases hu : u.ownBlock with
  | none => exact .inl rfl
  | some b => exact .inr fun e => h b hu e.symm
theorem apart_nil (v : Value) : Apart (.slice none 0 0) v := fun _ h => by cases h
theorem own_below {W V : World} {B B' e size n : Nat} {v : Value} {xs : List Value} (h : W.ownsRow B e size v n xs) (hb : Below B' W V) (hB : W.heap.size ≤ B') : V.ownsRow B e size v n xs := by
  refine ⟨h.1, h.2.elim .inl fun ⟨g, cap, cur, h1, h2, h3, h4⟩ => .inr ⟨g, cap, cur, h1, h2, (hb.block g ?_).trans h3, h4⟩⟩
  have := (Array.getElem?_eq_some_iff.1 h3).1
  omega
theorem own_kept {W V : World} {B e size n : Nat} {v : Value} {xs : List Value} {r : Nat} (h : W.ownsRow B e size v n xs) (hg : W.grownBy V (some r)) (hr : r < B) : V.ownsRow B e size v n xs := by
  refine h.kept hg ?_
  cases hv : v.ownBlock with
  | none => exact .inl rfl
  | some b => exact .inr fun e => by have := (h.lt b hv).1; injection e with e; omega
theorem cell_al {W : World} {a : Addr} {v : Value} (h : W.cell? a = some v) (o : Obj) : (W.alloc o).cell? a = some v :=
  (World.cell?_alloc_lt _ _ _ (World.block_lt_of_cell? W a h)).trans h
structure Cs (w W : World) (pb cp n k : Nat) (sv kv : Value) : Prop where
  b : Below w.heap.size w W
  z : W.heap[w.heap.size]? = some (.cells #[.slice none 0 0, .slice none 0 0] 27 (0, 0))
  t : W.heap[w.heap.size + 1]? = some (.cells #[sv, kv] 27 (0, 0))
  p : W.ownsRow (w.heap.size + 2) 3 1 (.slice (some ⟨pb, 0, none⟩) 64 cp) 64 (intC (PL 64))
  s : W.ownsRow (w.heap.size + 2) 3 1 sv n (intC (IL.take n))
  q : W.ownsRow (w.heap.size + 2) 3 1 kv k (intC (KL.take k))
  d : Apart sv kv ∧ sv.ownBlock ≠ some pb ∧ kv.ownBlock ≠ some pb
theorem KL_take (k : Nat) (h : k < 64) : intC (KL.take k) ++ [.int .i64 ((KL.getD k 0 : Nat) : Int)] = intC (KL.take (k + 1)) := by
  rw [list_take8 KL k (by rw [KL_length]; exact h), intC_snoc]
theorem IL_take (k : Nat) (h : k < 8) : intC (IL.take k) ++ [.int .i64 ((IL.getD k 0 : Nat) : Int)] = intC (IL.take (k + 1)) := by
  rw [list_take8 IL k (by rw [IL_length]; exact h), intC_snoc]
theorem Cs.putK {w W W3 : World} {pb cp n k g cap : Nat} {sv kv : Value} (C : Cs w W pb cp n k sv kv) (hk : k < 64) (o : Obj)
    (h : W3.ownsRow (w.heap.size + 2) 3 1 (.slice (some ⟨g, 0, none⟩) (k + 1) cap) (k + 1) (intC (KL.take k) ++ [.int .i64 ((KL.getD k 0 : Nat) : Int)]))
    (hg : (W.alloc o).grownBy W3 kv.ownBlock) (hc : kv.ownBlock = some g ∨ g = W.heap.size + 1) :
    Cs w (W3.setCell ⟨w.heap.size + 1, 1, none⟩ (.slice (some ⟨g, 0, none⟩) (k + 1) cap)) pb cp n (k + 1) sv (.slice (some ⟨g, 0, none⟩) (k + 1) cap) := by
  have G : W.grownBy W3 kv.ownBlock := (World.grownBy_alloc W o _).trans hg
  have G2 : W3.grownBy (W3.setCell ⟨w.heap.size + 1, 1, none⟩ (.slice (some ⟨g, 0, none⟩) (k + 1) cap)) (some (w.heap.size + 1)) := grown_cell W3 _ _
  have hkv : ∀ b, kv.ownBlock = some b → w.heap.size + 2 ≤ b := fun b hb => (C.q.lt b hb).1
  have ht := (Array.getElem?_eq_some_iff.1 C.t).1
  have ht3 : W3.heap[w.heap.size + 1]? = some (.cells #[sv, kv] 27 (0, 0)) := (G.block _ ht (fun e => by have := hkv _ e.symm; omega)).trans C.t
  have hpg : g ≠ pb := by
    rcases hc with hc | hc
    · intro e; exact C.d.2.2 (by rw [hc, e])
    · have := (C.p.lt pb rfl).2; omega
  have hsg : sv.ownBlock ≠ some g := by
    rcases hc with hc | hc
    · exact fun e => C.d.1 g e hc
    · intro e; have := (C.s.lt g e).2; omega
  refine ⟨?_, ?_, ?_, ?_, ?_, ?_, ?_⟩
  · exact (C.b.grown G C.b.size (fun b hb => by have := hkv b hb; omega)).setCell (by simp) _
  · exact (G2.block _ (by have := G.size; omega) (by simp)).trans ((G.block _ (by omega) (fun e => by have := hkv _ e.symm; omega)).trans C.z)
  · exact heap_setCell_same W3 (w.heap.size + 1) 1 _ 27 _ ht3
  · exact own_kept (C.p.kept G (.inr fun e => C.d.2.2 e.symm)) G2 (by omega)
  · exact own_kept (C.s.kept G C.d.1.row) G2 (by omega)
  · rw [KL_take k hk] at h
    exact own_kept h G2 (by omega)
  · exact ⟨fun b hb hb2 => hsg (by injection hb2 with e; rw [hb, ← e]), C.d.2.1, fun e => hpg (by injection e)⟩
theorem Cs.putS {w W W3 : World} {pb cp n k g cap : Nat} {sv kv : Value} (C : Cs w W pb cp n k sv kv) (hn : n < 8) (o : Obj)
    (h : W3.ownsRow (w.heap.size + 2) 3 1 (.slice (some ⟨g, 0, none⟩) (n + 1) cap) (n + 1) (intC (IL.take n) ++ [.int .i64 ((IL.getD n 0 : Nat) : Int)]))
    (hg : (W.alloc o).grownBy W3 sv.ownBlock) (hc : sv.ownBlock = some g ∨ g = W.heap.size + 1) :
    Cs w (W3.setCell ⟨w.heap.size + 1, 0, none⟩ (.slice (some ⟨g, 0, none⟩) (n + 1) cap)) pb cp (n + 1) k (.slice (some ⟨g, 0, none⟩) (n + 1) cap) kv := by
  have G : W.grownBy W3 sv.ownBlock := (World.grownBy_alloc W o _).trans hg
  have G2 : W3.grownBy (W3.setCell ⟨w.heap.size + 1, 0, none⟩ (.slice (some ⟨g, 0, none⟩) (n + 1) cap)) (some (w.heap.size + 1)) := grown_cell W3 _ _
  have hsv : ∀ b, sv.ownBlock = some b → w.heap.size + 2 ≤ b := fun b hb => (C.s.lt b hb).1
  have ht := (Array.getElem?_eq_some_iff.1 C.t).1
  have ht3 : W3.heap[w.heap.size + 1]? = some (.cells #[sv, kv] 27 (0, 0)) := (G.block _ ht (fun e => by have := hsv _ e.symm; omega)).trans C.t
  have hpg : g ≠ pb := by
    rcases hc with hc | hc
    · intro e; exact C.d.2.1 (by rw [hc, e])
    · have := (C.p.lt pb rfl).2; omega
  have hkg : kv.ownBlock ≠ some g := by
    rcases hc with hc | hc
    · exact C.d.1 g hc
    · intro e; have := (C.q.lt g e).2; omega
  refine ⟨?_, ?_, ?_, ?_, ?_, ?_, ?_⟩
  · exact (C.b.grown G C.b.size (fun b hb => by have := hsv b hb; omega)).setCell (by simp) _
  · exact (G2.block _ (by have := G.size; omega) (by simp)).trans ((G.block _ (by omega) (fun e => by have := hsv _ e.symm; omega)).trans C.z)
  · exact heap_setCell_same W3 (w.heap.size + 1) 0 _ 27 _ ht3
  · exact own_kept (C.p.kept G (.inr fun e => C.d.2.1 e.symm)) G2 (by omega)
  · rw [IL_take n hn] at h
    exact own_kept h G2 (by omega)
  · exact own_kept (C.q.kept G C.d.1.symm.row) G2 (by omega)
  · exact ⟨fun b hb hb2 => hkg (by rw [hb2, ← hb]; rfl), fun e => hpg (by injection e), C.d.2.2⟩
/-- The constants, in new memory. -/
def Got2 (w : World) (e : Ending) (w' : World) : Prop := ∃ sv kv, e = .returned (.agg #[sv, kv]) ∧ w'.ownsRow w.heap.size 3 1 sv 8 (intC IL) ∧ w'.ownsRow w.heap.size 3 1 kv 64 (intC KL) ∧ Below w.heap.size w w'
theorem Cs.end {w W : World} {pb cp : Nat} {sv kv : Value} (C : Cs w W pb cp 8 64 sv kv) : Got2 w (.returned (.agg #[sv, kv])) ((W.setCell ⟨w.heap.size, 0, none⟩ sv).setCell ⟨w.heap.size, 1, none⟩ kv) := by
  refine ⟨sv, kv, rfl, ?_, ?_, (C.b.setCell (by simp) _).setCell (by simp) _⟩
  · exact Joins.ownsRow_le (own_kept (own_kept C.s (grown_cell _ _ _) (by simp)) (grown_cell _ _ _) (by simp)) (by omega)
  · exact Joins.ownsRow_le (own_kept (own_kept C.q (grown_cell _ _ _) (by simp)) (grown_cell _ _ _) (by simp)) (by omega)
end Go.Proofs.YtfdeegafdaobdaaDoor

namespace Go.Proofs.YtfdeegafdaobdaaDoor
open Go.RowKit Go.ChangeShapes
theorem heap_al {W : World} {g : Nat} {x : Obj} (h : W.heap[g]? = some x) (o : Obj) : (W.alloc o).heap[g]? = some x := (Below.heap_alloc W o g (Array.getElem?_eq_some_iff.1 h).1).trans h
set_option maxRecDepth 100000 in
set_option maxHeartbeats 4000000 in
theorem rconstants (w : World) : Calls Tryd.prog 12 #[] w (Got2 w) := by
  obtain ⟨i0, hi, hz0, hz1, hz2⟩ := info_parts info3
  go_enter Tryd.func12, Tryd.ntmps12
  go_wp2_with (go_at_call 34; (with_reducible refine (rprimes _).mono ?_); rintro e w2 ⟨pv, rfl, hpr, hb⟩)
  obtain ⟨pb, cp, rfl⟩ := Joins.ownsRow_form hpr (by decide)
  have C0 : Cs w w2 pb cp 0 0 (.slice none 0 0) (.slice none 0 0) := by
    have h0 := heap_al (heap_alloc_new w (.cells #[.slice none 0 0, .slice none 0 0] 27)) (.cells #[.slice none 0 0, .slice none 0 0] 27)
    have h1 := heap_alloc_new (w.alloc (.cells #[.slice none 0 0, .slice none 0 0] 27)) (.cells #[.slice none 0 0, .slice none 0 0] 27)
    simp only [World.size_alloc] at h1 hpr hb
    exact ⟨(((Below.refl _ w).alloc (Nat.le_refl _) _).alloc (by simp) _).trans (hb.mono (by omega)), (hb.block _ (by omega)).trans h0, (hb.block _ (by omega)).trans h1, hpr, World.ownsRow_nil _ _ _ _, World.ownsRow_nil _ _ _ _, ⟨apart_nil _, by simp [Value.ownBlock], by simp [Value.ownBlock]⟩⟩
  have HC0 := Lib.hid C0
  clear C0 hpr hb
  go_loopw [3] (fun i wr => ∃ k : Nat, ∃ sv kv : Value, k ≤ 64 ∧ i = .int .i64 (k : Int) ∧ Hid (Cs w wr pb cp (min k 8) k sv kv)) (fun i _ => 64 - (intOf i).toNat)
  case atStart => exact ⟨0, _, _, by omega, rfl, HC0⟩
  case round =>
    clear HC0
    obtain ⟨k, sv, kv, hk, rfl, HC⟩ := hrel
    have C := HC.out
    clear HC
    by_cases hlt : k < 64
    · obtain ⟨p, hp⟩ : ∃ p, pr (k + 1) = p := ⟨_, rfl⟩
      obtain ⟨xK, hxK⟩ : ∃ x, KL.getD k 0 = x := ⟨_, rfl⟩
      have hRK := rroot_K k hlt
      rw [hp, hxK] at hRK
      have HRK := Lib.hid hRK
      have HXK := Lib.hid hxK
      have k64 : (k : Int) < 64 := by omega
      clear hRK hxK
      have HP := Lib.hid hp
      clear hp
      have tK := cell_of_row wr (w.heap.size + 1) 1 _ 27 (0, 0) C.t
      have pK : wr.cell? ⟨pb, k, none⟩ = some (.int .i64 (p : Int)) := by rw [C.p.cellAt k (by omega), intC_get _ _ (by rw [PL_len 64 (by omega)]; omega), PL_get 64 k (by omega), HP.out]
      have SK : (fun w' : World => w'.cell? ⟨w.heap.size + 1, 1, none⟩ = some kv ∧ w'.cell? ⟨pb, k, none⟩ = some (.int .i64 (p : Int))) wr.drew := ⟨tK, pK⟩
      have zK := C.b.size
      have ztK := (Array.getElem?_eq_some_iff.1 C.t).1
      have ownK := C.q
      have HCK := Lib.hid C
      have HOK := Lib.hid ownK
      have HSK := Lib.hid SK
      clear C tK pK ownK SK
      go_wp2_with fail
      refine region_anyB (fun w' : World => w'.cell? ⟨w.heap.size + 1, 1, none⟩ = some kv ∧ w'.cell? ⟨pb, k, none⟩ = some (.int .i64 (p : Int))) [9, 10] (by kernel_rfl) ?_
      refine anyB_take (i := 0) (v := _) rfl (by kernel_rfl) (by kernel_rfl) (by kernel_rfl) (by kernel_rfl) (fun _ _ _ h => h) (Or.inl ⟨by rfl, fun w' hw' => (by clear hw'; go_simp; try with_reducible rfl)⟩) HSK.out ?_
      try simp only [Act.put, List.setIfInBounds_toArray]
      refine anyB_take (i := 1) (v := _) rfl (by kernel_rfl) (by kernel_rfl) (by kernel_rfl) (by kernel_rfl) (fun _ _ _ h => h) (Or.inl ⟨by rfl, fun w' hw' => (by obtain ⟨h1, h2⟩ := hw'; go_simp; try with_reducible rfl)⟩) HSK.out ?_
      try simp only [Act.put]
      refine anyB_take (i := 2) (v := _) rfl (by kernel_rfl) (by kernel_rfl) (by kernel_rfl) (by kernel_rfl) (fun _ _ _ h => h) (Or.inl ⟨by rfl, fun w' hw' => (by clear hw'; go_simp; try with_reducible rfl)⟩) HSK.out ?_
      try simp only [Act.put]
      refine anyB_take (i := 3) (v := _) rfl (by kernel_rfl) (by kernel_rfl) (by kernel_rfl) (by kernel_rfl) (fun _ _ _ h => h) (Or.inl ⟨by rfl, fun w' hw' => (by clear hw'; go_simp; try with_reducible rfl)⟩) HSK.out ?_
      try simp only [Act.put]
      refine anyB_take (i := 4) (v := _) rfl (by kernel_rfl) (by kernel_rfl) (by kernel_rfl) (by kernel_rfl) (fun _ _ _ h => h) (Or.inl ⟨by rfl, fun w' hw' => (by clear hw'; go_simp; try with_reducible rfl)⟩) HSK.out ?_
      try simp only [Act.put]
      refine anyB_take (i := 5) (v := _) rfl (by kernel_rfl) (by kernel_rfl) (by kernel_rfl) (by kernel_rfl) (fun _ _ _ h => h) (Or.inl ⟨by rfl, fun w' hw' => (by obtain ⟨h1, h2⟩ := hw'; go_simp; try with_reducible rfl)⟩) HSK.out ?_
      try simp only [Act.put]
      refine anyB_keep (i := 6) (by kernel_rfl) rfl (fun K hK => ?_)
      rw [if_pos (by rfl)]
      go_wp2_with (go_at_call 35; (with_reducible refine (HRK.out _).mono ?_); rintro e w' ⟨rfl, rfl⟩)
      refine hK.out _ _ HSK.out ?_
      clear hK K
      try simp only [Act.put, List.setIfInBounds_toArray, List.set_cons_zero, List.set_cons_succ]
      refine anyB_keep (i := 7) (by kernel_rfl) rfl (fun K hK => ?_)
      rw [if_pos (by rfl)]
      go_simp
      refine hK.out _ _ ⟨cell_al HSK.out.1 _, cell_al HSK.out.2 _⟩ ?_
      clear hK K
      try simp only [Act.put, List.setIfInBounds_toArray, List.set_cons_zero, List.set_cons_succ]
      refine anyB_keep (i := 8) (by kernel_rfl) rfl (fun K hK => ?_)
      rw [if_pos (by rfl)]
      refine wp_append_lies _ _ _ 25 rfl (w.heap.size + 2) 3 i0 (.int .i64 0) 1 8 Tryd.underlying25 hi hz0 hz1 hz2 rfl (by decide) kv k _ rfl (HOK.out.alloc _) ⟨wr.heap.size, 0, none⟩ 1 1 [.int .i64 (xK : Int)] rfl rfl (World.news_of_block (cs := #[.int .i64 (xK : Int)]) (t := 3) (fr := (0, 0)) (heap_alloc_new wr _)) (by simp [Value.oneCell']) (by decide) (by unfold maxLen; omega) (by omega) (by simp; omega) (wr.heap.size + 1) (by simp) ?_
      intro gK capK VK hnK hgK hcK hlK
      refine hK.out _ _ ⟨(World.grownBy.cell_far hgK _ (by simp; omega) (fun e => absurd (show w.heap.size + 2 ≤ w.heap.size + 1 from (HOK.out.lt _ e.symm).1) (by omega))).trans (cell_al HSK.out.1 _), (World.grownBy.cell_far hgK _ (by have := (HCK.out.p.lt pb rfl).2; simp; omega) (fun e => HCK.out.d.2.2 e.symm)).trans (cell_al HSK.out.2 _)⟩ ?_
      clear hK K
      try simp only [Act.put, List.setIfInBounds_toArray]
      refine anyB_takeW (i := 9) (v := _) rfl (by kernel_rfl) (by kernel_rfl) (by kernel_rfl) (by kernel_rfl) (fun _ _ _ h => h) (Or.inl ⟨by rfl, fun w' hw' => (by clear hw'; go_simp; try with_reducible rfl)⟩) ?_
      try simp only [Act.put]
      have tfK : VK.frozen? ⟨w.heap.size + 1, 1, none⟩ = false := (World.grownBy.frozen_far hgK _ (by simp; omega) (fun e => absurd (show w.heap.size + 2 ≤ w.heap.size + 1 from (HOK.out.lt _ e.symm).1) (by omega))).trans (frozen_of_row _ _ _ _ 27 (heap_al HCK.out.t _))
      have tcK : VK.cell? ⟨w.heap.size + 1, 1, none⟩ = some kv := (World.grownBy.cell_far hgK _ (by simp; omega) (fun e => absurd (show w.heap.size + 2 ≤ w.heap.size + 1 from (HOK.out.lt _ e.symm).1) (by omega))).trans (cell_al HSK.out.1 _)
      refine anyB_last (i := 10) (by kernel_rfl) rfl (by kernel_rfl) (fun K hK => ?_)
      rw [if_pos (by rfl)]
      go_simp
      refine hK.out _ _ ?_
      clear hK K
      try simp only [Act.put, List.setIfInBounds_toArray, List.set_cons_zero, List.set_cons_succ]
      refine anyB_done (by kernel_rfl) ?_ _
      rw [← HXK.out] at hnK
      have C2 := HCK.out.putK hlt _ hnK (grown_drew ⟨hgK.os, hgK.tape, hgK.output, hgK.size, hgK.block⟩) hcK
      have HC2 := Lib.hid C2
      clear C2 hnK hgK hcK hlK tfK tcK zK ztK HCK HOK HSK HRK
      generalize VK.setCell ⟨w.heap.size + 1, 1, none⟩ (Value.slice (some { block := gK, off := 0 }) (k + 1) capK) = w5 at HC2 ⊢
      by_cases h8 : k < 8
      · have C2 := HC2.out
        clear HC2
        rw [show min k 8 = k by omega] at C2
        obtain ⟨xS, hxS⟩ : ∃ x, IL.getD k 0 = x := ⟨_, rfl⟩
        have hRS := rroot_I k h8
        rw [HP.out, hxS] at hRS
        have HRS := Lib.hid hRS
        have HXS := Lib.hid hxS
        have k8 : (k : Int) < 8 := by omega
        clear hRS hxS
        have tS := cell_of_row w5 (w.heap.size + 1) 0 _ 27 (0, 0) C2.t
        have pS : w5.cell? ⟨pb, k, none⟩ = some (.int .i64 (p : Int)) := by rw [C2.p.cellAt k (by omega), intC_get _ _ (by rw [PL_len 64 (by omega)]; omega), PL_get 64 k (by omega), HP.out]
        have SS : (fun w' : World => w'.cell? ⟨w.heap.size + 1, 0, none⟩ = some sv ∧ w'.cell? ⟨pb, k, none⟩ = some (.int .i64 (p : Int))) w5.drew := ⟨tS, pS⟩
        have zS := C2.b.size
        have ztS := (Array.getElem?_eq_some_iff.1 C2.t).1
        have ownS := C2.s
        have HCS := Lib.hid C2
        have HOS := Lib.hid ownS
        have HSS := Lib.hid SS
        clear C2 tS pS ownS SS
        go_wp2_with fail
        refine region_anyB (fun w' : World => w'.cell? ⟨w.heap.size + 1, 0, none⟩ = some sv ∧ w'.cell? ⟨pb, k, none⟩ = some (.int .i64 (p : Int))) [9, 10] (by kernel_rfl) ?_
        refine anyB_take (i := 0) (v := _) rfl (by kernel_rfl) (by kernel_rfl) (by kernel_rfl) (by kernel_rfl) (fun _ _ _ h => h) (Or.inl ⟨by rfl, fun w' hw' => (by clear hw'; go_simp; try with_reducible rfl)⟩) HSS.out ?_
        try simp only [Act.put, List.setIfInBounds_toArray]
        refine anyB_take (i := 1) (v := _) rfl (by kernel_rfl) (by kernel_rfl) (by kernel_rfl) (by kernel_rfl) (fun _ _ _ h => h) (Or.inl ⟨by rfl, fun w' hw' => (by obtain ⟨h1, h2⟩ := hw'; go_simp; try with_reducible rfl)⟩) HSS.out ?_
        try simp only [Act.put]
        refine anyB_take (i := 2) (v := _) rfl (by kernel_rfl) (by kernel_rfl) (by kernel_rfl) (by kernel_rfl) (fun _ _ _ h => h) (Or.inl ⟨by rfl, fun w' hw' => (by clear hw'; go_simp; try with_reducible rfl)⟩) HSS.out ?_
        try simp only [Act.put]
        refine anyB_take (i := 3) (v := _) rfl (by kernel_rfl) (by kernel_rfl) (by kernel_rfl) (by kernel_rfl) (fun _ _ _ h => h) (Or.inl ⟨by rfl, fun w' hw' => (by clear hw'; go_simp; try with_reducible rfl)⟩) HSS.out ?_
        try simp only [Act.put]
        refine anyB_take (i := 4) (v := _) rfl (by kernel_rfl) (by kernel_rfl) (by kernel_rfl) (by kernel_rfl) (fun _ _ _ h => h) (Or.inl ⟨by rfl, fun w' hw' => (by clear hw'; go_simp; try with_reducible rfl)⟩) HSS.out ?_
        try simp only [Act.put]
        refine anyB_take (i := 5) (v := _) rfl (by kernel_rfl) (by kernel_rfl) (by kernel_rfl) (by kernel_rfl) (fun _ _ _ h => h) (Or.inl ⟨by rfl, fun w' hw' => (by obtain ⟨h1, h2⟩ := hw'; go_simp; try with_reducible rfl)⟩) HSS.out ?_
        try simp only [Act.put]
        refine anyB_keep (i := 6) (by kernel_rfl) rfl (fun K hK => ?_)
        rw [if_pos (by rfl)]
        go_wp2_with (go_at_call 35; (with_reducible refine (HRS.out _).mono ?_); rintro e w' ⟨rfl, rfl⟩)
        refine hK.out _ _ HSS.out ?_
        clear hK K
        try simp only [Act.put, List.setIfInBounds_toArray, List.set_cons_zero, List.set_cons_succ]
        refine anyB_keep (i := 7) (by kernel_rfl) rfl (fun K hK => ?_)
        rw [if_pos (by rfl)]
        go_simp
        refine hK.out _ _ ⟨cell_al HSS.out.1 _, cell_al HSS.out.2 _⟩ ?_
        clear hK K
        try simp only [Act.put, List.setIfInBounds_toArray, List.set_cons_zero, List.set_cons_succ]
        refine anyB_keep (i := 8) (by kernel_rfl) rfl (fun K hK => ?_)
        rw [if_pos (by rfl)]
        refine wp_append_lies _ _ _ 25 rfl (w.heap.size + 2) 3 i0 (.int .i64 0) 1 8 Tryd.underlying25 hi hz0 hz1 hz2 rfl (by decide) sv k _ rfl (HOS.out.alloc _) ⟨w5.heap.size, 0, none⟩ 1 1 [.int .i64 (xS : Int)] rfl rfl (World.news_of_block (cs := #[.int .i64 (xS : Int)]) (t := 3) (fr := (0, 0)) (heap_alloc_new w5 _)) (by simp [Value.oneCell']) (by decide) (by unfold maxLen; omega) (by omega) (by simp; omega) (w5.heap.size + 1) (by simp) ?_
        intro gS capS VS hnS hgS hcS hlS
        refine hK.out _ _ ⟨(World.grownBy.cell_far hgS _ (by simp; omega) (fun e => absurd (show w.heap.size + 2 ≤ w.heap.size + 1 from (HOS.out.lt _ e.symm).1) (by omega))).trans (cell_al HSS.out.1 _), (World.grownBy.cell_far hgS _ (by have := (HCS.out.p.lt pb rfl).2; simp; omega) (fun e => HCS.out.d.2.1 e.symm)).trans (cell_al HSS.out.2 _)⟩ ?_
        clear hK K
        try simp only [Act.put, List.setIfInBounds_toArray]
        refine anyB_takeW (i := 9) (v := _) rfl (by kernel_rfl) (by kernel_rfl) (by kernel_rfl) (by kernel_rfl) (fun _ _ _ h => h) (Or.inl ⟨by rfl, fun w' hw' => (by clear hw'; go_simp; try with_reducible rfl)⟩) ?_
        try simp only [Act.put]
        have tfS : VS.frozen? ⟨w.heap.size + 1, 0, none⟩ = false := (World.grownBy.frozen_far hgS _ (by simp; omega) (fun e => absurd (show w.heap.size + 2 ≤ w.heap.size + 1 from (HOS.out.lt _ e.symm).1) (by omega))).trans (frozen_of_row _ _ _ _ 27 (heap_al HCS.out.t _))
        have tcS : VS.cell? ⟨w.heap.size + 1, 0, none⟩ = some sv := (World.grownBy.cell_far hgS _ (by simp; omega) (fun e => absurd (show w.heap.size + 2 ≤ w.heap.size + 1 from (HOS.out.lt _ e.symm).1) (by omega))).trans (cell_al HSS.out.1 _)
        refine anyB_last (i := 10) (by kernel_rfl) rfl (by kernel_rfl) (fun K hK => ?_)
        rw [if_pos (by rfl)]
        go_simp
        refine hK.out _ _ ?_
        clear hK K
        try simp only [Act.put, List.setIfInBounds_toArray, List.set_cons_zero, List.set_cons_succ]
        refine anyB_done (by kernel_rfl) ?_ _
        rw [← HXS.out] at hnS
        have C3 := HCS.out.putS h8 _ hnS (grown_drew ⟨hgS.os, hgS.tape, hgS.output, hgS.size, hgS.block⟩) hcS
        have HC3 := Lib.hid C3
        clear C3 hnS hgS hcS hlS tfS tcS zS ztS HCS HOS HSS HRS
        generalize VS.setCell ⟨w.heap.size + 1, 0, none⟩ (Value.slice (some { block := gS, off := 0 }) (k + 1) capS) = w6 at HC3 ⊢
        go_wp2
        go_roundw
        case rel => exact ⟨k + 1, _, _, by omega, by go_num, Lib.hid (by rw [show min (k + 1) 8 = k + 1 by omega]; exact HC3.out)⟩
        case measure => simp [intOf]; omega
      · go_wp2
        go_roundw
        case rel => exact ⟨k + 1, _, _, by omega, by go_num, Lib.hid (by rw [show min (k + 1) 8 = min k 8 by omega]; exact HC2.out)⟩
        case measure => simp [intOf]; omega
    · obtain rfl : k = 64 := by omega
      rw [show min 64 8 = 8 from rfl] at C
      obtain ⟨sb, sc, hsv⟩ := Joins.ownsRow_form C.s (by decide)
      obtain ⟨kb, kc, hkv⟩ := Joins.ownsRow_form C.q (by decide)
      subst hsv hkv
      have t0 : wr.cell? ⟨w.heap.size + 1, 0, none⟩ = some (.slice (some ⟨sb, 0, none⟩) 8 sc) := cell_of_row wr (w.heap.size + 1) 0 _ 27 (0, 0) C.t
      have t1 : wr.cell? ⟨w.heap.size + 1, 1, none⟩ = some (.slice (some ⟨kb, 0, none⟩) 64 kc) := cell_of_row wr (w.heap.size + 1) 1 _ 27 (0, 0) C.t
      have r0 : wr.cell? ⟨w.heap.size, 0, none⟩ = some (.slice none 0 0) := cell_of_row wr w.heap.size 0 _ 27 (0, 0) C.z
      have r1 : wr.cell? ⟨w.heap.size, 1, none⟩ = some (.slice none 0 0) := cell_of_row wr w.heap.size 1 _ 27 (0, 0) C.z
      have f0 := frozen_of_row wr w.heap.size 0 _ 27 C.z
      have f1 := frozen_of_row wr w.heap.size 1 _ 27 C.z
      have hE := C.end
      have h0 := heap_setCell_same wr w.heap.size 0 _ 27 (.slice (some ⟨sb, 0, none⟩) 8 sc) C.z
      have h1 := heap_setCell_same _ w.heap.size 1 _ 27 (.slice (some ⟨kb, 0, none⟩) 64 kc) h0
      have HE := Lib.hid hE
      have H1 := Lib.hid h1
      clear hE h0 h1 C
      go_wp2
      exact bodyPost_ret (v := .agg #[.slice (some ⟨sb, 0, none⟩) 8 sc, .slice (some ⟨kb, 0, none⟩) 64 kc]) (results_cell_row (p := 0) (ty := 27) Tryd.results12 _ _ w.heap.size 27 _ (0, 0) _ rfl H1.out Tryd.underlying27 rfl (by kernel_rfl)) rfl HE.out
end Go.Proofs.YtfdeegafdaobdaaDoor
