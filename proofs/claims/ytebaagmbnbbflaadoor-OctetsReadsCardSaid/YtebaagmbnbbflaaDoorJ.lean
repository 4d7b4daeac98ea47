/- Contracts of Unhex. -/
import Derived.Test.YtebaagmbnbbflaaDoorG
import Derived.Deep.LoopGhost
import Derived.BigQuiet
import Derived.Deep.AppendLies
import Derived.Deep.QuietTactic
namespace Go.Proofs.YtebaagmbnbbflaaDoor
open Go.RowKit Go.ChangeShapes
def IsRow (v : Value) (k : Nat) : Prop := ∃ ad cap, v = .slice (some ad) k cap
theorem bel_drewN {B : Nat} {a w : World} (h : Below B a w) (n : Nat) : Below B a (w.drewN n) := ⟨h.os, h.tape, h.output, h.size, h.block⟩
theorem own_drewN {w : World} {base : Nat} {e : TypeId} {size : Nat} {v : Value} {n : Nat} {xs : List Value} (h : w.ownsRow base e size v n xs) (q : Nat) : (w.drewN q).ownsRow base e size v n xs := h
theorem news_drewN {w : World} {B : Nat} {cs : Array Value} {t : TypeId} (q : Nat) (hB : B = w.heap.size) : ∀ j u, cs.toList[j]? = some u → ((w.drewN q).alloc (.cells cs t)).cell? ((⟨B, 0, none⟩ : Addr).add j) = some u := by
  subst hB
  exact World.news_of_block (heap_alloc_new (w.drewN q) _)

set_option maxRecDepth 100000 in
set_option maxHeartbeats 1000000 in
theorem unhex_any (s : ByteArray) (w : World) (hD : Digits w) (hs : s.size ≤ 70368744177664) :
    Calls Tryd.prog 30 #[.string s] w fun e w' => e = .returned (unRes s) ∧ Below w.heap.size w w' := by
  obtain ⟨i0, hi, hz0, hz1, hz2⟩ := info_parts info5
  have x0 : ∀ (a b : Value) (w : World), (Instr.index 88 (.agg #[a, b]) (.int .i64 0)).run Tryd.prog w = .ok a w := fun _ _ _ => by kernel_rfl
  have x1 : ∀ (a b : Value) (w : World), (Instr.index 88 (.agg #[a, b]) (.int .i64 1)).run Tryd.prog w = .ok b w := fun _ _ _ => by kernel_rfl
  have HD := Lib.hid hD
  clear hD
  go_enter Tryd.func30, Tryd.ntmps30
  go_wp2_with (first | (at_make; refine wpList_make_own _ rfl _ _ 56 rfl w.heap.size 5 i0 (.int .u8 0) 1 Tryd.underlying56 hi hz0 hz1 .i64 .i64 _ (s.size / 2) rfl rfl ?_ ?_ ?_ ?_ ?_; omega; rw [hz2]; omega; (unfold maxLen; omega); omega; intro w1 hown1 hg1))
  go_step3
  go_wp2_with (first | (at_make; refine wpList_make_own _ rfl _ _ 56 rfl w.heap.size 5 i0 (.int .u8 0) 1 Tryd.underlying56 hi hz0 hz1 .i64 .i64 _ (s.size / 2) rfl rfl ?_ ?_ ?_ ?_ ?_; omega; rw [hz2]; omega; (unfold maxLen; omega); omega; intro w1 hown1 hg1))
  go_step3
  go_wp2
  have hB1 : Below w.heap.size w w1 := (Below.refl _ _).grown hg1 (Nat.le_refl _) (by simp)
  go_loopw [4, 5] (fun v i wr => ∃ k : Nat, 2 * k ≤ s.size ∧ i = .int .i64 (2 * k : Nat) ∧ wr.ownsRow w.heap.size 5 1 v k (byC (unL s k)) ∧ Below w.heap.size w wr ∧ Hid (∀ j, j < k → pairOk s j) ∧ IsRow v k) (fun _ i _ => s.size + 1 - (intOf i).toNat)
  case atStart => exact ⟨0, by omega, rfl, hown1, hB1, fun j hj => absurd hj (Nat.not_lt_zero _), ⟨_, _, rfl⟩⟩
  case round =>
    obtain ⟨k, hk, rfl, hown, hB, hok, hrow⟩ := hrel
    obtain ⟨ad, cap, rfl⟩ := hrow
    have hz := hB.size
    have HDr := Lib.hid (HD.out.below hB)
    by_cases hlt : 2 * k + 1 < s.size
    · have ea := idx_run s (2 * k) (2 * (k : Int)) (by omega) (by omega)
      have eb := idx_run s (2 * k + 1) (2 * (k : Int) + 1) (by omega) (by omega)
      have ha := tAt_lt s (2 * k)
      have hb := tAt_lt s (2 * k + 1)
      have hpk : pairOk s k ↔ (isDg (tAt s (2 * k)) = true ∧ isDg (tAt s (2 * k + 1)) = true) := Iff.rfl
      have HPK := Lib.hid hpk
      have HUB := Lib.hid (fun x y h1 h2 h3 h4 => unB_toNat (s := s) (k := k) (x := x) (y := y) h1 h2 h3 h4)
      clear hpk
      generalize tAt s (2 * k) = a at ea ha HPK HUB
      generalize tAt s (2 * k + 1) = b at eb hb HPK HUB
      by_cases da : isDg (a : Int) = true
      · by_cases db : isDg (b : Int) = true
        · have va := vlDg_range da
          have vb := vlDg_range db
          obtain ⟨x, hx⟩ := Int.eq_ofNat_of_zero_le va.1
          obtain ⟨y, hy⟩ := Int.eq_ofNat_of_zero_le vb.1
          have hx1 : x < 16 := by omega
          have hy1 : y < 16 := by omega
          have dva : dvV (a : Int) = (x : Int) := by rw [dvV_yes da, hx]
          have dvb : dvV (b : Int) = (y : Int) := by rw [dvV_yes db, hy]
          have o1 := i64_or0 x hx1
          have o2 := i64_or16 x y hx1 hy1
          have HUBX := Lib.hid (HUB.out x y hx hy hx1 hy1)
          clear va vb hx hy HUB
          go_wp2
          go_quiet (fail)
          go_wp2
          refine wp_loop_rounds 3 ?_
          rw [rounds_succ]
          go_wp2_with (first | (go_at_call 53; refine (digitValue_any _ _ (HDr.out.drewN _)).mono ?_; rintro e w2 ⟨rfl, rfl⟩))
          rw [rounds_succ]
          go_wp2_with (first | (go_at_call 53; refine (digitValue_any _ _ (HDr.out.drewN _)).mono ?_; rintro e w2 ⟨rfl, rfl⟩))
          rw [rounds_succ]
          go_wp2_with (first | (at_builtin; refine wpList_append_own _ rfl _ _ 56 rfl w.heap.size 5 i0 (.int .u8 0) 1 1 Tryd.underlying56 hi hz0 hz1 hz2 rfl (by decide) _ k _ rfl ((own_drewN hown _).alloc _) ⟨wr.heap.size, 0, none⟩ 1 1 [.int .u8 ((x : Int) * 16 + y)] rfl rfl ?_ ?_ ?_ ?_ ?_ ?_; exact news_drewN (cs := #[.int .u8 ((x : Int) * 16 + y)]) _ rfl; (simp [Value.oneCell']); (unfold maxLen; omega); omega; (go_size); intro v2 w3 hown3 hg3 _))
          have hBn : Below w.heap.size w w3 := ((bel_drewN hB _).alloc (by go_size) _).grown hg3 (by go_size) (fun g hg => (hown.lt g hg).1)
          have hrow : byC (unL s k) ++ [.int .u8 ((x : Int) * 16 + y)] = byC (unL s (k + 1)) := by
            rw [unL_succ, ← byC_append]
            simp only [byC, List.map_cons, List.map_nil, HUBX.out]
          rw [hrow] at hown3
          obtain ⟨g3, c3, hv3, _, _⟩ := hown3.form (by omega)
          have HP : Hid (∀ j, j < k + 1 → pairOk s j) := fun j hj => by
            by_cases e : j = k
            · subst e; exact HPK.out.2 ⟨da, db⟩
            · exact hok.out j (by omega)
          have HV := Lib.hid hv3
          clear hv3 hrow hown
          go_roundw
          case rel => exact ⟨k + 1, by omega, by go_num, hown3, hBn, HP, ⟨_, _, HV.out⟩⟩
          case measure => simp [intOf]; omega
        · have db' : isDg (b : Int) = false := by simpa using db
          have hbad : ¬ okUn s := fun h => db (HPK.out.1 (h.2 k (by omega))).2
          have HBAD := Lib.hid hbad
          have va := vlDg_range da
          obtain ⟨x, hx⟩ := Int.eq_ofNat_of_zero_le va.1
          have hx1 : x < 16 := by omega
          have dva : dvV (a : Int) = (x : Int) := by rw [dvV_yes da, hx]
          have o1 := i64_or0 x hx1
          have bne : ((2 * (k : Int)) != (s.size : Int)) = true := by simp; omega
          clear va hx HUB db hbad
          go_wp2
          go_quiet (fail)
          go_wp2
          refine wp_loop_rounds 3 ?_
          rw [rounds_succ]
          go_wp2_with (first | (go_at_call 53; refine (digitValue_any _ _ (HDr.out.drewN _)).mono ?_; rintro e w2 ⟨rfl, rfl⟩))
          rw [rounds_succ]
          go_wp2_with (first | (go_at_call 53; refine (digitValue_any _ _ (HDr.out.drewN _)).mono ?_; rintro e w2 ⟨rfl, rfl⟩))
          try rw [Exit.noGoto_ret]
          go_ret2
          exact ⟨by rw [unRes_no HBAD.out]; rfl, bel_drewN hB _⟩
      · have da' : isDg (a : Int) = false := by simpa using da
        have hbad : ¬ okUn s := fun h => da (HPK.out.1 (h.2 k (by omega))).1
        have HBAD := Lib.hid hbad
        have bne : ((2 * (k : Int)) != (s.size : Int)) = true := by simp; omega
        clear HUB da hbad
        go_wp2
        go_quiet (fail)
        go_wp2
        refine wp_loop_rounds 3 ?_
        rw [rounds_succ]
        go_wp2_with (first | (go_at_call 53; refine (digitValue_any _ _ (HDr.out.drewN _)).mono ?_; rintro e w2 ⟨rfl, rfl⟩))
        try rw [Exit.noGoto_ret]
        go_ret2
        exact ⟨by rw [unRes_no HBAD.out]; rfl, bel_drewN hB _⟩
    · by_cases he : 2 * k = s.size
      · have hok2 : okUn s := ⟨by omega, fun j hj => hok.out j (by omega)⟩
        have HOK := Lib.hid hok2
        have hkk : s.size / 2 = k := by omega
        have HK := Lib.hid hkk
        have bne : ((2 * (k : Int)) != (s.size : Int)) = false := by simp; omega
        have hcv := string_of_own (w := wr) (l := unL s k) (by rw [unL_length]; exact hown)
        clear hok2 hkk he
        go_wp2
        try rw [Exit.noGoto_ret]
        go_ret2
        exact ⟨by rw [unRes_yes HOK.out, HK.out]; rfl, hB⟩
      · have hbad : ¬ okUn s := fun h => by have := h.1; omega
        have HBAD := Lib.hid hbad
        have bne : ((2 * (k : Int)) != (s.size : Int)) = true := by simp; omega
        clear hbad he
        go_wp2
        try rw [Exit.noGoto_ret]
        go_ret2
        exact ⟨by rw [unRes_no HBAD.out]; rfl, hB⟩
end Go.Proofs.YtebaagmbnbbflaaDoor
