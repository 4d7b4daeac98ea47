/- The reference's Unhex. -/
import Derived.Test.YtebaagmbnbbflaaDoorZ
import Derived.Deep.RegionWith
namespace Go.Proofs.YtebaagmbnbbflaaDoor
open Go.RowKit Go.ChangeShapes

open Classical in
noncomputable def refRes (s : ByteArray) : Value := if okUn s then .tuple #[.string ⟨(unL s (s.size / 2)).toArray⟩, .bool true] else .tuple #[.string ByteArray.empty, .bool false]
theorem refRes_yes {s : ByteArray} (h : okUn s) : refRes s = .tuple #[.string ⟨(unL s (s.size / 2)).toArray⟩, .bool true] := by simp [refRes, h]
theorem refRes_no {s : ByteArray} (h : ¬ okUn s) : refRes s = .tuple #[.string ByteArray.empty, .bool false] := by simp [refRes, h]
def Dig54 (c r : Int) : Prop := ∀ w : World, Calls Tryd.prog 54 #[.int .u8 c] w fun e w' => e = .returned (.int .i64 r) ∧ w' = w
theorem dig54_yes {a x : Nat} (ha : a < 256) (h : isDg (a : Int) = true) (hx : vlDg (a : Int) = (x : Int)) : Dig54 a x := fun w =>
  (refDigit_yes (a : Int) w (by omega) (by omega) h).mono fun e w' hh => ⟨hh.1.trans (by rw [hx]), hh.2.symm⟩
theorem dig54_no {a : Nat} (ha : a < 256) (h : isDg (a : Int) = false) : Dig54 a (-1) := fun w =>
  (refDigit_no (a : Int) w (by omega) (by omega) h).mono fun e w' hh => ⟨hh.1, hh.2.symm⟩
theorem dig54_any {a : Nat} (ha : a < 256) : ∃ r, Dig54 a r := by
  cases h : isDg (a : Int)
  · exact ⟨_, dig54_no ha h⟩
  · obtain ⟨x, hx⟩ := Int.eq_ofNat_of_zero_le (vlDg_range h).1
    exact ⟨_, dig54_yes ha h hx⟩

set_option maxRecDepth 100000 in
set_option maxHeartbeats 1000000 in
theorem refUnhex_any (s : ByteArray) (w : World) (hs : s.size ≤ 70368744177664) :
    Calls Tryd.prog 31 #[.string s] w fun e w' => e = .returned (refRes s) ∧ Below w.heap.size w w' := by
  obtain ⟨i0, hi, hz0, hz1, hz2⟩ := info_parts info5
  by_cases hev : s.size % 2 = 0
  · have t0 : (((s.size : Int) % 2) != 0) = false := by simp; omega
    have HEV := Lib.hid hev
    clear hev
    go_enter Tryd.func31, Tryd.ntmps31
    go_wp2
    go_loopw [4, 5] (fun v i wr => ∃ k : Nat, 2 * k ≤ s.size ∧ i = .int .i64 (2 * k : Nat) ∧ wr.ownsRow w.heap.size 5 1 v k (byC (unL s k)) ∧ Below w.heap.size w wr ∧ Hid (∀ j, j < k → pairOk s j)) (fun _ i _ => s.size + 1 - (intOf i).toNat)
    case atStart => exact ⟨0, by omega, rfl, World.ownsRow_nil _ _ _ _, Below.refl _ _, fun j hj => absurd hj (Nat.not_lt_zero _)⟩
    case round =>
      obtain ⟨k, hk, rfl, hown, hB, hok⟩ := hrel
      have hz := hB.size
      by_cases hlt : 2 * k < s.size
      · have hlt2 : 2 * k + 1 < s.size := by have := HEV.out; omega
        have ea := idx_run s (2 * k) (2 * (k : Int)) (by omega) (by omega)
        have eb := idx_run s (2 * k + 1) (2 * (k : Int) + 1) (by omega) (by omega)
        have ha := tAt_lt s (2 * k)
        have hb := tAt_lt s (2 * k + 1)
        have hpk : pairOk s k ↔ (isDg (tAt s (2 * k)) = true ∧ isDg (tAt s (2 * k + 1)) = true) := Iff.rfl
        have HPK := Lib.hid hpk
        have HUB := Lib.hid (fun x y h1 h2 h3 h4 => unB_toNat (s := s) (k := k) (x := x) (y := y) h1 h2 h3 h4)
        clear hpk
        generalize tAt s (2 * k) = a at ea ha HPK HUB
        generalize tAt s (2 * k + 1) = b at eb hb HPK HUB
        by_cases da : isDg (a : Int) = true
        · obtain ⟨x, hx⟩ := Int.eq_ofNat_of_zero_le (vlDg_range da).1
          have hx1 : x < 16 := by have := (vlDg_range da).2; omega
          have DA := Lib.hid (dig54_yes ha da hx)
          by_cases db : isDg (b : Int) = true
          · obtain ⟨y, hy⟩ := Int.eq_ofNat_of_zero_le (vlDg_range db).1
            have hy1 : y < 16 := by have := (vlDg_range db).2; omega
            have DB := Lib.hid (dig54_yes hb db hy)
            have HUBX := Lib.hid (HUB.out x y hx hy hx1 hy1)
            have HP : Hid (∀ j, j < k + 1 → pairOk s j) := fun j hj => by
              by_cases e : j = k
              · subst e; exact HPK.out.2 ⟨da, db⟩
              · exact hok.out j (by omega)
            have t1 : decide ((x : Int) < 0) = false := by simp
            have t2 : decide ((y : Int) < 0) = false := by simp
            have hq : IntKind.u8.wrap ((16 : Int) * x + y) = (16 : Int) * x + y := IntWalk.u8_in _ ⟨by omega, by omega⟩
            clear hx hy HUB da db
            go_wp2
            go_quiet ((first | (go_at_call_of 54 (a : Int); exact Calls.quiet_of_same (DA.out _)) | (go_at_call_of 54 (b : Int); exact Calls.quiet_of_same (DB.out _))))
            go_wp2_with (first | (at_builtin; refine wpList_append_own _ rfl _ _ 56 rfl w.heap.size 5 i0 (.int .u8 0) 1 1 Tryd.underlying56 hi hz0 hz1 hz2 rfl (by decide) _ k _ rfl ((own_drewN hown _).alloc _) ⟨wr.heap.size, 0, none⟩ 1 1 [.int .u8 ((16 : Int) * x + y)] rfl rfl ?_ ?_ ?_ ?_ ?_ ?_; exact news_drewN (cs := #[.int .u8 ((16 : Int) * x + y)]) _ rfl; (simp [Value.oneCell']); (unfold maxLen; omega); omega; (go_size); intro v2 w3 hown3 hg3 _))
            have hBn : Below w.heap.size w w3 := ((bel_drewN hB _).alloc (by go_size) _).grown hg3 (by go_size) (fun g hg => (hown.lt g hg).1)
            have hrow : byC (unL s k) ++ [.int .u8 ((16 : Int) * x + y)] = byC (unL s (k + 1)) := by
              rw [unL_succ, ← byC_append]
              simp only [byC, List.map_cons, List.map_nil, HUBX.out]
              rw [Int.mul_comm]
            rw [hrow] at hown3
            clear hrow hown
            go_roundw
            case rel => exact ⟨k + 1, by omega, by go_num, hown3, hBn, HP⟩
            case measure => simp [intOf]; omega
          · have db' : isDg (b : Int) = false := by simpa using db
            have hbad : ¬ okUn s := fun h => db (HPK.out.1 (h.2 k (by have := HEV.out; omega))).2
            have HBAD := Lib.hid hbad
            have DB := Lib.hid (dig54_no hb db')
            have t1 : decide ((x : Int) < 0) = false := by simp
            clear hx HUB da db db' hbad
            go_wp2
            go_quiet ((first | (go_at_call_of 54 (a : Int); exact Calls.quiet_of_same (DA.out _)) | (go_at_call_of 54 (b : Int); exact Calls.quiet_of_same (DB.out _))))
            go_wp2
            try rw [Exit.noGoto_ret]
            go_ret2
            exact ⟨by rw [refRes_no HBAD.out]; rfl, bel_drewN hB _⟩
        · have da' : isDg (a : Int) = false := by simpa using da
          have hbad : ¬ okUn s := fun h => da (HPK.out.1 (h.2 k (by have := HEV.out; omega))).1
          have HBAD := Lib.hid hbad
          have DA := Lib.hid (dig54_no ha da')
          obtain ⟨r, hr⟩ := dig54_any hb
          have DB := Lib.hid hr
          clear HUB da da' hbad hr
          go_wp2
          go_quiet ((first | (go_at_call_of 54 (a : Int); exact Calls.quiet_of_same (DA.out _)) | (go_at_call_of 54 (b : Int); exact Calls.quiet_of_same (DB.out _))))
          go_wp2
          try rw [Exit.noGoto_ret]
          go_ret2
          exact ⟨by rw [refRes_no HBAD.out]; rfl, bel_drewN hB _⟩
      · have hok2 : okUn s := ⟨HEV.out, fun j hj => hok.out j (by omega)⟩
        have HOK := Lib.hid hok2
        have hkk : s.size / 2 = k := by have := HEV.out; omega
        have HK := Lib.hid hkk
        have hcv := string_of_own (w := wr) (l := unL s k) (by rw [unL_length]; exact hown)
        clear hok2 hkk
        go_wp2
        try rw [Exit.noGoto_ret]
        go_ret2
        exact ⟨by rw [refRes_yes HOK.out, HK.out]; rfl, hB⟩
  · have hbad : ¬ okUn s := fun h => hev h.1
    have HBAD := Lib.hid hbad
    have t0 : (((s.size : Int) % 2) != 0) = true := by simp; omega
    clear hbad hev
    go_enter Tryd.func31, Tryd.ntmps31
    go_wp2
    go_ret2
    exact ⟨by rw [refRes_no HBAD.out]; rfl, Below.refl _ _⟩
end Go.Proofs.YtebaagmbnbbflaaDoor
