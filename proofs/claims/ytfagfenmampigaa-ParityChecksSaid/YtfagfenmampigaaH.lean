/- Contracts of parityOf and Xor. -/
import Derived.Test.YtfagfenmampigaaG
namespace Go.Proofs.Ytfagfenmampigaa
open Go.RowKit Go.ChangeShapes
/-- Rows lie where a slice of strings says. -/
def Rw (W : World) (ao : Option Addr) (rows : List (List UInt8)) : Prop := ∀ i, i < rows.length → ∃ g o, ao = some ⟨g, o, none⟩ ∧ g < W.heap.size ∧ W.cell? ⟨g, o + i, none⟩ = some (.string (bs (rows.getD i [])))
theorem Rw.below {W V : World} {ao : Option Addr} {rows : List (List UInt8)} (h : Rw W ao rows) (hb : Below W.heap.size W V) : Rw V ao rows := fun i hi => by
  obtain ⟨g, o, e, hg, hc⟩ := h i hi
  exact ⟨g, o, e, Nat.lt_of_lt_of_le hg hb.size, (hb.cell (p := ⟨g, o + i, none⟩) hg).trans hc⟩
theorem getD_rows {rows : List (List UInt8)} {k : Nat} (h : k < rows.length) : rows.take (k + 1) = rows.take k ++ [rows.getD k []] := by
  rw [List.take_succ_eq_append_getElem h, List.getD_eq_getElem?_getD, List.getElem?_eq_getElem h]; rfl
theorem Pa.start (W : World) : Pa W.heap.size (paL []) (W.alloc (.cells #[.slice none 0 0] 52)) := ⟨.slice none 0 0, heap_alloc_new W _, by
  have h := World.ownsRow_nil W (W.heap.size + 1) 5 1
  exact h.alloc _⟩
theorem mxl_take (rows : List (List UInt8)) (k : Nat) (h : ∀ r ∈ rows, r.length ≤ 1200) : (paL (rows.take k)).length ≤ 1200 := by
  rw [paL_length]; exact mxl_le fun r hr => h r (List.mem_of_mem_take hr)
set_option maxRecDepth 100000 in
set_option maxHeartbeats 4000000 in
theorem parity_any (ao : Option Addr) (cap : Nat) (rows : List (List UInt8)) (W : World) (hR : Rw W ao rows) (h64 : rows.length ≤ 64) (h1 : ∀ r ∈ rows, r.length ≤ 1200) :
    Calls Try.prog 42 #[.slice ao rows.length cap] W fun e w' => e = .returned (.string (bs (paL rows))) ∧ Below W.heap.size W w' := by
  have hmf : ∀ (fn : Fn) (first cap : Array Value) (w : World), (Instr.makeFunc fn first cap).run Try.prog w = .ok (.func fn first cap) w := fun _ _ _ _ => rfl
  have HR := Lib.hid hR
  have HM := Lib.hid (fun k => mxl_take rows k h1)
  have HM1 := Lib.hid (fun k (h : k < rows.length) => show (rows.getD k []).length ≤ 1200 from h1 _ (by rw [List.getD_eq_getElem?_getD, List.getElem?_eq_getElem h]; exact List.getElem_mem h))
  have HA := Lib.hid (fun B l r W hl hr hP => add_any B l r W hl hr hP)
  have HS := Lib.hid (fun k (h : k < rows.length) => getD_rows h)
  have hP0 := Pa.start W
  have hB0 : Below W.heap.size W (W.alloc (.cells #[.slice none 0 0] 52)) := by go_grown
  have H0 := Lib.hid (And.intro hP0 hB0)
  have HT := Lib.hid (show rows.take rows.length = rows from List.take_of_length_le (Nat.le_refl _))
  obtain ⟨n, hn⟩ : ∃ n, rows.length = n := ⟨_, rfl⟩
  rw [hn] at HM1 HS HT h64 ⊢
  have HN := Lib.hid hn
  clear hR h1 hP0 hB0 hn
  go_enter Try.func42, Try.ntmps42
  go_wp2
  have H1 : Hid (Pa W.heap.size (paL (rows.take 0)) (W.alloc (.cells #[.slice none 0 0] 52)) ∧ Below W.heap.size W (W.alloc (.cells #[.slice none 0 0] 52))) := H0
  clear H0
  generalize World.alloc W _ = V at H1 ⊢
  go_loopw [6, 10] (fun _ i wr => ∃ k : Nat, k ≤ n ∧ i = .int .i64 (k : Int) ∧ Hid (Pa W.heap.size (paL (rows.take k)) wr) ∧ Hid (Below W.heap.size W wr)) (fun _ i _ => n - (intOf i).toNat)
  case atStart => exact ⟨0, by omega, rfl, Lib.hid H1.out.1, Lib.hid H1.out.2⟩
  case round =>
    clear H1
    obtain ⟨k, hk, rfl, HP, HB⟩ := hrel
    by_cases hlt : k < n
    · obtain ⟨g, o, rfl, hg, hc⟩ := HR.out k (by have := HN.out; omega)
      have hc2 := (HB.out.cell (p := ⟨g, o + k, none⟩) hg).trans hc
      have hr := HM1.out k hlt
      have hs := HS.out k hlt
      have hap := adK_par (rows.take k) (rows.getD k [])
      rw [← hs] at hap
      generalize rows.getD k [] = r at hc2 hr hap
      have hadd := HA.out W.heap.size (paL (rows.take k)) r wr (HM.out k) hr HP.out
      rw [hap] at hadd
      have HADD := Lib.hid hadd
      obtain ⟨S, hS⟩ : ∃ S, bs r = S := ⟨_, rfl⟩
      rw [hS] at HADD hc2
      clear hc hg hr hs hap hadd hS HP
      have hki : (k : Int) < (n : Int) := by omega
      go_wp2_with fail
      (with_reducible refine HADD.out.mono ?_)
      rintro e w2 ⟨⟨v, rfl⟩, hP2, hB2⟩
      have HP2 := Lib.hid hP2
      have HB2 := Lib.hid (HB.out.trans hB2)
      clear hP2 hB2 HADD hc2
      go_wp2_with fail
      go_roundw
      case rel => exact ⟨k + 1, by omega, by go_num, HP2, HB2⟩
      case measure => simp [intOf]; omega
    · obtain rfl : k = n := by omega
      obtain ⟨v, hB, hown⟩ := HP.out
      obtain ⟨cB, fB⟩ := cell_o1 hB
      have hcv := string_of_own hown
      rw [HT.out] at hcv
      clear hown hB HP
      go_wp2
      go_ret
      exact ⟨rfl, HB.out⟩
/-- What Xor answers. -/
def xorRes (rows : List (List UInt8)) : Array Value := if rows.length ≤ 64 ∧ ∀ r ∈ rows, r.length ≤ 1200 then #[.string (bs (paL rows)), .int .i64 0] else #[.string ⟨#[]⟩, .int .i64 3]
theorem xorRes_yes {rows : List (List UInt8)} (h : rows.length ≤ 64) (h1 : ∀ r ∈ rows, r.length ≤ 1200) : xorRes rows = #[.string (bs (paL rows)), .int .i64 0] := if_pos ⟨h, h1⟩
theorem xorRes_long {rows : List (List UInt8)} (h : 64 < rows.length) : xorRes rows = #[.string ⟨#[]⟩, .int .i64 3] := if_neg fun h2 => by omega
theorem xorRes_row {rows : List (List UInt8)} {k : Nat} (h : k < rows.length) (h2 : 1200 < (rows.getD k []).length) : xorRes rows = #[.string ⟨#[]⟩, .int .i64 3] := if_neg fun h3 => by
  have := h3.2 (rows.getD k []) (by rw [List.getD_eq_getElem?_getD, List.getElem?_eq_getElem h]; exact List.getElem_mem h)
  omega
theorem all_of (rows : List (List UInt8)) (h : ∀ i, i < rows.length → (rows.getD i []).length ≤ 1200) : ∀ r ∈ rows, r.length ≤ 1200 := fun r hr => by
  obtain ⟨i, hi, rfl⟩ := List.getElem_of_mem hr
  have := h i hi
  rwa [List.getD_eq_getElem?_getD, List.getElem?_eq_getElem hi] at this
set_option maxRecDepth 100000 in
set_option maxHeartbeats 4000000 in
theorem xor_any (ao : Option Addr) (cap : Nat) (rows : List (List UInt8)) (W : World) (hR : Rw W ao rows) (hn0 : rows.length ≤ 4611686018427387904) :
    Calls Try.prog 21 #[.slice ao rows.length cap] W fun e w' => e = .returned (.tuple (xorRes rows)) ∧ Below W.heap.size W w' := by
  by_cases h64 : rows.length ≤ 64
  · have HR := Lib.hid hR
    have HP := Lib.hid (fun h1 => parity_any ao cap rows W hR h64 h1)
    have HAll := Lib.hid (all_of rows)
    have HY := Lib.hid (fun h1 => xorRes_yes (rows := rows) h64 h1)
    have HX := Lib.hid (fun k (h : k < rows.length) (h2 : 1200 < (rows.getD k []).length) => xorRes_row h h2)
    obtain ⟨n, hn⟩ : ∃ n, rows.length = n := ⟨_, rfl⟩
    rw [hn] at HP HX h64 HAll ⊢
    have HN := Lib.hid hn
    clear hR hn hn0
    go_enter Try.func21, Try.ntmps21
    go_wp2
    go_loop [5, 11] (fun _ i => ∃ k : Nat, k ≤ n ∧ i = .int .i64 (k : Int) ∧ Hid (∀ j, j < k → (rows.getD j []).length ≤ 1200)) (fun _ i => n - (intOf i).toNat)
    case atStart => exact ⟨0, by omega, rfl, Lib.hid (fun j hj => absurd hj (by omega))⟩
    case round =>
      obtain ⟨k, hk, rfl, HA⟩ := hrel
      by_cases hlt : k < n
      · obtain ⟨g, o, rfl, hg, hc⟩ := HR.out k (by have := HN.out; omega)
        have hx := HX.out k hlt
        have HA2 := Lib.hid (fun (h : (rows.getD k []).length ≤ 1200) j (hj : j < k + 1) => show (rows.getD j []).length ≤ 1200 by
          by_cases e : j = k
          · subst e; exact h
          · exact HA.out j (by omega))
        generalize rows.getD k [] = r at hc hx HA2
        have hsz : (bs r).size = r.length := bs_size r
        obtain ⟨S, hS⟩ : ∃ S, bs r = S := ⟨_, rfl⟩
        rw [hS] at hc hsz
        have HSZ := Lib.hid hsz
        have HXX := Lib.hid hx
        clear hS hsz HA hg hx
        have hki : (k : Int) < (n : Int) := by omega
        by_cases hlong : 1200 < S.size
        · have HV := Lib.hid (HXX.out (by have := HSZ.out; omega))
          go_wp2
          go_ret2
          exact ⟨by rw [HV.out]; rfl, Below.refl _ _⟩
        · have HA3 := Lib.hid (HA2.out (by have := HSZ.out; omega))
          go_wp2
          go_round
          case rel => exact ⟨k + 1, by omega, by go_num, HA3⟩
          case measure => simp [intOf]; omega
      · obtain rfl : k = n := by omega
        have h1 := HAll.out HA.out
        have HP2 := Lib.hid (HP.out h1)
        have HY2 := Lib.hid (HY.out h1)
        clear h1
        go_wp2_with fail
        (with_reducible refine HP2.out.mono ?_)
        rintro e w2 ⟨rfl, hb⟩
        have HB := Lib.hid hb
        clear hb
        go_wp2_with fail
        go_ret2
        exact ⟨by rw [HY2.out]; rfl, HB.out⟩
  · have HV := Lib.hid (xorRes_long (rows := rows) (by omega))
    have h65 : 64 < rows.length := by omega
    generalize rows.length = n at h65 hn0 ⊢
    go_enter Try.func21, Try.ntmps21
    go_wp2
    go_ret2
    exact ⟨by rw [HV.out]; rfl, Below.refl _ _⟩
end Go.Proofs.Ytfagfenmampigaa
