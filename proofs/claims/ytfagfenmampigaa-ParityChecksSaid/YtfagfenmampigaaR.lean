/- The reference's Xor. -/
import Derived.Test.YtfagfenmampigaaX
namespace Go.Proofs.Ytfagfenmampigaa
open Go.RowKit Go.ChangeShapes
theorem take_paL {rows : List (List UInt8)} {k : Nat} (h : k < mxl rows) : (paL rows).take (k + 1) = (paL rows).take k ++ [axs rows k] := by
  have hl : k < (paL rows).length := by rw [paL_length]; exact h
  rw [List.take_succ_eq_append_getElem hl]
  congr 2
  have := paL_getD rows k
  rw [List.getD_eq_getElem?_getD, List.getElem?_eq_getElem hl] at this
  exact this
theorem axs_step {rows : List (List UInt8)} {i k : Nat} (h : i < rows.length) : axs (rows.take (i + 1)) k = axs (rows.take i) k ^^^ (rows.getD i []).getD k 0 := by
  rw [getD_rows h, axs_append, axs_one]
set_option maxRecDepth 100000 in
set_option maxHeartbeats 4000000 in
theorem rxor_any (ao : Option Addr) (cap : Nat) (rows : List (List UInt8)) (w : World) (hR : Rw w ao rows) (hn : rows.length ≤ 1000) (h1 : ∀ r ∈ rows, r.length ≤ 2000) :
    Calls Try.prog 22 #[.slice ao rows.length cap] w fun e w' => e = .returned (.string (bs (paL rows))) ∧ Below w.heap.size w w' := by
  have HR := Lib.hid hR
  have hr1 : ∀ i, i < rows.length → (rows.getD i []).length ≤ 2000 := fun i hi => h1 _ (by rw [List.getD_eq_getElem?_getD, List.getElem?_eq_getElem hi]; exact List.getElem_mem hi)
  have hm := mxl_le h1
  obtain ⟨n, hnn⟩ : ∃ n, rows.length = n := ⟨_, rfl⟩
  have HL := Lib.hid (And.intro hnn (And.intro hr1 (fun j => mxl_le (rows := rows.take j) (n := 2000) fun r hr => h1 r (List.mem_of_mem_take hr))))
  rw [hnn] at hn ⊢
  obtain ⟨i0, hi, hz0, hz1, hz2⟩ := info_parts info5
  have HI := Lib.hid (And.intro hi (And.intro hz0 (And.intro hz1 hz2)))
  clear hR hr1 hnn h1 hi hz0 hz1 hz2
  go_enter Try.func22, Try.ntmps22
  go_wp2
  go_loopw [3, 4] (fun s3 i wr => ∃ j : Nat, j ≤ n ∧ i = .int .i64 (j : Int) ∧ s3 = .int .i64 ((mxl (rows.take j) : Nat) : Int) ∧ w = wr) (fun _ i _ => n - (intOf i).toNat)
  case atStart => exact ⟨0, by omega, rfl, rfl, rfl⟩
  case round =>
    obtain ⟨j, hj, rfl, rfl, rfl⟩ := hrel
    by_cases hlt : j < n
    · obtain ⟨g, o, rfl, hg', hc⟩ := HR.out j (by have := HL.out.1; omega)
      have hmx : mxl (rows.take (j + 1)) = max (mxl (rows.take j)) (rows.getD j []).length := by
        rw [getD_rows (by have := HL.out.1; omega), mxl_append, mxl_one]
      have hsz : (bs (rows.getD j [])).size = (rows.getD j []).length := bs_size _
      have hm1 := HL.out.2.2 j
      have hm2 := HL.out.2.1 j (by have := HL.out.1; omega)
      generalize mxl (rows.take j) = mj at hmx hm1 ⊢
      have HM := Lib.hid hmx
      generalize (rows.getD j []).length = lj at hsz hm2 HM hmx
      generalize bs (rows.getD j []) = S at hc hsz
      have hji : (j : Int) < (n : Int) := by omega
      clear hmx hg'
      go_wp2
      go_roundw
      case rel => exact ⟨j + 1, by omega, by go_num, by rw [HM.out]; congr 1; omega, by first | rfl | trivial⟩
      case measure => simp [intOf]; omega
    · obtain rfl : j = n := by omega
      have htk : rows.take j = rows := List.take_of_length_le (by have := HL.out.1; omega)
      rw [htk]
      obtain ⟨M, hM⟩ : ∃ M, mxl rows = M := ⟨_, rfl⟩
      rw [hM] at hm ⊢
      have HM := Lib.hid hM
      clear hM htk hlt hj
      go_wp2
      go_loopw [5, 6] (fun v i wr => ∃ k : Nat, k ≤ M ∧ i = .int .i64 (k : Int) ∧ Hid (wr.ownsRow w.heap.size 5 1 v k (byC ((paL rows).take k)) ∧ Below w.heap.size w wr)) (fun _ i _ => M - (intOf i).toNat)
      case atStart => exact ⟨0, by omega, rfl, Lib.hid ⟨World.ownsRow_nil _ _ _ _, Below.refl _ _⟩⟩
      case round =>
        obtain ⟨k, hk, rfl, HO⟩ := hrel
        by_cases hkM : k < M
        · have hkM2 : (k : Int) < (M : Int) := by omega
          go_wp2
          go_loopw [7, 8] (fun c i wx => ∃ j2 : Nat, j2 ≤ j ∧ i = .int .i64 (j2 : Int) ∧ c = .int .u8 ((axs (rows.take j2) k).toNat : Int) ∧ wr = wx) (fun _ i _ => j - (intOf i).toNat)
          case atStart => exact ⟨0, by omega, rfl, rfl, rfl⟩
          case round =>
            obtain ⟨j2, hj2, rfl, rfl, rfl⟩ := hrel
            by_cases hlt2 : j2 < j
            · obtain ⟨g, o, rfl, hg', hc0⟩ := HR.out j2 (by have := HL.out.1; omega)
              have hc := (HO.out.2.cell (p := ⟨g, o + j2, none⟩) hg').trans hc0
              have hst := axs_step (rows := rows) (i := j2) (k := k) (by have := HL.out.1; omega)
              have hsz : (bs (rows.getD j2 [])).size = (rows.getD j2 []).length := bs_size _
              have hm2 := HL.out.2.1 j2 (by have := HL.out.1; omega)
              have hgt : ∀ h : k < (bs (rows.getD j2 [])).size, (bs (rows.getD j2 []))[k] = (rows.getD j2 []).getD k 0 := fun h => bs_idx _ _ h
              have hge : (rows.getD j2 []).length ≤ k → (rows.getD j2 []).getD k 0 = 0 := fun h => getD_ge h
              generalize axs (rows.take j2) k = x at hst ⊢
              have HST := Lib.hid hst
              generalize rows.getD j2 [] = r at hc hsz hm2 hgt hge HST
              clear hst hc0 hg'
              have hj3 : (j2 : Int) < (j : Int) := by omega
              by_cases hkr : k < r.length
              · have hgt2 : ∀ S, bs r = S → ∀ h : k < S.size, S[k] = r.getD k 0 := by
                  rintro _ rfl h
                  exact hgt h
                have hx := c_xor8 x (r.getD k 0)
                obtain ⟨S, hS⟩ : ∃ S, bs r = S := ⟨_, rfl⟩
                have hsz2 : S.size = r.length := by rw [← hS]; exact hsz
                have hks : k < S.size := by omega
                have hg2 := hgt2 S hS hks
                rw [hS] at hc
                clear hge hgt hgt2 hsz
                rw [← hg2] at hx HST
                have hki2 : (k : Int) < (S.size : Int) := by omega
                have hgk : (S[k]).toNat < 256 := (S[k]).toNat_lt
                clear hg2 hS hkr
                go_wp2
                go_roundw
                case rel => exact ⟨j2 + 1, by omega, by go_num, by rw [HST.out, UInt8.toNat_xor], by first | rfl | trivial⟩
                case measure => simp [intOf]; omega
              · have h0 := hge (by omega)
                rw [h0, UInt8.xor_zero] at HST
                have hkr2 : ¬ (k : Int) < ((bs r).size : Int) := by omega
                generalize bs r = S at hc hkr2 hsz
                clear hge hgt h0
                go_wp2
                go_roundw
                case rel => exact ⟨j2 + 1, by omega, by go_num, by rw [HST.out], by first | rfl | trivial⟩
                case measure => simp [intOf]; omega
            · obtain rfl : j2 = j := by omega
              have htk : rows.take j2 = rows := List.take_of_length_le (by have := HL.out.1; omega)
              rw [htk]
              obtain ⟨hi, hz0, hz1, hz2⟩ := HI.out
              have hrow : byC ((paL rows).take k) ++ [.int .u8 ((axs rows k).toNat : Int)] = byC ((paL rows).take (k + 1)) := by
                rw [take_paL (by rw [HM.out]; exact hkM), ← byC_append]; rfl
              have HROW := Lib.hid hrow
              generalize axs rows k = y at HROW ⊢
              clear hrow htk hlt2 hj2
              go_wp2_with (first | (at_builtin; refine wpList_append_own _ rfl _ _ 52 rfl w.heap.size 5 i0 (.int .u8 0) 1 1 Try.underlying52 hi hz0 hz1 hz2 rfl (by decide) _ k _ rfl (HO.out.1.alloc _) ⟨wr.heap.size, 0, none⟩ 1 1 [.int .u8 (y.toNat : Int)] rfl rfl ?_ ?_ ?_ ?_ ?_ ?_; exact World.news_of_block (cs := #[.int .u8 (y.toNat : Int)]) (t := 5) (fr := (0, 0)) (heap_alloc_new wr _); (simp [Value.oneCell']); (unfold maxLen; omega); omega; (have := HO.out.2.size; simp; omega); intro v2 w3 hown3 hg3 _))
              rw [HROW.out] at hown3
              have hB3 : Below w.heap.size w w3 := (HO.out.2.alloc HO.out.2.size _).grown hg3 (by have := HO.out.2.size; simp; omega) (fun g hg => by have := (HO.out.1.lt g hg).1; omega)
              have HO3 := Lib.hid (And.intro hown3 hB3)
              clear hown3 hg3 hB3 HO
              go_wp2
              go_roundw
              case rel => exact ⟨k + 1, by omega, by go_num, HO3⟩
              case measure => simp [intOf]; omega
        · obtain rfl : k = M := by omega
          obtain ⟨hown, hB⟩ := HO.out
          have htk : (paL rows).take k = paL rows := List.take_of_length_le (by rw [paL_length, HM.out]; exact Nat.le_refl _)
          have hpl : (paL rows).length = k := by rw [paL_length, HM.out]
          rw [htk] at hown
          have hcv := string_of_own (by rw [hpl]; exact hown)
          have HB := Lib.hid hB
          clear hown hB HO htk
          go_wp2
          go_ret
          exact ⟨rfl, HB.out⟩
end Go.Proofs.Ytfagfenmampigaa
