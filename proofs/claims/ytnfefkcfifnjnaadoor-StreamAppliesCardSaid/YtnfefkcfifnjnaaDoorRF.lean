/- Contract of the reference's Block. -/
import Derived.Test.YtnfefkcfifnjnaaDoorRE2
import Derived.Laws.DeepStrings4
namespace Go.Proofs.YtnfefkcfifnjnaaDoor
open Go.RowKit Go.ChangeShapes

/-- The sixty-four octets that a block begins with. -/
def allL (k n : List UInt8) (c : Nat) : List UInt8 := expL ++ k ++ octW c ++ n
/-- Their first words. -/
def firW (s : List UInt8) (m : Nat) : List Nat := (List.range m).map fun i => numW s (4 * i)
theorem firW_length (s : List UInt8) (m : Nat) : (firW s m).length = m := by simp [firW]
theorem firW_succ (s : List UInt8) (m : Nat) : firW s (m + 1) = firW s m ++ [numW s (4 * m)] := by simp [firW, List.range_succ]
theorem numW_w (s : List UInt8) (i : Nat) : isW (numW s i) := by
  unfold numW isW
  have h1 := (s.getD i 0).toNat_lt
  have h2 := (s.getD (i + 1) 0).toNat_lt
  have h3 := (s.getD (i + 2) 0).toNat_lt
  have h4 := (s.getD (i + 3) 0).toNat_lt
  omega
theorem firW_all (s : List UInt8) (m : Nat) : AllW (firW s m) := fun x hx => by
  obtain ⟨i, _, rfl⟩ := List.mem_map.1 hx
  exact numW_w _ _
theorem bs_app (a b : List UInt8) : bs a ++ bs b = bs (a ++ b) := by
  apply ByteArray.ext; simp [bs]
theorem bs_at (l : List UInt8) (i : Nat) (h : i < (bs l).size) : (bs l)[i] = l.getD i 0 := by
  rw [List.getD_eq_getElem?_getD, List.getElem?_eq_getElem (by rw [bs_size] at h; exact h)]; rfl
theorem rnumber (s : List UInt8) (j : Nat) (w : World) (h : 4 * j + 4 ≤ s.length) :
    Calls Tryd.prog 66 #[.string ((bs s).extract (4 * j) (4 * j + 4))] w fun e w' => e = .returned (iv (numW s (4 * j))) ∧ Below w.heap.size w w' := by
  have hx : (bs s).extract (4 * j) (4 * j + 4) = bs ((s.drop (4 * j)).take 4) := by rw [ext_bs, bs_data, show 4 * j + 4 - 4 * j = 4 by omega]
  have hg : ∀ i (h : i < (bs ((s.drop (4 * j)).take 4)).size), (bs ((s.drop (4 * j)).take 4))[i] = s.getD (4 * j + i) 0 := fun i hi => by
    have hi' : i < 4 := by rw [bs_size, List.length_take] at hi; omega
    rw [bs_at, List.getD_eq_getElem?_getD, List.getElem?_take, if_pos hi', List.getElem?_drop, ← List.getD_eq_getElem?_getD]
  rw [hx]
  have hsz : (bs ((s.drop (4 * j)).take 4)).size = 4 := by rw [bs_size, List.length_take, List.length_drop]; omega
  exact rnumber_raw _ (s.getD (4 * j) 0) (s.getD (4 * j + 1) 0) (s.getD (4 * j + 2) 0) (s.getD (4 * j + 3) 0) w hsz (hg 0) (hg 1) (hg 2) (hg 3)
theorem own_below {w V : World} {base : Nat} {e : TypeId} {size : Nat} {v : Value} {n : Nat} {xs : List Value} (h : w.ownsRow base e size v n xs) (hb : Below w.heap.size w V) : V.ownsRow base e size v n xs := by
  refine ⟨h.1, ?_⟩
  rcases h.2 with h0 | ⟨g, cap, cur, hv, hbase, hg, hr⟩
  · exact Or.inl h0
  · exact Or.inr ⟨g, cap, cur, hv, hbase, (hb.block g (Array.getElem?_eq_some_iff.1 hg).1).trans hg, hr⟩
theorem colP_take (j : Nat) (h : j < 4) : colP.take (j + 1) = colP.take j ++ [⟨j, 4 + j, 8 + j, 12 + j⟩] := by
  match j, h with
  | 0, _ => rfl
  | 1, _ => rfl
  | 2, _ => rfl
  | 3, _ => rfl
theorem diaP_take (j : Nat) (h : j < 4) : diaP.take (j + 1) = diaP.take j ++ [⟨j, 4 + (j + 1) % 4, 8 + (j + 2) % 4, 12 + (j + 3) % 4⟩] := by
  match j, h with
  | 0, _ => rfl
  | 1, _ => rfl
  | 2, _ => rfl
  | 3, _ => rfl
theorem rquarter2 (l : List Nat) (g cap a b c d : Nat) (w : World) (hl : l.length = 16) (hW : AllW l) (hA : Ri w g l) (h : Apart a b c d 16) :
    Calls Tryd.prog 67 #[.slice (some ⟨g, 0, none⟩) 16 cap, iv a, iv b, iv c, iv d] w fun e w' => ∃ G c', e = .returned (.slice (some ⟨G, 0, none⟩) 16 c') ∧ G < w'.heap.size ∧ Ri w' G (qrL l a b c d) ∧ Below w.heap.size w w' := by
  refine (rquarter l g cap a b c d w hl hW hA h.a h.b h.c h.d).mono ?_
  rintro e w' ⟨G, c', h1, _, h2, h3, h4⟩
  rw [hq_hq _ _ _ _ _ (by rw [hl]; exact h)] at h3
  exact ⟨G, c', h1, h2, h3, h4⟩
/-- A row through the rounds, with letters for its words. -/
def Turns (F : List Nat) (RR : Nat → List Nat) (CF DF : Nat → Nat → List Nat) : Prop :=
  RR 0 = F ∧ (∀ r, CF r 0 = RR r) ∧ (∀ r, CF r 4 = DF r 0) ∧ (∀ r, DF r 4 = RR (r + 1)) ∧ RR 10 = rounds 10 F ∧ (∀ r, (RR r).length = 16) ∧
  (∀ r j g cap w, j < 4 → Ri w g (CF r j) → Calls Tryd.prog 67 #[.slice (some ⟨g, 0, none⟩) 16 cap, .int .i64 (j : Int), .int .i64 (4 + (j : Int)), .int .i64 (8 + (j : Int)), .int .i64 (12 + (j : Int))] w fun e w' => ∃ G c', e = .returned (.slice (some ⟨G, 0, none⟩) 16 c') ∧ G < w'.heap.size ∧ Ri w' G (CF r (j + 1)) ∧ Below w.heap.size w w') ∧
  (∀ r j g cap w, j < 4 → Ri w g (DF r j) → Calls Tryd.prog 67 #[.slice (some ⟨g, 0, none⟩) 16 cap, .int .i64 (j : Int), .int .i64 (4 + ((j : Int) + 1) % 4), .int .i64 (8 + ((j : Int) + 2) % 4), .int .i64 (12 + ((j : Int) + 3) % 4)] w fun e w' => ∃ G c', e = .returned (.slice (some ⟨G, 0, none⟩) 16 c') ∧ G < w'.heap.size ∧ Ri w' G (DF r (j + 1)) ∧ Below w.heap.size w w')
theorem turns_any (F : List Nat) (hl : F.length = 16) (hW : AllW F) : ∃ RR CF DF, Turns F RR CF DF := by
  have e0 : ∀ l, qrs l [] = l := fun l => List.foldl_nil
  refine ⟨fun r => rounds r F, fun r j => qrs (rounds r F) (colP.take j), fun r j => qrs (qrs (rounds r F) colP) (diaP.take j), ?_, fun r => ?_, fun r => ?_, fun r => ?_, ?_, fun r => ?_, fun r j g cap w hj hR => ?_, fun r j g cap w hj hR => ?_⟩ <;> dsimp only at *
  · show rounds 0 F = F; rw [rounds]
  · rw [List.take_zero, e0]
  · rw [List.take_zero, e0, show colP.take 4 = colP from rfl]
  · rw [show diaP.take 4 = diaP from rfl, rounds, roundL]
  · rw [rounds_length]; exact hl
  · have q := rquarter2 (qrs (rounds r F) (colP.take j)) g cap j (4 + j) (8 + j) (12 + j) w (by rw [qrs_length, rounds_length]; exact hl) (qrs_all _ _ (rounds_all hW _)) hR (by constructor <;> omega)
    rw [colP_take j hj, qrs_snoc]
    simp only [iv] at q
    rw [show ((4 + j : Nat) : Int) = 4 + (j : Int) by omega, show ((8 + j : Nat) : Int) = 8 + (j : Int) by omega, show ((12 + j : Nat) : Int) = 12 + (j : Int) by omega] at q
    exact q
  · have q := rquarter2 (qrs (qrs (rounds r F) colP) (diaP.take j)) g cap j (4 + (j + 1) % 4) (8 + (j + 2) % 4) (12 + (j + 3) % 4) w (by rw [qrs_length, qrs_length, rounds_length]; exact hl) (qrs_all _ _ (qrs_all _ _ (rounds_all hW _))) hR (by constructor <;> omega)
    rw [diaP_take j hj, qrs_snoc]
    simp only [iv] at q
    rw [show ((4 + (j + 1) % 4 : Nat) : Int) = 4 + ((j : Int) + 1) % 4 by omega, show ((8 + (j + 2) % 4 : Nat) : Int) = 8 + ((j : Int) + 2) % 4 by omega, show ((12 + (j + 3) % 4 : Nat) : Int) = 12 + ((j : Int) + 3) % 4 by omega] at q
    exact q
set_option maxRecDepth 1000000 in
set_option maxHeartbeats 8000000 in
theorem rblock_raw (k n : List UInt8) (c : Nat) (w : World) (hk : k.length = 32) (hn : n.length = 12) (hc : isW c) :
    Calls Tryd.prog 34 #[.string (bs k), .string (bs n), .int .i64 (c : Int)] w fun e w' => e = .returned (.string (bs (blockW (firW (allL k n c) 16)))) ∧ Below w.heap.size w w' := by
  obtain ⟨i0, hi, hz0, hz1, hz2⟩ := info_parts info3
  have hk1 : (bs k).size = 32 := by rw [bs_size, hk]
  have hn1 : (bs n).size = 12 := by rw [bs_size, hn]
  have hc1 : (bs (octW c)).size = 4 := rfl
  have hS : (⟨#[101, 120, 112, 97, 110, 100, 32, 51, 50, 45, 98, 121, 116, 101, 32, 107]⟩ : ByteArray) ++ bs k ++ bs (octW c) ++ bs n = bs (allL k n c) := by
    show bs expL ++ bs k ++ bs (octW c) ++ bs n = _
    rw [bs_app, bs_app, bs_app]; rfl
  have hO := fun w => roctets c w hc
  have hAl : (allL k n c).length = 64 := by simp [allL, expL, octW, hk, hn]
  have hQ : ∀ (j : Nat) (w : World), j < 16 → Calls Tryd.prog 66 #[.string ((bs (allL k n c)).extract (4 * j) (4 * j + 4))] w fun e w' => e = .returned (iv (numW (allL k n c) (4 * j))) ∧ Below w.heap.size w w' := fun j w h => rnumber (allL k n c) j w (by omega)
  have hsz : (bs (allL k n c)).size = 64 := by rw [bs_size]; exact hAl
  obtain ⟨AL, hAL⟩ : ∃ a, allL k n c = a := ⟨_, rfl⟩
  rw [hAL] at hS hQ hsz ⊢
  clear hAl
  obtain ⟨KK, hKK⟩ : ∃ a, bs k = a := ⟨_, rfl⟩
  obtain ⟨NN, hNN⟩ : ∃ a, bs n = a := ⟨_, rfl⟩
  obtain ⟨CC, hCC⟩ : ∃ a, bs (octW c) = a := ⟨_, rfl⟩
  obtain ⟨SS, hSS⟩ : ∃ a, bs AL = a := ⟨_, rfl⟩
  rw [hKK] at hk1 hS ⊢
  rw [hNN] at hn1 hS ⊢
  rw [hCC] at hc1 hS hO
  rw [hSS] at hS hQ hsz
  obtain ⟨F, hF⟩ : ∃ F, firW AL 16 = F := ⟨_, rfl⟩
  rw [hF]
  have HF := Lib.hid hF
  clear hF
  have HO := Lib.hid hO
  have HQ := Lib.hid hQ
  have HS := Lib.hid hS
  clear hO hQ hS hAL hKK hNN hCC hSS hk hn hc
  go_enter Tryd.func34, Tryd.ntmps34
  go_wp2_with (go_at_call 65; (refine (HO.out _).mono ?_); rintro e w1 ⟨rfl, hb1⟩)
  rw [HS.out]
  have HOW : Hid (w1.ownsRow w.heap.size 3 1 (.slice none 0 0) 0 (ivC (firW AL 0))) := Lib.hid (World.ownsRow_nil _ _ _ _)
  have HB1 := Lib.hid hb1
  clear hb1 HO HS hk1 hn1 hc1
  go_loopw [8, 9] (fun v i wr => ∃ j : Nat, j ≤ 16 ∧ i = .int .i64 (j : Int) ∧ Hid (wr.ownsRow w.heap.size 3 1 v j (ivC (firW AL j))) ∧ Hid (Below w.heap.size w wr)) (fun _ i _ => 16 - (intOf i).toNat)
  case atStart => exact ⟨0, by omega, rfl, HOW, HB1⟩
  case round =>
    clear HOW HB1
    obtain ⟨j, hj, rfl, HOW, HB⟩ := hrel
    by_cases hlt : j < 16
    · have hown := HOW.out
      have hq := fun w => HQ.out j w hlt
      obtain ⟨x, hx⟩ : ∃ x, numW AL (4 * j) = x := ⟨_, rfl⟩
      have HR : Hid (ivC (firW AL j) ++ [.int .i64 (x : Int)] = ivC (firW AL (j + 1))) := Lib.hid (by rw [firW_succ, hx]; simp [ivC])
      rw [hx] at hq
      have j1 : (j : Int) < 16 := by omega
      have HQJ := Lib.hid hq
      have hz := HB.out.size
      have hsl : ∀ wx : World, (Instr.slice 9 (.string SS) (some (.int .i64 (4 * (j : Int)))) (some (.int .i64 (4 * (j : Int) + 4))) none).run Tryd.prog wx = .ok (.string (SS.extract (4 * j) (4 * j + 4))) wx := fun wx => by
        rw [run_slice_string_if (P := Tryd.prog) (w := wx) 9 SS .i64 .i64 (4 * (j : Int)) (4 * (j : Int) + 4) Tryd.underlying9, if_pos (by omega), if_pos (by omega), show (4 * (j : Int)).toNat = 4 * j by omega, show (4 * (j : Int) + 4).toNat = 4 * j + 4 by omega]
      clear hx hq HOW
      go_wp2_with (first
        | (go_at_call 66; (refine (HQJ.out _).mono ?_); rintro e w2 ⟨rfl, hb2⟩; have hown2 := own_below hown hb2; have hzz := hb2.size)
        | (at_builtin; refine wpList_append_own _ rfl _ _ 70 rfl w.heap.size 3 i0 (.int .i64 0) 1 8 Tryd.underlying70 hi hz0 hz1 hz2 rfl (by decide) _ j _ rfl (hown2.alloc _) ⟨w2.heap.size, 0, none⟩ 1 1 [.int .i64 (x : Int)] rfl rfl ?_ ?_ ?_ ?_ ?_ ?_; exact World.news_of_block (cs := #[.int .i64 (x : Int)]) (t := 3) (fr := (0, 0)) (heap_alloc_new w2 _); (simp [Value.oneCell']); (unfold maxLen; omega); omega; (simp; omega); intro v2 w3 hown3 hg3 _))
      have hB3 : Below w.heap.size w w3 := ((HB.out.trans (hb2.mono hz)).alloc (by omega) _).grown hg3 (by simp; omega) (fun g hg => (hown2.lt g hg).1)
      rw [HR.out] at hown3
      have HO3 := Lib.hid hown3
      have HB3 := Lib.hid hB3
      clear hown3 hown2 hown hg3 hb2 hB3 hzz hz
      go_roundw
      case rel => exact ⟨j + 1, by omega, by go_num, HO3, HB3⟩
      case measure => simp [intOf]; omega
    · obtain rfl : j = 16 := by omega
      obtain ⟨G1, c1, rfl, hG1, hlt1⟩ := HOW.out.form (by decide : 0 < 16)
      have R1 : Hid (Ri wr G1 (firW AL 16)) := Lib.hid fun j hj => ⟨by rw [HOW.out.cellAt j (by rw [firW_length] at hj; omega), ivC_get _ _ hj], HOW.out.frozenAt j⟩
      have HFl : Hid (F.length = 16) := Lib.hid (by rw [← HF.out]; exact firW_length _ _)
      have HFa : Hid (AllW F) := Lib.hid (by rw [← HF.out]; exact firW_all _ _)
      rw [HF.out] at R1
      clear HOW HQ hsz HF hlt hj
      obtain ⟨RR, CF, DF, hT⟩ := turns_any F HFl.out HFa.out
      have HT := Lib.hid hT
      have R0 : Hid (Ri wr G1 (RR 0)) := Lib.hid (by rw [hT.1]; exact R1.out)
      clear hT
      go_wp2
      go_loopw [10, 11] (fun v i wq => ∃ r G cG : Nat, r ≤ 10 ∧ i = .int .i64 (r : Int) ∧ v = .slice (some ⟨G, 0, none⟩) 16 cG ∧ Hid (Ri wq G (RR r)) ∧ Hid (Ri wq G1 F) ∧ Hid (Below w.heap.size w wq)) (fun _ i _ => 10 - (intOf i).toNat)
      case atStart => exact ⟨0, G1, c1, by omega, rfl, rfl, R0, R1, HB⟩
      case round =>
        clear R0 R1 HB hlt1
        obtain ⟨r, G, cG, hr, rfl, rfl, R, R1, HB⟩ := hrel
        by_cases hlt : r < 10
        · have RC : Hid (Ri wr G (CF r 0)) := Lib.hid (by rw [HT.out.2.1]; exact R.out)
          clear R
          have r10 : (r : Int) < 10 := by omega
          go_wp2
          go_loopw [10, 12] (fun v i wq => ∃ j G cG : Nat, j ≤ 4 ∧ i = .int .i64 (j : Int) ∧ v = .slice (some ⟨G, 0, none⟩) 16 cG ∧ Hid (Ri wq G (CF r j)) ∧ Hid (Ri wq G1 F) ∧ Hid (Below w.heap.size w wq)) (fun _ i _ => 4 - (intOf i).toNat)
          case atStart => exact ⟨0, G, cG, by omega, rfl, rfl, RC, R1, HB⟩
          case round =>
            clear RC R1 HB
            obtain ⟨j, G, cG, hj, rfl, rfl, R, R1, HB⟩ := hrel
            by_cases hlt : j < 4
            · have HC := Lib.hid (HT.out.2.2.2.2.2.2.1 r j G cG wr hlt R.out)
              clear R
              have j4 : (j : Int) < 4 := by omega
              go_wp2_with (go_at_call 67; (refine (HC.out).mono ?_); rintro e w2 ⟨G2, c2, rfl, hlt2, R2, hb2⟩; have HR2 := Lib.hid R2; have HB2 := Lib.hid hb2; clear R2 hb2)
              go_roundw
              case rel =>
                repeat apply Exists.intro
                refine ⟨?_, rfl⟩
                exact ⟨j + 1, G2, c2, by omega, by go_num, rfl, HR2, Lib.hid (R1.out.below HB2.out (R1.out.lt (by rw [HFl.out]; decide))), Lib.hid (bstep HB.out HB2.out)⟩
              case measure => simp [intOf]; omega
            · obtain rfl : j = 4 := by omega
              have RD : Hid (Ri wr G (DF r 0)) := Lib.hid (by rw [← HT.out.2.2.1]; exact R.out)
              clear R
              go_wp2
              go_loopw [10, 13] (fun v i wq => ∃ j G cG : Nat, j ≤ 4 ∧ i = .int .i64 (j : Int) ∧ v = .slice (some ⟨G, 0, none⟩) 16 cG ∧ Hid (Ri wq G (DF r j)) ∧ Hid (Ri wq G1 F) ∧ Hid (Below w.heap.size w wq)) (fun _ i _ => 4 - (intOf i).toNat)
              case atStart => exact ⟨0, G, cG, by omega, rfl, rfl, RD, R1, HB⟩
              case round =>
                clear RD R1 HB
                obtain ⟨j, G, cG, hj, rfl, rfl, R, R1, HB⟩ := hrel
                by_cases hlt : j < 4
                · have HC := Lib.hid (HT.out.2.2.2.2.2.2.2 r j G cG wr hlt R.out)
                  clear R
                  have j4 : (j : Int) < 4 := by omega
                  go_wp2_with (go_at_call 67; (refine (HC.out).mono ?_); rintro e w2 ⟨G2, c2, rfl, hlt2, R2, hb2⟩; have HR2 := Lib.hid R2; have HB2 := Lib.hid hb2; clear R2 hb2)
                  go_roundw
                  case rel =>
                    repeat apply Exists.intro
                    refine ⟨?_, rfl⟩
                    exact ⟨j + 1, G2, c2, by omega, by go_num, rfl, HR2, Lib.hid (R1.out.below HB2.out (R1.out.lt (by rw [HFl.out]; decide))), Lib.hid (bstep HB.out HB2.out)⟩
                  case measure => simp [intOf]; omega
                · obtain rfl : j = 4 := by omega
                  have RN : Hid (Ri wr G (RR (r + 1))) := Lib.hid (by rw [← HT.out.2.2.2.1]; exact R.out)
                  clear R
                  go_wp2
                  go_roundw
                  case rel => exact ⟨r + 1, G, cG, by omega, by go_num, rfl, RN, R1, HB⟩
                  case measure => simp [intOf]; omega
        · obtain rfl : r = 10 := by omega
          obtain ⟨W, hW⟩ : ∃ W, RR 10 = W := ⟨_, rfl⟩
          have hW2 : W = rounds 10 F := by rw [← hW]; exact HT.out.2.2.2.2.1
          obtain ⟨S, hS⟩ := outs_any F W hW2 HFl.out HFa.out
          have HWl : Hid (W.length = 16) := Lib.hid (by rw [← hW]; exact HT.out.2.2.2.2.2.1 10)
          have HWa : Hid (AllW W) := Lib.hid (by rw [hW2]; exact rounds_all HFa.out _)
          have RW : Hid (Ri wr G W) := Lib.hid (by rw [← hW]; exact R.out)
          obtain ⟨T, hT⟩ : ∃ T, bs (blockW F) = T := ⟨_, rfl⟩
          rw [hT] at hS
          have HR := Lib.hid hT
          have HS := Lib.hid hS
          clear hW hW2 hS R HT hT
          go_wp2
          go_loopw [14, 15] (fun v i wq => ∃ j : Nat, j ≤ 16 ∧ i = .int .i64 (j : Int) ∧ v = .string (S j) ∧ Hid (Ri wq G W) ∧ Hid (Ri wq G1 F) ∧ Hid (Below w.heap.size w wq)) (fun _ i _ => 16 - (intOf i).toNat)
          case atStart => exact ⟨0, by omega, rfl, by rw [HS.out.1], RW, R1, HB⟩
          case round =>
            clear RW R1 HB
            obtain ⟨j, hj, rfl, rfl, RW, R1, HB⟩ := hrel
            by_cases hlt : j < 16
            · obtain ⟨x, hx⟩ : ∃ x, F.getD j 0 = x := ⟨_, rfl⟩
              obtain ⟨z, hz⟩ : ∃ x, W.getD j 0 = x := ⟨_, rfl⟩
              have u1 := (R1.out j (by rw [HFl.out]; exact hlt)).1
              have u2 := (RW.out j (by rw [HWl.out]; exact hlt)).1
              have b1 := HFa.out.get j
              have b2 := HWa.out.get j
              have hs := HS.out.2.2.1 j hlt
              have hA2 := HS.out.2.2.2 j
              have hG1 := R1.out.lt (by rw [HFl.out]; decide)
              have hG := RW.out.lt (by rw [HWl.out]; decide)
              rw [hx] at u1 b1 hs
              rw [hz] at u2 b2 hs
              obtain ⟨y, hy⟩ : ∃ y, ad x z = y := ⟨_, rfl⟩
              have by' : isW y := by rw [← hy]; exact isW_ad _ _
              have e1 : IntKind.i64.wrap ((x : Int) + (z : Int)) = (x : Int) + (z : Int) := IntWalk.i64_in _ (by unfold isW at b1 b2; omega)
              have e2 : ((x : Int) + (z : Int)).tmod 4294967296 = (y : Int) := by rw [← hy, Int.tmod_eq_emod_of_nonneg (by omega)]; unfold ad; omega
              have e3 : ((x : Int) + (z : Int)) % 4294967296 = (y : Int) := by rw [← hy]; unfold ad; omega
              have j1 : (j : Int) < 16 := by omega
              rw [hy] at hs
              have hO := fun w' => roctets y w' by'
              obtain ⟨C, hC⟩ : ∃ C, bs (octW y) = C := ⟨_, rfl⟩
              have hC4 : C.size = 4 := by rw [← hC]; rfl
              obtain ⟨A, hA⟩ : ∃ A, S j = A := ⟨_, rfl⟩
              obtain ⟨B, hB⟩ : ∃ A, S (j + 1) = A := ⟨_, rfl⟩
              rw [hC] at hO hs
              rw [hA] at hs hA2 ⊢
              rw [hB] at hs
              have HBB : Hid (S (j + 1) = B) := Lib.hid hB
              have hcat : ∀ wx : World, (Op.stringOp .add A C).run Tryd.prog wx = .ok (.string B) wx := fun wx => by
                rw [run_string_add wx A C (by omega) (by omega), hs]
              have HO := Lib.hid hO
              clear hx hz hy by' b1 b2 hs hO hC hA hB
              go_wp2
              go_region_held3 (fun w' => w'.cell? ⟨G1, j, none⟩ = some (iv x) ∧ w'.cell? ⟨G, j, none⟩ = some (iv z))
                (first | go_keep | (go_split_ands; refine ⟨?_, ?_⟩ <;> (rw [hb.cell (by first | exact hG1 | exact hG)]; assumption)))
                (first
                | (go_at_call 65; (refine (HO.out _).mono ?_); rintro e V ⟨rfl, hb⟩; have hbb := hb; (repeat (with_reducible replace hbb := bel_of_drew hbb))))
              go_wp2
              go_roundw
              case rel =>
                repeat apply Exists.intro
                refine ⟨?_, rfl⟩
                exact ⟨j + 1, by omega, by go_num, by rw [HBB.out], Lib.hid (RW.out.below hbb hG), Lib.hid (R1.out.below hbb hG1), Lib.hid (bstep HB.out hbb)⟩
              case measure => simp [intOf]; omega
            · obtain rfl : j = 16 := by omega
              go_wp2
              go_ret
              exact ⟨by show Ending.returned (Value.string (S 16)) = _; rw [HS.out.2.1, HR.out], HB.out⟩
end Go.Proofs.YtnfefkcfifnjnaaDoor
