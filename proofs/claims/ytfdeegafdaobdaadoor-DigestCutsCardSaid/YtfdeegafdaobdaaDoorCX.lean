/- DigestCuts returns true. -/
import Derived.Test.YtfdeegafdaobdaaDoorCP
namespace Go.Proofs.YtfdeegafdaobdaaDoor
open Go.RowKit Go.ChangeShapes
set_option maxRecDepth 1000000 in
set_option maxHeartbeats 8000000 in
theorem cuts_true (A : Option Addr) (len cap : Nat) (ss : List ByteArray) (w : World) (hD : Digits w) (hlc : len ≤ cap) (hcap : cap ≤ maxLen)
    (hA : ∀ k, k < len → ∃ b off, A = some ⟨b, off, none⟩ ∧ b < w.heap.size ∧ w.cell? ⟨b, off + k, none⟩ = some (.string (ss.getD k ByteArray.empty)) ∧ (ss.getD k ByteArray.empty).size ≤ 9223372036854775807) :
    Calls Tryd.prog 6 #[.slice A len cap] w fun e w' => e = .returned (.bool true) ∧ Below w.heap.size w w' := by
  have K0 := Wk.start hD
  unfold maxLen at hcap
  have hsl := slice_min A len cap hlc
  obtain ⟨q, hq⟩ : ∃ q, min len 8 = q := ⟨_, rfl⟩
  rw [hq] at hsl
  have hq8 : q ≤ 8 := by omega
  have hql : q ≤ len := by omega
  have HA := Lib.hid hA
  have HD := Lib.hid hD
  clear hA hq hD
  go_enter Tryd.func6, Tryd.ntmps6
  go_wp2_with fail
  refine (works_true _ K0.d).mono ?_
  rintro e W1 ⟨rfl, h1⟩
  have K1 := K0.step h1
  clear h1 K0
  go_wp2_with fail
  refine (start_any _).mono ?_
  rintro e W2 ⟨rfl, h2⟩
  have K2 := K1.step h2
  clear h2 K1
  obtain ⟨g, hg⟩ : ∃ g, W2.heap.size = g := ⟨_, rfl⟩
  have hwg : w.heap.size ≤ g := by rw [← hg]; exact K2.b.size
  have K3 : Wk w (W2.alloc (hsO IW ByteArray.empty 0)) [(g, hsO IW ByteArray.empty 0)] := by rw [← hg]; exact K2.add _
  have B3 := Lib.hid K3.b
  have H3 := Lib.hid (K3.heap List.mem_cons_self)
  clear K2 K3
  go_wp2_with fail
  generalize W2.alloc (hsO IW ByteArray.empty 0) = W3 at B3 H3 ⊢
  clear hg W1 W2
  go_loopw [4, 20] (fun s4 i wr => ∃ k : Nat, k ≤ q ∧ i = .int .i64 k ∧ s4 = .string (bs (al ss k)) ∧ Hid (wr.heap[g]? = some (hsO (mk (al ss k)).w (bs (mk (al ss k)).tail) ((mk (al ss k)).count : Int))) ∧ Below w.heap.size w wr) (fun _ i _ => 8 - (intOf i).toNat)
  case atStart => exact ⟨0, Nat.zero_le _, rfl, rfl, Lib.hid (by rw [show al ss 0 = [] from rfl, mk_nil]; exact H3.out), B3.out⟩
  case round =>
    obtain ⟨k, hk, rfl, rfl, HG, hBr⟩ := hrel
    clear hsl
    have hal := al_le ss k
    obtain ⟨L, hL⟩ : ∃ L, al ss k = L := ⟨_, rfl⟩
    rw [hL] at HG hal ⊢
    by_cases hlt : k < q
    · have hL2 : al ss (k + 1) = L ++ ct (ss.getD k ByteArray.empty) := by rw [al, hL]
      obtain ⟨b, off, rfl, hbw, hc0, hss⟩ := HA.out k (by omega)
      obtain ⟨sk, hsk⟩ : ∃ sk, ss.getD k ByteArray.empty = sk := ⟨_, rfl⟩
      rw [hsk] at hL2 hc0 hss
      have hc1 : wr.cell? ⟨b, off + k, none⟩ = some (.string sk) := (hBr.cell (p := ⟨b, off + k, none⟩) hbw).trans hc0
      have hct := ct_le sk
      obtain ⟨xb, hxb⟩ : ∃ xb, sk.extract 0 (min (sk.size : Int) 200).toNat = xb := ⟨_, rfl⟩
      have hxb2 : bs (ct sk) = xb := hxb
      obtain ⟨yb, hyb⟩ : ∃ yb, bs L ++ xb = yb := ⟨_, rfl⟩
      have hyb2 : bs (L ++ ct sk) = yb := by rw [← bs_append, hxb2, hyb]
      have hys : yb.size = (L ++ ct sk).length := by rw [← hyb2, bs_size]
      have hyl : yb.size ≤ 1800 := by rw [hys, List.length_append]; omega
      have ok1 : okHH (mk L) := mk_ok L (by omega)
      have ok2 : okHH (mk (L ++ ct sk)) := mk_ok _ (by rw [← hys]; omega)
      have cM : ∀ w, Calls Tryd.prog 22 #[hsV (mk L).w (bs (mk L).tail) ((mk L).count : Int), .string xb] w fun e w' => e = .returned (.tuple #[hsV (mk (L ++ ct sk)).w (bs (mk (L ++ ct sk)).tail) (yb.size : Int), .int .i64 0]) ∧ Below w.heap.size w w' := fun w => by
        have h := moreP_ok (mk L) ok1 (ct sk) w (by omega) (by rw [mk_count]; omega)
        rw [mk_more, hxb2, mk_count (L ++ ct sk), ← hys] at h
        exact h
      have cC : ∀ w, Calls Tryd.prog 27 #[hsV (mk (L ++ ct sk)).w (bs (mk (L ++ ct sk)).tail) (yb.size : Int)] w fun e w' => e = .returned (.int .i64 0) ∧ Below w.heap.size w w' := fun w => by
        have h := ok2.okH
        have h2 := ok2.tail
        rw [mk_count (L ++ ct sk), ← hys] at h
        exact check_yes _ _ _ w (by rw [bs_size]; omega) h
      have hG2 : hsO (mk (al ss (k + 1))).w (bs (mk (al ss (k + 1))).tail) ((mk (al ss (k + 1))).count : Int) = hsO (mk (L ++ ct sk)).w (bs (mk (L ++ ct sk)).tail) (yb.size : Int) := by rw [hL2, mk_count, ← hys]
      have hS2 : ∀ wx : World, (Instr.slice 9 (.string yb) (some (.int .i64 ((yb.size : Int) / 64 * 64))) none none).run Tryd.prog wx = .ok (.string (bs (mk (L ++ ct sk)).tail)) wx := fun wx => by
        have h := run_slice_string_l (P := Tryd.prog) (w := wx) 9 (s := yb) Tryd.underlying9 .i64 ((yb.size : Int) / 64 * 64) (by omega) (by omega)
        rw [h, ext_bs, mk_tail, ← hys, show ((yb.size : Int) / 64 * 64).toNat = yb.size / 64 * 64 by omega, List.take_of_length_le (by rw [List.length_drop]; exact Nat.le_refl _), ← hyb2, bs_data]
      have hal2 : Value.string (bs (al ss (k + 1))) = .string yb := by rw [hL2, hyb2]
      obtain ⟨p, hp⟩ : ∃ p, (mk L).w = p := ⟨_, rfl⟩
      obtain ⟨u, hu⟩ : ∃ p, bs (mk L).tail = p := ⟨_, rfl⟩
      obtain ⟨n, hn⟩ : ∃ p, ((mk L).count : Int) = p := ⟨_, rfl⟩
      obtain ⟨p', hp'⟩ : ∃ p, (mk (L ++ ct sk)).w = p := ⟨_, rfl⟩
      obtain ⟨u', hu'⟩ : ∃ p, bs (mk (L ++ ct sk)).tail = p := ⟨_, rfl⟩
      rw [hp, hu, hn] at HG cM
      rw [hp', hu'] at cM cC hG2
      rw [hu'] at hS2
      have CM := Lib.hid cM
      have CC := Lib.hid cC
      have HG2 := Lib.hid hG2
      have HAL2 := Lib.hid hal2
      obtain ⟨⟨⟨c0, c1, c2, c3⟩, ⟨c4, c5, c6, c7⟩⟩, ⟨c8, c9⟩⟩ := hs_cells HG.out
      have lL : (bs L).size ≤ 1600 := by rw [bs_size]; omega
      have lx : xb.size ≤ 200 := by rw [← hxb2, bs_size]; exact hct
      have k0 : (0 : Int) ≤ (k : Int) := by omega
      have k1 : (k : Int) < (q : Int) := by omega
      have hbw2 := hBr.size
      clear cM cC hG2 hal2 hp hu hn hp' hu' ok1 ok2 hys hyb2 hxb2 hsk hL hL2 hc0 hal hct hlt
      have K4 : Wk w wr [(g, hsO p u n)] := ⟨hBr, HD.out.below hBr, fun x hx => by obtain rfl := List.mem_singleton.1 hx; exact HG.out⟩
      go_wp2_with fail
      (with_reducible refine (CM.out _).mono ?_)
      rintro e V ⟨rfl, hb⟩
      have K5 := K4.step hb
      clear hb K4 c0 c1 c2 c3 c4 c5 c6 c7 c8 c9 hc1
      go_upto_region 10 with fail
      have K6 := K5.add (hsO p' u' (yb.size : Int))
      obtain ⟨g7, hg7⟩ : ∃ g, V.heap.size = g := ⟨_, rfl⟩
      have hgg : g < V.heap.size := K5.lt List.mem_cons_self
      have hgn : g7 ≠ g := by omega
      clear K5
      generalize V.alloc (hsO p' u' (yb.size : Int)) = V2 at K6 ⊢
      rw [hg7] at K6
      try rw [hg7]
      have htd : ((yb.size : Int)).tdiv 64 = (yb.size : Int) / 64 := Int.tdiv_eq_ediv_of_nonneg (by omega)
      have hw0 : IntKind.i64.wrap ((yb.size : Int) / 64) = (yb.size : Int) / 64 := IntWalk.i64_in _ ⟨by omega, by omega⟩
      have hw1 : IntKind.i64.wrap ((yb.size : Int) / 64 * 64) = (yb.size : Int) / 64 * 64 := IntWalk.i64_in _ ⟨by omega, by omega⟩
      have hw2 : (0 : Int) ≤ (yb.size : Int) / 64 * 64 := by omega
      have hw3 : (yb.size : Int) / 64 * 64 ≤ (yb.size : Int) := by omega
      go_region_held3 (fun w' => ((w'.cell? ⟨g7, 0, none⟩ = some (wd p'.a) ∧ w'.cell? ⟨g7, 1, none⟩ = some (wd p'.b) ∧ w'.cell? ⟨g7, 2, none⟩ = some (wd p'.c) ∧ w'.cell? ⟨g7, 3, none⟩ = some (wd p'.d)) ∧ (w'.cell? ⟨g7, 4, none⟩ = some (wd p'.e) ∧ w'.cell? ⟨g7, 5, none⟩ = some (wd p'.f) ∧ w'.cell? ⟨g7, 6, none⟩ = some (wd p'.g) ∧ w'.cell? ⟨g7, 7, none⟩ = some (wd p'.h))) ∧ (w'.cell? ⟨g7, 8, none⟩ = some (.string u') ∧ w'.cell? ⟨g7, 9, none⟩ = some (.int .i64 (yb.size : Int))))
        (first | (with_reducible exact Wk.hs (by assumption) List.mem_cons_self) | exact Wk.hs (Wk.drew (by assumption)) List.mem_cons_self)
        (first | (go_at_call 27; (with_reducible refine (CC.out _).mono ?_); rintro e X ⟨rfl, hb⟩; (repeat (with_reducible replace hb := bel_of_drew hb)); with_reducible have K := Wk.step (by assumption) hb; clear hb))
      all_goals go_upto_region 12 with fail
      all_goals
        obtain ⟨⟨⟨c0, c1, c2, c3⟩, ⟨c4, c5, c6, c7⟩⟩, ⟨c8, c9⟩⟩ := hs_cells (K.heap List.mem_cons_self)
        have hgh := K.heap (.tail _ List.mem_cons_self)
        obtain ⟨⟨⟨d0, d1, d2, d3⟩, ⟨d4, d5, d6, d7⟩⟩, ⟨d8, d9⟩⟩ := hs_cells hgh
        have f0 := hs_free hgh 0
        have f1 := hs_free hgh 1
        have f2 := hs_free hgh 2
        have f3 := hs_free hgh 3
        have f4 := hs_free hgh 4
        have f5 := hs_free hgh 5
        have f6 := hs_free hgh 6
        have f7 := hs_free hgh 7
        have f8 := hs_free hgh 8
        have f9 := hs_free hgh 9
        have HGH := Lib.hid hgh
        clear hgh htd hw0 hw1 hw2 hw3
        go_wp2
        go_roundw
        case rel => exact ⟨k + 1, by omega, by go_num, HAL2.out.symm, Lib.hid ((put10_same _ g _ _ _ _ _ _ HGH.out).trans (by rw [HG2.out])), put10_below K.b hwg _ _ _⟩
        case measure => simp [intOf]; omega
    · obtain rfl : k = q := by omega
      have lL : L.length ≤ 1600 := by omega
      have ok1 : okHH (mk L) := mk_ok L (by omega)
      have cE := fun w => endP_ok (mk L) ok1 w
      have eS : endH KL (mk L) = sumB L := rfl
      rw [eS] at cE
      have cS := fun w => sum_ok L w (by omega)
      obtain ⟨d, hd⟩ : ∃ d, sumB L = d := ⟨_, rfl⟩
      have hdl : (bs d).size = 32 := by rw [← hd, bs_size]; exact sumB_length L
      rw [hd] at cE cS
      obtain ⟨p, hp⟩ : ∃ p, (mk L).w = p := ⟨_, rfl⟩
      obtain ⟨u, hu⟩ : ∃ p, bs (mk L).tail = p := ⟨_, rfl⟩
      obtain ⟨n, hn⟩ : ∃ p, ((mk L).count : Int) = p := ⟨_, rfl⟩
      rw [hp, hu, hn] at HG cE
      have CE := Lib.hid cE
      have CS := Lib.hid cS
      obtain ⟨⟨⟨c0, c1, c2, c3⟩, ⟨c4, c5, c6, c7⟩⟩, ⟨c8, c9⟩⟩ := hs_cells HG.out
      have K4 : Wk w wr [] := ⟨hBr, HD.out.below hBr, fun _ h => absurd h List.not_mem_nil⟩
      have lz : (bs L).size ≤ 1600 := lL
      have tt : (((bs d).size : Int) == 32) = true := by rw [hdl]; rfl
      clear cE cS hd hdl hp hu hn ok1 eS hL hal lL hq8 hql hlt
      go_wp2_with (first
        | (go_at_call 25; (with_reducible refine (CE.out _).mono ?_); rintro e V ⟨rfl, hb⟩; (repeat (with_reducible replace hb := bel_of_drew hb)); with_reducible have K := Wk.step (by assumption) hb; clear hb)
        | (go_at_call 30; (with_reducible refine (same_any _ _).mono ?_); rintro e X ⟨rfl, rfl⟩)
        | (go_at_call 15; (with_reducible refine (CS.out _).mono ?_); rintro e V ⟨rfl, hb⟩; (repeat (with_reducible replace hb := bel_of_drew hb)); with_reducible obtain ⟨K, hp, hz⟩ := Wk.cell1 (by assumption) hb; clear hb)
        | (go_at_call 53; (with_reducible refine (same1_yes _ _ _ (by assumption)).mono ?_); rintro e V ⟨rfl, rfl⟩))
      go_ret
      exact ⟨rfl, Wk.b (by assumption)⟩
end Go.Proofs.YtfdeegafdaobdaaDoor
