/- Contracts of classOf and Class. -/
import Derived.Test.YtjoogiabimiioaaGreatDoorPC
namespace Go.Proofs.YtjoogiabimiioaaGreatDoor
open Go.RowKit Go.ChangeShapes
/-- The class of a host. -/
def clsN (s : List UInt8) : Nat :=
  if zerB (bs s) then 2 else if loopB s then 3 else if linkB (bs s) then 4 else if privB (bs s) then 5 else if manyB (bs s) then 6 else 1
/-- The table of the tests. -/
def ctab (S : ByteArray) : Array Value := #[.int .i64 2, .func (.func 88) #[.string S] #[], .int .i64 3, .func (.func 89) #[.string S] #[], .int .i64 4, .func (.func 90) #[.string S] #[], .int .i64 5, .func (.func 91) #[.string S] #[], .int .i64 6, .func (.func 92) #[.string S] #[]]
abbrev crow (S : ByteArray) (n : Int) (f : Nat) : Array Value := #[.int .i64 n, .func (.func f) #[.string S] #[]]
abbrev Zrow : Array Value := #[.int .i64 0, .nilFunc]
theorem crow_one (S : ByteArray) (n : Int) (f : Nat) : (crow S n f).all (·.oneCell') = true := by simp [Value.oneCell']
/-- The table stays. -/
structure Ct (w : World) (S : ByteArray) (W : World) : Prop where
  b : Below w.heap.size w W
  t : W.heap[w.heap.size]? = some (.cells (ctab S) 127 (0, 0))
theorem Ct.row {w W : World} {S : ByteArray} (h : Ct w S W) (k : Nat) (a b : Value) (ha : (ctab S)[2 * k]? = some a) (hb : (ctab S)[2 * k + 1]? = some b) : W.rangeAt w.heap.size (2 * k) [a, b] := fun j v hv => by
  rcases j with _ | _ | j
  · rw [cell_of_row W w.heap.size (2 * k + 0) _ 127 (0, 0) h.t]; exact ha.trans hv
  · rw [cell_of_row W w.heap.size (2 * k + 1) _ 127 (0, 0) h.t]; exact hb.trans hv
  · cases hv
theorem Ct.below {w W V : World} {S : ByteArray} (h : Ct w S W) (hb : Below W.heap.size W V) : Ct w S V := ⟨bstep h.b hb, (hb.block _ (Array.getElem?_eq_some_iff.1 h.t).1).trans h.t⟩
theorem Ct.put {w W : World} {S : ByteArray} (h : Ct w S W) (r z : Array Value) : Ct w S ((W.alloc (.cells z 127)).setRow W.heap.size r) := h.below (below_setRow ((Below.refl _ W).alloc (Nat.le_refl _) _) (Nat.le_refl _) r)
theorem new_row (W : World) (z r : Array Value) : ((W.alloc (.cells z 127)).setRow W.heap.size r).heap[W.heap.size]? = some (.cells r 127 (0, 0)) := setRow_heap _ _ _ _ _ _ (heap_alloc_new W _)
set_option maxRecDepth 100000 in
set_option maxHeartbeats 8000000 in
theorem classOf_any (s : List UInt8) (w : World) (hS : s.length ≤ 16) : Calls Tryz.prog 57 #[.string (bs s)] w fun e w' => e = .returned (.int .i64 (clsN s : Int)) ∧ Below w.heap.size w w' := by
  have hs1 : (bs s).size ≤ 1000 := by rw [bs_size]; omega
  have H0 := Lib.hid (fun W => isNone_any (bs s) W hs1)
  have H1 := Lib.hid (fun W => isLoop_any s W hS)
  have H2 := Lib.hid (fun W => link_any (bs s) W hs1)
  have H3 := Lib.hid (fun W => priv_any (bs s) W hs1)
  have H4 := Lib.hid (fun W => many_any (bs s) W hs1)
  have hmf : ∀ (fn : Fn) (first cap : Array Value) (w : World), (Instr.makeFunc fn first cap).run Tryz.prog w = .ok (.func fn first cap) w := fun _ _ _ _ => rfl
  have hz : ∀ W, (zeroValue 127).run Tryz.prog W = .ok (.agg Zrow) W := fun W => by kernel_rfl
  have hsz : (Tryz.prog.info? 127).map (·.size) = some 2 := by kernel_rfl
  obtain ⟨du, hu, hdu⟩ : ∃ d, Tryz.prog.underlying 127 = some d ∧ d.isRow = true := ⟨_, Tryz.underlying127, rfl⟩
  have HK := Lib.hid (Ct.mk (S := bs s) ((Below.refl _ w).alloc (Nat.le_refl _) (.cells (ctab (bs s)) 127)) (heap_alloc_new w _))
  unfold clsN
  generalize zerB (bs s) = b0 at *
  generalize loopB s = b1 at *
  generalize linkB (bs s) = b2 at *
  generalize privB (bs s) = b3 at *
  generalize manyB (bs s) = b4 at *
  generalize bs s = S at *
  clear hs1 hS
  go_enter Tryz.func57, Tryz.ntmps57
  go_upto_region 1 with fail
  go_wp2_with fail
  change Code.wp _ _ _ _ (w.alloc (.cells (ctab S) 127))
  generalize w.alloc (.cells (ctab S) 127) = W0 at *
  go_loopw [22] (fun i wr => ∃ k : Nat, k ≤ 5 ∧ i = .int .i64 (k : Int) ∧ Hid (Ct w S wr) ∧ (0 < k → b0 = false) ∧ (1 < k → b1 = false) ∧ (2 < k → b2 = false) ∧ (3 < k → b3 = false) ∧ (4 < k → b4 = false)) (fun i _ => 5 - (intOf i).toNat)
  case atStart => exact ⟨0, by omega, rfl, HK, by omega, by omega, by omega, by omega, by omega⟩
  case round =>
    clear HK
    obtain ⟨k, hk, rfl, HK, g0, g1, g2, g3, g4⟩ := hrel
    have hkc : k = 0 ∨ k = 1 ∨ k = 2 ∨ k = 3 ∨ k = 4 ∨ k = 5 := by omega
    rcases hkc with rfl | rfl | rfl | rfl | rfl | rfl
    · skip
      have HRG := Lib.hid (HK.out.row 0 (.int .i64 2) (.func (.func 88) #[.string S] #[]) rfl rfl)
      go_upto_region 4 with (first
        | (refine wpList_load_mid rfl 127 _ rfl w.heap.size (2 * 0) rfl [.int .i64 2, .func (.func 88) #[.string S] #[]] du HRG.out hu hdu hsz ?_)
        | (refine wpList_store_row rfl 127 _ _ rfl wr.heap.size (crow S 2 88) rfl rfl 127 Zrow (heap_alloc_new wr _) hsz rfl (crow_one _ _ _) ?_))
      have HV := Lib.hid (HK.out.put (crow S 2 88) Zrow)
      have hr := new_row wr Zrow (crow S 2 88)
      change Code.wp _ _ _ _ ((wr.alloc (.cells Zrow 127)).setRow wr.heap.size (crow S 2 88))
      generalize (wr.alloc (.cells Zrow 127)).setRow wr.heap.size (crow S 2 88) = V at *
      have c0 : V.cell? ⟨wr.heap.size, 0, none⟩ = some (.int .i64 2) := cell_of_row _ _ 0 _ 127 (0, 0) hr
      have c1 : V.cell? ⟨wr.heap.size, 1, none⟩ = some (.func (.func 88) #[.string S] #[]) := cell_of_row _ _ 1 _ 127 (0, 0) hr
      have hlt := (Array.getElem?_eq_some_iff.1 hr).1
      clear hr HRG
      rcases b0 with _ | _
      · go_wp2_with (go_at_call 88; (with_reducible refine (H0.out _).mono ?_); rintro e V2 ⟨rfl, hb⟩)
        exact ⟨⟨1, by omega, rfl, Lib.hid (HV.out.below hb), by intros; first | trivial | omega, by intros; first | trivial | omega, by intros; first | trivial | omega, by intros; first | trivial | omega, by intros; first | trivial | omega⟩, by simp [intOf]⟩
      · go_wp2_with (go_at_call 88; (with_reducible refine (H0.out _).mono ?_); rintro e V2 ⟨rfl, hb⟩; (have c2 := (hb.cell (p := ⟨wr.heap.size, 0, none⟩) hlt).trans c0))
        go_ret
        exact ⟨rfl, (HV.out.below hb).b⟩
    · obtain rfl := g0 (by decide); skip
      have HRG := Lib.hid (HK.out.row 1 (.int .i64 3) (.func (.func 89) #[.string S] #[]) rfl rfl)
      go_upto_region 4 with (first
        | (refine wpList_load_mid rfl 127 _ rfl w.heap.size (2 * 1) rfl [.int .i64 3, .func (.func 89) #[.string S] #[]] du HRG.out hu hdu hsz ?_)
        | (refine wpList_store_row rfl 127 _ _ rfl wr.heap.size (crow S 3 89) rfl rfl 127 Zrow (heap_alloc_new wr _) hsz rfl (crow_one _ _ _) ?_))
      have HV := Lib.hid (HK.out.put (crow S 3 89) Zrow)
      have hr := new_row wr Zrow (crow S 3 89)
      change Code.wp _ _ _ _ ((wr.alloc (.cells Zrow 127)).setRow wr.heap.size (crow S 3 89))
      generalize (wr.alloc (.cells Zrow 127)).setRow wr.heap.size (crow S 3 89) = V at *
      have c0 : V.cell? ⟨wr.heap.size, 0, none⟩ = some (.int .i64 3) := cell_of_row _ _ 0 _ 127 (0, 0) hr
      have c1 : V.cell? ⟨wr.heap.size, 1, none⟩ = some (.func (.func 89) #[.string S] #[]) := cell_of_row _ _ 1 _ 127 (0, 0) hr
      have hlt := (Array.getElem?_eq_some_iff.1 hr).1
      clear hr HRG
      rcases b1 with _ | _
      · go_wp2_with (go_at_call 89; (with_reducible refine (H1.out _).mono ?_); rintro e V2 ⟨rfl, hb⟩)
        exact ⟨⟨2, by omega, rfl, Lib.hid (HV.out.below hb), by intros; first | trivial | omega, by intros; first | trivial | omega, by intros; first | trivial | omega, by intros; first | trivial | omega, by intros; first | trivial | omega⟩, by simp [intOf]⟩
      · go_wp2_with (go_at_call 89; (with_reducible refine (H1.out _).mono ?_); rintro e V2 ⟨rfl, hb⟩; (have c2 := (hb.cell (p := ⟨wr.heap.size, 0, none⟩) hlt).trans c0))
        go_ret
        exact ⟨rfl, (HV.out.below hb).b⟩
    · obtain rfl := g0 (by decide); obtain rfl := g1 (by decide); skip
      have HRG := Lib.hid (HK.out.row 2 (.int .i64 4) (.func (.func 90) #[.string S] #[]) rfl rfl)
      go_upto_region 4 with (first
        | (refine wpList_load_mid rfl 127 _ rfl w.heap.size (2 * 2) rfl [.int .i64 4, .func (.func 90) #[.string S] #[]] du HRG.out hu hdu hsz ?_)
        | (refine wpList_store_row rfl 127 _ _ rfl wr.heap.size (crow S 4 90) rfl rfl 127 Zrow (heap_alloc_new wr _) hsz rfl (crow_one _ _ _) ?_))
      have HV := Lib.hid (HK.out.put (crow S 4 90) Zrow)
      have hr := new_row wr Zrow (crow S 4 90)
      change Code.wp _ _ _ _ ((wr.alloc (.cells Zrow 127)).setRow wr.heap.size (crow S 4 90))
      generalize (wr.alloc (.cells Zrow 127)).setRow wr.heap.size (crow S 4 90) = V at *
      have c0 : V.cell? ⟨wr.heap.size, 0, none⟩ = some (.int .i64 4) := cell_of_row _ _ 0 _ 127 (0, 0) hr
      have c1 : V.cell? ⟨wr.heap.size, 1, none⟩ = some (.func (.func 90) #[.string S] #[]) := cell_of_row _ _ 1 _ 127 (0, 0) hr
      have hlt := (Array.getElem?_eq_some_iff.1 hr).1
      clear hr HRG
      rcases b2 with _ | _
      · go_wp2_with (go_at_call 90; (with_reducible refine (H2.out _).mono ?_); rintro e V2 ⟨rfl, hb⟩)
        exact ⟨⟨3, by omega, rfl, Lib.hid (HV.out.below hb), by intros; first | trivial | omega, by intros; first | trivial | omega, by intros; first | trivial | omega, by intros; first | trivial | omega, by intros; first | trivial | omega⟩, by simp [intOf]⟩
      · go_wp2_with (go_at_call 90; (with_reducible refine (H2.out _).mono ?_); rintro e V2 ⟨rfl, hb⟩; (have c2 := (hb.cell (p := ⟨wr.heap.size, 0, none⟩) hlt).trans c0))
        go_ret
        exact ⟨rfl, (HV.out.below hb).b⟩
    · obtain rfl := g0 (by decide); obtain rfl := g1 (by decide); obtain rfl := g2 (by decide); skip
      have HRG := Lib.hid (HK.out.row 3 (.int .i64 5) (.func (.func 91) #[.string S] #[]) rfl rfl)
      go_upto_region 4 with (first
        | (refine wpList_load_mid rfl 127 _ rfl w.heap.size (2 * 3) rfl [.int .i64 5, .func (.func 91) #[.string S] #[]] du HRG.out hu hdu hsz ?_)
        | (refine wpList_store_row rfl 127 _ _ rfl wr.heap.size (crow S 5 91) rfl rfl 127 Zrow (heap_alloc_new wr _) hsz rfl (crow_one _ _ _) ?_))
      have HV := Lib.hid (HK.out.put (crow S 5 91) Zrow)
      have hr := new_row wr Zrow (crow S 5 91)
      change Code.wp _ _ _ _ ((wr.alloc (.cells Zrow 127)).setRow wr.heap.size (crow S 5 91))
      generalize (wr.alloc (.cells Zrow 127)).setRow wr.heap.size (crow S 5 91) = V at *
      have c0 : V.cell? ⟨wr.heap.size, 0, none⟩ = some (.int .i64 5) := cell_of_row _ _ 0 _ 127 (0, 0) hr
      have c1 : V.cell? ⟨wr.heap.size, 1, none⟩ = some (.func (.func 91) #[.string S] #[]) := cell_of_row _ _ 1 _ 127 (0, 0) hr
      have hlt := (Array.getElem?_eq_some_iff.1 hr).1
      clear hr HRG
      rcases b3 with _ | _
      · go_wp2_with (go_at_call 91; (with_reducible refine (H3.out _).mono ?_); rintro e V2 ⟨rfl, hb⟩)
        exact ⟨⟨4, by omega, rfl, Lib.hid (HV.out.below hb), by intros; first | trivial | omega, by intros; first | trivial | omega, by intros; first | trivial | omega, by intros; first | trivial | omega, by intros; first | trivial | omega⟩, by simp [intOf]⟩
      · go_wp2_with (go_at_call 91; (with_reducible refine (H3.out _).mono ?_); rintro e V2 ⟨rfl, hb⟩; (have c2 := (hb.cell (p := ⟨wr.heap.size, 0, none⟩) hlt).trans c0))
        go_ret
        exact ⟨rfl, (HV.out.below hb).b⟩
    · obtain rfl := g0 (by decide); obtain rfl := g1 (by decide); obtain rfl := g2 (by decide); obtain rfl := g3 (by decide); skip
      have HRG := Lib.hid (HK.out.row 4 (.int .i64 6) (.func (.func 92) #[.string S] #[]) rfl rfl)
      go_upto_region 4 with (first
        | (refine wpList_load_mid rfl 127 _ rfl w.heap.size (2 * 4) rfl [.int .i64 6, .func (.func 92) #[.string S] #[]] du HRG.out hu hdu hsz ?_)
        | (refine wpList_store_row rfl 127 _ _ rfl wr.heap.size (crow S 6 92) rfl rfl 127 Zrow (heap_alloc_new wr _) hsz rfl (crow_one _ _ _) ?_))
      have HV := Lib.hid (HK.out.put (crow S 6 92) Zrow)
      have hr := new_row wr Zrow (crow S 6 92)
      change Code.wp _ _ _ _ ((wr.alloc (.cells Zrow 127)).setRow wr.heap.size (crow S 6 92))
      generalize (wr.alloc (.cells Zrow 127)).setRow wr.heap.size (crow S 6 92) = V at *
      have c0 : V.cell? ⟨wr.heap.size, 0, none⟩ = some (.int .i64 6) := cell_of_row _ _ 0 _ 127 (0, 0) hr
      have c1 : V.cell? ⟨wr.heap.size, 1, none⟩ = some (.func (.func 92) #[.string S] #[]) := cell_of_row _ _ 1 _ 127 (0, 0) hr
      have hlt := (Array.getElem?_eq_some_iff.1 hr).1
      clear hr HRG
      rcases b4 with _ | _
      · go_wp2_with (go_at_call 92; (with_reducible refine (H4.out _).mono ?_); rintro e V2 ⟨rfl, hb⟩)
        exact ⟨⟨5, by omega, rfl, Lib.hid (HV.out.below hb), by intros; first | trivial | omega, by intros; first | trivial | omega, by intros; first | trivial | omega, by intros; first | trivial | omega, by intros; first | trivial | omega⟩, by simp [intOf]⟩
      · go_wp2_with (go_at_call 92; (with_reducible refine (H4.out _).mono ?_); rintro e V2 ⟨rfl, hb⟩; (have c2 := (hb.cell (p := ⟨wr.heap.size, 0, none⟩) hlt).trans c0))
        go_ret
        exact ⟨rfl, (HV.out.below hb).b⟩
    · obtain rfl := g0 (by decide); obtain rfl := g1 (by decide); obtain rfl := g2 (by decide); obtain rfl := g3 (by decide); obtain rfl := g4 (by decide)
      go_wp2
      go_ret
      exact ⟨rfl, HK.out.b⟩
set_option maxRecDepth 100000 in
set_option maxHeartbeats 2000000 in
theorem Class_yes (s : List UInt8) (w : World) (hS : s.length = 4 ∨ s.length = 16) : Calls Tryz.prog 26 #[.string (bs s)] w fun e w' => e = .returned (.tuple #[.int .i64 (clsN s : Int), .int .i64 0]) ∧ Below w.heap.size w w' := by
  have h1 := fun W => isHost_any (bs s) W
  rw [show hostB (bs s) = true by unfold hostB; rw [bs_size, Bool.or_eq_true, beq_iff_eq, beq_iff_eq]; exact hS] at h1
  have H1 := Lib.hid h1
  have H2 := Lib.hid (fun W => classOf_any s W (by omega))
  clear h1 hS
  generalize clsN s = n at *
  generalize bs s = S at *
  go_enter Tryz.func26, Tryz.ntmps26
  go_wp2_with fail
  (with_reducible refine (H1.out _).mono ?_)
  rintro e V ⟨rfl, rfl⟩
  go_wp2_with fail
  (with_reducible refine (H2.out _).mono ?_)
  rintro e V ⟨rfl, hb⟩
  go_wp2
  go_ret2
  exact ⟨rfl, hb⟩
set_option maxRecDepth 100000 in
set_option maxHeartbeats 2000000 in
theorem Class_no (S : ByteArray) (w : World) (hS : hostB S = false) : Calls Tryz.prog 26 #[.string S] w fun e w' => e = .returned (.tuple #[.int .i64 0, .int .i64 2]) ∧ Below w.heap.size w w' := by
  have h1 := fun W => isHost_any S W
  rw [hS] at h1
  have H1 := Lib.hid h1
  clear h1 hS
  go_enter Tryz.func26, Tryz.ntmps26
  go_wp2_with fail
  (with_reducible refine (H1.out _).mono ?_)
  rintro e V ⟨rfl, rfl⟩
  go_wp2
  go_ret2
  exact ⟨rfl, Below.refl _ _⟩
end Go.Proofs.YtjoogiabimiioaaGreatDoor
