/- Contracts of Parse. -/
import Derived.Test.YtjoogiabimiioaaGreatDoorNI
namespace Go.Proofs.YtjoogiabimiioaaGreatDoor
open Go.RowKit Go.ChangeShapes
/-- The parts of an address's text. -/
def pBr (s : List UInt8) : Bool := Lib.hasPrefix s [91]
def pA (s : List UInt8) : List UInt8 := (Lib.cut (Lib.trimPrefix s [91]) (if pBr s then [93, 58] else [58])).1
def pB (s : List UInt8) : List UInt8 := (Lib.cut (Lib.trimPrefix s [91]) (if pBr s then [93, 58] else [58])).2.1
def poN (s : List UInt8) : Nat := (plc [0] (rdP 1 10 65535 0 (splP 58 s)).1).getD 0 0
def poR (s : List UInt8) : Bool := (rdP 1 10 65535 0 (splP 58 s)).2
def paL (s : List UInt8) : List UInt8 := if pBr s then octL (sixG (pA s)) else fourL (pA s)
def paR (s : List UInt8) : Bool := (if pBr s then sixR (pA s) else fourR (pA s)) && poR (pB s)
def paT (s : List UInt8) : Value := if paR s then .tuple #[.agg #[.string (bs (paL s)), .int .i64 (poN (pB s) : Int)], .int .i64 0] else .tuple #[.agg #[.string ⟨#[]⟩, .int .i64 0], .int .i64 5]
theorem trim_len (s p : List UInt8) : (Lib.trimPrefix s p).length ≤ s.length := by
  unfold Lib.trimPrefix
  split
  · rw [List.length_drop]; omega
  · exact Nat.le_refl _
theorem cutA_len (s p : List UInt8) : (Lib.cut s p).1.length ≤ s.length ∧ (Lib.cut s p).2.1.length ≤ s.length := by
  unfold Lib.cut
  split
  · simp only [List.length_take, List.length_drop]; omega
  · exact ⟨Nat.le_refl _, Nat.zero_le _⟩
theorem results_addr (tmps : Array Value) (w : World) (g : Nat) (cs : Array Value) (h2 : tmps.getD 2 undef = .pointer (some ⟨g, 0, none⟩)) (hg : w.heap[g]? = some (.cells cs 23 (0, 0))) (hs : cs.size = 2) :
    (results Tryz.f18 tmps).run Tryz.prog w = .ok (.tuple #[.agg cs, tmps.getD 3 undef]) w := by
  rw [results_cell_tmp rfl, h2]
  have hz : (Tryz.prog.info? 23).map (·.size) = some 2 := by kernel_rfl
  have hl := run_loadVar_row w g 23 23 cs (0, 0) _ hg Tryz.underlying23 rfl (by rw [hs]; exact hz)
  simp [asAddr, hl, Result.andThen]
theorem Ta.put {w : World} {a b : Value} {W : World} (h : Ta w #[a, b] 23 W) (x y : Value) (hE : Env w) : Ta w #[x, y] 23 ((W.setCell ⟨w.heap.size, 0, none⟩ x).setCell ⟨w.heap.size, 1, none⟩ y) :=
  have hb := below_setCell (below_setCell h.b (Nat.le_refl _) 0 x) (Nat.le_refl _) 1 y
  ⟨hE.below hb, heap_setCell_same _ w.heap.size 1 #[x, b] 23 y (heap_setCell_same W w.heap.size 0 #[a, b] 23 x h.g), hb⟩
theorem addr_end {w W : World} {x y : Value} {tmps : Array Value} {Q : Ending → World → Prop} (h : Ta w #[x, y] 23 W) (h2 : tmps.getD 2 undef = .pointer (some ⟨w.heap.size, 0, none⟩))
    (hq : Q (.returned (.tuple #[.agg #[x, y], tmps.getD 3 undef])) W) : bodyPost Tryz.prog Tryz.f18 Q .ret { tmps := tmps, defers := [] } W :=
  bodyPost_ret (results_addr _ _ _ _ h2 h.g rfl) rfl hq
set_option maxRecDepth 100000 in
set_option maxHeartbeats 4000000 in
theorem Parse_any (s : List UInt8) (w : World) (hs : s.length ≤ 1000) (hE : Env w) :
    Calls Tryz.prog 18 #[.string (bs s)] w fun e w' => e = .returned (paT s) ∧ Below w.heap.size w w' := by
  have hCP := fun W => Tryz.strings_CutPrefix (bs s) ⟨#[91]⟩ W
  rw [show (bs s).data.toList = s by simp [bs_data], show (⟨#[91]⟩ : ByteArray).data.toList = [91] from rfl] at hCP
  have HT : Hid (Ta w #[.string ⟨#[]⟩, .int .i64 0] 23 (w.alloc (.cells #[.string ⟨#[]⟩, .int .i64 0] 23))) := Lib.hid ⟨hE.alloc _, heap_alloc_new w _, (Below.refl _ w).alloc (Nat.le_refl _) _⟩
  have hl := trim_len s [91]
  have hla := cutA_len (Lib.trimPrefix s [91]) (if pBr s then [93, 58] else [58])
  have HCUT : Hid (∀ W, Env W → Calls Tryz.prog 34 #[.string (bs (Lib.trimPrefix s [91])), .string (bs (if pBr s then [93, 58] else [58]))] W fun e w' => (∃ fb, e = .returned (.tuple #[.string (bs (pA s)), .string (bs (pB s)), .bool fb])) ∧ Below W.heap.size W w') := Lib.hid (fun W hW => by
    obtain ⟨m, hm⟩ := hW.m
    refine (Tryz.strings_Cut (bs (Lib.trimPrefix s [91])) _ m W (by rw [bs_size]; omega) hm).mono ?_
    rintro e V ⟨rfl, n, rfl⟩
    refine ⟨⟨(Lib.cut (Lib.trimPrefix s [91]) (if pBr s then [93, 58] else [58])).2.2, ?_⟩, below_drewN n W⟩
    rw [show (bs (Lib.trimPrefix s [91])).data.toList = Lib.trimPrefix s [91] by simp [bs_data], show (bs (if pBr s then [93, 58] else [58])).data.toList = (if pBr s then [93, 58] else [58]) by simp [bs_data]]
    rfl)
  have H4 := Lib.hid (fun W => readFour_any (pA s) W (by have := hla.1; unfold pA; omega))
  have H6 := Lib.hid (fun W => readSix_any (pA s) W (by have := hla.1; unfold pA; omega))
  have HP := Lib.hid (fun W => readPort_any (pB s) W (by have := hla.2; unfold pB; omega))
  have HE := Lib.hid hE
  unfold paT paR paL
  change Hid (∀ W, Calls Tryz.prog 51 #[.string (bs (pB s))] W fun e w' => e = .returned (.tuple #[.int .i64 (poN (pB s) : Int), .bool (poR (pB s))]) ∧ Below W.heap.size W w') at HP
  generalize poR (pB s) = pr at HP ⊢
  generalize (poN (pB s) : Int) = pn at HP ⊢
  clear hl hla hs hE
  by_cases hbr : Lib.hasPrefix s [91] = true
  · have hbr' : pBr s = true := hbr
    rw [hbr] at hCP
    simp only [hbr', if_true] at HCUT ⊢
    have HCP := Lib.hid hCP
    clear hCP hbr hbr' H4
    generalize sixR (pA s) = hr at H6 ⊢
    generalize bs (octL (sixG (pA s))) = X at H6 ⊢
    generalize bs (pA s) = A at H6 HCUT
    generalize bs (pB s) = B at HP HCUT
    change Hid (∀ W, Calls Tryz.prog 49 #[.string (bs s), .string ⟨#[91]⟩] W fun e w' => e = .returned (.tuple #[.string (bs (Lib.trimPrefix s [91])), .bool true]) ∧ w' = W) at HCP
    change Hid (∀ W, Env W → Calls Tryz.prog 34 #[.string (bs (Lib.trimPrefix s [91])), .string ⟨#[93, 58]⟩] W _) at HCUT
    generalize bs (Lib.trimPrefix s [91]) = R at HCP HCUT
    generalize bs s = S at HCP ⊢
    rcases hr with _ | _ <;> rcases pr with _ | _
    all_goals
      go_enter Tryz.func18, Tryz.ntmps18
      go_upto_region 2 with fail
      generalize hV : World.alloc w _ = V at HT ⊢
      clear hV
      go_wp2_with fail
      (with_reducible refine (HCP.out _).mono ?_)
      rintro e V1 ⟨rfl, rfl⟩
      go_wp2_with fail
      (with_reducible refine (HCUT.out _ HT.out.e).mono ?_)
      rintro e V2 ⟨⟨fb, rfl⟩, hb⟩
      have HT := Lib.hid (HT.out.below hb)
      clear hb
      go_wp2_with fail
      (with_reducible refine (H6.out _ HT.out.e).mono ?_)
      rintro e V3 ⟨rfl, hb⟩
      have HT := Lib.hid (HT.out.below hb)
      clear hb
      go_wp2_with fail
      (with_reducible refine (HP.out _).mono ?_)
      rintro e V4 ⟨rfl, hb⟩
      have HT := Lib.hid (HT.out.below hb)
      clear hb
      have c0 : V4.cell? ⟨w.heap.size, 0, none⟩ = some (.string ⟨#[]⟩) := cell_of_row _ _ 0 _ 23 (0, 0) HT.out.g
      have c1 : V4.cell? ⟨w.heap.size, 1, none⟩ = some (.int .i64 0) := cell_of_row _ _ 1 _ 23 (0, 0) HT.out.g
      have f0 : V4.frozen? ⟨w.heap.size, 0, none⟩ = false := frozen_of_row _ _ _ _ _ HT.out.g
      have f1 : V4.frozen? ⟨w.heap.size, 1, none⟩ = false := frozen_of_row _ _ _ _ _ HT.out.g
      go_wp2
      (try simp only [Exit.inBlock, Exit.then])
      refine addr_end (HT.out.put _ _ HE.out) rfl ?_
      exact ⟨rfl, (HT.out.put _ _ HE.out).b⟩
  · have hbr1 : Lib.hasPrefix s [91] = false := by simpa using hbr
    have hbr' : pBr s = false := hbr1
    rw [hbr1] at hCP
    simp only [hbr', Bool.false_eq_true, if_false] at HCUT ⊢
    have HCP := Lib.hid hCP
    clear hCP hbr hbr1 hbr' H6
    generalize fourR (pA s) = hr at H4 ⊢
    generalize bs (fourL (pA s)) = X at H4 ⊢
    generalize bs (pA s) = A at H4 HCUT
    generalize bs (pB s) = B at HP HCUT
    change Hid (∀ W, Calls Tryz.prog 49 #[.string (bs s), .string ⟨#[91]⟩] W fun e w' => e = .returned (.tuple #[.string (bs (Lib.trimPrefix s [91])), .bool false]) ∧ w' = W) at HCP
    change Hid (∀ W, Env W → Calls Tryz.prog 34 #[.string (bs (Lib.trimPrefix s [91])), .string ⟨#[58]⟩] W _) at HCUT
    generalize bs (Lib.trimPrefix s [91]) = R at HCP HCUT
    generalize bs s = S at HCP ⊢
    rcases hr with _ | _ <;> rcases pr with _ | _
    all_goals
      go_enter Tryz.func18, Tryz.ntmps18
      go_upto_region 2 with fail
      generalize hV : World.alloc w _ = V at HT ⊢
      clear hV
      go_wp2_with fail
      (with_reducible refine (HCP.out _).mono ?_)
      rintro e V1 ⟨rfl, rfl⟩
      go_wp2_with fail
      (with_reducible refine (HCUT.out _ HT.out.e).mono ?_)
      rintro e V2 ⟨⟨fb, rfl⟩, hb⟩
      have HT := Lib.hid (HT.out.below hb)
      clear hb
      go_wp2_with fail
      (with_reducible refine (H4.out _).mono ?_)
      rintro e V3 ⟨rfl, hb⟩
      have HT := Lib.hid (HT.out.below hb)
      clear hb
      go_wp2_with fail
      (with_reducible refine (HP.out _).mono ?_)
      rintro e V4 ⟨rfl, hb⟩
      have HT := Lib.hid (HT.out.below hb)
      clear hb
      have c0 : V4.cell? ⟨w.heap.size, 0, none⟩ = some (.string ⟨#[]⟩) := cell_of_row _ _ 0 _ 23 (0, 0) HT.out.g
      have c1 : V4.cell? ⟨w.heap.size, 1, none⟩ = some (.int .i64 0) := cell_of_row _ _ 1 _ 23 (0, 0) HT.out.g
      have f0 : V4.frozen? ⟨w.heap.size, 0, none⟩ = false := frozen_of_row _ _ _ _ _ HT.out.g
      have f1 : V4.frozen? ⟨w.heap.size, 1, none⟩ = false := frozen_of_row _ _ _ _ _ HT.out.g
      go_wp2
      (try simp only [Exit.inBlock, Exit.then])
      refine addr_end (HT.out.put _ _ HE.out) rfl ?_
      exact ⟨rfl, (HT.out.put _ _ HE.out).b⟩
end Go.Proofs.YtjoogiabimiioaaGreatDoor
