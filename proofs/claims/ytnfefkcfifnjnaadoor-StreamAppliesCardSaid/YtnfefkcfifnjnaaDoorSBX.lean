/- The walk of StreamBlocks. -/
import Derived.Test.YtnfefkcfifnjnaaDoorSZ
import Derived.Test.YtnfefkcfifnjnaaDoorRH
import Derived.Test.YtnfefkcfifnjnaaDoorG
import Derived.Deep.QuietTactic
import Derived.BigQuiet
import Derived.Deep.Cut
namespace Go.Proofs.YtnfefkcfifnjnaaDoor
open Go.RowKit Go.ChangeShapes
/-- The first n octets, at most. -/
theorem cut_n (s : ByteArray) (n : Nat) (y : Int) (hy : y = (n : Int)) : ∃ (m : Nat) (z : List UInt8), s.extract 0 m = bs z ∧ z.length ≤ n ∧ min (s.size : Int) y = (m : Int) ∧ (m : Int) ≤ (s.size : Int) := by
  subst hy
  refine ⟨min s.size n, (s.extract 0 (min s.size n)).data.toList, rfl, ?_, ?_, by omega⟩
  · have : (s.extract 0 (min s.size n)).size ≤ n := by rw [ByteArray.size_extract]; omega
    exact this
  · omega
/-- The three asks. -/
def askC (k0 n0 k n : ByteArray) (x : Int) (c : Nat) : Array Value := #[.string k0, .string n0, .int .i64 x, .string k, .string n, .int .i64 x, .string k, .string n, .int .i64 (c : Int)]
def pk3 {α : Type} (a b c : α) (i : Nat) : α := if i = 0 then a else if i = 1 then b else c
theorem ask_idx (k0 n0 k n : ByteArray) (x : Int) (c i : Nat) (w : World) (h : i < 3) : (Instr.index 60 (.agg (askC k0 n0 k n x c)) (.int .i64 (i : Int))).run Tryd.prog w = .ok (.agg #[.string (pk3 k0 k k i), .string (pk3 n0 n n i), .int .i64 (pk3 x x (c : Int) i)]) w := by
  rcases (by omega : i = 0 ∨ i = 1 ∨ i = 2) with rfl | rfl | rfl
  · kernel_rfl
  · kernel_rfl
  · kernel_rfl
/-- A block of three cells beside what stays, behind a call. -/
theorem Wk.cell3 {w W V : World} {ps : List (Nat × Obj)} {x y z : Value} {t : TypeId} (h : Wk w W ps) (hb : Below (W.alloc (.cells #[x, y, z] t)).heap.size (W.alloc (.cells #[x, y, z] t)) V) :
    Wk w V ps ∧ (V.cell? ⟨W.heap.size, 0, none⟩ = some x ∧ V.cell? ⟨W.heap.size, 1, none⟩ = some y ∧ V.cell? ⟨W.heap.size, 2, none⟩ = some z) ∧ W.heap.size < V.heap.size := by
  have hz : W.heap.size < (W.alloc (.cells #[x, y, z] t)).heap.size := by simp
  have hh := heap_alloc_new W (.cells #[x, y, z] t)
  exact ⟨(h.alloc _).step hb, ⟨(hb.cell (p := ⟨W.heap.size, 0, none⟩) hz).trans (cell_of_row _ _ 0 _ t (0, 0) hh), (hb.cell (p := ⟨W.heap.size, 1, none⟩) hz).trans (cell_of_row _ _ 1 _ t (0, 0) hh), (hb.cell (p := ⟨W.heap.size, 2, none⟩) hz).trans (cell_of_row _ _ 2 _ t (0, 0) hh)⟩, Nat.lt_of_lt_of_le hz hb.size⟩
theorem askC_one (k0 n0 k n : ByteArray) (x : Int) (c : Nat) : (askC k0 n0 k n x c).all (·.oneCell') = true := by simp [askC, Value.oneCell']
theorem askC_size (k0 n0 k n : ByteArray) (x : Int) (c : Nat) : (Tryd.prog.info? 60).map (·.size) = some (askC k0 n0 k n x c).size := by kernel_rfl
theorem size60 : (Tryd.prog.info? 60).map (·.size) = some 9 := by kernel_rfl
set_option maxRecDepth 1000000 in
set_option maxHeartbeats 4000000 in
theorem asks_any (s1 s2 : ByteArray) (x : Int) (c : Nat) (w : World) (_h1 : s1.size ≤ maxLen) (_h2 : s2.size ≤ maxLen) (hc : c ≤ 4294967295) :
    ∃ z1 z2 : List UInt8, Calls Tryd.prog 32 #[.string s1, .string s2, .int .i64 x, .int .u32 (c : Int)] w fun e w' => e = .returned (.agg (askC (bs z1) (bs z2) (bs (sizL z1 32)) (bs (sizL z2 12)) x c)) ∧ Below w.heap.size w w' := by
  unfold maxLen at _h1 _h2
  obtain ⟨m1, z1, hz1, hl1, i1, j1⟩ := cut_n s1 40 40 rfl
  obtain ⟨m2, z2, hz2, hl2, i2, j2⟩ := cut_n s2 40 40 rfl
  refine ⟨z1, z2, ?_⟩
  have q1 : ∀ w, Calls Tryd.prog 14 #[.string (bs z1), .int .i64 32] w fun e w' => e = .returned (.string (bs (sizL z1 32))) ∧ Below w.heap.size w w' := fun w => sized_any z1 32 w (by decide) (by omega)
  have q2 : ∀ w, Calls Tryd.prog 14 #[.string (bs z2), .int .i64 12] w fun e w' => e = .returned (.string (bs (sizL z2 12))) ∧ Below w.heap.size w w' := fun w => sized_any z2 12 w (by decide) (by omega)
  have hcw : IntKind.i64.wrap (c : Int) = (c : Int) := IntWalk.i64_in _ (by omega)
  obtain ⟨A, hA⟩ : ∃ Y : ByteArray, bs z1 = Y := ⟨_, rfl⟩
  obtain ⟨B, hB⟩ : ∃ Y : ByteArray, bs z2 = Y := ⟨_, rfl⟩
  obtain ⟨K, hK⟩ : ∃ Y : ByteArray, bs (sizL z1 32) = Y := ⟨_, rfl⟩
  obtain ⟨N, hN⟩ : ∃ Y : ByteArray, bs (sizL z2 12) = Y := ⟨_, rfl⟩
  rw [hA] at hz1 q1 ⊢
  rw [hB] at hz2 q2 ⊢
  rw [hK] at q1 ⊢
  rw [hN] at q2 ⊢
  have Q1 := Lib.hid q1
  have Q2 := Lib.hid q2
  clear q1 q2 hA hB hK hN hl1 hl2
  go_enter Tryd.func32, Tryd.ntmps32
  go_wp2
  go_quiet (fail)
  have h0 : (w.alloc (.cells #[.string ⟨#[]⟩, .string ⟨#[]⟩, .int .i64 0, .string ⟨#[]⟩, .string ⟨#[]⟩, .int .i64 0, .string ⟨#[]⟩, .string ⟨#[]⟩, .int .i64 0] 60)).heap[w.heap.size]? = some (.cells #[.string ⟨#[]⟩, .string ⟨#[]⟩, .int .i64 0, .string ⟨#[]⟩, .string ⟨#[]⟩, .int .i64 0, .string ⟨#[]⟩, .string ⟨#[]⟩, .int .i64 0] 60 (0, 0)) := heap_alloc_new w _
  have hB0 : Below w.heap.size w ((w.alloc (.cells #[.string ⟨#[]⟩, .string ⟨#[]⟩, .int .i64 0, .string ⟨#[]⟩, .string ⟨#[]⟩, .int .i64 0, .string ⟨#[]⟩, .string ⟨#[]⟩, .int .i64 0] 60)).drewN nq) := ((Below.refl _ w).alloc (Nat.le_refl _) _).trans ((bel_drewR _ nq).mono (by rw [World.size_alloc]; omega))
  have hz0 : w.heap.size < ((w.alloc (.cells #[.string ⟨#[]⟩, .string ⟨#[]⟩, .int .i64 0, .string ⟨#[]⟩, .string ⟨#[]⟩, .int .i64 0, .string ⟨#[]⟩, .string ⟨#[]⟩, .int .i64 0] 60)).drewN nq).heap.size := by rw [show ((w.alloc (.cells #[.string ⟨#[]⟩, .string ⟨#[]⟩, .int .i64 0, .string ⟨#[]⟩, .string ⟨#[]⟩, .int .i64 0, .string ⟨#[]⟩, .string ⟨#[]⟩, .int .i64 0] 60)).drewN nq).heap = (w.alloc (.cells #[.string ⟨#[]⟩, .string ⟨#[]⟩, .int .i64 0, .string ⟨#[]⟩, .string ⟨#[]⟩, .int .i64 0, .string ⟨#[]⟩, .string ⟨#[]⟩, .int .i64 0] 60)).heap from rfl, World.size_alloc]; omega
  have h0' : ((w.alloc (.cells #[.string ⟨#[]⟩, .string ⟨#[]⟩, .int .i64 0, .string ⟨#[]⟩, .string ⟨#[]⟩, .int .i64 0, .string ⟨#[]⟩, .string ⟨#[]⟩, .int .i64 0] 60)).drewN nq).heap[w.heap.size]? = some (.cells #[.string ⟨#[]⟩, .string ⟨#[]⟩, .int .i64 0, .string ⟨#[]⟩, .string ⟨#[]⟩, .int .i64 0, .string ⟨#[]⟩, .string ⟨#[]⟩, .int .i64 0] 60 (0, 0)) := h0
  generalize ((w.alloc (.cells #[.string ⟨#[]⟩, .string ⟨#[]⟩, .int .i64 0, .string ⟨#[]⟩, .string ⟨#[]⟩, .int .i64 0, .string ⟨#[]⟩, .string ⟨#[]⟩, .int .i64 0] 60)).drewN nq) = W0 at hB0 hz0 h0' ⊢
  clear h0
  go_wp2_with (first
    | (go_at_call 14; (with_reducible refine (Q1.out _).mono ?_); rintro e V ⟨rfl, hb1⟩)
    | (go_at_call 14; (with_reducible refine (Q2.out _).mono ?_); rintro e V2 ⟨rfl, hb2⟩; have HB := Lib.hid ((hB0.trans (hb1.mono hB0.size)).trans (hb2.mono (hB0.trans (hb1.mono hB0.size)).size)); have HR := Lib.hid ((hb2.block _ (Nat.lt_of_lt_of_le hz0 hb1.size)).trans ((hb1.block _ hz0).trans h0')))
    | (refine wpList_store_row rfl 60 _ _ rfl w.heap.size (askC A B K N x c) rfl rfl 60 _ HR.out (askC_size _ _ _ _ _ _) rfl (askC_one _ _ _ _ _ _) ?_))
  exact bodyPost_ret (v := .agg (askC A B K N x c)) (results_cell_row (p := 8) (ty := 60) Tryd.results32 _ _ w.heap.size 60 _ (0, 0) _ rfl (setRow_heap _ _ _ _ 60 _ HR.out) Tryd.underlying60 rfl (askC_size _ _ _ _ _ _)) rfl ⟨rfl, below_setRow HB.out (Nat.le_refl _) _⟩
set_option maxRecDepth 1000000 in
set_option maxHeartbeats 8000000 in
theorem blocks_true (s1 s2 : ByteArray) (x : Int) (c : Nat) (w : World) (hD : Digits w) (h1 : s1.size ≤ maxLen) (h2 : s2.size ≤ maxLen) (hc : c ≤ 4294967295) :
    Calls Tryd.prog 10 #[.string s1, .string s2, .int .i64 x, .int .u32 (c : Int)] w fun e w' => e = .returned (.bool true) ∧ Below w.heap.size w w' := by
  have K0 := Wk.start hD
  clear hD
  go_enter Tryd.func10, Tryd.ntmps10
  go_wp2_with fail
  refine (works_true _ K0.d).mono ?_
  rintro e W1 ⟨rfl, hb⟩
  have K1 := K0.step hb
  clear hb K0
  obtain ⟨z1, z2, ha⟩ := asks_any s1 s2 x c W1 h1 h2 hc
  have HA := Lib.hid ha
  clear ha h1 h2
  go_wp2_with (go_at_call 32; (with_reducible refine HA.out.mono ?_); rintro e W2 ⟨rfl, hb⟩; have K2 := K1.step hb; clear hb)
  have HK2 := Lib.hid K2
  clear K1 K2 HA
  have HIX := Lib.hid (ask_idx (bs z1) (bs z2) (bs (sizL z1 32)) (bs (sizL z2 12)) x c)
  generalize askC (bs z1) (bs z2) (bs (sizL z1 32)) (bs (sizL z2 12)) x c = AC at HIX ⊢
  go_loopw [20] (fun i wr => ∃ j : Nat, j ≤ 3 ∧ i = .int .i64 j ∧ Hid (Wk w wr [])) (fun i _ => 3 - (intOf i).toNat)
  case atStart => exact ⟨0, by omega, rfl, HK2⟩
  case round =>
    clear HK2
    obtain ⟨j, hj, rfl, HK⟩ := hrel
    by_cases hlt : j < 3
    · have hix := HIX.out j wr hlt
      obtain ⟨A, hA⟩ : ∃ Y, pk3 (bs z1) (bs (sizL z1 32)) (bs (sizL z1 32)) j = Y := ⟨_, rfl⟩
      obtain ⟨B, hB⟩ : ∃ Y, pk3 (bs z2) (bs (sizL z2 12)) (bs (sizL z2 12)) j = Y := ⟨_, rfl⟩
      obtain ⟨y, hy⟩ : ∃ Y, pk3 x x (c : Int) j = Y := ⟨_, rfl⟩
      rw [hA, hB, hy] at hix
      have j3 : (j : Int) < 3 := by omega
      clear hA hB hy
      cases hg : good A B y
      · have q1 := Lib.hid fun w => block_no A B y w hg
        have q2 : Hid (∀ w, Calls Tryd.prog 33 #[.string A, .string B, .int .i64 y] w fun e w' => e = .returned (.bool false) ∧ w = w') := Lib.hid fun w => by
          have := rright A B y w
          rw [hg] at this
          exact this
        clear hg
        go_wp2_with (first
          | (go_at_call 26; (with_reducible refine (q1.out _).mono ?_); rintro e V ⟨rfl, rfl⟩)
          | (go_at_call 33; (with_reducible refine (q2.out _).mono ?_); rintro e V ⟨rfl, rfl⟩))
        go_roundw
        case rel => exact ⟨j + 1, by omega, by go_num, Lib.hid (HK.out.alloc _)⟩
        case measure => simp [intOf]; omega
      · obtain ⟨h1, h2, h3, h4⟩ := of_decide_eq_true hg
        obtain ⟨n, rfl⟩ := Int.eq_ofNat_of_zero_le h3
        have hk := block_ok A.data.toList B.data.toList n
        have hr := rblock A.data.toList B.data.toList n
        rw [bs_of, bs_of] at hk hr
        obtain ⟨O, hO⟩ : ∃ Y, bs (blockO A.data.toList B.data.toList n) = Y := ⟨_, rfl⟩
        rw [hO] at hk hr
        have q1 := Lib.hid fun w => hk w h1 h2 (by omega)
        have q3 := Lib.hid fun w => hr w h1 h2 (by unfold isW; omega)
        have q2 : Hid (∀ w, Calls Tryd.prog 33 #[.string A, .string B, .int .i64 (n : Int)] w fun e w' => e = .returned (.bool true) ∧ w = w') := Lib.hid fun w => by
          have := rright A B n w
          rw [hg] at this
          exact this
        clear hg h1 h2 hk hr hO
        go_wp2_with (first
          | (go_at_call 26; (with_reducible refine (q1.out _).mono ?_); rintro e V ⟨rfl, hb⟩; obtain ⟨K3, hp3, hz3⟩ := HK.out.cell3 hb; clear hb)
          | (go_at_call 33; (with_reducible refine (q2.out _).mono ?_); rintro e V ⟨rfl, rfl⟩)
          | (go_at_call 34; (with_reducible refine (q3.out _).mono ?_); rintro e V ⟨rfl, hb⟩; have K4 := K3.step hb; clear hb))
        go_roundw
        case rel => exact ⟨j + 1, by omega, by go_num, Lib.hid K4⟩
        case measure => simp [intOf]; omega
    · obtain rfl : j = 3 := by omega
      go_wp2
      go_ret
      exact ⟨rfl, HK.out.b⟩
end Go.Proofs.YtnfefkcfifnjnaaDoor
