/- The walk of DigestSums. -/
import Derived.Test.YtfdeegafdaobdaaDoorSA
namespace Go.Proofs.YtfdeegafdaobdaaDoor
open Go.RowKit Go.ChangeShapes
set_option maxRecDepth 100000 in
set_option maxHeartbeats 4000000 in
theorem sums_true (s t : ByteArray) (n k : Nat) (w : World) (hD : Digits w) (hs : s.size ≤ maxLen) (ht : t.size ≤ maxLen) (hn : n ≤ 65535) (hk : k ≤ 255) :
    Calls Tryd.prog 3 #[.string s, .string t, .int .u16 n, .int .u8 k] w fun e w' => e = .returned (.bool true) ∧ Below w.heap.size w w' := by
  unfold maxLen at hs ht
  obtain ⟨x, hx, hcx⟩ := lawcut_bs s (by omega)
  obtain ⟨y, hy, hcy⟩ := lawcut_bs t (by omega)
  obtain ⟨z, hz, hcz⟩ := grown_any x n hx hn
  have HX := Lib.hid hcx
  have HY := Lib.hid hcy
  have HZ := Lib.hid hcz
  obtain ⟨m, hm⟩ : ∃ m, 2 + k % 2 = m := ⟨_, rfl⟩
  have hmi : 2 + (k : Int) % 2 = (m : Int) := by omega
  have hm3 : m ≤ 3 := by omega
  clear hcx hcy hcz hm
  go_enter Tryd.func3, Tryd.ntmps3
  go_wp2_with (first
    | (go_at_call 10; (with_reducible refine (works_true _ hD).mono ?_); rintro e w1 ⟨rfl, hb1⟩)
    | (go_at_call 11; (with_reducible refine (HX.out _).mono ?_); rintro e V ⟨rfl, rfl⟩)
    | (go_at_call 11; (with_reducible refine (HY.out _).mono ?_); rintro e V ⟨rfl, rfl⟩)
    | (go_at_call 12; (with_reducible refine (rconstT _).mono ?_); rintro e w2 ⟨gs, cs, gk, ck, rfl, hT2, hb2⟩)
    | (go_at_call 13; (with_reducible refine (HZ.out _).mono ?_); rintro e w3 ⟨rfl, hb3⟩))
  have L0 : LW w (w3.alloc (.cells #[.string (bs y), .string (bs x), .string (bs y), .string (bs z), .string (bs z), .string (bs y)] 31)) gs gk
      [(w2.heap.size, 0, .slice (some ⟨gs, 0, none⟩) 8 cs), (w2.heap.size, 1, .slice (some ⟨gk, 0, none⟩) 64 ck), (w3.heap.size, 0, .string (bs y)), (w3.heap.size, 1, .string (bs x)), (w3.heap.size, 2, .string (bs y)), (w3.heap.size, 3, .string (bs z)), (w3.heap.size, 4, .string (bs z)), (w3.heap.size, 5, .string (bs y))] := by
    have A2 : LW w w2 gs gk [] := ⟨bstep hb1 hb2, hT2, fun _ h => absurd h List.not_mem_nil⟩
    have hn := heap_alloc_new w2 (.cells #[.slice (some ⟨gs, 0, none⟩) 8 cs, .slice (some ⟨gk, 0, none⟩) 64 ck] 27)
    have A3 := (((A2.al (.cells #[.slice (some ⟨gs, 0, none⟩) 8 cs, .slice (some ⟨gk, 0, none⟩) 64 ck] 27)).add w2.heap.size 1 _ (cell_of_row _ _ 1 _ 27 (0, 0) hn) (by simp)).add w2.heap.size 0 _ (cell_of_row _ _ 0 _ 27 (0, 0) hn) (by simp)).step hb3
    have hn3 := heap_alloc_new w3 (.cells #[.string (bs y), .string (bs x), .string (bs y), .string (bs z), .string (bs z), .string (bs y)] 31)
    have A4 := A3.al (.cells #[.string (bs y), .string (bs x), .string (bs y), .string (bs z), .string (bs z), .string (bs y)] 31)
    refine ⟨A4.b, A4.t, fun q hq => ?_⟩
    simp only [List.mem_cons, List.not_mem_nil, or_false] at hq
    rcases hq with rfl | rfl | rfl | rfl | rfl | rfl | rfl | rfl
    · exact A4.c _ (by simp)
    · exact A4.c _ (by simp)
    · exact ⟨cell_of_row _ _ 0 _ 31 (0, 0) hn3, by simp⟩
    · exact ⟨cell_of_row _ _ 1 _ 31 (0, 0) hn3, by simp⟩
    · exact ⟨cell_of_row _ _ 2 _ 31 (0, 0) hn3, by simp⟩
    · exact ⟨cell_of_row _ _ 3 _ 31 (0, 0) hn3, by simp⟩
    · exact ⟨cell_of_row _ _ 4 _ 31 (0, 0) hn3, by simp⟩
    · exact ⟨cell_of_row _ _ 5 _ 31 (0, 0) hn3, by simp⟩
  have HL0 := Lib.hid L0
  clear L0 hT2 hb1 hb2 hb3
  generalize w3.alloc (.cells #[.string (bs y), .string (bs x), .string (bs y), .string (bs z), .string (bs z), .string (bs y)] 31) = wo at HL0 ⊢
  generalize w3.heap.size = G at HL0 ⊢
  generalize w2.heap.size = T at HL0 ⊢
  clear HX HY HZ
  have HP : Hid (∀ (wr : World), LW w wr gs gk [(T, 0, .slice (some ⟨gs, 0, none⟩) 8 cs), (T, 1, .slice (some ⟨gk, 0, none⟩) 64 ck), (G, 0, .string (bs y)), (G, 1, .string (bs x)), (G, 2, .string (bs y)), (G, 3, .string (bs z)), (G, 4, .string (bs z)), (G, 5, .string (bs y))] →
      ∀ j, j < 3 → ∃ a b : List UInt8, a.length ≤ 4199 ∧ b.length ≤ 4199 ∧ wr.cell? ⟨G, j * 2, none⟩ = some (.string (bs a)) ∧ wr.cell? ⟨G, j * 2 + 1, none⟩ = some (.string (bs b))) := Lib.hid fun wr L j hj => by
    rcases (by omega : j = 0 ∨ j = 1 ∨ j = 2) with rfl | rfl | rfl
    · exact ⟨y, x, by omega, by omega, L.get G 0 _ (by simp), L.get G 1 _ (by simp)⟩
    · exact ⟨y, z, by omega, by omega, L.get G 2 _ (by simp), L.get G 3 _ (by simp)⟩
    · exact ⟨z, y, by omega, by omega, L.get G 4 _ (by simp), L.get G 5 _ (by simp)⟩
  obtain ⟨C, hC⟩ : ∃ C, [(T, 0, Value.slice (some ⟨gs, 0, none⟩) 8 cs), (T, 1, .slice (some ⟨gk, 0, none⟩) 64 ck), (G, 0, .string (bs y)), (G, 1, .string (bs x)), (G, 2, .string (bs y)), (G, 3, .string (bs z)), (G, 4, .string (bs z)), (G, 5, .string (bs y))] = C := ⟨_, rfl⟩
  rw [hC] at HL0 HP
  have HC0 : Hid ((T, 0, Value.slice (some ⟨gs, 0, none⟩) 8 cs) ∈ C ∧ (T, 1, Value.slice (some ⟨gk, 0, none⟩) 64 ck) ∈ C) := Lib.hid (by rw [← hC]; exact ⟨by simp, by simp⟩)
  clear hC
  go_loopw [45] (fun i wr => ∃ j : Nat, j ≤ m ∧ i = .int .i64 (j : Int) ∧ Hid (LW w wr gs gk C)) (fun i _ => 3 - (intOf i).toNat)
  case atStart => exact ⟨0, by omega, rfl, HL0⟩
  case round =>
    clear HL0
    obtain ⟨j, hj, rfl, HL⟩ := hrel
    by_cases hlt : j < m
    · obtain ⟨a, b, ha, hb, ca, cb⟩ := HP.out wr HL.out j (by omega)
      have jm : (j : Int) < (m : Int) := by omega
      have j3 : (j : Int) < 3 := by omega
      have az : (bs a).size ≤ 4199 := by rw [bs_size]; exact ha
      have bz : (bs b).size ≤ 4199 := by rw [bs_size]; exact hb
      have L1 := (HL.out.pair (.string (bs a)) (.string (bs b)) 31)
      have L2 := L1.one (.string (bs b)) 9
      simp only [World.size_alloc] at L2
      have q0 := L2.get _ 0 _ List.mem_cons_self
      have HL1 := Lib.hid L2.tail
      clear L1 L2
      go_wp2_with fail
      clear ca cb
      change Calls _ _ _ ((wr.alloc (.cells #[.string (bs a), .string (bs b)] 31)).alloc (.cells #[.string (bs b)] 9)) _
      generalize (wr.alloc (.cells #[.string (bs a), .string (bs b)] 31)).alloc (.cells #[.string (bs b)] 9) = V1 at HL1 q0 ⊢
      generalize wr.heap.size = P at HL1 q0 ⊢
      have p0 := HL1.out.get P 0 _ List.mem_cons_self
      have p1 := HL1.out.get P 1 _ (List.mem_cons_of_mem _ List.mem_cons_self)
      have t0 := HL1.out.get T 0 _ (List.mem_cons_of_mem _ (List.mem_cons_of_mem _ HC0.out.1))
      have t1 := HL1.out.get T 1 _ (List.mem_cons_of_mem _ (List.mem_cons_of_mem _ HC0.out.2))
      by_cases hbl : 4096 < (bs b).size
      · have n1 := ovr_yes (l := [bs b]) (by simp [lng, hbl])
        have n2 := ovr_yes (l := [bs a, bs b]) (by simp [lng, hbl])
        have N1 := Lib.hid n1
        have N2 := Lib.hid n2
        have m2 : lng [bs a, bs b] = true := by simp [lng, hbl]
        have M2 := Lib.hid m2
        clear n1 n2 m2
        (with_reducible refine (over1 (bs b) 3 _ _ N1.out (by omega) q0).mono ?_)
        rintro e V ⟨rfl, rfl⟩
        clear q0
        go_wp2_with fail
        (with_reducible refine (sum_long (bs b) _ hbl (by omega)).mono ?_)
        rintro e V2 ⟨rfl, hb⟩
        have HL2 := Lib.hid (HL1.out.step hb)
        clear hb p0 p1 t0 t1
        have p0 := HL2.out.get P 0 _ List.mem_cons_self
        have p1 := HL2.out.get P 1 _ (List.mem_cons_of_mem _ List.mem_cons_self)
        have t0 := HL2.out.get T 0 _ (List.mem_cons_of_mem _ (List.mem_cons_of_mem _ HC0.out.1))
        have t1 := HL2.out.get T 1 _ (List.mem_cons_of_mem _ (List.mem_cons_of_mem _ HC0.out.2))
        go_wp2_with fail
        (with_reducible refine (told_no 3 _ _ (by decide)).mono ?_)
        rintro e V ⟨rfl, rfl⟩
        go_wp2_with fail
        have L2 := HL2.out.pair (.string (bs a)) (.string (bs b)) 9
        have q0 := L2.get _ 0 _ List.mem_cons_self
        have q1 := L2.get _ 1 _ (List.mem_cons_of_mem _ List.mem_cons_self)
        have HL3 := Lib.hid L2.tail.tail
        clear L2 p0 p1 t0 t1
        change Calls _ _ _ (V2.alloc (.cells #[.string (bs a), .string (bs b)] 9)) _
        generalize V2.alloc (.cells #[.string (bs a), .string (bs b)] 9) = U at HL3 q0 q1 ⊢
        generalize V2.heap.size = P2 at q0 q1 ⊢
        have p0 := HL3.out.get P 0 _ List.mem_cons_self
        have p1 := HL3.out.get P 1 _ (List.mem_cons_of_mem _ List.mem_cons_self)
        have t0 := HL3.out.get T 0 _ (List.mem_cons_of_mem _ (List.mem_cons_of_mem _ HC0.out.1))
        have t1 := HL3.out.get T 1 _ (List.mem_cons_of_mem _ (List.mem_cons_of_mem _ HC0.out.2))
        (with_reducible refine (over2 (bs a) (bs b) 3 P2 _ N2.out (by omega) (by omega) q0 q1).mono ?_)
        rintro e V ⟨rfl, rfl⟩
        clear q0 q1
        go_wp2_with fail
        (with_reducible refine (mac_long (bs a) (bs b) _ M2.out (by omega) (by omega)).mono ?_)
        rintro e V4 ⟨rfl, hb⟩
        have HL4 := Lib.hid (HL3.out.step hb)
        clear hb p0 p1 t0 t1
        have p0 := HL4.out.get P 0 _ List.mem_cons_self
        have p1 := HL4.out.get P 1 _ (List.mem_cons_of_mem _ List.mem_cons_self)
        have t0 := HL4.out.get T 0 _ (List.mem_cons_of_mem _ (List.mem_cons_of_mem _ HC0.out.1))
        have t1 := HL4.out.get T 1 _ (List.mem_cons_of_mem _ (List.mem_cons_of_mem _ HC0.out.2))
        go_wp2_with fail
        (with_reducible refine (told_no 3 _ _ (by decide)).mono ?_)
        rintro e V ⟨rfl, rfl⟩
        go_wp2
        go_roundw
        case rel => exact ⟨j + 1, by omega, by go_num, Lib.hid HL4.out.tail.tail⟩
        case measure => simp [intOf]; omega
      · have hb4 : b.length ≤ 4096 := by rw [bs_size] at hbl; omega
        have n1 := ovr_no (l := [bs b]) (by simp [lng, hbl])
        have N1 := Lib.hid n1
        clear n1
        (with_reducible refine (over1 (bs b) 0 _ _ N1.out (by omega) q0).mono ?_)
        rintro e V ⟨rfl, rfl⟩
        clear q0
        go_wp2_with fail
        (with_reducible refine (sum_ok b _ hb4).mono ?_)
        rintro e V2 ⟨rfl, hb⟩
        have HL2 := Lib.hid (HL1.out.step hb)
        clear hb p0 p1 t0 t1
        have p0 := HL2.out.get P 0 _ List.mem_cons_self
        have p1 := HL2.out.get P 1 _ (List.mem_cons_of_mem _ List.mem_cons_self)
        have t0 := HL2.out.get T 0 _ (List.mem_cons_of_mem _ (List.mem_cons_of_mem _ HC0.out.1))
        have t1 := HL2.out.get T 1 _ (List.mem_cons_of_mem _ (List.mem_cons_of_mem _ HC0.out.2))
        go_wp2_with fail
        (with_reducible refine (rSum b (by omega) gs cs gk ck _ HL2.out.t).mono ?_)
        rintro e V3 ⟨rfl, hb⟩
        have HL3 := Lib.hid (HL2.out.step hb)
        clear hb p0 p1 t0 t1
        have p0 := HL3.out.get P 0 _ List.mem_cons_self
        have p1 := HL3.out.get P 1 _ (List.mem_cons_of_mem _ List.mem_cons_self)
        have t0 := HL3.out.get T 0 _ (List.mem_cons_of_mem _ (List.mem_cons_of_mem _ HC0.out.1))
        have t1 := HL3.out.get T 1 _ (List.mem_cons_of_mem _ (List.mem_cons_of_mem _ HC0.out.2))
        go_wp2_with fail
        (with_reducible refine (told_yes _ _).mono ?_)
        rintro e V ⟨rfl, rfl⟩
        by_cases hal : 4096 < (bs a).size
        · have n2 := ovr_yes (l := [bs a, bs b]) (by simp [lng, hal])
          have m2 : lng [bs a, bs b] = true := by simp [lng, hal]
          have M2 := Lib.hid m2
          have N2 := Lib.hid n2
          clear n2 m2
          go_wp2_with fail
          have L2 := HL3.out.pair (.string (bs a)) (.string (bs b)) 9
          have q0 := L2.get _ 0 _ List.mem_cons_self
          have q1 := L2.get _ 1 _ (List.mem_cons_of_mem _ List.mem_cons_self)
          have HL4 := Lib.hid L2.tail.tail
          clear L2 p0 p1 t0 t1
          change Calls _ _ _ (V3.alloc (.cells #[.string (bs a), .string (bs b)] 9)) _
          generalize V3.alloc (.cells #[.string (bs a), .string (bs b)] 9) = U at HL4 q0 q1 ⊢
          generalize V3.heap.size = P2 at q0 q1 ⊢
          have p0 := HL4.out.get P 0 _ List.mem_cons_self
          have p1 := HL4.out.get P 1 _ (List.mem_cons_of_mem _ List.mem_cons_self)
          have t0 := HL4.out.get T 0 _ (List.mem_cons_of_mem _ (List.mem_cons_of_mem _ HC0.out.1))
          have t1 := HL4.out.get T 1 _ (List.mem_cons_of_mem _ (List.mem_cons_of_mem _ HC0.out.2))
          (with_reducible refine (over2 (bs a) (bs b) 3 P2 _ N2.out (by omega) (by omega) q0 q1).mono ?_)
          rintro e V ⟨rfl, rfl⟩
          clear q0 q1
          go_wp2_with fail
          (with_reducible refine (mac_long (bs a) (bs b) _ M2.out (by omega) (by omega)).mono ?_)
          rintro e V5 ⟨rfl, hb⟩
          have HL5 := Lib.hid (HL4.out.step hb)
          clear hb p0 p1 t0 t1
          have p0 := HL5.out.get P 0 _ List.mem_cons_self
          have p1 := HL5.out.get P 1 _ (List.mem_cons_of_mem _ List.mem_cons_self)
          have t0 := HL5.out.get T 0 _ (List.mem_cons_of_mem _ (List.mem_cons_of_mem _ HC0.out.1))
          have t1 := HL5.out.get T 1 _ (List.mem_cons_of_mem _ (List.mem_cons_of_mem _ HC0.out.2))
          go_wp2_with fail
          (with_reducible refine (told_no 3 _ _ (by decide)).mono ?_)
          rintro e V ⟨rfl, rfl⟩
          go_wp2
          go_roundw
          case rel => exact ⟨j + 1, by omega, by go_num, Lib.hid HL5.out.tail.tail⟩
          case measure => simp [intOf]; omega
        · have ha4 : a.length ≤ 4096 := by rw [bs_size] at hal; omega
          have n2 := ovr_no (l := [bs a, bs b]) (by simp [lng, hal, hbl])
          have N2 := Lib.hid n2
          clear n2
          go_wp2_with fail
          have L2 := HL3.out.pair (.string (bs a)) (.string (bs b)) 9
          have q0 := L2.get _ 0 _ List.mem_cons_self
          have q1 := L2.get _ 1 _ (List.mem_cons_of_mem _ List.mem_cons_self)
          have HL4 := Lib.hid L2.tail.tail
          clear L2 p0 p1 t0 t1
          change Calls _ _ _ (V3.alloc (.cells #[.string (bs a), .string (bs b)] 9)) _
          generalize V3.alloc (.cells #[.string (bs a), .string (bs b)] 9) = U at HL4 q0 q1 ⊢
          generalize V3.heap.size = P2 at q0 q1 ⊢
          have p0 := HL4.out.get P 0 _ List.mem_cons_self
          have p1 := HL4.out.get P 1 _ (List.mem_cons_of_mem _ List.mem_cons_self)
          have t0 := HL4.out.get T 0 _ (List.mem_cons_of_mem _ (List.mem_cons_of_mem _ HC0.out.1))
          have t1 := HL4.out.get T 1 _ (List.mem_cons_of_mem _ (List.mem_cons_of_mem _ HC0.out.2))
          (with_reducible refine (over2 (bs a) (bs b) 0 P2 _ N2.out (by omega) (by omega) q0 q1).mono ?_)
          rintro e V ⟨rfl, rfl⟩
          clear q0 q1
          go_wp2_with fail
          (with_reducible refine (mac_ok a b _ ha4 hb4).mono ?_)
          rintro e V5 ⟨rfl, hb⟩
          have HL5 := Lib.hid (HL4.out.step hb)
          clear hb p0 p1 t0 t1
          have p0 := HL5.out.get P 0 _ List.mem_cons_self
          have p1 := HL5.out.get P 1 _ (List.mem_cons_of_mem _ List.mem_cons_self)
          have t0 := HL5.out.get T 0 _ (List.mem_cons_of_mem _ (List.mem_cons_of_mem _ HC0.out.1))
          have t1 := HL5.out.get T 1 _ (List.mem_cons_of_mem _ (List.mem_cons_of_mem _ HC0.out.2))
          go_wp2_with fail
          (with_reducible refine (rMac a b (by omega) (by omega) gs cs gk ck _ HL5.out.t).mono ?_)
          rintro e V6 ⟨rfl, hb⟩
          have HL6 := Lib.hid (HL5.out.step hb)
          clear hb p0 p1 t0 t1
          have p0 := HL6.out.get P 0 _ List.mem_cons_self
          have p1 := HL6.out.get P 1 _ (List.mem_cons_of_mem _ List.mem_cons_self)
          have t0 := HL6.out.get T 0 _ (List.mem_cons_of_mem _ (List.mem_cons_of_mem _ HC0.out.1))
          have t1 := HL6.out.get T 1 _ (List.mem_cons_of_mem _ (List.mem_cons_of_mem _ HC0.out.2))
          go_wp2_with fail
          (with_reducible refine (told_yes _ _).mono ?_)
          rintro e V ⟨rfl, rfl⟩
          go_wp2
          go_roundw
          case rel => exact ⟨j + 1, by omega, by go_num, Lib.hid HL6.out.tail.tail⟩
          case measure => simp [intOf]; omega
    · go_wp2
      go_ret
      exact ⟨rfl, HL.out.b⟩
end Go.Proofs.YtfdeegafdaobdaaDoor
