/- The walk of DigestDerives. -/
import Derived.Test.YtfdeegafdaobdaaDoorSA
namespace Go.Proofs.YtfdeegafdaobdaaDoor
open Go.RowKit Go.ChangeShapes
theorem idx9_0 (a b c d e f g h i : Value) (w : World) : (Instr.index 58 (.agg #[a, b, c, d, e, f, g, h, i]) (.int .i64 0)).run Tryd.prog w = .ok (.agg #[a, b, c]) w := by kernel_rfl
theorem idx9_1 (a b c d e f g h i : Value) (w : World) : (Instr.index 58 (.agg #[a, b, c, d, e, f, g, h, i]) (.int .i64 1)).run Tryd.prog w = .ok (.agg #[d, e, f]) w := by kernel_rfl
theorem idx9_2 (a b c d e f g h i : Value) (w : World) : (Instr.index 58 (.agg #[a, b, c, d, e, f, g, h, i]) (.int .i64 2)).run Tryd.prog w = .ok (.agg #[g, h, i]) w := by kernel_rfl
theorem lng3_le {a b c : List UInt8} (h : lng [bs a, bs b, bs c] = false) : a.length ≤ 4096 ∧ b.length ≤ 4096 ∧ c.length ≤ 4096 := by
  unfold lng at h
  have hh := List.any_eq_false.1 h
  have h1 : ¬ 4096 < a.length := fun e => hh (bs a) (by simp) (decide_eq_true e)
  have h2 : ¬ 4096 < b.length := fun e => hh (bs b) (by simp) (decide_eq_true e)
  have h3 : ¬ 4096 < c.length := fun e => hh (bs c) (by simp) (decide_eq_true e)
  omega
set_option maxRecDepth 100000 in
set_option maxHeartbeats 8000000 in
theorem derives_true (s t u : ByteArray) (n : Int) (k z : Nat) (w : World) (hD : Digits w) (hs : s.size ≤ maxLen) (ht : t.size ≤ maxLen) (hu : u.size ≤ maxLen) (hk : k ≤ 255) (hz : z ≤ 65535) :
    Calls Tryd.prog 5 #[.string s, .string t, .string u, .int .i64 n, .int .u8 k, .int .u16 z] w fun e w' => e = .returned (.bool true) ∧ Below w.heap.size w w' := by
  unfold maxLen at hs ht hu
  obtain ⟨x, hx, hcx⟩ := lawcut_bs s (by omega)
  obtain ⟨y, hy, hcy⟩ := lawcut_bs t (by omega)
  obtain ⟨v, hv, hcv⟩ := lawcut_bs u (by omega)
  obtain ⟨g, hg, hcg⟩ := grown_any v z hv hz
  have HX := Lib.hid hcx
  have HY := Lib.hid hcy
  have HV := Lib.hid hcv
  have HG := Lib.hid hcg
  clear hcx hcy hcv hcg
  go_enter Tryd.func5, Tryd.ntmps5
  go_wp2_with (first
    | (go_at_call 10; (with_reducible refine (works_true _ hD).mono ?_); rintro e w1 ⟨rfl, hb1⟩)
    | (go_at_call 11; (with_reducible refine (HX.out _).mono ?_); rintro e V ⟨rfl, rfl⟩)
    | (go_at_call 11; (with_reducible refine (HY.out _).mono ?_); rintro e V ⟨rfl, rfl⟩)
    | (go_at_call 11; (with_reducible refine (HV.out _).mono ?_); rintro e V ⟨rfl, rfl⟩)
    | (go_at_call 12; (with_reducible refine (rconstT _).mono ?_); rintro e w2 ⟨gs, cs, gk, ck, rfl, hT2, hb2⟩)
    | (go_at_call 13; (with_reducible refine (HG.out _).mono ?_); rintro e w3 ⟨rfl, hb3⟩))
  have L0 : LW w w3 gs gk [(w2.heap.size, 0, .slice (some ⟨gs, 0, none⟩) 8 cs), (w2.heap.size, 1, .slice (some ⟨gk, 0, none⟩) 64 ck)] := by
    have A2 : LW w w2 gs gk [] := ⟨bstep hb1 hb2, hT2, fun _ h => absurd h List.not_mem_nil⟩
    exact (A2.pair (.slice (some ⟨gs, 0, none⟩) 8 cs) (.slice (some ⟨gk, 0, none⟩) 64 ck) 27).step hb3
  have HL0 := Lib.hid L0
  clear L0 hT2 hb1 hb2 hb3
  generalize w2.heap.size = T at HL0 ⊢
  clear HX HY HV HG
  obtain ⟨C, hC⟩ : ∃ C, [(T, 0, Value.slice (some ⟨gs, 0, none⟩) 8 cs), (T, 1, .slice (some ⟨gk, 0, none⟩) 64 ck)] = C := ⟨_, rfl⟩
  rw [hC] at HL0
  have HC0 : Hid ((T, 0, Value.slice (some ⟨gs, 0, none⟩) 8 cs) ∈ C ∧ (T, 1, Value.slice (some ⟨gk, 0, none⟩) 64 ck) ∈ C) := Lib.hid (by rw [← hC]; exact ⟨by simp, by simp⟩)
  clear hC
  go_loopw [47] (fun i wr => ∃ j : Nat, j ≤ 3 ∧ i = .int .i64 (j : Int) ∧ Hid (LW w wr gs gk C)) (fun i _ => 3 - (intOf i).toNat)
  case atStart => exact ⟨0, by omega, rfl, HL0⟩
  case round =>
    clear HL0
    obtain ⟨j, hj, rfl, HL⟩ := hrel
    by_cases hlt : j < 3
    · rcases (by omega : j = 0 ∨ j = 1 ∨ j = 2) with rfl | rfl | rfl
      · have az : (bs x).size ≤ 4199 := by rw [bs_size]; omega
        have bz : (bs y).size ≤ 4199 := by rw [bs_size]; omega
        have cz : (bs v).size ≤ 4199 := by rw [bs_size]; omega
        have hix := idx9_0 (.string (bs x)) (.string (bs y)) (.string (bs v)) (.string (bs x)) (.string (bs g)) (.string (bs v)) (.string (bs g)) (.string (bs y)) (.string (bs v))
        rw [show ((0 : Nat) : Int) = 0 from rfl]
        have L1 := HL.out.three (.string (bs x)) (.string (bs y)) (.string (bs v)) 57
        have L2 := L1.three (.string (bs x)) (.string (bs y)) (.string (bs v)) 9
        simp only [World.size_alloc] at L2
        have q0 := L2.get _ 0 _ List.mem_cons_self
        have q1 := L2.get _ 1 _ (List.mem_cons_of_mem _ List.mem_cons_self)
        have q2 := L2.get _ 2 _ (List.mem_cons_of_mem _ (List.mem_cons_of_mem _ List.mem_cons_self))
        have HL1 := Lib.hid L2.tail.tail.tail
        clear L1 L2
        go_wp2_with fail
        clear hix
        change Calls _ _ _ ((wr.alloc (.cells #[.string (bs x), .string (bs y), .string (bs v)] 57)).alloc (.cells #[.string (bs x), .string (bs y), .string (bs v)] 9)) _
        generalize (wr.alloc (.cells #[.string (bs x), .string (bs y), .string (bs v)] 57)).alloc (.cells #[.string (bs x), .string (bs y), .string (bs v)] 9) = V1 at HL1 q0 q1 q2 ⊢
        generalize wr.heap.size = P at HL1 q0 q1 q2 ⊢
        have p0 := HL1.out.get P 0 _ List.mem_cons_self
        have p1 := HL1.out.get P 1 _ (List.mem_cons_of_mem _ List.mem_cons_self)
        have p2 := HL1.out.get P 2 _ (List.mem_cons_of_mem _ (List.mem_cons_of_mem _ List.mem_cons_self))
        have t0 := HL1.out.get T 0 _ (List.mem_cons_of_mem _ (List.mem_cons_of_mem _ (List.mem_cons_of_mem _ HC0.out.1)))
        have t1 := HL1.out.get T 1 _ (List.mem_cons_of_mem _ (List.mem_cons_of_mem _ (List.mem_cons_of_mem _ HC0.out.2)))
        by_cases hl : lng [bs x, bs y, bs v] = true
        · have n1 := ovr_yes hl
          have N1 := Lib.hid n1
          have M1 := Lib.hid hl
          clear n1 hl
          (with_reducible refine (over3 (bs x) (bs y) (bs v) 3 _ _ N1.out (by omega) (by omega) (by omega) q0 q1 q2).mono ?_)
          rintro e V ⟨rfl, rfl⟩
          clear q0 q1 q2
          go_wp2_with fail
          (with_reducible refine (derive_long (bs x) (bs y) (bs v) _ _ M1.out (by omega) (by omega) (by omega)).mono ?_)
          rintro e V2 ⟨rfl, hb⟩
          have HL2 := Lib.hid (HL1.out.step hb)
          clear hb p0 p1 p2 t0 t1
          have p0 := HL2.out.get P 0 _ List.mem_cons_self
          have p1 := HL2.out.get P 1 _ (List.mem_cons_of_mem _ List.mem_cons_self)
          have p2 := HL2.out.get P 2 _ (List.mem_cons_of_mem _ (List.mem_cons_of_mem _ List.mem_cons_self))
          have t0 := HL2.out.get T 0 _ (List.mem_cons_of_mem _ (List.mem_cons_of_mem _ (List.mem_cons_of_mem _ HC0.out.1)))
          have t1 := HL2.out.get T 1 _ (List.mem_cons_of_mem _ (List.mem_cons_of_mem _ (List.mem_cons_of_mem _ HC0.out.2)))
          go_wp2_with fail
          (with_reducible refine (told_no 3 _ _ (by decide)).mono ?_)
          rintro e V ⟨rfl, rfl⟩
          go_wp2
          go_roundw
          case rel => exact ⟨1, by omega, by go_num, Lib.hid HL2.out.tail.tail.tail⟩
          case measure => simp [intOf]
        · have hl0 : lng [bs x, bs y, bs v] = false := by simpa using hl
          have n1 := ovr_no hl0
          have hle : x.length ≤ 4096 ∧ y.length ≤ 4096 ∧ v.length ≤ 4096 := lng3_le hl0
          obtain ⟨ha4, hb4, hc4⟩ := hle
          have N1 := Lib.hid n1
          have M1 := Lib.hid hl0
          clear n1 hl hl0
          (with_reducible refine (over3 (bs x) (bs y) (bs v) 0 _ _ N1.out (by omega) (by omega) (by omega) q0 q1 q2).mono ?_)
          rintro e V ⟨rfl, rfl⟩
          clear q0 q1 q2
          by_cases hneg : n < 0
          · skip
            go_wp2_with fail
            (with_reducible refine (derive_arg (bs x) (bs y) (bs v) n _ M1.out (by omega) (by omega) (by omega) (.inl hneg)).mono ?_)
            rintro e V2 ⟨rfl, hb⟩
            have HL2 := Lib.hid (HL1.out.step hb)
            clear hb p0 p1 p2 t0 t1
            have p0 := HL2.out.get P 0 _ List.mem_cons_self
            have p1 := HL2.out.get P 1 _ (List.mem_cons_of_mem _ List.mem_cons_self)
            have p2 := HL2.out.get P 2 _ (List.mem_cons_of_mem _ (List.mem_cons_of_mem _ List.mem_cons_self))
            have t0 := HL2.out.get T 0 _ (List.mem_cons_of_mem _ (List.mem_cons_of_mem _ (List.mem_cons_of_mem _ HC0.out.1)))
            have t1 := HL2.out.get T 1 _ (List.mem_cons_of_mem _ (List.mem_cons_of_mem _ (List.mem_cons_of_mem _ HC0.out.2)))
            go_wp2_with fail
            (with_reducible refine (told_no 2 _ _ (by decide)).mono ?_)
            rintro e V ⟨rfl, rfl⟩
            go_wp2
            go_roundw
            case rel => exact ⟨1, by omega, by go_num, Lib.hid HL2.out.tail.tail.tail⟩
            case measure => simp [intOf]
          · by_cases hbig : 255 < n
            · skip
              go_wp2_with fail
              (with_reducible refine (derive_arg (bs x) (bs y) (bs v) n _ M1.out (by omega) (by omega) (by omega) (.inr hbig)).mono ?_)
              rintro e V2 ⟨rfl, hb⟩
              have HL2 := Lib.hid (HL1.out.step hb)
              clear hb p0 p1 p2 t0 t1
              have p0 := HL2.out.get P 0 _ List.mem_cons_self
              have p1 := HL2.out.get P 1 _ (List.mem_cons_of_mem _ List.mem_cons_self)
              have p2 := HL2.out.get P 2 _ (List.mem_cons_of_mem _ (List.mem_cons_of_mem _ List.mem_cons_self))
              have t0 := HL2.out.get T 0 _ (List.mem_cons_of_mem _ (List.mem_cons_of_mem _ (List.mem_cons_of_mem _ HC0.out.1)))
              have t1 := HL2.out.get T 1 _ (List.mem_cons_of_mem _ (List.mem_cons_of_mem _ (List.mem_cons_of_mem _ HC0.out.2)))
              go_wp2_with fail
              (with_reducible refine (told_no 2 _ _ (by decide)).mono ?_)
              rintro e V ⟨rfl, rfl⟩
              go_wp2
              go_roundw
              case rel => exact ⟨1, by omega, by go_num, Lib.hid HL2.out.tail.tail.tail⟩
              case measure => simp [intOf]
            · obtain ⟨m, rfl⟩ := Int.eq_ofNat_of_zero_le (show 0 ≤ n by omega)
              have hm0 : (0 : Int) ≤ (m : Int) := by omega
              have hm9 : (m : Int) ≤ 255 := by omega
              go_wp2_with fail
              (with_reducible refine (derive_ok x y v m _ ha4 hb4 hc4 (by omega)).mono ?_)
              rintro e V2 ⟨rfl, hb⟩
              have HL2 := Lib.hid (HL1.out.step hb)
              clear hb p0 p1 p2 t0 t1
              have p0 := HL2.out.get P 0 _ List.mem_cons_self
              have p1 := HL2.out.get P 1 _ (List.mem_cons_of_mem _ List.mem_cons_self)
              have p2 := HL2.out.get P 2 _ (List.mem_cons_of_mem _ (List.mem_cons_of_mem _ List.mem_cons_self))
              have t0 := HL2.out.get T 0 _ (List.mem_cons_of_mem _ (List.mem_cons_of_mem _ (List.mem_cons_of_mem _ HC0.out.1)))
              have t1 := HL2.out.get T 1 _ (List.mem_cons_of_mem _ (List.mem_cons_of_mem _ (List.mem_cons_of_mem _ HC0.out.2)))
              go_wp2_with fail
              (with_reducible refine (rDerive x y v m (by omega) (by omega) (by omega) (by omega) gs cs gk ck _ HL2.out.t).mono ?_)
              rintro e V3 ⟨rfl, hb⟩
              have HL3 := Lib.hid (HL2.out.step hb)
              clear hb p0 p1 p2 t0 t1
              have p0 := HL3.out.get P 0 _ List.mem_cons_self
              have p1 := HL3.out.get P 1 _ (List.mem_cons_of_mem _ List.mem_cons_self)
              have p2 := HL3.out.get P 2 _ (List.mem_cons_of_mem _ (List.mem_cons_of_mem _ List.mem_cons_self))
              have t0 := HL3.out.get T 0 _ (List.mem_cons_of_mem _ (List.mem_cons_of_mem _ (List.mem_cons_of_mem _ HC0.out.1)))
              have t1 := HL3.out.get T 1 _ (List.mem_cons_of_mem _ (List.mem_cons_of_mem _ (List.mem_cons_of_mem _ HC0.out.2)))
              go_wp2_with fail
              (with_reducible refine (told_yes _ _).mono ?_)
              rintro e V ⟨rfl, rfl⟩
              go_wp2
              go_roundw
              case rel => exact ⟨1, by omega, by go_num, Lib.hid HL3.out.tail.tail.tail⟩
              case measure => simp [intOf]
      · have az : (bs x).size ≤ 4199 := by rw [bs_size]; omega
        have bz : (bs g).size ≤ 4199 := by rw [bs_size]; omega
        have cz : (bs v).size ≤ 4199 := by rw [bs_size]; omega
        have hix := idx9_1 (.string (bs x)) (.string (bs y)) (.string (bs v)) (.string (bs x)) (.string (bs g)) (.string (bs v)) (.string (bs g)) (.string (bs y)) (.string (bs v))
        rw [show ((1 : Nat) : Int) = 1 from rfl]
        have L1 := HL.out.three (.string (bs x)) (.string (bs g)) (.string (bs v)) 57
        have L2 := L1.three (.string (bs x)) (.string (bs g)) (.string (bs v)) 9
        simp only [World.size_alloc] at L2
        have q0 := L2.get _ 0 _ List.mem_cons_self
        have q1 := L2.get _ 1 _ (List.mem_cons_of_mem _ List.mem_cons_self)
        have q2 := L2.get _ 2 _ (List.mem_cons_of_mem _ (List.mem_cons_of_mem _ List.mem_cons_self))
        have HL1 := Lib.hid L2.tail.tail.tail
        clear L1 L2
        go_wp2_with fail
        clear hix
        change Calls _ _ _ ((wr.alloc (.cells #[.string (bs x), .string (bs g), .string (bs v)] 57)).alloc (.cells #[.string (bs x), .string (bs g), .string (bs v)] 9)) _
        generalize (wr.alloc (.cells #[.string (bs x), .string (bs g), .string (bs v)] 57)).alloc (.cells #[.string (bs x), .string (bs g), .string (bs v)] 9) = V1 at HL1 q0 q1 q2 ⊢
        generalize wr.heap.size = P at HL1 q0 q1 q2 ⊢
        have p0 := HL1.out.get P 0 _ List.mem_cons_self
        have p1 := HL1.out.get P 1 _ (List.mem_cons_of_mem _ List.mem_cons_self)
        have p2 := HL1.out.get P 2 _ (List.mem_cons_of_mem _ (List.mem_cons_of_mem _ List.mem_cons_self))
        have t0 := HL1.out.get T 0 _ (List.mem_cons_of_mem _ (List.mem_cons_of_mem _ (List.mem_cons_of_mem _ HC0.out.1)))
        have t1 := HL1.out.get T 1 _ (List.mem_cons_of_mem _ (List.mem_cons_of_mem _ (List.mem_cons_of_mem _ HC0.out.2)))
        by_cases hl : lng [bs x, bs g, bs v] = true
        · have n1 := ovr_yes hl
          have N1 := Lib.hid n1
          have M1 := Lib.hid hl
          clear n1 hl
          (with_reducible refine (over3 (bs x) (bs g) (bs v) 3 _ _ N1.out (by omega) (by omega) (by omega) q0 q1 q2).mono ?_)
          rintro e V ⟨rfl, rfl⟩
          clear q0 q1 q2
          go_wp2_with fail
          (with_reducible refine (derive_long (bs x) (bs g) (bs v) _ _ M1.out (by omega) (by omega) (by omega)).mono ?_)
          rintro e V2 ⟨rfl, hb⟩
          have HL2 := Lib.hid (HL1.out.step hb)
          clear hb p0 p1 p2 t0 t1
          have p0 := HL2.out.get P 0 _ List.mem_cons_self
          have p1 := HL2.out.get P 1 _ (List.mem_cons_of_mem _ List.mem_cons_self)
          have p2 := HL2.out.get P 2 _ (List.mem_cons_of_mem _ (List.mem_cons_of_mem _ List.mem_cons_self))
          have t0 := HL2.out.get T 0 _ (List.mem_cons_of_mem _ (List.mem_cons_of_mem _ (List.mem_cons_of_mem _ HC0.out.1)))
          have t1 := HL2.out.get T 1 _ (List.mem_cons_of_mem _ (List.mem_cons_of_mem _ (List.mem_cons_of_mem _ HC0.out.2)))
          go_wp2_with fail
          (with_reducible refine (told_no 3 _ _ (by decide)).mono ?_)
          rintro e V ⟨rfl, rfl⟩
          go_wp2
          go_roundw
          case rel => exact ⟨2, by omega, by go_num, Lib.hid HL2.out.tail.tail.tail⟩
          case measure => simp [intOf]
        · have hl0 : lng [bs x, bs g, bs v] = false := by simpa using hl
          have n1 := ovr_no hl0
          have hle : x.length ≤ 4096 ∧ g.length ≤ 4096 ∧ v.length ≤ 4096 := lng3_le hl0
          obtain ⟨ha4, hb4, hc4⟩ := hle
          have N1 := Lib.hid n1
          have M1 := Lib.hid hl0
          clear n1 hl hl0
          (with_reducible refine (over3 (bs x) (bs g) (bs v) 0 _ _ N1.out (by omega) (by omega) (by omega) q0 q1 q2).mono ?_)
          rintro e V ⟨rfl, rfl⟩
          clear q0 q1 q2
          have hm9 : (k : Int) ≤ 255 := by omega
          go_wp2_with fail
          (with_reducible refine (derive_ok x g v k _ ha4 hb4 hc4 (by omega)).mono ?_)
          rintro e V2 ⟨rfl, hb⟩
          have HL2 := Lib.hid (HL1.out.step hb)
          clear hb p0 p1 p2 t0 t1
          have p0 := HL2.out.get P 0 _ List.mem_cons_self
          have p1 := HL2.out.get P 1 _ (List.mem_cons_of_mem _ List.mem_cons_self)
          have p2 := HL2.out.get P 2 _ (List.mem_cons_of_mem _ (List.mem_cons_of_mem _ List.mem_cons_self))
          have t0 := HL2.out.get T 0 _ (List.mem_cons_of_mem _ (List.mem_cons_of_mem _ (List.mem_cons_of_mem _ HC0.out.1)))
          have t1 := HL2.out.get T 1 _ (List.mem_cons_of_mem _ (List.mem_cons_of_mem _ (List.mem_cons_of_mem _ HC0.out.2)))
          go_wp2_with fail
          (with_reducible refine (rDerive x g v k (by omega) (by omega) (by omega) (by omega) gs cs gk ck _ HL2.out.t).mono ?_)
          rintro e V3 ⟨rfl, hb⟩
          have HL3 := Lib.hid (HL2.out.step hb)
          clear hb p0 p1 p2 t0 t1
          have p0 := HL3.out.get P 0 _ List.mem_cons_self
          have p1 := HL3.out.get P 1 _ (List.mem_cons_of_mem _ List.mem_cons_self)
          have p2 := HL3.out.get P 2 _ (List.mem_cons_of_mem _ (List.mem_cons_of_mem _ List.mem_cons_self))
          have t0 := HL3.out.get T 0 _ (List.mem_cons_of_mem _ (List.mem_cons_of_mem _ (List.mem_cons_of_mem _ HC0.out.1)))
          have t1 := HL3.out.get T 1 _ (List.mem_cons_of_mem _ (List.mem_cons_of_mem _ (List.mem_cons_of_mem _ HC0.out.2)))
          go_wp2_with fail
          (with_reducible refine (told_yes _ _).mono ?_)
          rintro e V ⟨rfl, rfl⟩
          go_wp2
          go_roundw
          case rel => exact ⟨2, by omega, by go_num, Lib.hid HL3.out.tail.tail.tail⟩
          case measure => simp [intOf]
      · have az : (bs g).size ≤ 4199 := by rw [bs_size]; omega
        have bz : (bs y).size ≤ 4199 := by rw [bs_size]; omega
        have cz : (bs v).size ≤ 4199 := by rw [bs_size]; omega
        have hix := idx9_2 (.string (bs x)) (.string (bs y)) (.string (bs v)) (.string (bs x)) (.string (bs g)) (.string (bs v)) (.string (bs g)) (.string (bs y)) (.string (bs v))
        rw [show ((2 : Nat) : Int) = 2 from rfl]
        have L1 := HL.out.three (.string (bs g)) (.string (bs y)) (.string (bs v)) 57
        have L2 := L1.three (.string (bs g)) (.string (bs y)) (.string (bs v)) 9
        simp only [World.size_alloc] at L2
        have q0 := L2.get _ 0 _ List.mem_cons_self
        have q1 := L2.get _ 1 _ (List.mem_cons_of_mem _ List.mem_cons_self)
        have q2 := L2.get _ 2 _ (List.mem_cons_of_mem _ (List.mem_cons_of_mem _ List.mem_cons_self))
        have HL1 := Lib.hid L2.tail.tail.tail
        clear L1 L2
        go_wp2_with fail
        clear hix
        change Calls _ _ _ ((wr.alloc (.cells #[.string (bs g), .string (bs y), .string (bs v)] 57)).alloc (.cells #[.string (bs g), .string (bs y), .string (bs v)] 9)) _
        generalize (wr.alloc (.cells #[.string (bs g), .string (bs y), .string (bs v)] 57)).alloc (.cells #[.string (bs g), .string (bs y), .string (bs v)] 9) = V1 at HL1 q0 q1 q2 ⊢
        generalize wr.heap.size = P at HL1 q0 q1 q2 ⊢
        have p0 := HL1.out.get P 0 _ List.mem_cons_self
        have p1 := HL1.out.get P 1 _ (List.mem_cons_of_mem _ List.mem_cons_self)
        have p2 := HL1.out.get P 2 _ (List.mem_cons_of_mem _ (List.mem_cons_of_mem _ List.mem_cons_self))
        have t0 := HL1.out.get T 0 _ (List.mem_cons_of_mem _ (List.mem_cons_of_mem _ (List.mem_cons_of_mem _ HC0.out.1)))
        have t1 := HL1.out.get T 1 _ (List.mem_cons_of_mem _ (List.mem_cons_of_mem _ (List.mem_cons_of_mem _ HC0.out.2)))
        by_cases hl : lng [bs g, bs y, bs v] = true
        · have n1 := ovr_yes hl
          have N1 := Lib.hid n1
          have M1 := Lib.hid hl
          clear n1 hl
          (with_reducible refine (over3 (bs g) (bs y) (bs v) 3 _ _ N1.out (by omega) (by omega) (by omega) q0 q1 q2).mono ?_)
          rintro e V ⟨rfl, rfl⟩
          clear q0 q1 q2
          go_wp2_with fail
          (with_reducible refine (derive_long (bs g) (bs y) (bs v) _ _ M1.out (by omega) (by omega) (by omega)).mono ?_)
          rintro e V2 ⟨rfl, hb⟩
          have HL2 := Lib.hid (HL1.out.step hb)
          clear hb p0 p1 p2 t0 t1
          have p0 := HL2.out.get P 0 _ List.mem_cons_self
          have p1 := HL2.out.get P 1 _ (List.mem_cons_of_mem _ List.mem_cons_self)
          have p2 := HL2.out.get P 2 _ (List.mem_cons_of_mem _ (List.mem_cons_of_mem _ List.mem_cons_self))
          have t0 := HL2.out.get T 0 _ (List.mem_cons_of_mem _ (List.mem_cons_of_mem _ (List.mem_cons_of_mem _ HC0.out.1)))
          have t1 := HL2.out.get T 1 _ (List.mem_cons_of_mem _ (List.mem_cons_of_mem _ (List.mem_cons_of_mem _ HC0.out.2)))
          go_wp2_with fail
          (with_reducible refine (told_no 3 _ _ (by decide)).mono ?_)
          rintro e V ⟨rfl, rfl⟩
          go_wp2
          go_roundw
          case rel => exact ⟨3, by omega, by go_num, Lib.hid HL2.out.tail.tail.tail⟩
          case measure => simp [intOf]
        · have hl0 : lng [bs g, bs y, bs v] = false := by simpa using hl
          have n1 := ovr_no hl0
          have hle : g.length ≤ 4096 ∧ y.length ≤ 4096 ∧ v.length ≤ 4096 := lng3_le hl0
          obtain ⟨ha4, hb4, hc4⟩ := hle
          have N1 := Lib.hid n1
          have M1 := Lib.hid hl0
          clear n1 hl hl0
          (with_reducible refine (over3 (bs g) (bs y) (bs v) 0 _ _ N1.out (by omega) (by omega) (by omega) q0 q1 q2).mono ?_)
          rintro e V ⟨rfl, rfl⟩
          clear q0 q1 q2
          have hm9 : (k : Int) ≤ 255 := by omega
          go_wp2_with fail
          (with_reducible refine (derive_ok g y v k _ ha4 hb4 hc4 (by omega)).mono ?_)
          rintro e V2 ⟨rfl, hb⟩
          have HL2 := Lib.hid (HL1.out.step hb)
          clear hb p0 p1 p2 t0 t1
          have p0 := HL2.out.get P 0 _ List.mem_cons_self
          have p1 := HL2.out.get P 1 _ (List.mem_cons_of_mem _ List.mem_cons_self)
          have p2 := HL2.out.get P 2 _ (List.mem_cons_of_mem _ (List.mem_cons_of_mem _ List.mem_cons_self))
          have t0 := HL2.out.get T 0 _ (List.mem_cons_of_mem _ (List.mem_cons_of_mem _ (List.mem_cons_of_mem _ HC0.out.1)))
          have t1 := HL2.out.get T 1 _ (List.mem_cons_of_mem _ (List.mem_cons_of_mem _ (List.mem_cons_of_mem _ HC0.out.2)))
          go_wp2_with fail
          (with_reducible refine (rDerive g y v k (by omega) (by omega) (by omega) (by omega) gs cs gk ck _ HL2.out.t).mono ?_)
          rintro e V3 ⟨rfl, hb⟩
          have HL3 := Lib.hid (HL2.out.step hb)
          clear hb p0 p1 p2 t0 t1
          have p0 := HL3.out.get P 0 _ List.mem_cons_self
          have p1 := HL3.out.get P 1 _ (List.mem_cons_of_mem _ List.mem_cons_self)
          have p2 := HL3.out.get P 2 _ (List.mem_cons_of_mem _ (List.mem_cons_of_mem _ List.mem_cons_self))
          have t0 := HL3.out.get T 0 _ (List.mem_cons_of_mem _ (List.mem_cons_of_mem _ (List.mem_cons_of_mem _ HC0.out.1)))
          have t1 := HL3.out.get T 1 _ (List.mem_cons_of_mem _ (List.mem_cons_of_mem _ (List.mem_cons_of_mem _ HC0.out.2)))
          go_wp2_with fail
          (with_reducible refine (told_yes _ _).mono ?_)
          rintro e V ⟨rfl, rfl⟩
          go_wp2
          go_roundw
          case rel => exact ⟨3, by omega, by go_num, Lib.hid HL3.out.tail.tail.tail⟩
          case measure => simp [intOf]
    · go_wp2
      go_ret
      exact ⟨rfl, HL.out.b⟩
end Go.Proofs.YtfdeegafdaobdaaDoor
