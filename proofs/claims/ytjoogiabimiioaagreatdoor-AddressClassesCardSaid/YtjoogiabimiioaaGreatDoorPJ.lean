/- The walk of AddressNets. -/
import Derived.Test.YtjoogiabimiioaaGreatDoorPG
import Derived.Test.YtjoogiabimiioaaGreatDoorPH
import Derived.Test.YtjoogiabimiioaaGreatDoorPI
namespace Go.Proofs.YtjoogiabimiioaaGreatDoor
open Go.RowKit Go.ChangeShapes
/-- What a law's walk carries: old memory, what the library reads, and blocks that stay. -/
structure Wz (w W : World) (ps : List (Nat × Obj)) : Prop where
  b : Below w.heap.size w W
  e : Env W
  k : ∀ x ∈ ps, W.heap[x.1]? = some x.2
theorem Wz.start {w : World} (h : Env w) : Wz w w [] := ⟨Below.refl _ _, h, fun _ h => absurd h List.not_mem_nil⟩
theorem Wz.step {w W V : World} {ps : List (Nat × Obj)} (h : Wz w W ps) (hb : Below W.heap.size W V) : Wz w V ps :=
  ⟨bstep h.b hb, h.e.below hb, fun x hx => (hb.block x.1 (Array.getElem?_eq_some_iff.1 (h.k x hx)).1).trans (h.k x hx)⟩
theorem Wz.drew {w W : World} {ps : List (Nat × Obj)} (h : Wz w W ps) : Wz w W.drew ps := h.step ((Below.refl _ W).drew)
theorem Wz.alloc {w W : World} {ps : List (Nat × Obj)} (h : Wz w W ps) (o : Obj) : Wz w (W.alloc o) ps := h.step ((Below.refl _ W).alloc (Nat.le_refl _) o)
theorem Wz.add {w W : World} {ps : List (Nat × Obj)} (h : Wz w W ps) (o : Obj) : Wz w (W.alloc o) ((W.heap.size, o) :: ps) := ⟨(h.alloc o).b, (h.alloc o).e, fun x hx => by
  rcases List.mem_cons.1 hx with rfl | hx
  · exact heap_alloc_new W o
  · exact (h.alloc o).k x hx⟩
theorem Wz.add1 {w W : World} {ps : List (Nat × Obj)} (h : Wz w W ps) (o : Obj) {n : Nat} (hn : W.heap.size = n) : Wz w (W.alloc o) ((n, o) :: ps) := hn ▸ h.add o
theorem Wz.hd {w W : World} {ps : List (Nat × Obj)} {g : Nat} {o : Obj} (h : Wz w W ((g, o) :: ps)) : W.heap[g]? = some o := h.k (g, o) (.head _)
theorem Wz.tl {w W : World} {ps : List (Nat × Obj)} {x : Nat × Obj} (h : Wz w W (x :: ps)) : Wz w W ps := ⟨h.b, h.e, fun y hy => h.k y (.tail _ hy)⟩
/-- A draft as cells. -/
def isD (cs : Array Value) : Prop := ∃ lo q0 q1 q2 q3 q4 q5 q6 q7 pt, (q0 < 65536 ∧ q1 < 65536 ∧ q2 < 65536 ∧ q3 < 65536 ∧ q4 < 65536 ∧ q5 < 65536 ∧ q6 < 65536 ∧ q7 < 65536 ∧ pt < 65536) ∧ cs = dC lo q0 q1 q2 q3 q4 q5 q6 q7 pt
theorem Addr_of {cs : Array Value} (h : isD cs) (w : World) :
    Calls Tryz.prog 12 #[.agg cs] w fun e w' => (∃ (s : List UInt8) (p : Nat), e = .returned (.agg #[.string (bs s), .int .i64 (p : Int)]) ∧ (s.length = 4 ∨ s.length = 16) ∧ p ≤ 65535) ∧ Below w.heap.size w w' := by
  obtain ⟨lo, q0, q1, q2, q3, q4, q5, q6, q7, pt, ⟨h0, h1, h2, h3, h4, h5, h6, h7, hp⟩, rfl⟩ := h
  exact Addr_any lo q0 q1 q2 q3 q4 q5 q6 q7 pt w h0 h1 h2 h3 h4 h5 h6 h7 hp
theorem isD_size {cs : Array Value} (h : isD cs) : (Tryz.prog.info? 27).map (·.size) = some cs.size := by
  obtain ⟨lo, q0, q1, q2, q3, q4, q5, q6, q7, pt, _, rfl⟩ := h
  kernel_rfl
theorem boxD {cs : Array Value} (h : isD cs) (W : World) : (Instr.box 27 (.agg cs)).run Tryz.prog W = .ok (.pointer (some ⟨W.heap.size, 0, none⟩)) (W.alloc (.cells cs 27)) := by
  obtain ⟨lo, q0, q1, q2, q3, q4, q5, q6, q7, pt, _, rfl⟩ := h
  kernel_rfl
/-- The changed octets beside what a walk carries. -/
structure Nb (w : World) (G : Nat) (l : List UInt8) (W : World) : Prop where
  z : Wz w W []
  o : Oc W G l
  lt : G < W.heap.size
theorem Nb.step {w W V : World} {G : Nat} {l : List UInt8} (h : Nb w G l W) (hb : Below W.heap.size W V) : Nb w G l V := ⟨h.z.step hb, h.o.below hb h.lt, Nat.lt_of_lt_of_le h.lt hb.size⟩
theorem Nb.text {w W : World} {G : Nat} {l : List UInt8} (h : Nb w G l W) {n cap : Nat} (hn : l.length = n) : (convert 54 9 (.slice (some ⟨G, 0, none⟩) n cap)).run Tryz.prog W = .ok (.string (bs l)) W := by
  subst hn
  refine run_convert_bytes_back (P := Tryz.prog) W 54 9 5 ⟨G, 0, none⟩ cap l Tryz.underlying54 Tryz.underlying5 Tryz.underlying9 (fun j hj => ?_)
  rw [WideShapes.add_plain, Nat.zero_add, (h.o j hj).1, List.getD_eq_getElem?_getD, List.getElem?_eq_getElem hj]; rfl
theorem field0 (h : ByteArray) (p : Int) (W : World) : (Instr.field 23 (.agg #[.string h, .int .i64 p]) 0).run Tryz.prog W = .ok (.string h) W := by kernel_rfl
set_option maxRecDepth 100000 in
set_option maxHeartbeats 16000000 in
theorem nets_true (d1 d2 : Array Value) (at_ n : Nat) (w : World) (hE : Env w) (h1 : isD d1) (h2 : isD d2) (hat : at_ < 256) (hn : n < 256) :
    Calls Tryz.prog 8 #[.agg d1, .agg d2, .int .u8 (at_ : Int), .int .u8 (n : Int)] w fun e w' => e = .returned (.bool true) ∧ Below w.heap.size w w' := by
  have HW := Lib.hid (fun W (h : Env W) => works_true W h)
  have HZ := Lib.hid (((Wz.start hE).add1 (.cells d1 27) rfl).add1 (.cells d2 27) (n := w.heap.size + 1) (by simp))
  have hb1 := boxD h1
  have hb2 := boxD h2
  have hs1 := isD_size h1
  have hs2 := isD_size h2
  have A1 := Lib.hid (fun W => Addr_of h1 W)
  have A2 := Lib.hid (fun W => Addr_of h2 W)
  have HB := Lib.hid (And.intro hat hn)
  clear h1 h2 hE hat hn
  go_enter Tryz.func8, Tryz.ntmps8
  go_upto_region 1 with fail
  generalize (w.alloc (.cells d1 27)).alloc (.cells d2 27) = V0 at HZ ⊢
  go_upto_region 3 with (go_at_call 10; (with_reducible refine (HW.out _ HZ.out.e).mono ?_); rintro e V ⟨rfl, hb⟩; (have HZ := Lib.hid (HZ.out.step hb)); clear hb)
  clear hb1 hb2 HW
  have hfd := field0
  have HZ := Lib.hid HZ.out.drew
  refine region_anyC (fun w' => Wz w w' [(w.heap.size + 1, .cells d2 27), (w.heap.size, .cells d1 27)]) (fun _ => True) [] (by kernel_rfl) ?_
  refine anyC_takeS (i := 0) (oi := ⟨some 22, _, _, _, _, _⟩) (v := _) rfl (by kernel_rfl) (by kernel_rfl) (by kernel_rfl) (by kernel_rfl) (fun _ _ _ h => h) (yields_row (by rfl) 27 _ rfl w.heap.size rfl d1 27 _ (fun w' hw' => hw'.tl.hd) Tryz.underlying27 rfl hs1) HZ.out (fun _ => trivial) ?_
  try simp only [Act.put, List.setIfInBounds_toArray, List.set_cons_zero, List.set_cons_succ]
  refine anyC_takeS (i := 3) (oi := ⟨some 25, _, _, _, _, _⟩) (v := _) rfl (by kernel_rfl) (by kernel_rfl) (by kernel_rfl) (by kernel_rfl) (fun _ _ _ h => h) (yields_row (by rfl) 27 _ rfl (w.heap.size + 1) rfl d2 27 _ (fun w' hw' => hw'.hd) Tryz.underlying27 rfl hs2) HZ.out (fun _ => trivial) ?_
  try simp only [Act.put, List.setIfInBounds_toArray, List.set_cons_zero, List.set_cons_succ]
  refine anyC_keep (i := 1) (o := ⟨some 23, _, _, _, _, _⟩) (by kernel_rfl) rfl (fun K hK => ?_)
  rw [if_pos (by rfl)]
  go_wp2_with fail
  (with_reducible refine (A1.out _).mono ?_)
  rintro e V1 ⟨⟨s1, p1, rfl, hl1, hp1⟩, hb⟩
  have HZ := Lib.hid (HZ.out.step hb)
  clear hb
  refine hK.out _ _ ⟨HZ.out, fun _ => trivial⟩ ?_
  clear hK K
  try simp only [Act.put, List.setIfInBounds_toArray, List.set_cons_zero, List.set_cons_succ]
  refine anyC_takeS (i := 2) (oi := ⟨some 24, _, _, _, _, _⟩) (v := _) rfl (by kernel_rfl) (by kernel_rfl) (by kernel_rfl) (by kernel_rfl) (fun _ _ _ h => h) (Or.inl ⟨by rfl, fun w' hw' => (by clear hw'; go_simp; try with_reducible rfl)⟩) HZ.out (fun _ => trivial) ?_
  try simp only [Act.put, List.setIfInBounds_toArray, List.set_cons_zero, List.set_cons_succ]
  refine anyC_keep (i := 4) (o := ⟨some 26, _, _, _, _, _⟩) (by kernel_rfl) rfl (fun K hK => ?_)
  rw [if_pos (by rfl)]
  go_wp2_with fail
  (with_reducible refine (A2.out _).mono ?_)
  rintro e V2 ⟨⟨s2, p2, rfl, hl2, hp2⟩, hb⟩
  have HZ := Lib.hid (HZ.out.step hb)
  clear hb
  refine hK.out _ _ ⟨HZ.out, fun _ => trivial⟩ ?_
  clear hK K
  try simp only [Act.put, List.setIfInBounds_toArray, List.set_cons_zero, List.set_cons_succ]
  refine anyC_takeS (i := 5) (oi := ⟨some 27, _, _, _, _, _⟩) (v := _) rfl (by kernel_rfl) (by kernel_rfl) (by kernel_rfl) (by kernel_rfl) (fun _ _ _ h => h) (Or.inl ⟨by rfl, fun w' hw' => (by clear hw'; go_simp; try with_reducible rfl)⟩) HZ.out (fun _ => trivial) ?_
  try simp only [Act.put, List.setIfInBounds_toArray, List.set_cons_zero, List.set_cons_succ]
  refine anyC_takeS (i := 6) (oi := ⟨some 9, _, _, _, _, _⟩) (v := _) rfl (by kernel_rfl) (by kernel_rfl) (by kernel_rfl) (by kernel_rfl) (fun _ _ _ h => h) (Or.inl ⟨by rfl, fun w' hw' => (by clear hw'; go_simp; try with_reducible rfl)⟩) HZ.out (fun _ => trivial) ?_
  try simp only [Act.put, List.setIfInBounds_toArray, List.set_cons_zero, List.set_cons_succ]
  refine anyC_takeS (i := 7) (oi := ⟨some 10, _, _, _, _, _⟩) (v := _) rfl (by kernel_rfl) (by kernel_rfl) (by kernel_rfl) (by kernel_rfl) (fun _ _ _ h => h) (Or.inl ⟨by rfl, fun w' hw' => (by clear hw'; go_simp; try with_reducible rfl)⟩) HZ.out (fun _ => trivial) ?_
  try simp only [Act.put, List.setIfInBounds_toArray, List.set_cons_zero, List.set_cons_succ]
  refine anyC_done (by kernel_rfl) ?_ _
  have HZ : Hid (Wz w V2 []) := Lib.hid HZ.out.tl.tl
  clear A1 A2 hs1 hs2 hfd
  obtain ⟨z1, hz1⟩ : ∃ z, s1.length = z := ⟨_, rfl⟩
  obtain ⟨z2, hz2⟩ : ∃ z, s2.length = z := ⟨_, rfl⟩
  rw [hz1] at hl1
  rw [hz2] at hl2
  have hb1 : z1 ≤ 16 := by omega
  have hb2 : z2 ≤ 16 := by omega
  have hc1 : 4 ≤ z1 := by omega
  have hc2 : 4 ≤ z2 := by omega
  have hS1 : (bs s1).size = z1 := hz1
  have hS2 : (bs s2).size = z2 := hz2
  have ho1 : hostB (bs s1) = true := by unfold hostB; rw [hS1, Bool.or_eq_true, beq_iff_eq, beq_iff_eq]; exact hl1
  have ho2 : hostB (bs s2) = true := by unfold hostB; rw [hS2, Bool.or_eq_true, beq_iff_eq, beq_iff_eq]; exact hl2
  obtain ⟨k, hk⟩ : ∃ k, n % (8 * z2 + 1) = k := ⟨_, rfl⟩
  have hkb : k ≤ 8 * z2 := by have := Nat.mod_lt n (show 0 < 8 * z2 + 1 by omega); omega
  obtain ⟨k1, k2⟩ := mods n (8 * z2 + 1) k hk
  rw [show ((8 * z2 + 1 : Nat) : Int) = 8 * (z2 : Int) + 1 by omega] at k1 k2
  obtain ⟨i, hi⟩ : ∃ i, at_ % (8 * z1) = i := ⟨_, rfl⟩
  have hib : i < 8 * z1 := by have := Nat.mod_lt at_ (show 0 < 8 * z1 by omega); omega
  have HI := Lib.hid (mods at_ (8 * z1) i hi)
  rw [show ((8 * z1 : Nat) : Int) = 8 * (z1 : Int) by omega] at HI
  have HT1 : Hid (∀ W, Calls Tryz.prog 28 #[.string (bs s1), .string (bs s1), .int .i64 (8 * (z1 : Int))] W fun e w' => e = .returned (.tuple #[.bool true, .int .i64 0]) ∧ Below W.heap.size W w') := Lib.hid fun W => by
    have h := Within_yes (bs s1) (bs s1) (8 * z1) W ho1 ho1 (by omega)
    rw [wiB_self _ _ (by omega), show ((8 * z1 : Nat) : Int) = 8 * (z1 : Int) by omega] at h
    exact h
  have HT2 : Hid (∀ W, Calls Tryz.prog 28 #[.string (bs s1), .string (bs s2), .int .i64 0] W fun e w' => e = .returned (.tuple #[.bool (decide (z1 = z2)), .int .i64 0]) ∧ Below W.heap.size W w') := Lib.hid fun W => by
    have h := Within_yes (bs s1) (bs s2) 0 W ho1 ho2 (by omega)
    rw [wiB_zero, hS1, hS2] at h
    exact h
  have HWI := Lib.hid (fun (m : Nat) (h : m ≤ 8 * z2) W => Within_yes (bs s1) (bs s2) m W ho1 ho2 (by omega))
  have HLE := Lib.hid (fun (m : Nat) (h : m ≤ k) (hw : wiB (bs s1) (bs s2) k = true) => wiB_less (bs s1) (bs s2) m k h (by omega) hw)
  have hfl : (bs (flL s1 i)).size = z1 := by rw [bs_size, flL_length, hz1]
  have hof : hostB (bs (flL s1 i)) = true := by unfold hostB; rw [hfl, Bool.or_eq_true, beq_iff_eq, beq_iff_eq]; exact hl1
  have HT3 : Hid (∀ W, Calls Tryz.prog 28 #[.string (bs s1), .string (bs (flL s1 i)), .int .i64 (i : Int)] W fun e w' => e = .returned (.tuple #[.bool true, .int .i64 0]) ∧ Below W.heap.size W w') := Lib.hid fun W => by
    have h := Within_yes (bs s1) (bs (flL s1 i)) i W ho1 hof (by omega)
    rw [(wiB_bent s1 i (by omega)).1] at h
    exact h
  have HT4 : Hid (∀ W, Calls Tryz.prog 28 #[.string (bs s1), .string (bs (flL s1 i)), .int .i64 ((i : Int) + 1)] W fun e w' => e = .returned (.tuple #[.bool false, .int .i64 0]) ∧ Below W.heap.size W w') := Lib.hid fun W => by
    have h := Within_yes (bs s1) (bs (flL s1 i)) (i + 1) W ho1 hof (by omega)
    rw [(wiB_bent s1 i (by omega)).2] at h
    exact h
  have HBB := Lib.hid hb1
  have WN := Lib.hid (w64_nat (x := n) (by have := HB.out.2; omega))
  have WA := Lib.hid (w64_nat (x := at_) (by have := HB.out.1; omega))
  have hBM := Lib.hid (fun W => bytes_made (bs s1) W)
  clear hk hi hl1 hl2 ho1 ho2 hof hfl hp1 hp2
  generalize hX1 : bs s1 = S1 at *
  generalize bs s2 = S2 at *
  have wn := WN.out
  go_upto_if 39 with fail
  clear wn
  go_cut [13] (fun v wx => ∃ l : Nat, l ≤ k ∧ v = .int .i64 (l : Int) ∧ V2 = wx)
  case first =>
    rcases Nat.eq_zero_or_pos k with g | g
    · have g2 : ¬ (0 : Int) < (k : Int) := by omega
      clear g
      go_wp2_with fail
      go_meet
      exact ⟨0, by omega, rfl, rfl⟩
    · have g1 : (0 : Int) < (k : Int) := by omega
      obtain ⟨l, hl⟩ : ∃ l, at_ % k = l := ⟨_, rfl⟩
      obtain ⟨l1, l2⟩ := mods at_ k l hl
      have hlb : l < k := by have := Nat.mod_lt at_ g; omega
      have hk0 : ((k : Int) == 0) = false := beq_false_of_ne (by omega)
      have hk3 : ¬ (k : Int) = 0 := by omega
      clear hl
      have hlk : l ≤ k := by omega
      have wa := WA.out
      go_wp2_with fail
      go_meet
      exact ⟨l, hlk, rfl, rfl⟩
  case rest =>
  obtain ⟨l, hl, rfl, rfl⟩ := hcut
  have HW1 := Lib.hid (HWI.out k hkb)
  have HW2 := Lib.hid (HWI.out l (by omega))
  have hkl := HLE.out l hl
  clear HWI HLE k1 k2 hkb hl
  generalize wiB S1 S2 k = bk at *
  generalize wiB S1 S2 l = bl at *
  go_upto_region 10 with (first
    | (go_at_call 28; (first | (with_reducible refine (HW1.out _).mono ?_) | (with_reducible refine (HW2.out _).mono ?_)); rintro e V3 ⟨rfl, hb⟩; (have HZ := Lib.hid (HZ.out.step hb)); clear hb))
  clear HW1 HW2
  go_cut [96] (fun v wx => v = .bool false ∧ Hid (Wz w wx []))
  case first =>
    have hcases : (bk = false ∧ bl = false) ∨ (bk = false ∧ bl = true) ∨ (bk = true ∧ bl = true) := by
      cases bk
      · cases bl
        · exact .inl ⟨rfl, rfl⟩
        · exact .inr (.inl ⟨rfl, rfl⟩)
      · exact .inr (.inr ⟨rfl, hkl rfl⟩)
    clear hkl
    have hd : (z1 = z2 ∧ ((z1 : Int) == (z2 : Int)) = true ∧ decide (z1 = z2) = true) ∨ (z1 ≠ z2 ∧ ((z1 : Int) == (z2 : Int)) = false ∧ decide (z1 = z2) = false) := by
      by_cases h : z1 = z2
      · exact .inl ⟨h, by simp [h], by simp [h]⟩
      · exact .inr ⟨h, beq_false_of_ne (by omega), by simp [h]⟩
    rcases hd with ⟨e0, e1, e2⟩ | ⟨e0, e1, e2⟩
    all_goals
      rw [e2] at HT2
      clear e2
    · rcases hcases with ⟨rfl, rfl⟩ | ⟨rfl, rfl⟩ | ⟨rfl, rfl⟩
      all_goals
        clear e0
        go_wp2_with (first
          | (go_at_call 28; (first | (with_reducible refine (HT1.out _).mono ?_) | (with_reducible refine (HT2.out _).mono ?_)); rintro e V4 ⟨rfl, hb⟩; (have HZ := Lib.hid (HZ.out.step hb)); (replace hp := Wh.step hp hb); clear hb)
          | (go_at_call 37; (with_reducible refine (isB_any _ _).mono ?_); rintro e V4 ⟨g, rfl, hp, hb⟩; (have HZ := Lib.hid (HZ.out.step hb)); clear hb)
          | (go_at_call 73; (with_reducible refine (isB_yes _ _ _ hp).mono ?_); rintro e V4 ⟨rfl, hb⟩; (have HZ := Lib.hid (HZ.out.step hb)); clear hb hp))
        go_meet
        exact ⟨rfl, HZ⟩
    · have e4 : ¬ (z1 : Int) = (z2 : Int) := by omega
      rcases hcases with ⟨rfl, rfl⟩ | ⟨rfl, rfl⟩ | ⟨rfl, rfl⟩
      all_goals
        clear e0
        go_wp2_with (first
          | (go_at_call 28; (first | (with_reducible refine (HT1.out _).mono ?_) | (with_reducible refine (HT2.out _).mono ?_)); rintro e V4 ⟨rfl, hb⟩; (have HZ := Lib.hid (HZ.out.step hb)); (replace hp := Wh.step hp hb); clear hb)
          | (go_at_call 37; (with_reducible refine (isB_any _ _).mono ?_); rintro e V4 ⟨g, rfl, hp, hb⟩; (have HZ := Lib.hid (HZ.out.step hb)); clear hb)
          | (go_at_call 73; (with_reducible refine (isB_yes _ _ _ hp).mono ?_); rintro e V4 ⟨rfl, hb⟩; (have HZ := Lib.hid (HZ.out.step hb)); clear hb hp))
        go_meet
        exact ⟨rfl, HZ⟩
  case rest =>
  obtain ⟨rfl, HZ⟩ := hcut
  clear HT1 HT2 hkl
  have hd1 : S1.data.toList = s1 := by rw [← hX1, bs_data]
  obtain ⟨cap, W1, hcap, hconv, hO1, hB1, hsz⟩ := hBM.out wc
  rw [hd1] at hO1
  rw [hS1] at hconv
  have HNB : Hid (Nb w wc.heap.size s1 W1) := Lib.hid ⟨HZ.out.step hB1, hO1, by omega⟩
  obtain ⟨q, hq⟩ : ∃ q, i / 8 = q := ⟨_, rfl⟩
  obtain ⟨r, hr⟩ : ∃ r, i % 8 = r := ⟨_, rfl⟩
  have hqz : q < z1 := by omega
  have hqI : (q : Int) < (z1 : Int) := by omega
  have q1 : (i : Int) / 8 = (q : Int) := by omega
  have q2 : (i : Int).tdiv 8 = (q : Int) := by rw [Int.tdiv_eq_ediv_of_nonneg (by omega)]; omega
  obtain ⟨r1, r2⟩ := mods i 8 r hr
  change (i : Int) % 8 = (r : Int) at r1
  change (i : Int).tmod 8 = (r : Int) at r2
  have hr8 : r < 8 := by omega
  obtain ⟨x, hx⟩ : ∃ x, s1.getD q 0 = x := ⟨_, rfl⟩
  have hcx : W1.cell? ⟨wc.heap.size, q, none⟩ = some (.int .u8 (x.toNat : Int)) := by rw [← hx]; exact (HNB.out.o q (by omega)).1
  have hfx : W1.frozen? ⟨wc.heap.size, q, none⟩ = false := (HNB.out.o q (by omega)).2
  obtain ⟨y, hy⟩ : ∃ y : UInt8, UInt8.ofNat (2 ^ (7 - r)) = y := ⟨_, rfl⟩
  have hyn : y.toNat = 2 ^ (7 - r) := by rw [← hy]; exact UInt8.toNat_ofNat_of_lt' (pow_small _ (by omega))
  have hsh : (128 : Int) / 2 ^ r = (y.toNat : Int) := by
    rw [hyn]
    have h8 : r = 0 ∨ r = 1 ∨ r = 2 ∨ r = 3 ∨ r = 4 ∨ r = 5 ∨ r = 6 ∨ r = 7 := by omega
    rcases h8 with rfl | rfl | rfl | rfl | rfl | rfl | rfl | rfl <;> rfl
  have hxo := c_xor8 x y
  have hset : s1.set q (x ^^^ y) = flL s1 i := by unfold flL; rw [hq, hr, hx, hy]
  have HN2 : Hid (Nb w wc.heap.size (flL s1 i) (W1.drew.setCell ⟨wc.heap.size, q, none⟩ (by8 (x ^^^ y)))) := Lib.hid ⟨⟨below_setCell HNB.out.z.drew.b HZ.out.b.size _ _, HZ.out.e.below (below_setCell hB1.drew (Nat.le_refl _) _ _), fun _ h => absurd h List.not_mem_nil⟩, hset ▸ (HNB.out.step (Below.refl _ _).drew).o.set q (x ^^^ y), by simp; exact HNB.out.lt⟩
  have hfl2 : (flL s1 i).length = z1 := by rw [flL_length, hz1]
  have ha := HI.out.1
  have hb := HI.out.2
  have wa := WA.out
  clear hd1 hO1 hB1 hcap hx hy hyn hset hq hr hBM HNB HZ hX1 hS2 hz2 hb2 hc2
  go_upto_region 14 with fail
  have k1 : IntKind.i64.wrap (q : Int) = (q : Int) := IntWalk.i64_in _ (by omega)
  have k2 : IntKind.i64.wrap (r : Int) = (r : Int) := IntWalk.i64_in _ (by omega)
  have k3 : IntKind.u8.wrap (y.toNat : Int) = (y.toNat : Int) := by have := y.toNat_lt; rw [IntKind.wrap_u8]; omega
  clear ha hb wa hconv
  refine wp_region_still_tail 10 (by kernel_rfl) (by kernel_rfl) ?_
  change wpStill _ _ (World.drew W1) (fun a' => wpList _ _ _ _ a' (World.drew W1)) _ _
  simp only [List.take_succ_cons, List.take_zero, List.drop_succ_cons, List.drop_zero]
  repeat still_step
  refine wpStill_nil ?_
  go_upto_region 15 with fail
  have k4 : IntKind.i64.wrap ((i : Int) + 1) = (i : Int) + 1 := IntWalk.i64_in _ (by have := HBB.out; omega)
  clear k1 k2 k3 hcx hfx hxo hsh r1 r2 q1 q2
  change Code.wp _ _ _ _ (W1.drew.setCell ⟨wc.heap.size, q, none⟩ (by8 (x ^^^ y)))
  generalize W1.drew.setCell ⟨wc.heap.size, q, none⟩ (by8 (x ^^^ y)) = W2 at *
  have HN2 := Lib.hid (HN2.out.step (Below.refl _ _).drew)
  refine region_anyC (fun w' => Nb w wc.heap.size (flL s1 i) w') (fun _ => True) [] (by kernel_rfl) ?_
  refine anyC_takeS (i := 1) (oi := ⟨some 114, _, _, _, _, _⟩) (v := _) rfl (by kernel_rfl) (by kernel_rfl) (by kernel_rfl) (by kernel_rfl) (fun _ _ _ h => h) (Or.inl ⟨by rfl, fun w' hw' => (by clear hw'; go_simp; try with_reducible rfl)⟩) HN2.out (fun _ => trivial) ?_
  try simp only [Act.put, List.setIfInBounds_toArray, List.set_cons_zero, List.set_cons_succ]
  refine anyC_takeS (i := 2) (oi := ⟨some 115, _, _, _, _, _⟩) (v := _) rfl (by kernel_rfl) (by kernel_rfl) (by kernel_rfl) (by kernel_rfl) (fun _ _ _ h => h) (Or.inl ⟨by rfl, fun w' hw' => (by clear hw'; go_simp; try with_reducible rfl)⟩) HN2.out (fun _ => trivial) ?_
  try simp only [Act.put, List.setIfInBounds_toArray, List.set_cons_zero, List.set_cons_succ]
  refine anyC_takeS (i := 3) (oi := ⟨some 116, _, _, _, _, _⟩) (v := _) rfl (by kernel_rfl) (by kernel_rfl) (by kernel_rfl) (by kernel_rfl) (fun _ _ _ h => h) (Or.inl ⟨by rfl, fun w' hw' => (by have hcv := hw'.text (n := z1) (cap := cap) hfl2; clear hw'; go_simp; try with_reducible rfl)⟩) HN2.out (fun _ => trivial) ?_
  try simp only [Act.put, List.setIfInBounds_toArray, List.set_cons_zero, List.set_cons_succ]
  refine anyC_takeS (i := 4) (oi := ⟨some 117, _, _, _, _, _⟩) (v := _) rfl (by kernel_rfl) (by kernel_rfl) (by kernel_rfl) (by kernel_rfl) (fun _ _ _ h => h) (Or.inl ⟨by rfl, fun w' hw' => (by clear hw'; go_simp; try with_reducible rfl)⟩) HN2.out (fun _ => trivial) ?_
  try simp only [Act.put, List.setIfInBounds_toArray, List.set_cons_zero, List.set_cons_succ]
  refine anyC_keep (i := 0) (o := ⟨some 113, _, _, _, _, _⟩) (by kernel_rfl) rfl (fun K hK => ?_)
  rw [if_pos (by rfl)]
  go_wp2_with fail
  (with_reducible refine (isB_any _ _).mono ?_)
  rintro e Y1 ⟨g, rfl, hp, hb⟩
  have HN2 := Lib.hid (HN2.out.step hb)
  clear hb
  refine hK.out _ _ ⟨HN2.out, fun _ => trivial⟩ ?_
  clear hK K
  try simp only [Act.put, List.setIfInBounds_toArray, List.set_cons_zero, List.set_cons_succ]
  refine anyC_keep (i := 5) (o := ⟨some 118, _, _, _, _, _⟩) (by kernel_rfl) rfl (fun K hK => ?_)
  rw [if_pos (by rfl)]
  go_wp2_with fail
  (with_reducible refine (HT3.out _).mono ?_)
  rintro e Y2 ⟨rfl, hb⟩
  have HN2 := Lib.hid (HN2.out.step hb)
  replace hp := Wh.step hp hb
  clear hb
  refine hK.out _ _ ⟨HN2.out, fun _ => trivial⟩ ?_
  clear hK K
  try simp only [Act.put, List.setIfInBounds_toArray, List.set_cons_zero, List.set_cons_succ]
  refine anyC_takeS (i := 6) (oi := ⟨some 119, _, _, _, _, _⟩) (v := _) rfl (by kernel_rfl) (by kernel_rfl) (by kernel_rfl) (by kernel_rfl) (fun _ _ _ h => h) (Or.inl ⟨by rfl, fun w' hw' => (by clear hw'; go_simp; try with_reducible rfl)⟩) HN2.out (fun _ => trivial) ?_
  try simp only [Act.put, List.setIfInBounds_toArray, List.set_cons_zero, List.set_cons_succ]
  refine anyC_takeS (i := 7) (oi := ⟨some 120, _, _, _, _, _⟩) (v := _) rfl (by kernel_rfl) (by kernel_rfl) (by kernel_rfl) (by kernel_rfl) (fun _ _ _ h => h) (Or.inl ⟨by rfl, fun w' hw' => (by clear hw'; go_simp; try with_reducible rfl)⟩) HN2.out (fun _ => trivial) ?_
  try simp only [Act.put, List.setIfInBounds_toArray, List.set_cons_zero, List.set_cons_succ]
  refine anyC_keep (i := 8) (o := ⟨some 121, _, _, _, _, _⟩) (by kernel_rfl) rfl (fun K hK => ?_)
  rw [if_pos (by rfl)]
  go_wp2_with fail
  (with_reducible refine (isB_yes _ _ _ hp).mono ?_)
  rintro e Y3 ⟨rfl, hb⟩
  have HN2 := Lib.hid (HN2.out.step hb)
  clear hb hp
  refine hK.out _ _ ⟨HN2.out, fun _ => trivial⟩ ?_
  clear hK K
  try simp only [Act.put, List.setIfInBounds_toArray, List.set_cons_zero, List.set_cons_succ]
  refine anyC_takeS (i := 9) (oi := ⟨some 122, _, _, _, _, _⟩) (v := _) rfl (by kernel_rfl) (by kernel_rfl) (by kernel_rfl) (by kernel_rfl) (fun _ _ _ h => h) (Or.inl ⟨by rfl, fun w' hw' => (by clear hw'; go_simp; try with_reducible rfl)⟩) HN2.out (fun _ => trivial) ?_
  try simp only [Act.put, List.setIfInBounds_toArray, List.set_cons_zero, List.set_cons_succ]
  refine anyC_takeS (i := 11) (oi := ⟨some 124, _, _, _, _, _⟩) (v := _) rfl (by kernel_rfl) (by kernel_rfl) (by kernel_rfl) (by kernel_rfl) (fun _ _ _ h => h) (Or.inl ⟨by rfl, fun w' hw' => (by clear hw'; go_simp; try with_reducible rfl)⟩) HN2.out (fun _ => trivial) ?_
  try simp only [Act.put, List.setIfInBounds_toArray, List.set_cons_zero, List.set_cons_succ]
  refine anyC_takeS (i := 12) (oi := ⟨some 125, _, _, _, _, _⟩) (v := _) rfl (by kernel_rfl) (by kernel_rfl) (by kernel_rfl) (by kernel_rfl) (fun _ _ _ h => h) (Or.inl ⟨by rfl, fun w' hw' => (by clear hw'; go_simp; try with_reducible rfl)⟩) HN2.out (fun _ => trivial) ?_
  try simp only [Act.put, List.setIfInBounds_toArray, List.set_cons_zero, List.set_cons_succ]
  refine anyC_takeS (i := 13) (oi := ⟨some 126, _, _, _, _, _⟩) (v := _) rfl (by kernel_rfl) (by kernel_rfl) (by kernel_rfl) (by kernel_rfl) (fun _ _ _ h => h) (Or.inl ⟨by rfl, fun w' hw' => (by have hcv := hw'.text (n := z1) (cap := cap) hfl2; clear hw'; go_simp; try with_reducible rfl)⟩) HN2.out (fun _ => trivial) ?_
  try simp only [Act.put, List.setIfInBounds_toArray, List.set_cons_zero, List.set_cons_succ]
  refine anyC_takeS (i := 14) (oi := ⟨some 127, _, _, _, _, _⟩) (v := _) rfl (by kernel_rfl) (by kernel_rfl) (by kernel_rfl) (by kernel_rfl) (fun _ _ _ h => h) (Or.inl ⟨by rfl, fun w' hw' => (by clear hw'; go_simp; try with_reducible rfl)⟩) HN2.out (fun _ => trivial) ?_
  try simp only [Act.put, List.setIfInBounds_toArray, List.set_cons_zero, List.set_cons_succ]
  refine anyC_takeS (i := 15) (oi := ⟨some 128, _, _, _, _, _⟩) (v := _) rfl (by kernel_rfl) (by kernel_rfl) (by kernel_rfl) (by kernel_rfl) (fun _ _ _ h => h) (Or.inl ⟨by rfl, fun w' hw' => (by clear hw'; go_simp; try with_reducible rfl)⟩) HN2.out (fun _ => trivial) ?_
  try simp only [Act.put, List.setIfInBounds_toArray, List.set_cons_zero, List.set_cons_succ]
  refine anyC_keep (i := 10) (o := ⟨some 123, _, _, _, _, _⟩) (by kernel_rfl) rfl (fun K hK => ?_)
  rw [if_pos (by rfl)]
  go_wp2_with fail
  (with_reducible refine (isB_any _ _).mono ?_)
  rintro e Y4 ⟨g, rfl, hp, hb⟩
  have HN2 := Lib.hid (HN2.out.step hb)
  clear hb
  refine hK.out _ _ ⟨HN2.out, fun _ => trivial⟩ ?_
  clear hK K
  try simp only [Act.put, List.setIfInBounds_toArray, List.set_cons_zero, List.set_cons_succ]
  refine anyC_keep (i := 16) (o := ⟨some 129, _, _, _, _, _⟩) (by kernel_rfl) rfl (fun K hK => ?_)
  rw [if_pos (by rfl)]
  go_wp2_with fail
  (with_reducible refine (HT4.out _).mono ?_)
  rintro e Y5 ⟨rfl, hb⟩
  have HN2 := Lib.hid (HN2.out.step hb)
  replace hp := Wh.step hp hb
  clear hb
  refine hK.out _ _ ⟨HN2.out, fun _ => trivial⟩ ?_
  clear hK K
  try simp only [Act.put, List.setIfInBounds_toArray, List.set_cons_zero, List.set_cons_succ]
  refine anyC_takeS (i := 17) (oi := ⟨some 130, _, _, _, _, _⟩) (v := _) rfl (by kernel_rfl) (by kernel_rfl) (by kernel_rfl) (by kernel_rfl) (fun _ _ _ h => h) (Or.inl ⟨by rfl, fun w' hw' => (by clear hw'; go_simp; try with_reducible rfl)⟩) HN2.out (fun _ => trivial) ?_
  try simp only [Act.put, List.setIfInBounds_toArray, List.set_cons_zero, List.set_cons_succ]
  refine anyC_takeS (i := 18) (oi := ⟨some 131, _, _, _, _, _⟩) (v := _) rfl (by kernel_rfl) (by kernel_rfl) (by kernel_rfl) (by kernel_rfl) (fun _ _ _ h => h) (Or.inl ⟨by rfl, fun w' hw' => (by clear hw'; go_simp; try with_reducible rfl)⟩) HN2.out (fun _ => trivial) ?_
  try simp only [Act.put, List.setIfInBounds_toArray, List.set_cons_zero, List.set_cons_succ]
  refine anyC_keep (i := 19) (o := ⟨some 132, _, _, _, _, _⟩) (by kernel_rfl) rfl (fun K hK => ?_)
  rw [if_pos (by rfl)]
  go_wp2_with fail
  (with_reducible refine (isB_yes _ _ _ hp).mono ?_)
  rintro e Y6 ⟨rfl, hb⟩
  have HN2 := Lib.hid (HN2.out.step hb)
  clear hb hp
  refine hK.out _ _ ⟨HN2.out, fun _ => trivial⟩ ?_
  clear hK K
  try simp only [Act.put, List.setIfInBounds_toArray, List.set_cons_zero, List.set_cons_succ]
  refine anyC_takeS (i := 20) (oi := ⟨some 133, _, _, _, _, _⟩) (v := _) rfl (by kernel_rfl) (by kernel_rfl) (by kernel_rfl) (by kernel_rfl) (fun _ _ _ h => h) (Or.inl ⟨by rfl, fun w' hw' => (by clear hw'; go_simp; try with_reducible rfl)⟩) HN2.out (fun _ => trivial) ?_
  try simp only [Act.put, List.setIfInBounds_toArray, List.set_cons_zero, List.set_cons_succ]
  refine anyC_takeS (i := 21) (oi := ⟨some 8, _, _, _, _, _⟩) (v := _) rfl (by kernel_rfl) (by kernel_rfl) (by kernel_rfl) (by kernel_rfl) (fun _ _ _ h => h) (Or.inl ⟨by rfl, fun w' hw' => (by clear hw'; go_simp; try with_reducible rfl)⟩) HN2.out (fun _ => trivial) ?_
  try simp only [Act.put, List.setIfInBounds_toArray, List.set_cons_zero, List.set_cons_succ]
  refine anyC_done (by kernel_rfl) ?_ _
  go_wp2
  go_ret
  exact ⟨rfl, HN2.out.z.b⟩
end Go.Proofs.YtjoogiabimiioaaGreatDoor
