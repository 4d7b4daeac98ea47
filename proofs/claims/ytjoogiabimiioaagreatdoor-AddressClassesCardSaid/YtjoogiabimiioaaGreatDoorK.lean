/- Contracts of hostText, HostText and Text. -/
import Derived.Test.YtjoogiabimiioaaGreatDoorJ
namespace Go.Proofs.YtjoogiabimiioaaGreatDoor
open Go.RowKit Go.ChangeShapes
theorem gN_lt (s : List UInt8) (i : Nat) : gN s i < 65536 := by
  unfold gN
  have h1 := (s.getD (2 * i) 0).toNat_lt
  have h2 := (s.getD (2 * i + 1) 0).toNat_lt
  omega
theorem seF_lt (pre : List (Fin 8 × Nat)) (h : ∀ x ∈ pre, x.2 < 65536) : ∀ y ∈ seF pre, y < 65536 := by
  rcases List.eq_nil_or_concat pre with rfl | ⟨l, b, rfl⟩
  · intro y hy
    have hy2 : y ∈ Z8 := hy
    simp [Z8] at hy2
    omega
  · rw [List.concat_eq_append] at h ⊢
    rw [seF_snoc]
    intro y hy
    rcases List.mem_or_eq_of_mem_set hy with hy | rfl
    · exact seF_lt l (fun x hx => h x (List.mem_append_left _ hx)) y hy
    · exact h b (List.mem_append_right _ (List.mem_singleton.2 rfl))
termination_by pre.length
theorem grpL_lt (s : List UInt8) : ∀ y ∈ grpL s, y < 65536 := seF_lt _ (fun x hx => by
  obtain ⟨i, _, rfl⟩ := List.mem_map.1 hx
  exact gN_lt s i)
/-- Octets with dots between them. -/
def dotT (s : List UInt8) : List UInt8 := Lib.join ((s.map UInt8.toNat).map (numT 10)) [46]
/-- The text of a host. -/
def hostT (s : List UInt8) : List UInt8 := if s.length = 4 then dotT s else grT (grpL s)
theorem dotT_length (s : List UInt8) (h : s.length = 4) : (dotT s).length ≤ 84 := by
  have := joinT_length 10 46 (s.map UInt8.toNat) (fun x hx => by obtain ⟨b, _, rfl⟩ := List.mem_map.1 hx; have := b.toNat_lt; omega)
  rw [List.length_map, h] at this
  exact this
theorem grT_length (l : List Nat) (hl : l.length = 8) (h : ∀ x ∈ l, x < 65536) : (grT l).length ≤ 400 := by
  unfold grT
  split
  · have := colT_length l (by omega) h; omega
  · have h1 := colT_length (l.take (lrK l 8).1) (by rw [List.length_take]; omega) (fun x hx => h x (List.mem_of_mem_take hx))
    have h2 := colT_length (l.drop (lrK l 8).2.1) (by rw [List.length_drop]; omega) (fun x hx => h x (List.mem_of_mem_drop hx))
    rw [List.length_append, List.length_append, List.length_cons, List.length_cons, List.length_nil]
    omega
theorem hostT_length (s : List UInt8) : (hostT s).length ≤ 400 := by
  unfold hostT
  split
  · rename_i h; have := dotT_length s h; omega
  · exact grT_length _ (grpL_length s) (grpL_lt s)
set_option maxRecDepth 100000 in
set_option maxHeartbeats 4000000 in
theorem hostText_any (s : List UInt8) (w : World) (hs : s.length = 4 ∨ s.length = 16) (hE : Env w) :
    Calls Tryz.prog 46 #[.string (bs s)] w fun e w' => e = .returned (.string (bs (hostT s))) ∧ Below w.heap.size w w' := by
  have hsz := bs_size s
  unfold hostT
  by_cases h4 : s.length = 4
  · rw [if_pos h4]
    obtain ⟨cap, W1, hcap, hconv, hO, hB, hz⟩ := bytes_made (bs s) w
    have h80 := write80_any w.heap.size 0 cap (s.map UInt8.toNat) [46] 10 (.inl rfl) W1 (hE.below hB) (by rw [List.length_map]; omega) (fun x hx => by obtain ⟨b, _, rfl⟩ := List.mem_map.1 hx; exact b.toNat_lt) (by omega) (by rw [List.length_map, ← hsz]; exact hcap) (fun j hj => by
      rw [List.length_map] at hj
      rw [Nat.zero_add, (hO j (by rw [bs_data]; exact hj)).1, bs_data, List.getD_eq_getElem?_getD, List.getD_eq_getElem?_getD, List.getElem?_map, List.getElem?_eq_getElem hj]
      rfl) (by have := dotT_length s h4; unfold dotT at this; omega)
    have e4 : ((bs s).size : Int) = 4 := by omega
    rw [List.length_map] at h80
    rw [hsz] at hconv
    have H8 := Lib.hid h80
    have HB := Lib.hid hB
    change Hid (Calls Tryz.prog 80 #[.slice (some ⟨w.heap.size, 0, none⟩) s.length cap, .string ⟨#[46]⟩, .int .i64 10] W1 fun e w' => e = .returned (.string (bs (dotT s))) ∧ _) at H8
    generalize dotT s = TT at H8 ⊢
    rw [h4] at H8 hconv
    generalize bs s = S at hconv e4 ⊢
    clear hE hO hB hz hs h80 hsz hcap
    go_enter Tryz.func46, Tryz.ntmps46
    go_wp2_with fail
    (with_reducible refine H8.out.mono ?_)
    rintro e V ⟨rfl, hb⟩
    go_wp2
    go_ret
    exact ⟨rfl, bstep HB.out hb⟩
  · rw [if_neg h4]
    have h16 : s.length = 16 := by omega
    have e4 : ((bs s).size : Int) = 16 := by omega
    have HG := Lib.hid (fun W => groupsOf_any s W (by omega))
    have HX := Lib.hid (fun W hEW => text_any (grpL s) W (grpL_length s) (grpL_lt s) hEW)
    generalize grpL s = L at HG HX ⊢
    generalize bs s = S at HG e4 ⊢
    have HE := Lib.hid hE
    clear hE hs h4 h16 hsz
    go_enter Tryz.func46, Tryz.ntmps46
    go_wp2_with fail
    (with_reducible refine (HG.out _).mono ?_)
    rintro e V ⟨rfl, hb⟩
    have HE2 := Lib.hid (HE.out.below hb)
    have HB := Lib.hid hb
    clear hb
    go_wp2_with fail
    (with_reducible refine (HX.out _ HE2.out).mono ?_)
    rintro e V2 ⟨rfl, hb⟩
    go_wp2
    go_ret
    exact ⟨rfl, bstep HB.out hb⟩
set_option maxRecDepth 100000 in
set_option maxHeartbeats 2000000 in
theorem HostText_yes (s : List UInt8) (w : World) (hs : s.length = 4 ∨ s.length = 16) (hE : Env w) :
    Calls Tryz.prog 20 #[.string (bs s)] w fun e w' => e = .returned (.tuple #[.string (bs (hostT s)), .int .i64 0]) ∧ Below w.heap.size w w' := by
  have HT := Lib.hid (hostText_any s w hs hE)
  have h1 := fun W => isHost_any (bs s) W
  rw [show hostB (bs s) = true by unfold hostB; rw [bs_size]; rcases hs with h | h <;> rw [h] <;> rfl] at h1
  have H1 := Lib.hid h1
  clear h1 hs hE
  go_enter Tryz.func20, Tryz.ntmps20
  go_wp2_with fail
  (with_reducible refine (H1.out _).mono ?_)
  rintro e V ⟨rfl, rfl⟩
  go_wp2_with fail
  (with_reducible refine HT.out.mono ?_)
  rintro e V ⟨rfl, hb⟩
  go_wp2
  go_ret2
  exact ⟨rfl, hb⟩
set_option maxRecDepth 100000 in
theorem HostText_no (S : ByteArray) (w : World) (hs : hostB S = false) :
    Calls Tryz.prog 20 #[.string S] w fun e w' => e = .returned (.tuple #[.string ⟨#[]⟩, .int .i64 2]) ∧ Below w.heap.size w w' := by
  have h1 := fun W => isHost_any S W
  rw [hs] at h1
  have H1 := Lib.hid h1
  clear h1 hs
  go_enter Tryz.func20, Tryz.ntmps20
  go_wp2_with fail
  (with_reducible refine (H1.out _).mono ?_)
  rintro e V ⟨rfl, rfl⟩
  go_wp2
  go_ret2
  exact ⟨rfl, Below.refl _ _⟩
theorem below_grow (w : World) (k : Nat) (os : Array Obj) : Below w.heap.size w (Go.Sort.grow (w.drewN k) os) := by
  refine ⟨rfl, rfl, rfl, ?_, fun j hj => ?_⟩
  · show w.heap.size ≤ (w.heap ++ os).size
    simp
  · show (w.heap ++ os)[j]? = w.heap[j]?
    rw [Array.getElem?_append_left hj]
theorem itoa_any (p : Nat) (hp : p ≤ 65535) (w : World) (hE : Env w) : Calls Tryz.prog 45 #[.int .i64 (p : Int)] w fun e w' => e = .returned (.string (bs (Lib.decDigits p))) ∧ Below w.heap.size w w' := by
  refine (Tryz.strconv_Itoa (p : Int) (by omega) (by omega) w hE.t).mono ?_
  rintro e w' ⟨rfl, k, os, rfl⟩
  refine ⟨?_, below_grow w k os⟩
  unfold Lib.itoa
  rw [if_neg (by omega), Int.toNat_natCast]
  rfl
/-- The text of an address. -/
def adT (s : List UInt8) (p : Nat) : List UInt8 := if s.length = 16 then 91 :: (hostT s ++ ([93, 58] ++ Lib.decDigits p)) else hostT s ++ (58 :: Lib.decDigits p)
/-- What stays while a text is made. -/
structure Ta (w : World) (c : Array Value) (t : TypeId) (W : World) : Prop where
  e : Env W
  g : W.heap[w.heap.size]? = some (.cells c t (0, 0))
  b : Below w.heap.size w W
theorem Ta.below {w : World} {c : Array Value} {t : TypeId} {W V : World} (h : Ta w c t W) (hb : Below W.heap.size W V) : Ta w c t V := ⟨h.e.below hb, (hb.block _ (Array.getElem?_eq_some_iff.1 h.g).1).trans h.g, bstep h.b hb⟩
theorem Ta.drew {w : World} {c : Array Value} {t : TypeId} {W : World} (h : Ta w c t W) : Ta w c t W.drew := ⟨h.e.drew, h.g, h.b.drew⟩
set_option maxRecDepth 100000 in
set_option maxHeartbeats 8000000 in
theorem Text_yes (s : List UInt8) (p : Nat) (w : World) (hs : s.length = 4 ∨ s.length = 16) (hp : p ≤ 65535) (hE : Env w) :
    Calls Tryz.prog 15 #[.agg #[.string (bs s), .int .i64 (p : Int)]] w fun e w' => e = .returned (.tuple #[.string (bs (adT s p)), .int .i64 0]) ∧ Below w.heap.size w w' := by
  have HT : Hid (Ta w #[.string (bs s), .int .i64 (p : Int)] 23 (w.alloc (.cells #[.string (bs s), .int .i64 (p : Int)] 23))) := Lib.hid ⟨hE.alloc _, heap_alloc_new w _, (Below.refl _ w).alloc (Nat.le_refl _) _⟩
  have hck := fun W => Check_any (bs s) (p : Int) W
  rw [show adB (bs s) (p : Int) = true by
    unfold adB hostB; rw [bs_size, Bool.and_eq_true]; refine ⟨by rcases hs with h | h <;> rw [h] <;> rfl, by simp; omega⟩, if_pos rfl] at hck
  have HCK := Lib.hid hck
  have HH := Lib.hid (fun W hEW => hostText_any s W hs hEW)
  have HI := Lib.hid (fun W hEW => itoa_any p hp W hEW)
  have hl1 := hostT_length s
  have hl2 : (Lib.decDigits p).length ≤ 20 := by rw [Lib.decDigits_length]; exact Lib.nDigits_le20 p (by omega)
  have hsz := bs_size s
  have had : (¬ s.length = 16 → adT s p = hostT s ++ (58 :: Lib.decDigits p)) ∧ (s.length = 16 → adT s p = 91 :: (hostT s ++ ([93, 58] ++ Lib.decDigits p))) := ⟨fun h => if_neg h, fun h => if_pos h⟩
  generalize hostT s = H at HH hl1 had
  generalize Lib.decDigits p = D at HI hl2 had
  generalize adT s p = AT at had ⊢
  have HAD := Lib.hid had
  clear had
  have hc1 : ∀ wx : World, (Op.stringOp .add ⟨#[91]⟩ (bs H)).run Tryz.prog wx = .ok (.string (bs (91 :: H))) wx := fun wx => by
    rw [run_string_add wx ⟨#[91]⟩ (bs H) (by decide) (by rw [bs_size]; omega), show (⟨#[91]⟩ : ByteArray) = bs [91] from rfl, ← bs_append]; rfl
  have hc2 : ∀ wx : World, (Op.stringOp .add (bs (91 :: H)) ⟨#[93, 58]⟩).run Tryz.prog wx = .ok (.string (bs (91 :: H ++ [93, 58]))) wx := fun wx => by
    rw [run_string_add wx _ ⟨#[93, 58]⟩ (by rw [bs_size, List.length_cons]; omega) (by decide), show (⟨#[93, 58]⟩ : ByteArray) = bs [93, 58] from rfl, ← bs_append]
  have hc3 : ∀ wx : World, (Op.stringOp .add (bs (91 :: H ++ [93, 58])) (bs D)).run Tryz.prog wx = .ok (.string (bs (91 :: (H ++ ([93, 58] ++ D))))) wx := fun wx => by
    rw [run_string_add wx _ _ (by rw [bs_size]; simp; omega) (by rw [bs_size]; omega), ← bs_append]; simp
  have hc4 : ∀ wx : World, (Op.stringOp .add (bs H) ⟨#[58]⟩).run Tryz.prog wx = .ok (.string (bs (H ++ [58]))) wx := fun wx => by
    rw [run_string_add wx _ ⟨#[58]⟩ (by rw [bs_size]; omega) (by decide), show (⟨#[58]⟩ : ByteArray) = bs [58] from rfl, ← bs_append]
  have hc5 : ∀ wx : World, (Op.stringOp .add (bs (H ++ [58])) (bs D)).run Tryz.prog wx = .ok (.string (bs (H ++ (58 :: D)))) wx := fun wx => by
    rw [run_string_add wx _ _ (by rw [bs_size]; simp; omega) (by rw [bs_size]; omega), ← bs_append]; simp
  have HADD := Lib.hid (And.intro hc1 (And.intro hc2 (And.intro hc3 (And.intro hc4 hc5))))
  have HSZ := Lib.hid (And.intro hs hsz)
  obtain ⟨S, hS⟩ : ∃ X, bs s = X := ⟨_, rfl⟩
  obtain ⟨X1, hX1⟩ : ∃ X, bs H = X := ⟨_, rfl⟩
  obtain ⟨X2, hX2⟩ : ∃ X, bs D = X := ⟨_, rfl⟩
  obtain ⟨X3, hX3⟩ : ∃ X, bs (91 :: H) = X := ⟨_, rfl⟩
  obtain ⟨X4, hX4⟩ : ∃ X, bs (91 :: H ++ [93, 58]) = X := ⟨_, rfl⟩
  obtain ⟨X6, hX6⟩ : ∃ X, bs (H ++ [58]) = X := ⟨_, rfl⟩
  simp only [hS, hX1, hX2, hX3, hX4, hX6] at HT HCK HH HI HADD HSZ ⊢
  clear hc1 hc2 hc3 hc4 hc5 hS hX1 hX2 hX3 hX4 hX6 hl1 hl2 hs hp hE hck hsz
  go_enter Tryz.func15, Tryz.ntmps15
  go_upto_region 1 with fail
  generalize hV : World.alloc w _ = V at HT ⊢
  clear hV
  have hz23 : (Tryz.prog.info? 23).map (·.size) = some 2 := by kernel_rfl
  go_wp2_with (refine wpList_load_row rfl 23 _ rfl w.heap.size rfl 23 #[.string S, .int .i64 (p : Int)] (0, 0) _ HT.out.g Tryz.underlying23 rfl hz23 ?_)
  (with_reducible refine (HCK.out _).mono ?_)
  rintro e V2 ⟨rfl, hb⟩
  have HT := Lib.hid (HT.out.below hb)
  clear hb hz23
  go_upto_region 4 with fail
  refine region_anyC (fun W => Ta w #[.string S, .int .i64 (p : Int)] 23 W) (fun w' => True) [] (by kernel_rfl) ?_
  have HT := Lib.hid HT.out.drew
  refine anyC_takeS (i := 0) (oi := ⟨some 12, _, _, _, _, _⟩) (v := _) rfl (by kernel_rfl) (by kernel_rfl) (by kernel_rfl) (by kernel_rfl) (fun _ _ _ h => h) (Or.inl ⟨by rfl, fun w' hw' => (by clear hw'; go_simp; try with_reducible rfl)⟩) HT.out (fun _ => trivial) ?_
  try simp only [Act.put, List.setIfInBounds_toArray, List.set_cons_zero, List.set_cons_succ]
  refine anyC_takeS (i := 1) (oi := ⟨some 13, _, _, _, _, _⟩) (v := _) rfl (by kernel_rfl) (by kernel_rfl) (by kernel_rfl) (by kernel_rfl) (fun _ _ _ h => h) (Or.inl ⟨by rfl, fun w' hw' => (by have hc := cell_of_row _ _ 0 _ 23 (0, 0) hw'.g; clear hw'; go_simp; try with_reducible rfl)⟩) HT.out (fun _ => trivial) ?_
  try simp only [Act.put, List.setIfInBounds_toArray, List.set_cons_zero, List.set_cons_succ]
  refine anyC_takeS (i := 3) (oi := ⟨some 15, _, _, _, _, _⟩) (v := _) rfl (by kernel_rfl) (by kernel_rfl) (by kernel_rfl) (by kernel_rfl) (fun _ _ _ h => h) (Or.inl ⟨by rfl, fun w' hw' => (by clear hw'; go_simp; try with_reducible rfl)⟩) HT.out (fun _ => trivial) ?_
  try simp only [Act.put, List.setIfInBounds_toArray, List.set_cons_zero, List.set_cons_succ]
  refine anyC_takeS (i := 4) (oi := ⟨some 16, _, _, _, _, _⟩) (v := _) rfl (by kernel_rfl) (by kernel_rfl) (by kernel_rfl) (by kernel_rfl) (fun _ _ _ h => h) (Or.inl ⟨by rfl, fun w' hw' => (by have hc := cell_of_row _ _ 1 _ 23 (0, 0) hw'.g; clear hw'; go_simp; try with_reducible rfl)⟩) HT.out (fun _ => trivial) ?_
  try simp only [Act.put, List.setIfInBounds_toArray, List.set_cons_zero, List.set_cons_succ]
  refine anyC_keep (i := 2) (o := ⟨some 14, _, _, _, _, _⟩) (by kernel_rfl) rfl (fun K hK => ?_)
  rw [if_pos (by rfl)]
  go_wp2_with fail
  (with_reducible refine (HH.out _ HT.out.e).mono ?_)
  rintro e V3 ⟨rfl, hb⟩
  have HT := Lib.hid (HT.out.below hb)
  refine hK.out _ _ ⟨HT.out, fun _ => trivial⟩ ?_
  clear hK K hb
  try simp only [Act.put, List.setIfInBounds_toArray, List.set_cons_zero, List.set_cons_succ]
  refine anyC_keep (i := 5) (o := ⟨some 17, _, _, _, _, _⟩) (by kernel_rfl) rfl (fun K hK => ?_)
  rw [if_pos (by rfl)]
  go_wp2_with fail
  (with_reducible refine (HI.out _ HT.out.e).mono ?_)
  rintro e V4 ⟨rfl, hb⟩
  have HT := Lib.hid (HT.out.below hb)
  refine hK.out _ _ ⟨HT.out, fun _ => trivial⟩ ?_
  clear hK K hb
  try simp only [Act.put, List.setIfInBounds_toArray, List.set_cons_zero, List.set_cons_succ]
  refine anyC_takeS (i := 6) (oi := ⟨some 5, _, _, _, _, _⟩) (v := _) rfl (by kernel_rfl) (by kernel_rfl) (by kernel_rfl) (by kernel_rfl) (fun _ _ _ h => h) (Or.inl ⟨by rfl, fun w' hw' => (by clear hw'; go_simp; try with_reducible rfl)⟩) HT.out (fun _ => trivial) ?_
  try simp only [Act.put, List.setIfInBounds_toArray, List.set_cons_zero, List.set_cons_succ]
  refine anyC_takeS (i := 7) (oi := ⟨some 6, _, _, _, _, _⟩) (v := _) rfl (by kernel_rfl) (by kernel_rfl) (by kernel_rfl) (by kernel_rfl) (fun _ _ _ h => h) (Or.inl ⟨by rfl, fun w' hw' => (by clear hw'; go_simp; try with_reducible rfl)⟩) HT.out (fun _ => trivial) ?_
  try simp only [Act.put, List.setIfInBounds_toArray, List.set_cons_zero, List.set_cons_succ]
  refine anyC_done (by kernel_rfl) ?_ _
  have cS : V4.cell? ⟨w.heap.size, 0, none⟩ = some (.string S) := cell_of_row _ _ 0 _ 23 (0, 0) HT.out.g
  obtain ⟨a1, a2, a3, a4, a5⟩ := HADD.out
  rcases HSZ.out.1 with h4 | h16
  · have e1 : (S.size : Int) = 4 := by have := HSZ.out.2; omega
    have HN := Lib.hid (show ¬ s.length = 16 by omega)
    clear a1 a2 a3 HADD HSZ h4
    go_wp2
    go_ret2
    exact ⟨by rw [HAD.out.1 HN.out]; rfl, HT.out.b⟩
  · have e1 : (S.size : Int) = 16 := by have := HSZ.out.2; omega
    have HN := Lib.hid h16
    clear a4 a5 HADD HSZ h16
    go_wp2
    go_ret2
    exact ⟨by rw [HAD.out.2 HN.out]; rfl, HT.out.b⟩
set_option maxRecDepth 100000 in
set_option maxHeartbeats 4000000 in
theorem Text_no (S : ByteArray) (p : Int) (w : World) (h : adB S p = false) :
    Calls Tryz.prog 15 #[.agg #[.string S, .int .i64 p]] w fun e w' => e = .returned (.tuple #[.string ⟨#[]⟩, .int .i64 2]) ∧ Below w.heap.size w w' := by
  have hg : (w.alloc (.cells #[.string S, .int .i64 p] 23)).heap[w.heap.size]? = some (.cells #[.string S, .int .i64 p] 23 (0, 0)) := heap_alloc_new w _
  have HB := Lib.hid ((Below.refl _ w).alloc (Nat.le_refl _) (.cells #[.string S, .int .i64 p] 23))
  have hck := fun W => Check_any S p W
  rw [h, if_neg (by decide)] at hck
  have HCK := Lib.hid hck
  have HG := Lib.hid hg
  clear hck hg h
  go_enter Tryz.func15, Tryz.ntmps15
  go_upto_region 1 with fail
  generalize hV : World.alloc w _ = V at HG HB ⊢
  clear hV
  have hz23 : (Tryz.prog.info? 23).map (·.size) = some 2 := by kernel_rfl
  go_wp2_with (refine wpList_load_row rfl 23 _ rfl w.heap.size rfl 23 #[.string S, .int .i64 p] (0, 0) _ HG.out Tryz.underlying23 rfl hz23 ?_)
  (with_reducible refine (HCK.out _).mono ?_)
  rintro e V2 ⟨rfl, hb⟩
  clear hz23
  go_wp2
  go_ret2
  exact ⟨rfl, bstep HB.out hb⟩
end Go.Proofs.YtjoogiabimiioaaGreatDoor
