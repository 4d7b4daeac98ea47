/- The walk of ParityKnown. -/
import Derived.Test.YtfagfenmampigaaX
namespace Go.Proofs.Ytfagfenmampigaa
open Go.RowKit Go.ChangeShapes
theorem Wk.add {w W : World} {ps : List (Nat × Obj)} (h : Wk w W ps) (o : Obj) : Wk w (W.alloc o) ((W.heap.size, o) :: ps) := ⟨(h.alloc o).b, fun x hx => by
  rcases List.mem_cons.1 hx with rfl | hx
  · exact heap_alloc_new W o
  · exact (h.alloc o).k x hx⟩
theorem Wk.head {w W : World} {g : Nat} {o : Obj} {ps : List (Nat × Obj)} (h : Wk w W ((g, o) :: ps)) : W.heap[g]? = some o := h.k (g, o) (.head _)
theorem yCrc0 (w : World) : Calls Try.prog 14 #[.int .i64 (0), .string (rp 120 4097)] w fun e w' => e = .returned (.tuple #[.int .i64 0, .int .i64 2]) ∧ w' = w := crc_kind 0 _ w ⟨by decide, by decide⟩
theorem yMoreHi (w : World) : Calls Try.prog 13 #[.int .i64 (1), .int .i64 (4294967296), .string (rp 120 4097)] w fun e w' => e = .returned (.tuple #[.int .i64 0, .int .i64 2]) ∧ w' = w := more_crc false 4294967296 _ w (by unfold badC; omega)
theorem yMoreLo (w : World) : Calls Try.prog 13 #[.int .i64 (1), .int .i64 (-1), .string ⟨#[]⟩] w fun e w' => e = .returned (.tuple #[.int .i64 0, .int .i64 2]) ∧ w' = w := more_crc false (-1) _ w (by unfold badC; omega)
theorem yMoreLong (w : World) : Calls Try.prog 13 #[.int .i64 (1), .int .i64 (4294967295), .string (rp 120 4097)] w fun e w' => e = .returned (.tuple #[.int .i64 0, .int .i64 3]) ∧ w' = w := more_long false 4294967295 _ w (by decide) (by decide) (by rw [rp_size]; decide)
theorem yJoinK (w : World) : Calls Try.prog 19 #[.int .i64 (3), .int .i64 (0), .int .i64 (0), .int .i64 (0)] w fun e w' => e = .returned (.tuple #[.int .i64 0, .int .i64 2]) ∧ w' = w := join_kind 3 0 0 0 w ⟨by decide, by decide⟩
theorem yJoinA (w : World) : Calls Try.prog 19 #[.int .i64 (1), .int .i64 (-1), .int .i64 (0), .int .i64 (0)] w fun e w' => e = .returned (.tuple #[.int .i64 0, .int .i64 2]) ∧ w' = w := join_a false (-1) 0 0 w (by unfold badC; omega)
theorem yJoinB (w : World) : Calls Try.prog 19 #[.int .i64 (1), .int .i64 (0), .int .i64 (4294967296), .int .i64 (1)] w fun e w' => e = .returned (.tuple #[.int .i64 0, .int .i64 2]) ∧ w' = w := join_b false 0 4294967296 1 w (by decide) (by decide) (by unfold badC; omega)
theorem yJoinLo (w : World) : Calls Try.prog 19 #[.int .i64 (1), .int .i64 (0), .int .i64 (0), .int .i64 (-1)] w fun e w' => e = .returned (.tuple #[.int .i64 0, .int .i64 2]) ∧ w' = w := join_lo false 0 0 (-1) w (by decide) (by decide) (by decide) (by decide) (by decide)
theorem yJoinHi (w : World) : Calls Try.prog 19 #[.int .i64 (1), .int .i64 (0), .int .i64 (0), .int .i64 (1073741825)] w fun e w' => e = .returned (.tuple #[.int .i64 0, .int .i64 2]) ∧ w' = w := join_hi false 0 0 1073741825 w (by decide) (by decide) (by decide) (by decide) (by decide)
/-- The states behind each 32 octets. -/
def okc (c : Nat) (b : UInt8) : Nat → List Nat → Bool
  | _, [] => true
  | n, x :: xs => (crS c n (List.replicate 32 b) == x) && okc c b x xs
theorem okc_spec (c : Nat) (b : UInt8) : ∀ (xs : List Nat) (n : Nat), okc c b n xs = true → crS c n (List.replicate (32 * xs.length) b) = xs.getLastD n
  | [], n, _ => rfl
  | x :: xs, n, h => by
    rw [okc, Bool.and_eq_true, beq_iff_eq] at h
    have ih := okc_spec c b xs x h.2
    rw [List.length_cons, show 32 * (xs.length + 1) = 32 + 32 * xs.length by omega, ← List.replicate_append_replicate, crS_append, h.1, ih]
    cases xs <;> rfl
def sts : List Nat := [1378025976, 607654044, 3370037440, 708039712, 893346104, 1951755259, 1892092515, 2973180101, 3732561702, 3287441255, 1061600451, 579177055, 2149870774, 2618172158, 3051740541, 4194204423, 1676216552, 1791412024, 520835966, 2312634081, 1154538159, 729881132, 4247655269, 1294754133, 2535097796, 698563107, 4195588393, 2129307917, 3415850254, 4080828533, 3794873898, 344762918, 260665548, 132990146, 98710144, 3985584028, 2255229674, 3419388644, 500538412, 4058818651, 4075989839, 3393199574, 270336327, 1262891461, 1469178481, 1043931219, 3550179075, 3106923206, 4047031989, 643162958, 3069779792, 4074346357, 2465284138, 3747526592, 976324238, 88941148, 3586314307, 3683405597, 3142793512, 1253982808, 1609566050, 2947848537, 812264689, 387019630, 2849401, 879745458, 2125748660, 1444227030, 2524320522, 1819173963, 2400041056, 4087084003, 1419102091, 3287198932, 4014980052, 2726351302, 3103288299, 3591074, 1582432201, 58471841, 1609339515, 2414871334, 3554216311, 1312545240, 3548204299, 3322695393, 1994298413, 2428040714, 1935386659, 4110337594, 3587768024, 948924948, 1199143245, 3756392655, 2214090753, 2150399892, 4259068679, 1633762369, 1146247671, 2617237034, 2574750267, 2792965386, 3047412747, 3770811523, 2041141455, 3671620153, 1297833750, 338671539, 302280113, 409132270, 2047886662, 3359212743, 2647492110, 751103407, 3846140655, 3645147968, 4209472497, 1182331170, 3557150868, 1145018859, 3009987292, 3444654040, 560828352, 2765682736, 2289223309, 592205985, 427201268, 1536511456]
theorem sts_ok : okc 2197175160 120 FF sts = true := by decide +kernel
theorem sts_len : 32 * sts.length = 4096 := by decide +kernel
theorem sts_last : sts.getLastD FF = 1536511456 := by decide +kernel
theorem yVal : moreN (kC true) 0 (List.replicate 4096 120) = 2758455839 := by
  have h := okc_spec 2197175160 120 sts FF sts_ok
  rw [sts_len, sts_last] at h
  rw [moreN, Nat.xor_zero, show kC true = 2197175160 from rfl, h]
  decide +kernel
theorem yCrcF (w : World) : Calls Try.prog 14 #[.int .i64 2, .string (rp 120 4096)] w fun e w' => e = .returned (.tuple #[.int .i64 2758455839, .int .i64 0]) ∧ Below w.heap.size w w' := by
  have h := crc_yes true (List.replicate 4096 120) w (by rw [List.length_replicate]; decide)
  rw [yVal] at h
  exact h
theorem yMoreF (w : World) : Calls Try.prog 13 #[.int .i64 2, .int .i64 0, .string (rp 120 4096)] w fun e w' => e = .returned (.tuple #[.int .i64 2758455839, .int .i64 0]) ∧ Below w.heap.size w w' := by
  have h := more_yes true 0 (List.replicate 4096 120) w (by decide) (by rw [List.length_replicate]; decide)
  rw [yVal] at h
  exact h
theorem yJoinF (w : World) : Calls Try.prog 19 #[.int .i64 1, .int .i64 4294967295, .int .i64 5, .int .i64 1073741824] w fun e w' => ∃ J : Nat, e = .returned (.tuple #[.int .i64 (J : Int), .int .i64 0]) ∧ Below w.heap.size w w' :=
  (join_yes false 4294967295 5 1073741824 w (by decide) (by decide) (by decide) (by decide)).mono fun _ _ h => ⟨_, h.1, h.2⟩
theorem yJoinO (w : World) : Calls Try.prog 19 #[.int .i64 2, .int .i64 4294967295, .int .i64 0, .int .i64 0] w fun e w' => e = .returned (.tuple #[.int .i64 4294967295, .int .i64 0]) ∧ Below w.heap.size w w' := by
  have h := join_yes true 4294967295 0 0 w (by decide) (by decide) (by decide) (by decide)
  rw [show joinN (kC true) 4294967295 0 0 = 4294967295 by decide +kernel] at h
  exact h
/-- 65 empty strings. -/
def R65 : Array Value := (List.replicate 65 (Value.string ⟨#[]⟩)).toArray
theorem R65_get (i : Nat) (h : i < 65) : R65[i]? = some (Value.string ⟨#[]⟩) := by
  rw [R65, List.getElem?_toArray, List.getElem?_replicate, if_pos h]
theorem make65 (w : World) : (Instr.makeSlice 29 (.int .i64 65) (.int .i64 65)).run Try.prog w = .ok (.slice (some ⟨w.heap.size, 0, none⟩) 65 65) (w.alloc (.cells R65 9)) := by kernel_rfl
theorem rw65 {W : World} {g : Nat} (h : W.heap[g]? = some (.cells R65 9)) (n : Nat) (hn : n ≤ 65) : Rw W (some ⟨g, 0, none⟩) (List.replicate n []) := fun i hi => by
  rw [List.length_replicate] at hi
  refine ⟨g, 0, rfl, (Array.getElem?_eq_some_iff.1 h).1, ?_⟩
  rw [Nat.zero_add]
  refine (cell_of_row _ _ i _ 9 (0, 0) h).trans ((R65_get i (by omega)).trans ?_)
  rw [List.getD_eq_getElem?_getD, List.getElem?_replicate, if_pos hi]; rfl
theorem yXor64 (W : World) (g : Nat) (h : W.heap[g]? = some (.cells R65 9)) : Calls Try.prog 21 #[.slice (some ⟨g, 0, none⟩) 64 65] W fun e w' => e = .returned (.tuple #[.string ⟨#[]⟩, .int .i64 0]) ∧ Below W.heap.size W w' := by
  have h2 := xor_any (some ⟨g, 0, none⟩) 65 (List.replicate 64 []) W (rw65 h 64 (by decide)) (by rw [List.length_replicate]; decide)
  rw [xorRes_yes (by rw [List.length_replicate]; decide) (fun r hr => by rw [List.eq_of_mem_replicate hr]; decide), show paL (List.replicate 64 []) = [] by decide +kernel, List.length_replicate] at h2
  exact h2
theorem yXor65 (W : World) (g : Nat) (h : W.heap[g]? = some (.cells R65 9)) : Calls Try.prog 21 #[.slice (some ⟨g, 0, none⟩) 65 65] W fun e w' => e = .returned (.tuple #[.string ⟨#[]⟩, .int .i64 3]) ∧ Below W.heap.size W w' := by
  have h2 := xor_any (some ⟨g, 0, none⟩) 65 (List.replicate 65 []) W (rw65 h 65 (by decide)) (by rw [List.length_replicate]; decide)
  rw [xorRes_long (by rw [List.length_replicate]; decide), List.length_replicate] at h2
  exact h2
theorem paL_one (r : List UInt8) : paL [r] = r := ext_getD (by rw [paL_length, mxl_one]) fun i _ => by rw [paL_getD, axs_one]
theorem yXorP (W : World) : Calls Try.prog 21 #[.slice (some ⟨W.heap.size, 0, none⟩) 1 1] (W.alloc (.cells #[.string (rp 112 1200)] 9)) fun e w' => e = .returned (.tuple #[.string (rp 112 1200), .int .i64 0]) ∧ Below (W.alloc (.cells #[.string (rp 112 1200)] 9)).heap.size (W.alloc (.cells #[.string (rp 112 1200)] 9)) w' := by
  have hc := heap_alloc_new W (.cells #[.string (rp 112 1200)] 9)
  have h := xor_any (some ⟨W.heap.size, 0, none⟩) 1 [List.replicate 1200 112] (W.alloc (.cells #[.string (rp 112 1200)] 9)) (fun i hi => ⟨W.heap.size, 0, rfl, by simp, by
    have h2 : i = 0 := by have h3 : i < 1 := hi; omega
    subst h2
    exact cell_of_row _ _ 0 _ 9 (0, 0) hc⟩) (by decide)
  rw [xorRes_yes (by decide) (fun r hr => by rw [List.mem_singleton.1 hr, List.length_replicate]; decide), paL_one] at h
  exact h
theorem yXorQ (W : World) : Calls Try.prog 21 #[.slice (some ⟨W.heap.size, 0, none⟩) 2 2] (W.alloc (.cells #[.string ⟨#[]⟩, .string (rp 112 1201)] 9)) fun e w' => e = .returned (.tuple #[.string ⟨#[]⟩, .int .i64 3]) ∧ Below (W.alloc (.cells #[.string ⟨#[]⟩, .string (rp 112 1201)] 9)).heap.size (W.alloc (.cells #[.string ⟨#[]⟩, .string (rp 112 1201)] 9)) w' := by
  have hc := heap_alloc_new W (.cells #[.string ⟨#[]⟩, .string (rp 112 1201)] 9)
  have h := xor_any (some ⟨W.heap.size, 0, none⟩) 2 [[], List.replicate 1201 112] (W.alloc (.cells #[.string ⟨#[]⟩, .string (rp 112 1201)] 9)) (fun i hi => ⟨W.heap.size, 0, rfl, by simp, by
    have h2 : i = 0 ∨ i = 1 := by have h3 : i < 2 := hi; omega
    rcases h2 with rfl | rfl
    · exact cell_of_row _ _ 0 _ 9 (0, 0) hc
    · exact cell_of_row _ _ 1 _ 9 (0, 0) hc⟩) (by decide)
  rw [xorRes_row (k := 1) (by decide) (by show 1200 < (List.replicate 1201 (112 : UInt8)).length; rw [List.length_replicate]; decide)] at h
  exact h
theorem rp_succ (c : UInt8) (n : Nat) : rp c n ++ (⟨#[c]⟩ : ByteArray) = rp c (n + 1) := by
  have : (⟨#[c]⟩ : ByteArray) = bs [c] := rfl
  rw [this]; unfold rp
  rw [← bs_append, List.replicate_succ']
theorem rp_add : rp 112 1200 ++ (⟨#[112]⟩ : ByteArray) = rp 112 1201 := rp_succ 112 1200
set_option maxRecDepth 1000000 in
set_option maxHeartbeats 8000000 in
theorem known_true (w : World) : Calls Try.prog 9 #[] w fun e w' => e = .returned (.bool true) ∧ Below w.heap.size w w' := by
  have K0 : Wk w w [] := Wk.start
  have hmk := make65
  have hra := rp_add
  have hrs : (rp 112 1200).size = 1200 := rp_size _ _
  go_enter Try.func9, Try.ntmps9
  go_upto_region 5 with (first
    | (go_at_call 10; (with_reducible refine (works_true _).mono ?_); rintro e V ⟨rfl, hb⟩; with_reducible replace K0 := Wk.step K0 hb; clear hb)
    | (go_at_call 12; (first | (with_reducible refine (kRep 120 4096 4096 _ rfl (by decide)).mono ?_) | (with_reducible refine (kRep 120 4097 4097 _ rfl (by decide)).mono ?_)); rintro e V ⟨rfl, hb⟩; with_reducible replace K0 := Wk.step K0 hb; clear hb))
  go_wp2_with fail
  have K0 := K0.add (.cells R65 9)
  generalize V.heap.size = G at K0 ⊢
  generalize World.alloc V _ = V2 at K0 ⊢
  clear hmk
  go_upto_region 12 with (first
    | (go_at_call 12; (with_reducible refine (kRep 112 1200 1200 _ rfl (by decide)).mono ?_); rintro e V ⟨rfl, hb⟩; with_reducible replace K0 := Wk.step K0 hb; clear hb)
    | (go_at_call 14; (with_reducible refine (yCrcF _).mono ?_); rintro e V ⟨rfl, hb⟩; with_reducible replace K0 := Wk.step K0 hb; clear hb)
    | (go_at_call 19; (with_reducible refine (yJoinF _).mono ?_); rintro e V ⟨J, rfl, hb⟩; with_reducible replace K0 := Wk.step K0 hb; clear hb)
    | (go_at_call 21; (first
       | ((with_reducible refine (yXor64 _ _ (Wk.head K0)).mono ?_); rintro e V ⟨rfl, hb⟩; with_reducible replace K0 := Wk.step K0 hb; clear hb)
       | ((with_reducible refine (yXor65 _ _ (Wk.head K0)).mono ?_); rintro e V ⟨rfl, hb⟩; with_reducible replace K0 := Wk.step K0 hb; clear hb)
       | ((with_reducible refine (yXorP _).mono ?_); rintro e V ⟨rfl, hb⟩; with_reducible replace K0 := Wk.step K0 (bel_of_alloc hb); clear hb)
       | ((with_reducible refine (yXorQ _).mono ?_); rintro e V ⟨rfl, hb⟩; with_reducible replace K0 := Wk.step K0 (bel_of_alloc hb); clear hb))))
  have hj0 : (0 : Int) ≤ (J : Int) := by omega
  clear hra hrs
  go_wp2_with (first
    | (go_at_call 10; (with_reducible refine (works_true _).mono ?_); rintro e V ⟨rfl, hb⟩; obtain ⟨K0, hp, hz⟩ := Wk.keep1 K0 hp hz hb; clear hb)
    | (go_at_call 13; (with_reducible refine (yMoreF _).mono ?_); rintro e V ⟨rfl, hb⟩; obtain ⟨K0, hp, hz⟩ := Wk.keep1 K0 hp hz hb; clear hb)
    | (go_at_call 13; (first | (with_reducible refine (yMoreHi _).mono ?_) | (with_reducible refine (yMoreLo _).mono ?_) | (with_reducible refine (yMoreLong _).mono ?_)); rintro e V ⟨rfl, rfl⟩)
    | (go_at_call 14; (first | (with_reducible refine (yCrc0 _).mono ?_)); rintro e V ⟨rfl, rfl⟩)
    | (go_at_call 19; (with_reducible refine (yJoinO _).mono ?_); rintro e V ⟨rfl, hb⟩; obtain ⟨K0, hp, hz⟩ := Wk.keep1 K0 hp hz hb; clear hb)
    | (go_at_call 19; (first | (with_reducible refine (yJoinK _).mono ?_) | (with_reducible refine (yJoinA _).mono ?_) | (with_reducible refine (yJoinB _).mono ?_) | (with_reducible refine (yJoinLo _).mono ?_) | (with_reducible refine (yJoinHi _).mono ?_)); rintro e V ⟨rfl, rfl⟩)
    | (go_at_call 23; (with_reducible refine (is_any _ _).mono ?_); rintro e V ⟨rfl, hp, hz, hb⟩; with_reducible replace K0 := Wk.step K0 hb; clear hb)
    | (go_at_call 25; (with_reducible refine (fails_any _ _).mono ?_); rintro e V ⟨rfl, hp, hz, hb⟩; with_reducible replace K0 := Wk.step K0 hb; clear hb)
    | (go_at_call 43; (with_reducible refine (is1_yes _ _ _ hp).mono ?_); rintro e V ⟨rfl, rfl⟩)
    | (go_at_call 45; (with_reducible refine (fails1_yes _ _ _ hp).mono ?_); rintro e V ⟨rfl, rfl⟩))
  go_ret
  exact ⟨rfl, K0.b⟩
end Go.Proofs.Ytfagfenmampigaa
