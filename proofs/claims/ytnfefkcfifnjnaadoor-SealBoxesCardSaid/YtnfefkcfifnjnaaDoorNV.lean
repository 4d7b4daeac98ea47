/- The reference's up. The reference's eight. The reference's Seal and Open. -/
import Derived.Test.YtnfefkcfifnjnaaDoorMQ
import Derived.Test.YtnfefkcfifnjnaaDoorNQ
import Derived.Test.YtnfefkcfifnjnaaDoorNT
import Derived.Test.YtnfefkcfifnjnaaDoorAX
import Derived.Test.YtnfefkcfifnjnaaDoorMN
namespace Go.Proofs.YtnfefkcfifnjnaaDoor
section
section
open Go.RowKit Go.ChangeShapes
theorem own_oct (w : World) (base : Nat) (b : UInt8) (hb : base ≤ w.heap.size) : (w.alloc (.cells #[.int .u8 (b.toNat : Int)] 5)).ownsRow base 5 1 (.slice (some ⟨w.heap.size, 0, none⟩) 1 1) 1 (byC [b]) :=
  ⟨rfl, Or.inr ⟨_, 1, #[.int .u8 (b.toNat : Int)], rfl, hb, heap_alloc_new w _, by omega, by unfold maxLen; omega, rfl, rfl⟩⟩
theorem zero_conv (w : World) : (convert 25 9 (.slice (some ⟨w.heap.size, 0, none⟩) 1 1)).run Tryd.prog (w.alloc (.cells #[.int .u8 0] 5)) = .ok (.string ⟨#[0]⟩) (w.alloc (.cells #[.int .u8 0] 5)) :=
  string_of_own (l := [0]) (own_oct w 0 0 (Nat.zero_le _))
theorem bs_app2g (l m : List UInt8) : bs (l ++ m) = bs l ++ bs m := by
  apply ByteArray.ext
  simp [bs]
set_option maxRecDepth 100000 in
set_option maxHeartbeats 1000000 in
/-- The reference's up. -/
theorem rup (s : List UInt8) (w : World) (hs : s.length ≤ 70000) :
    Calls Tryd.prog 43 #[.string (bs s)] w fun e w' => e = .returned (.string (bs (padO s))) ∧ Below w.heap.size w w' := by
  obtain ⟨L, hL⟩ : ∃ L, s.length = L := ⟨_, rfl⟩
  obtain ⟨M, hM⟩ : ∃ M, (16 - L % 16) % 16 = M := ⟨_, rfl⟩
  obtain ⟨PX, hPX⟩ : ∃ PX : Nat → ByteArray, ∀ j, PX j = bs (s ++ List.replicate j 0) := ⟨_, fun _ => rfl⟩
  have HZ : Hid (∀ j, (PX j).size = L + j) := Lib.hid fun j => by rw [hPX, bs_size, List.length_append, hL, List.length_replicate]
  have HS : Hid (∀ j, PX j ++ ⟨#[0]⟩ = PX (j + 1)) := Lib.hid fun j => by
    rw [hPX, hPX, List.replicate_succ', ← List.append_assoc]; exact (bs_app2g _ _).symm
  have hpad : bs (padO s) = PX M := by unfold padO; rw [hL, hM, hPX]
  have h0 : bs s = PX 0 := by rw [hPX]; simp
  rw [hpad, h0]
  have hd : ∀ j, j ≤ M → ((L + j) % 16 = 0 ↔ j = M) := fun j hj => by omega
  have HD := Lib.hid hd
  have hM16 : M < 16 := by omega
  rw [hL] at hs
  clear hd hpad h0 hPX hM hL
  go_enter Tryd.func43, Tryd.ntmps43
  go_wp2_with fail
  go_loopw [0] (fun v wr => ∃ j : Nat, j ≤ M ∧ v = .string (PX j) ∧ Hid (Below w.heap.size w wr)) (fun v _ => M + L - (match v with | .string t => t.size | _ => 0))
  case atStart => exact ⟨0, by omega, rfl, Lib.hid (Below.refl _ _)⟩
  case round =>
    obtain ⟨j, hj, rfl, HB⟩ := hrel
    have hz := HB.out.size
    have hsz := HZ.out j
    have hsz1 := HZ.out (j + 1)
    have hdj := HD.out j hj
    have hst := HS.out j
    obtain ⟨n, hn⟩ : ∃ n, L + j = n := ⟨_, rfl⟩
    obtain ⟨c, hc⟩ : ∃ c, n % 16 = c := ⟨_, rfl⟩
    rw [hn] at hsz hdj
    rw [hc] at hdj
    have r1 : (n : Int).tmod 16 = (c : Int) := by rw [Int.tmod_eq_emod_of_nonneg (by omega)]; omega
    have r2 : (n : Int) % 16 = (c : Int) := by omega
    by_cases h : j = M
    · have hc0 : c = 0 := hdj.2 h
      subst hc0
      subst h
      clear hc hdj hst
      go_wp2
      go_ret
      exact ⟨rfl, HB.out⟩
    · have hc0 : ¬ (c : Int) = 0 := by have := mt hdj.1 h; omega
      have hcv := zero_conv wr
      have HSZ1 := Lib.hid hsz1
      have HSZ := Lib.hid hsz
      have ha : ∀ wx : World, (Op.stringOp .add (PX j) ⟨#[0]⟩).run Tryd.prog wx = .ok (.string (PX (j + 1))) wx := fun wx => by
        rw [← hst]; exact run_string_add wx _ _ (by rw [hsz]; omega) (by decide)
      have HBN := Lib.hid (HB.out.alloc hz (.cells #[.int .u8 0] 5))
      have hjM : j < M := by omega
      have HNN := Lib.hid hn
      clear hc hdj hst hsz1 hn h
      go_wp2
      go_roundw
      case rel => exact ⟨j + 1, by omega, rfl, HBN⟩
      case measure => show _ < _; have h1 := HSZ1.out; have h2 := HSZ.out; have h3 := HNN.out; simp; omega
end
section
open Go.RowKit Go.ChangeShapes
def eiK (v k : Nat) : List UInt8 := octV v k ++ List.replicate (8 - k) 0
theorem eiK_length (v k : Nat) (h : k ≤ 8) : (eiK v k).length = 8 := by unfold eiK; rw [List.length_append, octV_length, List.length_replicate]; omega
theorem eiK_step (v k : Nat) (h : k < 8) : (eiK v k).set k (UInt8.ofNat (v / 256 ^ k % 256)) = eiK v (k + 1) := by
  unfold eiK
  rw [List.set_append_right _ _ (by rw [octV_length]; exact Nat.le_refl _), octV_length, Nat.sub_self, show 8 - k = (8 - (k + 1)) + 1 by omega, List.replicate_succ, List.set_cons_zero, octV_succ, List.append_assoc]; rfl
theorem eiK_last (v : Nat) : eiK v 8 = octV v 8 := by unfold eiK; simp
theorem eiK_zero (v : Nat) : byC (eiK v 0) = List.replicate 8 (.int .u8 0) := rfl
set_option maxRecDepth 100000 in
set_option maxHeartbeats 2000000 in
/-- The reference's eight. -/
theorem reight (v : Nat) (w : World) (hv : v ≤ 100000) :
    Calls Tryd.prog 44 #[.int .i64 (v : Int)] w fun e w' => e = .returned (.string (bs (octV v 8))) ∧ Below w.heap.size w w' := by
  obtain ⟨i0, hi, hz0, hz1, hz2⟩ := info_parts info5
  obtain ⟨n, hn⟩ : ∃ n, n = 8 := ⟨_, rfl⟩
  have HL : Hid (∀ k, k ≤ 8 → (eiK v k).length = 8) := Lib.hid (eiK_length v)
  have HST : Hid (∀ k, k < 8 → (eiK v k).set k (UInt8.ofNat (v / 256 ^ k % 256)) = eiK v (k + 1)) := Lib.hid (eiK_step v)
  have HE : Hid (eiK v 8 = octV v 8) := Lib.hid (eiK_last v)
  have H0 : Hid (byC (eiK v 0) = List.replicate 8 (.int .u8 0)) := Lib.hid (eiK_zero v)
  have HQ : Hid (∀ k, v / 256 ^ (k + 1) = v / 256 ^ k / 256) := Lib.hid fun k => by rw [Nat.pow_succ, Nat.div_div_eq_div_mul]
  have HV : Hid (∀ k, v / 256 ^ k ≤ 100000) := Lib.hid fun k => Nat.le_trans (Nat.div_le_self _ _) hv
  have HB0 : Hid ((v : Int) = ((v / 256 ^ 0 : Nat) : Int)) := Lib.hid (by simp)
  go_enter Tryd.func44, Tryd.ntmps44
  go_wp2_with (first | (at_make; refine wpList_make_full _ rfl _ _ 25 rfl w.heap.size 5 i0 (.int .u8 0) 1 Tryd.underlying25 hi hz0 hz1 .i64 .i64 _ _ 8 rfl rfl ?_ ?_ ?_ ?_ ?_ ?_; rfl; rfl; rw [hz2]; omega; (unfold maxLen; omega); omega; intro w1 hown1 hg1))
  have hB1 : Below w.heap.size w w1 := (Below.refl _ _).grown hg1 (Nat.le_refl _) (by simp)
  have hr0 : (madeCells (Value.int .u8 0).cells (8 * 1)).toList = byC (eiK v 0) := by
    rw [H0.out, Nat.mul_one]
    simp [madeCells, Value.cells, Nat.mod_one, List.map_const']
  rw [hr0] at hown1
  have HO1 := Lib.hid hown1
  have HB1 := Lib.hid hB1
  clear hr0 hown1 hB1 hg1 hn hv H0
  go_loopw [0, 4] (fun x i wr => ∃ k : Nat, k ≤ 8 ∧ x = .int .i64 ((v / 256 ^ k : Nat) : Int) ∧ i = .int .i64 k ∧ Hid (wr.ownsRow w.heap.size 5 1 (.slice (some ⟨w.heap.size, 0, none⟩) 8 8) 8 (byC (eiK v k))) ∧ Hid (Below w.heap.size w wr)) (fun _ i _ => 8 - (intOf i).toNat)
  case atStart => exact ⟨0, Nat.zero_le _, by rw [← HB0.out], rfl, HO1, HB1⟩
  case round =>
    clear HO1 HB1 HB0
    obtain ⟨k, hk, rfl, rfl, HO, HB⟩ := hrel
    by_cases hlt : k < 8
    · have hl8 : (k : Int) < 8 := by omega
      have hstp := HST.out k hlt
      have hq := HQ.out k
      have hvv := HV.out k
      have hlen := HL.out k hk
      obtain ⟨x, hx⟩ : ∃ x, v / 256 ^ k = x := ⟨_, rfl⟩
      rw [hx] at hstp hq hvv ⊢
      obtain ⟨d, hd⟩ : ∃ d, x / 256 = d := ⟨_, rfl⟩
      rw [hd] at hq
      obtain ⟨b, hb⟩ : ∃ b, x % 256 = b := ⟨_, rfl⟩
      rw [hb] at hstp
      have r1 : (x : Int).tmod 256 = (b : Int) := by rw [Int.tmod_eq_emod_of_nonneg (by omega)]; omega
      have r2 : (x : Int) % 256 = (b : Int) := by omega
      have r3 : (x : Int).tdiv 256 = (d : Int) := by rw [Int.tdiv_eq_ediv_of_nonneg (by omega)]; omega
      have r4 : (x : Int) / 256 = (d : Int) := by omega
      have b256 : b < 256 := by omega
      have e5 : IntKind.u8.wrap (b : Int) = (b : Int) := by rw [IntKind.wrap_u8']; omega
      have hlen2 : (byC (eiK v k)).length = 8 := by rw [byC_length, hlen]
      have hcell := (HO.out.cellAt k (by omega)).trans (List.getElem?_eq_getElem (by omega))
      have hfr := HO.out.frozenAt k
      have hst := (HO.out.stored k (.int .u8 (b : Int))).1
      have hrow : (byC (eiK v k)).set k (.int .u8 (b : Int)) = byC (eiK v (k + 1)) := by
        have hbn : ((UInt8.ofNat b).toNat : Int) = (b : Int) := by rw [UInt8.toNat_ofNat']; omega
        rw [← hstp]; unfold byC; rw [List.map_set, hbn]
      rw [hrow] at hst
      have HS := Lib.hid hst
      generalize (byC (eiK v k))[k] = old at hcell
      have hB2 := Lib.hid (HB.out.setCell (p := ⟨w.heap.size, k, none⟩) (Nat.le_refl _) (.int .u8 (b : Int)))
      have HQQ := Lib.hid hq
      clear hst hrow hlen hlen2 hstp hx hd hb hq
      go_wp2
      go_roundw
      case rel => exact ⟨k + 1, by omega, by rw [HQQ.out], by go_num, HS, hB2⟩
      case measure => simp [intOf]; omega
    · obtain rfl : k = 8 := by omega
      have hcv := string_of_own (w := wr) (l := octV v 8) (by rw [octV_length, ← HE.out]; exact HO.out)
      clear hlt hk
      go_wp2
      go_ret
      exact ⟨rfl, HB.out⟩
end
end
section
open Go.RowKit Go.ChangeShapes
theorem padO_len (p : List UInt8) : (padO p).length ≤ p.length + 15 := by simp [padO]; omega
theorem app_twice (k n : List UInt8) (c : Nat) (s : List UInt8) : appO k n c (appO k n c s) = s := by
  have g : ∀ (s : List UInt8) (i : Nat), i < s.length → (appO k n c s).getD i 0 = s.getD i 0 ^^^ strB k n c i := fun s i h => by simp [appO, appN, List.getD_eq_getElem?_getD, h]
  apply list_ext_getD
  · rw [appO_length, appO_length]
  · intro i hi
    rw [appO_length, appO_length] at hi
    rw [g _ _ (by rw [appO_length]; exact hi), g _ _ hi, UInt8.xor_assoc, UInt8.xor_self, UInt8.xor_zero]
set_option maxRecDepth 1000000 in
set_option maxHeartbeats 8000000 in
/-- The reference's Seal. -/
theorem rseal (k n x s : List UInt8) (w : World) (hk : k.length = 32) (hn : n.length = 12) (hx : x.length ≤ 4200) (hs : s.length ≤ 4200) :
    Calls Tryd.prog 18 #[.string (bs k), .string (bs n), .string (bs x), .string (bs s)] w fun e w' => e = .returned (.string (bs (sealO k n x s))) ∧ Below w.heap.size w w' := by
  obtain ⟨A, hA⟩ : ∃ A, appO k n 1 s = A := ⟨_, rfl⟩
  have hal : A.length = s.length := by rw [← hA, appO_length]
  have q0 : ∀ w, Calls Tryd.prog 36 #[.string (bs k), .string (bs n), .int .i64 1, .string (bs s)] w fun e w' => e = .returned (.string (bs A)) ∧ Below w.heap.size w w' := fun w => by
    rw [← hA]; exact rapply k n 1 s w hk hn hs (by omega)
  have q1 : ∀ w, Calls Tryd.prog 34 #[.string (bs k), .string (bs n), .int .i64 0] w fun e w' => e = .returned (.string (bs (blockO k n 0))) ∧ Below w.heap.size w w' := fun w => rblock k n 0 w hk hn (by unfold isW; omega)
  have q2 : ∀ w, Calls Tryd.prog 43 #[.string (bs x)] w fun e w' => e = .returned (.string (bs (padO x))) ∧ Below w.heap.size w w' := fun w => rup x w (by omega)
  have q3 : ∀ w, Calls Tryd.prog 43 #[.string (bs A)] w fun e w' => e = .returned (.string (bs (padO A))) ∧ Below w.heap.size w w' := fun w => rup A w (by omega)
  have q4 : ∀ w, Calls Tryd.prog 44 #[.int .i64 (x.length : Int)] w fun e w' => e = .returned (.string (bs (octV x.length 8))) ∧ Below w.heap.size w w' := fun w => reight x.length w (by omega)
  have q5 : ∀ w, Calls Tryd.prog 44 #[.int .i64 (A.length : Int)] w fun e w' => e = .returned (.string (bs (octV A.length 8))) ∧ Below w.heap.size w w' := fun w => reight A.length w (by omega)
  have hcov : bs (padO x) ++ bs (padO A) ++ bs (octV x.length 8) ++ bs (octV A.length 8) = bs (covO x A) := by
    rw [← bs_append, ← bs_append, ← bs_append, covO, List.append_assoc (padO x ++ padO A)]
  have hcl : (covO x A).length ≤ 9000 := by
    have h1 := padO_len x
    have h2 := padO_len A
    simp only [covO, List.length_append, octV_length]; omega
  have q6 : ∀ w, Calls Tryd.prog 15 #[.string (bs (bkO k n)), .string (bs (padO x) ++ bs (padO A) ++ bs (octV x.length 8) ++ bs (octV A.length 8))] w fun e w' => e = .returned (.string (bs (tagO (bkO k n) (covO x A)))) ∧ Below w.heap.size w w' := fun w => by
    rw [hcov]; exact rtag _ _ w (bkO_length k n) hcl
  have hfin : bs (sealO k n x s) = bs A ++ bs (tagO (bkO k n) (covO x A)) := by unfold sealO; rw [hA, bs_append]
  have t1 : (bs (padO x)).size ≤ 4300 := by rw [bs_size]; have := padO_len x; omega
  have t2 : (bs (padO A)).size ≤ 4300 := by rw [bs_size]; have := padO_len A; omega
  have t3 : (bs (octV x.length 8)).size = 8 := by rw [bs_size, octV_length]
  have t4 : (bs (octV A.length 8)).size = 8 := by rw [bs_size, octV_length]
  have t5 : (bs (tagO (bkO k n) (covO x A))).size = 16 := by rw [bs_size, tagO_length]
  have t6 : (bs A).size ≤ 4200 := by rw [bs_size]; omega
  have hso : ∀ wx : World, (Instr.slice 9 (.string (bs (blockO k n 0))) none (some (.int .i64 32)) none).run Tryd.prog wx = .ok (.string (bs (bkO k n))) wx := fun wx => by
    have := run_slice_string_h (P := Tryd.prog) (w := wx) (t := 9) (s := bs (blockO k n 0)) Tryd.underlying9 .i64 32 (by decide) (by rw [bs_size, blockO_length]; decide)
    rw [this, ext_bs, bs_data, List.drop_zero]; rfl
  have sx : (bs x).size = x.length := bs_size _
  have sA : (bs A).size = A.length := bs_size _
  rw [← sx] at q4 q6 t3
  rw [← sA] at q5 q6 t4
  rw [hfin]
  obtain ⟨X, hX⟩ : ∃ X, bs x = X := ⟨_, rfl⟩
  obtain ⟨AA, hAA⟩ : ∃ X, bs A = X := ⟨_, rfl⟩
  obtain ⟨KK, hKK⟩ : ∃ X, bs k = X := ⟨_, rfl⟩
  obtain ⟨NN, hNN⟩ : ∃ X, bs n = X := ⟨_, rfl⟩
  obtain ⟨SS, hSS⟩ : ∃ X, bs s = X := ⟨_, rfl⟩
  obtain ⟨BL, hBL⟩ : ∃ X, bs (blockO k n 0) = X := ⟨_, rfl⟩
  obtain ⟨BK, hBK⟩ : ∃ X, bs (bkO k n) = X := ⟨_, rfl⟩
  obtain ⟨U1, hU1⟩ : ∃ X, bs (padO x) = X := ⟨_, rfl⟩
  obtain ⟨U2, hU2⟩ : ∃ X, bs (padO A) = X := ⟨_, rfl⟩
  obtain ⟨E1, hE1⟩ : ∃ X, bs (octV (bs x).size 8) = X := ⟨_, rfl⟩
  obtain ⟨E2, hE2⟩ : ∃ X, bs (octV (bs A).size 8) = X := ⟨_, rfl⟩
  obtain ⟨TG, hTG⟩ : ∃ X, bs (tagO (bkO k n) (covO x A)) = X := ⟨_, rfl⟩
  rw [hE1] at q4 q6 t3
  rw [hE2] at q5 q6 t4
  rw [hX] at q2 q4 ⊢
  rw [hAA] at q0 q3 q5 t6 ⊢
  rw [hKK] at q0 q1 ⊢
  rw [hNN] at q0 q1 ⊢
  rw [hSS] at q0 ⊢
  rw [hBL] at q1 hso
  rw [hBK] at q6 hso
  rw [hU1] at q2 q6 t1
  rw [hU2] at q3 q6 t2
  rw [hTG] at q6 t5 ⊢
  have c1 : ∀ wx : World, (Op.stringOp .add U1 U2).run Tryd.prog wx = .ok (.string (U1 ++ U2)) wx := fun wx => run_string_add wx U1 U2 (by omega) (by omega)
  have c2 : ∀ wx : World, (Op.stringOp .add (U1 ++ U2) E1).run Tryd.prog wx = .ok (.string (U1 ++ U2 ++ E1)) wx := fun wx => run_string_add wx _ E1 (by rw [ByteArray.size_append]; omega) (by omega)
  have c3 : ∀ wx : World, (Op.stringOp .add (U1 ++ U2 ++ E1) E2).run Tryd.prog wx = .ok (.string (U1 ++ U2 ++ E1 ++ E2)) wx := fun wx => run_string_add wx _ E2 (by rw [ByteArray.size_append, ByteArray.size_append]; omega) (by omega)
  have c4 : ∀ wx : World, (Op.stringOp .add AA TG).run Tryd.prog wx = .ok (.string (AA ++ TG)) wx := fun wx => run_string_add wx AA TG (by omega) (by omega)
  have Q0 := Lib.hid q0
  have Q1 := Lib.hid q1
  have Q2 := Lib.hid q2
  have Q3 := Lib.hid q3
  have Q4 := Lib.hid q4
  have Q5 := Lib.hid q5
  have Q6 := Lib.hid q6
  clear q0 q1 q2 q3 q4 q5 q6 hX hAA hKK hNN hSS hBL hBK hU1 hU2 hE1 hE2 hTG hcov hfin hA hk hn hx hs hal hcl sx sA
  go_enter Tryd.func18, Tryd.ntmps18
  go_wp2_with fail
  refine (Q0.out _).mono ?_
  rintro e V0 ⟨rfl, hb⟩
  have B0 := Lib.hid hb.drew
  clear hb
  go_wp2_with fail
  refine region_anyC (fun _ => True) (fun _ => True) [] (by kernel_rfl) ?_
  refine anyC_takeS (i := 0) (oi := ⟨some 14, _, _, _, _, _⟩) (v := _) rfl (by kernel_rfl) (by kernel_rfl) (by kernel_rfl) (by kernel_rfl) (fun _ _ _ h => h) (Or.inl ⟨by rfl, fun w' hw' => (by clear hw'; go_simp; try with_reducible rfl)⟩) trivial (fun _ => trivial) ?_
  try simp only [Act.put, List.setIfInBounds_toArray, List.set_cons_zero, List.set_cons_succ]
  refine anyC_takeS (i := 1) (oi := ⟨some 15, _, _, _, _, _⟩) (v := _) rfl (by kernel_rfl) (by kernel_rfl) (by kernel_rfl) (by kernel_rfl) (fun _ _ _ h => h) (Or.inl ⟨by rfl, fun w' hw' => (by clear hw'; go_simp; try with_reducible rfl)⟩) trivial (fun _ => trivial) ?_
  try simp only [Act.put, List.setIfInBounds_toArray, List.set_cons_zero, List.set_cons_succ]
  refine anyC_takeS (i := 2) (oi := ⟨some 16, _, _, _, _, _⟩) (v := _) rfl (by kernel_rfl) (by kernel_rfl) (by kernel_rfl) (by kernel_rfl) (fun _ _ _ h => h) (Or.inl ⟨by rfl, fun w' hw' => (by clear hw'; go_simp; try with_reducible rfl)⟩) trivial (fun _ => trivial) ?_
  try simp only [Act.put, List.setIfInBounds_toArray, List.set_cons_zero, List.set_cons_succ]
  refine anyC_takeS (i := 5) (oi := ⟨some 19, _, _, _, _, _⟩) (v := _) rfl (by kernel_rfl) (by kernel_rfl) (by kernel_rfl) (by kernel_rfl) (fun _ _ _ h => h) (Or.inl ⟨by rfl, fun w' hw' => (by clear hw'; go_simp; try with_reducible rfl)⟩) trivial (fun _ => trivial) ?_
  try simp only [Act.put, List.setIfInBounds_toArray, List.set_cons_zero, List.set_cons_succ]
  refine anyC_takeS (i := 7) (oi := ⟨some 21, _, _, _, _, _⟩) (v := _) rfl (by kernel_rfl) (by kernel_rfl) (by kernel_rfl) (by kernel_rfl) (fun _ _ _ h => h) (Or.inl ⟨by rfl, fun w' hw' => (by clear hw'; go_simp; try with_reducible rfl)⟩) trivial (fun _ => trivial) ?_
  try simp only [Act.put, List.setIfInBounds_toArray, List.set_cons_zero, List.set_cons_succ]
  refine anyC_takeS (i := 10) (oi := ⟨some 24, _, _, _, _, _⟩) (v := _) rfl (by kernel_rfl) (by kernel_rfl) (by kernel_rfl) (by kernel_rfl) (fun _ _ _ h => h) (Or.inl ⟨by rfl, fun w' hw' => (by clear hw'; go_simp; try with_reducible rfl)⟩) trivial (fun _ => trivial) ?_
  try simp only [Act.put, List.setIfInBounds_toArray, List.set_cons_zero, List.set_cons_succ]
  refine anyC_takeS (i := 11) (oi := ⟨some 25, _, _, _, _, _⟩) (v := _) rfl (by kernel_rfl) (by kernel_rfl) (by kernel_rfl) (by kernel_rfl) (fun _ _ _ h => h) (Or.inl ⟨by rfl, fun w' hw' => (by clear hw'; go_simp; try with_reducible rfl)⟩) trivial (fun _ => trivial) ?_
  try simp only [Act.put, List.setIfInBounds_toArray, List.set_cons_zero, List.set_cons_succ]
  refine anyC_takeS (i := 14) (oi := ⟨some 28, _, _, _, _, _⟩) (v := _) rfl (by kernel_rfl) (by kernel_rfl) (by kernel_rfl) (by kernel_rfl) (fun _ _ _ h => h) (Or.inl ⟨by rfl, fun w' hw' => (by clear hw'; go_simp; try with_reducible rfl)⟩) trivial (fun _ => trivial) ?_
  try simp only [Act.put, List.setIfInBounds_toArray, List.set_cons_zero, List.set_cons_succ]
  refine anyC_takeS (i := 15) (oi := ⟨some 29, _, _, _, _, _⟩) (v := _) rfl (by kernel_rfl) (by kernel_rfl) (by kernel_rfl) (by kernel_rfl) (fun _ _ _ h => h) (Or.inl ⟨by rfl, fun w' hw' => (by clear hw'; go_simp; try with_reducible rfl)⟩) trivial (fun _ => trivial) ?_
  try simp only [Act.put, List.setIfInBounds_toArray, List.set_cons_zero, List.set_cons_succ]
  refine anyC_keep (i := 3) (o := ⟨some 17, _, _, _, _, _⟩) (by kernel_rfl) rfl (fun K hK => ?_)
  rw [if_pos (by rfl)]
  go_wp2_with (go_at_call 34; (with_reducible refine (Q1.out _).mono ?_); rintro e V1 ⟨rfl, hb⟩)
  have B1 := Lib.hid (B0.out.trans (hb.mono B0.out.size))
  refine hK.out _ _ ⟨trivial, fun _ => trivial⟩ ?_
  clear hK K hb B0
  try simp only [Act.put, List.setIfInBounds_toArray, List.set_cons_zero, List.set_cons_succ]
  refine anyC_takeS (i := 4) (oi := ⟨some 18, _, _, _, _, _⟩) (v := _) rfl (by kernel_rfl) (by kernel_rfl) (by kernel_rfl) (by kernel_rfl) (fun _ _ _ h => h) (Or.inl ⟨by rfl, fun w' hw' => (by clear hw'; go_simp; try with_reducible rfl)⟩) trivial (fun _ => trivial) ?_
  try simp only [Act.put, List.setIfInBounds_toArray, List.set_cons_zero, List.set_cons_succ]
  refine anyC_keep (i := 6) (o := ⟨some 20, _, _, _, _, _⟩) (by kernel_rfl) rfl (fun K hK => ?_)
  rw [if_pos (by rfl)]
  go_wp2_with (go_at_call 43; (with_reducible refine (Q2.out _).mono ?_); rintro e V2 ⟨rfl, hb⟩)
  have B2 := Lib.hid (B1.out.trans (hb.mono B1.out.size))
  refine hK.out _ _ ⟨trivial, fun _ => trivial⟩ ?_
  clear hK K hb B1
  try simp only [Act.put, List.setIfInBounds_toArray, List.set_cons_zero, List.set_cons_succ]
  refine anyC_keep (i := 8) (o := ⟨some 22, _, _, _, _, _⟩) (by kernel_rfl) rfl (fun K hK => ?_)
  rw [if_pos (by rfl)]
  go_wp2_with (go_at_call 43; (with_reducible refine (Q3.out _).mono ?_); rintro e V3 ⟨rfl, hb⟩)
  have B3 := Lib.hid (B2.out.trans (hb.mono B2.out.size))
  refine hK.out _ _ ⟨trivial, fun _ => trivial⟩ ?_
  clear hK K hb B2
  try simp only [Act.put, List.setIfInBounds_toArray, List.set_cons_zero, List.set_cons_succ]
  refine anyC_takeS (i := 9) (oi := ⟨some 23, _, _, _, _, _⟩) (v := _) rfl (by kernel_rfl) (by kernel_rfl) (by kernel_rfl) (by kernel_rfl) (fun _ _ _ h => h) (Or.inl ⟨by rfl, fun w' hw' => (by clear hw'; go_simp; try with_reducible rfl)⟩) trivial (fun _ => trivial) ?_
  try simp only [Act.put, List.setIfInBounds_toArray, List.set_cons_zero, List.set_cons_succ]
  refine anyC_keep (i := 12) (o := ⟨some 26, _, _, _, _, _⟩) (by kernel_rfl) rfl (fun K hK => ?_)
  rw [if_pos (by rfl)]
  go_wp2_with (go_at_call 44; (with_reducible refine (Q4.out _).mono ?_); rintro e V4 ⟨rfl, hb⟩)
  have B4 := Lib.hid (B3.out.trans (hb.mono B3.out.size))
  refine hK.out _ _ ⟨trivial, fun _ => trivial⟩ ?_
  clear hK K hb B3
  try simp only [Act.put, List.setIfInBounds_toArray, List.set_cons_zero, List.set_cons_succ]
  refine anyC_takeS (i := 13) (oi := ⟨some 27, _, _, _, _, _⟩) (v := _) rfl (by kernel_rfl) (by kernel_rfl) (by kernel_rfl) (by kernel_rfl) (fun _ _ _ h => h) (Or.inl ⟨by rfl, fun w' hw' => (by clear hw'; go_simp; try with_reducible rfl)⟩) trivial (fun _ => trivial) ?_
  try simp only [Act.put, List.setIfInBounds_toArray, List.set_cons_zero, List.set_cons_succ]
  refine anyC_keep (i := 16) (o := ⟨some 30, _, _, _, _, _⟩) (by kernel_rfl) rfl (fun K hK => ?_)
  rw [if_pos (by rfl)]
  go_wp2_with (go_at_call 44; (with_reducible refine (Q5.out _).mono ?_); rintro e V5 ⟨rfl, hb⟩)
  have B5 := Lib.hid (B4.out.trans (hb.mono B4.out.size))
  refine hK.out _ _ ⟨trivial, fun _ => trivial⟩ ?_
  clear hK K hb B4
  try simp only [Act.put, List.setIfInBounds_toArray, List.set_cons_zero, List.set_cons_succ]
  refine anyC_takeS (i := 17) (oi := ⟨some 31, _, _, _, _, _⟩) (v := _) rfl (by kernel_rfl) (by kernel_rfl) (by kernel_rfl) (by kernel_rfl) (fun _ _ _ h => h) (Or.inl ⟨by rfl, fun w' hw' => (by clear hw'; go_simp; try with_reducible rfl)⟩) trivial (fun _ => trivial) ?_
  try simp only [Act.put, List.setIfInBounds_toArray, List.set_cons_zero, List.set_cons_succ]
  refine anyC_keep (i := 18) (o := ⟨some 32, _, _, _, _, _⟩) (by kernel_rfl) rfl (fun K hK => ?_)
  rw [if_pos (by rfl)]
  go_wp2_with (go_at_call 15; (with_reducible refine (Q6.out _).mono ?_); rintro e V6 ⟨rfl, hb⟩)
  have B6 := Lib.hid (B5.out.trans (hb.mono B5.out.size))
  refine hK.out _ _ ⟨trivial, fun _ => trivial⟩ ?_
  clear hK K hb B5
  try simp only [Act.put, List.setIfInBounds_toArray, List.set_cons_zero, List.set_cons_succ]
  refine anyC_takeS (i := 19) (oi := ⟨some 33, _, _, _, _, _⟩) (v := _) rfl (by kernel_rfl) (by kernel_rfl) (by kernel_rfl) (by kernel_rfl) (fun _ _ _ h => h) (Or.inl ⟨by rfl, fun w' hw' => (by clear hw'; go_simp; try with_reducible rfl)⟩) trivial (fun _ => trivial) ?_
  try simp only [Act.put, List.setIfInBounds_toArray, List.set_cons_zero, List.set_cons_succ]
  refine anyC_takeS (i := 20) (oi := ⟨some 8, _, _, _, _, _⟩) (v := _) rfl (by kernel_rfl) (by kernel_rfl) (by kernel_rfl) (by kernel_rfl) (fun _ _ _ h => h) (Or.inl ⟨by rfl, fun w' hw' => (by clear hw'; go_simp; try with_reducible rfl)⟩) trivial (fun _ => trivial) ?_
  try simp only [Act.put, List.setIfInBounds_toArray, List.set_cons_zero, List.set_cons_succ]
  refine anyC_done (by kernel_rfl) ?_ _
  go_wp2
  go_ret
  exact ⟨rfl, B6.out⟩
theorem bs_split_l (h t : List UInt8) : (bs (h ++ t)).extract 0 h.length = bs h := by rw [ext_bs, bs_data, List.drop_zero, Nat.sub_zero, List.take_left]
set_option maxRecDepth 1000000 in
set_option maxHeartbeats 8000000 in
/-- The reference's Open. -/
theorem ropen (k n x h t : List UInt8) (w : World) (hk : k.length = 32) (hn : n.length = 12) (hx : x.length ≤ 4200) (hh : h.length ≤ 4200) (ht : t.length = 16) (b : Bool) (hb : b = decide (t = tagO (bkO k n) (covO x h))) :
    Calls Tryd.prog 21 #[.string (bs k), .string (bs n), .string (bs x), .string (bs (h ++ t))] w fun e w' => e = .returned (bif b then .tuple #[.string (bs (appO k n 1 h)), .bool true] else .tuple #[.string ⟨#[]⟩, .bool false]) ∧ Below w.heap.size w w' := by
  have q0 : ∀ w, Calls Tryd.prog 36 #[.string (bs k), .string (bs n), .int .i64 1, .string (bs h)] w fun e w' => e = .returned (.string (bs (appO k n 1 h))) ∧ Below w.heap.size w w' := fun w => rapply k n 1 h w hk hn hh (by omega)
  have q1 : ∀ w, Calls Tryd.prog 18 #[.string (bs k), .string (bs n), .string (bs x), .string (bs (appO k n 1 h))] w fun e w' => e = .returned (.string (bs (sealO k n x (appO k n 1 h)))) ∧ Below w.heap.size w w' := fun w => rseal k n x _ w hk hn hx (by rw [appO_length]; exact hh)
  have hsl : ∀ wx : World, (Instr.slice 9 (.string (bs (h ++ t))) none (some (.int .i64 (h.length : Int))) none).run Tryd.prog wx = .ok (.string (bs h)) wx := fun wx => by
    have := run_slice_string_h (P := Tryd.prog) (w := wx) (t := 9) (s := bs (h ++ t)) Tryd.underlying9 .i64 (h.length : Int) (by omega) (by rw [bs_size, List.length_append]; omega)
    rw [this, show ((h.length : Int)).toNat = h.length by omega, bs_split_l]
  have hse : sealO k n x (appO k n 1 h) = h ++ tagO (bkO k n) (covO x h) := by unfold sealO; rw [app_twice]
  have heq : ((bs (sealO k n x (appO k n 1 h))).toList == (bs (h ++ t)).toList) = b := by
    rw [ByteArray.toList_eq, ByteArray.toList_eq, hse, hb, bs_data, bs_data]
    rw [Bool.eq_iff_iff, beq_iff_eq, decide_eq_true_eq]
    exact ⟨fun e => (List.append_cancel_left e).symm, fun e => by rw [e]⟩
  have e1 : ((bs (h ++ t)).size : Int) - 16 = (h.length : Int) := by rw [bs_size, List.length_append]; omega
  have e2 : h.length ≤ 4200 := hh
  obtain ⟨H, hH⟩ : ∃ X, bs h = X := ⟨_, rfl⟩
  obtain ⟨X, hX⟩ : ∃ X, bs x = X := ⟨_, rfl⟩
  obtain ⟨BX, hBX⟩ : ∃ X, bs (h ++ t) = X := ⟨_, rfl⟩
  obtain ⟨KK, hKK⟩ : ∃ X, bs k = X := ⟨_, rfl⟩
  obtain ⟨NN, hNN⟩ : ∃ X, bs n = X := ⟨_, rfl⟩
  obtain ⟨AP, hAP⟩ : ∃ X, bs (appO k n 1 h) = X := ⟨_, rfl⟩
  obtain ⟨SE, hSE⟩ : ∃ X, bs (sealO k n x (appO k n 1 h)) = X := ⟨_, rfl⟩
  rw [hSE] at q1 heq
  rw [hH] at q0 hsl
  rw [hX] at q1 ⊢
  rw [hBX] at hsl heq e1 ⊢
  rw [hKK] at q0 q1 ⊢
  rw [hNN] at q0 q1 ⊢
  rw [hAP] at q0 q1 ⊢
  have Q0 := Lib.hid q0
  have Q1 := Lib.hid q1
  obtain ⟨L, hL⟩ : ∃ L, h.length = L := ⟨_, rfl⟩
  rw [hL] at e1 e2 hsl
  clear q0 q1 hH hX hBX hKK hNN hAP hSE hse hk hn hx hh ht hb hL
  cases b
  · have hne : ¬ SE.toList = BX.toList := by simpa using heq
    go_enter Tryd.func21, Tryd.ntmps21
    go_wp2_with (first
      | (go_at_call 36; (with_reducible refine (Q0.out _).mono ?_); rintro r w1 ⟨rfl, hb1⟩)
      | (go_at_call 18; (with_reducible refine (Q1.out _).mono ?_); rintro r w2 ⟨rfl, hb2⟩))
    go_ret2
    exact ⟨rfl, hb1.trans (hb2.mono hb1.size)⟩
  · have hne : SE.toList = BX.toList := by simpa using heq
    go_enter Tryd.func21, Tryd.ntmps21
    go_wp2_with (first
      | (go_at_call 36; (with_reducible refine (Q0.out _).mono ?_); rintro r w1 ⟨rfl, hb1⟩)
      | (go_at_call 18; (with_reducible refine (Q1.out _).mono ?_); rintro r w2 ⟨rfl, hb2⟩))
    go_ret2
    exact ⟨rfl, hb1.trans (hb2.mono hb1.size)⟩
end
end Go.Proofs.YtnfefkcfifnjnaaDoor
