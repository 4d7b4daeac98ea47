/- Contracts of isHost and within. -/
import Derived.Test.YtjoogiabimiioaaGreatDoorB
import Derived.Test.YtjoogiabimiioaaGreatDoorW
namespace Go.Proofs.YtjoogiabimiioaaGreatDoor
open Go.RowKit Go.ChangeShapes
theorem ofInt_8 (x : UInt8) : (BitVec.ofInt 8 (x.toNat : Int)).toNat = x.toNat := by
  rw [BitVec.ofInt_natCast, BitVec.toNat_ofNat, Nat.mod_eq_of_lt (by simpa using x.toNat_lt)]
theorem c_xor8 (x y : UInt8) : bits .xor .u8 (x.toNat : Int) (y.toNat : Int) = ((x ^^^ y).toNat : Int) := by
  show IntKind.u8.wrap ((BitVec.ofInt 8 (x.toNat : Int) ^^^ BitVec.ofInt 8 (y.toNat : Int)).toNat : Int) = _
  rw [BitVec.toNat_xor, ofInt_8, ofInt_8, UInt8.toNat_xor, IntKind.wrap_u8]
  have h := (x ^^^ y).toNat_lt
  rw [UInt8.toNat_xor] at h
  omega
/-- Are so many octets a host? -/
def hostB (S : ByteArray) : Bool := S.size == 4 || S.size == 16
set_option maxRecDepth 100000 in
set_option maxHeartbeats 2000000 in
theorem isHost_any (S : ByteArray) (w : World) : Calls Tryz.prog 47 #[.string S] w fun e w' => e = .returned (.bool (hostB S)) ∧ w' = w := by
  unfold hostB
  by_cases h4 : S.size = 4
  · have e1 : (S.size : Int) = 4 := by omega
    rw [show (S.size == 4) = true from beq_iff_eq.2 h4]
    go_enter Tryz.func47, Tryz.ntmps47
    go_wp2
    go_ret
    exact ⟨rfl, rfl⟩
  · have e1 : ((S.size : Int) == 4) = false := beq_false_of_ne (by omega)
    have e2 : ¬ (S.size : Int) = 4 := by omega
    rw [show (S.size == 4) = false from beq_false_of_ne h4, Bool.false_or]
    by_cases h16 : S.size = 16
    · have e3 : (S.size : Int) = 16 := by omega
      rw [show (S.size == 16) = true from beq_iff_eq.2 h16]
      clear e1 e2
      go_enter Tryz.func47, Tryz.ntmps47
      go_wp2
      go_ret
      exact ⟨rfl, rfl⟩
    · have e3 : ((S.size : Int) == 16) = false := beq_false_of_ne (by omega)
      have e4 : ¬ (S.size : Int) = 16 := by omega
      rw [show (S.size == 16) = false from beq_false_of_ne h16]
      go_enter Tryz.func47, Tryz.ntmps47
      go_wp2
      go_ret
      exact ⟨rfl, rfl⟩
/-- Do so many bits agree? -/
def wiB (S P : ByteArray) (n : Nat) : Bool :=
  S.size == P.size && (S.extract 0 (n / 8)).toList == (P.extract 0 (n / 8)).toList && (n % 8 == 0 || (S.data.toList.getD (n / 8) 0 ^^^ P.data.toList.getD (n / 8) 0).toNat / 2 ^ (8 - n % 8) == 0)
set_option maxRecDepth 100000 in
set_option maxHeartbeats 4000000 in
theorem within_any (S P : ByteArray) (n : Nat) (w : World) (hn : n ≤ 8 * P.size) (hP : P.size ≤ 1000) (_ : S.size ≤ 1000) :
    Calls Tryz.prog 59 #[.string S, .string P, .int .i64 (n : Int)] w fun e w' => e = .returned (.bool (wiB S P n)) ∧ Below w.heap.size w w' := by
  by_cases hsz : S.size = P.size
  · have e1 : (S.size : Int) = (P.size : Int) := by omega
    obtain ⟨q, hq⟩ : ∃ q, n / 8 = q := ⟨_, rfl⟩
    obtain ⟨r, hr⟩ : ∃ r, n % 8 = r := ⟨_, rfl⟩
    have hqS : q ≤ S.size := by omega
    have hqP : q ≤ P.size := by omega
    have q1 : (n : Int) / 8 = (q : Int) := by omega
    have r1 : (n : Int) % 8 = (r : Int) := by omega
    have q2 : (n : Int).tdiv 8 = (q : Int) := by rw [Int.tdiv_eq_ediv_of_nonneg (by omega)]; omega
    have r2 : (n : Int).tmod 8 = (r : Int) := by rw [Int.tmod_eq_emod_of_nonneg (by omega)]; omega
    have s1 : ∀ w, (Instr.slice 100 (.string S) none (some (.int .i64 (q : Int))) none).run Tryz.prog w = .ok (.string (S.extract 0 q)) w := fun w => by
      rw [run_slice_string_h (P := Tryz.prog) (w := w) 100 (s := S) Tryz.underlying100 .i64 (q : Int) (by omega) (by omega), Int.toNat_natCast]
    have s2 : ∀ w, (Instr.slice 100 (.string P) none (some (.int .i64 (q : Int))) none).run Tryz.prog w = .ok (.string (P.extract 0 q)) w := fun w => by
      rw [run_slice_string_h (P := Tryz.prog) (w := w) 100 (s := P) Tryz.underlying100 .i64 (q : Int) (by omega) (by omega), Int.toNat_natCast]
    unfold wiB
    rw [hq, hr, show (S.size == P.size) = true from beq_iff_eq.2 hsz, Bool.true_and]
    generalize hA : S.extract 0 q = A at *
    generalize hB : P.extract 0 q = B at *
    have hAB := Lib.hid (And.intro hA hB)
    clear hA hB
    by_cases hab : A.toList = B.toList
    · have t1 : (A.toList == B.toList) = true := beq_iff_eq.2 hab
      rw [t1, Bool.true_and]
      by_cases hr0 : r = 0
      · have hr1 : (r : Int) = 0 := by omega
        rw [show (r == 0) = true from beq_iff_eq.2 hr0, Bool.true_or]
        clear r1 r2 hr0
        have r2 : (n : Int).tmod 8 = 0 := by rw [Int.tmod_eq_emod_of_nonneg (by omega)]; omega
        have r1 : (n : Int) % 8 = 0 := by omega
        clear hr1
        go_enter Tryz.func59, Tryz.ntmps59
        go_upto_region 4 with fail
        go_region
        go_wp2
        go_region
        go_wp2
        go_ret
        exact ⟨rfl, by go_grown⟩
      · have hr1 : ¬ (r : Int) = 0 := by omega
        have hr2 : ((r : Int) == 0) = false := beq_false_of_ne hr1
        rw [show (r == 0) = false from beq_false_of_ne hr0, Bool.false_or]
        have hqS2 : q < S.size := by omega
        have hqP2 : q < P.size := by omega
        have g1 : S.data.toList.getD q 0 = S[q] := by
          rw [List.getD_eq_getElem?_getD, List.getElem?_eq_getElem (by simpa using hqS2)]; rfl
        have g2 : P.data.toList.getD q 0 = P[q] := by
          rw [List.getD_eq_getElem?_getD, List.getElem?_eq_getElem (by simpa using hqP2)]; rfl
        rw [g1, g2]
        clear g1 g2
        obtain ⟨k, hk⟩ : ∃ k, 8 - r = k := ⟨_, rfl⟩
        have hk1 : (8 : Int) - (r : Int) = (k : Int) := by omega
        have hk0 : (0 : Int) ≤ (k : Int) := by omega
        rw [hk]
        have hx := c_xor8 S[q] P[q]
        obtain ⟨x, hxx⟩ : ∃ x, (S[q] ^^^ P[q]).toNat = x := ⟨_, rfl⟩
        rw [hxx] at hx ⊢
        have hxl : x < 256 := by rw [← hxx]; exact (S[q] ^^^ P[q]).toNat_lt
        obtain ⟨y, hy⟩ : ∃ y, x / 2 ^ k = y := ⟨_, rfl⟩
        have hyl : y < 256 := by rw [← hy]; have := Nat.div_le_self x (2 ^ k); omega
        have hy1 : (x : Int) / 2 ^ k = (y : Int) := by rw [← hy]; simp
        rw [hy]
        have hyb : (y == 0) = ((y : Int) == 0) := by rw [Bool.eq_iff_iff, beq_iff_eq, beq_iff_eq]; omega
        rw [hyb]
        clear hxx hy hyb hk hr hq
        go_enter Tryz.func59, Tryz.ntmps59
        go_upto_region 4 with fail
        go_region
        go_wp2
        go_region
        go_wp2
        go_ret
        exact ⟨rfl, by go_grown⟩
    · have t1 : (A.toList == B.toList) = false := beq_false_of_ne hab
      rw [t1, Bool.false_and]
      go_enter Tryz.func59, Tryz.ntmps59
      go_upto_region 4 with fail
      go_region
      go_wp2
      go_ret
      exact ⟨rfl, by go_grown⟩
  · have e1 : ¬ (S.size : Int) = (P.size : Int) := by omega
    have e2 : ((S.size : Int) != (P.size : Int)) = true := bne_iff_ne.2 e1
    have e3 : ((S.size : Int) == (P.size : Int)) = false := beq_false_of_ne e1
    unfold wiB
    rw [show (S.size == P.size) = false from beq_false_of_ne hsz, Bool.false_and, Bool.false_and]
    go_enter Tryz.func59, Tryz.ntmps59
    go_wp2
    go_ret
    exact ⟨rfl, Below.refl _ _⟩
end Go.Proofs.YtjoogiabimiioaaGreatDoor
