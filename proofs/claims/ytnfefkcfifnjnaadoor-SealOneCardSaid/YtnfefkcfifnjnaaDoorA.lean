/- Contracts of turning a word and of a quarter round. -/
import Derived.Test.YtnfefkcfifnjnaaDoorRows
import Derived.Test.YtnfefkcfifnjnaaDoorP
import Derived.Handy
import Derived.Lib.Hide
import Derived.Deep.QuietTactic
import Derived.BigQuiet
namespace Go.Proofs.YtnfefkcfifnjnaaDoor
open Go.RowKit Go.ChangeShapes

abbrev wd (n : Nat) : Value := .int .u32 (n : Int)
theorem ret_i {a b : Int} {k : IntKind} (h : a = b) : Ending.returned (.int k a) = .returned (.int k b) := by rw [h]
theorem rot_eq (x s : Nat) (hx : isW x) : bits .or .u32 ((x : Int) * 2 ^ s % 4294967296) ((x : Int) / 2 ^ (32 - s)) = ((rotl x s : Nat) : Int) := by
  have e1 : (x : Int) * 2 ^ s % 4294967296 = ((x * 2 ^ s % 4294967296 : Nat) : Int) := by simp
  have e2 : (x : Int) / 2 ^ (32 - s) = ((x / 2 ^ (32 - s) : Nat) : Int) := by simp
  rw [e1, e2, u32_or (isW_of_lt (Nat.mod_lt _ (by decide))) (isW_div hx _)]
  rfl
set_option maxHeartbeats 400000 in
theorem rot_any (x s : Nat) (z : Int) (w : World) (hx : isW x) (h1 : 1 ≤ s) (h2 : s ≤ 31) (hz : bits .and .u64 (IntKind.u64.wrap z) 31 = (s : Int)) :
    Calls Tryd.prog 104 #[.int .u32 (x : Int), .int .i64 z] w fun e w' => e = .returned (.int .u32 (rotl x s : Nat)) ∧ w = w' := by
  have HE := Lib.hid (rot_eq x s hx)
  unfold isW at hx
  have hs : ∀ w, (Op.shift BinOp.shl IntKind.u32 (x : Int) IntKind.u64 (s : Int)).run Tryd.prog w = .ok (.int .u32 ((x : Int) * 2 ^ s % 4294967296)) w := by
    intro w
    rw [shift_shl_any _ _ _ _ (by omega)]
    rw [IntKind.wrap_u32, Int.toNat_natCast, show min s IntKind.u32.bits = s by simp [IntKind.bits]; omega]
    rfl
  have hs2 : ∀ w, (Op.shift BinOp.shr IntKind.u32 (x : Int) IntKind.u64 (32 - (s : Int))).run Tryd.prog w = .ok (.int .u32 ((x : Int) / 2 ^ (32 - s))) w := by
    intro w
    rw [shift_shr_any _ _ _ _ (by omega)]
    rw [show min ((32 : Int) - (s : Int)).toNat IntKind.u32.bits = 32 - s by simp [IntKind.bits]]
    rfl
  go_enter Tryd.func104, Tryd.ntmps104
  go_wp2
  go_ret
  exact ⟨ret_i HE.out, rfl⟩
theorem turn16 (x : Nat) (w : World) (hx : isW x) : Calls Tryd.prog 104 #[.int .u32 (x : Int), .int .i64 16] w fun e w' => e = .returned (.int .u32 (rotl x 16 : Nat)) ∧ w = w' := rot_any x 16 16 w hx (by decide) (by decide) (by decide)
theorem turn12 (x : Nat) (w : World) (hx : isW x) : Calls Tryd.prog 104 #[.int .u32 (x : Int), .int .i64 12] w fun e w' => e = .returned (.int .u32 (rotl x 12 : Nat)) ∧ w = w' := rot_any x 12 12 w hx (by decide) (by decide) (by decide)
theorem turn8 (x : Nat) (w : World) (hx : isW x) : Calls Tryd.prog 104 #[.int .u32 (x : Int), .int .i64 8] w fun e w' => e = .returned (.int .u32 (rotl x 8 : Nat)) ∧ w = w' := rot_any x 8 8 w hx (by decide) (by decide) (by decide)
theorem turn7 (x : Nat) (w : World) (hx : isW x) : Calls Tryd.prog 104 #[.int .u32 (x : Int), .int .i64 7] w fun e w' => e = .returned (.int .u32 (rotl x 7 : Nat)) ∧ w = w' := rot_any x 7 7 w hx (by decide) (by decide) (by decide)
abbrev Q4.val (s : Q4) : Value := .tuple #[wd s.a, wd s.b, wd s.c, wd s.d]
set_option maxRecDepth 100000 in
set_option maxHeartbeats 2000000 in
theorem quarter_any (a b c d : Nat) (w : World) (hs : Q4.ok ⟨a, b, c, d⟩) :
    Calls Tryd.prog 103 #[wd a, wd b, wd c, wd d] w fun e w' => e = .returned (qr ⟨a, b, c, d⟩).val ∧ w = w' := by
  have hb : isW b := hs.2.1
  have hd : isW d := hs.2.2.2
  have A1 := u32_add a b
  obtain ⟨a1, ha1⟩ : ∃ x, ad a b = x := ⟨_, rfl⟩
  have wa1 : isW a1 := ha1 ▸ isW_ad _ _
  rw [ha1] at A1
  have D1 := u32_xor hd wa1
  have T1 := fun w => turn16 (d ^^^ a1) w (isW_xor hd wa1)
  obtain ⟨d1, hd1⟩ : ∃ x, rotl (d ^^^ a1) 16 = x := ⟨_, rfl⟩
  have wd1 : isW d1 := hd1 ▸ isW_rotl (isW_xor hd wa1) _
  rw [hd1] at T1
  have C1 := u32_add c d1
  obtain ⟨c1, hc1⟩ : ∃ x, ad c d1 = x := ⟨_, rfl⟩
  have wc1 : isW c1 := hc1 ▸ isW_ad _ _
  rw [hc1] at C1
  have B1 := u32_xor hb wc1
  have U1 := fun w => turn12 (b ^^^ c1) w (isW_xor hb wc1)
  obtain ⟨b1, hb1⟩ : ∃ x, rotl (b ^^^ c1) 12 = x := ⟨_, rfl⟩
  have wb1 : isW b1 := hb1 ▸ isW_rotl (isW_xor hb wc1) _
  rw [hb1] at U1
  have A2 := u32_add a1 b1
  obtain ⟨a2, ha2⟩ : ∃ x, ad a1 b1 = x := ⟨_, rfl⟩
  have wa2 : isW a2 := ha2 ▸ isW_ad _ _
  rw [ha2] at A2
  have D2 := u32_xor wd1 wa2
  have T2 := fun w => turn8 (d1 ^^^ a2) w (isW_xor wd1 wa2)
  obtain ⟨d2, hd2⟩ : ∃ x, rotl (d1 ^^^ a2) 8 = x := ⟨_, rfl⟩
  have wd2 : isW d2 := hd2 ▸ isW_rotl (isW_xor wd1 wa2) _
  rw [hd2] at T2
  have C2 := u32_add c1 d2
  obtain ⟨c2, hc2⟩ : ∃ x, ad c1 d2 = x := ⟨_, rfl⟩
  have wc2 : isW c2 := hc2 ▸ isW_ad _ _
  rw [hc2] at C2
  have B2 := u32_xor wb1 wc2
  have U2 := fun w => turn7 (b1 ^^^ c2) w (isW_xor wb1 wc2)
  obtain ⟨b2, hb2⟩ : ∃ x, rotl (b1 ^^^ c2) 7 = x := ⟨_, rfl⟩
  rw [hb2] at U2
  have E : Hid ((qr ⟨a, b, c, d⟩).val = .tuple #[wd a2, wd b2, wd c2, wd d2]) := Lib.hid (by
    subst ha1 hd1 hc1 hb1 ha2 hd2 hc2 hb2
    rfl)
  have HT1 := Lib.hid T1
  have HU1 := Lib.hid U1
  have HT2 := Lib.hid T2
  have HU2 := Lib.hid U2
  clear ha1 hd1 hc1 hb1 ha2 hd2 hc2 hb2 T1 U1 T2 U2 wa1 wd1 wc1 wb1 wa2 wd2 wc2 hb hd hs
  go_enter Tryd.func103, Tryd.ntmps103
  go_wp2_with (first
    | (go_at_call 104; (with_reducible refine (HT1.out _).mono ?_); rintro e V ⟨rfl, rfl⟩)
    | (go_at_call 104; (with_reducible refine (HU1.out _).mono ?_); rintro e V ⟨rfl, rfl⟩)
    | (go_at_call 104; (with_reducible refine (HT2.out _).mono ?_); rintro e V ⟨rfl, rfl⟩)
    | (go_at_call 104; (with_reducible refine (HU2.out _).mono ?_); rintro e V ⟨rfl, rfl⟩))
  refine bodyPost_ret (v := .tuple #[wd a2, wd b2, wd c2, wd d2]) (by simp [results, Tryd.results103, go_sem]) rfl ⟨by rw [E.out], rfl⟩
end Go.Proofs.YtnfefkcfifnjnaaDoor
