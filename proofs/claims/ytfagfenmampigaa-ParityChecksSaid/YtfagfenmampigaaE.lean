/- Contracts of checkBehind, More, Crc. -/
import Derived.Test.YtfagfenmampigaaD
namespace Go.Proofs.Ytfagfenmampigaa
open Go.RowKit Go.ChangeShapes
theorem ff_W {x : Nat} (h : isW x) : isW (FF ^^^ x) := isW_of_lt (ff_lt (lt_of_isW h))
theorem crS_W {c n : Nat} (hc : isW c) (hn : isW n) (s : List UInt8) : isW (crS c n s) := isW_of_lt (crS_lt (lt_of_isW hc) s (lt_of_isW hn))
theorem more_W {c n : Nat} (hc : isW c) (hn : isW n) (s : List UInt8) : isW (moreN c n s) := isW_of_lt (moreN_lt (lt_of_isW hc) (lt_of_isW hn) s)
theorem u8_W (b : UInt8) : isW b.toNat := by have := b.toNat_lt; unfold isW; omega
theorem cpl {x : Nat} (h : isW x) : bits .xor .u32 IntKind.u32.max (x : Int) = ((FF ^^^ x : Nat) : Int) := u32_xor (a := FF) (by unfold isW; decide) h
set_option maxRecDepth 100000 in
set_option maxHeartbeats 2000000 in
theorem behind_any (c n g : Nat) (s : List UInt8) (w : World) (hc : isW c) (hn : isW n) (hs : s.length ≤ 4096) (hT : Lar w g 94 (tab c)) :
    Calls Try.prog 35 #[.pointer (some ⟨g, 0, none⟩), ld n, .string (bs s)] w fun e w' => e = .returned (ld (moreN c n s)) ∧ w' = w := by
  have HA := Lib.hid (fun x (hx : isW x) => after_any c x g w hc hx hT)
  have HG := Lib.hid (fun k (h : k < (bs s).size) => bs_idx s k h)
  have HW := Lib.hid (fun l => crS_W hc (ff_W hn) l)
  have hsz : (bs s).size = s.length := bs_size s
  have HL := Lib.hid hs
  have HM := Lib.hid (show moreN c n s = FF ^^^ crS c (FF ^^^ n) s from rfl)
  have HS := Lib.hid (fun k (h : k < s.length) => show crS c (FF ^^^ n) (s.take (k + 1)) = e8 c (crS c (FF ^^^ n) (s.take k) ^^^ (s[k]).toNat) from by rw [List.take_succ_eq_append_getElem h]; exact crS_snoc c (FF ^^^ n) (s.take k) s[k])
  have hsg : IntKind.u32.signed = false := rfl
  have hcp := cpl hn
  have hfW := ff_W hn
  obtain ⟨f, hf⟩ : ∃ f, FF ^^^ n = f := ⟨_, rfl⟩
  rw [hf] at HW HM HS hcp hfW
  obtain ⟨S, hS⟩ : ∃ S, bs s = S := ⟨_, rfl⟩
  rw [hS] at HG hsz ⊢
  have HSZ := Lib.hid hsz
  have hsm : S.size ≤ 4096 := by omega
  have H0 := Lib.hid (show crS c f (s.take 0) = f by rw [List.take_zero]; rfl)
  clear hT hc hn hs hf hS hsz hfW
  go_enter Try.func35, Try.ntmps35
  go_wp2
  clear hcp
  go_loop [7, 8, 13] (fun a _ i => ∃ k : Nat, k ≤ S.size ∧ i = .int .i64 (k : Int) ∧ a = ld (crS c f (s.take k))) (fun _ _ i => S.size - (intOf i).toNat)
  case atStart => exact ⟨0, by omega, rfl, by rw [H0.out]⟩
  case round =>
    obtain ⟨k, hk, rfl, rfl⟩ := hrel
    have hw := HW.out (s.take k)
    by_cases hlt : k < S.size
    · have hkl : k < s.length := by have := HSZ.out; omega
      have hsk := HS.out k hkl
      have hg := HG.out k hlt
      have hgd : s.getD k 0 = s[k] := by rw [List.getD_eq_getElem?_getD, List.getElem?_eq_getElem hkl]; rfl
      rw [hgd] at hg
      generalize s[k] = b at hsk hg
      generalize crS c f (s.take k) = x at hw hsk ⊢
      have hx := u32_xor hw (u8_W b)
      have hxW := isW_xor hw (u8_W b)
      have hcv : IntKind.u32.wrap (b.toNat : Int) = (b.toNat : Int) := u32_back (u8_W b)
      have hbl : (b.toNat : Int) ≤ 255 := by have := b.toNat_lt; omega
      have HSK := Lib.hid hsk
      have HXW := Lib.hid hxW
      clear hsk hxW hw hgd
      have hki : (k : Int) < (S.size : Int) := by omega
      go_wp2_with (go_at_call 52; (with_reducible refine (HA.out _ HXW.out).mono ?_); rintro e w' ⟨rfl, rfl⟩)
      go_round
      case rel => exact ⟨k + 1, by omega, by go_num, by rw [HSK.out]⟩
      case measure => simp [intOf]; omega
    · obtain rfl : k = S.size := by omega
      have hall : s.take S.size = s := List.take_of_length_le (by have := HSZ.out; omega)
      rw [hall] at hw ⊢
      have hcp := cpl hw
      generalize hx : crS c f s = x at hcp ⊢
      have HM2 := Lib.hid (show moreN c n s = FF ^^^ x by rw [HM.out, hx])
      clear hx hall hw
      go_wp2
      go_ret
      exact ⟨by rw [HM2.out]; rfl, rfl⟩
/-- What may be wrong with a kind or a check. -/
def badK (kind : Int) : Prop := kind ≠ 1 ∧ kind ≠ 2
def badC (n : Int) : Prop := n < 0 ∨ 4294967295 < n
set_option maxRecDepth 100000 in
set_option maxHeartbeats 2000000 in
theorem more_kind (kind crc : Int) (s : ByteArray) (w : World) (h : badK kind) : Calls Try.prog 13 #[.int .i64 kind, .int .i64 crc, .string s] w fun e w' => e = .returned (.tuple #[.int .i64 0, .int .i64 2]) ∧ w' = w := by
  have HK := Lib.hid (const_no kind w h.1 h.2)
  clear h
  go_enter Try.func13, Try.ntmps13
  go_wp2_with (go_at_call 32; (with_reducible refine HK.out.mono ?_); rintro e w' ⟨rfl, rfl⟩)
  go_ret2
  exact ⟨rfl, rfl⟩
set_option maxRecDepth 100000 in
set_option maxHeartbeats 2000000 in
theorem more_crc (b : Bool) (crc : Int) (s : ByteArray) (w : World) (h : badC crc) : Calls Try.prog 13 #[kV b, .int .i64 crc, .string s] w fun e w' => e = .returned (.tuple #[.int .i64 0, .int .i64 2]) ∧ w' = w := by
  have HK := Lib.hid (const_k b w)
  have HC := Lib.hid (check_no crc w h)
  generalize kC b = c at HK
  generalize (if b then (2 : Int) else 1) = kind at HK ⊢
  clear h
  go_enter Try.func13, Try.ntmps13
  go_wp2_with (first | (go_at_call 32; (with_reducible refine HK.out.mono ?_); rintro e w' ⟨rfl, rfl⟩) | (go_at_call 33; (with_reducible refine HC.out.mono ?_); rintro e w' ⟨rfl, rfl⟩))
  go_ret2
  exact ⟨rfl, rfl⟩
set_option maxRecDepth 100000 in
set_option maxHeartbeats 2000000 in
theorem more_long (b : Bool) (crc : Int) (s : ByteArray) (w : World) (h1 : 0 ≤ crc) (h2 : crc ≤ 4294967295) (hs : 4096 < s.size) : Calls Try.prog 13 #[kV b, .int .i64 crc, .string s] w fun e w' => e = .returned (.tuple #[.int .i64 0, .int .i64 3]) ∧ w' = w := by
  have HK := Lib.hid (const_k b w)
  have HC := Lib.hid (check_yes crc w h1 h2)
  generalize kC b = c at HK
  generalize (if b then (2 : Int) else 1) = kind at HK ⊢
  go_enter Try.func13, Try.ntmps13
  go_wp2_with (first | (go_at_call 32; (with_reducible refine HK.out.mono ?_); rintro e w' ⟨rfl, rfl⟩) | (go_at_call 33; (with_reducible refine HC.out.mono ?_); rintro e w' ⟨rfl, rfl⟩))
  go_ret2
  exact ⟨rfl, rfl⟩
set_option maxRecDepth 100000 in
set_option maxHeartbeats 4000000 in
theorem more_yes (b : Bool) (crc : Nat) (s : List UInt8) (w : World) (h : crc ≤ 4294967295) (hs : s.length ≤ 4096) : Calls Try.prog 13 #[kV b, .int .i64 (crc : Int), .string (bs s)] w fun e w' => e = .returned (.tuple #[.int .i64 ((moreN (kC b) crc s : Nat) : Int), .int .i64 0]) ∧ Below w.heap.size w w' := by
  have HK := Lib.hid (const_k b w)
  have HC := Lib.hid (check_yes (crc : Int) w (by omega) (by omega))
  have HS := Lib.hid (fun W => steps_any (kC b) W (kC_W b))
  have HB := Lib.hid (fun g W (hT : Lar W g 94 (tab (kC b))) => behind_any (kC b) crc g s W (kC_W b) h hs hT)
  have hmW := more_W (kC_W b) h s
  generalize moreN (kC b) crc s = m at HB hmW ⊢
  generalize kC b = c at HK HS HB
  generalize (if b then (2 : Int) else 1) = kind at HK ⊢
  have hsz : (bs s).size ≤ 4096 := by rw [bs_size]; exact hs
  generalize bs s = S at HB hsz ⊢
  have hcv : IntKind.u32.wrap (crc : Int) = (crc : Int) := u32_back h
  unfold isW at hmW
  have hcv2 : IntKind.i64.wrap (m : Int) = (m : Int) := IntWalk.i64_in _ (by omega)
  clear hs
  go_enter Try.func13, Try.ntmps13
  go_wp2_with (first | (go_at_call 32; (with_reducible refine HK.out.mono ?_); rintro e w' ⟨rfl, rfl⟩) | (go_at_call 33; (with_reducible refine HC.out.mono ?_); rintro e w' ⟨rfl, rfl⟩))
  (with_reducible refine (HS.out _).mono ?_)
  rintro e w1 ⟨rfl, hT, hb⟩
  have HT := Lib.hid hT
  have HBl := Lib.hid hb
  clear hT hb
  go_wp2_with fail
  (with_reducible refine (HB.out _ _ HT.out).mono ?_)
  rintro e w2 ⟨rfl, rfl⟩
  go_wp2_with fail
  go_ret2
  exact ⟨rfl, HBl.out⟩
theorem crc_of (k : Value) (s : ByteArray) (w : World) (P : Ending → World → Prop) (h : Calls Try.prog 13 #[k, .int .i64 0, .string s] w fun e w' => (∃ a b, e = .returned (.tuple #[a, b]) ∧ P (.returned (.tuple #[a, b])) w')) : Calls Try.prog 14 #[k, .string s] w P := by
  have H := Lib.hid h
  clear h
  go_enter Try.func14, Try.ntmps14
  go_wp2_with fail
  (with_reducible refine H.out.mono ?_)
  rintro e w1 ⟨a, b, rfl, hp⟩
  have HP := Lib.hid hp
  clear hp
  go_wp2_with fail
  exact HP.out
theorem crc_kind (kind : Int) (s : ByteArray) (w : World) (h : badK kind) : Calls Try.prog 14 #[.int .i64 kind, .string s] w fun e w' => e = .returned (.tuple #[.int .i64 0, .int .i64 2]) ∧ w' = w :=
  crc_of _ _ _ _ ((more_kind kind 0 s w h).mono fun _ _ ⟨he, hw⟩ => ⟨_, _, he, rfl, hw⟩)
theorem crc_long (b : Bool) (s : ByteArray) (w : World) (hs : 4096 < s.size) : Calls Try.prog 14 #[kV b, .string s] w fun e w' => e = .returned (.tuple #[.int .i64 0, .int .i64 3]) ∧ w' = w :=
  crc_of _ _ _ _ ((more_long b 0 s w (by decide) (by decide) hs).mono fun _ _ ⟨he, hw⟩ => ⟨_, _, he, rfl, hw⟩)
theorem crc_yes (b : Bool) (s : List UInt8) (w : World) (hs : s.length ≤ 4096) : Calls Try.prog 14 #[kV b, .string (bs s)] w fun e w' => e = .returned (.tuple #[.int .i64 ((moreN (kC b) 0 s : Nat) : Int), .int .i64 0]) ∧ Below w.heap.size w w' :=
  crc_of _ _ _ _ ((more_yes b 0 s w (by decide) hs).mono fun _ _ ⟨he, hw⟩ => ⟨_, _, he, rfl, hw⟩)
end Go.Proofs.Ytfagfenmampigaa
