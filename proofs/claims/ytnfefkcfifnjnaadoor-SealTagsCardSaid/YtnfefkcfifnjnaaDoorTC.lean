/- The laws' cut and told. The walk of SealTags. -/
import Derived.Test.YtnfefkcfifnjnaaDoorSX
import Derived.Test.YtnfefkcfifnjnaaDoorNT
import Derived.Test.YtnfefkcfifnjnaaDoorWB
import Derived.Deep.Cut
namespace Go.Proofs.YtnfefkcfifnjnaaDoor
section
open Go.RowKit Go.ChangeShapes
set_option maxRecDepth 100000 in
set_option maxHeartbeats 1000000 in
theorem cutq (s : ByteArray) (n : Nat) (y : Int) (hy : y = (n : Int)) : ∃ z : List UInt8, z.length ≤ n ∧ ∀ w, Calls Tryd.prog 13 #[.string s, .int .i64 y] w fun e w' => e = .returned (.string (bs z)) ∧ w = w' := by
  obtain ⟨m, z, hz, hl, i1, j1⟩ := cut_m s n y hy
  refine ⟨z, hl, fun w => ?_⟩
  subst hy
  go_enter Tryd.func13, Tryd.ntmps13
  go_wp2
  go_ret
  exact ⟨rfl, rfl⟩
set_option maxRecDepth 100000 in
set_option maxHeartbeats 1000000 in
theorem toldE (n : Int) (x : ByteArray) (w : World) (hn : n ≠ 0) :
    Calls Tryd.prog 17 #[.string ⟨#[]⟩, .int .i64 n, .int .i64 n, .string x] w fun e w' => e = .returned (.bool true) ∧ w = w' := by
  go_enter Tryd.func17, Tryd.ntmps17
  go_wp2
  go_ret
  exact ⟨ret_b (by simp), rfl⟩
set_option maxRecDepth 100000 in
set_option maxHeartbeats 1000000 in
theorem toldS (s : ByteArray) (w : World) :
    Calls Tryd.prog 17 #[.string s, .int .i64 0, .int .i64 0, .string s] w fun e w' => e = .returned (.bool true) ∧ w = w' := by
  go_enter Tryd.func17, Tryd.ntmps17
  go_wp2
  go_ret
  exact ⟨ret_b (by simp), rfl⟩
end
section
open Go.RowKit Go.ChangeShapes
def pk2 {α : Type} (a b : α) (i : Nat) : α := if i = 0 then a else b
def pk3 {α : Type} (a b c : α) (i : Nat) : α := if i = 0 then a else if i = 1 then b else c
theorem idx26 (a b : ByteArray) (i : Nat) (w : World) (h : i < 2) : (Instr.index 26 (.agg #[.string a, .string b]) (.int .i64 (i : Int))).run Tryd.prog w = .ok (.string (pk2 a b i)) w := by
  rcases (by omega : i = 0 ∨ i = 1) with rfl | rfl
  · kernel_rfl
  · kernel_rfl
theorem idx27 (a b c : ByteArray) (i : Nat) (w : World) (h : i < 3) : (Instr.index 27 (.agg #[.string a, .string b, .string c]) (.int .i64 (i : Int))).run Tryd.prog w = .ok (.string (pk3 a b c i)) w := by
  rcases (by omega : i = 0 ∨ i = 1 ∨ i = 2) with rfl | rfl | rfl
  · kernel_rfl
  · kernel_rfl
  · kernel_rfl
theorem u8_or (a b : UInt8) : bits .or .u8 (a.toNat : Int) (b.toNat : Int) = ((a ||| b).toNat : Int) := by
  show IntKind.u8.wrap ((BitVec.ofInt 8 (a.toNat : Int) ||| BitVec.ofInt 8 (b.toNat : Int)).toNat : Int) = _
  have ha := a.toNat_lt
  have hb := b.toNat_lt
  rw [BitVec.toNat_or, BitVec.ofInt_natCast, BitVec.ofInt_natCast, BitVec.toNat_ofNat, BitVec.toNat_ofNat, Nat.mod_eq_of_lt (by omega), Nat.mod_eq_of_lt (by omega), UInt8.toNat_or]
  have : a.toNat ||| b.toNat < 2 ^ 8 := Nat.or_lt_two_pow ha hb
  rw [IntKind.wrap_u8']
  omega
theorem addr_at (g i : Nat) : (⟨g, 0, none⟩ : Addr).add i = ⟨g, i, none⟩ := by unfold Addr.add; split <;> simp_all
set_option maxRecDepth 1000000 in
set_option maxHeartbeats 8000000 in
/-- The walk: any two keys, any three strings. -/
theorem tags_true (s1 s2 : ByteArray) (n : Nat) (gr : Bool) (w : World) (hD : Digits w) (hn : n ≤ 65535) :
    Calls Tryd.prog 3 #[.string s1, .string s2, .int .u16 n, .bool gr] w fun e w' => e = .returned (.bool true) ∧ Below w.heap.size w w' := by
  have K0 := Wk.start hD
  obtain ⟨z1, hl1, c1⟩ := cutq s1 40 40 rfl
  obtain ⟨z2, hl2, c2⟩ := cutq s2 300 300 rfl
  have q1 : ∀ w, Calls Tryd.prog 14 #[.string (bs z1), .int .i64 32] w fun e w' => e = .returned (.string (bs (sizL z1 32))) ∧ Below w.heap.size w w' := fun w => sized_any z1 32 w (by decide) (by omega)
  have nm : n % 4200 ≤ 4200 := by omega
  have nh : n % 100 ≤ 100 := by omega
  have q2 : ∀ w, Calls Tryd.prog 14 #[.string (bs z2), .int .i64 ((n % 4200 : Nat) : Int)] w fun e w' => e = .returned (.string (bs (sizL z2 (n % 4200)))) ∧ Below w.heap.size w w' := fun w => sized_any z2 (n % 4200) w (by omega) (by omega)
  have q3 : ∀ w, Calls Tryd.prog 14 #[.string ⟨#[255]⟩, .int .i64 ((n % 100 : Nat) : Int)] w fun e w' => e = .returned (.string (bs (sizL [255] (n % 100)))) ∧ Below w.heap.size w w' := fun w => sized_any [255] (n % 100) w (by omega) (by simp)
  obtain ⟨z3, hl3, c3⟩ := cutq (bs (sizL z2 (n % 4200))) 600 600 rfl
  have sm : (bs (sizL z1 32)).size = 32 := by rw [bs_size, sizL_length]
  have sl : (bs (sizL z2 (n % 4200))).size = n % 4200 := by rw [bs_size, sizL_length]
  have sf : (bs (sizL [255] (n % 100))).size = n % 100 := by rw [bs_size, sizL_length]
  have s3 : (bs z3).size ≤ 600 := hl3
  have s2' : (bs z2).size ≤ 300 := hl2
  have hm1 : (n : Int).tmod 4200 = ((n % 4200 : Nat) : Int) := by rw [Int.tmod_eq_emod_of_nonneg (by omega)]; omega
  have hm2 : (n : Int) % 4200 = ((n % 4200 : Nat) : Int) := by omega
  have hm3 : (n : Int).tmod 100 = ((n % 100 : Nat) : Int) := by rw [Int.tmod_eq_emod_of_nonneg (by omega)]; omega
  have hm4 : (n : Int) % 100 = ((n % 100 : Nat) : Int) := by omega
  have hcv : IntKind.i64.wrap (n : Int) = (n : Int) := IntWalk.i64_in _ (by omega)
  have bsl : (bs (sizL z1 32)).data.toList.length = 32 := by rw [bs_data, sizL_length]
  have hbm := Lib.hid fun (w : World) => bytes_made (bs (sizL z1 32)) w
  obtain ⟨A, hA⟩ : ∃ Y : ByteArray, bs z1 = Y := ⟨_, rfl⟩
  obtain ⟨B, hB⟩ : ∃ Y : ByteArray, bs z2 = Y := ⟨_, rfl⟩
  obtain ⟨M, hM⟩ : ∃ Y : ByteArray, bs (sizL z1 32) = Y := ⟨_, rfl⟩
  obtain ⟨LL, hLL⟩ : ∃ Y : ByteArray, bs (sizL z2 (n % 4200)) = Y := ⟨_, rfl⟩
  obtain ⟨FF, hFF⟩ : ∃ Y : ByteArray, bs (sizL [255] (n % 100)) = Y := ⟨_, rfl⟩
  obtain ⟨L3, hL3⟩ : ∃ Y : ByteArray, bs z3 = Y := ⟨_, rfl⟩
  rw [hA] at c1 q1
  rw [hB] at c2 q2 s2'
  rw [hM] at q1 sm bsl hbm
  rw [hLL] at q2 sl c3
  rw [hFF] at q3 sf
  rw [hL3] at c3 s3
  obtain ⟨nl, hnl⟩ : ∃ x, n % 4200 = x := ⟨_, rfl⟩
  obtain ⟨nf, hnf⟩ : ∃ x, n % 100 = x := ⟨_, rfl⟩
  rw [hnl] at q2 sl hm1 hm2 nm
  rw [hnf] at q3 sf hm3 hm4 nh
  have C1 := Lib.hid c1
  have C2 := Lib.hid c2
  have C3 := Lib.hid c3
  have Q1 := Lib.hid q1
  have Q2 := Lib.hid q2
  have Q3 := Lib.hid q3
  clear c1 c2 c3 q1 q2 q3 hA hB hM hLL hFF hL3 hnl hnf hl1 hl2 hl3 hD
  go_enter Tryd.func3, Tryd.ntmps3
  go_wp2_with fail
  refine (worksQ_true _ K0.d).mono ?_
  rintro e W1 ⟨rfl, hb⟩
  have B1 := Lib.hid hb
  clear hb K0
  have hcv16 : ∀ wx : World, (convert 22 3 (.int .u16 (n : Int))).run Tryd.prog wx = .ok (.int .i64 (n : Int)) wx := fun wx => by
    have : (convert 22 3 (.int .u16 (n : Int))).run Tryd.prog wx = .ok (.int .i64 (IntKind.i64.wrap (n : Int))) wx := by kernel_rfl
    rw [this, hcv]
  go_upto_if 29 with (first
    | (go_at_call 13; (first | (with_reducible refine (C1.out _).mono ?_) | (with_reducible refine (C2.out _).mono ?_)); rintro e V ⟨rfl, rfl⟩)
    | (go_at_call 14; (with_reducible refine (Q1.out _).mono ?_); rintro e W2 ⟨rfl, hb⟩; have B2 := Lib.hid (B1.out.trans (hb.mono B1.out.size)); clear hb))
  clear B1 C1 C2 Q1
  go_cut [0, 1, 2, 9] (fun a0 a1 a2 a9 wx => ∃ MM : ByteArray, MM.size = 32 ∧ a0 = .string A ∧ a1 = .string B ∧ a2 = .int .u16 (n : Int) ∧ a9 = .string MM ∧ Hid (Below w.heap.size w wx))
  case first =>
    cases gr
    · go_wp2_with fail
      go_meet
      exact ⟨M, sm, rfl, rfl, rfl, rfl, B2⟩
    · obtain ⟨cap, W3, hcap, hconv, hO, hB3, hz3⟩ := hbm.out W2
      have O3 := Lib.hid hO
      have B3 := Lib.hid (B2.out.trans (hB3.mono B2.out.size))
      have z2 := B2.out.size
      clear hO hB3 hbm B2
      go_wp2_with fail
      go_loopw [34] (fun i wr => ∃ (j : Nat) (l : List UInt8), j ≤ 32 ∧ i = .int .i64 j ∧ l.length = 32 ∧ Hid (Oc wr W2.heap.size l) ∧ Hid (Below w.heap.size w wr)) (fun i _ => 32 - (intOf i).toNat)
      case atStart => exact ⟨0, M.data.toList, Nat.zero_le _, rfl, bsl, O3, B3⟩
      case round =>
        clear O3 B3
        obtain ⟨j, l, hj, rfl, hl, HO, HB⟩ := hrel
        by_cases hlt : j < 32
        · have j1 : (j : Int) < 32 := by omega
          obtain ⟨hc, hf⟩ := HO.out j (by omega)
          have hst := HO.out.set j (l.getD j 0 ||| 240)
          have hor := u8_or (l.getD j 0) 240
          have h240 : ((240 : UInt8).toNat : Int) = 240 := rfl
          rw [h240] at hor
          generalize l.getD j 0 = b at hc hst hor
          have HST := Lib.hid hst
          have hB2 := Lib.hid (HB.out.setCell (p := ⟨W2.heap.size, j, none⟩) z2 (by8 (b ||| 240)))
          clear hst h240
          go_wp2
          go_roundw
          case rel => exact ⟨j + 1, _, by omega, by go_num, by rw [List.length_set]; exact hl, HST, hB2⟩
          case measure => simp [intOf]; omega
        · have j1 : ¬ (j : Int) < 32 := by omega
          have hcv := run_convert_bytes_back (P := Tryd.prog) wr 25 9 5 ⟨W2.heap.size, 0, none⟩ cap l Tryd.underlying25 Tryd.underlying5 Tryd.underlying9 fun i hi => by
            rw [addr_at, (HO.out i hi).1]
            simp [List.getD_eq_getElem?_getD, hi]
          rw [hl] at hcv
          go_wp2
          go_meet
          exact ⟨bs l, by rw [bs_size, hl], rfl, rfl, rfl, rfl, HB⟩
  case rest =>
    obtain ⟨MM, sM, rfl, rfl, rfl, rfl, B3⟩ := hcut
    clear B2 hbm sm bsl
    go_upto_if 53 with (first
      | (go_at_call 14; (with_reducible refine (Q2.out _).mono ?_); rintro e W4 ⟨rfl, hb⟩; have B4 := Lib.hid (B3.out.trans (hb.mono B3.out.size)); clear hb))
    clear B3 Q2
    go_cut [0, 1, 2, 9, 12] (fun a0 a1 a2 a9 a12 wx => ∃ TT : ByteArray, TT.size ≤ 4200 ∧ a0 = .string A ∧ a1 = .string B ∧ a2 = .int .u16 (n : Int) ∧ a9 = .string MM ∧ a12 = .string TT ∧ Hid (Below w.heap.size w wx))
    case first =>
      by_cases h96 : nl ≤ 4096
      · have h96' : (LL.size : Int) ≤ 4096 := by omega
        go_wp2_with (first | (go_at_call 13; (with_reducible refine (C3.out _).mono ?_); rintro e V ⟨rfl, rfl⟩))
        go_meet
        exact ⟨L3, by omega, rfl, rfl, rfl, rfl, rfl, B4⟩
      · have h96' : ¬ (LL.size : Int) ≤ 4096 := by omega
        go_wp2_with fail
        go_meet
        exact ⟨LL, by omega, rfl, rfl, rfl, rfl, rfl, B4⟩
    case rest =>
      obtain ⟨TT, sT, rfl, rfl, rfl, rfl, rfl, B5⟩ := hcut
      clear B4 C3 s3
      go_wp2_with fail
      have HK : Hid (∀ (j : Nat) (w : World), j < 2 → (Instr.index 26 (.agg #[.string A, .string MM]) (.int .i64 (j : Int))).run Tryd.prog w = .ok (.string (pk2 A MM j)) w) := Lib.hid fun j w hj => idx26 A MM j w hj
      have HT : Hid (∀ (j : Nat) (w : World), j < 3 → (Instr.index 27 (.agg #[.string B, .string TT, .string FF]) (.int .i64 (j : Int))).run Tryd.prog w = .ok (.string (pk3 B TT FF j)) w) := Lib.hid fun j w hj => idx27 B TT FF j w hj
      have HTS : Hid (∀ j, (pk3 B TT FF j).size ≤ 4200) := Lib.hid fun j => by unfold pk3; split; omega; split <;> omega
      generalize (#[.string A, .string MM] : Array Value) = KA at HK ⊢
      generalize pk2 A MM = PK at HK
      go_loopw [59] (fun i wr => ∃ j : Nat, j ≤ 2 ∧ i = .int .i64 j ∧ Hid (Below w.heap.size w wr)) (fun i _ => 2 - (intOf i).toNat)
      case atStart => exact ⟨0, Nat.zero_le _, rfl, B5⟩
      case round =>
        clear B5
        obtain ⟨j, hj, rfl, HB⟩ := hrel
        by_cases hlt : j < 2
        · have j2 : (j : Int) < 2 := by omega
          have hix := HK.out j wr hlt
          obtain ⟨kb, hkb⟩ : ∃ x, PK j = x := ⟨_, rfl⟩
          rw [hkb] at hix
          clear hkb
          go_wp2_with (first
            | (go_at_call 14; (with_reducible refine (Q3.out _).mono ?_); rintro e W6 ⟨rfl, hb⟩; have B6 := Lib.hid (HB.out.trans (hb.mono HB.out.size)); clear hb))
          generalize (#[.string B, .string TT, .string FF] : Array Value) = TA at HT ⊢
          generalize pk3 B TT FF = PT at HT HTS
          clear HB hix
          go_loopw [69] (fun i wr => ∃ q : Nat, q ≤ 3 ∧ i = .int .i64 q ∧ Hid (Below w.heap.size w wr)) (fun i _ => 3 - (intOf i).toNat)
          case atStart => exact ⟨0, Nat.zero_le _, rfl, B6⟩
          case round =>
            clear B6
            obtain ⟨q, hq, rfl, HB⟩ := hrel
            by_cases hlq : q < 3
            · have q3 : (q : Int) < 3 := by omega
              have hix := HT.out q wr hlq
              have hts := HTS.out q
              obtain ⟨tb, htb⟩ : ∃ x, PT q = x := ⟨_, rfl⟩
              rw [htb] at hix hts
              clear htb
              by_cases hk : kb.size = 32
              · by_cases ht : tb.size ≤ 4096
                · have ht1 : ¬ (4096 : Int) < (tb.size : Int) := by omega
                  have t1 := rtag kb.data.toList tb.data.toList
                  have t2 := tag_ok kb.data.toList tb.data.toList
                  rw [bs_of, bs_of] at t1 t2
                  generalize bs (tagO kb.data.toList tb.data.toList) = TG at t1 t2
                  have T1 := Lib.hid fun w => t1 w hk (by show tb.size ≤ 9000; omega)
                  have T2 := Lib.hid fun w => t2 w hk ht
                  clear t1 t2
                  go_wp2_with (first
                    | (go_at_call 15; (with_reducible refine (T1.out _).mono ?_); rintro e V1 ⟨rfl, hb⟩; have B7 := Lib.hid (HB.out.trans (hb.mono HB.out.size)); clear hb)
                    | (go_at_call 16; (with_reducible refine (T2.out _).mono ?_); rintro e V2 ⟨rfl, hb⟩; have B8 := Lib.hid (B7.out.trans (hb.mono B7.out.size)); clear hb)
                    | (go_at_call 17; (with_reducible refine (toldS _ _).mono ?_); rintro e V3 ⟨rfl, rfl⟩))
                  go_roundw
                  case rel => exact ⟨q + 1, by omega, by go_num, B8⟩
                  case measure => simp [intOf]; omega
                · have ht1 : (4096 : Int) < (tb.size : Int) := by omega
                  have T2 := Lib.hid fun w => tag_long kb tb w hk (by omega)
                  go_wp2_with (first
                    | (go_at_call 16; (with_reducible refine (T2.out _).mono ?_); rintro e V2 ⟨rfl, rfl⟩)
                    | (go_at_call 17; (with_reducible refine (toldE 3 _ _ (by decide)).mono ?_); rintro e V3 ⟨rfl, rfl⟩))
                  go_roundw
                  case rel => exact ⟨q + 1, by omega, by go_num, HB⟩
                  case measure => simp [intOf]; omega
              · have b1 : ((kb.size : Int) != 32) = true := by simp; omega
                have T2 := Lib.hid fun w => tag_arg kb tb w hk
                go_wp2_with (first
                  | (go_at_call 16; (with_reducible refine (T2.out _).mono ?_); rintro e V2 ⟨rfl, rfl⟩)
                  | (go_at_call 17; (with_reducible refine (toldE 2 _ _ (by decide)).mono ?_); rintro e V3 ⟨rfl, rfl⟩))
                go_roundw
                case rel => exact ⟨q + 1, by omega, by go_num, HB⟩
                case measure => simp [intOf]; omega
            · have q3 : ¬ (q : Int) < 3 := by omega
              go_wp2
              go_roundw
              case rel => exact ⟨j + 1, by omega, by go_num, HB⟩
              case measure => simp [intOf]; omega
        · have j2 : ¬ (j : Int) < 2 := by omega
          go_wp2
          go_ret
          exact ⟨rfl, HB.out⟩
end
end Go.Proofs.YtnfefkcfifnjnaaDoor
