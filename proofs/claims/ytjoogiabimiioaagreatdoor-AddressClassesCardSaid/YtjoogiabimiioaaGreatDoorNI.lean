/- Contracts of ParseHost. -/
import Derived.Test.YtjoogiabimiioaaGreatDoorNH
namespace Go.Proofs.YtjoogiabimiioaaGreatDoor
open Go.RowKit Go.ChangeShapes
/-- What a text of a host says, and whether it is one. -/
def phL (s : List UInt8) : List UInt8 := if 0 ≤ Lib.indexByte s 58 then octL (sixG s) else fourL s
def phR (s : List UInt8) : Bool := if 0 ≤ Lib.indexByte s 58 then sixR s else fourR s
def phT (s : List UInt8) : Value := if phR s then .tuple #[.string (bs (phL s)), .int .i64 0] else .tuple #[.string ⟨#[]⟩, .int .i64 5]
set_option maxRecDepth 100000 in
set_option maxHeartbeats 2000000 in
theorem ParseHost_any (s : List UInt8) (w : World) (hs : s.length ≤ 1000) (hE : Env w) :
    Calls Tryz.prog 24 #[.string (bs s)] w fun e w' => e = .returned (phT s) ∧ Below w.heap.size w w' := by
  have HC := Lib.hid (fun W => Tryz.strings_Contains_one (bs s) 58 W)
  rw [show (bs s).data.toList = s by simp [bs_data]] at HC
  have H4 := Lib.hid (readFour_any s w hs)
  have H6 := Lib.hid (readSix_any s w hs hE)
  unfold phT phR phL
  clear hs hE
  by_cases hc : 0 ≤ Lib.indexByte s 58
  · rw [decide_eq_true hc] at HC
    simp only [if_pos hc]
    clear hc H4
    generalize sixR s = r6 at H6 ⊢
    generalize bs (octL (sixG s)) = X6 at H6 ⊢
    generalize bs s = S at HC H6 ⊢
    rcases r6 with _ | _
    all_goals
      go_enter Tryz.func24, Tryz.ntmps24
      go_upto_region 2 with fail
      go_wp2_with fail
      (with_reducible refine (HC.out _).mono ?_)
      rintro e V ⟨rfl, rfl⟩
      go_wp2_with (go_at_call 50; (with_reducible refine H6.out.mono ?_); rintro e V ⟨rfl, hb⟩)
      go_ret2
      exact ⟨rfl, hb⟩
  · rw [decide_eq_false hc] at HC
    simp only [if_neg hc]
    clear hc H6
    generalize fourR s = r4 at H4 ⊢
    generalize bs (fourL s) = X4 at H4 ⊢
    generalize bs s = S at HC H4 ⊢
    rcases r4 with _ | _
    all_goals
      go_enter Tryz.func24, Tryz.ntmps24
      go_upto_region 2 with fail
      go_wp2_with fail
      (with_reducible refine (HC.out _).mono ?_)
      rintro e V ⟨rfl, rfl⟩
      go_wp2_with (go_at_call 48; (with_reducible refine H4.out.mono ?_); rintro e V ⟨rfl, hb⟩)
      go_ret2
      exact ⟨rfl, hb⟩
end Go.Proofs.YtjoogiabimiioaaGreatDoor
