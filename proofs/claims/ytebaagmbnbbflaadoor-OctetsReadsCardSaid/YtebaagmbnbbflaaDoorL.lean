/- works() returns true. -/
import Derived.Test.YtebaagmbnbbflaaDoorK
namespace Go.Proofs.YtebaagmbnbbflaaDoor
open Go.RowKit Go.ChangeShapes

set_option maxRecDepth 1000000 in
set_option maxHeartbeats 8000000 in
theorem works_true (w : World) (hD : Digits w) :
    Calls Tryd.prog 10 #[] w fun e w' => e = .returned (.bool true) ∧ Below w.heap.size w w' := by
  have HD := Lib.hid hD
  have B0 := Below.refl w.heap.size w
  clear hD
  have hmf : ∀ (fn : Fn) (first cap : Array Value) (w : World), (Instr.makeFunc fn first cap).run Tryd.prog w = .ok (.func fn first cap) w := fun _ _ _ _ => rfl
  go_enter Tryd.func10, Tryd.ntmps10
  go_wp2_with fail
  refine (at_any _ _ _).mono ?_
  rintro e W1 ⟨rfl, h1⟩
  have B1 := bstep B0 h1
  clear h1 B0
  go_wp2_with fail
  refine (k1 _).mono ?_
  rintro e W2 ⟨rfl, h2⟩
  have B2 := bstep B1 h2
  clear h2 B1
  go_wp2_with fail
  refine (at_any _ _ _).mono ?_
  rintro e W3 ⟨rfl, h3⟩
  have B3 := bstep B2 h3
  clear h3 B2
  go_wp2_with fail
  refine (k2 _).mono ?_
  rintro e W4 ⟨rfl, h4⟩
  have B4 := bstep B3 h4
  clear h4 B3
  go_wp2_with fail
  refine (at_any _ _ _).mono ?_
  rintro e W5 ⟨rfl, h5⟩
  have B5 := bstep B4 h5
  clear h5 B4
  go_wp2_with fail
  refine (k3 _).mono ?_
  rintro e W6 ⟨rfl, h6⟩
  have B6 := bstep B5 h6
  clear h6 B5
  go_wp2_with fail
  refine (at_any _ _ _).mono ?_
  rintro e W7 ⟨rfl, h7⟩
  have B7 := bstep B6 h7
  clear h7 B6
  go_wp2_with fail
  refine (k4 _).mono ?_
  rintro e W8 ⟨rfl, h8⟩
  have B8 := bstep B7 h8
  clear h8 B7
  go_wp2_with fail
  refine (at_any _ _ _).mono ?_
  rintro e W9 ⟨rfl, h9⟩
  have B9 := bstep B8 h9
  clear h9 B8
  go_wp2_with fail
  refine (k5 _).mono ?_
  rintro e W10 ⟨rfl, h10⟩
  have B10 := bstep B9 h10
  clear h10 B9
  go_wp2_with fail
  refine (at_any _ _ _).mono ?_
  rintro e W11 ⟨rfl, h11⟩
  have B11 := bstep B10 h11
  clear h11 B10
  go_wp2_with fail
  refine (k6 _).mono ?_
  rintro e W12 ⟨rfl, h12⟩
  have B12 := bstep B11 h12
  clear h12 B11
  go_wp2_with fail
  refine (at_any _ _ _).mono ?_
  rintro e W13 ⟨rfl, h13⟩
  have B13 := bstep B12 h13
  clear h13 B12
  go_wp2_with fail
  refine (k7 _).mono ?_
  rintro e W14 ⟨rfl, h14⟩
  have B14 := bstep B13 h14
  clear h14 B13
  go_wp2_with fail
  refine (at_any _ _ _).mono ?_
  rintro e W15 ⟨rfl, h15⟩
  have B15 := bstep B14 h15
  clear h15 B14
  go_wp2_with fail
  refine (k8 _).mono ?_
  rintro e W16 ⟨rfl, h16⟩
  have B16 := bstep B15 h16
  clear h16 B15
  go_wp2_with fail
  refine (puts_any _ _ _).mono ?_
  rintro e X17 ⟨rfl, rfl⟩
  go_wp2_with fail
  refine (k9 _).mono ?_
  rintro e W17 ⟨rfl, h17⟩
  obtain ⟨p17, q17, h17⟩ := pstep h17
  have B17 := bstep B16 h17
  clear h17 B16
  go_wp2_with fail
  refine (puts1_yes _ _ _ _ _ p17 q17).mono ?_
  rintro e X19 ⟨rfl, rfl⟩
  clear p17 q17
  go_wp2_with fail
  refine (puts_any _ _ _).mono ?_
  rintro e X20 ⟨rfl, rfl⟩
  go_wp2_with fail
  refine (k10 _).mono ?_
  rintro e W18 ⟨rfl, h18⟩
  obtain ⟨p18, q18, h18⟩ := pstep h18
  have B18 := bstep B17 h18
  clear h18 B17
  go_wp2_with fail
  refine (puts1_yes _ _ _ _ _ p18 q18).mono ?_
  rintro e X22 ⟨rfl, rfl⟩
  clear p18 q18
  go_wp2_with fail
  refine (puts_any _ _ _).mono ?_
  rintro e X23 ⟨rfl, rfl⟩
  go_wp2_with fail
  refine (k11 _).mono ?_
  rintro e W19 ⟨rfl, h19⟩
  obtain ⟨p19, q19, h19⟩ := pstep h19
  have B19 := bstep B18 h19
  clear h19 B18
  go_wp2_with fail
  refine (puts1_yes _ _ _ _ _ p19 q19).mono ?_
  rintro e X25 ⟨rfl, rfl⟩
  clear p19 q19
  go_wp2_with fail
  refine (puts_any _ _ _).mono ?_
  rintro e X26 ⟨rfl, rfl⟩
  go_wp2_with fail
  refine (k12 _).mono ?_
  rintro e W20 ⟨rfl, h20⟩
  obtain ⟨p20, q20, h20⟩ := pstep h20
  have B20 := bstep B19 h20
  clear h20 B19
  go_wp2_with fail
  refine (puts1_yes _ _ _ _ _ p20 q20).mono ?_
  rintro e X28 ⟨rfl, rfl⟩
  clear p20 q20
  go_wp2_with fail
  refine (k13 _ (HD.out.below B20)).mono ?_
  rintro e W21 ⟨rfl, h21⟩
  have B21 := bstep B20 h21
  clear h21 B20
  go_wp2_with fail
  refine (puts_any _ _ _).mono ?_
  rintro e X30 ⟨rfl, rfl⟩
  go_wp2_with fail
  refine (k14 _ (HD.out.below (bstep2 B21))).mono ?_
  rintro e W22 ⟨rfl, h22⟩
  obtain ⟨p22, q22, h22⟩ := pstep h22
  have B22 := bstep B21 h22
  clear h22 B21
  go_wp2_with fail
  refine (puts1_yes _ _ _ _ _ p22 q22).mono ?_
  rintro e X32 ⟨rfl, rfl⟩
  clear p22 q22
  go_wp2_with fail
  refine (puts_any _ _ _).mono ?_
  rintro e X33 ⟨rfl, rfl⟩
  go_wp2_with fail
  refine (k15 _ (HD.out.below (bstep2 B22))).mono ?_
  rintro e W23 ⟨rfl, h23⟩
  obtain ⟨p23, q23, h23⟩ := pstep h23
  have B23 := bstep B22 h23
  clear h23 B22
  go_wp2_with fail
  refine (puts1_yes _ _ _ _ _ p23 q23).mono ?_
  rintro e X35 ⟨rfl, rfl⟩
  clear p23 q23
  go_wp2_with fail
  refine (k16 _).mono ?_
  rintro e W24 ⟨rfl, rfl⟩
  go_wp2_with fail
  refine (k17 _).mono ?_
  rintro e W24 ⟨rfl, rfl⟩
  go_wp2_with fail
  refine (k18 _).mono ?_
  rintro e W24 ⟨rfl, rfl⟩
  go_wp2_with fail
  go_ret
  exact ⟨rfl, B23⟩
end Go.Proofs.YtebaagmbnbbflaaDoor
