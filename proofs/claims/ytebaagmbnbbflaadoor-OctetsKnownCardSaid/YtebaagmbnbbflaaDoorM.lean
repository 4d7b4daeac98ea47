/- OctetsKnown returns true. -/
import Derived.Test.YtebaagmbnbbflaaDoorL
namespace Go.Proofs.YtebaagmbnbbflaaDoor
open Go.RowKit Go.ChangeShapes

set_option maxRecDepth 1000000 in
set_option maxHeartbeats 8000000 in
theorem known_true (w : World) (hD : Digits w) :
    Calls Tryd.prog 9 #[] w fun e w' => e = .returned (.bool true) ∧ Below w.heap.size w w' := by
  have HD := Lib.hid hD
  have B0 := Below.refl w.heap.size w
  clear hD
  have hmf : ∀ (fn : Fn) (first cap : Array Value) (w : World), (Instr.makeFunc fn first cap).run Tryd.prog w = .ok (.func fn first cap) w := fun _ _ _ _ => rfl
  go_enter Tryd.func9, Tryd.ntmps9
  go_wp2_with fail
  refine (works_true _ (HD.out.below B0)).mono ?_
  rintro e W1 ⟨rfl, h1⟩
  have B1 := bstep B0 h1
  clear h1 B0
  go_wp2_with fail
  refine (at_any _ _ _).mono ?_
  rintro e W2 ⟨rfl, h2⟩
  have B2 := bstep B1 h2
  clear h2 B1
  go_wp2_with fail
  refine (k19 _).mono ?_
  rintro e W3 ⟨rfl, h3⟩
  have B3 := bstep B2 h3
  clear h3 B2
  go_wp2_with fail
  refine (at_any _ _ _).mono ?_
  rintro e W4 ⟨rfl, h4⟩
  have B4 := bstep B3 h4
  clear h4 B3
  go_wp2_with fail
  refine (k20 _).mono ?_
  rintro e W5 ⟨rfl, h5⟩
  have B5 := bstep B4 h5
  clear h5 B4
  go_wp2_with fail
  refine (at_any _ _ _).mono ?_
  rintro e W6 ⟨rfl, h6⟩
  have B6 := bstep B5 h6
  clear h6 B5
  go_wp2_with fail
  refine (k21 _).mono ?_
  rintro e W7 ⟨rfl, h7⟩
  have B7 := bstep B6 h7
  clear h7 B6
  go_wp2_with fail
  refine (at_any _ _ _).mono ?_
  rintro e W8 ⟨rfl, h8⟩
  have B8 := bstep B7 h8
  clear h8 B7
  go_wp2_with fail
  refine (k22 _).mono ?_
  rintro e W9 ⟨rfl, h9⟩
  have B9 := bstep B8 h9
  clear h9 B8
  go_wp2_with fail
  refine (at_any _ _ _).mono ?_
  rintro e W10 ⟨rfl, h10⟩
  have B10 := bstep B9 h10
  clear h10 B9
  go_wp2_with fail
  refine (k23 _).mono ?_
  rintro e W11 ⟨rfl, h11⟩
  have B11 := bstep B10 h11
  clear h11 B10
  go_wp2_with fail
  refine (at_any _ _ _).mono ?_
  rintro e W12 ⟨rfl, h12⟩
  have B12 := bstep B11 h12
  clear h12 B11
  go_wp2_with fail
  refine (k24 _).mono ?_
  rintro e W13 ⟨rfl, h13⟩
  have B13 := bstep B12 h13
  clear h13 B12
  go_wp2_with fail
  refine (at_any _ _ _).mono ?_
  rintro e W14 ⟨rfl, h14⟩
  have B14 := bstep B13 h14
  clear h14 B13
  go_wp2_with fail
  refine (k25 _).mono ?_
  rintro e W15 ⟨rfl, h15⟩
  have B15 := bstep B14 h15
  clear h15 B14
  go_wp2_with fail
  refine (at_any _ _ _).mono ?_
  rintro e W16 ⟨rfl, h16⟩
  have B16 := bstep B15 h16
  clear h16 B15
  go_wp2_with fail
  refine (k26 _).mono ?_
  rintro e W17 ⟨rfl, h17⟩
  have B17 := bstep B16 h17
  clear h17 B16
  go_wp2_with fail
  refine (at_any _ _ _).mono ?_
  rintro e W18 ⟨rfl, h18⟩
  have B18 := bstep B17 h18
  clear h18 B17
  go_wp2_with fail
  refine (k27 _).mono ?_
  rintro e W19 ⟨rfl, h19⟩
  have B19 := bstep B18 h19
  clear h19 B18
  go_wp2_with fail
  refine (at_any _ _ _).mono ?_
  rintro e W20 ⟨rfl, h20⟩
  have B20 := bstep B19 h20
  clear h20 B19
  go_wp2_with fail
  refine (k28 _).mono ?_
  rintro e W21 ⟨rfl, h21⟩
  have B21 := bstep B20 h21
  clear h21 B20
  go_wp2_with fail
  refine (at_any _ _ _).mono ?_
  rintro e W22 ⟨rfl, h22⟩
  have B22 := bstep B21 h22
  clear h22 B21
  go_wp2_with fail
  refine (k29 _).mono ?_
  rintro e W23 ⟨rfl, h23⟩
  have B23 := bstep B22 h23
  clear h23 B22
  go_wp2_with fail
  refine (at_any _ _ _).mono ?_
  rintro e W24 ⟨rfl, h24⟩
  have B24 := bstep B23 h24
  clear h24 B23
  go_wp2_with fail
  refine (k30 _).mono ?_
  rintro e W25 ⟨rfl, h25⟩
  have B25 := bstep B24 h25
  clear h25 B24
  go_wp2_with fail
  refine (at_any _ _ _).mono ?_
  rintro e W26 ⟨rfl, h26⟩
  have B26 := bstep B25 h26
  clear h26 B25
  go_wp2_with fail
  refine (k31 _).mono ?_
  rintro e W27 ⟨rfl, h27⟩
  have B27 := bstep B26 h27
  clear h27 B26
  go_wp2_with fail
  refine (at_any _ _ _).mono ?_
  rintro e W28 ⟨rfl, h28⟩
  have B28 := bstep B27 h28
  clear h28 B27
  go_wp2_with fail
  refine (k32 _).mono ?_
  rintro e W29 ⟨rfl, h29⟩
  have B29 := bstep B28 h29
  clear h29 B28
  go_wp2_with fail
  refine (at_any _ _ _).mono ?_
  rintro e W30 ⟨rfl, h30⟩
  have B30 := bstep B29 h30
  clear h30 B29
  go_wp2_with fail
  refine (k33 _).mono ?_
  rintro e W31 ⟨rfl, h31⟩
  have B31 := bstep B30 h31
  clear h31 B30
  go_wp2_with fail
  refine (at_any _ _ _).mono ?_
  rintro e W32 ⟨rfl, h32⟩
  have B32 := bstep B31 h32
  clear h32 B31
  go_wp2_with fail
  refine (k34 _).mono ?_
  rintro e W33 ⟨rfl, h33⟩
  have B33 := bstep B32 h33
  clear h33 B32
  go_wp2_with fail
  refine (at_any _ _ _).mono ?_
  rintro e W34 ⟨rfl, h34⟩
  have B34 := bstep B33 h34
  clear h34 B33
  go_wp2_with fail
  refine (k35 _).mono ?_
  rintro e W35 ⟨rfl, h35⟩
  have B35 := bstep B34 h35
  clear h35 B34
  go_wp2_with fail
  refine (at_any _ _ _).mono ?_
  rintro e W36 ⟨rfl, h36⟩
  have B36 := bstep B35 h36
  clear h36 B35
  go_wp2_with fail
  refine (k36 _).mono ?_
  rintro e W37 ⟨rfl, h37⟩
  have B37 := bstep B36 h37
  clear h37 B36
  go_wp2_with fail
  refine (at_any _ _ _).mono ?_
  rintro e W38 ⟨rfl, h38⟩
  have B38 := bstep B37 h38
  clear h38 B37
  go_wp2_with fail
  refine (k37 _).mono ?_
  rintro e W39 ⟨rfl, h39⟩
  have B39 := bstep B38 h39
  clear h39 B38
  go_wp2_with fail
  refine (at_any _ _ _).mono ?_
  rintro e W40 ⟨rfl, h40⟩
  have B40 := bstep B39 h40
  clear h40 B39
  go_wp2_with fail
  refine (k38 _).mono ?_
  rintro e W41 ⟨rfl, h41⟩
  have B41 := bstep B40 h41
  clear h41 B40
  go_wp2_with fail
  refine (at_any _ _ _).mono ?_
  rintro e W42 ⟨rfl, h42⟩
  have B42 := bstep B41 h42
  clear h42 B41
  go_wp2_with fail
  refine (k39 _).mono ?_
  rintro e W43 ⟨rfl, h43⟩
  have B43 := bstep B42 h43
  clear h43 B42
  go_wp2_with fail
  refine (puts_any _ _ _).mono ?_
  rintro e X44 ⟨rfl, rfl⟩
  go_wp2_with fail
  refine (k40 _).mono ?_
  rintro e W44 ⟨rfl, h44⟩
  obtain ⟨p44, q44, h44⟩ := pstep h44
  have B44 := bstep B43 h44
  clear h44 B43
  go_wp2_with fail
  refine (puts1_yes _ _ _ _ _ p44 q44).mono ?_
  rintro e X46 ⟨rfl, rfl⟩
  clear p44 q44
  go_wp2_with fail
  refine (puts_any _ _ _).mono ?_
  rintro e X47 ⟨rfl, rfl⟩
  go_wp2_with fail
  refine (k41 _).mono ?_
  rintro e W45 ⟨rfl, h45⟩
  obtain ⟨p45, q45, h45⟩ := pstep h45
  have B45 := bstep B44 h45
  clear h45 B44
  go_wp2_with fail
  refine (puts1_yes _ _ _ _ _ p45 q45).mono ?_
  rintro e X49 ⟨rfl, rfl⟩
  clear p45 q45
  go_wp2_with fail
  refine (puts_any _ _ _).mono ?_
  rintro e X50 ⟨rfl, rfl⟩
  go_wp2_with fail
  refine (k42 _).mono ?_
  rintro e W46 ⟨rfl, h46⟩
  obtain ⟨p46, q46, h46⟩ := pstep h46
  have B46 := bstep B45 h46
  clear h46 B45
  go_wp2_with fail
  refine (puts1_yes _ _ _ _ _ p46 q46).mono ?_
  rintro e X52 ⟨rfl, rfl⟩
  clear p46 q46
  go_wp2_with fail
  refine (puts_any _ _ _).mono ?_
  rintro e X53 ⟨rfl, rfl⟩
  go_wp2_with fail
  refine (k43 _).mono ?_
  rintro e W47 ⟨rfl, h47⟩
  obtain ⟨p47, q47, h47⟩ := pstep h47
  have B47 := bstep B46 h47
  clear h47 B46
  go_wp2_with fail
  refine (puts1_yes _ _ _ _ _ p47 q47).mono ?_
  rintro e X55 ⟨rfl, rfl⟩
  clear p47 q47
  go_wp2_with fail
  refine (puts_any _ _ _).mono ?_
  rintro e X56 ⟨rfl, rfl⟩
  go_wp2_with fail
  refine (k44 _).mono ?_
  rintro e W48 ⟨rfl, h48⟩
  obtain ⟨p48, q48, h48⟩ := pstep h48
  have B48 := bstep B47 h48
  clear h48 B47
  go_wp2_with fail
  refine (puts1_yes _ _ _ _ _ p48 q48).mono ?_
  rintro e X58 ⟨rfl, rfl⟩
  clear p48 q48
  go_wp2_with fail
  refine (puts_any _ _ _).mono ?_
  rintro e X59 ⟨rfl, rfl⟩
  go_wp2_with fail
  refine (k45 _).mono ?_
  rintro e W49 ⟨rfl, h49⟩
  obtain ⟨p49, q49, h49⟩ := pstep h49
  have B49 := bstep B48 h49
  clear h49 B48
  go_wp2_with fail
  refine (puts1_yes _ _ _ _ _ p49 q49).mono ?_
  rintro e X61 ⟨rfl, rfl⟩
  clear p49 q49
  go_wp2_with fail
  refine (puts_any _ _ _).mono ?_
  rintro e X62 ⟨rfl, rfl⟩
  go_wp2_with fail
  refine (k46 _).mono ?_
  rintro e W50 ⟨rfl, h50⟩
  obtain ⟨p50, q50, h50⟩ := pstep h50
  have B50 := bstep B49 h50
  clear h50 B49
  go_wp2_with fail
  refine (puts1_yes _ _ _ _ _ p50 q50).mono ?_
  rintro e X64 ⟨rfl, rfl⟩
  clear p50 q50
  go_wp2_with fail
  refine (puts_any _ _ _).mono ?_
  rintro e X65 ⟨rfl, rfl⟩
  go_wp2_with fail
  refine (k47 _).mono ?_
  rintro e W51 ⟨rfl, h51⟩
  obtain ⟨p51, q51, h51⟩ := pstep h51
  have B51 := bstep B50 h51
  clear h51 B50
  go_wp2_with fail
  refine (puts1_yes _ _ _ _ _ p51 q51).mono ?_
  rintro e X67 ⟨rfl, rfl⟩
  clear p51 q51
  go_wp2_with fail
  refine (puts_any _ _ _).mono ?_
  rintro e X68 ⟨rfl, rfl⟩
  go_wp2_with fail
  refine (k48 _).mono ?_
  rintro e W52 ⟨rfl, h52⟩
  obtain ⟨p52, q52, h52⟩ := pstep h52
  have B52 := bstep B51 h52
  clear h52 B51
  go_wp2_with fail
  refine (puts1_yes _ _ _ _ _ p52 q52).mono ?_
  rintro e X70 ⟨rfl, rfl⟩
  clear p52 q52
  go_wp2_with fail
  refine (puts_any _ _ _).mono ?_
  rintro e X71 ⟨rfl, rfl⟩
  go_wp2_with fail
  refine (k49 _ (HD.out.below (bstep2 B52))).mono ?_
  rintro e W53 ⟨rfl, h53⟩
  obtain ⟨p53, q53, h53⟩ := pstep h53
  have B53 := bstep B52 h53
  clear h53 B52
  go_wp2_with fail
  refine (puts1_yes _ _ _ _ _ p53 q53).mono ?_
  rintro e X73 ⟨rfl, rfl⟩
  clear p53 q53
  go_wp2_with fail
  refine (k50 _ (HD.out.below B53)).mono ?_
  rintro e W54 ⟨rfl, h54⟩
  have B54 := bstep B53 h54
  clear h54 B53
  go_wp2_with fail
  refine (puts_any _ _ _).mono ?_
  rintro e X75 ⟨rfl, rfl⟩
  go_wp2_with fail
  refine (k51 _ (HD.out.below (bstep2 B54))).mono ?_
  rintro e W55 ⟨rfl, h55⟩
  obtain ⟨p55, q55, h55⟩ := pstep h55
  have B55 := bstep B54 h55
  clear h55 B54
  go_wp2_with fail
  refine (puts1_yes _ _ _ _ _ p55 q55).mono ?_
  rintro e X77 ⟨rfl, rfl⟩
  clear p55 q55
  go_wp2_with fail
  refine (puts_any _ _ _).mono ?_
  rintro e X78 ⟨rfl, rfl⟩
  go_wp2_with fail
  refine (k52 _ (HD.out.below (bstep2 B55))).mono ?_
  rintro e W56 ⟨rfl, h56⟩
  obtain ⟨p56, q56, h56⟩ := pstep h56
  have B56 := bstep B55 h56
  clear h56 B55
  go_wp2_with fail
  refine (puts1_yes _ _ _ _ _ p56 q56).mono ?_
  rintro e X80 ⟨rfl, rfl⟩
  clear p56 q56
  go_wp2_with fail
  refine (puts_any _ _ _).mono ?_
  rintro e X81 ⟨rfl, rfl⟩
  go_wp2_with fail
  refine (k53 _ (HD.out.below (bstep2 B56))).mono ?_
  rintro e W57 ⟨rfl, h57⟩
  obtain ⟨p57, q57, h57⟩ := pstep h57
  have B57 := bstep B56 h57
  clear h57 B56
  go_wp2_with fail
  refine (puts1_yes _ _ _ _ _ p57 q57).mono ?_
  rintro e X83 ⟨rfl, rfl⟩
  clear p57 q57
  go_wp2_with fail
  refine (puts_any _ _ _).mono ?_
  rintro e X84 ⟨rfl, rfl⟩
  go_wp2_with fail
  refine (k54 _ (HD.out.below (bstep2 B57))).mono ?_
  rintro e W58 ⟨rfl, h58⟩
  obtain ⟨p58, q58, h58⟩ := pstep h58
  have B58 := bstep B57 h58
  clear h58 B57
  go_wp2_with fail
  refine (puts1_yes _ _ _ _ _ p58 q58).mono ?_
  rintro e X86 ⟨rfl, rfl⟩
  clear p58 q58
  go_wp2_with fail
  refine (works_true _ (HD.out.below B58)).mono ?_
  rintro e W59 ⟨rfl, h59⟩
  have B59 := bstep B58 h59
  clear h59 B58
  go_wp2_with fail
  refine (k55 _).mono ?_
  rintro e W60 ⟨rfl, rfl⟩
  go_wp2_with fail
  refine (k56 _).mono ?_
  rintro e W60 ⟨rfl, rfl⟩
  go_wp2_with fail
  refine (k57 _).mono ?_
  rintro e W60 ⟨rfl, rfl⟩
  go_wp2_with fail
  refine (k58 _).mono ?_
  rintro e W60 ⟨rfl, rfl⟩
  go_wp2_with fail
  refine (k59 _).mono ?_
  rintro e W60 ⟨rfl, rfl⟩
  go_wp2_with fail
  refine (k60 _).mono ?_
  rintro e W60 ⟨rfl, rfl⟩
  go_wp2_with fail
  refine (k61 _).mono ?_
  rintro e W60 ⟨rfl, rfl⟩
  go_wp2_with fail
  refine (k62 _).mono ?_
  rintro e W60 ⟨rfl, rfl⟩
  go_wp2_with fail
  refine (k63 _).mono ?_
  rintro e W60 ⟨rfl, rfl⟩
  go_wp2_with fail
  refine (k64 _).mono ?_
  rintro e W60 ⟨rfl, rfl⟩
  go_wp2_with fail
  refine (k65 _).mono ?_
  rintro e W60 ⟨rfl, rfl⟩
  go_wp2_with fail
  go_ret
  exact ⟨rfl, B59⟩
end Go.Proofs.YtebaagmbnbbflaaDoor
