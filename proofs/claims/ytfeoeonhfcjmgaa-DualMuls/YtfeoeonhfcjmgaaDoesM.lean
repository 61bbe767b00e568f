/- The contract of the reference's Does for products and sums of products (6, 7, 8), as DoesB and DoesC have it. -/
import Derived.Test.YtfeoeonhfcjmgaaMoved
namespace Go.Proofs.Ytfeoeonhfcjmgaa
open Go.RowKit
set_option linter.unusedVariables false
set_option maxHeartbeats 2000000
set_option maxRecDepth 100000

theorem refDoes_2 (a b c : Int) (a0 : -9223372036854775808 ≤ a) (a1 : a ≤ 9223372036854775807) (b0 : -9223372036854775808 ≤ b) (b1 : b ≤ 9223372036854775807) (w : World) :
    Calls Try.prog 31 #[.int .i64 2, .int .i64 a, .int .i64 b, .int .i64 c] w (Tells w (.tuple #[.int .i64 (c32 (c32 a + c32 b)), .bool (o32 (c32 a + c32 b))])) := by
  obtain ⟨xa0, xa1⟩ := c16_bd a
  obtain ⟨xb0, xb1⟩ := c16_bd b
  obtain ⟨pa0, pa1⟩ := c32_bd a
  obtain ⟨pb0, pb1⟩ := c32_bd b
  have h8 := P8_82
  go_enter Try.func31, Try.ntmps31
  go_wp2_with fail
  refine (refS_any a w a0 a1).mono ?_
  rintro e w1 ⟨rfl, g1⟩
  have G1 := hide g1
  clear g1
  go_wp2_with fail
  refine (whole_any (c16 a) w1 (by omega) (by omega)).mono ?_
  rintro e w2 ⟨bx, rfl, hbx, x2, g2⟩
  have G2 := hide (grown_none G1.out g2)
  clear g2 G1
  go_wp2_with fail
  refine (refS_any b w2 b0 b1).mono ?_
  rintro e w3 ⟨rfl, g3⟩
  have x3 := IsI_new x2 g3
  have G3 := hide (grown_none G2.out g3)
  clear g3 G2 x2
  go_wp2_with fail
  refine (whole_any (c16 b) w3 (by omega) (by omega)).mono ?_
  rintro e w4 ⟨by', rfl, hby, y4, g4⟩
  have x4 := IsI_new x3 g4
  have G4 := hide (grown_none G3.out g4)
  clear g4 G3 x3
  go_wp2_with fail
  refine (refL_any a w4 a0 a1).mono ?_
  rintro e w5 ⟨rfl, g5⟩
  have x5 := IsI_new x4 g5
  have y5 := IsI_new y4 g5
  have G5 := hide (grown_none G4.out g5)
  clear g5 G4 x4 y4
  go_wp2_with fail
  refine (whole_any (c32 a) w5 (by omega) (by omega)).mono ?_
  rintro e w6 ⟨bp, rfl, hbp, p6, g6⟩
  have x6 := IsI_new x5 g6
  have y6 := IsI_new y5 g6
  have G6 := hide (grown_none G5.out g6)
  clear g6 G5 x5 y5
  go_wp2_with fail
  refine (refL_any b w6 b0 b1).mono ?_
  rintro e w7 ⟨rfl, g7⟩
  have x7 := IsI_new x6 g7
  have y7 := IsI_new y6 g7
  have p7 := IsI_new p6 g7
  have G7 := hide (grown_none G6.out g7)
  clear g7 G6 x6 y6 p6
  go_wp2_with fail
  refine (whole_any (c32 b) w7 (by omega) (by omega)).mono ?_
  rintro e w8 ⟨bq, rfl, hbq, q8, g8⟩
  have ga := grown_alloc w8 int0 none
  have xi := IsI_new (IsI_new x7 g8) ga
  have yi := IsI_new (IsI_new y7 g8) ga
  have pi := IsI_new (IsI_new p7 g8) ga
  have qi := IsI_new q8 ga
  have GA := hide (grown_none (grown_none G7.out g8) ga)
  have hw8 : w.heap.size ≤ w8.heap.size := Nat.le_trans G7.out.size g8.size
  have xl := IsI_lt (IsI_new x7 g8)
  have yl := IsI_lt (IsI_new y7 g8)
  have pl := IsI_lt (IsI_new p7 g8)
  have ql := IsI_lt q8
  clear g8 G7 x7 y7 p7 q8 hbx hby hbp hbq ga
  have FIN := hide (show ∀ w', w.grownBy w' none → Tells w (.tuple #[.int .i64 (c32 (c32 a + c32 b)), .bool (o32 (c32 a + c32 b))]) (.returned (.tuple #[.int .i64 (c32 (c32 a + c32 b)), .bool (o32 (c32 a + c32 b))])) w' from fun w' h => ⟨rfl, h⟩)
  have M := hide (bigAdd_any w8.heap.size bp bq (c32 a) (c32 b) (w8.alloc int0) (struct_new w8) pi qi (by omega) (by omega))
  clear xi yi pi qi
  go_wp2_with fail
  refine M.out.mono ?_
  rintro e wm ⟨rfl, im, gm⟩
  have GM := hide (grown_own GA.out gm (by omega))
  clear M gm GA
  have C := hide (clip32_any w8.heap.size (c32 a + c32 b) wm im)
  have FN := hide (fun w' h => FIN.out w' (grown_none GM.out h))
  clear FIN GM im
  go_wp2_with fail
  refine C.out.mono ?_
  rintro e wc ⟨rfl, gc⟩
  have F := hide (FN.out wc gc)
  clear C FN gc
  go_wp2_with fail
  go_ret2
  exact F.out

theorem refDoes_6 (a b c : Int) (a0 : -9223372036854775808 ≤ a) (a1 : a ≤ 9223372036854775807) (b0 : -9223372036854775808 ≤ b) (b1 : b ≤ 9223372036854775807) (w : World) :
    Calls Try.prog 31 #[.int .i64 6, .int .i64 a, .int .i64 b, .int .i64 c] w (Tells w (.tuple #[.int .i64 (c16 (c16 a * c16 b / 32768)), .bool (o16 (c16 a * c16 b / 32768))])) := by
  obtain ⟨xa0, xa1⟩ := c16_bd a
  obtain ⟨xb0, xb1⟩ := c16_bd b
  obtain ⟨pa0, pa1⟩ := c32_bd a
  obtain ⟨pb0, pb1⟩ := c32_bd b
  have h8 := P8_82
  go_enter Try.func31, Try.ntmps31
  go_wp2_with fail
  refine (refS_any a w a0 a1).mono ?_
  rintro e w1 ⟨rfl, g1⟩
  have G1 := hide g1
  clear g1
  go_wp2_with fail
  refine (whole_any (c16 a) w1 (by omega) (by omega)).mono ?_
  rintro e w2 ⟨bx, rfl, hbx, x2, g2⟩
  have G2 := hide (grown_none G1.out g2)
  clear g2 G1
  go_wp2_with fail
  refine (refS_any b w2 b0 b1).mono ?_
  rintro e w3 ⟨rfl, g3⟩
  have x3 := IsI_new x2 g3
  have G3 := hide (grown_none G2.out g3)
  clear g3 G2 x2
  go_wp2_with fail
  refine (whole_any (c16 b) w3 (by omega) (by omega)).mono ?_
  rintro e w4 ⟨by', rfl, hby, y4, g4⟩
  have x4 := IsI_new x3 g4
  have G4 := hide (grown_none G3.out g4)
  clear g4 G3 x3
  go_wp2_with fail
  refine (refL_any a w4 a0 a1).mono ?_
  rintro e w5 ⟨rfl, g5⟩
  have x5 := IsI_new x4 g5
  have y5 := IsI_new y4 g5
  have G5 := hide (grown_none G4.out g5)
  clear g5 G4 x4 y4
  go_wp2_with fail
  refine (whole_any (c32 a) w5 (by omega) (by omega)).mono ?_
  rintro e w6 ⟨bp, rfl, hbp, p6, g6⟩
  have x6 := IsI_new x5 g6
  have y6 := IsI_new y5 g6
  have G6 := hide (grown_none G5.out g6)
  clear g6 G5 x5 y5
  go_wp2_with fail
  refine (refL_any b w6 b0 b1).mono ?_
  rintro e w7 ⟨rfl, g7⟩
  have x7 := IsI_new x6 g7
  have y7 := IsI_new y6 g7
  have p7 := IsI_new p6 g7
  have G7 := hide (grown_none G6.out g7)
  clear g7 G6 x6 y6 p6
  go_wp2_with fail
  refine (whole_any (c32 b) w7 (by omega) (by omega)).mono ?_
  rintro e w8 ⟨bq, rfl, hbq, q8, g8⟩
  have ga := grown_alloc w8 int0 none
  have xi := IsI_new (IsI_new x7 g8) ga
  have yi := IsI_new (IsI_new y7 g8) ga
  have pi := IsI_new (IsI_new p7 g8) ga
  have qi := IsI_new q8 ga
  have GA := hide (grown_none (grown_none G7.out g8) ga)
  have hw8 : w.heap.size ≤ w8.heap.size := Nat.le_trans G7.out.size g8.size
  have xl := IsI_lt (IsI_new x7 g8)
  have yl := IsI_lt (IsI_new y7 g8)
  have pl := IsI_lt (IsI_new p7 g8)
  have ql := IsI_lt q8
  clear g8 G7 x7 y7 p7 q8 hbx hby hbp hbq ga
  have FIN := hide (show ∀ w', w.grownBy w' none → Tells w (.tuple #[.int .i64 (c16 (c16 a * c16 b / 32768)), .bool (o16 (c16 a * c16 b / 32768))]) (.returned (.tuple #[.int .i64 (c16 (c16 a * c16 b / 32768)), .bool (o16 (c16 a * c16 b / 32768))])) w' from fun w' h => ⟨rfl, h⟩)
  obtain ⟨mb0, mb1⟩ := mul16_bd (c16 a) (c16 b) xa0 xa1 xb0 xb1
  have M := hide (bigMul_any w8.heap.size bx by' (c16 a) (c16 b) (w8.alloc int0) (struct_new w8) xi yi (by omega) (by omega))
  clear xi yi pi qi
  go_wp2_with fail
  refine M.out.mono ?_
  rintro e wm ⟨rfl, im, gm⟩
  have GM := hide (grown_own GA.out gm (by omega))
  clear M gm GA
  go_wp2_with fail
  refine (newInt_any 32768 _ (by omega) (by omega)).mono ?_
  rintro e wn ⟨bn, rfl, hbn, jn, gn⟩
  have kn := IsI_new im gn
  have GN := hide (grown_none GM.out gn)
  have M2 := hide (bigDiv_any w8.heap.size w8.heap.size bn (c16 a * c16 b) 32768 wn (IsI_struct kn) kn jn (by omega) (by omega) (by omega) (by omega))
  clear im gn GM hbn
  go_wp2_with fail
  refine M2.out.mono ?_
  rintro e wo ⟨rfl, io, go⟩
  have GO := hide (grown_own GN.out go (by omega))
  clear M2 kn jn go GN
  have C := hide (clip16_any w8.heap.size (c16 a * c16 b / 32768) wo io)
  have FN := hide (fun w' h => FIN.out w' (grown_none GO.out h))
  clear FIN GO io
  go_wp2_with fail
  refine C.out.mono ?_
  rintro e wc ⟨rfl, gc⟩
  have F := hide (FN.out wc gc)
  clear C FN gc
  go_wp2_with fail
  go_ret2
  exact F.out

theorem refDoes_7 (a b c : Int) (a0 : -9223372036854775808 ≤ a) (a1 : a ≤ 9223372036854775807) (b0 : -9223372036854775808 ≤ b) (b1 : b ≤ 9223372036854775807) (w : World) :
    Calls Try.prog 31 #[.int .i64 7, .int .i64 a, .int .i64 b, .int .i64 c] w (Tells w (.tuple #[.int .i64 (c32 (c16 a * c16 b * 2)), .bool (o32 (c16 a * c16 b * 2))])) := by
  obtain ⟨xa0, xa1⟩ := c16_bd a
  obtain ⟨xb0, xb1⟩ := c16_bd b
  obtain ⟨pa0, pa1⟩ := c32_bd a
  obtain ⟨pb0, pb1⟩ := c32_bd b
  have h8 := P8_82
  go_enter Try.func31, Try.ntmps31
  go_wp2_with fail
  refine (refS_any a w a0 a1).mono ?_
  rintro e w1 ⟨rfl, g1⟩
  have G1 := hide g1
  clear g1
  go_wp2_with fail
  refine (whole_any (c16 a) w1 (by omega) (by omega)).mono ?_
  rintro e w2 ⟨bx, rfl, hbx, x2, g2⟩
  have G2 := hide (grown_none G1.out g2)
  clear g2 G1
  go_wp2_with fail
  refine (refS_any b w2 b0 b1).mono ?_
  rintro e w3 ⟨rfl, g3⟩
  have x3 := IsI_new x2 g3
  have G3 := hide (grown_none G2.out g3)
  clear g3 G2 x2
  go_wp2_with fail
  refine (whole_any (c16 b) w3 (by omega) (by omega)).mono ?_
  rintro e w4 ⟨by', rfl, hby, y4, g4⟩
  have x4 := IsI_new x3 g4
  have G4 := hide (grown_none G3.out g4)
  clear g4 G3 x3
  go_wp2_with fail
  refine (refL_any a w4 a0 a1).mono ?_
  rintro e w5 ⟨rfl, g5⟩
  have x5 := IsI_new x4 g5
  have y5 := IsI_new y4 g5
  have G5 := hide (grown_none G4.out g5)
  clear g5 G4 x4 y4
  go_wp2_with fail
  refine (whole_any (c32 a) w5 (by omega) (by omega)).mono ?_
  rintro e w6 ⟨bp, rfl, hbp, p6, g6⟩
  have x6 := IsI_new x5 g6
  have y6 := IsI_new y5 g6
  have G6 := hide (grown_none G5.out g6)
  clear g6 G5 x5 y5
  go_wp2_with fail
  refine (refL_any b w6 b0 b1).mono ?_
  rintro e w7 ⟨rfl, g7⟩
  have x7 := IsI_new x6 g7
  have y7 := IsI_new y6 g7
  have p7 := IsI_new p6 g7
  have G7 := hide (grown_none G6.out g7)
  clear g7 G6 x6 y6 p6
  go_wp2_with fail
  refine (whole_any (c32 b) w7 (by omega) (by omega)).mono ?_
  rintro e w8 ⟨bq, rfl, hbq, q8, g8⟩
  have ga := grown_alloc w8 int0 none
  have xi := IsI_new (IsI_new x7 g8) ga
  have yi := IsI_new (IsI_new y7 g8) ga
  have pi := IsI_new (IsI_new p7 g8) ga
  have qi := IsI_new q8 ga
  have GA := hide (grown_none (grown_none G7.out g8) ga)
  have hw8 : w.heap.size ≤ w8.heap.size := Nat.le_trans G7.out.size g8.size
  have xl := IsI_lt (IsI_new x7 g8)
  have yl := IsI_lt (IsI_new y7 g8)
  have pl := IsI_lt (IsI_new p7 g8)
  have ql := IsI_lt q8
  clear g8 G7 x7 y7 p7 q8 hbx hby hbp hbq ga
  have FIN := hide (show ∀ w', w.grownBy w' none → Tells w (.tuple #[.int .i64 (c32 (c16 a * c16 b * 2)), .bool (o32 (c16 a * c16 b * 2))]) (.returned (.tuple #[.int .i64 (c32 (c16 a * c16 b * 2)), .bool (o32 (c16 a * c16 b * 2))])) w' from fun w' h => ⟨rfl, h⟩)
  obtain ⟨mb0, mb1⟩ := mul16_bd (c16 a) (c16 b) xa0 xa1 xb0 xb1
  have M := hide (bigMul_any w8.heap.size bx by' (c16 a) (c16 b) (w8.alloc int0) (struct_new w8) xi yi (by omega) (by omega))
  clear xi yi pi qi
  go_wp2_with fail
  refine M.out.mono ?_
  rintro e wm ⟨rfl, im, gm⟩
  have GM := hide (grown_own GA.out gm (by omega))
  clear M gm GA
  go_wp2_with fail
  refine (newInt_any 2 _ (by omega) (by omega)).mono ?_
  rintro e wn ⟨bn, rfl, hbn, jn, gn⟩
  have kn := IsI_new im gn
  have GN := hide (grown_none GM.out gn)
  have M2 := hide (bigMul_any w8.heap.size w8.heap.size bn (c16 a * c16 b) 2 wn (IsI_struct kn) kn jn (by omega) (by omega))
  clear im gn GM hbn
  go_wp2_with fail
  refine M2.out.mono ?_
  rintro e wo ⟨rfl, io, go⟩
  have GO := hide (grown_own GN.out go (by omega))
  clear M2 kn jn go GN
  have C := hide (clip32_any w8.heap.size (c16 a * c16 b * 2) wo io)
  have FN := hide (fun w' h => FIN.out w' (grown_none GO.out h))
  clear FIN GO io
  go_wp2_with fail
  refine C.out.mono ?_
  rintro e wc ⟨rfl, gc⟩
  have F := hide (FN.out wc gc)
  clear C FN gc
  go_wp2_with fail
  go_ret2
  exact F.out

theorem refDoes_8 (a b c : Int) (a0 : -9223372036854775808 ≤ a) (a1 : a ≤ 9223372036854775807) (b0 : -9223372036854775808 ≤ b) (b1 : b ≤ 9223372036854775807) (c0 : -9223372036854775808 ≤ c) (c1 : c ≤ 9223372036854775807) (w : World) :
    Calls Try.prog 31 #[.int .i64 8, .int .i64 a, .int .i64 b, .int .i64 c] w (Tells w (.tuple #[.int .i64 (c32 (c32 a + c32 (c32 (c16 b * c16 c * 2)))), .bool (o32 (c16 b * c16 c * 2) || o32 (c32 a + c32 (c32 (c16 b * c16 c * 2))))])) := by
  have FIN := hide (show ∀ w', w.grownBy w' none → Tells w (.tuple #[.int .i64 (c32 (c32 a + c32 (c32 (c16 b * c16 c * 2)))), .bool (o32 (c16 b * c16 c * 2) || o32 (c32 a + c32 (c32 (c16 b * c16 c * 2))))]) (.returned (.tuple #[.int .i64 (c32 (c32 a + c32 (c32 (c16 b * c16 c * 2)))), .bool (o32 (c16 b * c16 c * 2) || o32 (c32 a + c32 (c32 (c16 b * c16 c * 2))))])) w' from fun w' h => ⟨rfl, h⟩)
  obtain ⟨xa0, xa1⟩ := c16_bd a
  obtain ⟨xb0, xb1⟩ := c16_bd b
  obtain ⟨pa0, pa1⟩ := c32_bd a
  obtain ⟨pb0, pb1⟩ := c32_bd b
  have h8 := P8_82
  go_enter Try.func31, Try.ntmps31
  go_wp2_with fail
  refine (refS_any a w a0 a1).mono ?_
  rintro e w1 ⟨rfl, g1⟩
  have G1 := hide g1
  clear g1
  go_wp2_with fail
  refine (whole_any (c16 a) w1 (by omega) (by omega)).mono ?_
  rintro e w2 ⟨bx, rfl, hbx, x2, g2⟩
  have G2 := hide (grown_none G1.out g2)
  clear g2 G1
  go_wp2_with fail
  refine (refS_any b w2 b0 b1).mono ?_
  rintro e w3 ⟨rfl, g3⟩
  have x3 := IsI_new x2 g3
  have G3 := hide (grown_none G2.out g3)
  clear g3 G2 x2
  go_wp2_with fail
  refine (whole_any (c16 b) w3 (by omega) (by omega)).mono ?_
  rintro e w4 ⟨by', rfl, hby, y4, g4⟩
  have x4 := IsI_new x3 g4
  have G4 := hide (grown_none G3.out g4)
  clear g4 G3 x3
  go_wp2_with fail
  refine (refL_any a w4 a0 a1).mono ?_
  rintro e w5 ⟨rfl, g5⟩
  have x5 := IsI_new x4 g5
  have y5 := IsI_new y4 g5
  have G5 := hide (grown_none G4.out g5)
  clear g5 G4 x4 y4
  go_wp2_with fail
  refine (whole_any (c32 a) w5 (by omega) (by omega)).mono ?_
  rintro e w6 ⟨bp, rfl, hbp, p6, g6⟩
  have x6 := IsI_new x5 g6
  have y6 := IsI_new y5 g6
  have G6 := hide (grown_none G5.out g6)
  clear g6 G5 x5 y5
  go_wp2_with fail
  refine (refL_any b w6 b0 b1).mono ?_
  rintro e w7 ⟨rfl, g7⟩
  have x7 := IsI_new x6 g7
  have y7 := IsI_new y6 g7
  have p7 := IsI_new p6 g7
  have G7 := hide (grown_none G6.out g7)
  clear g7 G6 x6 y6 p6
  go_wp2_with fail
  refine (whole_any (c32 b) w7 (by omega) (by omega)).mono ?_
  rintro e w8 ⟨bq, rfl, hbq, q8, g8⟩
  have ga := grown_alloc w8 int0 none
  have xi := IsI_new (IsI_new x7 g8) ga
  have yi := IsI_new (IsI_new y7 g8) ga
  have pi := IsI_new (IsI_new p7 g8) ga
  have qi := IsI_new q8 ga
  have GA := hide (grown_none (grown_none G7.out g8) ga)
  have hw8 : w.heap.size ≤ w8.heap.size := Nat.le_trans G7.out.size g8.size
  have xl := IsI_lt (IsI_new x7 g8)
  have yl := IsI_lt (IsI_new y7 g8)
  have pl := IsI_lt (IsI_new p7 g8)
  have ql := IsI_lt q8
  clear g8 G7 x7 y7 p7 q8 hbx hby hbp hbq ga
  obtain ⟨m0, m1⟩ := c32_bd (c16 b * c16 c * 2)
  clear xi yi pi qi
  go_wp2_with fail
  refine (refDoes_7 b c 0 b0 b1 c0 c1 _).mono ?_
  rintro e wm ⟨rfl, gm⟩
  have GM := hide (grown_none GA.out gm)
  clear gm GA
  go_wp2_with fail
  refine (refDoes_2 a (c32 (c16 b * c16 c * 2)) 0 a0 a1 (by omega) (by omega) _).mono ?_
  rintro e wn ⟨rfl, gn⟩
  have F := hide (FIN.out wn (grown_none GM.out gn))
  clear gn GM FIN
  cases ho : o32 (c16 b * c16 c * 2)
  · go_wp2_with fail
    go_ret2
    exact ⟨by rw [ho]; rfl, F.out.2⟩
  · go_wp2_with fail
    go_ret2
    exact ⟨by rw [ho]; rfl, F.out.2⟩
end Go.Proofs.Ytfeoeonhfcjmgaa
