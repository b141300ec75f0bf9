/- The searches over people in numbers: what a state is worth, by tables. -/
import Derived.Test.YtnpiciabpgkiiadFracP
namespace Go.Proofs.Ytnpiciabpgkiiad
set_option linter.unusedVariables false
def grt (x y : Int × Int) : Int × Int := if x.1 * y.2 < y.1 * x.2 then y else x
/-- What is had at once: kind 1 wants the best one, kind 2 a low rank. -/
def qEnd (k n c r : Nat) : Int × Int :=
  if k = 1 then (if r = 1 then (cutN c n, cutD c n) else (0, 1))
  else (if c = 0 then (-1000000000, 1) else (cutN (-(r : Int) * (n + 1)) (c + 1), cutD (-(r : Int) * (n + 1)) (c + 1)))
structure QTab where
  M : List (List (Int × Int))
  S : List (List (List (Int × Int)))
def QTab.m (T : QTab) (n c : Nat) : Int × Int := (T.M.getD n []).getD c (0, 1)
def QTab.s (T : QTab) (n c i : Nat) : Int × Int := ((T.S.getD n []).getD c []).getD i (0, 1)
def QTab.v (T : QTab) (k n c r : Nat) : Int × Int := if c = n then qEnd k n c r else grt (qEnd k n c r) (T.m n c)
def qStep (s m : Int × Int) : Int × Int := (cutN (s.1 * m.2 + 1 * m.1 * s.2) (s.2 * m.2), cutD (s.1 * m.2 + 1 * m.1 * s.2) (s.2 * m.2))
/-- The tables of one number of people keep the equations, and all in them are fractions. -/
structure QOk (T : QTab) (k n : Nat) : Prop where
  s0 : ∀ c, c < n → T.s n c 0 = (0, 1)
  ss : ∀ c, c < n → ∀ i, i < c + 1 → T.s n c (i + 1) = qStep (T.s n c i) (T.v k n (c + 1) (i + 1))
  mm : ∀ c, c < n → T.m n c = (cutN (T.s n c (c + 1)).1 ((T.s n c (c + 1)).2 * (c + 1)), cutD (T.s n c (c + 1)).1 ((T.s n c (c + 1)).2 * (c + 1)))
  fs : ∀ c, c < n → ∀ i, i < c + 2 → isFr (T.s n c i).1 (T.s n c i).2 = true
  fm : ∀ c, c < n → isFr (T.m n c).1 (T.m n c).2 = true
  fe : ∀ c, c < n + 1 → ∀ r, r < c + 1 → isFr (qEnd k n c r).1 (qEnd k n c r).2 = true
theorem grt_fr {x y : Int × Int} (h : isFr x.1 x.2 = true) (h' : isFr y.1 y.2 = true) : isFr (grt x y).1 (grt x y).2 = true := by
  unfold grt; split <;> assumption
theorem QOk.fv {T : QTab} {k n c r : Nat} (h : QOk T k n) (hc : c < n + 1) (hr : r < c + 1) : isFr (T.v k n c r).1 (T.v k n c r).2 = true := by
  unfold QTab.v
  split
  · exact h.fe c hc r hr
  · exact grt_fr (h.fe c hc r hr) (h.fm c (by omega))
def qT1 : QTab := { M := [[],
  [(1, 1)],
  [(1, 2), (1, 2)],
  [(1, 2), (1, 2), (1, 3)],
  [(11, 24), (11, 24), (5, 12), (1, 4)],
  [(13, 30), (13, 30), (13, 30), (7, 20), (1, 5)],
  [(77, 180), (77, 180), (77, 180), (47, 120), (3, 10), (1, 6)],
  [(29, 70), (29, 70), (29, 70), (57, 140), (37, 105), (11, 42), (1, 7)],
  [(459, 1120), (459, 1120), (459, 1120), (459, 1120), (319, 840), (107, 336), (13, 56), (1, 8)],
  [(341, 840), (341, 840), (341, 840), (341, 840), (743, 1890), (533, 1512), (73, 252), (5, 24), (1, 9)],
  [(3349, 8400), (3349, 8400), (3349, 8400), (3349, 8400), (2509, 6300), (1879, 5040), (55, 168), (191, 720), (17, 90), (1, 10)]], S := [[],
  [[(0, 1), (1, 1)]],
  [[(0, 1), (1, 2)], [(0, 1), (1, 1), (1, 1)]],
  [[(0, 1), (1, 2)], [(0, 1), (2, 3), (1, 1)], [(0, 1), (1, 1), (1, 1), (1, 1)]],
  [[(0, 1), (11, 24)], [(0, 1), (1, 2), (11, 12)], [(0, 1), (3, 4), (1, 1), (5, 4)], [(0, 1), (1, 1), (1, 1), (1, 1), (1, 1)]],
  [[(0, 1), (13, 30)], [(0, 1), (13, 30), (13, 15)], [(0, 1), (3, 5), (19, 20), (13, 10)], [(0, 1), (4, 5), (1, 1), (6, 5), (7, 5)], [(0, 1), (1, 1), (1, 1), (1, 1), (1, 1), (1, 1)]],
  [[(0, 1), (77, 180)], [(0, 1), (77, 180), (77, 90)], [(0, 1), (1, 2), (107, 120), (77, 60)], [(0, 1), (2, 3), (29, 30), (19, 15), (47, 30)], [(0, 1), (5, 6), (1, 1), (7, 6), (4, 3), (3, 2)], [(0, 1), (1, 1), (1, 1), (1, 1), (1, 1), (1, 1), (1, 1)]],
  [[(0, 1), (29, 70)], [(0, 1), (29, 70), (29, 35)], [(0, 1), (3, 7), (117, 140), (87, 70)], [(0, 1), (4, 7), (97, 105), (134, 105), (57, 35)], [(0, 1), (5, 7), (41, 42), (26, 21), (3, 2), (37, 21)], [(0, 1), (6, 7), (1, 1), (8, 7), (9, 7), (10, 7), (11, 7)], [(0, 1), (1, 1), (1, 1), (1, 1), (1, 1), (1, 1), (1, 1), (1, 1)]],
  [[(0, 1), (459, 1120)], [(0, 1), (459, 1120), (459, 560)], [(0, 1), (459, 1120), (459, 560), (1377, 1120)], [(0, 1), (1, 2), (739, 840), (529, 420), (459, 280)], [(0, 1), (5, 8), (317, 336), (53, 42), (177, 112), (319, 168)], [(0, 1), (3, 4), (55, 56), (17, 14), (81, 56), (47, 28), (107, 56)], [(0, 1), (7, 8), (1, 1), (9, 8), (5, 4), (11, 8), (3, 2), (13, 8)], [(0, 1), (1, 1), (1, 1), (1, 1), (1, 1), (1, 1), (1, 1), (1, 1), (1, 1)]],
  [[(0, 1), (341, 840)], [(0, 1), (341, 840), (341, 420)], [(0, 1), (341, 840), (341, 420), (341, 280)], [(0, 1), (4, 9), (1583, 1890), (1163, 945), (341, 210)], [(0, 1), (5, 9), (1373, 1512), (953, 756), (271, 168), (743, 378)], [(0, 1), (2, 3), (241, 252), (157, 126), (43, 28), (115, 63), (533, 252)], [(0, 1), (7, 9), (71, 72), (43, 36), (101, 72), (29, 18), (131, 72), (73, 36)], [(0, 1), (8, 9), (1, 1), (10, 9), (11, 9), (4, 3), (13, 9), (14, 9), (5, 3)], [(0, 1), (1, 1), (1, 1), (1, 1), (1, 1), (1, 1), (1, 1), (1, 1), (1, 1), (1, 1)]],
  [[(0, 1), (3349, 8400)], [(0, 1), (3349, 8400), (3349, 4200)], [(0, 1), (3349, 8400), (3349, 4200), (3349, 2800)], [(0, 1), (2, 5), (5029, 6300), (3769, 3150), (3349, 2100)], [(0, 1), (1, 2), (4399, 5040), (3139, 2520), (2719, 1680), (2509, 1260)], [(0, 1), (3, 5), (779, 840), (527, 420), (443, 280), (401, 210), (1879, 840)], [(0, 1), (7, 10), (139, 144), (443, 360), (359, 240), (317, 180), (1459, 720), (55, 24)], [(0, 1), (4, 5), (89, 90), (53, 45), (41, 30), (14, 9), (157, 90), (29, 15), (191, 90)], [(0, 1), (9, 10), (1, 1), (11, 10), (6, 5), (13, 10), (7, 5), (3, 2), (8, 5), (17, 10)], [(0, 1), (1, 1), (1, 1), (1, 1), (1, 1), (1, 1), (1, 1), (1, 1), (1, 1), (1, 1), (1, 1)]]] }
theorem q1Ok1 : QOk qT1 1 1 where
  s0 := by decide +kernel
  ss := by decide +kernel
  mm := by decide +kernel
  fs := by decide +kernel
  fm := by decide +kernel
  fe := by decide +kernel
theorem q1Ok2 : QOk qT1 1 2 where
  s0 := by decide +kernel
  ss := by decide +kernel
  mm := by decide +kernel
  fs := by decide +kernel
  fm := by decide +kernel
  fe := by decide +kernel
theorem q1Ok3 : QOk qT1 1 3 where
  s0 := by decide +kernel
  ss := by decide +kernel
  mm := by decide +kernel
  fs := by decide +kernel
  fm := by decide +kernel
  fe := by decide +kernel
theorem q1Ok4 : QOk qT1 1 4 where
  s0 := by decide +kernel
  ss := by decide +kernel
  mm := by decide +kernel
  fs := by decide +kernel
  fm := by decide +kernel
  fe := by decide +kernel
theorem q1Ok5 : QOk qT1 1 5 where
  s0 := by decide +kernel
  ss := by decide +kernel
  mm := by decide +kernel
  fs := by decide +kernel
  fm := by decide +kernel
  fe := by decide +kernel
theorem q1Ok6 : QOk qT1 1 6 where
  s0 := by decide +kernel
  ss := by decide +kernel
  mm := by decide +kernel
  fs := by decide +kernel
  fm := by decide +kernel
  fe := by decide +kernel
theorem q1Ok7 : QOk qT1 1 7 where
  s0 := by decide +kernel
  ss := by decide +kernel
  mm := by decide +kernel
  fs := by decide +kernel
  fm := by decide +kernel
  fe := by decide +kernel
theorem q1Ok8 : QOk qT1 1 8 where
  s0 := by decide +kernel
  ss := by decide +kernel
  mm := by decide +kernel
  fs := by decide +kernel
  fm := by decide +kernel
  fe := by decide +kernel
theorem q1Ok9 : QOk qT1 1 9 where
  s0 := by decide +kernel
  ss := by decide +kernel
  mm := by decide +kernel
  fs := by decide +kernel
  fm := by decide +kernel
  fe := by decide +kernel
theorem q1Ok10 : QOk qT1 1 10 where
  s0 := by decide +kernel
  ss := by decide +kernel
  mm := by decide +kernel
  fs := by decide +kernel
  fm := by decide +kernel
  fe := by decide +kernel
theorem q1Ok {n : Nat} (h1 : 1 ≤ n) (h2 : n ≤ 10) : QOk qT1 1 n := by
  rcases (show n = 1 ∨ n = 2 ∨ n = 3 ∨ n = 4 ∨ n = 5 ∨ n = 6 ∨ n = 7 ∨ n = 8 ∨ n = 9 ∨ n = 10 by omega) with rfl | rfl | rfl | rfl | rfl | rfl | rfl | rfl | rfl | rfl
  · exact q1Ok1
  · exact q1Ok2
  · exact q1Ok3
  · exact q1Ok4
  · exact q1Ok5
  · exact q1Ok6
  · exact q1Ok7
  · exact q1Ok8
  · exact q1Ok9
  · exact q1Ok10
def qT2 : QTab := { M := [[],
  [(-1, 1)],
  [(-3, 2), (-3, 2)],
  [(-5, 3), (-5, 3), (-2, 1)],
  [(-15, 8), (-15, 8), (-25, 12), (-5, 2)],
  [(-41, 20), (-41, 20), (-21, 10), (-12, 5), (-3, 1)],
  [(-133, 60), (-133, 60), (-133, 60), (-49, 20), (-14, 5), (-7, 2)],
  [(-239, 105), (-239, 105), (-239, 105), (-169, 70), (-94, 35), (-22, 7), (-4, 1)],
  [(-12, 5), (-12, 5), (-12, 5), (-99, 40), (-27, 10), (-3, 1), (-99, 28), (-9, 2)],
  [(-629, 252), (-629, 252), (-629, 252), (-629, 252), (-503, 189), (-550, 189), (-415, 126), (-35, 9), (-5, 1)],
  [(-3223, 1260), (-3223, 1260), (-3223, 1260), (-3223, 1260), (-506, 189), (-4367, 1512), (-3179, 1008), (-517, 144), (-77, 18), (-11, 2)]], S := [[],
  [[(0, 1), (-1, 1)]],
  [[(0, 1), (-3, 2)], [(0, 1), (-1, 1), (-3, 1)]],
  [[(0, 1), (-5, 3)], [(0, 1), (-4, 3), (-10, 3)], [(0, 1), (-1, 1), (-3, 1), (-6, 1)]],
  [[(0, 1), (-15, 8)], [(0, 1), (-5, 3), (-15, 4)], [(0, 1), (-5, 4), (-15, 4), (-25, 4)], [(0, 1), (-1, 1), (-3, 1), (-6, 1), (-10, 1)]],
  [[(0, 1), (-41, 20)], [(0, 1), (-2, 1), (-41, 10)], [(0, 1), (-3, 2), (-39, 10), (-63, 10)], [(0, 1), (-6, 5), (-18, 5), (-33, 5), (-48, 5)], [(0, 1), (-1, 1), (-3, 1), (-6, 1), (-10, 1), (-15, 1)]],
  [[(0, 1), (-133, 60)], [(0, 1), (-133, 60), (-133, 30)], [(0, 1), (-7, 4), (-21, 5), (-133, 20)], [(0, 1), (-7, 5), (-21, 5), (-7, 1), (-49, 5)], [(0, 1), (-7, 6), (-7, 2), (-7, 1), (-21, 2), (-14, 1)], [(0, 1), (-1, 1), (-3, 1), (-6, 1), (-10, 1), (-15, 1), (-21, 1)]],
  [[(0, 1), (-239, 105)], [(0, 1), (-239, 105), (-478, 105)], [(0, 1), (-2, 1), (-309, 70), (-239, 35)], [(0, 1), (-8, 5), (-30, 7), (-244, 35), (-338, 35)], [(0, 1), (-4, 3), (-4, 1), (-50, 7), (-72, 7), (-94, 7)], [(0, 1), (-8, 7), (-24, 7), (-48, 7), (-76, 7), (-104, 7), (-132, 7)], [(0, 1), (-1, 1), (-3, 1), (-6, 1), (-10, 1), (-15, 1), (-21, 1), (-28, 1)]],
  [[(0, 1), (-12, 5)], [(0, 1), (-12, 5), (-24, 5)], [(0, 1), (-9, 4), (-189, 40), (-36, 5)], [(0, 1), (-9, 5), (-9, 2), (-36, 5), (-99, 10)], [(0, 1), (-3, 2), (-9, 2), (-15, 2), (-21, 2), (-27, 2)], [(0, 1), (-9, 7), (-27, 7), (-207, 28), (-153, 14), (-405, 28), (-18, 1)], [(0, 1), (-9, 8), (-27, 8), (-27, 4), (-45, 4), (-63, 4), (-81, 4), (-99, 4)], [(0, 1), (-1, 1), (-3, 1), (-6, 1), (-10, 1), (-15, 1), (-21, 1), (-28, 1), (-36, 1)]],
  [[(0, 1), (-629, 252)], [(0, 1), (-629, 252), (-629, 126)], [(0, 1), (-629, 252), (-629, 126), (-629, 84)], [(0, 1), (-2, 1), (-881, 189), (-1384, 189), (-629, 63)], [(0, 1), (-5, 3), (-865, 189), (-1415, 189), (-655, 63), (-2515, 189)], [(0, 1), (-10, 7), (-30, 7), (-955, 126), (-685, 63), (-85, 6), (-1100, 63)], [(0, 1), (-5, 4), (-15, 4), (-15, 2), (-205, 18), (-275, 18), (-115, 6), (-415, 18)], [(0, 1), (-10, 9), (-10, 3), (-20, 3), (-100, 9), (-145, 9), (-190, 9), (-235, 9), (-280, 9)], [(0, 1), (-1, 1), (-3, 1), (-6, 1), (-10, 1), (-15, 1), (-21, 1), (-28, 1), (-36, 1), (-45, 1)]],
  [[(0, 1), (-3223, 1260)], [(0, 1), (-3223, 1260), (-3223, 630)], [(0, 1), (-3223, 1260), (-3223, 630), (-3223, 420)], [(0, 1), (-11, 5), (-4609, 945), (-7139, 945), (-3223, 315)], [(0, 1), (-11, 6), (-7139, 1512), (-5753, 756), (-5291, 504), (-2530, 189)], [(0, 1), (-11, 7), (-33, 7), (-1133, 144), (-5555, 504), (-4763, 336), (-4367, 252)], [(0, 1), (-11, 8), (-33, 8), (-1111, 144), (-407, 36), (-715, 48), (-1331, 72), (-3179, 144)], [(0, 1), (-11, 9), (-11, 3), (-22, 3), (-209, 18), (-143, 9), (-121, 6), (-220, 9), (-517, 18)], [(0, 1), (-11, 10), (-33, 10), (-33, 5), (-11, 1), (-33, 2), (-22, 1), (-55, 2), (-33, 1), (-77, 2)], [(0, 1), (-1, 1), (-3, 1), (-6, 1), (-10, 1), (-15, 1), (-21, 1), (-28, 1), (-36, 1), (-45, 1), (-55, 1)]]] }
theorem q2Ok1 : QOk qT2 2 1 where
  s0 := by decide +kernel
  ss := by decide +kernel
  mm := by decide +kernel
  fs := by decide +kernel
  fm := by decide +kernel
  fe := by decide +kernel
theorem q2Ok2 : QOk qT2 2 2 where
  s0 := by decide +kernel
  ss := by decide +kernel
  mm := by decide +kernel
  fs := by decide +kernel
  fm := by decide +kernel
  fe := by decide +kernel
theorem q2Ok3 : QOk qT2 2 3 where
  s0 := by decide +kernel
  ss := by decide +kernel
  mm := by decide +kernel
  fs := by decide +kernel
  fm := by decide +kernel
  fe := by decide +kernel
theorem q2Ok4 : QOk qT2 2 4 where
  s0 := by decide +kernel
  ss := by decide +kernel
  mm := by decide +kernel
  fs := by decide +kernel
  fm := by decide +kernel
  fe := by decide +kernel
theorem q2Ok5 : QOk qT2 2 5 where
  s0 := by decide +kernel
  ss := by decide +kernel
  mm := by decide +kernel
  fs := by decide +kernel
  fm := by decide +kernel
  fe := by decide +kernel
theorem q2Ok6 : QOk qT2 2 6 where
  s0 := by decide +kernel
  ss := by decide +kernel
  mm := by decide +kernel
  fs := by decide +kernel
  fm := by decide +kernel
  fe := by decide +kernel
theorem q2Ok7 : QOk qT2 2 7 where
  s0 := by decide +kernel
  ss := by decide +kernel
  mm := by decide +kernel
  fs := by decide +kernel
  fm := by decide +kernel
  fe := by decide +kernel
theorem q2Ok8 : QOk qT2 2 8 where
  s0 := by decide +kernel
  ss := by decide +kernel
  mm := by decide +kernel
  fs := by decide +kernel
  fm := by decide +kernel
  fe := by decide +kernel
theorem q2Ok9 : QOk qT2 2 9 where
  s0 := by decide +kernel
  ss := by decide +kernel
  mm := by decide +kernel
  fs := by decide +kernel
  fm := by decide +kernel
  fe := by decide +kernel
theorem q2Ok10 : QOk qT2 2 10 where
  s0 := by decide +kernel
  ss := by decide +kernel
  mm := by decide +kernel
  fs := by decide +kernel
  fm := by decide +kernel
  fe := by decide +kernel
theorem q2Ok {n : Nat} (h1 : 1 ≤ n) (h2 : n ≤ 10) : QOk qT2 2 n := by
  rcases (show n = 1 ∨ n = 2 ∨ n = 3 ∨ n = 4 ∨ n = 5 ∨ n = 6 ∨ n = 7 ∨ n = 8 ∨ n = 9 ∨ n = 10 by omega) with rfl | rfl | rfl | rfl | rfl | rfl | rfl | rfl | rfl | rfl
  · exact q2Ok1
  · exact q2Ok2
  · exact q2Ok3
  · exact q2Ok4
  · exact q2Ok5
  · exact q2Ok6
  · exact q2Ok7
  · exact q2Ok8
  · exact q2Ok9
  · exact q2Ok10
end Go.Proofs.Ytnpiciabpgkiiad
