/- FnCoverRects: for every code the law returns true. No condition. -/
import Derived.Test.YtfhjmmajhohkjadQ04
namespace Go.Proofs.Ytfhjmmajhohkjad.lCoverRects
open Go.ChangeShapes Go.WideShapes Go.ChangeAt Go.RowKit Go.Joins
set_option linter.unusedVariables false
attribute [local go_sem 5000] run_mx run_mn run_eqlR run_neqR
attribute [local go_sem] growUpon_value growUpon_skip growUpon_enter
set_option maxHeartbeats 1000000
theorem coverF {x y u v x' y' u' v' : Int} (h : coverB x y u v x' y' u' v' = true) : ∃ X Y U V : Int, (mn x x' = X ∧ mn y y' = Y ∧ mx (x + u) (x' + u') - X = U ∧ mx (y + v) (y' + v') - Y = V) ∧
    (coverB x' y' u' v' x y u v = true ∧ mn x' x = X ∧ mn y' y = Y ∧ mx (x' + u') (x + u) - X = U ∧ mx (y' + v') (y + v) - Y = V) ∧ vr X Y U V = true ∧
    (vr X Y U V && (vr x y u v && insB X Y U V x y u v)) = true ∧ (vr X Y U V && (vr x' y' u' v' && insB X Y U V x' y' u' v')) = true ∧
    ((vr x y u v && (vr x' y' u' v' && insB x y u v x' y' u' v')) = true → eqR X Y U V x y u v = true) := by
  obtain ⟨h1, h2, h3⟩ := coverB_yes h
  obtain ⟨a1, a2, a3, a4, a5, a6, a7, a8⟩ := vr_iff.1 h1
  obtain ⟨b1, b2, b3, b4, b5, b6, b7, b8⟩ := vr_iff.1 h2
  obtain ⟨c1, c2, c3, c4, c5, c6, c7, c8⟩ := vr_iff.1 h3
  have m1 := mn_spec x x'
  have m2 := mn_spec y y'
  have m3 := mx_spec (x + u) (x' + u')
  have m4 := mx_spec (y + v) (y' + v')
  have n1 := mn_spec x' x
  have n2 := mn_spec y' y
  have n3 := mx_spec (x' + u') (x + u)
  have n4 := mx_spec (y' + v') (y + v)
  refine ⟨_, _, _, _, ⟨rfl, rfl, rfl, rfl⟩, ⟨?_, by omega, by omega, by omega, by omega⟩, h3, ?_, ?_, ?_⟩
  · have : covB x' y' u' v' x y u v = true := by unfold covB; rw [vr_iff]; omega
    simp [coverB, h1, h2, this]
  · rw [Bool.and_eq_true, Bool.and_eq_true, vr_iff, vr_iff, insB_iff]; omega
  · rw [Bool.and_eq_true, Bool.and_eq_true, vr_iff, vr_iff, insB_iff]; omega
  · rw [Bool.and_eq_true, Bool.and_eq_true, vr_iff, vr_iff, insB_iff, eqR_iff]; omega
set_option maxRecDepth 100000 in
theorem walk (A : Option Addr) (n c : Nat) (z : List Int) (w : World) (wz : IsRow .u8 w A n c z) : Calls Try.prog 7 #[.slice A n c] w fun e w' => e = .returned (.bool true) ∧ Below w.heap.size w w' := by
  obtain ⟨hb, hn, hc⟩ := wz.bts
  clear wz
  by_cases hlen : n ≤ 1048576
  · have hl1 : ¬ (1048576 : Int) < n := by omega
    go_enter Try.func7, Try.ntmps7
    go_wp2_with fail
    with_reducible refine (DrawCoverRects_any A n c _ hb hn hc).mono ?_
    rintro e w1 ⟨⟨x, y, u, v, x', y', u', v', rfl⟩, hB⟩
    have hX := BX.nil w1
    cases h : coverB x y u v x' y' u' v'
    · skip
      have HX := Lib.hid hX
      have HB := Lib.hid hB
      clear hX hB
      go_wp2_with fail
      with_reducible refine (CoverRects_no x y u v x' y' u' v' _ h).mono ?_
      rintro e w2 ⟨rfl, hb2⟩
      have hX := ((HX.out.alloc _).alloc _).below hb2
      have hB := bkeep2 (balloc' (balloc' HB.out)) hb2
      clear HX HB hb2
      try simp only [World.size_alloc] at hX
      have hY := hX
      obtain ⟨b0_0, b0_1, b0_2, b0_3, -⟩ := b4 hY.head
      have bl0 := lt_of_heap hY.head
      have bn0 := Nat.ne_of_lt bl0
      have bm0 := Nat.ne_of_lt (Nat.lt_succ_of_lt bl0)
      simp only [Nat.succ_eq_add_one] at bm0
      replace hY := hY.tail
      obtain ⟨b1_0, b1_1, b1_2, b1_3, -⟩ := b4 hY.head
      have bl1 := lt_of_heap hY.head
      have bn1 := Nat.ne_of_lt bl1
      have bm1 := Nat.ne_of_lt (Nat.lt_succ_of_lt bl1)
      simp only [Nat.succ_eq_add_one] at bm1
      clear hY
      have HX := Lib.hid hX
      have HB := Lib.hid hB
      clear hX hB
      go_wp2_with fail
      with_reducible refine (sCoverRects_no x y u v x' y' u' v' _ h).mono ?_
      rintro e w3 ⟨rfl, hb3⟩
      clear b0_0 b0_1 b0_2 b0_3 b1_0 b1_1 b1_2 b1_3 bl0 bn0 bm0 bl1 bn1 bm1
      have hX := (HX.out.alloc _).below hb3
      have hB := bkeep2 (balloc' HB.out) hb3
      clear HX HB hb3
      try simp only [World.size_alloc] at hX
      have hY := hX
      obtain ⟨b0_0, b0_1, b0_2, b0_3, -⟩ := b4 hY.head
      have bl0 := lt_of_heap hY.head
      have bn0 := Nat.ne_of_lt bl0
      have bm0 := Nat.ne_of_lt (Nat.lt_succ_of_lt bl0)
      simp only [Nat.succ_eq_add_one] at bm0
      replace hY := hY.tail
      obtain ⟨b1_0, b1_1, b1_2, b1_3, -⟩ := b4 hY.head
      have bl1 := lt_of_heap hY.head
      have bn1 := Nat.ne_of_lt bl1
      have bm1 := Nat.ne_of_lt (Nat.lt_succ_of_lt bl1)
      simp only [Nat.succ_eq_add_one] at bm1
      replace hY := hY.tail
      obtain ⟨b2_0, b2_1, b2_2, b2_3, -⟩ := b4 hY.head
      have bl2 := lt_of_heap hY.head
      have bn2 := Nat.ne_of_lt bl2
      have bm2 := Nat.ne_of_lt (Nat.lt_succ_of_lt bl2)
      simp only [Nat.succ_eq_add_one] at bm2
      clear hY
      have HX := Lib.hid hX
      have HB := Lib.hid hB
      clear hX hB
      go_wp2_with fail
      with_reducible refine (equalRect_same 0 0 0 0 _).mono ?_
      rintro e w4 ⟨rfl, hb4⟩
      clear b0_0 b0_1 b0_2 b0_3 b1_0 b1_1 b1_2 b1_3 b2_0 b2_1 b2_2 b2_3 bl0 bn0 bm0 bl1 bn1 bm1 bl2 bn2 bm2
      have hX := (HX.out.alloc _).below hb4
      have hB := bkeep2 (balloc' HB.out) hb4
      clear HX HB hb4
      try simp only [World.size_alloc] at hX
      have hY := hX
      obtain ⟨b0_0, b0_1, b0_2, b0_3, -⟩ := b4 hY.head
      have bl0 := lt_of_heap hY.head
      have bn0 := Nat.ne_of_lt bl0
      have bm0 := Nat.ne_of_lt (Nat.lt_succ_of_lt bl0)
      simp only [Nat.succ_eq_add_one] at bm0
      replace hY := hY.tail
      obtain ⟨b1_0, b1_1, b1_2, b1_3, -⟩ := b4 hY.head
      have bl1 := lt_of_heap hY.head
      have bn1 := Nat.ne_of_lt bl1
      have bm1 := Nat.ne_of_lt (Nat.lt_succ_of_lt bl1)
      simp only [Nat.succ_eq_add_one] at bm1
      replace hY := hY.tail
      obtain ⟨b2_0, b2_1, b2_2, b2_3, -⟩ := b4 hY.head
      have bl2 := lt_of_heap hY.head
      have bn2 := Nat.ne_of_lt bl2
      have bm2 := Nat.ne_of_lt (Nat.lt_succ_of_lt bl2)
      simp only [Nat.succ_eq_add_one] at bm2
      replace hY := hY.tail
      obtain ⟨b3_0, b3_1, b3_2, b3_3, -⟩ := b4 hY.head
      have bl3 := lt_of_heap hY.head
      have bn3 := Nat.ne_of_lt bl3
      have bm3 := Nat.ne_of_lt (Nat.lt_succ_of_lt bl3)
      simp only [Nat.succ_eq_add_one] at bm3
      clear hY
      have HX := Lib.hid hX
      have HB := Lib.hid hB
      clear hX hB
      go_wp2_with fail
      with_reducible refine (equalRect_same 0 0 0 0 _).mono ?_
      rintro e w5 ⟨rfl, hb5⟩
      clear b0_0 b0_1 b0_2 b0_3 b1_0 b1_1 b1_2 b1_3 b2_0 b2_1 b2_2 b2_3 b3_0 b3_1 b3_2 b3_3 bl0 bn0 bm0 bl1 bn1 bm1 bl2 bn2 bm2 bl3 bn3 bm3
      have hX := HX.out.below hb5
      have hB := bkeep2 HB.out hb5
      clear HX HB hb5
      try simp only [World.size_alloc] at hX
      have hY := hX
      obtain ⟨b0_0, b0_1, b0_2, b0_3, -⟩ := b4 hY.head
      have bl0 := lt_of_heap hY.head
      have bn0 := Nat.ne_of_lt bl0
      have bm0 := Nat.ne_of_lt (Nat.lt_succ_of_lt bl0)
      simp only [Nat.succ_eq_add_one] at bm0
      replace hY := hY.tail
      obtain ⟨b1_0, b1_1, b1_2, b1_3, -⟩ := b4 hY.head
      have bl1 := lt_of_heap hY.head
      have bn1 := Nat.ne_of_lt bl1
      have bm1 := Nat.ne_of_lt (Nat.lt_succ_of_lt bl1)
      simp only [Nat.succ_eq_add_one] at bm1
      replace hY := hY.tail
      obtain ⟨b2_0, b2_1, b2_2, b2_3, -⟩ := b4 hY.head
      have bl2 := lt_of_heap hY.head
      have bn2 := Nat.ne_of_lt bl2
      have bm2 := Nat.ne_of_lt (Nat.lt_succ_of_lt bl2)
      simp only [Nat.succ_eq_add_one] at bm2
      replace hY := hY.tail
      obtain ⟨b3_0, b3_1, b3_2, b3_3, -⟩ := b4 hY.head
      have bl3 := lt_of_heap hY.head
      have bn3 := Nat.ne_of_lt bl3
      have bm3 := Nat.ne_of_lt (Nat.lt_succ_of_lt bl3)
      simp only [Nat.succ_eq_add_one] at bm3
      clear hY
      have HB := Lib.hid hB
      clear hX hB
      go_wp2
      all_goals go_ret
      all_goals exact ⟨ret_bool (by simp), HB.out⟩
    · skip
      obtain ⟨X, Y, U, V, ⟨hX1, hX2, hX3, hX4⟩, ⟨hs, hX5, hX6, hX7, hX8⟩, hvr, hi1, hi2, he⟩ := coverF h
      obtain ⟨q1, q2, q3, q4, q5, q6, q7, q8⟩ := vr_iff.1 hvr
      have HM := Lib.hid (And.intro (And.intro hX1 (And.intro hX2 (And.intro hX3 hX4))) (And.intro hX5 (And.intro hX6 (And.intro hX7 hX8))))
      clear hX1 hX2 hX3 hX4 hX5 hX6 hX7 hX8
      cases hi : (vr x y u v && (vr x' y' u' v' && insB x y u v x' y' u' v'))
      · skip
        clear he
        have es : eqR X Y U V X Y U V = true := eqR_self
        have HX := Lib.hid hX
        have HB := Lib.hid hB
        clear hX hB
        go_wp2_with fail
        with_reducible refine (cover_v x y u v x' y' u' v' X Y U V _ h HM.out.1.1 HM.out.1.2.1 HM.out.1.2.2.1 HM.out.1.2.2.2).mono ?_
        rintro e w2 ⟨rfl, hb2⟩
        have hX := ((HX.out.alloc _).alloc _).below hb2
        have hB := bkeep2 (balloc' (balloc' HB.out)) hb2
        clear HX HB hb2
        try simp only [World.size_alloc] at hX
        have hY := hX
        obtain ⟨b0_0, b0_1, b0_2, b0_3, -⟩ := b4 hY.head
        have bl0 := lt_of_heap hY.head
        have bn0 := Nat.ne_of_lt bl0
        have bm0 := Nat.ne_of_lt (Nat.lt_succ_of_lt bl0)
        simp only [Nat.succ_eq_add_one] at bm0
        replace hY := hY.tail
        obtain ⟨b1_0, b1_1, b1_2, b1_3, -⟩ := b4 hY.head
        have bl1 := lt_of_heap hY.head
        have bn1 := Nat.ne_of_lt bl1
        have bm1 := Nat.ne_of_lt (Nat.lt_succ_of_lt bl1)
        simp only [Nat.succ_eq_add_one] at bm1
        clear hY
        have HX := Lib.hid hX
        have HB := Lib.hid hB
        clear hX hB
        go_wp2_with fail
        with_reducible refine (scover_v x y u v x' y' u' v' X Y U V _ h HM.out.1.1 HM.out.1.2.1 HM.out.1.2.2.1 HM.out.1.2.2.2).mono ?_
        rintro e w3 ⟨rfl, hb3⟩
        clear b0_0 b0_1 b0_2 b0_3 b1_0 b1_1 b1_2 b1_3 bl0 bn0 bm0 bl1 bn1 bm1
        have hX := (HX.out.alloc _).below hb3
        have hB := bkeep2 (balloc' HB.out) hb3
        clear HX HB hb3
        try simp only [World.size_alloc] at hX
        have hY := hX
        obtain ⟨b0_0, b0_1, b0_2, b0_3, -⟩ := b4 hY.head
        have bl0 := lt_of_heap hY.head
        have bn0 := Nat.ne_of_lt bl0
        have bm0 := Nat.ne_of_lt (Nat.lt_succ_of_lt bl0)
        simp only [Nat.succ_eq_add_one] at bm0
        replace hY := hY.tail
        obtain ⟨b1_0, b1_1, b1_2, b1_3, -⟩ := b4 hY.head
        have bl1 := lt_of_heap hY.head
        have bn1 := Nat.ne_of_lt bl1
        have bm1 := Nat.ne_of_lt (Nat.lt_succ_of_lt bl1)
        simp only [Nat.succ_eq_add_one] at bm1
        replace hY := hY.tail
        obtain ⟨b2_0, b2_1, b2_2, b2_3, -⟩ := b4 hY.head
        have bl2 := lt_of_heap hY.head
        have bn2 := Nat.ne_of_lt bl2
        have bm2 := Nat.ne_of_lt (Nat.lt_succ_of_lt bl2)
        simp only [Nat.succ_eq_add_one] at bm2
        clear hY
        have HX := Lib.hid hX
        have HB := Lib.hid hB
        clear hX hB
        go_wp2_with fail
        with_reducible refine (equalRect_same X Y U V _).mono ?_
        rintro e w4 ⟨rfl, hb4⟩
        clear b0_0 b0_1 b0_2 b0_3 b1_0 b1_1 b1_2 b1_3 b2_0 b2_1 b2_2 b2_3 bl0 bn0 bm0 bl1 bn1 bm1 bl2 bn2 bm2
        have hX := (HX.out.alloc _).below hb4
        have hB := bkeep2 (balloc' HB.out) hb4
        clear HX HB hb4
        try simp only [World.size_alloc] at hX
        have hY := hX
        obtain ⟨b0_0, b0_1, b0_2, b0_3, -⟩ := b4 hY.head
        have bl0 := lt_of_heap hY.head
        have bn0 := Nat.ne_of_lt bl0
        have bm0 := Nat.ne_of_lt (Nat.lt_succ_of_lt bl0)
        simp only [Nat.succ_eq_add_one] at bm0
        replace hY := hY.tail
        obtain ⟨b1_0, b1_1, b1_2, b1_3, -⟩ := b4 hY.head
        have bl1 := lt_of_heap hY.head
        have bn1 := Nat.ne_of_lt bl1
        have bm1 := Nat.ne_of_lt (Nat.lt_succ_of_lt bl1)
        simp only [Nat.succ_eq_add_one] at bm1
        replace hY := hY.tail
        obtain ⟨b2_0, b2_1, b2_2, b2_3, -⟩ := b4 hY.head
        have bl2 := lt_of_heap hY.head
        have bn2 := Nat.ne_of_lt bl2
        have bm2 := Nat.ne_of_lt (Nat.lt_succ_of_lt bl2)
        simp only [Nat.succ_eq_add_one] at bm2
        replace hY := hY.tail
        obtain ⟨b3_0, b3_1, b3_2, b3_3, -⟩ := b4 hY.head
        have bl3 := lt_of_heap hY.head
        have bn3 := Nat.ne_of_lt bl3
        have bm3 := Nat.ne_of_lt (Nat.lt_succ_of_lt bl3)
        simp only [Nat.succ_eq_add_one] at bm3
        clear hY
        have HX := Lib.hid hX
        have HB := Lib.hid hB
        clear hX hB
        go_wp2_with fail
        with_reducible refine (cover_v x' y' u' v' x y u v X Y U V _ hs HM.out.2.1 HM.out.2.2.1 HM.out.2.2.2.1 HM.out.2.2.2.2).mono ?_
        rintro e w5 ⟨rfl, hb5⟩
        clear b0_0 b0_1 b0_2 b0_3 b1_0 b1_1 b1_2 b1_3 b2_0 b2_1 b2_2 b2_3 b3_0 b3_1 b3_2 b3_3 bl0 bn0 bm0 bl1 bn1 bm1 bl2 bn2 bm2 bl3 bn3 bm3
        have hX := HX.out.below hb5
        have hB := bkeep2 HB.out hb5
        clear HX HB hb5
        try simp only [World.size_alloc] at hX
        have hY := hX
        obtain ⟨b0_0, b0_1, b0_2, b0_3, -⟩ := b4 hY.head
        have bl0 := lt_of_heap hY.head
        have bn0 := Nat.ne_of_lt bl0
        have bm0 := Nat.ne_of_lt (Nat.lt_succ_of_lt bl0)
        simp only [Nat.succ_eq_add_one] at bm0
        replace hY := hY.tail
        obtain ⟨b1_0, b1_1, b1_2, b1_3, -⟩ := b4 hY.head
        have bl1 := lt_of_heap hY.head
        have bn1 := Nat.ne_of_lt bl1
        have bm1 := Nat.ne_of_lt (Nat.lt_succ_of_lt bl1)
        simp only [Nat.succ_eq_add_one] at bm1
        replace hY := hY.tail
        obtain ⟨b2_0, b2_1, b2_2, b2_3, -⟩ := b4 hY.head
        have bl2 := lt_of_heap hY.head
        have bn2 := Nat.ne_of_lt bl2
        have bm2 := Nat.ne_of_lt (Nat.lt_succ_of_lt bl2)
        simp only [Nat.succ_eq_add_one] at bm2
        replace hY := hY.tail
        obtain ⟨b3_0, b3_1, b3_2, b3_3, -⟩ := b4 hY.head
        have bl3 := lt_of_heap hY.head
        have bn3 := Nat.ne_of_lt bl3
        have bm3 := Nat.ne_of_lt (Nat.lt_succ_of_lt bl3)
        simp only [Nat.succ_eq_add_one] at bm3
        clear hY
        have HX := Lib.hid hX
        have HB := Lib.hid hB
        clear hX hB
        go_wp2_with fail
        with_reducible refine (in_b X Y U V x y u v true hi1 _).mono ?_
        rintro e w6 ⟨rfl, hb6⟩
        clear b0_0 b0_1 b0_2 b0_3 b1_0 b1_1 b1_2 b1_3 b2_0 b2_1 b2_2 b2_3 b3_0 b3_1 b3_2 b3_3 bl0 bn0 bm0 bl1 bn1 bm1 bl2 bn2 bm2 bl3 bn3 bm3
        have hX := (HX.out.alloc _).below hb6
        have hB := bkeep2 (balloc' HB.out) hb6
        clear HX HB hb6
        try simp only [World.size_alloc] at hX
        have hY := hX
        obtain ⟨b0_0, b0_1, b0_2, b0_3, -⟩ := b4 hY.head
        have bl0 := lt_of_heap hY.head
        have bn0 := Nat.ne_of_lt bl0
        have bm0 := Nat.ne_of_lt (Nat.lt_succ_of_lt bl0)
        simp only [Nat.succ_eq_add_one] at bm0
        replace hY := hY.tail
        obtain ⟨b1_0, b1_1, b1_2, b1_3, -⟩ := b4 hY.head
        have bl1 := lt_of_heap hY.head
        have bn1 := Nat.ne_of_lt bl1
        have bm1 := Nat.ne_of_lt (Nat.lt_succ_of_lt bl1)
        simp only [Nat.succ_eq_add_one] at bm1
        replace hY := hY.tail
        obtain ⟨b2_0, b2_1, b2_2, b2_3, -⟩ := b4 hY.head
        have bl2 := lt_of_heap hY.head
        have bn2 := Nat.ne_of_lt bl2
        have bm2 := Nat.ne_of_lt (Nat.lt_succ_of_lt bl2)
        simp only [Nat.succ_eq_add_one] at bm2
        replace hY := hY.tail
        obtain ⟨b3_0, b3_1, b3_2, b3_3, -⟩ := b4 hY.head
        have bl3 := lt_of_heap hY.head
        have bn3 := Nat.ne_of_lt bl3
        have bm3 := Nat.ne_of_lt (Nat.lt_succ_of_lt bl3)
        simp only [Nat.succ_eq_add_one] at bm3
        replace hY := hY.tail
        obtain ⟨b4_0, b4_1, b4_2, b4_3, -⟩ := b4 hY.head
        have bl4 := lt_of_heap hY.head
        have bn4 := Nat.ne_of_lt bl4
        have bm4 := Nat.ne_of_lt (Nat.lt_succ_of_lt bl4)
        simp only [Nat.succ_eq_add_one] at bm4
        clear hY
        have HX := Lib.hid hX
        have HB := Lib.hid hB
        clear hX hB
        go_wp2_with fail
        with_reducible refine (in_b X Y U V x' y' u' v' true hi2 _).mono ?_
        rintro e w7 ⟨rfl, hb7⟩
        clear b0_0 b0_1 b0_2 b0_3 b1_0 b1_1 b1_2 b1_3 b2_0 b2_1 b2_2 b2_3 b3_0 b3_1 b3_2 b3_3 b4_0 b4_1 b4_2 b4_3 bl0 bn0 bm0 bl1 bn1 bm1 bl2 bn2 bm2 bl3 bn3 bm3 bl4 bn4 bm4
        have hX := HX.out.below hb7
        have hB := bkeep2 HB.out hb7
        clear HX HB hb7
        try simp only [World.size_alloc] at hX
        have hY := hX
        obtain ⟨b0_0, b0_1, b0_2, b0_3, -⟩ := b4 hY.head
        have bl0 := lt_of_heap hY.head
        have bn0 := Nat.ne_of_lt bl0
        have bm0 := Nat.ne_of_lt (Nat.lt_succ_of_lt bl0)
        simp only [Nat.succ_eq_add_one] at bm0
        replace hY := hY.tail
        obtain ⟨b1_0, b1_1, b1_2, b1_3, -⟩ := b4 hY.head
        have bl1 := lt_of_heap hY.head
        have bn1 := Nat.ne_of_lt bl1
        have bm1 := Nat.ne_of_lt (Nat.lt_succ_of_lt bl1)
        simp only [Nat.succ_eq_add_one] at bm1
        replace hY := hY.tail
        obtain ⟨b2_0, b2_1, b2_2, b2_3, -⟩ := b4 hY.head
        have bl2 := lt_of_heap hY.head
        have bn2 := Nat.ne_of_lt bl2
        have bm2 := Nat.ne_of_lt (Nat.lt_succ_of_lt bl2)
        simp only [Nat.succ_eq_add_one] at bm2
        replace hY := hY.tail
        obtain ⟨b3_0, b3_1, b3_2, b3_3, -⟩ := b4 hY.head
        have bl3 := lt_of_heap hY.head
        have bn3 := Nat.ne_of_lt bl3
        have bm3 := Nat.ne_of_lt (Nat.lt_succ_of_lt bl3)
        simp only [Nat.succ_eq_add_one] at bm3
        replace hY := hY.tail
        obtain ⟨b4_0, b4_1, b4_2, b4_3, -⟩ := b4 hY.head
        have bl4 := lt_of_heap hY.head
        have bn4 := Nat.ne_of_lt bl4
        have bm4 := Nat.ne_of_lt (Nat.lt_succ_of_lt bl4)
        simp only [Nat.succ_eq_add_one] at bm4
        clear hY
        have HX := Lib.hid hX
        have HB := Lib.hid hB
        clear hX hB
        go_wp2_with fail
        with_reducible refine (in_b x y u v x' y' u' v' false hi _).mono ?_
        rintro e w8 ⟨rfl, hb8⟩
        clear b0_0 b0_1 b0_2 b0_3 b1_0 b1_1 b1_2 b1_3 b2_0 b2_1 b2_2 b2_3 b3_0 b3_1 b3_2 b3_3 b4_0 b4_1 b4_2 b4_3 bl0 bn0 bm0 bl1 bn1 bm1 bl2 bn2 bm2 bl3 bn3 bm3 bl4 bn4 bm4
        have hX := HX.out.below hb8
        have hB := bkeep2 HB.out hb8
        clear HX HB hb8
        try simp only [World.size_alloc] at hX
        have hY := hX
        obtain ⟨b0_0, b0_1, b0_2, b0_3, -⟩ := b4 hY.head
        have bl0 := lt_of_heap hY.head
        have bn0 := Nat.ne_of_lt bl0
        have bm0 := Nat.ne_of_lt (Nat.lt_succ_of_lt bl0)
        simp only [Nat.succ_eq_add_one] at bm0
        replace hY := hY.tail
        obtain ⟨b1_0, b1_1, b1_2, b1_3, -⟩ := b4 hY.head
        have bl1 := lt_of_heap hY.head
        have bn1 := Nat.ne_of_lt bl1
        have bm1 := Nat.ne_of_lt (Nat.lt_succ_of_lt bl1)
        simp only [Nat.succ_eq_add_one] at bm1
        replace hY := hY.tail
        obtain ⟨b2_0, b2_1, b2_2, b2_3, -⟩ := b4 hY.head
        have bl2 := lt_of_heap hY.head
        have bn2 := Nat.ne_of_lt bl2
        have bm2 := Nat.ne_of_lt (Nat.lt_succ_of_lt bl2)
        simp only [Nat.succ_eq_add_one] at bm2
        replace hY := hY.tail
        obtain ⟨b3_0, b3_1, b3_2, b3_3, -⟩ := b4 hY.head
        have bl3 := lt_of_heap hY.head
        have bn3 := Nat.ne_of_lt bl3
        have bm3 := Nat.ne_of_lt (Nat.lt_succ_of_lt bl3)
        simp only [Nat.succ_eq_add_one] at bm3
        replace hY := hY.tail
        obtain ⟨b4_0, b4_1, b4_2, b4_3, -⟩ := b4 hY.head
        have bl4 := lt_of_heap hY.head
        have bn4 := Nat.ne_of_lt bl4
        have bm4 := Nat.ne_of_lt (Nat.lt_succ_of_lt bl4)
        simp only [Nat.succ_eq_add_one] at bm4
        clear hY
        have HB := Lib.hid hB
        clear hX hB
        go_wp2
        all_goals go_ret
        all_goals exact ⟨ret_bool (by simp), HB.out⟩
      · skip
        replace he := he hi
        have es : eqR X Y U V X Y U V = true := eqR_self
        have HX := Lib.hid hX
        have HB := Lib.hid hB
        clear hX hB
        go_wp2_with fail
        with_reducible refine (cover_v x y u v x' y' u' v' X Y U V _ h HM.out.1.1 HM.out.1.2.1 HM.out.1.2.2.1 HM.out.1.2.2.2).mono ?_
        rintro e w2 ⟨rfl, hb2⟩
        have hX := ((HX.out.alloc _).alloc _).below hb2
        have hB := bkeep2 (balloc' (balloc' HB.out)) hb2
        clear HX HB hb2
        try simp only [World.size_alloc] at hX
        have hY := hX
        obtain ⟨b0_0, b0_1, b0_2, b0_3, -⟩ := b4 hY.head
        have bl0 := lt_of_heap hY.head
        have bn0 := Nat.ne_of_lt bl0
        have bm0 := Nat.ne_of_lt (Nat.lt_succ_of_lt bl0)
        simp only [Nat.succ_eq_add_one] at bm0
        replace hY := hY.tail
        obtain ⟨b1_0, b1_1, b1_2, b1_3, -⟩ := b4 hY.head
        have bl1 := lt_of_heap hY.head
        have bn1 := Nat.ne_of_lt bl1
        have bm1 := Nat.ne_of_lt (Nat.lt_succ_of_lt bl1)
        simp only [Nat.succ_eq_add_one] at bm1
        clear hY
        have HX := Lib.hid hX
        have HB := Lib.hid hB
        clear hX hB
        go_wp2_with fail
        with_reducible refine (scover_v x y u v x' y' u' v' X Y U V _ h HM.out.1.1 HM.out.1.2.1 HM.out.1.2.2.1 HM.out.1.2.2.2).mono ?_
        rintro e w3 ⟨rfl, hb3⟩
        clear b0_0 b0_1 b0_2 b0_3 b1_0 b1_1 b1_2 b1_3 bl0 bn0 bm0 bl1 bn1 bm1
        have hX := (HX.out.alloc _).below hb3
        have hB := bkeep2 (balloc' HB.out) hb3
        clear HX HB hb3
        try simp only [World.size_alloc] at hX
        have hY := hX
        obtain ⟨b0_0, b0_1, b0_2, b0_3, -⟩ := b4 hY.head
        have bl0 := lt_of_heap hY.head
        have bn0 := Nat.ne_of_lt bl0
        have bm0 := Nat.ne_of_lt (Nat.lt_succ_of_lt bl0)
        simp only [Nat.succ_eq_add_one] at bm0
        replace hY := hY.tail
        obtain ⟨b1_0, b1_1, b1_2, b1_3, -⟩ := b4 hY.head
        have bl1 := lt_of_heap hY.head
        have bn1 := Nat.ne_of_lt bl1
        have bm1 := Nat.ne_of_lt (Nat.lt_succ_of_lt bl1)
        simp only [Nat.succ_eq_add_one] at bm1
        replace hY := hY.tail
        obtain ⟨b2_0, b2_1, b2_2, b2_3, -⟩ := b4 hY.head
        have bl2 := lt_of_heap hY.head
        have bn2 := Nat.ne_of_lt bl2
        have bm2 := Nat.ne_of_lt (Nat.lt_succ_of_lt bl2)
        simp only [Nat.succ_eq_add_one] at bm2
        clear hY
        have HX := Lib.hid hX
        have HB := Lib.hid hB
        clear hX hB
        go_wp2_with fail
        with_reducible refine (equalRect_same X Y U V _).mono ?_
        rintro e w4 ⟨rfl, hb4⟩
        clear b0_0 b0_1 b0_2 b0_3 b1_0 b1_1 b1_2 b1_3 b2_0 b2_1 b2_2 b2_3 bl0 bn0 bm0 bl1 bn1 bm1 bl2 bn2 bm2
        have hX := (HX.out.alloc _).below hb4
        have hB := bkeep2 (balloc' HB.out) hb4
        clear HX HB hb4
        try simp only [World.size_alloc] at hX
        have hY := hX
        obtain ⟨b0_0, b0_1, b0_2, b0_3, -⟩ := b4 hY.head
        have bl0 := lt_of_heap hY.head
        have bn0 := Nat.ne_of_lt bl0
        have bm0 := Nat.ne_of_lt (Nat.lt_succ_of_lt bl0)
        simp only [Nat.succ_eq_add_one] at bm0
        replace hY := hY.tail
        obtain ⟨b1_0, b1_1, b1_2, b1_3, -⟩ := b4 hY.head
        have bl1 := lt_of_heap hY.head
        have bn1 := Nat.ne_of_lt bl1
        have bm1 := Nat.ne_of_lt (Nat.lt_succ_of_lt bl1)
        simp only [Nat.succ_eq_add_one] at bm1
        replace hY := hY.tail
        obtain ⟨b2_0, b2_1, b2_2, b2_3, -⟩ := b4 hY.head
        have bl2 := lt_of_heap hY.head
        have bn2 := Nat.ne_of_lt bl2
        have bm2 := Nat.ne_of_lt (Nat.lt_succ_of_lt bl2)
        simp only [Nat.succ_eq_add_one] at bm2
        replace hY := hY.tail
        obtain ⟨b3_0, b3_1, b3_2, b3_3, -⟩ := b4 hY.head
        have bl3 := lt_of_heap hY.head
        have bn3 := Nat.ne_of_lt bl3
        have bm3 := Nat.ne_of_lt (Nat.lt_succ_of_lt bl3)
        simp only [Nat.succ_eq_add_one] at bm3
        clear hY
        have HX := Lib.hid hX
        have HB := Lib.hid hB
        clear hX hB
        go_wp2_with fail
        with_reducible refine (cover_v x' y' u' v' x y u v X Y U V _ hs HM.out.2.1 HM.out.2.2.1 HM.out.2.2.2.1 HM.out.2.2.2.2).mono ?_
        rintro e w5 ⟨rfl, hb5⟩
        clear b0_0 b0_1 b0_2 b0_3 b1_0 b1_1 b1_2 b1_3 b2_0 b2_1 b2_2 b2_3 b3_0 b3_1 b3_2 b3_3 bl0 bn0 bm0 bl1 bn1 bm1 bl2 bn2 bm2 bl3 bn3 bm3
        have hX := HX.out.below hb5
        have hB := bkeep2 HB.out hb5
        clear HX HB hb5
        try simp only [World.size_alloc] at hX
        have hY := hX
        obtain ⟨b0_0, b0_1, b0_2, b0_3, -⟩ := b4 hY.head
        have bl0 := lt_of_heap hY.head
        have bn0 := Nat.ne_of_lt bl0
        have bm0 := Nat.ne_of_lt (Nat.lt_succ_of_lt bl0)
        simp only [Nat.succ_eq_add_one] at bm0
        replace hY := hY.tail
        obtain ⟨b1_0, b1_1, b1_2, b1_3, -⟩ := b4 hY.head
        have bl1 := lt_of_heap hY.head
        have bn1 := Nat.ne_of_lt bl1
        have bm1 := Nat.ne_of_lt (Nat.lt_succ_of_lt bl1)
        simp only [Nat.succ_eq_add_one] at bm1
        replace hY := hY.tail
        obtain ⟨b2_0, b2_1, b2_2, b2_3, -⟩ := b4 hY.head
        have bl2 := lt_of_heap hY.head
        have bn2 := Nat.ne_of_lt bl2
        have bm2 := Nat.ne_of_lt (Nat.lt_succ_of_lt bl2)
        simp only [Nat.succ_eq_add_one] at bm2
        replace hY := hY.tail
        obtain ⟨b3_0, b3_1, b3_2, b3_3, -⟩ := b4 hY.head
        have bl3 := lt_of_heap hY.head
        have bn3 := Nat.ne_of_lt bl3
        have bm3 := Nat.ne_of_lt (Nat.lt_succ_of_lt bl3)
        simp only [Nat.succ_eq_add_one] at bm3
        clear hY
        have HX := Lib.hid hX
        have HB := Lib.hid hB
        clear hX hB
        go_wp2_with fail
        with_reducible refine (in_b X Y U V x y u v true hi1 _).mono ?_
        rintro e w6 ⟨rfl, hb6⟩
        clear b0_0 b0_1 b0_2 b0_3 b1_0 b1_1 b1_2 b1_3 b2_0 b2_1 b2_2 b2_3 b3_0 b3_1 b3_2 b3_3 bl0 bn0 bm0 bl1 bn1 bm1 bl2 bn2 bm2 bl3 bn3 bm3
        have hX := (HX.out.alloc _).below hb6
        have hB := bkeep2 (balloc' HB.out) hb6
        clear HX HB hb6
        try simp only [World.size_alloc] at hX
        have hY := hX
        obtain ⟨b0_0, b0_1, b0_2, b0_3, -⟩ := b4 hY.head
        have bl0 := lt_of_heap hY.head
        have bn0 := Nat.ne_of_lt bl0
        have bm0 := Nat.ne_of_lt (Nat.lt_succ_of_lt bl0)
        simp only [Nat.succ_eq_add_one] at bm0
        replace hY := hY.tail
        obtain ⟨b1_0, b1_1, b1_2, b1_3, -⟩ := b4 hY.head
        have bl1 := lt_of_heap hY.head
        have bn1 := Nat.ne_of_lt bl1
        have bm1 := Nat.ne_of_lt (Nat.lt_succ_of_lt bl1)
        simp only [Nat.succ_eq_add_one] at bm1
        replace hY := hY.tail
        obtain ⟨b2_0, b2_1, b2_2, b2_3, -⟩ := b4 hY.head
        have bl2 := lt_of_heap hY.head
        have bn2 := Nat.ne_of_lt bl2
        have bm2 := Nat.ne_of_lt (Nat.lt_succ_of_lt bl2)
        simp only [Nat.succ_eq_add_one] at bm2
        replace hY := hY.tail
        obtain ⟨b3_0, b3_1, b3_2, b3_3, -⟩ := b4 hY.head
        have bl3 := lt_of_heap hY.head
        have bn3 := Nat.ne_of_lt bl3
        have bm3 := Nat.ne_of_lt (Nat.lt_succ_of_lt bl3)
        simp only [Nat.succ_eq_add_one] at bm3
        replace hY := hY.tail
        obtain ⟨b4_0, b4_1, b4_2, b4_3, -⟩ := b4 hY.head
        have bl4 := lt_of_heap hY.head
        have bn4 := Nat.ne_of_lt bl4
        have bm4 := Nat.ne_of_lt (Nat.lt_succ_of_lt bl4)
        simp only [Nat.succ_eq_add_one] at bm4
        clear hY
        have HX := Lib.hid hX
        have HB := Lib.hid hB
        clear hX hB
        go_wp2_with fail
        with_reducible refine (in_b X Y U V x' y' u' v' true hi2 _).mono ?_
        rintro e w7 ⟨rfl, hb7⟩
        clear b0_0 b0_1 b0_2 b0_3 b1_0 b1_1 b1_2 b1_3 b2_0 b2_1 b2_2 b2_3 b3_0 b3_1 b3_2 b3_3 b4_0 b4_1 b4_2 b4_3 bl0 bn0 bm0 bl1 bn1 bm1 bl2 bn2 bm2 bl3 bn3 bm3 bl4 bn4 bm4
        have hX := HX.out.below hb7
        have hB := bkeep2 HB.out hb7
        clear HX HB hb7
        try simp only [World.size_alloc] at hX
        have hY := hX
        obtain ⟨b0_0, b0_1, b0_2, b0_3, -⟩ := b4 hY.head
        have bl0 := lt_of_heap hY.head
        have bn0 := Nat.ne_of_lt bl0
        have bm0 := Nat.ne_of_lt (Nat.lt_succ_of_lt bl0)
        simp only [Nat.succ_eq_add_one] at bm0
        replace hY := hY.tail
        obtain ⟨b1_0, b1_1, b1_2, b1_3, -⟩ := b4 hY.head
        have bl1 := lt_of_heap hY.head
        have bn1 := Nat.ne_of_lt bl1
        have bm1 := Nat.ne_of_lt (Nat.lt_succ_of_lt bl1)
        simp only [Nat.succ_eq_add_one] at bm1
        replace hY := hY.tail
        obtain ⟨b2_0, b2_1, b2_2, b2_3, -⟩ := b4 hY.head
        have bl2 := lt_of_heap hY.head
        have bn2 := Nat.ne_of_lt bl2
        have bm2 := Nat.ne_of_lt (Nat.lt_succ_of_lt bl2)
        simp only [Nat.succ_eq_add_one] at bm2
        replace hY := hY.tail
        obtain ⟨b3_0, b3_1, b3_2, b3_3, -⟩ := b4 hY.head
        have bl3 := lt_of_heap hY.head
        have bn3 := Nat.ne_of_lt bl3
        have bm3 := Nat.ne_of_lt (Nat.lt_succ_of_lt bl3)
        simp only [Nat.succ_eq_add_one] at bm3
        replace hY := hY.tail
        obtain ⟨b4_0, b4_1, b4_2, b4_3, -⟩ := b4 hY.head
        have bl4 := lt_of_heap hY.head
        have bn4 := Nat.ne_of_lt bl4
        have bm4 := Nat.ne_of_lt (Nat.lt_succ_of_lt bl4)
        simp only [Nat.succ_eq_add_one] at bm4
        clear hY
        have HX := Lib.hid hX
        have HB := Lib.hid hB
        clear hX hB
        go_wp2_with fail
        with_reducible refine (in_b x y u v x' y' u' v' true hi _).mono ?_
        rintro e w8 ⟨rfl, hb8⟩
        clear b0_0 b0_1 b0_2 b0_3 b1_0 b1_1 b1_2 b1_3 b2_0 b2_1 b2_2 b2_3 b3_0 b3_1 b3_2 b3_3 b4_0 b4_1 b4_2 b4_3 bl0 bn0 bm0 bl1 bn1 bm1 bl2 bn2 bm2 bl3 bn3 bm3 bl4 bn4 bm4
        have hX := HX.out.below hb8
        have hB := bkeep2 HB.out hb8
        clear HX HB hb8
        try simp only [World.size_alloc] at hX
        have hY := hX
        obtain ⟨b0_0, b0_1, b0_2, b0_3, -⟩ := b4 hY.head
        have bl0 := lt_of_heap hY.head
        have bn0 := Nat.ne_of_lt bl0
        have bm0 := Nat.ne_of_lt (Nat.lt_succ_of_lt bl0)
        simp only [Nat.succ_eq_add_one] at bm0
        replace hY := hY.tail
        obtain ⟨b1_0, b1_1, b1_2, b1_3, -⟩ := b4 hY.head
        have bl1 := lt_of_heap hY.head
        have bn1 := Nat.ne_of_lt bl1
        have bm1 := Nat.ne_of_lt (Nat.lt_succ_of_lt bl1)
        simp only [Nat.succ_eq_add_one] at bm1
        replace hY := hY.tail
        obtain ⟨b2_0, b2_1, b2_2, b2_3, -⟩ := b4 hY.head
        have bl2 := lt_of_heap hY.head
        have bn2 := Nat.ne_of_lt bl2
        have bm2 := Nat.ne_of_lt (Nat.lt_succ_of_lt bl2)
        simp only [Nat.succ_eq_add_one] at bm2
        replace hY := hY.tail
        obtain ⟨b3_0, b3_1, b3_2, b3_3, -⟩ := b4 hY.head
        have bl3 := lt_of_heap hY.head
        have bn3 := Nat.ne_of_lt bl3
        have bm3 := Nat.ne_of_lt (Nat.lt_succ_of_lt bl3)
        simp only [Nat.succ_eq_add_one] at bm3
        replace hY := hY.tail
        obtain ⟨b4_0, b4_1, b4_2, b4_3, -⟩ := b4 hY.head
        have bl4 := lt_of_heap hY.head
        have bn4 := Nat.ne_of_lt bl4
        have bm4 := Nat.ne_of_lt (Nat.lt_succ_of_lt bl4)
        simp only [Nat.succ_eq_add_one] at bm4
        clear hY
        have HB := Lib.hid hB
        clear hX hB
        go_wp2
        all_goals go_ret
        all_goals exact ⟨ret_bool (by simp), HB.out⟩
  · have hl1 : (1048576 : Int) < n := by omega
    go_enter Try.func7, Try.ntmps7
    go_wp2
    go_ret
    exact ⟨rfl, Below.refl _ _⟩
set_option maxRecDepth 100000 in
theorem lifted (os : Os) (started : os.Started) (H : Type) (enc : TypeId × Value → H) :
    ReturnsInHanded {} Try.checked os 7 .any (Rows.fnCoverRectsSpec.pre6 enc Try.prog Try.f7 Rows.fnCoverRectsRow.domain false) (Rows.fnCoverRectsSpec.post enc Try.prog Try.f7 false true false false) := by
  refine returnsInHanded_of_change (C := Try.checked) own started (by kernel_rfl) Try.func7
    (ChangeSpec.witness6 (enc := enc) (C := Try.checked) false ⟨#[], #[.slice none 0 0], []⟩ 8 (by kernel_rfl) (by kernel_rfl) (by kernel_rfl) (by kernel_rfl)) ?_
  intro W base args ds gs before hval0 hW hcnd _
  have hval : ∀ (j : Nat) t v, Try.f7.params[j]? = some t → args[j]? = some v → Value.okWide Try.prog W .any base t v := hval0
  have hW' := hW
  obtain ⟨p, q, hA0, hV, rfl, hfz, hnd⟩ := hW
  have hA : DataW.TrodAll enc Try.prog W 0 (fun _ => true) true Try.f7.params.toList args.toList ds p := hA0
  rw [Try.params7] at hA hval
  obtain ⟨v0, vs0, d0, ds0, p0, q0, hargs, rfl, rfl, h0, r0⟩ := trodAll_cons hA
  obtain ⟨rfl, rfl, rfl⟩ := trodAll_nil r0
  obtain rfl : args = #[v0] := by cases args; simp_all
  obtain ⟨rfl, rfl⟩ := trodVars_none hV
  have k0 := h0
  have lt0 : ∀ x ∈ p0, x.block < W.heap.size := by obtain ⟨m, hm⟩ := k0; exact DataW.trod_lt m _ _ _ hm
  obtain ⟨a0, len0, cap0, rfl⟩ := okWide_slice Try.underlying22 (hval 0 22 v0 rfl rfl)
  obtain ⟨z0, wz0⟩ : ∃ zs, IsRow .u8 W a0 len0 cap0 zs := by
    obtain ⟨fuel, hf⟩ := h0
    rcases open_ints Try.underlying22 Try.underlying5 (by kernel_rfl) hf with ⟨hcs, _⟩ | ⟨x, l, c, zs, hcs, _, hl, hm, hz, _, hcell, hwz⟩
    · simp [Value.cells] at hcs
      obtain ⟨rfl, rfl, rfl⟩ := hcs
      exact ⟨[], .inl ⟨rfl, rfl, rfl, rfl⟩⟩
    · simp [Value.cells] at hcs
      obtain ⟨rfl, rfl, rfl⟩ := hcs
      exact ⟨zs, .inr ⟨_, rfl, hl, hm, by simpa using hz, hcell, hwz⟩⟩
  clear hA0 hval0
  refine (walk a0 len0 cap0 z0 W wz0).mono fun e W' ⟨he, bel⟩ => ?_
  subst he
  exact ⟨_, rfl, _, _, _, [], _, [], hW', trodAll_mk1 (shut_bool Try.underlying4 _), (trodAll_cons_mk (Below.trod laidOut (by kernel_rfl) (of_decide_eq_true (by kernel_rfl)) k0 bel lt0) trodAll_mk0), rfl, bel.frame _, fun h => by cases h⟩
theorem over : Rows.fnCoverRectsRow.holds Try.pinned (OpenSpec.ofChange Rows.fnCoverRectsSpec) :=
  OpenClaim.holds_of_wide 7 Try.f7 rfl rfl rfl rfl rfl rfl rfl ⟨rfl, rfl, rfl, rfl, rfl⟩ rfl rfl rfl rfl rfl (by kernel_rfl) Try.func7 (by kernel_rfl)
    (of_decide_eq_true (by kernel_rfl)) (by unfold Func.isWrapper; first | (rw [if_pos (by decide +kernel)]; kernel_rfl) | (rw [if_neg (by decide +kernel)]; exact ⟨rfl, rfl⟩))
    (fun os started H enc _ => lifted os started H enc)
theorem proved : Rows.FnCoverRectsSaid := over
end Go.Proofs.Ytfhjmmajhohkjad.lCoverRects
