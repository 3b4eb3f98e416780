/- FnCutRect: for every code the law returns true. No condition. -/
import Derived.Test.YtogpdpjheknkjacFr
import Derived.Test.YtogpdpjheknkjacKB
import Derived.Test.YtogpdpjheknkjacKC
import Derived.Test.YtogpdpjheknkjacG5
import Derived.Test.YtogpdpjheknkjacD8
import Derived.Test.YtogpdpjheknkjacS9
namespace Go.Proofs.Ytogpdpjheknkjac.lCutRect
open Go.ChangeShapes Go.WideShapes Go.ChangeAt Go.RowKit Go.Joins
set_option linter.unusedVariables false
attribute [local go_sem 5000] run_mx run_mn run_eqlR run_neqR
attribute [local go_sem] growUpon_value growUpon_skip growUpon_enter
set_option maxHeartbeats 1000000
def CutV (x y u v s m PX PY PU PV QX QY QU QV : Int) : Prop := (∀ w : World, Calls Try.prog 28 #[.agg #[.int .i64 (x), .int .i64 (y), .int .i64 (u), .int .i64 (v)], .int .i64 s, .int .i64 m] w fun e w' => e = .returned (.tuple #[.agg #[.int .i64 (PX), .int .i64 (PY), .int .i64 (PU), .int .i64 (PV)], .agg #[.int .i64 (QX), .int .i64 (QY), .int .i64 (QU), .int .i64 (QV)]]) ∧ Below w.heap.size w w') ∧ (∀ w : World, Calls Try.prog 29 #[.agg #[.int .i64 (x), .int .i64 (y), .int .i64 (u), .int .i64 (v)], .int .i64 s, .int .i64 m] w fun e w' => e = .returned (.tuple #[.agg #[.int .i64 (PX), .int .i64 (PY), .int .i64 (PU), .int .i64 (PV)], .agg #[.int .i64 (QX), .int .i64 (QY), .int .i64 (QU), .int .i64 (QV)]]) ∧ Below w.heap.size w w')
theorem cutM {x y u v PX PY PU PV QX QY QU QV : Int} (h : vr x y u v = true) (hP : vr PX PY PU PV = true) (hQ : vr QX QY QU QV = true)
    (hs : (PX = x ∧ QX = x ∧ PU = u ∧ QU = u ∧ ((PY = y ∧ QY = y + PV) ∨ (QY = y ∧ PY = y + QV)) ∧ PV + QV = v) ∨ (PY = y ∧ QY = y ∧ PV = v ∧ QV = v ∧ ((PX = x ∧ QX = x + PU) ∨ (QX = x ∧ PX = x + QU)) ∧ PU + QU = u)) :
    (vr x y u v && (vr PX PY PU PV && insB x y u v PX PY PU PV)) = true ∧ (vr x y u v && (vr QX QY QU QV && insB x y u v QX QY QU QV)) = true ∧ meetB PX PY PU PV QX QY QU QV = false ∧
    (coverB PX PY PU PV QX QY QU QV = true ∧ mn PX QX = x ∧ mn PY QY = y ∧ mx (PX + PU) (QX + QU) - x = u ∧ mx (PY + PV) (QY + QV) - y = v) ∧ PU * PV + QU * QV = u * v := by
  obtain ⟨a1, a2, a3, a4, a5, a6, a7, a8⟩ := vr_iff.1 h
  obtain ⟨b1, b2, b3, b4, b5, b6, b7, b8⟩ := vr_iff.1 hP
  obtain ⟨c1, c2, c3, c4, c5, c6, c7, c8⟩ := vr_iff.1 hQ
  have m1 := mn_spec PX QX
  have m2 := mn_spec PY QY
  have m3 := mx_spec (PX + PU) (QX + QU)
  have m4 := mx_spec (PY + PV) (QY + QV)
  have n1 := mx_spec PX QX
  have n2 := mx_spec PY QY
  have n3 := mn_spec (PX + PU) (QX + QU)
  have n4 := mn_spec (PY + PV) (QY + QV)
  have e1 : mn PX QX = x := by omega
  have e2 : mn PY QY = y := by omega
  have e3 : mx (PX + PU) (QX + QU) - x = u := by omega
  have e4 : mx (PY + PV) (QY + QV) - y = v := by omega
  refine ⟨?_, ?_, ?_, ⟨?_, e1, e2, e3, e4⟩, ?_⟩
  · rw [h, hP, Bool.true_and, Bool.true_and, insB_iff]; omega
  · rw [h, hQ, Bool.true_and, Bool.true_and, insB_iff]; omega
  · have : hitB PX PY PU PV QX QY QU QV = false := by rw [hitB_not]; omega
    simp [meetB, this]
  · have : covB PX PY PU PV QX QY QU QV = true := by unfold covB; rw [e1, e2, e3, e4]; exact h
    simp [coverB, hP, hQ, this]
  · rcases hs with ⟨_, _, r1, r2, _, r3⟩ | ⟨_, _, r1, r2, _, r3⟩
    · rw [r1, r2, ← Int.mul_add, r3]
    · rw [r1, r2, ← Int.add_mul, r3]
theorem cutF {x y u v s m : Int} (h : ctB x y u v s m = true) : ∃ PX PY PU PV QX QY QU QV : Int, CutV x y u v s m PX PY PU PV QX QY QU QV ∧ (vr x y u v = true ∧ vr PX PY PU PV = true ∧ vr QX QY QU QV = true) ∧ ((0 ≤ s ∧ s ≤ 3) ∧ (0 ≤ m ∧ m ≤ 400)) ∧
    ((PX = x ∧ QX = x ∧ PU = u ∧ QU = u ∧ ((PY = y ∧ QY = y + PV) ∨ (QY = y ∧ PY = y + QV)) ∧ PV + QV = v) ∨ (PY = y ∧ QY = y ∧ PV = v ∧ QV = v ∧ ((PX = x ∧ QX = x + PU) ∨ (QX = x ∧ PX = x + QU)) ∧ PU + QU = u)) := by
  obtain ⟨h1, h2, h3⟩ := ctB_yes h
  obtain ⟨a1, a2, a3, a4, a5, a6, a7, a8⟩ := vr_iff.1 h1
  obtain ⟨b1, b2⟩ := rng_iff.1 h2
  obtain ⟨b3, b4⟩ := rng_iff.1 h3
  have m1 := mn_spec m u
  have m2 := mn_spec m v
  have hs : s = 0 ∨ s = 1 ∨ s = 2 ∨ s = 3 := by omega
  rcases hs with rfl | rfl | rfl | rfl
  · exact ⟨_, _, _, _, _, _, _, _, ⟨fun w => CutRect0_yes x y u v m w h1 h3, fun w => sCutRect0_yes x y u v m w h1 h3⟩, ⟨h1, by rw [vr_iff]; omega, by rw [vr_iff]; omega⟩, by omega, by omega⟩
  · exact ⟨_, _, _, _, _, _, _, _, ⟨fun w => CutRect1_yes x y u v m w h1 h3, fun w => sCutRect1_yes x y u v m w h1 h3⟩, ⟨h1, by rw [vr_iff]; omega, by rw [vr_iff]; omega⟩, by omega, by omega⟩
  · exact ⟨_, _, _, _, _, _, _, _, ⟨fun w => CutRect2_yes x y u v m w h1 h3, fun w => sCutRect2_yes x y u v m w h1 h3⟩, ⟨h1, by rw [vr_iff]; omega, by rw [vr_iff]; omega⟩, by omega, by omega⟩
  · exact ⟨_, _, _, _, _, _, _, _, ⟨fun w => CutRect3_yes x y u v m w h1 h3, fun w => sCutRect3_yes x y u v m w h1 h3⟩, ⟨h1, by rw [vr_iff]; omega, by rw [vr_iff]; omega⟩, by omega, by omega⟩
theorem cut5 {x y u v s m : Int} (h : ctB x y u v s m = false) : vr x y u v = false ∨ (vr x y u v = true ∧ s < 0) ∨ (vr x y u v = true ∧ 0 ≤ s ∧ 3 < s) ∨ (vr x y u v = true ∧ (0 ≤ s ∧ s ≤ 3) ∧ m < 0) ∨ (vr x y u v = true ∧ (0 ≤ s ∧ s ≤ 3) ∧ 0 ≤ m ∧ 400 < m) := by
  cases h1 : vr x y u v
  · exact .inl rfl
  · have h2 : ¬ (rng s 0 3 = true ∧ rng m 0 400 = true) := fun ⟨a, b⟩ => by simp [ctB, h1, a, b] at h
    rw [rng_iff, rng_iff] at h2
    by_cases a : s < 0
    · exact .inr (.inl ⟨rfl, a⟩)
    · by_cases b : 3 < s
      · exact .inr (.inr (.inl ⟨rfl, by omega, b⟩))
      · by_cases c : m < 0
        · exact .inr (.inr (.inr (.inl ⟨rfl, by omega, c⟩)))
        · exact .inr (.inr (.inr (.inr ⟨rfl, by omega, by omega, by omega⟩)))
set_option maxRecDepth 100000 in
theorem walk (A : Option Addr) (n c : Nat) (z : List Int) (w : World) (wz : IsRow .u8 w A n c z) : Calls Try.prog 8 #[.slice A n c] w fun e w' => e = .returned (.bool true) ∧ Below w.heap.size w w' := by
  obtain ⟨hb, hn, hc⟩ := wz.bts
  clear wz
  by_cases hlen : n ≤ 1048576
  · have hl1 : ¬ (1048576 : Int) < n := by omega
    go_enter Try.func8, Try.ntmps8
    go_wp2_with fail
    with_reducible refine (DrawCutRect_any A n c _ hb hn hc).mono ?_
    rintro e w1 ⟨⟨x, y, u, v, s, m, rfl⟩, hB⟩
    have hX := BX.nil w1
    cases h : ctB x y u v s m
    · skip
      rcases cut5 h with hv | ⟨hv, hp⟩ | ⟨hv, hp, hp'⟩ | ⟨hv, ⟨hp, hp'⟩, hq⟩ | ⟨hv, ⟨hp, hp'⟩, hq, hq'⟩
      · skip
        have ez : eqR 0 0 0 0 0 0 0 0 = true := eqR_self
        have HX := Lib.hid hX
        have HB := Lib.hid hB
        clear hX hB
        go_wp2_with fail
        with_reducible refine (CutRect_no x y u v s m _ h).mono ?_
        rintro e w2 ⟨rfl, hb2⟩
        have hX := (HX.out.alloc _).below hb2
        have hB := bkeep2 (balloc' HB.out) hb2
        clear HX HB hb2
        try simp only [World.size_alloc] at hX
        have hY := hX
        obtain ⟨b0_0, b0_1, b0_2, b0_3, -⟩ := b4 hY.head
        have bl0 := lt_of_heap hY.head
        have bn0 := Nat.ne_of_lt bl0
        have bm0 := Nat.ne_of_lt (Nat.lt_succ_of_lt bl0)
        simp only [Nat.succ_eq_add_one] at bm0
        clear hY
        have HX := Lib.hid hX
        have HB := Lib.hid hB
        clear hX hB
        go_wp2_with fail
        with_reducible refine (sCutRect_no x y u v s m _ h).mono ?_
        rintro e w3 ⟨rfl, hb3⟩
        clear b0_0 b0_1 b0_2 b0_3 bl0 bn0 bm0
        have hX := ((HX.out.alloc _).alloc _).below hb3
        have hB := bkeep2 (balloc' (balloc' HB.out)) hb3
        clear HX HB hb3
        try simp only [World.size_alloc] at hX
        have hY := hX
        obtain ⟨b0_0, b0_1, b0_2, b0_3, -⟩ := b4 hY.head
        have bl0 := lt_of_heap hY.head
        have bn0 := Nat.ne_of_lt bl0
        have bm0 := Nat.ne_of_lt (Nat.lt_succ_of_lt bl0)
        simp only [Nat.succ_eq_add_one] at bm0
        replace hY := hY.tail
        obtain ⟨b1_0, b1_1, b1_2, b1_3, -⟩ := b4 hY.head
        have bl1 := lt_of_heap hY.head
        have bn1 := Nat.ne_of_lt bl1
        have bm1 := Nat.ne_of_lt (Nat.lt_succ_of_lt bl1)
        simp only [Nat.succ_eq_add_one] at bm1
        replace hY := hY.tail
        obtain ⟨b2_0, b2_1, b2_2, b2_3, -⟩ := b4 hY.head
        have bl2 := lt_of_heap hY.head
        have bn2 := Nat.ne_of_lt bl2
        have bm2 := Nat.ne_of_lt (Nat.lt_succ_of_lt bl2)
        simp only [Nat.succ_eq_add_one] at bm2
        clear hY
        have HX := Lib.hid hX
        have HB := Lib.hid hB
        clear hX hB
        go_wp2_with fail
        with_reducible refine (vr_b x y u v false hv _).mono ?_
        rintro e w4 ⟨rfl, hb4⟩
        clear b0_0 b0_1 b0_2 b0_3 b1_0 b1_1 b1_2 b1_3 b2_0 b2_1 b2_2 b2_3 bl0 bn0 bm0 bl1 bn1 bm1 bl2 bn2 bm2
        have hX := ((HX.out.alloc _).alloc _).below hb4
        have hB := bkeep2 (balloc' (balloc' HB.out)) hb4
        clear HX HB hb4
        try simp only [World.size_alloc] at hX
        have hY := hX
        obtain ⟨b0_0, b0_1, b0_2, b0_3, -⟩ := b4 hY.head
        have bl0 := lt_of_heap hY.head
        have bn0 := Nat.ne_of_lt bl0
        have bm0 := Nat.ne_of_lt (Nat.lt_succ_of_lt bl0)
        simp only [Nat.succ_eq_add_one] at bm0
        replace hY := hY.tail
        obtain ⟨b1_0, b1_1, b1_2, b1_3, -⟩ := b4 hY.head
        have bl1 := lt_of_heap hY.head
        have bn1 := Nat.ne_of_lt bl1
        have bm1 := Nat.ne_of_lt (Nat.lt_succ_of_lt bl1)
        simp only [Nat.succ_eq_add_one] at bm1
        replace hY := hY.tail
        obtain ⟨b2_0, b2_1, b2_2, b2_3, -⟩ := b4 hY.head
        have bl2 := lt_of_heap hY.head
        have bn2 := Nat.ne_of_lt bl2
        have bm2 := Nat.ne_of_lt (Nat.lt_succ_of_lt bl2)
        simp only [Nat.succ_eq_add_one] at bm2
        replace hY := hY.tail
        obtain ⟨b3_0, b3_1, b3_2, b3_3, -⟩ := b4 hY.head
        have bl3 := lt_of_heap hY.head
        have bn3 := Nat.ne_of_lt bl3
        have bm3 := Nat.ne_of_lt (Nat.lt_succ_of_lt bl3)
        simp only [Nat.succ_eq_add_one] at bm3
        replace hY := hY.tail
        obtain ⟨b4_0, b4_1, b4_2, b4_3, -⟩ := b4 hY.head
        have bl4 := lt_of_heap hY.head
        have bn4 := Nat.ne_of_lt bl4
        have bm4 := Nat.ne_of_lt (Nat.lt_succ_of_lt bl4)
        simp only [Nat.succ_eq_add_one] at bm4
        clear hY
        have HB := Lib.hid hB
        clear hX hB
        go_wp2
        all_goals go_ret
        all_goals exact ⟨ret_bool (by simp), HB.out⟩
      · skip
        have hd0 : decide (s < 0) = true := by simp; omega
        have ez : eqR 0 0 0 0 0 0 0 0 = true := eqR_self
        have HX := Lib.hid hX
        have HB := Lib.hid hB
        clear hX hB
        go_wp2_with fail
        with_reducible refine (CutRect_no x y u v s m _ h).mono ?_
        rintro e w2 ⟨rfl, hb2⟩
        have hX := (HX.out.alloc _).below hb2
        have hB := bkeep2 (balloc' HB.out) hb2
        clear HX HB hb2
        try simp only [World.size_alloc] at hX
        have hY := hX
        obtain ⟨b0_0, b0_1, b0_2, b0_3, -⟩ := b4 hY.head
        have bl0 := lt_of_heap hY.head
        have bn0 := Nat.ne_of_lt bl0
        have bm0 := Nat.ne_of_lt (Nat.lt_succ_of_lt bl0)
        simp only [Nat.succ_eq_add_one] at bm0
        clear hY
        have HX := Lib.hid hX
        have HB := Lib.hid hB
        clear hX hB
        go_wp2_with fail
        with_reducible refine (sCutRect_no x y u v s m _ h).mono ?_
        rintro e w3 ⟨rfl, hb3⟩
        clear b0_0 b0_1 b0_2 b0_3 bl0 bn0 bm0
        have hX := ((HX.out.alloc _).alloc _).below hb3
        have hB := bkeep2 (balloc' (balloc' HB.out)) hb3
        clear HX HB hb3
        try simp only [World.size_alloc] at hX
        have hY := hX
        obtain ⟨b0_0, b0_1, b0_2, b0_3, -⟩ := b4 hY.head
        have bl0 := lt_of_heap hY.head
        have bn0 := Nat.ne_of_lt bl0
        have bm0 := Nat.ne_of_lt (Nat.lt_succ_of_lt bl0)
        simp only [Nat.succ_eq_add_one] at bm0
        replace hY := hY.tail
        obtain ⟨b1_0, b1_1, b1_2, b1_3, -⟩ := b4 hY.head
        have bl1 := lt_of_heap hY.head
        have bn1 := Nat.ne_of_lt bl1
        have bm1 := Nat.ne_of_lt (Nat.lt_succ_of_lt bl1)
        simp only [Nat.succ_eq_add_one] at bm1
        replace hY := hY.tail
        obtain ⟨b2_0, b2_1, b2_2, b2_3, -⟩ := b4 hY.head
        have bl2 := lt_of_heap hY.head
        have bn2 := Nat.ne_of_lt bl2
        have bm2 := Nat.ne_of_lt (Nat.lt_succ_of_lt bl2)
        simp only [Nat.succ_eq_add_one] at bm2
        clear hY
        have HX := Lib.hid hX
        have HB := Lib.hid hB
        clear hX hB
        go_wp2_with fail
        with_reducible refine (vr_b x y u v true hv _).mono ?_
        rintro e w4 ⟨rfl, hb4⟩
        clear b0_0 b0_1 b0_2 b0_3 b1_0 b1_1 b1_2 b1_3 b2_0 b2_1 b2_2 b2_3 bl0 bn0 bm0 bl1 bn1 bm1 bl2 bn2 bm2
        have hX := ((HX.out.alloc _).alloc _).below hb4
        have hB := bkeep2 (balloc' (balloc' HB.out)) hb4
        clear HX HB hb4
        try simp only [World.size_alloc] at hX
        have hY := hX
        obtain ⟨b0_0, b0_1, b0_2, b0_3, -⟩ := b4 hY.head
        have bl0 := lt_of_heap hY.head
        have bn0 := Nat.ne_of_lt bl0
        have bm0 := Nat.ne_of_lt (Nat.lt_succ_of_lt bl0)
        simp only [Nat.succ_eq_add_one] at bm0
        replace hY := hY.tail
        obtain ⟨b1_0, b1_1, b1_2, b1_3, -⟩ := b4 hY.head
        have bl1 := lt_of_heap hY.head
        have bn1 := Nat.ne_of_lt bl1
        have bm1 := Nat.ne_of_lt (Nat.lt_succ_of_lt bl1)
        simp only [Nat.succ_eq_add_one] at bm1
        replace hY := hY.tail
        obtain ⟨b2_0, b2_1, b2_2, b2_3, -⟩ := b4 hY.head
        have bl2 := lt_of_heap hY.head
        have bn2 := Nat.ne_of_lt bl2
        have bm2 := Nat.ne_of_lt (Nat.lt_succ_of_lt bl2)
        simp only [Nat.succ_eq_add_one] at bm2
        replace hY := hY.tail
        obtain ⟨b3_0, b3_1, b3_2, b3_3, -⟩ := b4 hY.head
        have bl3 := lt_of_heap hY.head
        have bn3 := Nat.ne_of_lt bl3
        have bm3 := Nat.ne_of_lt (Nat.lt_succ_of_lt bl3)
        simp only [Nat.succ_eq_add_one] at bm3
        replace hY := hY.tail
        obtain ⟨b4_0, b4_1, b4_2, b4_3, -⟩ := b4 hY.head
        have bl4 := lt_of_heap hY.head
        have bn4 := Nat.ne_of_lt bl4
        have bm4 := Nat.ne_of_lt (Nat.lt_succ_of_lt bl4)
        simp only [Nat.succ_eq_add_one] at bm4
        clear hY
        have HB := Lib.hid hB
        clear hX hB
        go_wp2
        all_goals go_ret
        all_goals exact ⟨ret_bool (by simp), HB.out⟩
      · skip
        have hd0 : decide (s < 0) = false := by simp; omega
        have hd1 : decide (3 < s) = true := by simp; omega
        have ez : eqR 0 0 0 0 0 0 0 0 = true := eqR_self
        have HX := Lib.hid hX
        have HB := Lib.hid hB
        clear hX hB
        go_wp2_with fail
        with_reducible refine (CutRect_no x y u v s m _ h).mono ?_
        rintro e w2 ⟨rfl, hb2⟩
        have hX := (HX.out.alloc _).below hb2
        have hB := bkeep2 (balloc' HB.out) hb2
        clear HX HB hb2
        try simp only [World.size_alloc] at hX
        have hY := hX
        obtain ⟨b0_0, b0_1, b0_2, b0_3, -⟩ := b4 hY.head
        have bl0 := lt_of_heap hY.head
        have bn0 := Nat.ne_of_lt bl0
        have bm0 := Nat.ne_of_lt (Nat.lt_succ_of_lt bl0)
        simp only [Nat.succ_eq_add_one] at bm0
        clear hY
        have HX := Lib.hid hX
        have HB := Lib.hid hB
        clear hX hB
        go_wp2_with fail
        with_reducible refine (sCutRect_no x y u v s m _ h).mono ?_
        rintro e w3 ⟨rfl, hb3⟩
        clear b0_0 b0_1 b0_2 b0_3 bl0 bn0 bm0
        have hX := ((HX.out.alloc _).alloc _).below hb3
        have hB := bkeep2 (balloc' (balloc' HB.out)) hb3
        clear HX HB hb3
        try simp only [World.size_alloc] at hX
        have hY := hX
        obtain ⟨b0_0, b0_1, b0_2, b0_3, -⟩ := b4 hY.head
        have bl0 := lt_of_heap hY.head
        have bn0 := Nat.ne_of_lt bl0
        have bm0 := Nat.ne_of_lt (Nat.lt_succ_of_lt bl0)
        simp only [Nat.succ_eq_add_one] at bm0
        replace hY := hY.tail
        obtain ⟨b1_0, b1_1, b1_2, b1_3, -⟩ := b4 hY.head
        have bl1 := lt_of_heap hY.head
        have bn1 := Nat.ne_of_lt bl1
        have bm1 := Nat.ne_of_lt (Nat.lt_succ_of_lt bl1)
        simp only [Nat.succ_eq_add_one] at bm1
        replace hY := hY.tail
        obtain ⟨b2_0, b2_1, b2_2, b2_3, -⟩ := b4 hY.head
        have bl2 := lt_of_heap hY.head
        have bn2 := Nat.ne_of_lt bl2
        have bm2 := Nat.ne_of_lt (Nat.lt_succ_of_lt bl2)
        simp only [Nat.succ_eq_add_one] at bm2
        clear hY
        have HX := Lib.hid hX
        have HB := Lib.hid hB
        clear hX hB
        go_wp2_with fail
        with_reducible refine (vr_b x y u v true hv _).mono ?_
        rintro e w4 ⟨rfl, hb4⟩
        clear b0_0 b0_1 b0_2 b0_3 b1_0 b1_1 b1_2 b1_3 b2_0 b2_1 b2_2 b2_3 bl0 bn0 bm0 bl1 bn1 bm1 bl2 bn2 bm2
        have hX := ((HX.out.alloc _).alloc _).below hb4
        have hB := bkeep2 (balloc' (balloc' HB.out)) hb4
        clear HX HB hb4
        try simp only [World.size_alloc] at hX
        have hY := hX
        obtain ⟨b0_0, b0_1, b0_2, b0_3, -⟩ := b4 hY.head
        have bl0 := lt_of_heap hY.head
        have bn0 := Nat.ne_of_lt bl0
        have bm0 := Nat.ne_of_lt (Nat.lt_succ_of_lt bl0)
        simp only [Nat.succ_eq_add_one] at bm0
        replace hY := hY.tail
        obtain ⟨b1_0, b1_1, b1_2, b1_3, -⟩ := b4 hY.head
        have bl1 := lt_of_heap hY.head
        have bn1 := Nat.ne_of_lt bl1
        have bm1 := Nat.ne_of_lt (Nat.lt_succ_of_lt bl1)
        simp only [Nat.succ_eq_add_one] at bm1
        replace hY := hY.tail
        obtain ⟨b2_0, b2_1, b2_2, b2_3, -⟩ := b4 hY.head
        have bl2 := lt_of_heap hY.head
        have bn2 := Nat.ne_of_lt bl2
        have bm2 := Nat.ne_of_lt (Nat.lt_succ_of_lt bl2)
        simp only [Nat.succ_eq_add_one] at bm2
        replace hY := hY.tail
        obtain ⟨b3_0, b3_1, b3_2, b3_3, -⟩ := b4 hY.head
        have bl3 := lt_of_heap hY.head
        have bn3 := Nat.ne_of_lt bl3
        have bm3 := Nat.ne_of_lt (Nat.lt_succ_of_lt bl3)
        simp only [Nat.succ_eq_add_one] at bm3
        replace hY := hY.tail
        obtain ⟨b4_0, b4_1, b4_2, b4_3, -⟩ := b4 hY.head
        have bl4 := lt_of_heap hY.head
        have bn4 := Nat.ne_of_lt bl4
        have bm4 := Nat.ne_of_lt (Nat.lt_succ_of_lt bl4)
        simp only [Nat.succ_eq_add_one] at bm4
        clear hY
        have HB := Lib.hid hB
        clear hX hB
        go_wp2
        all_goals go_ret
        all_goals exact ⟨ret_bool (by simp), HB.out⟩
      · skip
        have hd0 : decide (s < 0) = false := by simp; omega
        have hd1 : decide (3 < s) = false := by simp; omega
        have hd2 : decide (m < 0) = true := by simp; omega
        have ez : eqR 0 0 0 0 0 0 0 0 = true := eqR_self
        have HX := Lib.hid hX
        have HB := Lib.hid hB
        clear hX hB
        go_wp2_with fail
        with_reducible refine (CutRect_no x y u v s m _ h).mono ?_
        rintro e w2 ⟨rfl, hb2⟩
        have hX := (HX.out.alloc _).below hb2
        have hB := bkeep2 (balloc' HB.out) hb2
        clear HX HB hb2
        try simp only [World.size_alloc] at hX
        have hY := hX
        obtain ⟨b0_0, b0_1, b0_2, b0_3, -⟩ := b4 hY.head
        have bl0 := lt_of_heap hY.head
        have bn0 := Nat.ne_of_lt bl0
        have bm0 := Nat.ne_of_lt (Nat.lt_succ_of_lt bl0)
        simp only [Nat.succ_eq_add_one] at bm0
        clear hY
        have HX := Lib.hid hX
        have HB := Lib.hid hB
        clear hX hB
        go_wp2_with fail
        with_reducible refine (sCutRect_no x y u v s m _ h).mono ?_
        rintro e w3 ⟨rfl, hb3⟩
        clear b0_0 b0_1 b0_2 b0_3 bl0 bn0 bm0
        have hX := ((HX.out.alloc _).alloc _).below hb3
        have hB := bkeep2 (balloc' (balloc' HB.out)) hb3
        clear HX HB hb3
        try simp only [World.size_alloc] at hX
        have hY := hX
        obtain ⟨b0_0, b0_1, b0_2, b0_3, -⟩ := b4 hY.head
        have bl0 := lt_of_heap hY.head
        have bn0 := Nat.ne_of_lt bl0
        have bm0 := Nat.ne_of_lt (Nat.lt_succ_of_lt bl0)
        simp only [Nat.succ_eq_add_one] at bm0
        replace hY := hY.tail
        obtain ⟨b1_0, b1_1, b1_2, b1_3, -⟩ := b4 hY.head
        have bl1 := lt_of_heap hY.head
        have bn1 := Nat.ne_of_lt bl1
        have bm1 := Nat.ne_of_lt (Nat.lt_succ_of_lt bl1)
        simp only [Nat.succ_eq_add_one] at bm1
        replace hY := hY.tail
        obtain ⟨b2_0, b2_1, b2_2, b2_3, -⟩ := b4 hY.head
        have bl2 := lt_of_heap hY.head
        have bn2 := Nat.ne_of_lt bl2
        have bm2 := Nat.ne_of_lt (Nat.lt_succ_of_lt bl2)
        simp only [Nat.succ_eq_add_one] at bm2
        clear hY
        have HX := Lib.hid hX
        have HB := Lib.hid hB
        clear hX hB
        go_wp2_with fail
        with_reducible refine (vr_b x y u v true hv _).mono ?_
        rintro e w4 ⟨rfl, hb4⟩
        clear b0_0 b0_1 b0_2 b0_3 b1_0 b1_1 b1_2 b1_3 b2_0 b2_1 b2_2 b2_3 bl0 bn0 bm0 bl1 bn1 bm1 bl2 bn2 bm2
        have hX := ((HX.out.alloc _).alloc _).below hb4
        have hB := bkeep2 (balloc' (balloc' HB.out)) hb4
        clear HX HB hb4
        try simp only [World.size_alloc] at hX
        have hY := hX
        obtain ⟨b0_0, b0_1, b0_2, b0_3, -⟩ := b4 hY.head
        have bl0 := lt_of_heap hY.head
        have bn0 := Nat.ne_of_lt bl0
        have bm0 := Nat.ne_of_lt (Nat.lt_succ_of_lt bl0)
        simp only [Nat.succ_eq_add_one] at bm0
        replace hY := hY.tail
        obtain ⟨b1_0, b1_1, b1_2, b1_3, -⟩ := b4 hY.head
        have bl1 := lt_of_heap hY.head
        have bn1 := Nat.ne_of_lt bl1
        have bm1 := Nat.ne_of_lt (Nat.lt_succ_of_lt bl1)
        simp only [Nat.succ_eq_add_one] at bm1
        replace hY := hY.tail
        obtain ⟨b2_0, b2_1, b2_2, b2_3, -⟩ := b4 hY.head
        have bl2 := lt_of_heap hY.head
        have bn2 := Nat.ne_of_lt bl2
        have bm2 := Nat.ne_of_lt (Nat.lt_succ_of_lt bl2)
        simp only [Nat.succ_eq_add_one] at bm2
        replace hY := hY.tail
        obtain ⟨b3_0, b3_1, b3_2, b3_3, -⟩ := b4 hY.head
        have bl3 := lt_of_heap hY.head
        have bn3 := Nat.ne_of_lt bl3
        have bm3 := Nat.ne_of_lt (Nat.lt_succ_of_lt bl3)
        simp only [Nat.succ_eq_add_one] at bm3
        replace hY := hY.tail
        obtain ⟨b4_0, b4_1, b4_2, b4_3, -⟩ := b4 hY.head
        have bl4 := lt_of_heap hY.head
        have bn4 := Nat.ne_of_lt bl4
        have bm4 := Nat.ne_of_lt (Nat.lt_succ_of_lt bl4)
        simp only [Nat.succ_eq_add_one] at bm4
        clear hY
        have HB := Lib.hid hB
        clear hX hB
        go_wp2
        all_goals go_ret
        all_goals exact ⟨ret_bool (by simp), HB.out⟩
      · skip
        have hd0 : decide (s < 0) = false := by simp; omega
        have hd1 : decide (3 < s) = false := by simp; omega
        have hd2 : decide (m < 0) = false := by simp; omega
        have hd3 : decide (400 < m) = true := by simp; omega
        have ez : eqR 0 0 0 0 0 0 0 0 = true := eqR_self
        have HX := Lib.hid hX
        have HB := Lib.hid hB
        clear hX hB
        go_wp2_with fail
        with_reducible refine (CutRect_no x y u v s m _ h).mono ?_
        rintro e w2 ⟨rfl, hb2⟩
        have hX := (HX.out.alloc _).below hb2
        have hB := bkeep2 (balloc' HB.out) hb2
        clear HX HB hb2
        try simp only [World.size_alloc] at hX
        have hY := hX
        obtain ⟨b0_0, b0_1, b0_2, b0_3, -⟩ := b4 hY.head
        have bl0 := lt_of_heap hY.head
        have bn0 := Nat.ne_of_lt bl0
        have bm0 := Nat.ne_of_lt (Nat.lt_succ_of_lt bl0)
        simp only [Nat.succ_eq_add_one] at bm0
        clear hY
        have HX := Lib.hid hX
        have HB := Lib.hid hB
        clear hX hB
        go_wp2_with fail
        with_reducible refine (sCutRect_no x y u v s m _ h).mono ?_
        rintro e w3 ⟨rfl, hb3⟩
        clear b0_0 b0_1 b0_2 b0_3 bl0 bn0 bm0
        have hX := ((HX.out.alloc _).alloc _).below hb3
        have hB := bkeep2 (balloc' (balloc' HB.out)) hb3
        clear HX HB hb3
        try simp only [World.size_alloc] at hX
        have hY := hX
        obtain ⟨b0_0, b0_1, b0_2, b0_3, -⟩ := b4 hY.head
        have bl0 := lt_of_heap hY.head
        have bn0 := Nat.ne_of_lt bl0
        have bm0 := Nat.ne_of_lt (Nat.lt_succ_of_lt bl0)
        simp only [Nat.succ_eq_add_one] at bm0
        replace hY := hY.tail
        obtain ⟨b1_0, b1_1, b1_2, b1_3, -⟩ := b4 hY.head
        have bl1 := lt_of_heap hY.head
        have bn1 := Nat.ne_of_lt bl1
        have bm1 := Nat.ne_of_lt (Nat.lt_succ_of_lt bl1)
        simp only [Nat.succ_eq_add_one] at bm1
        replace hY := hY.tail
        obtain ⟨b2_0, b2_1, b2_2, b2_3, -⟩ := b4 hY.head
        have bl2 := lt_of_heap hY.head
        have bn2 := Nat.ne_of_lt bl2
        have bm2 := Nat.ne_of_lt (Nat.lt_succ_of_lt bl2)
        simp only [Nat.succ_eq_add_one] at bm2
        clear hY
        have HX := Lib.hid hX
        have HB := Lib.hid hB
        clear hX hB
        go_wp2_with fail
        with_reducible refine (vr_b x y u v true hv _).mono ?_
        rintro e w4 ⟨rfl, hb4⟩
        clear b0_0 b0_1 b0_2 b0_3 b1_0 b1_1 b1_2 b1_3 b2_0 b2_1 b2_2 b2_3 bl0 bn0 bm0 bl1 bn1 bm1 bl2 bn2 bm2
        have hX := ((HX.out.alloc _).alloc _).below hb4
        have hB := bkeep2 (balloc' (balloc' HB.out)) hb4
        clear HX HB hb4
        try simp only [World.size_alloc] at hX
        have hY := hX
        obtain ⟨b0_0, b0_1, b0_2, b0_3, -⟩ := b4 hY.head
        have bl0 := lt_of_heap hY.head
        have bn0 := Nat.ne_of_lt bl0
        have bm0 := Nat.ne_of_lt (Nat.lt_succ_of_lt bl0)
        simp only [Nat.succ_eq_add_one] at bm0
        replace hY := hY.tail
        obtain ⟨b1_0, b1_1, b1_2, b1_3, -⟩ := b4 hY.head
        have bl1 := lt_of_heap hY.head
        have bn1 := Nat.ne_of_lt bl1
        have bm1 := Nat.ne_of_lt (Nat.lt_succ_of_lt bl1)
        simp only [Nat.succ_eq_add_one] at bm1
        replace hY := hY.tail
        obtain ⟨b2_0, b2_1, b2_2, b2_3, -⟩ := b4 hY.head
        have bl2 := lt_of_heap hY.head
        have bn2 := Nat.ne_of_lt bl2
        have bm2 := Nat.ne_of_lt (Nat.lt_succ_of_lt bl2)
        simp only [Nat.succ_eq_add_one] at bm2
        replace hY := hY.tail
        obtain ⟨b3_0, b3_1, b3_2, b3_3, -⟩ := b4 hY.head
        have bl3 := lt_of_heap hY.head
        have bn3 := Nat.ne_of_lt bl3
        have bm3 := Nat.ne_of_lt (Nat.lt_succ_of_lt bl3)
        simp only [Nat.succ_eq_add_one] at bm3
        replace hY := hY.tail
        obtain ⟨b4_0, b4_1, b4_2, b4_3, -⟩ := b4 hY.head
        have bl4 := lt_of_heap hY.head
        have bn4 := Nat.ne_of_lt bl4
        have bm4 := Nat.ne_of_lt (Nat.lt_succ_of_lt bl4)
        simp only [Nat.succ_eq_add_one] at bm4
        clear hY
        have HB := Lib.hid hB
        clear hX hB
        go_wp2
        all_goals go_ret
        all_goals exact ⟨ret_bool (by simp), HB.out⟩
    · skip
      obtain ⟨PX, PY, PU, PV, QX, QY, QU, QV, hC, ⟨hv, hP, hQ⟩, ⟨⟨t1, t2⟩, t3, t4⟩, hs⟩ := cutF h
      obtain ⟨hi1, hi2, hm, ⟨hc1, e1, e2, e3, e4⟩, hA⟩ := cutM hv hP hQ hs
      have HM := Lib.hid (And.intro e1 (And.intro e2 (And.intro e3 e4)))
      unfold CutV at hC
      obtain ⟨hCi, hCs⟩ := hC
      have HCi := Lib.hid hCi
      have HCs := Lib.hid hCs
      have z0 := Sz_vr hv
      have z1 := Sz_vr hP
      have z2 := Sz_vr hQ
      have hw : IntKind.i64.wrap (PU * PV + QU * QV) = u * v := by have := area_bds hv; rw [hA]; exact IntWalk.i64_in _ (by omega)
      clear e1 e2 e3 e4 hA hs hCi hCs
      have r1 : eqR PX PY PU PV PX PY PU PV = true := eqR_self
      have r2 : eqR QX QY QU QV QX QY QU QV = true := eqR_self
      have r3 : eqR x y u v x y u v = true := eqR_self
      have hd0 : decide (s < 0) = false := by simp; omega
      have hd1 : decide (3 < s) = false := by simp; omega
      have hd2 : decide (m < 0) = false := by simp; omega
      have hd3 : decide (400 < m) = false := by simp; omega
      have HX := Lib.hid hX
      have HB := Lib.hid hB
      clear hX hB
      go_wp2_with fail
      with_reducible refine (HCi.out _).mono ?_
      rintro e w2 ⟨rfl, hb2⟩
      have hX := (HX.out.alloc _).below hb2
      have hB := bkeep2 (balloc' HB.out) hb2
      clear HX HB hb2
      try simp only [World.size_alloc] at hX
      have hY := hX
      obtain ⟨b0_0, b0_1, b0_2, b0_3, -⟩ := b4 hY.head
      have bl0 := lt_of_heap hY.head
      have bn0 := Nat.ne_of_lt bl0
      have bm0 := Nat.ne_of_lt (Nat.lt_succ_of_lt bl0)
      simp only [Nat.succ_eq_add_one] at bm0
      clear hY
      have HX := Lib.hid hX
      have HB := Lib.hid hB
      clear hX hB
      go_wp2_with fail
      with_reducible refine (HCs.out _).mono ?_
      rintro e w3 ⟨rfl, hb3⟩
      clear b0_0 b0_1 b0_2 b0_3 bl0 bn0 bm0
      have hX := ((HX.out.alloc _).alloc _).below hb3
      have hB := bkeep2 (balloc' (balloc' HB.out)) hb3
      clear HX HB hb3
      try simp only [World.size_alloc] at hX
      have hY := hX
      obtain ⟨b0_0, b0_1, b0_2, b0_3, -⟩ := b4 hY.head
      have bl0 := lt_of_heap hY.head
      have bn0 := Nat.ne_of_lt bl0
      have bm0 := Nat.ne_of_lt (Nat.lt_succ_of_lt bl0)
      simp only [Nat.succ_eq_add_one] at bm0
      replace hY := hY.tail
      obtain ⟨b1_0, b1_1, b1_2, b1_3, -⟩ := b4 hY.head
      have bl1 := lt_of_heap hY.head
      have bn1 := Nat.ne_of_lt bl1
      have bm1 := Nat.ne_of_lt (Nat.lt_succ_of_lt bl1)
      simp only [Nat.succ_eq_add_one] at bm1
      replace hY := hY.tail
      obtain ⟨b2_0, b2_1, b2_2, b2_3, -⟩ := b4 hY.head
      have bl2 := lt_of_heap hY.head
      have bn2 := Nat.ne_of_lt bl2
      have bm2 := Nat.ne_of_lt (Nat.lt_succ_of_lt bl2)
      simp only [Nat.succ_eq_add_one] at bm2
      clear hY
      have HX := Lib.hid hX
      have HB := Lib.hid hB
      clear hX hB
      go_wp2_with fail
      with_reducible refine (vr_b x y u v true hv _).mono ?_
      rintro e w4 ⟨rfl, hb4⟩
      clear b0_0 b0_1 b0_2 b0_3 b1_0 b1_1 b1_2 b1_3 b2_0 b2_1 b2_2 b2_3 bl0 bn0 bm0 bl1 bn1 bm1 bl2 bn2 bm2
      have hX := ((HX.out.alloc _).alloc _).below hb4
      have hB := bkeep2 (balloc' (balloc' HB.out)) hb4
      clear HX HB hb4
      try simp only [World.size_alloc] at hX
      have hY := hX
      obtain ⟨b0_0, b0_1, b0_2, b0_3, -⟩ := b4 hY.head
      have bl0 := lt_of_heap hY.head
      have bn0 := Nat.ne_of_lt bl0
      have bm0 := Nat.ne_of_lt (Nat.lt_succ_of_lt bl0)
      simp only [Nat.succ_eq_add_one] at bm0
      replace hY := hY.tail
      obtain ⟨b1_0, b1_1, b1_2, b1_3, -⟩ := b4 hY.head
      have bl1 := lt_of_heap hY.head
      have bn1 := Nat.ne_of_lt bl1
      have bm1 := Nat.ne_of_lt (Nat.lt_succ_of_lt bl1)
      simp only [Nat.succ_eq_add_one] at bm1
      replace hY := hY.tail
      obtain ⟨b2_0, b2_1, b2_2, b2_3, -⟩ := b4 hY.head
      have bl2 := lt_of_heap hY.head
      have bn2 := Nat.ne_of_lt bl2
      have bm2 := Nat.ne_of_lt (Nat.lt_succ_of_lt bl2)
      simp only [Nat.succ_eq_add_one] at bm2
      replace hY := hY.tail
      obtain ⟨b3_0, b3_1, b3_2, b3_3, -⟩ := b4 hY.head
      have bl3 := lt_of_heap hY.head
      have bn3 := Nat.ne_of_lt bl3
      have bm3 := Nat.ne_of_lt (Nat.lt_succ_of_lt bl3)
      simp only [Nat.succ_eq_add_one] at bm3
      replace hY := hY.tail
      obtain ⟨b4_0, b4_1, b4_2, b4_3, -⟩ := b4 hY.head
      have bl4 := lt_of_heap hY.head
      have bn4 := Nat.ne_of_lt bl4
      have bm4 := Nat.ne_of_lt (Nat.lt_succ_of_lt bl4)
      simp only [Nat.succ_eq_add_one] at bm4
      clear hY
      have HX := Lib.hid hX
      have HB := Lib.hid hB
      clear hX hB
      go_wp2_with fail
      with_reducible refine (MeetRects_no PX PY PU PV QX QY QU QV _ hm).mono ?_
      rintro e w5 ⟨rfl, hb5⟩
      clear b0_0 b0_1 b0_2 b0_3 b1_0 b1_1 b1_2 b1_3 b2_0 b2_1 b2_2 b2_3 b3_0 b3_1 b3_2 b3_3 b4_0 b4_1 b4_2 b4_3 bl0 bn0 bm0 bl1 bn1 bm1 bl2 bn2 bm2 bl3 bn3 bm3 bl4 bn4 bm4
      have hX := HX.out.below hb5
      have hB := bkeep2 HB.out hb5
      clear HX HB hb5
      try simp only [World.size_alloc] at hX
      have hY := hX
      obtain ⟨b0_0, b0_1, b0_2, b0_3, -⟩ := b4 hY.head
      have bl0 := lt_of_heap hY.head
      have bn0 := Nat.ne_of_lt bl0
      have bm0 := Nat.ne_of_lt (Nat.lt_succ_of_lt bl0)
      simp only [Nat.succ_eq_add_one] at bm0
      replace hY := hY.tail
      obtain ⟨b1_0, b1_1, b1_2, b1_3, -⟩ := b4 hY.head
      have bl1 := lt_of_heap hY.head
      have bn1 := Nat.ne_of_lt bl1
      have bm1 := Nat.ne_of_lt (Nat.lt_succ_of_lt bl1)
      simp only [Nat.succ_eq_add_one] at bm1
      replace hY := hY.tail
      obtain ⟨b2_0, b2_1, b2_2, b2_3, -⟩ := b4 hY.head
      have bl2 := lt_of_heap hY.head
      have bn2 := Nat.ne_of_lt bl2
      have bm2 := Nat.ne_of_lt (Nat.lt_succ_of_lt bl2)
      simp only [Nat.succ_eq_add_one] at bm2
      replace hY := hY.tail
      obtain ⟨b3_0, b3_1, b3_2, b3_3, -⟩ := b4 hY.head
      have bl3 := lt_of_heap hY.head
      have bn3 := Nat.ne_of_lt bl3
      have bm3 := Nat.ne_of_lt (Nat.lt_succ_of_lt bl3)
      simp only [Nat.succ_eq_add_one] at bm3
      replace hY := hY.tail
      obtain ⟨b4_0, b4_1, b4_2, b4_3, -⟩ := b4 hY.head
      have bl4 := lt_of_heap hY.head
      have bn4 := Nat.ne_of_lt bl4
      have bm4 := Nat.ne_of_lt (Nat.lt_succ_of_lt bl4)
      simp only [Nat.succ_eq_add_one] at bm4
      clear hY
      have HX := Lib.hid hX
      have HB := Lib.hid hB
      clear hX hB
      go_wp2_with fail
      with_reducible refine (cover_v PX PY PU PV QX QY QU QV x y u v _ hc1 HM.out.1 HM.out.2.1 HM.out.2.2.1 HM.out.2.2.2).mono ?_
      rintro e w6 ⟨rfl, hb6⟩
      clear b0_0 b0_1 b0_2 b0_3 b1_0 b1_1 b1_2 b1_3 b2_0 b2_1 b2_2 b2_3 b3_0 b3_1 b3_2 b3_3 b4_0 b4_1 b4_2 b4_3 bl0 bn0 bm0 bl1 bn1 bm1 bl2 bn2 bm2 bl3 bn3 bm3 bl4 bn4 bm4
      have hX := (HX.out.alloc _).below hb6
      have hB := bkeep2 (balloc' HB.out) hb6
      clear HX HB hb6
      try simp only [World.size_alloc] at hX
      have hY := hX
      obtain ⟨b0_0, b0_1, b0_2, b0_3, -⟩ := b4 hY.head
      have bl0 := lt_of_heap hY.head
      have bn0 := Nat.ne_of_lt bl0
      have bm0 := Nat.ne_of_lt (Nat.lt_succ_of_lt bl0)
      simp only [Nat.succ_eq_add_one] at bm0
      replace hY := hY.tail
      obtain ⟨b1_0, b1_1, b1_2, b1_3, -⟩ := b4 hY.head
      have bl1 := lt_of_heap hY.head
      have bn1 := Nat.ne_of_lt bl1
      have bm1 := Nat.ne_of_lt (Nat.lt_succ_of_lt bl1)
      simp only [Nat.succ_eq_add_one] at bm1
      replace hY := hY.tail
      obtain ⟨b2_0, b2_1, b2_2, b2_3, -⟩ := b4 hY.head
      have bl2 := lt_of_heap hY.head
      have bn2 := Nat.ne_of_lt bl2
      have bm2 := Nat.ne_of_lt (Nat.lt_succ_of_lt bl2)
      simp only [Nat.succ_eq_add_one] at bm2
      replace hY := hY.tail
      obtain ⟨b3_0, b3_1, b3_2, b3_3, -⟩ := b4 hY.head
      have bl3 := lt_of_heap hY.head
      have bn3 := Nat.ne_of_lt bl3
      have bm3 := Nat.ne_of_lt (Nat.lt_succ_of_lt bl3)
      simp only [Nat.succ_eq_add_one] at bm3
      replace hY := hY.tail
      obtain ⟨b4_0, b4_1, b4_2, b4_3, -⟩ := b4 hY.head
      have bl4 := lt_of_heap hY.head
      have bn4 := Nat.ne_of_lt bl4
      have bm4 := Nat.ne_of_lt (Nat.lt_succ_of_lt bl4)
      simp only [Nat.succ_eq_add_one] at bm4
      replace hY := hY.tail
      obtain ⟨b5_0, b5_1, b5_2, b5_3, -⟩ := b4 hY.head
      have bl5 := lt_of_heap hY.head
      have bn5 := Nat.ne_of_lt bl5
      have bm5 := Nat.ne_of_lt (Nat.lt_succ_of_lt bl5)
      simp only [Nat.succ_eq_add_one] at bm5
      clear hY
      have HX := Lib.hid hX
      have HB := Lib.hid hB
      clear hX hB
      go_wp2_with fail
      refine wp_region_grow 30 1 (· < 30) (by kernel_rfl) (by kernel_rfl) rfl ?_
      iterate 30 (refine wpG_step (fun K hK => ?_); first | (refine grow_skip rfl ?_; go_simp; refine hK _ ?_; clear hK K) | (apply Exists.intro; refine ⟨.inl ⟨rfl, fun w' hw' => ?_⟩, ?_⟩; (focus ((obtain ⟨hc, hf⟩ := bcell hw'.out); (have hcS := bcellS hw'.out); go_simp <;> first | rfl | (go_at_call 32; exact area_any _ _ _ _ (by assumption) _) | (go_at_call 23; exact in_b _ _ _ _ _ _ _ _ true (by assumption) _))); (go_simp; refine hK _ ?_; clear hK K)))
      refine wpG_nil ?_
      refine wpK_tail (by kernel_rfl) (fun w7 hg7 => ?_)
      refine wpAny_one (i := 30) (by kernel_rfl) rfl rfl ?_
      go_simp
      refine wpAny_end (by kernel_rfl) ?_
      refine NoPan.thn ?_
      clear b0_0 b0_1 b0_2 b0_3 b1_0 b1_1 b1_2 b1_3 b2_0 b2_1 b2_2 b2_3 b3_0 b3_1 b3_2 b3_3 b4_0 b4_1 b4_2 b4_3 b5_0 b5_1 b5_2 b5_3 bl0 bn0 bm0 bl1 bn1 bm1 bl2 bn2 bm2 bl3 bn3 bm3 bl4 bn4 bm4 bl5 bn5 bm5
      have hb7 := hg7.out
      have hX := BX.below (BX.drew (HX.out.alloc _)) hb7
      have hB := bkeep2 (Below.drew (balloc' HB.out)) hb7
      clear HX HB hb7 hg7
      try simp only [World.size_alloc] at hX
      have hY := hX
      obtain ⟨b0_0, b0_1, b0_2, b0_3, -⟩ := b4 hY.head
      have bl0 := lt_of_heap hY.head
      have bn0 := Nat.ne_of_lt bl0
      have bm0 := Nat.ne_of_lt (Nat.lt_succ_of_lt bl0)
      simp only [Nat.succ_eq_add_one] at bm0
      replace hY := hY.tail
      obtain ⟨b1_0, b1_1, b1_2, b1_3, -⟩ := b4 hY.head
      have bl1 := lt_of_heap hY.head
      have bn1 := Nat.ne_of_lt bl1
      have bm1 := Nat.ne_of_lt (Nat.lt_succ_of_lt bl1)
      simp only [Nat.succ_eq_add_one] at bm1
      replace hY := hY.tail
      obtain ⟨b2_0, b2_1, b2_2, b2_3, -⟩ := b4 hY.head
      have bl2 := lt_of_heap hY.head
      have bn2 := Nat.ne_of_lt bl2
      have bm2 := Nat.ne_of_lt (Nat.lt_succ_of_lt bl2)
      simp only [Nat.succ_eq_add_one] at bm2
      replace hY := hY.tail
      obtain ⟨b3_0, b3_1, b3_2, b3_3, -⟩ := b4 hY.head
      have bl3 := lt_of_heap hY.head
      have bn3 := Nat.ne_of_lt bl3
      have bm3 := Nat.ne_of_lt (Nat.lt_succ_of_lt bl3)
      simp only [Nat.succ_eq_add_one] at bm3
      replace hY := hY.tail
      obtain ⟨b4_0, b4_1, b4_2, b4_3, -⟩ := b4 hY.head
      have bl4 := lt_of_heap hY.head
      have bn4 := Nat.ne_of_lt bl4
      have bm4 := Nat.ne_of_lt (Nat.lt_succ_of_lt bl4)
      simp only [Nat.succ_eq_add_one] at bm4
      replace hY := hY.tail
      obtain ⟨b5_0, b5_1, b5_2, b5_3, -⟩ := b4 hY.head
      have bl5 := lt_of_heap hY.head
      have bn5 := Nat.ne_of_lt bl5
      have bm5 := Nat.ne_of_lt (Nat.lt_succ_of_lt bl5)
      simp only [Nat.succ_eq_add_one] at bm5
      replace hY := hY.tail
      obtain ⟨b6_0, b6_1, b6_2, b6_3, -⟩ := b4 hY.head
      have bl6 := lt_of_heap hY.head
      have bn6 := Nat.ne_of_lt bl6
      have bm6 := Nat.ne_of_lt (Nat.lt_succ_of_lt bl6)
      simp only [Nat.succ_eq_add_one] at bm6
      clear hY
      have HB := Lib.hid hB
      clear hX hB
      go_wp2
      all_goals go_ret
      all_goals exact ⟨ret_bool (by simp), HB.out⟩
  · have hl1 : (1048576 : Int) < n := by omega
    go_enter Try.func8, Try.ntmps8
    go_wp2
    go_ret
    exact ⟨rfl, Below.refl _ _⟩
set_option maxRecDepth 100000 in
theorem lifted (os : Os) (started : os.Started) (H : Type) (enc : TypeId × Value → H) :
    ReturnsInHanded {} Try.checked os 8 .any (Rows.fnCutRectSpec.pre6 enc Try.prog Try.f8 Rows.fnCutRectRow.domain false) (Rows.fnCutRectSpec.post enc Try.prog Try.f8 false true false false) := by
  refine returnsInHanded_of_change (C := Try.checked) own started (by kernel_rfl) Try.func8
    (ChangeSpec.witness6 (enc := enc) (C := Try.checked) false ⟨#[], #[.slice none 0 0], []⟩ 8 (by kernel_rfl) (by kernel_rfl) (by kernel_rfl) (by kernel_rfl)) ?_
  intro W base args ds gs before hval0 hW hcnd _
  have hval : ∀ (j : Nat) t v, Try.f8.params[j]? = some t → args[j]? = some v → Value.okWide Try.prog W .any base t v := hval0
  have hW' := hW
  obtain ⟨p, q, hA0, hV, rfl, hfz, hnd⟩ := hW
  have hA : DataW.TrodAll enc Try.prog W 0 (fun _ => true) true Try.f8.params.toList args.toList ds p := hA0
  rw [Try.params8] at hA hval
  obtain ⟨v0, vs0, d0, ds0, p0, q0, hargs, rfl, rfl, h0, r0⟩ := trodAll_cons hA
  obtain ⟨rfl, rfl, rfl⟩ := trodAll_nil r0
  obtain rfl : args = #[v0] := by cases args; simp_all
  obtain ⟨rfl, rfl⟩ := trodVars_none hV
  have k0 := h0
  have lt0 : ∀ x ∈ p0, x.block < W.heap.size := by obtain ⟨m, hm⟩ := k0; exact DataW.trod_lt m _ _ _ hm
  obtain ⟨a0, len0, cap0, rfl⟩ := okWide_slice Try.underlying22 (hval 0 22 v0 rfl rfl)
  obtain ⟨z0, wz0⟩ : ∃ zs, IsRow .u8 W a0 len0 cap0 zs := by
    obtain ⟨fuel, hf⟩ := h0
    rcases open_ints Try.underlying22 Try.underlying5 (by kernel_rfl) hf with ⟨hcs, _⟩ | ⟨x, l, c, zs, hcs, _, hl, hm, hz, _, hcell, hwz⟩
    · simp [Value.cells] at hcs
      obtain ⟨rfl, rfl, rfl⟩ := hcs
      exact ⟨[], .inl ⟨rfl, rfl, rfl, rfl⟩⟩
    · simp [Value.cells] at hcs
      obtain ⟨rfl, rfl, rfl⟩ := hcs
      exact ⟨zs, .inr ⟨_, rfl, hl, hm, by simpa using hz, hcell, hwz⟩⟩
  clear hA0 hval0
  refine (walk a0 len0 cap0 z0 W wz0).mono fun e W' ⟨he, bel⟩ => ?_
  subst he
  exact ⟨_, rfl, _, _, _, [], _, [], hW', trodAll_mk1 (shut_bool Try.underlying4 _), (trodAll_cons_mk (Below.trod laidOut (by kernel_rfl) (of_decide_eq_true (by kernel_rfl)) k0 bel lt0) trodAll_mk0), rfl, bel.frame _, fun h => by cases h⟩
theorem over : Rows.fnCutRectRow.holds Try.pinned (OpenSpec.ofChange Rows.fnCutRectSpec) :=
  OpenClaim.holds_of_wide 8 Try.f8 rfl rfl rfl rfl rfl rfl rfl ⟨rfl, rfl, rfl, rfl, rfl⟩ rfl rfl rfl rfl rfl (by kernel_rfl) Try.func8 (by kernel_rfl)
    (of_decide_eq_true (by kernel_rfl)) (by unfold Func.isWrapper; first | (rw [if_pos (by decide +kernel)]; kernel_rfl) | (rw [if_neg (by decide +kernel)]; exact ⟨rfl, rfl⟩))
    (fun os started H enc _ => lifted os started H enc)
theorem proved : Rows.FnCutRectSaid := over
end Go.Proofs.Ytogpdpjheknkjac.lCutRect
