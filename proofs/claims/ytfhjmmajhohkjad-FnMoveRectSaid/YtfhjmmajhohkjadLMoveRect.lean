/- FnMoveRect: for every code the law returns true. No condition. -/
import Derived.Test.YtfhjmmajhohkjadQ04
namespace Go.Proofs.Ytfhjmmajhohkjad.lMoveRect
open Go.ChangeShapes Go.WideShapes Go.ChangeAt Go.RowKit Go.Joins
set_option linter.unusedVariables false
attribute [local go_sem 5000] run_mx run_mn run_eqlR run_neqR
attribute [local go_sem] growUpon_value growUpon_skip growUpon_enter
set_option maxHeartbeats 1000000
theorem moveF {x y u v p q : Int} (h : mvB x y u v p q = true) : ∃ X Y : Int, (x + p = X ∧ y + q = Y) ∧ (mvB X Y u v (-p) (-q) = true ∧ X + -p = x ∧ Y + -q = y) ∧ vr x y u v = true ∧ vr X Y u v = true ∧ (-1000 ≤ p ∧ p ≤ 1000) ∧ (-1000 ≤ q ∧ q ≤ 1000) := by
  obtain ⟨h1, h2, h3, h4⟩ := mvB_yes h
  have e1 : x + p + -p = x := by omega
  have e2 : y + q + -q = y := by omega
  rw [rng_iff] at h2 h3
  have r1 : rng (-p) (-1000) 1000 = true := rng_iff.2 (by omega)
  have r2 : rng (-q) (-1000) 1000 = true := rng_iff.2 (by omega)
  exact ⟨_, _, ⟨rfl, rfl⟩, ⟨by simp [mvB, h4, r1, r2, e1, e2, h1], e1, e2⟩, h1, h4, h2, h3⟩
theorem smove_v (x y u v p q X Y : Int) (w : World) (h : mvB x y u v p q = true) (hX : x + p = X) (hY : y + q = Y) :
    Calls Try.prog 24 #[.agg #[.int .i64 (x), .int .i64 (y), .int .i64 (u), .int .i64 (v)], .int .i64 p, .int .i64 q] w fun e w' => e = .returned (.tuple #[.agg #[.int .i64 (X), .int .i64 (Y), .int .i64 (u), .int .i64 (v)], .bool true]) ∧ Below w.heap.size w w' := by
  subst hX hY; exact sMoveRect_yes _ _ _ _ _ _ _ h
set_option maxRecDepth 100000 in
theorem walk (A : Option Addr) (n c : Nat) (z : List Int) (w : World) (wz : IsRow .u8 w A n c z) : Calls Try.prog 8 #[.slice A n c] w fun e w' => e = .returned (.bool true) ∧ Below w.heap.size w w' := by
  obtain ⟨hb, hn, hc⟩ := wz.bts
  clear wz
  by_cases hlen : n ≤ 1048576
  · have hl1 : ¬ (1048576 : Int) < n := by omega
    go_enter Try.func8, Try.ntmps8
    go_wp2_with fail
    with_reducible refine (DrawMoveRect_any A n c _ hb hn hc).mono ?_
    rintro e w1 ⟨⟨x, y, u, v, p, q, rfl⟩, hB⟩
    have hX := BX.nil w1
    cases h : mvB x y u v p q
    · skip
      have HX := Lib.hid hX
      have HB := Lib.hid hB
      clear hX hB
      go_wp2_with fail
      with_reducible refine (MoveRect_no x y u v p q _ h).mono ?_
      rintro e w2 ⟨rfl, hb2⟩
      have hX := (HX.out.alloc _).below hb2
      have hB := bkeep2 (balloc' HB.out) hb2
      clear HX HB hb2
      try simp only [World.size_alloc] at hX
      have hY := hX
      obtain ⟨b0_0, b0_1, b0_2, b0_3, -⟩ := b4 hY.head
      have bl0 := lt_of_heap hY.head
      have bn0 := Nat.ne_of_lt bl0
      have bm0 := Nat.ne_of_lt (Nat.lt_succ_of_lt bl0)
      simp only [Nat.succ_eq_add_one] at bm0
      clear hY
      have HX := Lib.hid hX
      have HB := Lib.hid hB
      clear hX hB
      go_wp2_with fail
      with_reducible refine (sMoveRect_no x y u v p q _ h).mono ?_
      rintro e w3 ⟨rfl, hb3⟩
      clear b0_0 b0_1 b0_2 b0_3 bl0 bn0 bm0
      have hX := (HX.out.alloc _).below hb3
      have hB := bkeep2 (balloc' HB.out) hb3
      clear HX HB hb3
      try simp only [World.size_alloc] at hX
      have hY := hX
      obtain ⟨b0_0, b0_1, b0_2, b0_3, -⟩ := b4 hY.head
      have bl0 := lt_of_heap hY.head
      have bn0 := Nat.ne_of_lt bl0
      have bm0 := Nat.ne_of_lt (Nat.lt_succ_of_lt bl0)
      simp only [Nat.succ_eq_add_one] at bm0
      replace hY := hY.tail
      obtain ⟨b1_0, b1_1, b1_2, b1_3, -⟩ := b4 hY.head
      have bl1 := lt_of_heap hY.head
      have bn1 := Nat.ne_of_lt bl1
      have bm1 := Nat.ne_of_lt (Nat.lt_succ_of_lt bl1)
      simp only [Nat.succ_eq_add_one] at bm1
      clear hY
      have HX := Lib.hid hX
      have HB := Lib.hid hB
      clear hX hB
      go_wp2_with fail
      with_reducible refine (equalRect_same 0 0 0 0 _).mono ?_
      rintro e w4 ⟨rfl, hb4⟩
      clear b0_0 b0_1 b0_2 b0_3 b1_0 b1_1 b1_2 b1_3 bl0 bn0 bm0 bl1 bn1 bm1
      have hX := (HX.out.alloc _).below hb4
      have hB := bkeep2 (balloc' HB.out) hb4
      clear HX HB hb4
      try simp only [World.size_alloc] at hX
      have hY := hX
      obtain ⟨b0_0, b0_1, b0_2, b0_3, -⟩ := b4 hY.head
      have bl0 := lt_of_heap hY.head
      have bn0 := Nat.ne_of_lt bl0
      have bm0 := Nat.ne_of_lt (Nat.lt_succ_of_lt bl0)
      simp only [Nat.succ_eq_add_one] at bm0
      replace hY := hY.tail
      obtain ⟨b1_0, b1_1, b1_2, b1_3, -⟩ := b4 hY.head
      have bl1 := lt_of_heap hY.head
      have bn1 := Nat.ne_of_lt bl1
      have bm1 := Nat.ne_of_lt (Nat.lt_succ_of_lt bl1)
      simp only [Nat.succ_eq_add_one] at bm1
      replace hY := hY.tail
      obtain ⟨b2_0, b2_1, b2_2, b2_3, -⟩ := b4 hY.head
      have bl2 := lt_of_heap hY.head
      have bn2 := Nat.ne_of_lt bl2
      have bm2 := Nat.ne_of_lt (Nat.lt_succ_of_lt bl2)
      simp only [Nat.succ_eq_add_one] at bm2
      clear hY
      have HX := Lib.hid hX
      have HB := Lib.hid hB
      clear hX hB
      go_wp2_with fail
      with_reducible refine (equalRect_same 0 0 0 0 _).mono ?_
      rintro e w5 ⟨rfl, hb5⟩
      clear b0_0 b0_1 b0_2 b0_3 b1_0 b1_1 b1_2 b1_3 b2_0 b2_1 b2_2 b2_3 bl0 bn0 bm0 bl1 bn1 bm1 bl2 bn2 bm2
      have hX := HX.out.below hb5
      have hB := bkeep2 HB.out hb5
      clear HX HB hb5
      try simp only [World.size_alloc] at hX
      have hY := hX
      obtain ⟨b0_0, b0_1, b0_2, b0_3, -⟩ := b4 hY.head
      have bl0 := lt_of_heap hY.head
      have bn0 := Nat.ne_of_lt bl0
      have bm0 := Nat.ne_of_lt (Nat.lt_succ_of_lt bl0)
      simp only [Nat.succ_eq_add_one] at bm0
      replace hY := hY.tail
      obtain ⟨b1_0, b1_1, b1_2, b1_3, -⟩ := b4 hY.head
      have bl1 := lt_of_heap hY.head
      have bn1 := Nat.ne_of_lt bl1
      have bm1 := Nat.ne_of_lt (Nat.lt_succ_of_lt bl1)
      simp only [Nat.succ_eq_add_one] at bm1
      replace hY := hY.tail
      obtain ⟨b2_0, b2_1, b2_2, b2_3, -⟩ := b4 hY.head
      have bl2 := lt_of_heap hY.head
      have bn2 := Nat.ne_of_lt bl2
      have bm2 := Nat.ne_of_lt (Nat.lt_succ_of_lt bl2)
      simp only [Nat.succ_eq_add_one] at bm2
      clear hY
      have HB := Lib.hid hB
      clear hX hB
      go_wp2
      all_goals go_ret
      all_goals exact ⟨ret_bool (by simp), HB.out⟩
    · skip
      obtain ⟨X, Y, ⟨hX1, hX2⟩, ⟨hs, hX3, hX4⟩, hv, hV, ⟨hp, hp'⟩, hq, hq'⟩ := moveF h
      have HM := Lib.hid (And.intro hX1 (And.intro hX2 (And.intro hX3 hX4)))
      clear hX1 hX2 hX3 hX4
      have es : eqR x y u v x y u v = true := eqR_self
      have HX := Lib.hid hX
      have HB := Lib.hid hB
      clear hX hB
      go_wp2_with fail
      with_reducible refine (move_v x y u v p q X Y _ h HM.out.1 HM.out.2.1).mono ?_
      rintro e w2 ⟨rfl, hb2⟩
      have hX := (HX.out.alloc _).below hb2
      have hB := bkeep2 (balloc' HB.out) hb2
      clear HX HB hb2
      try simp only [World.size_alloc] at hX
      have hY := hX
      obtain ⟨b0_0, b0_1, b0_2, b0_3, -⟩ := b4 hY.head
      have bl0 := lt_of_heap hY.head
      have bn0 := Nat.ne_of_lt bl0
      have bm0 := Nat.ne_of_lt (Nat.lt_succ_of_lt bl0)
      simp only [Nat.succ_eq_add_one] at bm0
      clear hY
      have HX := Lib.hid hX
      have HB := Lib.hid hB
      clear hX hB
      go_wp2_with fail
      with_reducible refine (smove_v x y u v p q X Y _ h HM.out.1 HM.out.2.1).mono ?_
      rintro e w3 ⟨rfl, hb3⟩
      clear b0_0 b0_1 b0_2 b0_3 bl0 bn0 bm0
      have hX := (HX.out.alloc _).below hb3
      have hB := bkeep2 (balloc' HB.out) hb3
      clear HX HB hb3
      try simp only [World.size_alloc] at hX
      have hY := hX
      obtain ⟨b0_0, b0_1, b0_2, b0_3, -⟩ := b4 hY.head
      have bl0 := lt_of_heap hY.head
      have bn0 := Nat.ne_of_lt bl0
      have bm0 := Nat.ne_of_lt (Nat.lt_succ_of_lt bl0)
      simp only [Nat.succ_eq_add_one] at bm0
      replace hY := hY.tail
      obtain ⟨b1_0, b1_1, b1_2, b1_3, -⟩ := b4 hY.head
      have bl1 := lt_of_heap hY.head
      have bn1 := Nat.ne_of_lt bl1
      have bm1 := Nat.ne_of_lt (Nat.lt_succ_of_lt bl1)
      simp only [Nat.succ_eq_add_one] at bm1
      clear hY
      have HX := Lib.hid hX
      have HB := Lib.hid hB
      clear hX hB
      go_wp2_with fail
      with_reducible refine (equalRect_same X Y u v _).mono ?_
      rintro e w4 ⟨rfl, hb4⟩
      clear b0_0 b0_1 b0_2 b0_3 b1_0 b1_1 b1_2 b1_3 bl0 bn0 bm0 bl1 bn1 bm1
      have hX := (HX.out.alloc _).below hb4
      have hB := bkeep2 (balloc' HB.out) hb4
      clear HX HB hb4
      try simp only [World.size_alloc] at hX
      have hY := hX
      obtain ⟨b0_0, b0_1, b0_2, b0_3, -⟩ := b4 hY.head
      have bl0 := lt_of_heap hY.head
      have bn0 := Nat.ne_of_lt bl0
      have bm0 := Nat.ne_of_lt (Nat.lt_succ_of_lt bl0)
      simp only [Nat.succ_eq_add_one] at bm0
      replace hY := hY.tail
      obtain ⟨b1_0, b1_1, b1_2, b1_3, -⟩ := b4 hY.head
      have bl1 := lt_of_heap hY.head
      have bn1 := Nat.ne_of_lt bl1
      have bm1 := Nat.ne_of_lt (Nat.lt_succ_of_lt bl1)
      simp only [Nat.succ_eq_add_one] at bm1
      replace hY := hY.tail
      obtain ⟨b2_0, b2_1, b2_2, b2_3, -⟩ := b4 hY.head
      have bl2 := lt_of_heap hY.head
      have bn2 := Nat.ne_of_lt bl2
      have bm2 := Nat.ne_of_lt (Nat.lt_succ_of_lt bl2)
      simp only [Nat.succ_eq_add_one] at bm2
      clear hY
      have HX := Lib.hid hX
      have HB := Lib.hid hB
      clear hX hB
      go_wp2_with fail
      with_reducible refine (move_v X Y u v (-p) (-q) x y _ hs HM.out.2.2.1 HM.out.2.2.2).mono ?_
      rintro e w5 ⟨rfl, hb5⟩
      clear b0_0 b0_1 b0_2 b0_3 b1_0 b1_1 b1_2 b1_3 b2_0 b2_1 b2_2 b2_3 bl0 bn0 bm0 bl1 bn1 bm1 bl2 bn2 bm2
      have hX := HX.out.below hb5
      have hB := bkeep2 HB.out hb5
      clear HX HB hb5
      try simp only [World.size_alloc] at hX
      have hY := hX
      obtain ⟨b0_0, b0_1, b0_2, b0_3, -⟩ := b4 hY.head
      have bl0 := lt_of_heap hY.head
      have bn0 := Nat.ne_of_lt bl0
      have bm0 := Nat.ne_of_lt (Nat.lt_succ_of_lt bl0)
      simp only [Nat.succ_eq_add_one] at bm0
      replace hY := hY.tail
      obtain ⟨b1_0, b1_1, b1_2, b1_3, -⟩ := b4 hY.head
      have bl1 := lt_of_heap hY.head
      have bn1 := Nat.ne_of_lt bl1
      have bm1 := Nat.ne_of_lt (Nat.lt_succ_of_lt bl1)
      simp only [Nat.succ_eq_add_one] at bm1
      replace hY := hY.tail
      obtain ⟨b2_0, b2_1, b2_2, b2_3, -⟩ := b4 hY.head
      have bl2 := lt_of_heap hY.head
      have bn2 := Nat.ne_of_lt bl2
      have bm2 := Nat.ne_of_lt (Nat.lt_succ_of_lt bl2)
      simp only [Nat.succ_eq_add_one] at bm2
      clear hY
      have HX := Lib.hid hX
      have HB := Lib.hid hB
      clear hX hB
      go_wp2_with fail
      refine wp_region_grow 13 1 (· < 13) (by kernel_rfl) (by kernel_rfl) rfl ?_
      iterate 13 (refine wpG_step (fun K hK => ?_); first | (refine grow_skip rfl ?_; go_simp; refine hK _ ?_; clear hK K) | (apply Exists.intro; refine ⟨.inl ⟨rfl, fun w' hw' => ?_⟩, ?_⟩; (focus ((obtain ⟨hc, hf⟩ := bcell hw'.out); (have hcS := bcellS hw'.out); go_simp <;> first | rfl | (go_at_call 25; exact AreaOf_yes _ _ _ _ _ (by assumption)))); (go_simp; refine hK _ ?_; clear hK K)))
      refine wpG_nil ?_
      refine wpK_tail (by kernel_rfl) (fun w6 hg6 => ?_)
      refine wpAny_one (i := 13) (by kernel_rfl) rfl rfl ?_
      go_simp
      refine wpAny_end (by kernel_rfl) ?_
      refine NoPan.thn ?_
      clear b0_0 b0_1 b0_2 b0_3 b1_0 b1_1 b1_2 b1_3 b2_0 b2_1 b2_2 b2_3 bl0 bn0 bm0 bl1 bn1 bm1 bl2 bn2 bm2
      have hb6 := hg6.out
      have hX := BX.below (BX.drew (HX.out.alloc _)) hb6
      have hB := bkeep2 (Below.drew (balloc' HB.out)) hb6
      clear HX HB hb6 hg6
      try simp only [World.size_alloc] at hX
      have hY := hX
      obtain ⟨b0_0, b0_1, b0_2, b0_3, -⟩ := b4 hY.head
      have bl0 := lt_of_heap hY.head
      have bn0 := Nat.ne_of_lt bl0
      have bm0 := Nat.ne_of_lt (Nat.lt_succ_of_lt bl0)
      simp only [Nat.succ_eq_add_one] at bm0
      replace hY := hY.tail
      obtain ⟨b1_0, b1_1, b1_2, b1_3, -⟩ := b4 hY.head
      have bl1 := lt_of_heap hY.head
      have bn1 := Nat.ne_of_lt bl1
      have bm1 := Nat.ne_of_lt (Nat.lt_succ_of_lt bl1)
      simp only [Nat.succ_eq_add_one] at bm1
      replace hY := hY.tail
      obtain ⟨b2_0, b2_1, b2_2, b2_3, -⟩ := b4 hY.head
      have bl2 := lt_of_heap hY.head
      have bn2 := Nat.ne_of_lt bl2
      have bm2 := Nat.ne_of_lt (Nat.lt_succ_of_lt bl2)
      simp only [Nat.succ_eq_add_one] at bm2
      replace hY := hY.tail
      obtain ⟨b3_0, b3_1, b3_2, b3_3, -⟩ := b4 hY.head
      have bl3 := lt_of_heap hY.head
      have bn3 := Nat.ne_of_lt bl3
      have bm3 := Nat.ne_of_lt (Nat.lt_succ_of_lt bl3)
      simp only [Nat.succ_eq_add_one] at bm3
      clear hY
      have HB := Lib.hid hB
      clear hX hB
      go_wp2
      all_goals go_ret
      all_goals exact ⟨ret_bool (by simp), HB.out⟩
  · have hl1 : (1048576 : Int) < n := by omega
    go_enter Try.func8, Try.ntmps8
    go_wp2
    go_ret
    exact ⟨rfl, Below.refl _ _⟩
set_option maxRecDepth 100000 in
theorem lifted (os : Os) (started : os.Started) (H : Type) (enc : TypeId × Value → H) :
    ReturnsInHanded {} Try.checked os 8 .any (Rows.fnMoveRectSpec.pre6 enc Try.prog Try.f8 Rows.fnMoveRectRow.domain false) (Rows.fnMoveRectSpec.post enc Try.prog Try.f8 false true false false) := by
  refine returnsInHanded_of_change (C := Try.checked) own started (by kernel_rfl) Try.func8
    (ChangeSpec.witness6 (enc := enc) (C := Try.checked) false ⟨#[], #[.slice none 0 0], []⟩ 8 (by kernel_rfl) (by kernel_rfl) (by kernel_rfl) (by kernel_rfl)) ?_
  intro W base args ds gs before hval0 hW hcnd _
  have hval : ∀ (j : Nat) t v, Try.f8.params[j]? = some t → args[j]? = some v → Value.okWide Try.prog W .any base t v := hval0
  have hW' := hW
  obtain ⟨p, q, hA0, hV, rfl, hfz, hnd⟩ := hW
  have hA : DataW.TrodAll enc Try.prog W 0 (fun _ => true) true Try.f8.params.toList args.toList ds p := hA0
  rw [Try.params8] at hA hval
  obtain ⟨v0, vs0, d0, ds0, p0, q0, hargs, rfl, rfl, h0, r0⟩ := trodAll_cons hA
  obtain ⟨rfl, rfl, rfl⟩ := trodAll_nil r0
  obtain rfl : args = #[v0] := by cases args; simp_all
  obtain ⟨rfl, rfl⟩ := trodVars_none hV
  have k0 := h0
  have lt0 : ∀ x ∈ p0, x.block < W.heap.size := by obtain ⟨m, hm⟩ := k0; exact DataW.trod_lt m _ _ _ hm
  obtain ⟨a0, len0, cap0, rfl⟩ := okWide_slice Try.underlying22 (hval 0 22 v0 rfl rfl)
  obtain ⟨z0, wz0⟩ : ∃ zs, IsRow .u8 W a0 len0 cap0 zs := by
    obtain ⟨fuel, hf⟩ := h0
    rcases open_ints Try.underlying22 Try.underlying5 (by kernel_rfl) hf with ⟨hcs, _⟩ | ⟨x, l, c, zs, hcs, _, hl, hm, hz, _, hcell, hwz⟩
    · simp [Value.cells] at hcs
      obtain ⟨rfl, rfl, rfl⟩ := hcs
      exact ⟨[], .inl ⟨rfl, rfl, rfl, rfl⟩⟩
    · simp [Value.cells] at hcs
      obtain ⟨rfl, rfl, rfl⟩ := hcs
      exact ⟨zs, .inr ⟨_, rfl, hl, hm, by simpa using hz, hcell, hwz⟩⟩
  clear hA0 hval0
  refine (walk a0 len0 cap0 z0 W wz0).mono fun e W' ⟨he, bel⟩ => ?_
  subst he
  exact ⟨_, rfl, _, _, _, [], _, [], hW', trodAll_mk1 (shut_bool Try.underlying4 _), (trodAll_cons_mk (Below.trod laidOut (by kernel_rfl) (of_decide_eq_true (by kernel_rfl)) k0 bel lt0) trodAll_mk0), rfl, bel.frame _, fun h => by cases h⟩
theorem over : Rows.fnMoveRectRow.holds Try.pinned (OpenSpec.ofChange Rows.fnMoveRectSpec) :=
  OpenClaim.holds_of_wide 8 Try.f8 rfl rfl rfl rfl rfl rfl rfl ⟨rfl, rfl, rfl, rfl, rfl⟩ rfl rfl rfl rfl rfl (by kernel_rfl) Try.func8 (by kernel_rfl)
    (of_decide_eq_true (by kernel_rfl)) (by unfold Func.isWrapper; first | (rw [if_pos (by decide +kernel)]; kernel_rfl) | (rw [if_neg (by decide +kernel)]; exact ⟨rfl, rfl⟩))
    (fun os started H enc _ => lifted os started H enc)
theorem proved : Rows.FnMoveRectSaid := over
end Go.Proofs.Ytfhjmmajhohkjad.lMoveRect
