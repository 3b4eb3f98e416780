/- FnHasPoint: for every code the law returns true. No condition. -/
import Derived.Test.YtogpdpjheknkjadFr
import Derived.Test.YtogpdpjheknkjadKB
import Derived.Test.YtogpdpjheknkjadKC
import Derived.Test.YtogpdpjheknkjadG6
namespace Go.Proofs.Ytogpdpjheknkjad.lHasPoint
open Go.ChangeShapes Go.WideShapes Go.ChangeAt Go.RowKit Go.Joins
set_option linter.unusedVariables false
attribute [local go_sem 5000] run_mx run_mn run_eqlR run_neqR
attribute [local go_sem] growUpon_value growUpon_skip growUpon_enter
set_option maxHeartbeats 1000000
theorem one_in {x y u v p q : Int} (h : vr x y u v = true) (h1 : vr p q 1 1 = true) : (vr x y u v && (vr p q 1 1 && insB x y u v p q 1 1)) = hpB x y u v p q := by
  rw [h, h1, Bool.true_and, Bool.true_and, Bool.eq_iff_iff, insB_iff, hpB_iff]; omega
set_option maxRecDepth 100000 in
theorem walk (A : Option Addr) (n c : Nat) (z : List Int) (w : World) (wz : IsRow .u8 w A n c z) : Calls Try.prog 4 #[.slice A n c] w fun e w' => e = .returned (.bool true) ∧ Below w.heap.size w w' := by
  obtain ⟨hb, hn, hc⟩ := wz.bts
  clear wz
  by_cases hlen : n ≤ 1048576
  · have hl1 : ¬ (1048576 : Int) < n := by omega
    go_enter Try.func4, Try.ntmps4
    go_wp2_with fail
    with_reducible refine (DrawHasPoint_any A n c _ hb hn hc).mono ?_
    rintro e w1 ⟨⟨x, y, u, v, p, q, rfl⟩, hB⟩
    have hX := BX.nil w1
    cases hv : vr x y u v
    · skip
      have HX := Lib.hid hX
      have HB := Lib.hid hB
      clear hX hB
      go_wp2_with fail
      with_reducible refine (HasPoint_no x y u v p q _ hv).mono ?_
      rintro e w2 ⟨rfl, hb2⟩
      have hX := (HX.out.alloc _).below hb2
      have hB := bkeep2 (balloc' HB.out) hb2
      clear HX HB hb2
      try simp only [World.size_alloc] at hX
      have hY := hX
      obtain ⟨b0_0, b0_1, b0_2, b0_3, -⟩ := b4 hY.head
      have bl0 := lt_of_heap hY.head
      have bn0 := Nat.ne_of_lt bl0
      have bm0 := Nat.ne_of_lt (Nat.lt_succ_of_lt bl0)
      simp only [Nat.succ_eq_add_one] at bm0
      clear hY
      have HX := Lib.hid hX
      have HB := Lib.hid hB
      clear hX hB
      go_wp2_with fail
      with_reducible refine (sHasPoint_no x y u v p q _ hv).mono ?_
      rintro e w3 ⟨rfl, hb3⟩
      clear b0_0 b0_1 b0_2 b0_3 bl0 bn0 bm0
      have hX := HX.out.below hb3
      have hB := bkeep2 HB.out hb3
      clear HX HB hb3
      try simp only [World.size_alloc] at hX
      have hY := hX
      obtain ⟨b0_0, b0_1, b0_2, b0_3, -⟩ := b4 hY.head
      have bl0 := lt_of_heap hY.head
      have bn0 := Nat.ne_of_lt bl0
      have bm0 := Nat.ne_of_lt (Nat.lt_succ_of_lt bl0)
      simp only [Nat.succ_eq_add_one] at bm0
      clear hY
      have HX := Lib.hid hX
      have HB := Lib.hid hB
      clear hX hB
      go_wp2_with fail
      with_reducible refine (validRect_any x y u v _).mono ?_
      rintro e w4 ⟨rfl, hb4⟩
      clear b0_0 b0_1 b0_2 b0_3 bl0 bn0 bm0
      have hX := HX.out.below hb4
      have hB := bkeep2 HB.out hb4
      clear HX HB hb4
      try simp only [World.size_alloc] at hX
      have hY := hX
      obtain ⟨b0_0, b0_1, b0_2, b0_3, -⟩ := b4 hY.head
      have bl0 := lt_of_heap hY.head
      have bn0 := Nat.ne_of_lt bl0
      have bm0 := Nat.ne_of_lt (Nat.lt_succ_of_lt bl0)
      simp only [Nat.succ_eq_add_one] at bm0
      clear hY
      have HX := Lib.hid hX
      have HB := Lib.hid hB
      clear hX hB
      go_wp2_with fail
      with_reducible refine (sHasPoint_no x y u v p q _ hv).mono ?_
      rintro e w5 ⟨rfl, hb5⟩
      clear b0_0 b0_1 b0_2 b0_3 bl0 bn0 bm0
      have hX := HX.out.below hb5
      have hB := bkeep2 HB.out hb5
      clear HX HB hb5
      try simp only [World.size_alloc] at hX
      have hY := hX
      obtain ⟨b0_0, b0_1, b0_2, b0_3, -⟩ := b4 hY.head
      have bl0 := lt_of_heap hY.head
      have bn0 := Nat.ne_of_lt bl0
      have bm0 := Nat.ne_of_lt (Nat.lt_succ_of_lt bl0)
      simp only [Nat.succ_eq_add_one] at bm0
      clear hY
      have HB := Lib.hid hB
      clear hX hB
      go_wp2
      all_goals go_ret
      all_goals exact ⟨ret_bool (by simp), HB.out⟩
    · skip
      cases hv1 : vr p q 1 1
      · skip
        have HX := Lib.hid hX
        have HB := Lib.hid hB
        clear hX hB
        go_wp2_with fail
        with_reducible refine (HasPoint_yes x y u v p q _ hv).mono ?_
        rintro e w2 ⟨rfl, hb2⟩
        have hX := (HX.out.alloc _).below hb2
        have hB := bkeep2 (balloc' HB.out) hb2
        clear HX HB hb2
        try simp only [World.size_alloc] at hX
        have hY := hX
        obtain ⟨b0_0, b0_1, b0_2, b0_3, -⟩ := b4 hY.head
        have bl0 := lt_of_heap hY.head
        have bn0 := Nat.ne_of_lt bl0
        have bm0 := Nat.ne_of_lt (Nat.lt_succ_of_lt bl0)
        simp only [Nat.succ_eq_add_one] at bm0
        clear hY
        have HX := Lib.hid hX
        have HB := Lib.hid hB
        clear hX hB
        go_wp2_with fail
        with_reducible refine (sHasPoint_yes x y u v p q _ hv).mono ?_
        rintro e w3 ⟨rfl, hb3⟩
        clear b0_0 b0_1 b0_2 b0_3 bl0 bn0 bm0
        have hX := HX.out.below hb3
        have hB := bkeep2 HB.out hb3
        clear HX HB hb3
        try simp only [World.size_alloc] at hX
        have hY := hX
        obtain ⟨b0_0, b0_1, b0_2, b0_3, -⟩ := b4 hY.head
        have bl0 := lt_of_heap hY.head
        have bn0 := Nat.ne_of_lt bl0
        have bm0 := Nat.ne_of_lt (Nat.lt_succ_of_lt bl0)
        simp only [Nat.succ_eq_add_one] at bm0
        clear hY
        have HX := Lib.hid hX
        have HB := Lib.hid hB
        clear hX hB
        go_wp2_with fail
        with_reducible refine (validRect_any x y u v _).mono ?_
        rintro e w4 ⟨rfl, hb4⟩
        clear b0_0 b0_1 b0_2 b0_3 bl0 bn0 bm0
        have hX := HX.out.below hb4
        have hB := bkeep2 HB.out hb4
        clear HX HB hb4
        try simp only [World.size_alloc] at hX
        have hY := hX
        obtain ⟨b0_0, b0_1, b0_2, b0_3, -⟩ := b4 hY.head
        have bl0 := lt_of_heap hY.head
        have bn0 := Nat.ne_of_lt bl0
        have bm0 := Nat.ne_of_lt (Nat.lt_succ_of_lt bl0)
        simp only [Nat.succ_eq_add_one] at bm0
        clear hY
        have HX := Lib.hid hX
        have HB := Lib.hid hB
        clear hX hB
        go_wp2_with fail
        with_reducible refine (validRect_any p q 1 1 _).mono ?_
        rintro e w5 ⟨rfl, hb5⟩
        clear b0_0 b0_1 b0_2 b0_3 bl0 bn0 bm0
        have hX := (HX.out.alloc _).below hb5
        have hB := bkeep2 (balloc' HB.out) hb5
        clear HX HB hb5
        try simp only [World.size_alloc] at hX
        have hY := hX
        obtain ⟨b0_0, b0_1, b0_2, b0_3, -⟩ := b4 hY.head
        have bl0 := lt_of_heap hY.head
        have bn0 := Nat.ne_of_lt bl0
        have bm0 := Nat.ne_of_lt (Nat.lt_succ_of_lt bl0)
        simp only [Nat.succ_eq_add_one] at bm0
        replace hY := hY.tail
        obtain ⟨b1_0, b1_1, b1_2, b1_3, -⟩ := b4 hY.head
        have bl1 := lt_of_heap hY.head
        have bn1 := Nat.ne_of_lt bl1
        have bm1 := Nat.ne_of_lt (Nat.lt_succ_of_lt bl1)
        simp only [Nat.succ_eq_add_one] at bm1
        clear hY
        have HB := Lib.hid hB
        clear hX hB
        go_wp2
        all_goals go_ret
        all_goals exact ⟨ret_bool (by simp), HB.out⟩
      · skip
        have hin := one_in hv hv1
        have HX := Lib.hid hX
        have HB := Lib.hid hB
        clear hX hB
        go_wp2_with fail
        with_reducible refine (HasPoint_yes x y u v p q _ hv).mono ?_
        rintro e w2 ⟨rfl, hb2⟩
        have hX := (HX.out.alloc _).below hb2
        have hB := bkeep2 (balloc' HB.out) hb2
        clear HX HB hb2
        try simp only [World.size_alloc] at hX
        have hY := hX
        obtain ⟨b0_0, b0_1, b0_2, b0_3, -⟩ := b4 hY.head
        have bl0 := lt_of_heap hY.head
        have bn0 := Nat.ne_of_lt bl0
        have bm0 := Nat.ne_of_lt (Nat.lt_succ_of_lt bl0)
        simp only [Nat.succ_eq_add_one] at bm0
        clear hY
        have HX := Lib.hid hX
        have HB := Lib.hid hB
        clear hX hB
        go_wp2_with fail
        with_reducible refine (sHasPoint_yes x y u v p q _ hv).mono ?_
        rintro e w3 ⟨rfl, hb3⟩
        clear b0_0 b0_1 b0_2 b0_3 bl0 bn0 bm0
        have hX := HX.out.below hb3
        have hB := bkeep2 HB.out hb3
        clear HX HB hb3
        try simp only [World.size_alloc] at hX
        have hY := hX
        obtain ⟨b0_0, b0_1, b0_2, b0_3, -⟩ := b4 hY.head
        have bl0 := lt_of_heap hY.head
        have bn0 := Nat.ne_of_lt bl0
        have bm0 := Nat.ne_of_lt (Nat.lt_succ_of_lt bl0)
        simp only [Nat.succ_eq_add_one] at bm0
        clear hY
        have HX := Lib.hid hX
        have HB := Lib.hid hB
        clear hX hB
        go_wp2_with fail
        with_reducible refine (validRect_any x y u v _).mono ?_
        rintro e w4 ⟨rfl, hb4⟩
        clear b0_0 b0_1 b0_2 b0_3 bl0 bn0 bm0
        have hX := HX.out.below hb4
        have hB := bkeep2 HB.out hb4
        clear HX HB hb4
        try simp only [World.size_alloc] at hX
        have hY := hX
        obtain ⟨b0_0, b0_1, b0_2, b0_3, -⟩ := b4 hY.head
        have bl0 := lt_of_heap hY.head
        have bn0 := Nat.ne_of_lt bl0
        have bm0 := Nat.ne_of_lt (Nat.lt_succ_of_lt bl0)
        simp only [Nat.succ_eq_add_one] at bm0
        clear hY
        have HX := Lib.hid hX
        have HB := Lib.hid hB
        clear hX hB
        go_wp2_with fail
        with_reducible refine (validRect_any p q 1 1 _).mono ?_
        rintro e w5 ⟨rfl, hb5⟩
        clear b0_0 b0_1 b0_2 b0_3 bl0 bn0 bm0
        have hX := (HX.out.alloc _).below hb5
        have hB := bkeep2 (balloc' HB.out) hb5
        clear HX HB hb5
        try simp only [World.size_alloc] at hX
        have hY := hX
        obtain ⟨b0_0, b0_1, b0_2, b0_3, -⟩ := b4 hY.head
        have bl0 := lt_of_heap hY.head
        have bn0 := Nat.ne_of_lt bl0
        have bm0 := Nat.ne_of_lt (Nat.lt_succ_of_lt bl0)
        simp only [Nat.succ_eq_add_one] at bm0
        replace hY := hY.tail
        obtain ⟨b1_0, b1_1, b1_2, b1_3, -⟩ := b4 hY.head
        have bl1 := lt_of_heap hY.head
        have bn1 := Nat.ne_of_lt bl1
        have bm1 := Nat.ne_of_lt (Nat.lt_succ_of_lt bl1)
        simp only [Nat.succ_eq_add_one] at bm1
        clear hY
        have HX := Lib.hid hX
        have HB := Lib.hid hB
        clear hX hB
        go_wp2_with fail
        with_reducible refine (in_b x y u v p q 1 1 _ hin _).mono ?_
        rintro e w6 ⟨rfl, hb6⟩
        clear b0_0 b0_1 b0_2 b0_3 b1_0 b1_1 b1_2 b1_3 bl0 bn0 bm0 bl1 bn1 bm1
        have hX := HX.out.below hb6
        have hB := bkeep2 HB.out hb6
        clear HX HB hb6
        try simp only [World.size_alloc] at hX
        have hY := hX
        obtain ⟨b0_0, b0_1, b0_2, b0_3, -⟩ := b4 hY.head
        have bl0 := lt_of_heap hY.head
        have bn0 := Nat.ne_of_lt bl0
        have bm0 := Nat.ne_of_lt (Nat.lt_succ_of_lt bl0)
        simp only [Nat.succ_eq_add_one] at bm0
        replace hY := hY.tail
        obtain ⟨b1_0, b1_1, b1_2, b1_3, -⟩ := b4 hY.head
        have bl1 := lt_of_heap hY.head
        have bn1 := Nat.ne_of_lt bl1
        have bm1 := Nat.ne_of_lt (Nat.lt_succ_of_lt bl1)
        simp only [Nat.succ_eq_add_one] at bm1
        clear hY
        have HB := Lib.hid hB
        clear hX hB
        go_wp2
        all_goals go_ret
        all_goals exact ⟨ret_bool (by simp), HB.out⟩
  · have hl1 : (1048576 : Int) < n := by omega
    go_enter Try.func4, Try.ntmps4
    go_wp2
    go_ret
    exact ⟨rfl, Below.refl _ _⟩
set_option maxRecDepth 100000 in
theorem lifted (os : Os) (started : os.Started) (H : Type) (enc : TypeId × Value → H) :
    ReturnsInHanded {} Try.checked os 4 .any (Rows.fnHasPointSpec.pre6 enc Try.prog Try.f4 Rows.fnHasPointRow.domain false) (Rows.fnHasPointSpec.post enc Try.prog Try.f4 false true false false) := by
  refine returnsInHanded_of_change (C := Try.checked) own started (by kernel_rfl) Try.func4
    (ChangeSpec.witness6 (enc := enc) (C := Try.checked) false ⟨#[], #[.slice none 0 0], []⟩ 8 (by kernel_rfl) (by kernel_rfl) (by kernel_rfl) (by kernel_rfl)) ?_
  intro W base args ds gs before hval0 hW hcnd _
  have hval : ∀ (j : Nat) t v, Try.f4.params[j]? = some t → args[j]? = some v → Value.okWide Try.prog W .any base t v := hval0
  have hW' := hW
  obtain ⟨p, q, hA0, hV, rfl, hfz, hnd⟩ := hW
  have hA : DataW.TrodAll enc Try.prog W 0 (fun _ => true) true Try.f4.params.toList args.toList ds p := hA0
  rw [Try.params4] at hA hval
  obtain ⟨v0, vs0, d0, ds0, p0, q0, hargs, rfl, rfl, h0, r0⟩ := trodAll_cons hA
  obtain ⟨rfl, rfl, rfl⟩ := trodAll_nil r0
  obtain rfl : args = #[v0] := by cases args; simp_all
  obtain ⟨rfl, rfl⟩ := trodVars_none hV
  have k0 := h0
  have lt0 : ∀ x ∈ p0, x.block < W.heap.size := by obtain ⟨m, hm⟩ := k0; exact DataW.trod_lt m _ _ _ hm
  obtain ⟨a0, len0, cap0, rfl⟩ := okWide_slice Try.underlying22 (hval 0 22 v0 rfl rfl)
  obtain ⟨z0, wz0⟩ : ∃ zs, IsRow .u8 W a0 len0 cap0 zs := by
    obtain ⟨fuel, hf⟩ := h0
    rcases open_ints Try.underlying22 Try.underlying5 (by kernel_rfl) hf with ⟨hcs, _⟩ | ⟨x, l, c, zs, hcs, _, hl, hm, hz, _, hcell, hwz⟩
    · simp [Value.cells] at hcs
      obtain ⟨rfl, rfl, rfl⟩ := hcs
      exact ⟨[], .inl ⟨rfl, rfl, rfl, rfl⟩⟩
    · simp [Value.cells] at hcs
      obtain ⟨rfl, rfl, rfl⟩ := hcs
      exact ⟨zs, .inr ⟨_, rfl, hl, hm, by simpa using hz, hcell, hwz⟩⟩
  clear hA0 hval0
  refine (walk a0 len0 cap0 z0 W wz0).mono fun e W' ⟨he, bel⟩ => ?_
  subst he
  exact ⟨_, rfl, _, _, _, [], _, [], hW', trodAll_mk1 (shut_bool Try.underlying4 _), (trodAll_cons_mk (Below.trod laidOut (by kernel_rfl) (of_decide_eq_true (by kernel_rfl)) k0 bel lt0) trodAll_mk0), rfl, bel.frame _, fun h => by cases h⟩
theorem over : Rows.fnHasPointRow.holds Try.pinned (OpenSpec.ofChange Rows.fnHasPointSpec) :=
  OpenClaim.holds_of_wide 4 Try.f4 rfl rfl rfl rfl rfl rfl rfl ⟨rfl, rfl, rfl, rfl, rfl⟩ rfl rfl rfl rfl rfl (by kernel_rfl) Try.func4 (by kernel_rfl)
    (of_decide_eq_true (by kernel_rfl)) (by unfold Func.isWrapper; first | (rw [if_pos (by decide +kernel)]; kernel_rfl) | (rw [if_neg (by decide +kernel)]; exact ⟨rfl, rfl⟩))
    (fun os started H enc _ => lifted os started H enc)
theorem proved : Rows.FnHasPointSaid := over
end Go.Proofs.Ytogpdpjheknkjad.lHasPoint
