/- FnAreaOf: for every code the law returns true. No condition. -/
import Derived.Test.YtogpdpjheknkjaeFr
import Derived.Test.YtogpdpjheknkjaeKB
import Derived.Test.YtogpdpjheknkjaeKC
import Derived.Test.YtogpdpjheknkjaeG5
import Derived.Test.YtogpdpjheknkjaeD8
namespace Go.Proofs.Ytogpdpjheknkjae.lAreaOf
open Go.ChangeShapes Go.WideShapes Go.ChangeAt Go.RowKit Go.Joins
set_option linter.unusedVariables false
attribute [local go_sem 5000] run_mx run_mn run_eqlR run_neqR
attribute [local go_sem] growUpon_value growUpon_skip growUpon_enter
set_option maxHeartbeats 1000000
theorem areaF {x y u v : Int} (h : vr x y u v = true) : ∃ m X U : Int, mn (u / 2) u = m ∧ x + m = X ∧ u - m = U ∧ rng (u / 2) 0 400 = true ∧ vr x y m v = true ∧ vr X y U v = true ∧ IntKind.i64.wrap (m * v + U * v) = u * v ∧ (0 ≤ u ∧ u ≤ 400) := by
  obtain ⟨a1, a2, a3, a4, a5, a6, a7, a8⟩ := vr_iff.1 h
  have m1 := mn_spec (u / 2) u
  refine ⟨_, _, _, rfl, rfl, rfl, by rw [rng_iff]; omega, by rw [vr_iff]; omega, by rw [vr_iff]; omega, ?_, a1, a2⟩
  rw [← Int.add_mul, show mn (u / 2) u + (u - mn (u / 2) u) = u from by omega]
  have := area_bds h
  exact IntWalk.i64_in _ (by omega)
theorem cut2_v (x y u v n m X U : Int) (w : World) (h1 : vr x y u v = true) (h3 : rng n 0 400 = true) (hm : mn n u = m) (hX : x + m = X) (hU : u - m = U) : Calls Try.prog 12 #[.agg #[.int .i64 (x), .int .i64 (y), .int .i64 (u), .int .i64 (v)], .int .i64 2, .int .i64 n] w fun e w' => e = .returned (.tuple #[.agg #[.int .i64 (x), .int .i64 (y), .int .i64 (m), .int .i64 (v)], .agg #[.int .i64 (X), .int .i64 (y), .int .i64 (U), .int .i64 (v)]]) ∧ Below w.heap.size w w' := by
  subst hm hX hU; exact CutRect2_yes x y u v n w h1 h3
set_option maxRecDepth 100000 in
theorem walk (A : Option Addr) (n c : Nat) (z : List Int) (w : World) (wz : IsRow .u8 w A n c z) : Calls Try.prog 4 #[.slice A n c] w fun e w' => e = .returned (.bool true) ∧ Below w.heap.size w w' := by
  obtain ⟨hb, hn, hc⟩ := wz.bts
  clear wz
  by_cases hlen : n ≤ 1048576
  · have hl1 : ¬ (1048576 : Int) < n := by omega
    go_enter Try.func4, Try.ntmps4
    go_wp2_with fail
    with_reducible refine (DrawAreaOf_any A n c _ hb hn hc).mono ?_
    rintro e w1 ⟨⟨x, y, u, v, rfl⟩, hB⟩
    have hX := BX.nil w1
    cases h : vr x y u v
    · skip
      have hz : decide ((-1 : Int) < 0) = true := by decide
      have HX := Lib.hid hX
      have HB := Lib.hid hB
      clear hX hB
      go_wp2_with fail
      with_reducible refine (AreaOf_no x y u v _ h).mono ?_
      rintro e w2 ⟨rfl, hb2⟩
      have hX := (HX.out.alloc _).below hb2
      have hB := bkeep2 (balloc' HB.out) hb2
      clear HX HB hb2
      try simp only [World.size_alloc] at hX
      have hY := hX
      obtain ⟨b0_0, b0_1, b0_2, b0_3, -⟩ := b4 hY.head
      have bl0 := lt_of_heap hY.head
      have bn0 := Nat.ne_of_lt bl0
      have bm0 := Nat.ne_of_lt (Nat.lt_succ_of_lt bl0)
      simp only [Nat.succ_eq_add_one] at bm0
      clear hY
      have HX := Lib.hid hX
      have HB := Lib.hid hB
      clear hX hB
      go_wp2_with fail
      with_reducible refine (sAreaOf_no x y u v _ h).mono ?_
      rintro e w3 ⟨rfl, hb3⟩
      clear b0_0 b0_1 b0_2 b0_3 bl0 bn0 bm0
      have hX := HX.out.below hb3
      have hB := bkeep2 HB.out hb3
      clear HX HB hb3
      try simp only [World.size_alloc] at hX
      have hY := hX
      obtain ⟨b0_0, b0_1, b0_2, b0_3, -⟩ := b4 hY.head
      have bl0 := lt_of_heap hY.head
      have bn0 := Nat.ne_of_lt bl0
      have bm0 := Nat.ne_of_lt (Nat.lt_succ_of_lt bl0)
      simp only [Nat.succ_eq_add_one] at bm0
      clear hY
      have HX := Lib.hid hX
      have HB := Lib.hid hB
      clear hX hB
      go_wp2_with fail
      with_reducible refine (sAreaOf_no x y u v _ h).mono ?_
      rintro e w4 ⟨rfl, hb4⟩
      clear b0_0 b0_1 b0_2 b0_3 bl0 bn0 bm0
      have hX := HX.out.below hb4
      have hB := bkeep2 HB.out hb4
      clear HX HB hb4
      try simp only [World.size_alloc] at hX
      have hY := hX
      obtain ⟨b0_0, b0_1, b0_2, b0_3, -⟩ := b4 hY.head
      have bl0 := lt_of_heap hY.head
      have bn0 := Nat.ne_of_lt bl0
      have bm0 := Nat.ne_of_lt (Nat.lt_succ_of_lt bl0)
      simp only [Nat.succ_eq_add_one] at bm0
      clear hY
      have HB := Lib.hid hB
      clear hX hB
      go_wp2
      all_goals go_ret
      all_goals exact ⟨ret_bool (by simp), HB.out⟩
    · skip
      obtain ⟨m, X, U, hm, hX, hU, hr, hP, hQ, hw, hu1, hu2⟩ := areaF h
      have HM := Lib.hid (And.intro hm (And.intro hX hU))
      clear hm hX hU
      obtain ⟨m1, m2⟩ := area_bds h
      have hd : decide (u * v < 0) = false := by simp; omega
      have HX := Lib.hid hX
      have HB := Lib.hid hB
      clear hX hB
      go_wp2_with fail
      with_reducible refine (AreaOf_yes x y u v _ h).mono ?_
      rintro e w2 ⟨rfl, hb2⟩
      have hX := (HX.out.alloc _).below hb2
      have hB := bkeep2 (balloc' HB.out) hb2
      clear HX HB hb2
      try simp only [World.size_alloc] at hX
      have hY := hX
      obtain ⟨b0_0, b0_1, b0_2, b0_3, -⟩ := b4 hY.head
      have bl0 := lt_of_heap hY.head
      have bn0 := Nat.ne_of_lt bl0
      have bm0 := Nat.ne_of_lt (Nat.lt_succ_of_lt bl0)
      simp only [Nat.succ_eq_add_one] at bm0
      clear hY
      have HX := Lib.hid hX
      have HB := Lib.hid hB
      clear hX hB
      go_wp2_with fail
      with_reducible refine (sAreaOf_yes x y u v _ h).mono ?_
      rintro e w3 ⟨rfl, hb3⟩
      clear b0_0 b0_1 b0_2 b0_3 bl0 bn0 bm0
      have hX := HX.out.below hb3
      have hB := bkeep2 HB.out hb3
      clear HX HB hb3
      try simp only [World.size_alloc] at hX
      have hY := hX
      obtain ⟨b0_0, b0_1, b0_2, b0_3, -⟩ := b4 hY.head
      have bl0 := lt_of_heap hY.head
      have bn0 := Nat.ne_of_lt bl0
      have bm0 := Nat.ne_of_lt (Nat.lt_succ_of_lt bl0)
      simp only [Nat.succ_eq_add_one] at bm0
      clear hY
      have HX := Lib.hid hX
      have HB := Lib.hid hB
      clear hX hB
      go_wp2_with fail
      with_reducible refine (cut2_v x y u v (u / 2) m X U _ h hr HM.out.1 HM.out.2.1 HM.out.2.2).mono ?_
      rintro e w4 ⟨rfl, hb4⟩
      clear b0_0 b0_1 b0_2 b0_3 bl0 bn0 bm0
      have hX := HX.out.below hb4
      have hB := bkeep2 HB.out hb4
      clear HX HB hb4
      try simp only [World.size_alloc] at hX
      have hY := hX
      obtain ⟨b0_0, b0_1, b0_2, b0_3, -⟩ := b4 hY.head
      have bl0 := lt_of_heap hY.head
      have bn0 := Nat.ne_of_lt bl0
      have bm0 := Nat.ne_of_lt (Nat.lt_succ_of_lt bl0)
      simp only [Nat.succ_eq_add_one] at bm0
      clear hY
      have HX := Lib.hid hX
      have HB := Lib.hid hB
      clear hX hB
      go_wp2_with fail
      refine wp_region_grow 7 1 (· < 7) (by kernel_rfl) (by kernel_rfl) rfl ?_
      iterate 7 (refine wpG_step (fun K hK => ?_); first | (refine grow_skip rfl ?_; go_simp; refine hK _ ?_; clear hK K) | (apply Exists.intro; refine ⟨.inl ⟨rfl, fun w' hw' => ?_⟩, ?_⟩; (focus ((obtain ⟨hc, hf⟩ := bcell hw'.out); (have hcS := bcellS hw'.out); go_simp <;> first | rfl | (go_at_call 9; exact AreaOf_yes _ _ _ _ _ (by assumption)))); (go_simp; refine hK _ ?_; clear hK K)))
      refine wpG_nil ?_
      refine wpK_tail (by kernel_rfl) (fun w5 hg5 => ?_)
      refine wpAny_one (i := 7) (by kernel_rfl) rfl rfl ?_
      go_simp
      refine wpAny_end (by kernel_rfl) ?_
      refine NoPan.thn ?_
      clear b0_0 b0_1 b0_2 b0_3 bl0 bn0 bm0
      have hb5 := hg5.out
      have hX := BX.below (BX.drew ((HX.out.alloc _).alloc _)) hb5
      have hB := bkeep2 (Below.drew (balloc' (balloc' HB.out))) hb5
      clear HX HB hb5 hg5
      try simp only [World.size_alloc] at hX
      have hY := hX
      obtain ⟨b0_0, b0_1, b0_2, b0_3, -⟩ := b4 hY.head
      have bl0 := lt_of_heap hY.head
      have bn0 := Nat.ne_of_lt bl0
      have bm0 := Nat.ne_of_lt (Nat.lt_succ_of_lt bl0)
      simp only [Nat.succ_eq_add_one] at bm0
      replace hY := hY.tail
      obtain ⟨b1_0, b1_1, b1_2, b1_3, -⟩ := b4 hY.head
      have bl1 := lt_of_heap hY.head
      have bn1 := Nat.ne_of_lt bl1
      have bm1 := Nat.ne_of_lt (Nat.lt_succ_of_lt bl1)
      simp only [Nat.succ_eq_add_one] at bm1
      replace hY := hY.tail
      obtain ⟨b2_0, b2_1, b2_2, b2_3, -⟩ := b4 hY.head
      have bl2 := lt_of_heap hY.head
      have bn2 := Nat.ne_of_lt bl2
      have bm2 := Nat.ne_of_lt (Nat.lt_succ_of_lt bl2)
      simp only [Nat.succ_eq_add_one] at bm2
      clear hY
      have HB := Lib.hid hB
      clear hX hB
      go_wp2
      all_goals go_ret
      all_goals exact ⟨ret_bool (by simp), HB.out⟩
  · have hl1 : (1048576 : Int) < n := by omega
    go_enter Try.func4, Try.ntmps4
    go_wp2
    go_ret
    exact ⟨rfl, Below.refl _ _⟩
set_option maxRecDepth 100000 in
theorem lifted (os : Os) (started : os.Started) (H : Type) (enc : TypeId × Value → H) :
    ReturnsInHanded {} Try.checked os 4 .any (Rows.fnAreaOfSpec.pre6 enc Try.prog Try.f4 Rows.fnAreaOfRow.domain false) (Rows.fnAreaOfSpec.post enc Try.prog Try.f4 false true false false) := by
  refine returnsInHanded_of_change (C := Try.checked) own started (by kernel_rfl) Try.func4
    (ChangeSpec.witness6 (enc := enc) (C := Try.checked) false ⟨#[], #[.slice none 0 0], []⟩ 8 (by kernel_rfl) (by kernel_rfl) (by kernel_rfl) (by kernel_rfl)) ?_
  intro W base args ds gs before hval0 hW hcnd _
  have hval : ∀ (j : Nat) t v, Try.f4.params[j]? = some t → args[j]? = some v → Value.okWide Try.prog W .any base t v := hval0
  have hW' := hW
  obtain ⟨p, q, hA0, hV, rfl, hfz, hnd⟩ := hW
  have hA : DataW.TrodAll enc Try.prog W 0 (fun _ => true) true Try.f4.params.toList args.toList ds p := hA0
  rw [Try.params4] at hA hval
  obtain ⟨v0, vs0, d0, ds0, p0, q0, hargs, rfl, rfl, h0, r0⟩ := trodAll_cons hA
  obtain ⟨rfl, rfl, rfl⟩ := trodAll_nil r0
  obtain rfl : args = #[v0] := by cases args; simp_all
  obtain ⟨rfl, rfl⟩ := trodVars_none hV
  have k0 := h0
  have lt0 : ∀ x ∈ p0, x.block < W.heap.size := by obtain ⟨m, hm⟩ := k0; exact DataW.trod_lt m _ _ _ hm
  obtain ⟨a0, len0, cap0, rfl⟩ := okWide_slice Try.underlying22 (hval 0 22 v0 rfl rfl)
  obtain ⟨z0, wz0⟩ : ∃ zs, IsRow .u8 W a0 len0 cap0 zs := by
    obtain ⟨fuel, hf⟩ := h0
    rcases open_ints Try.underlying22 Try.underlying5 (by kernel_rfl) hf with ⟨hcs, _⟩ | ⟨x, l, c, zs, hcs, _, hl, hm, hz, _, hcell, hwz⟩
    · simp [Value.cells] at hcs
      obtain ⟨rfl, rfl, rfl⟩ := hcs
      exact ⟨[], .inl ⟨rfl, rfl, rfl, rfl⟩⟩
    · simp [Value.cells] at hcs
      obtain ⟨rfl, rfl, rfl⟩ := hcs
      exact ⟨zs, .inr ⟨_, rfl, hl, hm, by simpa using hz, hcell, hwz⟩⟩
  clear hA0 hval0
  refine (walk a0 len0 cap0 z0 W wz0).mono fun e W' ⟨he, bel⟩ => ?_
  subst he
  exact ⟨_, rfl, _, _, _, [], _, [], hW', trodAll_mk1 (shut_bool Try.underlying4 _), (trodAll_cons_mk (Below.trod laidOut (by kernel_rfl) (of_decide_eq_true (by kernel_rfl)) k0 bel lt0) trodAll_mk0), rfl, bel.frame _, fun h => by cases h⟩
theorem over : Rows.fnAreaOfRow.holds Try.pinned (OpenSpec.ofChange Rows.fnAreaOfSpec) :=
  OpenClaim.holds_of_wide 4 Try.f4 rfl rfl rfl rfl rfl rfl rfl ⟨rfl, rfl, rfl, rfl, rfl⟩ rfl rfl rfl rfl rfl (by kernel_rfl) Try.func4 (by kernel_rfl)
    (of_decide_eq_true (by kernel_rfl)) (by unfold Func.isWrapper; first | (rw [if_pos (by decide +kernel)]; kernel_rfl) | (rw [if_neg (by decide +kernel)]; exact ⟨rfl, rfl⟩))
    (fun os started H enc _ => lifted os started H enc)
theorem proved : Rows.FnAreaOfSaid := over
end Go.Proofs.Ytogpdpjheknkjae.lAreaOf
