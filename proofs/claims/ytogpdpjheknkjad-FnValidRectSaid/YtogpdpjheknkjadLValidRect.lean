/- FnValidRect: for every code the law returns true. No condition. -/
import Derived.Test.YtogpdpjheknkjadFr
import Derived.Test.YtogpdpjheknkjadKB
import Derived.Test.YtogpdpjheknkjadKC
namespace Go.Proofs.Ytogpdpjheknkjad.lValidRect
open Go.ChangeShapes Go.WideShapes Go.ChangeAt Go.RowKit Go.Joins
set_option linter.unusedVariables false
attribute [local go_sem 5000] run_mx run_mn run_eqlR run_neqR
attribute [local go_sem] growUpon_value growUpon_skip growUpon_enter
set_option maxHeartbeats 1000000
theorem selfF {x y u v : Int} (h : vr x y u v = true) : (vr x y u v && (vr x y u v && insB x y u v x y u v)) = true ∧ anB x y u v u v 4 = true ∧ x + (u - mn u u) * (4 % 3) / 2 = x ∧ y + (v - mn v v) * (4 / 3) / 2 = y ∧ mn u u = u ∧ mn v v = v := by
  obtain ⟨a1, a2, a3, a4, a5, a6, a7, a8⟩ := vr_iff.1 h
  have m1 := mn_spec u u
  have m2 := mn_spec v v
  have e1 : mn u u = u := by omega
  have e2 : mn v v = v := by omega
  refine ⟨?_, ?_, by rw [e1]; omega, by rw [e2]; omega, e1, e2⟩
  · rw [h, Bool.true_and, Bool.true_and, insB_iff]; omega
  · have b1 : rng u 0 400 = true := rng_iff.2 (by omega)
    have b2 : rng v 0 400 = true := rng_iff.2 (by omega)
    have b3 : rng 4 0 8 = true := by decide
    simp [anB, h, b1, b2, b3]
set_option maxRecDepth 100000 in
theorem walk (A : Option Addr) (n c : Nat) (z : List Int) (w : World) (wz : IsRow .u8 w A n c z) : Calls Try.prog 3 #[.slice A n c] w fun e w' => e = .returned (.bool true) ∧ Below w.heap.size w w' := by
  obtain ⟨hb, hn, hc⟩ := wz.bts
  clear wz
  by_cases hlen : n ≤ 1048576
  · have hl1 : ¬ (1048576 : Int) < n := by omega
    go_enter Try.func3, Try.ntmps3
    go_wp2_with fail
    with_reducible refine (DrawValidRect_any A n c _ hb hn hc).mono ?_
    rintro e w1 ⟨⟨x, y, u, v, rfl⟩, hB⟩
    have hX := BX.nil w1
    cases h : vr x y u v
    · skip
      have HX := Lib.hid hX
      have HB := Lib.hid hB
      clear hX hB
      go_wp2_with fail
      with_reducible refine (vr_b x y u v false h _).mono ?_
      rintro e w2 ⟨rfl, hb2⟩
      have hX := (HX.out.alloc _).below hb2
      have hB := bkeep2 (balloc' HB.out) hb2
      clear HX HB hb2
      try simp only [World.size_alloc] at hX
      have hY := hX
      obtain ⟨b0_0, b0_1, b0_2, b0_3, -⟩ := b4 hY.head
      have bl0 := lt_of_heap hY.head
      have bn0 := Nat.ne_of_lt bl0
      have bm0 := Nat.ne_of_lt (Nat.lt_succ_of_lt bl0)
      simp only [Nat.succ_eq_add_one] at bm0
      clear hY
      have HX := Lib.hid hX
      have HB := Lib.hid hB
      clear hX hB
      go_wp2_with fail
      with_reducible refine (svr_b x y u v false h _).mono ?_
      rintro e w3 ⟨rfl, hb3⟩
      clear b0_0 b0_1 b0_2 b0_3 bl0 bn0 bm0
      have hX := HX.out.below hb3
      have hB := bkeep2 HB.out hb3
      clear HX HB hb3
      try simp only [World.size_alloc] at hX
      have hY := hX
      obtain ⟨b0_0, b0_1, b0_2, b0_3, -⟩ := b4 hY.head
      have bl0 := lt_of_heap hY.head
      have bn0 := Nat.ne_of_lt bl0
      have bm0 := Nat.ne_of_lt (Nat.lt_succ_of_lt bl0)
      simp only [Nat.succ_eq_add_one] at bm0
      clear hY
      have HX := Lib.hid hX
      have HB := Lib.hid hB
      clear hX hB
      go_wp2_with fail
      with_reducible refine (svr_b x y u v false h _).mono ?_
      rintro e w4 ⟨rfl, hb4⟩
      clear b0_0 b0_1 b0_2 b0_3 bl0 bn0 bm0
      have hX := HX.out.below hb4
      have hB := bkeep2 HB.out hb4
      clear HX HB hb4
      try simp only [World.size_alloc] at hX
      have hY := hX
      obtain ⟨b0_0, b0_1, b0_2, b0_3, -⟩ := b4 hY.head
      have bl0 := lt_of_heap hY.head
      have bn0 := Nat.ne_of_lt bl0
      have bm0 := Nat.ne_of_lt (Nat.lt_succ_of_lt bl0)
      simp only [Nat.succ_eq_add_one] at bm0
      clear hY
      have HB := Lib.hid hB
      clear hX hB
      go_wp2
      all_goals go_ret
      all_goals exact ⟨ret_bool (by simp), HB.out⟩
    · skip
      obtain ⟨s1, s2, s3, s4, s5, s6⟩ := selfF h
      have HS := Lib.hid (And.intro s3 (And.intro s4 (And.intro s5 s6)))
      clear s3 s4 s5 s6
      have es : eqR x y u v x y u v = true := eqR_self
      obtain ⟨m1, m2⟩ := area_bds h
      have mw : IntKind.i64.wrap (u * v) = u * v := IntWalk.i64_in _ (by omega)
      have HX := Lib.hid hX
      have HB := Lib.hid hB
      clear hX hB
      go_wp2_with fail
      with_reducible refine (vr_b x y u v true h _).mono ?_
      rintro e w2 ⟨rfl, hb2⟩
      have hX := (HX.out.alloc _).below hb2
      have hB := bkeep2 (balloc' HB.out) hb2
      clear HX HB hb2
      try simp only [World.size_alloc] at hX
      have hY := hX
      obtain ⟨b0_0, b0_1, b0_2, b0_3, -⟩ := b4 hY.head
      have bl0 := lt_of_heap hY.head
      have bn0 := Nat.ne_of_lt bl0
      have bm0 := Nat.ne_of_lt (Nat.lt_succ_of_lt bl0)
      simp only [Nat.succ_eq_add_one] at bm0
      clear hY
      have HX := Lib.hid hX
      have HB := Lib.hid hB
      clear hX hB
      go_wp2_with fail
      with_reducible refine (svr_b x y u v true h _).mono ?_
      rintro e w3 ⟨rfl, hb3⟩
      clear b0_0 b0_1 b0_2 b0_3 bl0 bn0 bm0
      have hX := HX.out.below hb3
      have hB := bkeep2 HB.out hb3
      clear HX HB hb3
      try simp only [World.size_alloc] at hX
      have hY := hX
      obtain ⟨b0_0, b0_1, b0_2, b0_3, -⟩ := b4 hY.head
      have bl0 := lt_of_heap hY.head
      have bn0 := Nat.ne_of_lt bl0
      have bm0 := Nat.ne_of_lt (Nat.lt_succ_of_lt bl0)
      simp only [Nat.succ_eq_add_one] at bm0
      clear hY
      have HX := Lib.hid hX
      have HB := Lib.hid hB
      clear hX hB
      go_wp2_with fail
      refine wp_region_grow 23 1 (· < 23) (by kernel_rfl) (by kernel_rfl) rfl ?_
      iterate 23 (refine wpG_step (fun K hK => ?_); first | (refine grow_skip rfl ?_; go_simp; refine hK _ ?_; clear hK K) | (apply Exists.intro; refine ⟨.inl ⟨rfl, fun w' hw' => ?_⟩, ?_⟩; (focus ((obtain ⟨hc, hf⟩ := bcell hw'.out); (have hcS := bcellS hw'.out); go_simp <;> first | rfl | (go_at_call 12; exact in_b _ _ _ _ _ _ _ _ true s1 _) | (go_at_call 13; exact anchor_v x y u v u v 4 x y u v _ s2 HS.out.1 HS.out.2.1 HS.out.2.2.1 HS.out.2.2.2) | (go_at_call 14; exact AreaOf_yes _ _ _ _ _ h))); (go_simp; refine hK _ ?_; clear hK K)))
      refine wpG_nil ?_
      refine wpK_tail (by kernel_rfl) (fun w4 hg4 => ?_)
      refine wpAny_one (i := 23) (by kernel_rfl) rfl rfl ?_
      go_simp
      refine wpAny_end (by kernel_rfl) ?_
      refine NoPan.thn ?_
      clear b0_0 b0_1 b0_2 b0_3 bl0 bn0 bm0
      have hb4 := hg4.out
      have hX := BX.below (BX.drew HX.out) hb4
      have hB := bkeep2 (Below.drew HB.out) hb4
      clear HX HB hb4 hg4
      try simp only [World.size_alloc] at hX
      have hY := hX
      obtain ⟨b0_0, b0_1, b0_2, b0_3, -⟩ := b4 hY.head
      have bl0 := lt_of_heap hY.head
      have bn0 := Nat.ne_of_lt bl0
      have bm0 := Nat.ne_of_lt (Nat.lt_succ_of_lt bl0)
      simp only [Nat.succ_eq_add_one] at bm0
      clear hY
      have HB := Lib.hid hB
      clear hX hB
      go_wp2
      all_goals go_ret
      all_goals exact ⟨ret_bool (by simp), HB.out⟩
  · have hl1 : (1048576 : Int) < n := by omega
    go_enter Try.func3, Try.ntmps3
    go_wp2
    go_ret
    exact ⟨rfl, Below.refl _ _⟩
set_option maxRecDepth 100000 in
theorem lifted (os : Os) (started : os.Started) (H : Type) (enc : TypeId × Value → H) :
    ReturnsInHanded {} Try.checked os 3 .any (Rows.fnValidRectSpec.pre6 enc Try.prog Try.f3 Rows.fnValidRectRow.domain false) (Rows.fnValidRectSpec.post enc Try.prog Try.f3 false true false false) := by
  refine returnsInHanded_of_change (C := Try.checked) own started (by kernel_rfl) Try.func3
    (ChangeSpec.witness6 (enc := enc) (C := Try.checked) false ⟨#[], #[.slice none 0 0], []⟩ 8 (by kernel_rfl) (by kernel_rfl) (by kernel_rfl) (by kernel_rfl)) ?_
  intro W base args ds gs before hval0 hW hcnd _
  have hval : ∀ (j : Nat) t v, Try.f3.params[j]? = some t → args[j]? = some v → Value.okWide Try.prog W .any base t v := hval0
  have hW' := hW
  obtain ⟨p, q, hA0, hV, rfl, hfz, hnd⟩ := hW
  have hA : DataW.TrodAll enc Try.prog W 0 (fun _ => true) true Try.f3.params.toList args.toList ds p := hA0
  rw [Try.params3] at hA hval
  obtain ⟨v0, vs0, d0, ds0, p0, q0, hargs, rfl, rfl, h0, r0⟩ := trodAll_cons hA
  obtain ⟨rfl, rfl, rfl⟩ := trodAll_nil r0
  obtain rfl : args = #[v0] := by cases args; simp_all
  obtain ⟨rfl, rfl⟩ := trodVars_none hV
  have k0 := h0
  have lt0 : ∀ x ∈ p0, x.block < W.heap.size := by obtain ⟨m, hm⟩ := k0; exact DataW.trod_lt m _ _ _ hm
  obtain ⟨a0, len0, cap0, rfl⟩ := okWide_slice Try.underlying22 (hval 0 22 v0 rfl rfl)
  obtain ⟨z0, wz0⟩ : ∃ zs, IsRow .u8 W a0 len0 cap0 zs := by
    obtain ⟨fuel, hf⟩ := h0
    rcases open_ints Try.underlying22 Try.underlying5 (by kernel_rfl) hf with ⟨hcs, _⟩ | ⟨x, l, c, zs, hcs, _, hl, hm, hz, _, hcell, hwz⟩
    · simp [Value.cells] at hcs
      obtain ⟨rfl, rfl, rfl⟩ := hcs
      exact ⟨[], .inl ⟨rfl, rfl, rfl, rfl⟩⟩
    · simp [Value.cells] at hcs
      obtain ⟨rfl, rfl, rfl⟩ := hcs
      exact ⟨zs, .inr ⟨_, rfl, hl, hm, by simpa using hz, hcell, hwz⟩⟩
  clear hA0 hval0
  refine (walk a0 len0 cap0 z0 W wz0).mono fun e W' ⟨he, bel⟩ => ?_
  subst he
  exact ⟨_, rfl, _, _, _, [], _, [], hW', trodAll_mk1 (shut_bool Try.underlying4 _), (trodAll_cons_mk (Below.trod laidOut (by kernel_rfl) (of_decide_eq_true (by kernel_rfl)) k0 bel lt0) trodAll_mk0), rfl, bel.frame _, fun h => by cases h⟩
theorem over : Rows.fnValidRectRow.holds Try.pinned (OpenSpec.ofChange Rows.fnValidRectSpec) :=
  OpenClaim.holds_of_wide 3 Try.f3 rfl rfl rfl rfl rfl rfl rfl ⟨rfl, rfl, rfl, rfl, rfl⟩ rfl rfl rfl rfl rfl (by kernel_rfl) Try.func3 (by kernel_rfl)
    (of_decide_eq_true (by kernel_rfl)) (by unfold Func.isWrapper; first | (rw [if_pos (by decide +kernel)]; kernel_rfl) | (rw [if_neg (by decide +kernel)]; exact ⟨rfl, rfl⟩))
    (fun os started H enc _ => lifted os started H enc)
theorem proved : Rows.FnValidRectSaid := over
end Go.Proofs.Ytogpdpjheknkjad.lValidRect
