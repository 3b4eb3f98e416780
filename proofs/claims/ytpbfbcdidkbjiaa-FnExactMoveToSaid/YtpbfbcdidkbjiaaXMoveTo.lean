/- FnExactMoveTo: for every argument the function of the program answers as the model's. No condition. -/
import Derived.Test.YtpbfbcdidkbjiaaQ03
namespace Go.Proofs.Ytpbfbcdidkbjiaa.xMoveTo
open Go.ChangeShapes Go.WideShapes Go.ChangeAt Go.RowKit Go.Joins
set_option linter.unusedVariables false
attribute [local go_sem] growUpon_value growUpon_skip growUpon_enter
set_option maxHeartbeats 1000000
set_option maxRecDepth 100000 in
theorem both (t p f n : Int) : ∃ (a b c : Int), (∀ w, Calls Try.prog 15 #[.agg #[.int .i64 (t), .int .i64 (p), .int .i64 (f)], .int .i64 n] w fun e w' => e = .returned (.agg #[.int .i64 (a), .int .i64 (b), .int .i64 (c)]) ∧ Below w.heap.size w w') ∧ (∀ w, Calls Try.prog 16 #[.agg #[.int .i64 (t), .int .i64 (p), .int .i64 (f)], .int .i64 n] w fun e w' => e = .returned (.agg #[.int .i64 (a), .int .i64 (b), .int .i64 (c)]) ∧ Below w.heap.size w w') := by
  cases h : vwB t p f
  · exact ⟨0, 0, 0, fun w => sMoveTo_no t p f n w (.inl h), fun w => MoveTo_no t p f n w (.inl h)⟩
  cases h2 : rng n 0 1000
  · exact ⟨0, 0, 0, fun w => sMoveTo_no t p f n w (.inr ⟨h, h2⟩), fun w => MoveTo_no t p f n w (.inr ⟨h, h2⟩)⟩
  exact ⟨t, p, frV t p (thV n t), fun w => sMoveTo_yes t p f n w h h2, fun w => MoveTo_yes t p f n w h h2⟩
set_option maxRecDepth 100000 in
theorem walk (t p f n : Int) (w : World) : Calls Try.prog 5 #[.agg #[.int .i64 (t), .int .i64 (p), .int .i64 (f)], .int .i64 n] w fun e w' => e = .returned (.bool true) ∧ Below w.heap.size w w' := by
  obtain ⟨a, b, c, hS, hI⟩ := both t p f n
  have HS := Lib.hid hS
  have HI := Lib.hid hI
  clear hS hI
  have HX := Lib.hid (newV w (.cells #[.int .i64 t, .int .i64 p, .int .i64 f] 23))
  have HB := Lib.hid (balloc (o := (.cells #[.int .i64 t, .int .i64 p, .int .i64 f] 23)) (Below.refl w.heap.size w))
  obtain ⟨c0, c1, c2⟩ := c3V HX.out
  go_enter Try.func5, Try.ntmps5
  go_wp2_with fail
  with_reducible refine (toView_v t p f _).mono ?_
  rintro e w1 ⟨rfl, hb⟩
  clear c0 c1 c2
  replace HX := Lib.hid ((hb.block _ (Array.getElem?_eq_some_iff.1 HX.out).1).trans HX.out)
  replace HB := Lib.hid (bkeep2 HB.out hb)
  clear hb
  go_wp2_with fail
  with_reducible refine (HS.out _).mono ?_
  rintro e w2 ⟨rfl, hb⟩
  replace HX := Lib.hid ((hb.block _ (Array.getElem?_eq_some_iff.1 HX.out).1).trans HX.out)
  replace HB := Lib.hid (bkeep2 HB.out hb)
  clear hb
  have hb : Below w2.heap.size w2 (w2.alloc (.cells #[.int .i64 a, .int .i64 b, .int .i64 c] 25)) := balloc (Below.refl _ _)
  replace HX := Lib.hid ((hb.block _ (Array.getElem?_eq_some_iff.1 HX.out).1).trans HX.out)
  replace HB := Lib.hid (bkeep2 HB.out hb)
  clear hb
  have HY := Lib.hid (newV w2 (.cells #[.int .i64 a, .int .i64 b, .int .i64 c] 25))
  obtain ⟨c0, c1, c2⟩ := c3V HX.out
  go_wp2_with fail
  with_reducible refine (toView_v t p f _).mono ?_
  rintro e w3 ⟨rfl, hb⟩
  clear c0 c1 c2
  replace HX := Lib.hid ((hb.block _ (Array.getElem?_eq_some_iff.1 HX.out).1).trans HX.out)
  replace HY := Lib.hid ((hb.block _ (Array.getElem?_eq_some_iff.1 HY.out).1).trans HY.out)
  replace HB := Lib.hid (bkeep2 HB.out hb)
  clear hb
  go_wp2_with fail
  with_reducible refine (HI.out _).mono ?_
  rintro e w4 ⟨rfl, hb⟩
  replace HY := Lib.hid ((hb.block _ (Array.getElem?_eq_some_iff.1 HY.out).1).trans HY.out)
  replace HB := Lib.hid (bkeep2 HB.out hb)
  clear hb
  have hb : Below w4.heap.size w4 (w4.alloc (.cells #[.int .i64 a, .int .i64 b, .int .i64 c] 25)) := balloc (Below.refl _ _)
  replace HY := Lib.hid ((hb.block _ (Array.getElem?_eq_some_iff.1 HY.out).1).trans HY.out)
  replace HB := Lib.hid (bkeep2 HB.out hb)
  clear hb
  have HZ := Lib.hid (newV w4 (.cells #[.int .i64 a, .int .i64 b, .int .i64 c] 25))
  obtain ⟨d0, d1, d2⟩ := c3V HY.out
  obtain ⟨e0, e1, e2⟩ := c3V HZ.out
  go_wp2_with fail
  with_reducible refine (eqView_same a b c _).mono ?_
  rintro e w5 ⟨rfl, hb⟩
  replace HB := Lib.hid (bkeep2 HB.out hb)
  clear hb
  go_wp2
  go_ret
  exact ⟨rfl, HB.out⟩
set_option maxRecDepth 100000 in
theorem lifted (os : Os) (started : os.Started) (H : Type) (enc : TypeId × Value → H) :
    ReturnsInHanded {} Try.checked os 5 .any (Rows.fnExactMoveToSpec.pre6 enc Try.prog Try.f5 Rows.fnExactMoveToRow.domain false) (Rows.fnExactMoveToSpec.post enc Try.prog Try.f5 false true false false) := by
  refine returnsInHanded_of_change (C := Try.checked) own started (by kernel_rfl) Try.func5
    (ChangeSpec.witness6 (enc := enc) (C := Try.checked) false ⟨#[], #[.agg #[.int .i64 0, .int .i64 0, .int .i64 0], .int .i64 0], []⟩ 8 (by kernel_rfl) (by kernel_rfl) (by kernel_rfl) (by kernel_rfl)) ?_
  intro W base args ds gs before hval0 hW hcnd _
  have hval : ∀ (j : Nat) t v, Try.f5.params[j]? = some t → args[j]? = some v → Value.okWide Try.prog W .any base t v := hval0
  have hW' := hW
  obtain ⟨p, q, hA0, hV, rfl, hfz, hnd⟩ := hW
  have hA : DataW.TrodAll enc Try.prog W 0 (fun _ => true) true Try.f5.params.toList args.toList ds p := hA0
  rw [Try.params5] at hA hval
  obtain ⟨v0, vs0, d0, ds0, p0, q0, hargs, rfl, rfl, h0, r0⟩ := trodAll_cons hA
  obtain ⟨v1, vs1, d1, ds1, p1, q1, rfl, rfl, rfl, h1, r1⟩ := trodAll_cons r0
  obtain ⟨rfl, rfl, rfl⟩ := trodAll_nil r1
  obtain rfl : args = #[v0, v1] := by cases args; simp_all
  obtain ⟨rfl, rfl⟩ := trodVars_none hV
  have k0 := h0
  have lt0 : ∀ x ∈ p0, x.block < W.heap.size := by obtain ⟨m, hm⟩ := k0; exact DataW.trod_lt m _ _ _ hm
  obtain ⟨c00, c01, c02, y00, y01, y02, m0, rfl, _, _, hy00, hy01, hy02⟩ := open_agg3' Try.underlying23 (by kernel_rfl) (by kernel_rfl) (hval 0 23 v0 rfl rfl) h0
  obtain ⟨x00, e00, _, wx00⟩ := DataW.trod_int Try.underlying3 hy00
  obtain ⟨x01, e01, _, wx01⟩ := DataW.trod_int Try.underlying3 hy01
  obtain ⟨x02, e02, _, wx02⟩ := DataW.trod_int Try.underlying3 hy02
  simp only [List.cons.injEq, and_true] at e00 e01 e02
  subst e00 e01 e02
  have k1 := h1
  have lt1 : ∀ x ∈ p1, x.block < W.heap.size := by obtain ⟨m, hm⟩ := k1; exact DataW.trod_lt m _ _ _ hm
  obtain ⟨x1, rfl, _, _, wx1⟩ := open_int Try.underlying3 (hval 1 3 v1 rfl rfl) h1
  clear hA0 hval0
  refine (walk x00 x01 x02 x1 W).mono fun e W' ⟨he, bel⟩ => ?_
  subst he
  exact ⟨_, rfl, _, _, _, [], _, [], hW', trodAll_mk1 (shut_bool Try.underlying4 _), (trodAll_cons_mk (Below.trod laidOut (by kernel_rfl) (of_decide_eq_true (by kernel_rfl)) k0 bel lt0) (trodAll_cons_mk (Below.trod laidOut (by kernel_rfl) (of_decide_eq_true (by kernel_rfl)) k1 bel lt1) trodAll_mk0)), rfl, bel.frame _, fun h => by cases h⟩
theorem over : Rows.fnExactMoveToRow.holds Try.pinned (OpenSpec.ofChange Rows.fnExactMoveToSpec) :=
  OpenClaim.holds_of_wide 5 Try.f5 rfl rfl rfl rfl rfl rfl rfl ⟨rfl, rfl, rfl, rfl, rfl⟩ rfl rfl rfl rfl rfl (by kernel_rfl) Try.func5 (by kernel_rfl)
    (of_decide_eq_true (by kernel_rfl)) (by unfold Func.isWrapper; first | (rw [if_pos (by decide +kernel)]; kernel_rfl) | (rw [if_neg (by decide +kernel)]; exact ⟨rfl, rfl⟩))
    (fun os started H enc _ => lifted os started H enc)
theorem proved : Rows.FnExactMoveToSaid := over
end Go.Proofs.Ytpbfbcdidkbjiaa.xMoveTo
