/- FnExactThumbOf: for every argument the function of the program answers as the model's. No condition. -/
import Derived.Test.YtpbfbcdidkbjiaaQ03
namespace Go.Proofs.Ytpbfbcdidkbjiaa.xThumbOf
open Go.ChangeShapes Go.WideShapes Go.ChangeAt Go.RowKit Go.Joins
set_option linter.unusedVariables false
attribute [local go_sem] growUpon_value growUpon_skip growUpon_enter
set_option maxHeartbeats 1000000
set_option maxRecDepth 100000 in
theorem both (t p f : Int) : ∃ (a b : Int), (∀ w, Calls Try.prog 19 #[.agg #[.int .i64 (t), .int .i64 (p), .int .i64 (f)]] w fun e w' => e = .returned (.tuple #[.int .i64 a, .int .i64 b]) ∧ Below w.heap.size w w') ∧ (∀ w, Calls Try.prog 20 #[.agg #[.int .i64 (t), .int .i64 (p), .int .i64 (f)]] w fun e w' => e = .returned (.tuple #[.int .i64 a, .int .i64 b]) ∧ Below w.heap.size w w') := by
  cases h : vwB t p f
  · exact ⟨-1, -1, fun w => sThumbOf_no t p f w h, fun w => ThumbOf_no t p f w h⟩
  by_cases h0 : t = 0
  · exact ⟨0, 1000, fun w => sThumbOf_zero t p f w h h0, fun w => ThumbOf_zero t p f w h h0⟩
  have h1 : 1 ≤ t := by have := vwB_iff.1 h; omega
  exact ⟨thA t f, thB t p f, fun w => sThumbOf_yes t p f w h h1, fun w => ThumbOf_yes t p f w h h1⟩
set_option maxRecDepth 100000 in
theorem walk (t p f : Int) (w : World) : Calls Try.prog 7 #[.agg #[.int .i64 (t), .int .i64 (p), .int .i64 (f)]] w fun e w' => e = .returned (.bool true) ∧ Below w.heap.size w w' := by
  obtain ⟨a, b, hS, hI⟩ := both t p f
  have HS := Lib.hid hS
  have HI := Lib.hid hI
  clear hS hI
  have HX := Lib.hid (newV w (.cells #[.int .i64 t, .int .i64 p, .int .i64 f] 23))
  have HB := Lib.hid (balloc (o := (.cells #[.int .i64 t, .int .i64 p, .int .i64 f] 23)) (Below.refl w.heap.size w))
  obtain ⟨c0, c1, c2⟩ := c3V HX.out
  go_enter Try.func7, Try.ntmps7
  go_wp2_with fail
  with_reducible refine (toView_v t p f _).mono ?_
  rintro e w1 ⟨rfl, hb⟩
  clear c0 c1 c2
  replace HX := Lib.hid ((hb.block _ (Array.getElem?_eq_some_iff.1 HX.out).1).trans HX.out)
  replace HB := Lib.hid (bkeep2 HB.out hb)
  clear hb
  go_wp2_with fail
  with_reducible refine (HS.out _).mono ?_
  rintro e w2 ⟨rfl, hb⟩
  replace HX := Lib.hid ((hb.block _ (Array.getElem?_eq_some_iff.1 HX.out).1).trans HX.out)
  replace HB := Lib.hid (bkeep2 HB.out hb)
  clear hb
  obtain ⟨c0, c1, c2⟩ := c3V HX.out
  go_wp2_with fail
  with_reducible refine (toView_v t p f _).mono ?_
  rintro e w3 ⟨rfl, hb⟩
  clear c0 c1 c2
  replace HX := Lib.hid ((hb.block _ (Array.getElem?_eq_some_iff.1 HX.out).1).trans HX.out)
  replace HB := Lib.hid (bkeep2 HB.out hb)
  clear hb
  go_wp2_with fail
  with_reducible refine (HI.out _).mono ?_
  rintro e w4 ⟨rfl, hb⟩
  replace HB := Lib.hid (bkeep2 HB.out hb)
  clear hb
  go_wp2
  go_ret
  exact ⟨rfl, HB.out⟩
set_option maxRecDepth 100000 in
theorem lifted (os : Os) (started : os.Started) (H : Type) (enc : TypeId × Value → H) :
    ReturnsInHanded {} Try.checked os 7 .any (Rows.fnExactThumbOfSpec.pre6 enc Try.prog Try.f7 Rows.fnExactThumbOfRow.domain false) (Rows.fnExactThumbOfSpec.post enc Try.prog Try.f7 false true false false) := by
  refine returnsInHanded_of_change (C := Try.checked) own started (by kernel_rfl) Try.func7
    (ChangeSpec.witness6 (enc := enc) (C := Try.checked) false ⟨#[], #[.agg #[.int .i64 0, .int .i64 0, .int .i64 0]], []⟩ 8 (by kernel_rfl) (by kernel_rfl) (by kernel_rfl) (by kernel_rfl)) ?_
  intro W base args ds gs before hval0 hW hcnd _
  have hval : ∀ (j : Nat) t v, Try.f7.params[j]? = some t → args[j]? = some v → Value.okWide Try.prog W .any base t v := hval0
  have hW' := hW
  obtain ⟨p, q, hA0, hV, rfl, hfz, hnd⟩ := hW
  have hA : DataW.TrodAll enc Try.prog W 0 (fun _ => true) true Try.f7.params.toList args.toList ds p := hA0
  rw [Try.params7] at hA hval
  obtain ⟨v0, vs0, d0, ds0, p0, q0, hargs, rfl, rfl, h0, r0⟩ := trodAll_cons hA
  obtain ⟨rfl, rfl, rfl⟩ := trodAll_nil r0
  obtain rfl : args = #[v0] := by cases args; simp_all
  obtain ⟨rfl, rfl⟩ := trodVars_none hV
  have k0 := h0
  have lt0 : ∀ x ∈ p0, x.block < W.heap.size := by obtain ⟨m, hm⟩ := k0; exact DataW.trod_lt m _ _ _ hm
  obtain ⟨c00, c01, c02, y00, y01, y02, m0, rfl, _, _, hy00, hy01, hy02⟩ := open_agg3' Try.underlying23 (by kernel_rfl) (by kernel_rfl) (hval 0 23 v0 rfl rfl) h0
  obtain ⟨x00, e00, _, wx00⟩ := DataW.trod_int Try.underlying3 hy00
  obtain ⟨x01, e01, _, wx01⟩ := DataW.trod_int Try.underlying3 hy01
  obtain ⟨x02, e02, _, wx02⟩ := DataW.trod_int Try.underlying3 hy02
  simp only [List.cons.injEq, and_true] at e00 e01 e02
  subst e00 e01 e02
  clear hA0 hval0
  refine (walk x00 x01 x02 W).mono fun e W' ⟨he, bel⟩ => ?_
  subst he
  exact ⟨_, rfl, _, _, _, [], _, [], hW', trodAll_mk1 (shut_bool Try.underlying4 _), (trodAll_cons_mk (Below.trod laidOut (by kernel_rfl) (of_decide_eq_true (by kernel_rfl)) k0 bel lt0) trodAll_mk0), rfl, bel.frame _, fun h => by cases h⟩
theorem over : Rows.fnExactThumbOfRow.holds Try.pinned (OpenSpec.ofChange Rows.fnExactThumbOfSpec) :=
  OpenClaim.holds_of_wide 7 Try.f7 rfl rfl rfl rfl rfl rfl rfl ⟨rfl, rfl, rfl, rfl, rfl⟩ rfl rfl rfl rfl rfl (by kernel_rfl) Try.func7 (by kernel_rfl)
    (of_decide_eq_true (by kernel_rfl)) (by unfold Func.isWrapper; first | (rw [if_pos (by decide +kernel)]; kernel_rfl) | (rw [if_neg (by decide +kernel)]; exact ⟨rfl, rfl⟩))
    (fun os started H enc _ => lifted os started H enc)
theorem proved : Rows.FnExactThumbOfSaid := over
end Go.Proofs.Ytpbfbcdidkbjiaa.xThumbOf
