/- FnExactFixPlace: for every argument the function of the program answers as the model's. No condition. -/
import Derived.Test.YtfhjmmajhohkjaaQ05
namespace Go.Proofs.Ytfhjmmajhohkjaa.xFixPlace
open Go.ChangeShapes Go.WideShapes Go.ChangeAt Go.RowKit Go.Joins
set_option linter.unusedVariables false
attribute [local go_sem] growUpon_value growUpon_skip growUpon_enter
set_option maxHeartbeats 1000000
set_option maxRecDepth 100000 in
theorem both (p : Plc) (w0 h0 : Int) : ∃ (q : Plc) (t : Bool), (∀ w, Calls Try.prog 22 #[.agg #[.int .i64 p.x, .int .i64 p.y, .int .i64 p.rx, .int .i64 p.ry, .int .i64 p.ww, .int .i64 p.hh, .int .i64 p.qw, .int .i64 p.qh, .int .i64 p.an], .int .i64 w0, .int .i64 h0] w fun e w' => e = .returned (.tuple #[.agg #[.int .i64 q.x, .int .i64 q.y, .int .i64 q.rx, .int .i64 q.ry, .int .i64 q.ww, .int .i64 q.hh, .int .i64 q.qw, .int .i64 q.qh, .int .i64 q.an], .bool t]) ∧ Below w.heap.size w w') ∧ (∀ w, Calls Try.prog 23 #[.agg #[.int .i64 p.x, .int .i64 p.y, .int .i64 p.rx, .int .i64 p.ry, .int .i64 p.ww, .int .i64 p.hh, .int .i64 p.qw, .int .i64 p.qh, .int .i64 p.an], .int .i64 w0, .int .i64 h0] w fun e w' => e = .returned (.tuple #[.agg #[.int .i64 q.x, .int .i64 q.y, .int .i64 q.rx, .int .i64 q.ry, .int .i64 q.ww, .int .i64 q.hh, .int .i64 q.qw, .int .i64 q.qh, .int .i64 q.an], .bool t]) ∧ Below w.heap.size w w') := by
  cases h : fxB p w0 h0
  · exact ⟨⟨0, 0, 0, 0, 0, 0, 0, 0, 0⟩, false, fun w => sFixPlace_no p w0 h0 w h, fun w => FixPlace_no p w0 h0 w h⟩
  · exact ⟨fixM p w0 h0, true, fun w => sFixPlace_yes p w0 h0 w h, fun w => FixPlace_yes p w0 h0 w h⟩
set_option maxRecDepth 100000 in
theorem walkP (p : Plc) (w0 h0 : Int) (w : World) : Calls Try.prog 8 #[.agg #[.int .i64 p.x, .int .i64 p.y, .int .i64 p.rx, .int .i64 p.ry, .int .i64 p.ww, .int .i64 p.hh, .int .i64 p.qw, .int .i64 p.qh, .int .i64 p.an], .int .i64 w0, .int .i64 h0] w fun e w' => e = .returned (.bool true) ∧ Below w.heap.size w w' := by
  obtain ⟨q, t, hS, hI⟩ := both p w0 h0
  have HS := Lib.hid hS
  have HI := Lib.hid hI
  clear hS hI
  have HX := Lib.hid (new_q w (.cells #[.int .i64 p.x, .int .i64 p.y, .int .i64 p.rx, .int .i64 p.ry, .int .i64 p.ww, .int .i64 p.hh, .int .i64 p.qw, .int .i64 p.qh, .int .i64 p.an] 23))
  have HB := Lib.hid (balloc (o := .cells #[.int .i64 p.x, .int .i64 p.y, .int .i64 p.rx, .int .i64 p.ry, .int .i64 p.ww, .int .i64 p.hh, .int .i64 p.qw, .int .i64 p.qh, .int .i64 p.an] 23) (Below.refl w.heap.size w))
  go_enter Try.func8, Try.ntmps8
  go_wp2_with fail
  with_reducible refine (toPlace_v p _).mono ?_
  rintro e w1 ⟨rfl, hb⟩
  replace HX := Lib.hid ((hb.block _ (lt_q HX.out)).trans HX.out)
  replace HB := Lib.hid (bkeep2 HB.out hb)
  clear hb
  go_wp2_with fail
  with_reducible refine (HS.out _).mono ?_
  rintro e w2 ⟨rfl, hb⟩
  replace HX := Lib.hid ((hb.block _ (lt_q HX.out)).trans HX.out)
  replace HB := Lib.hid (bkeep2 HB.out hb)
  clear hb
  have hb : Below w2.heap.size w2 (w2.alloc (.cells #[.int .i64 q.x, .int .i64 q.y, .int .i64 q.rx, .int .i64 q.ry, .int .i64 q.ww, .int .i64 q.hh, .int .i64 q.qw, .int .i64 q.qh, .int .i64 q.an] 25)) := balloc (Below.refl _ _)
  replace HX := Lib.hid ((hb.block _ (Array.getElem?_eq_some_iff.1 HX.out).1).trans HX.out)
  replace HB := Lib.hid (bkeep2 HB.out hb)
  clear hb
  have HY := Lib.hid (new_q w2 (.cells #[.int .i64 q.x, .int .i64 q.y, .int .i64 q.rx, .int .i64 q.ry, .int .i64 q.ww, .int .i64 q.hh, .int .i64 q.qw, .int .i64 q.qh, .int .i64 q.an] 25))
  obtain ⟨c0, c1, c2, c3, c4, c5, c6, c7, c8⟩ := c9_q HX.out
  go_wp2_with fail
  with_reducible refine (toPlace_v p _).mono ?_
  rintro e w3 ⟨rfl, hb⟩
  clear c0 c1 c2 c3 c4 c5 c6 c7 c8
  replace HX := Lib.hid ((hb.block _ (Array.getElem?_eq_some_iff.1 HX.out).1).trans HX.out)
  replace HY := Lib.hid ((hb.block _ (Array.getElem?_eq_some_iff.1 HY.out).1).trans HY.out)
  replace HB := Lib.hid (bkeep2 HB.out hb)
  clear hb
  go_wp2_with fail
  with_reducible refine (HI.out _).mono ?_
  rintro e w4 ⟨rfl, hb⟩
  replace HY := Lib.hid ((hb.block _ (Array.getElem?_eq_some_iff.1 HY.out).1).trans HY.out)
  replace HB := Lib.hid (bkeep2 HB.out hb)
  clear hb
  have hb : Below w4.heap.size w4 (w4.alloc (.cells #[.int .i64 q.x, .int .i64 q.y, .int .i64 q.rx, .int .i64 q.ry, .int .i64 q.ww, .int .i64 q.hh, .int .i64 q.qw, .int .i64 q.qh, .int .i64 q.an] 25)) := balloc (Below.refl _ _)
  replace HY := Lib.hid ((hb.block _ (Array.getElem?_eq_some_iff.1 HY.out).1).trans HY.out)
  replace HB := Lib.hid (bkeep2 HB.out hb)
  clear hb
  have HZ := Lib.hid (new_q w4 (.cells #[.int .i64 q.x, .int .i64 q.y, .int .i64 q.rx, .int .i64 q.ry, .int .i64 q.ww, .int .i64 q.hh, .int .i64 q.qw, .int .i64 q.qh, .int .i64 q.an] 25))
  obtain ⟨d0, d1, d2, d3, d4, d5, d6, d7, d8⟩ := c9_q HY.out
  obtain ⟨e0, e1, e2, e3, e4, e5, e6, e7, e8⟩ := c9_q HZ.out
  go_wp2_with fail
  with_reducible refine (eqPlace_same q _).mono ?_
  rintro e w5 ⟨rfl, hb⟩
  replace HB := Lib.hid (bkeep2 HB.out hb)
  clear hb
  cases t
  all_goals
    go_wp2
    go_ret
    exact ⟨rfl, HB.out⟩
theorem walk (x y rx ry ww hh qw qh an : Int) (w0 h0 : Int) (w : World) : Calls Try.prog 8 #[.agg #[.int .i64 x, .int .i64 y, .int .i64 rx, .int .i64 ry, .int .i64 ww, .int .i64 hh, .int .i64 qw, .int .i64 qh, .int .i64 an], .int .i64 w0, .int .i64 h0] w fun e w' => e = .returned (.bool true) ∧ Below w.heap.size w w' := walkP ⟨x, y, rx, ry, ww, hh, qw, qh, an⟩ w0 h0 w
set_option maxRecDepth 100000 in
theorem lifted (os : Os) (started : os.Started) (H : Type) (enc : TypeId × Value → H) :
    ReturnsInHanded {} Try.checked os 8 .any (Rows.fnExactFixPlaceSpec.pre6 enc Try.prog Try.f8 Rows.fnExactFixPlaceRow.domain false) (Rows.fnExactFixPlaceSpec.post enc Try.prog Try.f8 false true false false) := by
  refine returnsInHanded_of_change (C := Try.checked) own started (by kernel_rfl) Try.func8
    (ChangeSpec.witness6 (enc := enc) (C := Try.checked) false ⟨#[], #[.agg #[.int .i64 0, .int .i64 0, .int .i64 0, .int .i64 0, .int .i64 0, .int .i64 0, .int .i64 0, .int .i64 0, .int .i64 0], .int .i64 0, .int .i64 0], []⟩ 8 (by kernel_rfl) (by kernel_rfl) (by kernel_rfl) (by kernel_rfl)) ?_
  intro W base args ds gs before hval0 hW hcnd _
  have hval : ∀ (j : Nat) t v, Try.f8.params[j]? = some t → args[j]? = some v → Value.okWide Try.prog W .any base t v := hval0
  have hW' := hW
  obtain ⟨p, q, hA0, hV, rfl, hfz, hnd⟩ := hW
  have hA : DataW.TrodAll enc Try.prog W 0 (fun _ => true) true Try.f8.params.toList args.toList ds p := hA0
  rw [Try.params8] at hA hval
  obtain ⟨v0, vs0, d0, ds0, p0, q0, hargs, rfl, rfl, h0, r0⟩ := trodAll_cons hA
  obtain ⟨v1, vs1, d1, ds1, p1, q1, rfl, rfl, rfl, h1, r1⟩ := trodAll_cons r0
  obtain ⟨v2, vs2, d2, ds2, p2, q2, rfl, rfl, rfl, h2, r2⟩ := trodAll_cons r1
  obtain ⟨rfl, rfl, rfl⟩ := trodAll_nil r2
  obtain rfl : args = #[v0, v1, v2] := by cases args; simp_all
  obtain ⟨rfl, rfl⟩ := trodVars_none hV
  have k0 := h0
  have lt0 : ∀ x ∈ p0, x.block < W.heap.size := by obtain ⟨m, hm⟩ := k0; exact DataW.trod_lt m _ _ _ hm
  obtain ⟨c00, c01, c02, c03, c04, c05, c06, c07, c08, y00, y01, y02, y03, y04, y05, y06, y07, y08, m0, rfl, _, _, hy00, hy01, hy02, hy03, hy04, hy05, hy06, hy07, hy08⟩ := open_agg9' Try.underlying23 (by kernel_rfl) (by kernel_rfl) (hval 0 23 v0 rfl rfl) h0
  obtain ⟨x00, e00, _, wx00⟩ := DataW.trod_int Try.underlying3 hy00
  obtain ⟨x01, e01, _, wx01⟩ := DataW.trod_int Try.underlying3 hy01
  obtain ⟨x02, e02, _, wx02⟩ := DataW.trod_int Try.underlying3 hy02
  obtain ⟨x03, e03, _, wx03⟩ := DataW.trod_int Try.underlying3 hy03
  obtain ⟨x04, e04, _, wx04⟩ := DataW.trod_int Try.underlying3 hy04
  obtain ⟨x05, e05, _, wx05⟩ := DataW.trod_int Try.underlying3 hy05
  obtain ⟨x06, e06, _, wx06⟩ := DataW.trod_int Try.underlying3 hy06
  obtain ⟨x07, e07, _, wx07⟩ := DataW.trod_int Try.underlying3 hy07
  obtain ⟨x08, e08, _, wx08⟩ := DataW.trod_int Try.underlying3 hy08
  simp only [List.cons.injEq, and_true] at e00 e01 e02 e03 e04 e05 e06 e07 e08
  subst e00 e01 e02 e03 e04 e05 e06 e07 e08
  have k1 := h1
  have lt1 : ∀ x ∈ p1, x.block < W.heap.size := by obtain ⟨m, hm⟩ := k1; exact DataW.trod_lt m _ _ _ hm
  obtain ⟨x1, rfl, _, _, wx1⟩ := open_int Try.underlying3 (hval 1 3 v1 rfl rfl) h1
  have k2 := h2
  have lt2 : ∀ x ∈ p2, x.block < W.heap.size := by obtain ⟨m, hm⟩ := k2; exact DataW.trod_lt m _ _ _ hm
  obtain ⟨x2, rfl, _, _, wx2⟩ := open_int Try.underlying3 (hval 2 3 v2 rfl rfl) h2
  clear hA0 hval0
  refine (walk x00 x01 x02 x03 x04 x05 x06 x07 x08 x1 x2 W).mono fun e W' ⟨he, bel⟩ => ?_
  subst he
  exact ⟨_, rfl, _, _, _, [], _, [], hW', trodAll_mk1 (shut_bool Try.underlying4 _), (trodAll_cons_mk (Below.trod laidOut (by kernel_rfl) (of_decide_eq_true (by kernel_rfl)) k0 bel lt0) (trodAll_cons_mk (Below.trod laidOut (by kernel_rfl) (of_decide_eq_true (by kernel_rfl)) k1 bel lt1) (trodAll_cons_mk (Below.trod laidOut (by kernel_rfl) (of_decide_eq_true (by kernel_rfl)) k2 bel lt2) trodAll_mk0))), rfl, bel.frame _, fun h => by cases h⟩
theorem over : Rows.fnExactFixPlaceRow.holds Try.pinned (OpenSpec.ofChange Rows.fnExactFixPlaceSpec) :=
  OpenClaim.holds_of_wide 8 Try.f8 rfl rfl rfl rfl rfl rfl rfl ⟨rfl, rfl, rfl, rfl, rfl⟩ rfl rfl rfl rfl rfl (by kernel_rfl) Try.func8 (by kernel_rfl)
    (of_decide_eq_true (by kernel_rfl)) (by unfold Func.isWrapper; first | (rw [if_pos (by decide +kernel)]; kernel_rfl) | (rw [if_neg (by decide +kernel)]; exact ⟨rfl, rfl⟩))
    (fun os started H enc _ => lifted os started H enc)
theorem proved : Rows.FnExactFixPlaceSaid := over
end Go.Proofs.Ytfhjmmajhohkjaa.xFixPlace
