/- FnExactPackText: for every argument the function of the program answers as the model's. No condition but the tied tables. -/
import Derived.Test.YtjdjahckdgbkbadDoorQ04
namespace Go.Proofs.YtjdjahckdgbkbadDoor.xPackText
open Go.ChangeShapes Go.WideShapes Go.ChangeAt Go.RowKit Go.Joins
set_option linter.unusedVariables false
attribute [local go_sem] growUpon_value growUpon_skip growUpon_enter
set_option maxHeartbeats 1000000
theorem walk (w0 h0 s : Int) (fx fy ex : Bool) (an px py : Int) (w : World) (hT : LT.TW w) : Calls Tryd.prog 3 #[.agg #[.int .i64 w0, .int .i64 h0, .int .i64 s, .bool fx, .bool fy, .bool ex, .int .i64 an, .int .i64 px, .int .i64 py]] w fun e w' => e = .returned (.bool true) ∧ Below w.heap.size w w' := by
  have HS := Lib.hid (fun w => sPackText_v w0 h0 s fx fy ex an px py w)
  have HI := Lib.hid (fun w h => PackText_v w0 h0 s fx fy ex an px py w h)
  generalize (if vpB w0 h0 s an px py = true then pkT w0 h0 s fx fy ex an px py else []) = R at *
  have hne := ne_same R
  have heg := fun s t w => eqg_tx .neq s t R R w
  have HX := Lib.hid (newS w (.cells #[.int .i64 w0, .int .i64 h0, .int .i64 s, .bool fx, .bool fy, .bool ex, .int .i64 an, .int .i64 px, .int .i64 py] 23))
  have HB := Lib.hid (balloc (o := (.cells #[.int .i64 w0, .int .i64 h0, .int .i64 s, .bool fx, .bool fy, .bool ex, .int .i64 an, .int .i64 px, .int .i64 py] 23)) (Below.refl w.heap.size w))
  go_enter Tryd.func3, Tryd.ntmps3
  go_wp2_with fail
  with_reducible refine (toPack_any _ _ _ _ _ _ _ _ _ _).mono ?_
  rintro e w1 ⟨rfl, hb⟩
  replace HX := Lib.hid ((hb.block _ (Array.getElem?_eq_some_iff.1 HX.out).1).trans HX.out)
  replace HB := Lib.hid (bkeep2 HB.out hb)
  clear hb
  go_wp2_with fail
  with_reducible refine (HS.out _).mono ?_
  rintro e w2 ⟨rfl, hb⟩
  replace HX := Lib.hid ((hb.block _ (Array.getElem?_eq_some_iff.1 HX.out).1).trans HX.out)
  replace HB := Lib.hid (bkeep2 HB.out hb)
  clear hb
  obtain ⟨c0, c1, c2, c3, c4, c5, c6, c7, c8⟩ := b9c HX.out
  go_wp2_with fail
  with_reducible refine (toPack_any _ _ _ _ _ _ _ _ _ _).mono ?_
  rintro e w3 ⟨rfl, hb⟩
  clear c0 c1 c2 c3 c4 c5 c6 c7 c8
  replace HB := Lib.hid (bkeep2 HB.out hb)
  clear hb
  go_wp2_with fail
  with_reducible refine (HI.out _ (hT.keep HB.out)).mono ?_
  rintro e w4 ⟨rfl, hb⟩
  replace HB := Lib.hid (bkeep2 HB.out hb)
  clear hb
  go_wp2
  go_ret
  exact ⟨rfl, HB.out⟩
set_option maxRecDepth 100000 in
theorem lifted (os : Os) (started : os.Started) (H : Type) (enc : TypeId × Value → H) :
    ReturnsInHanded {} Tryd.checked os 3 .any (fun w args => (Rows.fnExactPackTextSpec.pre enc Tryd.prog Tryd.f3 [] false w args ∧ laidMetH Tryd.prog Rows.fnExactPackTextRow.laid w) ∧ sizedMet enc Tryd.prog Tryd.f3 (OpenSpec.ofChange Rows.fnExactPackTextSpec) false w args) (Rows.fnExactPackTextSpec.post enc Tryd.prog Tryd.f3 false true false false) := by
  refine returnsInHanded_of_change_and (C := Tryd.checked) (X := fun w _ => laidMetH Tryd.prog Rows.fnExactPackTextRow.laid w) (fun _ _ _ hh h => h.of_heap hh) own started (by kernel_rfl) Tryd.func3
    (ChangeSpec.witness_shaped (enc := enc) (C := Tryd.checked) (os := os) (X := fun w _ => laidMetH Tryd.prog Rows.fnExactPackTextRow.laid w) false (LT.world os) #[.agg #[.int .i64 0, .int .i64 0, .int .i64 0, .bool false, .bool false, .bool false, .int .i64 0, .int .i64 0, .int .i64 0]] 8 rfl (World.shaped_of_RefB (by kernel_rfl) (by kernel_rfl)) (by kernel_rfl) (by kernel_rfl) (by kernel_rfl) (LT.met os _)) ?_
  intro W base args ds gs before hval0 hW hcnd _ hL _
  have hval : ∀ (j : Nat) t v, Tryd.f3.params[j]? = some t → args[j]? = some v → Value.okWide Tryd.prog W .any base t v := hval0
  have hW' := hW
  obtain ⟨p, q, hA0, hV, rfl, hfz, hnd⟩ := hW
  have hA : DataW.TrodAll enc Tryd.prog W 0 (fun _ => true) true Tryd.f3.params.toList args.toList ds p := hA0
  rw [Tryd.params3] at hA hval
  obtain ⟨v0, vs0, d0, ds0, p0, q0, hargs, rfl, rfl, h0, r0⟩ := trodAll_cons hA
  obtain ⟨rfl, rfl, rfl⟩ := trodAll_nil r0
  obtain rfl : args = #[v0] := by cases args; simp_all
  obtain ⟨rfl, rfl⟩ := trodVars_none hV
  have k0 := h0
  have lt0 : ∀ x ∈ p0, x.block < W.heap.size := by obtain ⟨m, hm⟩ := k0; exact DataW.trod_lt m _ _ _ hm
  obtain ⟨c00, c01, c02, c03, c04, c05, c06, c07, c08, y00, y01, y02, y03, y04, y05, y06, y07, y08, m0, rfl, _, _, hy00, hy01, hy02, hy03, hy04, hy05, hy06, hy07, hy08⟩ := open_agg9' Tryd.underlying23 (by kernel_rfl) (by kernel_rfl) (hval 0 23 v0 rfl rfl) h0
  obtain ⟨x00, e00, _, wx00⟩ := DataW.trod_int Tryd.underlying3 hy00
  obtain ⟨x01, e01, _, wx01⟩ := DataW.trod_int Tryd.underlying3 hy01
  obtain ⟨x02, e02, _, wx02⟩ := DataW.trod_int Tryd.underlying3 hy02
  obtain ⟨x03, e03, _⟩ := DataW.trod_bool Tryd.underlying4 hy03
  obtain ⟨x04, e04, _⟩ := DataW.trod_bool Tryd.underlying4 hy04
  obtain ⟨x05, e05, _⟩ := DataW.trod_bool Tryd.underlying4 hy05
  obtain ⟨x06, e06, _, wx06⟩ := DataW.trod_int Tryd.underlying3 hy06
  obtain ⟨x07, e07, _, wx07⟩ := DataW.trod_int Tryd.underlying3 hy07
  obtain ⟨x08, e08, _, wx08⟩ := DataW.trod_int Tryd.underlying3 hy08
  simp only [List.cons.injEq, and_true] at e00 e01 e02 e03 e04 e05 e06 e07 e08
  subst e00 e01 e02 e03 e04 e05 e06 e07 e08
  clear hA0 hval0
  have hT := LT.opens hL
  refine (walk x00 x01 x02 x03 x04 x05 x06 x07 x08 W hT).mono fun e W' ⟨he, bel⟩ => ?_
  subst he
  exact ⟨_, rfl, _, _, _, [], _, [], hW', trodAll_mk1 (shut_bool Tryd.underlying4 _), (trodAll_cons_mk (Below.trod laidOut (by kernel_rfl) (of_decide_eq_true (by kernel_rfl)) k0 bel lt0) trodAll_mk0), rfl, bel.frame _, fun h => by cases h⟩
theorem over : Rows.fnExactPackTextRow.holds Tryd.pinned (OpenSpec.ofChange Rows.fnExactPackTextSpec) :=
  OpenClaim.holds_of_wide 3 Tryd.f3 rfl rfl rfl rfl rfl rfl rfl ⟨rfl, rfl, rfl, rfl, rfl⟩ rfl rfl rfl rfl rfl (by kernel_rfl) Tryd.func3 (by kernel_rfl)
    (of_decide_eq_true (by kernel_rfl)) (by unfold Func.isWrapper; first | (rw [if_pos (by decide +kernel)]; kernel_rfl) | (rw [if_neg (by decide +kernel)]; exact ⟨rfl, rfl⟩))
    (fun os started H enc _ => lifted os started H enc)
theorem proved : Rows.FnExactPackTextCardSaid :=
  Claim7.holds_tied_plain_at .later [] [.data, .data, .data] true (true, "a4f295b7d11440db162dffcf0cc96dd251aaae209ac5dbb5af9028773e7f7df9") false over (fun _ h => by cases h) (by kernel_rfl) (fun _ h => by cases h) fnExactPackText_row_tie rfl ⟨rfl, rfl⟩ (by kernel_rfl) rfl
    (fun f fn hf hfn => by
      obtain rfl : f = 3 := Option.some.inj ((show Tryd.prog.funcNamed "loop.example/widgetroom/laws.FnExactPackText" = some 3 by kernel_rfl).symm.trans hf) |>.symm
      obtain rfl : fn = Tryd.f3 := (Option.some.inj (Tryd.func3.symm.trans hfn)).symm
      refine ⟨by kernel_rfl, fun j t ht => ?_⟩
      rw [Tryd.params3] at ht
      rcases j with _ | j
      · exact (Option.some.inj ht) ▸ (show Tryd.prog.wantsStandIn 23 = false by kernel_rfl)
      · simp at ht)
    (by kernel_rfl)
end Go.Proofs.YtjdjahckdgbkbadDoor.xPackText
