/- FnExactPaneAt: for every argument the function of the program answers as the model's, and it writes into no argument. No condition. -/
import Derived.Test.YtpbfbcdidkbjiabQ06
namespace Go.Proofs.Ytpbfbcdidkbjiab.xPaneAt
open Go.ChangeShapes Go.WideShapes Go.ChangeAt Go.RowKit Go.Joins
set_option linter.unusedVariables false
attribute [local go_sem] growUpon_value growUpon_skip growUpon_enter
attribute [local go_sem] givesUpon_value givesUpon_skip givesUpon_enter
set_option maxHeartbeats 1000000
theorem both (S M : List Int) (i : Int) (hL1 : S.length ≤ 1048576) (hL2 : M.length ≤ 1048576) : ∃ z : Int, (∀ (w1 : World) (v : Value) (lo hi : Nat), PS lo hi w1 v S M → Calls Try.prog 13 #[v, .int .i64 i] w1 fun e w' => e = .returned (.int .i64 z) ∧ Below w1.heap.size w1 w') ∧ (∀ (w1 : World) (v : Value) (lo hi : Nat), PS lo hi w1 v S M → Calls Try.prog 14 #[v, .int .i64 i] w1 fun e w' => e = .returned (.int .i64 z) ∧ Below w1.heap.size w1 w') := by
  by_cases hv : pnP S M
  · exact ⟨lineM S i, fun w1 v lo hi' hp => (by rcases hp with ⟨rfl, rfl, rfl⟩ | ⟨g1, c1, g2, c2, rfl, _, _, _, _, _, o1, o2⟩; exact sPaneAt_yes none none 0 0 [] [] i w1 (NV.nil _ _) (NV.nil _ _) hL2 hL1 hv; exact sPaneAt_yes _ _ c1 c2 S M i w1 o1.nv o2.nv hL2 hL1 hv), fun w1 v lo hi' hp => (by rcases hp with ⟨rfl, rfl, rfl⟩ | ⟨g1, c1, g2, c2, rfl, _, _, _, _, _, o1, o2⟩; exact PaneAt_yes none none 0 0 [] [] i w1 (NV.nil _ _) (NV.nil _ _) hL2 hL1 hv; exact PaneAt_yes _ _ c1 c2 S M i w1 o1.nv o2.nv hL2 hL1 hv)⟩
  · exact ⟨-1, fun w1 v lo hi' hp => (by rcases hp with ⟨rfl, rfl, rfl⟩ | ⟨g1, c1, g2, c2, rfl, _, _, _, _, _, o1, o2⟩; exact sPaneAt_no none none 0 0 [] [] i w1 (NV.nil _ _) (NV.nil _ _) hL2 hL1 hv; exact sPaneAt_no _ _ c1 c2 S M i w1 o1.nv o2.nv hL2 hL1 hv), fun w1 v lo hi' hp => (by rcases hp with ⟨rfl, rfl, rfl⟩ | ⟨g1, c1, g2, c2, rfl, _, _, _, _, _, o1, o2⟩; exact PaneAt_no none none 0 0 [] [] i w1 (NV.nil _ _) (NV.nil _ _) hL2 hL1 hv; exact PaneAt_no _ _ c1 c2 S M i w1 o1.nv o2.nv hL2 hL1 hv)⟩
set_option maxRecDepth 100000 in
theorem walk (A : Option Addr) (c : Nat) (S : List Int) (A' : Option Addr) (c' : Nat) (M : List Int) (i : Int) (w : World) (k1 : NV w A S ∧ S.length ≤ maxLen) (k2 : NV w A' M ∧ M.length ≤ maxLen) : Calls Try.prog 4 #[.agg #[.slice A S.length c, .slice A' M.length c'], .int .i64 i] w fun e w' => e = .returned (.bool true) ∧ Below w.heap.size w w' := by
  obtain ⟨hn1, hm1⟩ := k1
  obtain ⟨hn2, hm2⟩ := k2
  have HX := Lib.hid (newS w (.cells #[.slice A S.length c, .slice A' M.length c'] 24))
  have HB := Lib.hid (balloc (o := (.cells #[.slice A S.length c, .slice A' M.length c'] 24)) (Below.refl w.heap.size w))
  by_cases hL : S.length + M.length ≤ 1048576
  · have hL1 : S.length ≤ 1048576 := by omega
    have hL2 : M.length ≤ 1048576 := by omega
    obtain ⟨z, hS, hI⟩ := both S M i hL1 hL2
    have HS := Lib.hid hS
    have HI := Lib.hid hI
    clear hS hI
    go_enter Try.func4, Try.ntmps4
    go_wp2_with fail
    with_reducible refine (szPanes_yes A A' S.length c M.length c' _ hL).mono ?_
    rintro e w1 ⟨⟨q, rfl, hq⟩, hb⟩
    have hq' : ¬ q < 0 := by omega
    replace HX := Lib.hid ((hb.block _ (Array.getElem?_eq_some_iff.1 HX.out).1).trans HX.out)
    replace HB := Lib.hid (bkeep2 HB.out hb)
    clear hb
    obtain ⟨c0, c1⟩ := c2L HX.out
    go_wp2_with fail
    with_reducible refine (toPanes_v A A' c c' S M _ (hn1.keep HB.out) (hn2.keep HB.out) hL1 hL2).mono ?_
    rintro e w2 ⟨⟨v2, rfl, hp2⟩, hb⟩
    clear c0 c1
    replace HX := Lib.hid ((hb.block _ (Array.getElem?_eq_some_iff.1 HX.out).1).trans HX.out)
    replace HB := Lib.hid (bkeep2 HB.out hb)
    clear hb
    go_wp2_with fail
    with_reducible refine (HS.out _ v2 _ _ hp2).mono ?_
    rintro e w3 ⟨rfl, hb⟩
    clear hp2
    replace HX := Lib.hid ((hb.block _ (Array.getElem?_eq_some_iff.1 HX.out).1).trans HX.out)
    replace HB := Lib.hid (bkeep2 HB.out hb)
    clear hb
    obtain ⟨c0, c1⟩ := c2L HX.out
    go_wp2_with fail
    with_reducible refine (toPanes_v A A' c c' S M _ (hn1.keep HB.out) (hn2.keep HB.out) hL1 hL2).mono ?_
    rintro e w4 ⟨⟨v4, rfl, hp4⟩, hb⟩
    clear c0 c1
    replace HX := Lib.hid ((hb.block _ (Array.getElem?_eq_some_iff.1 HX.out).1).trans HX.out)
    replace HB := Lib.hid (bkeep2 HB.out hb)
    clear hb
    obtain ⟨_, _, rfl, ⟨B1, e1, rfl, -⟩, ⟨B2, e2, rfl, -⟩⟩ := hp4.pr
    have HY := Lib.hid (newS w4 (.cells #[.slice B1 S.length e1, .slice B2 M.length e2] 27))
    have hb : Below w4.heap.size w4 (w4.alloc (.cells #[.slice B1 S.length e1, .slice B2 M.length e2] 27)) := balloc (Below.refl _ _)
    have HXV := Lib.hid hp4
    clear hp4
    replace HX := Lib.hid ((hb.block _ (Array.getElem?_eq_some_iff.1 HX.out).1).trans HX.out)
    replace HXV := Lib.hid (HXV.out.keep hb)
    replace HB := Lib.hid (bkeep2 HB.out hb)
    clear hb
    obtain ⟨d0, d1⟩ := c2L HY.out
    go_wp2_with fail
    with_reducible refine (HI.out _ _ _ _ HXV.out).mono ?_
    rintro e w5 ⟨rfl, hb⟩
    clear d0 d1
    replace HX := Lib.hid ((hb.block _ (Array.getElem?_eq_some_iff.1 HX.out).1).trans HX.out)
    replace HY := Lib.hid ((hb.block _ (Array.getElem?_eq_some_iff.1 HY.out).1).trans HY.out)
    replace HXV := Lib.hid (HXV.out.keep hb)
    replace HB := Lib.hid (bkeep2 HB.out hb)
    clear hb
    obtain ⟨c0, c1⟩ := c2L HX.out
    obtain ⟨d0, d1⟩ := c2L HY.out
    have hla := ltS HX.out
    have hlx := ltS HY.out
    go_wp2_with fail
    refine wp_region_rx (XV (.agg #[.slice B1 S.length e1, .slice B2 M.length e2]) :: XV (.agg #[.slice A S.length c, .slice A' M.length c']) :: (fun v a => PR a v S M) :: XV (.bool true) :: XV (.bool false) :: []) (by kernel_rfl) (by kernel_rfl) ?hTs ?hops ?hfin
    case hTs =>
      intro T hT
      simp only [List.mem_cons, List.not_mem_nil, or_false] at hT
      rcases hT with rfl | rfl | rfl | rfl | rfl <;> first | exact stay_V _ | exact stay_T | exact stay_of (fun v a b x g => x.keep g) | exact stay_of (fun v a b x g => x)
    case hops =>
      refine ⟨opOK_rx [(7, none)] (by kernel_rfl) rfl ?_, ?_⟩
      · intro act w' hw' h1
        have hk : ∀ v, act.eval (.const v) = v := fun _ => rfl
        have hf : ∀ f, act.eval (.func f) = .func (.func f) #[] #[] := fun _ => rfl
        generalize act.eval = ρ at *
        replace h1 : ρ (.tmp 7) = .pointer (some ⟨w4.heap.size, 0, none⟩) := h1
        refine gx_gen (fun K hK => ?_)
        obtain ⟨hc, hf'⟩ := bcell (bdrewn hw'.out)
        go_simp
        exact hK _ _ ⟨rfl, Gr.refl _⟩
      refine ⟨opOK_rx [(2, none)] (by kernel_rfl) rfl ?_, ?_⟩
      · intro act w' hw' h1
        have hk : ∀ v, act.eval (.const v) = v := fun _ => rfl
        have hf : ∀ f, act.eval (.func f) = .func (.func f) #[] #[] := fun _ => rfl
        generalize act.eval = ρ at *
        replace h1 : ρ (.tmp 2) = .pointer (some ⟨w.heap.size, 0, none⟩) := h1
        refine gx_gen (fun K hK => ?_)
        obtain ⟨hc, hf'⟩ := bcell (bdrewn hw'.out)
        go_simp
        exact hK _ _ ⟨rfl, Gr.refl _⟩
      refine ⟨opOK_rx [(27, some 1)] (by kernel_rfl) rfl ?_, ?_⟩
      · intro act w' hw' h1
        have hk : ∀ v, act.eval (.const v) = v := fun _ => rfl
        have hf : ∀ f, act.eval (.func f) = .func (.func f) #[] #[] := fun _ => rfl
        generalize act.eval = ρ at *
        replace h1 : ρ (.tmp 27) = .agg #[.slice A S.length c, .slice A' M.length c'] := h1
        refine gx_gen (fun K hK => ?_)
        obtain ⟨hc, hf'⟩ := bcell (bdrewn hw'.out)
        go_simp
        (with_reducible refine (toPanes_v A A' c c' S M _ ((hn1.keep HB.out).keep (bdrewn hw'.out)) ((hn2.keep HB.out).keep (bdrewn hw'.out)) hL1 hL2).mono ?_); rintro e w2 ⟨⟨v, rfl, hv⟩, hb⟩; exact ⟨v, rfl, hK _ _ ⟨hv.pr, Gr.of hb⟩⟩
      refine ⟨opOK_rx [(26, some 0), (28, some 2)] (by kernel_rfl) rfl ?_, ?_⟩
      · intro act w' hw' h1 h2
        have hk : ∀ v, act.eval (.const v) = v := fun _ => rfl
        have hf : ∀ f, act.eval (.func f) = .func (.func f) #[] #[] := fun _ => rfl
        generalize act.eval = ρ at *
        replace h1 : ρ (.tmp 26) = .agg #[.slice B1 S.length e1, .slice B2 M.length e2] := h1
        replace h2 : (fun v a => PR a v S M) (ρ (.tmp 28)) w' := h2
        refine gx_gen (fun K hK => ?_)
        obtain ⟨hc, hf'⟩ := bcell (bdrewn hw'.out)
        go_simp
        (with_reducible refine (eqPanes_same _ _ S M _ (HXV.out.pr.keep (bdrewn hw'.out)) h2 hL1 hL2).mono ?_); rintro e w2 ⟨rfl, hb⟩; exact ⟨_, rfl, hK _ _ ⟨rfl, Gr.of hb⟩⟩
      refine ⟨opOK_rx [(29, some 3)] (by kernel_rfl) rfl ?_, ?_⟩
      · intro act w' hw' h1
        have hk : ∀ v, act.eval (.const v) = v := fun _ => rfl
        have hf : ∀ f, act.eval (.func f) = .func (.func f) #[] #[] := fun _ => rfl
        generalize act.eval = ρ at *
        replace h1 : ρ (.tmp 29) = .bool true := h1
        refine gx_gen (fun K hK => ?_)
        obtain ⟨hc, hf'⟩ := bcell (bdrewn hw'.out)
        go_simp
        exact hK _ _ ⟨rfl, Gr.refl _⟩
      exact trivial
    case hfin =>
      intro w9 hg9
      intro v26 t26
      replace t26 : v26 = .agg #[.slice B1 S.length e1, .slice B2 M.length e2] := t26
      subst t26
      intro v27 t27
      replace t27 : v27 = .agg #[.slice A S.length c, .slice A' M.length c'] := t27
      subst t27
      intro v28 t28
      replace t28 : (fun v a => PR a v S M) v28 w9 := t28
      intro v29 t29
      replace t29 : v29 = .bool true := t29
      subst t29
      intro v30 t30
      replace t30 : v30 = .bool false := t30
      subst t30
      have hb9 := bdrewn hg9.out
      clear hg9
      simp only [finP, Act.put, List.setIfInBounds_toArray, List.set_cons_succ, List.set_cons_zero]
      replace HB := Lib.hid (bkeep2 HB.out hb9)
      go_wp2
      go_ret
      exact ⟨rfl, HB.out⟩
  · go_enter Try.func4, Try.ntmps4
    go_wp2_with fail
    with_reducible refine (szPanes_no A A' S.length c M.length c' _ hL hm1 hm2).mono ?_
    rintro e w1 ⟨rfl, hb⟩
    replace HB := Lib.hid (bkeep2 HB.out hb)
    clear hb
    go_wp2
    go_ret
    exact ⟨rfl, HB.out⟩
set_option maxRecDepth 100000 in
theorem lifted (os : Os) (started : os.Started) (H : Type) (enc : TypeId × Value → H) :
    ReturnsInHanded {} Try.checked os 4 .any (Rows.fnExactPaneAtSpec.pre6 enc Try.prog Try.f4 Rows.fnExactPaneAtRow.domain false) (Rows.fnExactPaneAtSpec.post enc Try.prog Try.f4 false true false false) := by
  refine returnsInHanded_of_change (C := Try.checked) own started (by kernel_rfl) Try.func4
    (ChangeSpec.witness6 (enc := enc) (C := Try.checked) false ⟨#[], #[.agg #[.slice none 0 0, .slice none 0 0], .int .i64 0], []⟩ 8 (by kernel_rfl) (by kernel_rfl) (by kernel_rfl) (by kernel_rfl)) ?_
  intro W base args ds gs before hval0 hW hcnd _
  have hval : ∀ (j : Nat) t v, Try.f4.params[j]? = some t → args[j]? = some v → Value.okWide Try.prog W .any base t v := hval0
  have hW' := hW
  obtain ⟨p, q, hA0, hV, rfl, hfz, hnd⟩ := hW
  have hA : DataW.TrodAll enc Try.prog W 0 (fun _ => true) true Try.f4.params.toList args.toList ds p := hA0
  rw [Try.params4] at hA hval
  obtain ⟨v0, vs0, d0, ds0, p0, q0, hargs, rfl, rfl, h0, r0⟩ := trodAll_cons hA
  obtain ⟨v1, vs1, d1, ds1, p1, q1, rfl, rfl, rfl, h1, r1⟩ := trodAll_cons r0
  obtain ⟨rfl, rfl, rfl⟩ := trodAll_nil r1
  obtain rfl : args = #[v0, v1] := by cases args; simp_all
  obtain ⟨rfl, rfl⟩ := trodVars_none hV
  have k0 := h0
  have lt0 : ∀ x ∈ p0, x.block < W.heap.size := by obtain ⟨m, hm⟩ := k0; exact DataW.trod_lt m _ _ _ hm
  obtain ⟨a0a, c0a, z0a, a0b, c0b, z0b, rfl, wz0a, wz0b⟩ := panes_of (hval 0 24 v0 rfl rfl) h0
  have k1 := h1
  have lt1 : ∀ x ∈ p1, x.block < W.heap.size := by obtain ⟨m, hm⟩ := k1; exact DataW.trod_lt m _ _ _ hm
  obtain ⟨x1, rfl, _, _, wx1⟩ := open_int Try.underlying3 (hval 1 3 v1 rfl rfl) h1
  clear hA0 hval0
  refine (walk a0a c0a z0a a0b c0b z0b x1 W wz0a wz0b).mono fun e W' ⟨he, bel⟩ => ?_
  subst he
  exact ⟨_, rfl, _, _, _, [], _, [], hW', trodAll_mk1 (shut_bool Try.underlying4 _), (trodAll_cons_mk (Below.trod laidOut (by kernel_rfl) (of_decide_eq_true (by kernel_rfl)) k0 bel lt0) (trodAll_cons_mk (Below.trod laidOut (by kernel_rfl) (of_decide_eq_true (by kernel_rfl)) k1 bel lt1) trodAll_mk0)), rfl, bel.frame _, fun h => by cases h⟩
theorem over : Rows.fnExactPaneAtRow.holds Try.pinned (OpenSpec.ofChange Rows.fnExactPaneAtSpec) :=
  OpenClaim.holds_of_wide 4 Try.f4 rfl rfl rfl rfl rfl rfl rfl ⟨rfl, rfl, rfl, rfl, rfl⟩ rfl rfl rfl rfl rfl (by kernel_rfl) Try.func4 (by kernel_rfl)
    (of_decide_eq_true (by kernel_rfl)) (by unfold Func.isWrapper; first | (rw [if_pos (by decide +kernel)]; kernel_rfl) | (rw [if_neg (by decide +kernel)]; exact ⟨rfl, rfl⟩))
    (fun os started H enc _ => lifted os started H enc)
theorem proved : Rows.FnExactPaneAtSaid := over
end Go.Proofs.Ytpbfbcdidkbjiab.xPaneAt
