/- FnExactValidGrid: for every argument the function of the program answers as the model's, and it writes into no argument. No condition. -/
import Derived.Test.YtjdjahckdgbkbacQ05
namespace Go.Proofs.Ytjdjahckdgbkbac.xValidGrid
open Go.ChangeShapes Go.WideShapes Go.ChangeAt Go.RowKit Go.Joins
set_option linter.unusedVariables false
set_option maxHeartbeats 1000000
attribute [local go_sem] givesUpon_value givesUpon_skip givesUpon_enter
set_option maxRecDepth 100000 in
theorem walk (A1 : Option Addr) (c1 : Nat) (L1 : List Ln) (A2 : Option Addr) (c2 : Nat) (L2 : List Ln) (A3 : Option Addr) (c3 : Nat) (L3 : List Ce) (w : World) (h1 : LnV w A1 L1 ∧ L1.length ≤ maxLen) (h2 : LnV w A2 L2 ∧ L2.length ≤ maxLen) (h3 : CeV w A3 L3 ∧ L3.length ≤ maxLen) : Calls Try.prog 6 #[.agg #[.slice A1 L1.length c1, .slice A2 L2.length c2, .slice A3 L3.length c3]] w fun e w' => e = .returned (.bool true) ∧ Below w.heap.size w w' := by
  obtain ⟨h1, m1⟩ := h1
  obtain ⟨h2, m2⟩ := h2
  obtain ⟨h3, m3⟩ := h3
  have hB0 : Below w.heap.size w (w.alloc (.cells #[.slice A1 L1.length c1, .slice A2 L2.length c2, .slice A3 L3.length c3] 39 (0, 0))) := balloc (Below.refl _ _)
  have HX := Lib.hid (newS w (.cells #[.slice A1 L1.length c1, .slice A2 L2.length c2, .slice A3 L3.length c3] 39 (0, 0)))
  have HV1 := Lib.hid (h1.keep hB0)
  have HV2 := Lib.hid (h2.keep hB0)
  have HV3 := Lib.hid (h3.keep hB0)
  have HB := Lib.hid hB0
  clear hB0 h1 h2 h3
  by_cases hs : (L1.length : Int) + L2.length + L3.length ≤ 1048576
  · have n1 : L1.length ≤ 1048576 := by omega
    have n2 : L2.length ≤ 1048576 := by omega
    have n3 : L3.length ≤ 1048576 := by omega
    have hd : decide ((1048576 : Int) - (L1.length : Int) - (L2.length : Int) - (L3.length : Int) < 0) = false := by simp; omega
    obtain ⟨t, hv⟩ : ∃ t, gridB L1 L2 L3 = t := ⟨_, rfl⟩
    go_enter Try.func6, Try.ntmps6
    go_wp2_with fail
    with_reducible refine (szGrid_yes A1 c1 L1.length A2 c2 L2.length A3 c3 L3.length _ hs).mono ?_
    rintro e w1 ⟨rfl, hb⟩
    replace HX := Lib.hid ((hb.block _ (Array.getElem?_eq_some_iff.1 HX.out).1).trans HX.out)
    replace HV1 := Lib.hid (HV1.out.keep hb)
    replace HV2 := Lib.hid (HV2.out.keep hb)
    replace HV3 := Lib.hid (HV3.out.keep hb)
    replace HB := Lib.hid (bkeep2 HB.out hb)
    clear hb
    have d0 := cellS HX.out 0
    have d1 := cellS HX.out 1
    have d2 := cellS HX.out 2
    go_wp2_with fail
    with_reducible refine (toGrid_v A1 c1 L1 A2 c2 L2 A3 c3 L3 _ HV1.out HV2.out HV3.out n1 n2 n3).mono ?_
    rintro e w2 ⟨⟨v, rfl, g1, g2, g3, rfl, -, -, -, hg1, hg2, hg3⟩, hb⟩
    clear d0 d1 d2
    replace HX := Lib.hid ((hb.block _ (Array.getElem?_eq_some_iff.1 HX.out).1).trans HX.out)
    replace HV1 := Lib.hid (HV1.out.keep hb)
    replace HV2 := Lib.hid (HV2.out.keep hb)
    replace HV3 := Lib.hid (HV3.out.keep hb)
    replace HB := Lib.hid (bkeep2 HB.out hb)
    clear hb
    go_wp2_with fail
    with_reducible refine (svalidGrid2_v _ _ L1 _ _ L2 _ _ L3 t _ hg1.v hg2.v hg3.v n1 n2 n3 hv).mono ?_
    rintro e w3 ⟨rfl, hb⟩
    clear hg1 hg2 hg3
    replace HX := Lib.hid ((hb.block _ (Array.getElem?_eq_some_iff.1 HX.out).1).trans HX.out)
    replace HV1 := Lib.hid (HV1.out.keep hb)
    replace HV2 := Lib.hid (HV2.out.keep hb)
    replace HV3 := Lib.hid (HV3.out.keep hb)
    replace HB := Lib.hid (bkeep2 HB.out hb)
    clear hb
    have d0 := cellS HX.out 0
    have d1 := cellS HX.out 1
    have d2 := cellS HX.out 2
    go_wp2_with fail
    with_reducible refine (toGrid_v A1 c1 L1 A2 c2 L2 A3 c3 L3 _ HV1.out HV2.out HV3.out n1 n2 n3).mono ?_
    rintro e w4 ⟨⟨v, rfl, g1, g2, g3, rfl, -, -, -, hg1, hg2, hg3⟩, hb⟩
    clear d0 d1 d2
    replace HX := Lib.hid ((hb.block _ (Array.getElem?_eq_some_iff.1 HX.out).1).trans HX.out)
    replace HV1 := Lib.hid (HV1.out.keep hb)
    replace HV2 := Lib.hid (HV2.out.keep hb)
    replace HV3 := Lib.hid (HV3.out.keep hb)
    replace HB := Lib.hid (bkeep2 HB.out hb)
    clear hb
    have HG1 := Lib.hid hg1
    have HG2 := Lib.hid hg2
    have HG3 := Lib.hid hg3
    have hb : Below w4.heap.size w4 (w4.alloc (.cells #[.slice (some ⟨g1, 0, none⟩) L1.length L1.length, .slice (some ⟨g2, 0, none⟩) L2.length L2.length, .slice (some ⟨g3, 0, none⟩) L3.length L3.length] 45 (0, 0))) := balloc (Below.refl _ _)
    replace HX := Lib.hid ((hb.block _ (Array.getElem?_eq_some_iff.1 HX.out).1).trans HX.out)
    replace HV1 := Lib.hid (HV1.out.keep hb)
    replace HV2 := Lib.hid (HV2.out.keep hb)
    replace HV3 := Lib.hid (HV3.out.keep hb)
    replace HG1 := Lib.hid (HG1.out.keep hb)
    replace HG2 := Lib.hid (HG2.out.keep hb)
    replace HG3 := Lib.hid (HG3.out.keep hb)
    replace HB := Lib.hid (bkeep2 HB.out hb)
    clear hb
    have HY := Lib.hid (newS w4 (.cells #[.slice (some ⟨g1, 0, none⟩) L1.length L1.length, .slice (some ⟨g2, 0, none⟩) L2.length L2.length, .slice (some ⟨g3, 0, none⟩) L3.length L3.length] 45 (0, 0)))
    clear hg1 hg2 hg3
    go_wp2_with fail
    with_reducible refine (validGrid_v _ _ L1 _ _ L2 _ _ L3 t _ HG1.out.v HG2.out.v HG3.out.v n1 n2 n3 hv).mono ?_
    rintro e w5 ⟨rfl, hb⟩
    replace HX := Lib.hid ((hb.block _ (Array.getElem?_eq_some_iff.1 HX.out).1).trans HX.out)
    replace HY := Lib.hid ((hb.block _ (Array.getElem?_eq_some_iff.1 HY.out).1).trans HY.out)
    replace HV1 := Lib.hid (HV1.out.keep hb)
    replace HV2 := Lib.hid (HV2.out.keep hb)
    replace HV3 := Lib.hid (HV3.out.keep hb)
    replace HG1 := Lib.hid (HG1.out.keep hb)
    replace HG2 := Lib.hid (HG2.out.keep hb)
    replace HG3 := Lib.hid (HG3.out.keep hb)
    replace HB := Lib.hid (bkeep2 HB.out hb)
    clear hb
    have d0 := cellS HX.out 0
    have d1 := cellS HX.out 1
    have d2 := cellS HX.out 2
    have f0 := cellS HY.out 0
    have f1 := cellS HY.out 1
    have f2 := cellS HY.out 2
    clear hv
    have lx := ltS HX.out
    have ly := ltS HY.out
    have hv1 := HV1.out
    have hv2 := HV2.out
    have hv3 := HV3.out
    have hg1 := HG1.out.v
    have hg2 := HG2.out.v
    have hg3 := HG3.out.v
    cases t
    all_goals
      go_wp2_with fail
      refine wp_region_rx (XV (.agg #[.slice (some ⟨g1, 0, none⟩) L1.length L1.length, .slice (some ⟨g2, 0, none⟩) L2.length L2.length, .slice (some ⟨g3, 0, none⟩) L3.length L3.length]) :: XV (.agg #[.slice A1 L1.length c1, .slice A2 L2.length c2, .slice A3 L3.length c3]) :: (fun v w => GB 0 w v L1 L2 L3) :: XV (.bool true) :: XV (.bool false) :: []) (by kernel_rfl) (by kernel_rfl) ?hTs ?hops ?hfin
      case hTs =>
        intro T hT
        simp only [List.mem_cons, List.not_mem_nil, or_false] at hT
        rcases hT with rfl | rfl | rfl | rfl | rfl <;> first | exact stay_V _ | exact stay_T | exact stay_of (fun v a b x g => x.keep g) | exact stay_of (fun v a b x g => x)
      case hops =>
        refine ⟨opOK_rx [(5, none)] (by kernel_rfl) rfl ?_, ?_⟩
        · intro act w' hw' h1
          have hk : ∀ v, act.eval (.const v) = v := fun _ => rfl
          have hf : ∀ f, act.eval (.func f) = .func (.func f) #[] #[] := fun _ => rfl
          generalize act.eval = ρ at *
          replace h1 : ρ (.tmp 5) = .pointer (some ⟨w4.heap.size, 0, none⟩) := h1
          refine gx_gen (fun K hK => ?_)
          obtain ⟨hc, hf'⟩ := bcell (bdrewn hw'.out)
          go_simp
          exact hK _ _ ⟨rfl, Gr.refl _⟩
        refine ⟨opOK_rx [(1, none)] (by kernel_rfl) rfl ?_, ?_⟩
        · intro act w' hw' h1
          have hk : ∀ v, act.eval (.const v) = v := fun _ => rfl
          have hf : ∀ f, act.eval (.func f) = .func (.func f) #[] #[] := fun _ => rfl
          generalize act.eval = ρ at *
          replace h1 : ρ (.tmp 1) = .pointer (some ⟨w.heap.size, 0, none⟩) := h1
          refine gx_gen (fun K hK => ?_)
          obtain ⟨hc, hf'⟩ := bcell (bdrewn hw'.out)
          go_simp
          exact hK _ _ ⟨rfl, Gr.refl _⟩
        refine ⟨opOK_rx [(23, some 1)] (by kernel_rfl) rfl ?_, ?_⟩
        · intro act w' hw' h1
          have hk : ∀ v, act.eval (.const v) = v := fun _ => rfl
          have hf : ∀ f, act.eval (.func f) = .func (.func f) #[] #[] := fun _ => rfl
          generalize act.eval = ρ at *
          replace h1 : ρ (.tmp 23) = .agg #[.slice A1 L1.length c1, .slice A2 L2.length c2, .slice A3 L3.length c3] := h1
          refine gx_gen (fun K hK => ?_)
          obtain ⟨hc, hf'⟩ := bcell (bdrewn hw'.out)
          go_simp
          (with_reducible refine (toGrid_v A1 c1 L1 A2 c2 L2 A3 c3 L3 _ (hv1.keep (bdrewn hw'.out)) (hv2.keep (bdrewn hw'.out)) (hv3.keep (bdrewn hw'.out)) n1 n2 n3).mono ?_); rintro e w1 ⟨⟨v, rfl, hr1⟩, hb1⟩; exact ⟨_, rfl, hK _ _ ⟨hr1.any, hb1⟩⟩
        refine ⟨opOK_rx [(22, some 0), (24, some 2)] (by kernel_rfl) rfl ?_, ?_⟩
        · intro act w' hw' h1 h2
          have hk : ∀ v, act.eval (.const v) = v := fun _ => rfl
          have hf : ∀ f, act.eval (.func f) = .func (.func f) #[] #[] := fun _ => rfl
          generalize act.eval = ρ at *
          replace h1 : ρ (.tmp 22) = .agg #[.slice (some ⟨g1, 0, none⟩) L1.length L1.length, .slice (some ⟨g2, 0, none⟩) L2.length L2.length, .slice (some ⟨g3, 0, none⟩) L3.length L3.length] := h1
          replace h2 : (fun v w => GB 0 w v L1 L2 L3) (ρ (.tmp 24)) w' := h2
          refine gx_gen (fun K hK => ?_)
          obtain ⟨hc, hf'⟩ := bcell (bdrewn hw'.out)
          go_simp
          obtain ⟨q1, q2, q3, e, -, -, -, m1, m2, m3⟩ := h2; rw [e]; (with_reducible refine (eqGrid_same _ _ L1 _ _ L2 _ _ L3 _ _ _ _ _ _ _ (hg1.keep (bdrewn hw'.out)) (hg2.keep (bdrewn hw'.out)) (hg3.keep (bdrewn hw'.out)) m1.v m2.v m3.v n1 n2 n3).mono ?_); rintro e w1 ⟨rfl, hb1⟩; exact ⟨_, rfl, hK _ _ ⟨rfl, hb1⟩⟩
        refine ⟨opOK_rx [(25, some 3)] (by kernel_rfl) rfl ?_, ?_⟩
        · intro act w' hw' h1
          have hk : ∀ v, act.eval (.const v) = v := fun _ => rfl
          have hf : ∀ f, act.eval (.func f) = .func (.func f) #[] #[] := fun _ => rfl
          generalize act.eval = ρ at *
          replace h1 : ρ (.tmp 25) = .bool true := h1
          refine gx_gen (fun K hK => ?_)
          obtain ⟨hc, hf'⟩ := bcell (bdrewn hw'.out)
          go_simp
          exact hK _ _ ⟨rfl, Gr.refl _⟩
        exact trivial
      case hfin =>
        intro w9 hg9
        intro v22 t22
        replace t22 : v22 = .agg #[.slice (some ⟨g1, 0, none⟩) L1.length L1.length, .slice (some ⟨g2, 0, none⟩) L2.length L2.length, .slice (some ⟨g3, 0, none⟩) L3.length L3.length] := t22
        subst t22
        intro v23 t23
        replace t23 : v23 = .agg #[.slice A1 L1.length c1, .slice A2 L2.length c2, .slice A3 L3.length c3] := t23
        subst t23
        intro v24 t24
        replace t24 : (fun v w => GB 0 w v L1 L2 L3) v24 w9 := t24
        intro v25 t25
        replace t25 : v25 = .bool true := t25
        subst t25
        intro v26 t26
        replace t26 : v26 = .bool false := t26
        subst t26
        have hb9 := bdrewn hg9.out
        clear hg9
        simp only [finP, Act.put, List.setIfInBounds_toArray, List.set_cons_succ, List.set_cons_zero]
        go_wp2
        go_ret
        exact ⟨rfl, bkeep2 HB.out hb9⟩
  · have hd : decide ((-1 : Int) < 0) = true := by simp
    go_enter Try.func6, Try.ntmps6
    go_wp2_with fail
    with_reducible refine (szGrid_no A1 c1 L1.length A2 c2 L2.length A3 c3 L3.length _ (by omega) m1 m2 m3).mono ?_
    rintro e w1 ⟨rfl, hb⟩
    replace HB := Lib.hid (bkeep2 HB.out hb)
    clear hb
    go_wp2
    go_ret
    exact ⟨rfl, HB.out⟩
set_option maxRecDepth 100000 in
theorem lifted (os : Os) (started : os.Started) (H : Type) (enc : TypeId × Value → H) :
    ReturnsInHanded {} Try.checked os 6 .any (Rows.fnExactValidGridSpec.pre6 enc Try.prog Try.f6 Rows.fnExactValidGridRow.domain false) (Rows.fnExactValidGridSpec.post enc Try.prog Try.f6 false true false false) := by
  refine returnsInHanded_of_change (C := Try.checked) own started (by kernel_rfl) Try.func6
    (ChangeSpec.witness6 (enc := enc) (C := Try.checked) false ⟨#[], #[.agg #[.slice none 0 0, .slice none 0 0, .slice none 0 0]], []⟩ 8 (by kernel_rfl) (by kernel_rfl) (by kernel_rfl) (by kernel_rfl)) ?_
  intro W base args ds gs before hval0 hW hcnd _
  have hval : ∀ (j : Nat) t v, Try.f6.params[j]? = some t → args[j]? = some v → Value.okWide Try.prog W .any base t v := hval0
  have hW' := hW
  obtain ⟨p, q, hA0, hV, rfl, hfz, hnd⟩ := hW
  have hA : DataW.TrodAll enc Try.prog W 0 (fun _ => true) true Try.f6.params.toList args.toList ds p := hA0
  rw [Try.params6] at hA hval
  obtain ⟨v0, vs0, d0, ds0, p0, q0, hargs, rfl, rfl, h0, r0⟩ := trodAll_cons hA
  obtain ⟨rfl, rfl, rfl⟩ := trodAll_nil r0
  obtain rfl : args = #[v0] := by cases args; simp_all
  obtain ⟨rfl, rfl⟩ := trodVars_none hV
  have k0 := h0
  have lt0 : ∀ x ∈ p0, x.block < W.heap.size := by obtain ⟨m, hm⟩ := k0; exact DataW.trod_lt m _ _ _ hm
  obtain ⟨a0a, c0a, z0a, a0b, c0b, z0b, a0c, c0c, z0c, rfl, wz0a, wz0b, wz0c⟩ := grid_of (hval 0 39 v0 rfl rfl) h0
  clear hA0 hval0
  refine (walk a0a c0a z0a a0b c0b z0b a0c c0c z0c W wz0a wz0b wz0c).mono fun e W' ⟨he, bel⟩ => ?_
  subst he
  exact ⟨_, rfl, _, _, _, [], _, [], hW', trodAll_mk1 (shut_bool Try.underlying4 _), (trodAll_cons_mk (Below.trod laidOut (by kernel_rfl) (of_decide_eq_true (by kernel_rfl)) k0 bel lt0) trodAll_mk0), rfl, bel.frame _, fun h => by cases h⟩
theorem over : Rows.fnExactValidGridRow.holds Try.pinned (OpenSpec.ofChange Rows.fnExactValidGridSpec) :=
  OpenClaim.holds_of_wide 6 Try.f6 rfl rfl rfl rfl rfl rfl rfl ⟨rfl, rfl, rfl, rfl, rfl⟩ rfl rfl rfl rfl rfl (by kernel_rfl) Try.func6 (by kernel_rfl)
    (of_decide_eq_true (by kernel_rfl)) (by unfold Func.isWrapper; first | (rw [if_pos (by decide +kernel)]; kernel_rfl) | (rw [if_neg (by decide +kernel)]; exact ⟨rfl, rfl⟩))
    (fun os started H enc _ => lifted os started H enc)
theorem proved : Rows.FnExactValidGridSaid := over
end Go.Proofs.Ytjdjahckdgbkbac.xValidGrid
