/- FnExactValidTree: for every argument the function of the program answers as the model's, and it writes into no argument. No condition. -/
import Derived.Test.YtikndbinlpmgaabQ10
namespace Go.Proofs.Ytikndbinlpmgaab.xValidTree
open Go.ChangeShapes Go.WideShapes Go.ChangeAt Go.RowKit Go.Joins
set_option linter.unusedVariables false
set_option maxHeartbeats 1000000
attribute [local go_sem] givesUpon_value givesUpon_skip givesUpon_enter
set_option maxRecDepth 100000 in
theorem walk (A : Option Addr) (c : Nat) (R : List Nr) (w : World) (h : NrV w A R) (hr : RdR w R) (hn : R.length ≤ maxLen) (hm : ∀ p ∈ R, p.n.cs.length ≤ maxLen ∧ p.n.rs.length ≤ maxLen) :
    Calls Try.prog 3 #[.agg #[.slice A R.length c]] w fun e w' => e = .returned (.bool true) ∧ Below w.heap.size w w' := by
  have hB0 : Below w.heap.size w (w.alloc (.cells #[.slice A R.length c] 24 (0, 0))) := balloc (Below.refl _ _)
  have HX := Lib.hid (newS w (.cells #[.slice A R.length c] 24 (0, 0)))
  have HV := Lib.hid (h.keep hB0)
  have HR := Lib.hid (hr.keep hB0)
  have HB := Lib.hid hB0
  have HN := Lib.hid (And.intro hn hm)
  clear hB0 h hr hn hm
  obtain ⟨t, ht⟩ : ∃ t, (if R.length + szL R ≤ 1048576 then (1048576 : Int) - (R.length + szL R) else -1) = t := ⟨_, rfl⟩
  have hx0 := cellS HX.out 0
  by_cases hs : R.length + szL R ≤ 1048576
  · have ht0 : decide (t < 0) = false := by rw [← ht, if_pos hs]; exact decide_eq_false (by omega)
    have HT := Lib.hid ht
    have hL : R.length ≤ 1048576 := by omega
    have HM := Lib.hid (show ∀ p ∈ R, p.n.cs.length ≤ 1048576 ∧ p.n.rs.length ≤ 1048576 from fun p hp => by have := szL_mem hp; omega)
    obtain ⟨b, hb⟩ : ∃ b, treeB (R.map Nr.n) = b := ⟨_, rfl⟩
    have HBB := Lib.hid hb
    clear ht hb hs
    go_enter Try.func3, Try.ntmps3
    go_wp2_with fail
    with_reducible refine (szTree_v A c R t _ HV.out HN.out.1 HN.out.2 HT.out).mono ?_
    rintro e w1 ⟨rfl, hb⟩
    clear hx0
    replace HX := Lib.hid ((hb.block _ (Array.getElem?_eq_some_iff.1 HX.out).1).trans HX.out)
    replace HV := Lib.hid (HV.out.keep hb)
    replace HR := Lib.hid (HR.out.keep hb)
    replace HB := Lib.hid (bkeep2 HB.out hb)
    clear hb
    have hx0 := cellS HX.out 0
    go_wp2_with fail
    with_reducible refine (toTree_a A c R _ HV.out HR.out hL HM.out).mono ?_
    rintro e w2 ⟨⟨v, rfl, hta⟩, hb⟩
    obtain ⟨g, S, rfl, -, -, e1, h1, h2, h3, -, -⟩ := hta.open
    clear hx0 hta
    replace HX := Lib.hid ((hb.block _ (Array.getElem?_eq_some_iff.1 HX.out).1).trans HX.out)
    replace HV := Lib.hid (HV.out.keep hb)
    replace HR := Lib.hid (HR.out.keep hb)
    replace HB := Lib.hid (bkeep2 HB.out hb)
    clear hb
    go_wp2_with fail
    with_reducible refine (sValidTree_n _ _ R.length S b _ e1.symm h1 h2 (by omega) (map_mem h3 HM.out) (by rw [h3]; exact HBB.out)).mono ?_
    rintro e w3 ⟨rfl, hb⟩
    clear h1 h2 h3 e1
    replace HX := Lib.hid ((hb.block _ (Array.getElem?_eq_some_iff.1 HX.out).1).trans HX.out)
    replace HV := Lib.hid (HV.out.keep hb)
    replace HR := Lib.hid (HR.out.keep hb)
    replace HB := Lib.hid (bkeep2 HB.out hb)
    clear hb
    have hx0 := cellS HX.out 0
    go_wp2_with fail
    with_reducible refine (toTree_a A c R _ HV.out HR.out hL HM.out).mono ?_
    rintro e w4 ⟨⟨v, rfl, hta⟩, hb⟩
    obtain ⟨g4, S4, rfl, -, -, e4, h1, h2, h3, -, -⟩ := hta.open
    have hb2 : Below w4.heap.size w4 (w4.alloc (.cells #[.slice (some ⟨g4, 0, none⟩) R.length R.length] 29 (0, 0))) := balloc (Below.refl _ _)
    have HY := Lib.hid (newS w4 (.cells #[.slice (some ⟨g4, 0, none⟩) R.length R.length] 29 (0, 0)))
    have HV4 := Lib.hid (h1.keep hb2)
    have HR4 := Lib.hid (h2.keep hb2)
    have HE4 := Lib.hid h3
    replace hb := bkeep2 hb hb2
    have HL4 := Lib.hid e4
    clear hx0 hta h1 h2 h3 e4 hb2
    replace HX := Lib.hid ((hb.block _ (Array.getElem?_eq_some_iff.1 HX.out).1).trans HX.out)
    replace HV := Lib.hid (HV.out.keep hb)
    replace HR := Lib.hid (HR.out.keep hb)
    replace HB := Lib.hid (bkeep2 HB.out hb)
    clear hb
    have hy0 := cellS HY.out 0
    go_wp2_with fail
    with_reducible refine (ValidTree_n _ _ R.length S4 b _ HL4.out.symm HV4.out HR4.out (by rw [HL4.out]; omega) (map_mem HE4.out HM.out) (by rw [HE4.out]; exact HBB.out)).mono ?_
    rintro e w5 ⟨rfl, hb⟩
    clear hy0
    replace HX := Lib.hid ((hb.block _ (Array.getElem?_eq_some_iff.1 HX.out).1).trans HX.out)
    replace HY := Lib.hid ((hb.block _ (Array.getElem?_eq_some_iff.1 HY.out).1).trans HY.out)
    replace HV := Lib.hid (HV.out.keep hb)
    replace HR := Lib.hid (HR.out.keep hb)
    replace HV4 := Lib.hid (HV4.out.keep hb)
    replace HR4 := Lib.hid (HR4.out.keep hb)
    replace HB := Lib.hid (bkeep2 HB.out hb)
    clear hb
    have hx0 := cellS HX.out 0
    have hy0 := cellS HY.out 0
    have lx := ltS HX.out
    have ly := ltS HY.out
    have hv := HV.out
    have hr := HR.out
    have hv4 := HV4.out
    have hr4 := HR4.out
    go_wp2_with fail
    cases b
    all_goals
      try go_wp2_with fail
      refine wp_region_rx (XV (.agg #[.slice (some ⟨g4, 0, none⟩) R.length R.length]) :: XV (.agg #[.slice A R.length c]) :: (fun z w => TA 0 w z R) :: XV (.bool true) :: XV (.bool false) :: []) (by kernel_rfl) (by kernel_rfl) ?hTs ?hops ?hfin
      case hTs =>
        intro T hT
        simp only [List.mem_cons, List.not_mem_nil, or_false] at hT
        rcases hT with rfl | rfl | rfl | rfl | rfl <;> first | exact stay_V _ | exact stay_T | exact stay_of (fun v a b x g => x.keep g) | exact stay_of (fun v a b x g => x)
      case hops =>
        refine ⟨opOK_rx [(5, none)] (by kernel_rfl) rfl ?_, ?_⟩
        · intro act w' hw' h1
          have hk : ∀ v, act.eval (.const v) = v := fun _ => rfl
          have hf : ∀ f, act.eval (.func f) = .func (.func f) #[] #[] := fun _ => rfl
          generalize act.eval = ρ at *
          replace h1 : ρ (.tmp 5) = .pointer (some ⟨w4.heap.size, 0, none⟩) := h1
          refine gx_gen (fun K hK => ?_)
          obtain ⟨hc, hf'⟩ := bcell (bdrewn hw'.out)
          go_simp
          exact hK _ _ ⟨rfl, Gr.refl _⟩
        refine ⟨opOK_rx [(1, none)] (by kernel_rfl) rfl ?_, ?_⟩
        · intro act w' hw' h1
          have hk : ∀ v, act.eval (.const v) = v := fun _ => rfl
          have hf : ∀ f, act.eval (.func f) = .func (.func f) #[] #[] := fun _ => rfl
          generalize act.eval = ρ at *
          replace h1 : ρ (.tmp 1) = .pointer (some ⟨w.heap.size, 0, none⟩) := h1
          refine gx_gen (fun K hK => ?_)
          obtain ⟨hc, hf'⟩ := bcell (bdrewn hw'.out)
          go_simp
          exact hK _ _ ⟨rfl, Gr.refl _⟩
        refine ⟨opOK_rx [(23, some 1)] (by kernel_rfl) rfl ?_, ?_⟩
        · intro act w' hw' h1
          have hk : ∀ v, act.eval (.const v) = v := fun _ => rfl
          have hf : ∀ f, act.eval (.func f) = .func (.func f) #[] #[] := fun _ => rfl
          generalize act.eval = ρ at *
          replace h1 : ρ (.tmp 23) = .agg #[.slice A R.length c] := h1
          refine gx_gen (fun K hK => ?_)
          obtain ⟨hc, hf'⟩ := bcell (bdrewn hw'.out)
          go_simp
          (with_reducible refine (toTree_a A c R _ (hv.keep (bdrewn hw'.out)) (hr.keep (bdrewn hw'.out)) hL HM.out).mono ?_); rintro e w1 ⟨⟨z, rfl, hr1⟩, hb1⟩; exact ⟨_, rfl, hK _ _ ⟨hr1.any, hb1⟩⟩
        refine ⟨opOK_rx [(22, some 0), (24, some 2)] (by kernel_rfl) rfl ?_, ?_⟩
        · intro act w' hw' h1 h2
          have hk : ∀ v, act.eval (.const v) = v := fun _ => rfl
          have hf : ∀ f, act.eval (.func f) = .func (.func f) #[] #[] := fun _ => rfl
          generalize act.eval = ρ at *
          replace h1 : ρ (.tmp 22) = .agg #[.slice (some ⟨g4, 0, none⟩) R.length R.length] := h1
          replace h2 : (fun z w => TA 0 w z R) (ρ (.tmp 24)) w' := h2
          refine gx_gen (fun K hK => ?_)
          obtain ⟨hc, hf'⟩ := bcell (bdrewn hw'.out)
          go_simp
          obtain ⟨q1, q2, e, -, -, q3, q4, q5, q6, -, -⟩ := h2.open; rw [e]; (with_reducible refine (eqTree_same _ _ _ _ S4 q2 _ (by rw [q6]; exact HE4.out.symm) (hv4.keep (bdrewn hw'.out)) q4 (hr4.keep (bdrewn hw'.out)) q5 (by rw [HL4.out]; omega) (map_mem HE4.out HM.out) R.length HL4.out.symm).mono ?_); rintro e w1 ⟨rfl, hb1⟩; exact ⟨_, rfl, hK _ _ ⟨rfl, hb1⟩⟩
        refine ⟨opOK_rx [(25, some 3)] (by kernel_rfl) rfl ?_, ?_⟩
        · intro act w' hw' h1
          have hk : ∀ v, act.eval (.const v) = v := fun _ => rfl
          have hf : ∀ f, act.eval (.func f) = .func (.func f) #[] #[] := fun _ => rfl
          generalize act.eval = ρ at *
          replace h1 : ρ (.tmp 25) = .bool true := h1
          refine gx_gen (fun K hK => ?_)
          obtain ⟨hc, hf'⟩ := bcell (bdrewn hw'.out)
          go_simp
          exact hK _ _ ⟨rfl, Gr.refl _⟩
        exact trivial
      case hfin =>
        intro w9 hg9
        intro v22 t22
        replace t22 : v22 = .agg #[.slice (some ⟨g4, 0, none⟩) R.length R.length] := t22
        subst t22
        intro v23 t23
        replace t23 : v23 = .agg #[.slice A R.length c] := t23
        subst t23
        intro v24 t24
        replace t24 : (fun z w => TA 0 w z R) v24 w9 := t24
        intro v25 t25
        replace t25 : v25 = .bool true := t25
        subst t25
        intro v26 t26
        replace t26 : v26 = .bool false := t26
        subst t26
        have hb9 := bdrewn hg9.out
        clear hg9
        simp only [finP, Act.put, List.setIfInBounds_toArray, List.set_cons_succ, List.set_cons_zero]
        replace HB := Lib.hid (bkeep2 HB.out hb9)
        clear hb9
        go_wp2
        go_ret
        exact ⟨rfl, HB.out⟩
  · have ht0 : t = -1 := by rw [← ht, if_neg hs]
    subst ht0
    have HT := Lib.hid ht
    clear ht hs
    go_enter Try.func3, Try.ntmps3
    go_wp2_with fail
    with_reducible refine (szTree_v A c R _ _ HV.out HN.out.1 HN.out.2 HT.out).mono ?_
    rintro e w1 ⟨rfl, hb⟩
    replace HB := Lib.hid (bkeep2 HB.out hb)
    clear hb
    go_wp2
    go_ret
    exact ⟨rfl, HB.out⟩
set_option maxRecDepth 100000 in
theorem lifted (os : Os) (started : os.Started) (H : Type) (enc : TypeId × Value → H) :
    ReturnsInHanded {} Try.checked os 3 .any (Rows.fnExactValidTreeSpec.pre6 enc Try.prog Try.f3 Rows.fnExactValidTreeRow.domain false) (Rows.fnExactValidTreeSpec.post enc Try.prog Try.f3 false true false false) := by
  refine returnsInHanded_of_change (C := Try.checked) own started (by kernel_rfl) Try.func3
    (ChangeSpec.witness6 (enc := enc) (C := Try.checked) false ⟨#[], #[.agg #[.slice none 0 0]], []⟩ 8 (by kernel_rfl) (by kernel_rfl) (by kernel_rfl) (by kernel_rfl)) ?_
  intro W base args ds gs before hval0 hW hcnd _
  have hval : ∀ (j : Nat) t v, Try.f3.params[j]? = some t → args[j]? = some v → Value.okWide Try.prog W .any base t v := hval0
  have hW' := hW
  obtain ⟨p, q, hA0, hV, rfl, hfz, hnd⟩ := hW
  have hA : DataW.TrodAll enc Try.prog W 0 (fun _ => true) true Try.f3.params.toList args.toList ds p := hA0
  rw [Try.params3] at hA hval
  obtain ⟨v0, vs0, d0, ds0, p0, q0, hargs, rfl, rfl, h0, r0⟩ := trodAll_cons hA
  obtain ⟨rfl, rfl, rfl⟩ := trodAll_nil r0
  obtain rfl : args = #[v0] := by cases args; simp_all
  obtain ⟨rfl, rfl⟩ := trodVars_none hV
  have k0 := h0
  have lt0 : ∀ x ∈ p0, x.block < W.heap.size := by obtain ⟨m, hm⟩ := k0; exact DataW.trod_lt m _ _ _ hm
  obtain ⟨a0, c0, z0, rfl, wz0, wr0, wn0, wm0⟩ := tree_of (hval 0 24 v0 rfl rfl) h0
  clear hA0 hval0
  refine (walk a0 c0 z0 W wz0 wr0 wn0 wm0).mono fun e W' ⟨he, bel⟩ => ?_
  subst he
  exact ⟨_, rfl, _, _, _, [], _, [], hW', trodAll_mk1 (shut_bool Try.underlying4 _), (trodAll_cons_mk (Below.trod laidOut (by kernel_rfl) (of_decide_eq_true (by kernel_rfl)) k0 bel lt0) trodAll_mk0), rfl, bel.frame _, fun h => by cases h⟩
theorem over : Rows.fnExactValidTreeRow.holds Try.pinned (OpenSpec.ofChange Rows.fnExactValidTreeSpec) :=
  OpenClaim.holds_of_wide 3 Try.f3 rfl rfl rfl rfl rfl rfl rfl ⟨rfl, rfl, rfl, rfl, rfl⟩ rfl rfl rfl rfl rfl (by kernel_rfl) Try.func3 (by kernel_rfl)
    (of_decide_eq_true (by kernel_rfl)) (by unfold Func.isWrapper; first | (rw [if_pos (by decide +kernel)]; kernel_rfl) | (rw [if_neg (by decide +kernel)]; exact ⟨rfl, rfl⟩))
    (fun os started H enc _ => lifted os started H enc)
theorem proved : Rows.FnExactValidTreeSaid := over
end Go.Proofs.Ytikndbinlpmgaab.xValidTree
