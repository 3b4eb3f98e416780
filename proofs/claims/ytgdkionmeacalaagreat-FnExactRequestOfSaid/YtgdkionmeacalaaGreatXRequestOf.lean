/- FnExactRequestOf: for every argument the function of the program answers as the model's, and it writes into no argument. No condition. -/
import Derived.Test.YtgdkionmeacalaaGreatQ26
namespace Go.Proofs.YtgdkionmeacalaaGreat.xRequestOf
open Go.ChangeShapes Go.WideShapes Go.ChangeAt Go.RowKit Go.Joins
set_option linter.unusedVariables false
set_option maxHeartbeats 1000000
attribute [local go_sem] givesUpon_value givesUpon_skip givesUpon_enter
theorem both (L : List Nd) (i : Int) : ∃ q1 q2 : Int,
    (∀ w1 A1 c1 k (R : List Nr), R.map Nr.n = L → k = R.length → NrV w1 A1 R → RdR w1 R → R.length ≤ 1048576 → (∀ p ∈ R, p.n.cs.length ≤ 1048576 ∧ p.n.rs.length ≤ 1048576) → Calls Tryz.prog 8 #[.agg #[.slice A1 k c1], .int .i64 i] w1 fun e w' => e = .returned (.tuple #[.int .i64 q1, .int .i64 q2]) ∧ Below w1.heap.size w1 w') ∧
    (∀ w1 A1 c1 k (R : List Nr), R.map Nr.n = L → k = R.length → NrV w1 A1 R → RdR w1 R → R.length ≤ 1048576 → (∀ p ∈ R, p.n.cs.length ≤ 1048576 ∧ p.n.rs.length ≤ 1048576) → Calls Tryz.prog 10 #[.agg #[.slice A1 k c1], .int .i64 i] w1 fun e w' => e = .returned (.tuple #[.int .i64 q1, .int .i64 q2]) ∧ Below w1.heap.size w1 w') := by
  cases hb : (treeB L && rng i 0 ((L.length : Int) - 1))
  · refine ⟨-1, -1, fun w1 A1 c1 k R hR hk h1 h2 h3 h4 => ?_, fun w1 A1 c1 k R hR hk h1 h2 h3 h4 => ?_⟩
    · subst hR
      rw [List.length_map, ← hk] at hb
      exact sRequestOf_no A1 c1 k R i w1 hk h1 h2 h3 h4 hb
    · subst hR
      rw [List.length_map, ← hk] at hb
      exact RequestOf_no A1 c1 k R i w1 hk h1 h2 h3 h4 hb
  · rw [Bool.and_eq_true, rng_iff] at hb
    obtain ⟨ht, h0, hj1⟩ := hb
    obtain ⟨j, rfl⟩ := Int.eq_ofNat_of_zero_le h0
    refine ⟨(szM L j).1, (szM L j).2, fun w1 A1 c1 k R hR hk h1 h2 h3 h4 => ?_, fun w1 A1 c1 k R hR hk h1 h2 h3 h4 => ?_⟩
    · subst hR
      rw [List.length_map] at hj1
      exact sRequestOf_yes A1 c1 k R j w1 hk h1 h2 h3 h4 ht (by omega)
    · subst hR
      rw [List.length_map] at hj1
      exact RequestOf_yes A1 c1 k R j w1 hk h1 h2 h3 h4 ht (by omega)
set_option maxRecDepth 100000 in
theorem walk (A : Option Addr) (c : Nat) (R : List Nr) (i : Int) (w : World) (h : NrV w A R) (hr : RdR w R) (hn : R.length ≤ maxLen) (hm : ∀ p ∈ R, p.n.cs.length ≤ maxLen ∧ p.n.rs.length ≤ maxLen) :
    Calls Tryz.prog 3 #[.agg #[.slice A R.length c], .int .i64 i] w fun e w' => e = .returned (.bool true) ∧ Below w.heap.size w w' := by
  have hB0 : Below w.heap.size w (w.alloc (.cells #[.slice A R.length c] 24 (0, 0))) := balloc (Below.refl _ _)
  have HX := Lib.hid (newS w (.cells #[.slice A R.length c] 24 (0, 0)))
  have HV := Lib.hid (h.keep hB0)
  have HR := Lib.hid (hr.keep hB0)
  have HB := Lib.hid hB0
  have HN := Lib.hid (And.intro hn hm)
  clear hB0 h hr hn hm
  obtain ⟨t, ht⟩ : ∃ t, (if R.length + szL R ≤ 1048576 then (1048576 : Int) - (R.length + szL R) else -1) = t := ⟨_, rfl⟩
  have hx0 := cellS HX.out 0
  by_cases hs : R.length + szL R ≤ 1048576
  · have ht0 : decide (t < 0) = false := by rw [← ht, if_pos hs]; exact decide_eq_false (by omega)
    have HT := Lib.hid ht
    have hL : R.length ≤ 1048576 := by omega
    have HM := Lib.hid (show ∀ p ∈ R, p.n.cs.length ≤ 1048576 ∧ p.n.rs.length ≤ 1048576 from fun p hp => by have := szL_mem hp; omega)
    obtain ⟨q1, q2, hI1, hI2⟩ := both (R.map Nr.n) i
    have HS := Lib.hid hI1
    have HI := Lib.hid hI2
    clear ht hI1 hI2 hs
    go_enter Tryz.func3, Tryz.ntmps3
    go_wp2_with fail
    with_reducible refine (szTree_v A c R t _ HV.out HN.out.1 HN.out.2 HT.out).mono ?_
    rintro e w1 ⟨rfl, hb⟩
    clear hx0
    replace HX := Lib.hid ((hb.block _ (Array.getElem?_eq_some_iff.1 HX.out).1).trans HX.out)
    replace HV := Lib.hid (HV.out.keep hb)
    replace HR := Lib.hid (HR.out.keep hb)
    replace HB := Lib.hid (bkeep2 HB.out hb)
    clear hb
    have hx0 := cellS HX.out 0
    go_wp2_with fail
    with_reducible refine (toTree_a A c R _ HV.out HR.out hL HM.out).mono ?_
    rintro e w2 ⟨⟨v, rfl, hta⟩, hb⟩
    obtain ⟨g, S, rfl, -, -, e1, h1, h2, h3, -, -⟩ := hta.open
    clear hx0 hta
    replace HX := Lib.hid ((hb.block _ (Array.getElem?_eq_some_iff.1 HX.out).1).trans HX.out)
    replace HV := Lib.hid (HV.out.keep hb)
    replace HR := Lib.hid (HR.out.keep hb)
    replace HB := Lib.hid (bkeep2 HB.out hb)
    clear hb
    go_wp2_with fail
    with_reducible refine (HS.out _ _ _ R.length S h3 e1.symm h1 h2 (by omega) (map_mem h3 HM.out)).mono ?_
    rintro e w3 ⟨rfl, hb⟩
    clear h1 h2 h3 e1
    replace HX := Lib.hid ((hb.block _ (Array.getElem?_eq_some_iff.1 HX.out).1).trans HX.out)
    replace HV := Lib.hid (HV.out.keep hb)
    replace HR := Lib.hid (HR.out.keep hb)
    replace HB := Lib.hid (bkeep2 HB.out hb)
    clear hb
    have hx0 := cellS HX.out 0
    go_wp2_with fail
    with_reducible refine (toTree_a A c R _ HV.out HR.out hL HM.out).mono ?_
    rintro e w4 ⟨⟨v, rfl, hta⟩, hb⟩
    obtain ⟨g4, S4, rfl, -, -, e4, h1, h2, h3, -, -⟩ := hta.open
    have hb2 : Below w4.heap.size w4 (w4.alloc (.cells #[.slice (some ⟨g4, 0, none⟩) R.length R.length] 30 (0, 0))) := balloc (Below.refl _ _)
    have HY := Lib.hid (newS w4 (.cells #[.slice (some ⟨g4, 0, none⟩) R.length R.length] 30 (0, 0)))
    have HV4 := Lib.hid (h1.keep hb2)
    have HR4 := Lib.hid (h2.keep hb2)
    have HE4 := Lib.hid h3
    replace hb := bkeep2 hb hb2
    have HL4 := Lib.hid e4
    clear hx0 hta h1 h2 h3 e4 hb2
    replace HX := Lib.hid ((hb.block _ (Array.getElem?_eq_some_iff.1 HX.out).1).trans HX.out)
    replace HV := Lib.hid (HV.out.keep hb)
    replace HR := Lib.hid (HR.out.keep hb)
    replace HB := Lib.hid (bkeep2 HB.out hb)
    clear hb
    have hy0 := cellS HY.out 0
    go_wp2_with fail
    with_reducible refine (HI.out _ _ _ R.length S4 HE4.out HL4.out.symm HV4.out HR4.out (by rw [HL4.out]; omega) (map_mem HE4.out HM.out)).mono ?_
    rintro e w5 ⟨rfl, hb⟩
    clear hy0
    replace HX := Lib.hid ((hb.block _ (Array.getElem?_eq_some_iff.1 HX.out).1).trans HX.out)
    replace HY := Lib.hid ((hb.block _ (Array.getElem?_eq_some_iff.1 HY.out).1).trans HY.out)
    replace HV := Lib.hid (HV.out.keep hb)
    replace HR := Lib.hid (HR.out.keep hb)
    replace HV4 := Lib.hid (HV4.out.keep hb)
    replace HR4 := Lib.hid (HR4.out.keep hb)
    replace HB := Lib.hid (bkeep2 HB.out hb)
    clear hb
    have hx0 := cellS HX.out 0
    have hy0 := cellS HY.out 0
    have lx := ltS HX.out
    have ly := ltS HY.out
    have hv := HV.out
    have hr := HR.out
    have hv4 := HV4.out
    have hr4 := HR4.out
    go_wp2_with fail
    refine wp_region_rx (XV (.agg #[.slice (some ⟨g4, 0, none⟩) R.length R.length]) :: XV (.agg #[.slice A R.length c]) :: (fun z w => TA 0 w z R) :: XV (.bool true) :: XV (.bool false) :: []) (by kernel_rfl) (by kernel_rfl) ?hTs ?hops ?hfin
    case hTs =>
      intro T hT
      simp only [List.mem_cons, List.not_mem_nil, or_false] at hT
      rcases hT with rfl | rfl | rfl | rfl | rfl <;> first | exact stay_V _ | exact stay_T | exact stay_of (fun v a b x g => x.keep g) | exact stay_of (fun v a b x g => x)
    case hops =>
      refine ⟨opOK_rx [(8, none)] (by kernel_rfl) rfl ?_, ?_⟩
      · intro act w' hw' h1
        have hk : ∀ v, act.eval (.const v) = v := fun _ => rfl
        have hf : ∀ f, act.eval (.func f) = .func (.func f) #[] #[] := fun _ => rfl
        generalize act.eval = ρ at *
        replace h1 : ρ (.tmp 8) = .pointer (some ⟨w4.heap.size, 0, none⟩) := h1
        refine gx_gen (fun K hK => ?_)
        obtain ⟨hc, hf'⟩ := bcell (bdrewn hw'.out)
        go_simp
        exact hK _ _ ⟨rfl, Gr.refl _⟩
      refine ⟨opOK_rx [(2, none)] (by kernel_rfl) rfl ?_, ?_⟩
      · intro act w' hw' h1
        have hk : ∀ v, act.eval (.const v) = v := fun _ => rfl
        have hf : ∀ f, act.eval (.func f) = .func (.func f) #[] #[] := fun _ => rfl
        generalize act.eval = ρ at *
        replace h1 : ρ (.tmp 2) = .pointer (some ⟨w.heap.size, 0, none⟩) := h1
        refine gx_gen (fun K hK => ?_)
        obtain ⟨hc, hf'⟩ := bcell (bdrewn hw'.out)
        go_simp
        exact hK _ _ ⟨rfl, Gr.refl _⟩
      refine ⟨opOK_rx [(40, some 1)] (by kernel_rfl) rfl ?_, ?_⟩
      · intro act w' hw' h1
        have hk : ∀ v, act.eval (.const v) = v := fun _ => rfl
        have hf : ∀ f, act.eval (.func f) = .func (.func f) #[] #[] := fun _ => rfl
        generalize act.eval = ρ at *
        replace h1 : ρ (.tmp 40) = .agg #[.slice A R.length c] := h1
        refine gx_gen (fun K hK => ?_)
        obtain ⟨hc, hf'⟩ := bcell (bdrewn hw'.out)
        go_simp
        (with_reducible refine (toTree_a A c R _ (hv.keep (bdrewn hw'.out)) (hr.keep (bdrewn hw'.out)) hL HM.out).mono ?_); rintro e w1 ⟨⟨z, rfl, hr1⟩, hb1⟩; exact ⟨_, rfl, hK _ _ ⟨hr1.any, hb1⟩⟩
      refine ⟨opOK_rx [(39, some 0), (41, some 2)] (by kernel_rfl) rfl ?_, ?_⟩
      · intro act w' hw' h1 h2
        have hk : ∀ v, act.eval (.const v) = v := fun _ => rfl
        have hf : ∀ f, act.eval (.func f) = .func (.func f) #[] #[] := fun _ => rfl
        generalize act.eval = ρ at *
        replace h1 : ρ (.tmp 39) = .agg #[.slice (some ⟨g4, 0, none⟩) R.length R.length] := h1
        replace h2 : (fun z w => TA 0 w z R) (ρ (.tmp 41)) w' := h2
        refine gx_gen (fun K hK => ?_)
        obtain ⟨hc, hf'⟩ := bcell (bdrewn hw'.out)
        go_simp
        obtain ⟨q1, q2, e, -, -, q3, q4, q5, q6, -, -⟩ := h2.open; rw [e]; (with_reducible refine (eqTree_same _ _ _ _ S4 q2 _ (by rw [q6]; exact HE4.out.symm) (hv4.keep (bdrewn hw'.out)) q4 (hr4.keep (bdrewn hw'.out)) q5 (by rw [HL4.out]; omega) (map_mem HE4.out HM.out) R.length HL4.out.symm).mono ?_); rintro e w1 ⟨rfl, hb1⟩; exact ⟨_, rfl, hK _ _ ⟨rfl, hb1⟩⟩
      refine ⟨opOK_rx [(42, some 3)] (by kernel_rfl) rfl ?_, ?_⟩
      · intro act w' hw' h1
        have hk : ∀ v, act.eval (.const v) = v := fun _ => rfl
        have hf : ∀ f, act.eval (.func f) = .func (.func f) #[] #[] := fun _ => rfl
        generalize act.eval = ρ at *
        replace h1 : ρ (.tmp 42) = .bool true := h1
        refine gx_gen (fun K hK => ?_)
        obtain ⟨hc, hf'⟩ := bcell (bdrewn hw'.out)
        go_simp
        exact hK _ _ ⟨rfl, Gr.refl _⟩
      exact trivial
    case hfin =>
      intro w9 hg9
      intro v39 t39
      replace t39 : v39 = .agg #[.slice (some ⟨g4, 0, none⟩) R.length R.length] := t39
      subst t39
      intro v40 t40
      replace t40 : v40 = .agg #[.slice A R.length c] := t40
      subst t40
      intro v41 t41
      replace t41 : (fun z w => TA 0 w z R) v41 w9 := t41
      intro v42 t42
      replace t42 : v42 = .bool true := t42
      subst t42
      intro v43 t43
      replace t43 : v43 = .bool false := t43
      subst t43
      have hb9 := bdrewn hg9.out
      clear hg9
      simp only [finP, Act.put, List.setIfInBounds_toArray, List.set_cons_succ, List.set_cons_zero]
      replace HB := Lib.hid (bkeep2 HB.out hb9)
      clear hb9
      go_wp2
      go_ret
      exact ⟨rfl, HB.out⟩
  · have ht0 : t = -1 := by rw [← ht, if_neg hs]
    subst ht0
    have HT := Lib.hid ht
    clear ht hs
    go_enter Tryz.func3, Tryz.ntmps3
    go_wp2_with fail
    with_reducible refine (szTree_v A c R _ _ HV.out HN.out.1 HN.out.2 HT.out).mono ?_
    rintro e w1 ⟨rfl, hb⟩
    replace HB := Lib.hid (bkeep2 HB.out hb)
    clear hb
    go_wp2
    go_ret
    exact ⟨rfl, HB.out⟩
set_option maxRecDepth 100000 in
theorem lifted (os : Os) (started : os.Started) (H : Type) (enc : TypeId × Value → H) :
    ReturnsInHanded {} Tryz.checked os 3 .any (Rows.fnExactRequestOfSpec.pre6 enc Tryz.prog Tryz.f3 Rows.fnExactRequestOfRow.domain false) (Rows.fnExactRequestOfSpec.post enc Tryz.prog Tryz.f3 false true false false) := by
  refine returnsInHanded_of_change (C := Tryz.checked) own started (by kernel_rfl) Tryz.func3
    (ChangeSpec.witness6 (enc := enc) (C := Tryz.checked) false ⟨#[], #[.agg #[.slice none 0 0], .int .i64 0], []⟩ 8 (by kernel_rfl) (by kernel_rfl) (by kernel_rfl) (by kernel_rfl)) ?_
  intro W base args ds gs before hval0 hW hcnd _
  have hval : ∀ (j : Nat) t v, Tryz.f3.params[j]? = some t → args[j]? = some v → Value.okWide Tryz.prog W .any base t v := hval0
  have hW' := hW
  obtain ⟨p, q, hA0, hV, rfl, hfz, hnd⟩ := hW
  have hA : DataW.TrodAll enc Tryz.prog W 0 (fun _ => true) true Tryz.f3.params.toList args.toList ds p := hA0
  rw [Tryz.params3] at hA hval
  obtain ⟨v0, vs0, d0, ds0, p0, q0, hargs, rfl, rfl, h0, r0⟩ := trodAll_cons hA
  obtain ⟨v1, vs1, d1, ds1, p1, q1, rfl, rfl, rfl, h1, r1⟩ := trodAll_cons r0
  obtain ⟨rfl, rfl, rfl⟩ := trodAll_nil r1
  obtain rfl : args = #[v0, v1] := by cases args; simp_all
  obtain ⟨rfl, rfl⟩ := trodVars_none hV
  have k0 := h0
  have lt0 : ∀ x ∈ p0, x.block < W.heap.size := by obtain ⟨m, hm⟩ := k0; exact DataW.trod_lt m _ _ _ hm
  obtain ⟨a0, c0, z0, rfl, wz0, wr0, wn0, wm0⟩ := tree_of (hval 0 24 v0 rfl rfl) h0
  have k1 := h1
  have lt1 : ∀ x ∈ p1, x.block < W.heap.size := by obtain ⟨m, hm⟩ := k1; exact DataW.trod_lt m _ _ _ hm
  obtain ⟨x1, rfl, _, _, wx1⟩ := open_int Tryz.underlying3 (hval 1 3 v1 rfl rfl) h1
  clear hA0 hval0
  refine (walk a0 c0 z0 x1 W wz0 wr0 wn0 wm0).mono fun e W' ⟨he, bel⟩ => ?_
  subst he
  exact ⟨_, rfl, _, _, _, [], _, [], hW', trodAll_mk1 (shut_bool Tryz.underlying4 _), (trodAll_cons_mk (Below.trod laidOut (by kernel_rfl) (of_decide_eq_true (by kernel_rfl)) k0 bel lt0) (trodAll_cons_mk (Below.trod laidOut (by kernel_rfl) (of_decide_eq_true (by kernel_rfl)) k1 bel lt1) trodAll_mk0)), rfl, bel.frame _, fun h => by cases h⟩
theorem over : Rows.fnExactRequestOfRow.holds Tryz.pinned (OpenSpec.ofChange Rows.fnExactRequestOfSpec) :=
  OpenClaim.holds_of_wide 3 Tryz.f3 rfl rfl rfl rfl rfl rfl rfl ⟨rfl, rfl, rfl, rfl, rfl⟩ rfl rfl rfl rfl rfl (by kernel_rfl) Tryz.func3 (by kernel_rfl)
    (of_decide_eq_true (by kernel_rfl)) (by unfold Func.isWrapper; first | (rw [if_pos (by decide +kernel)]; kernel_rfl) | (rw [if_neg (by decide +kernel)]; exact ⟨rfl, rfl⟩))
    (fun os started H enc _ => lifted os started H enc)
theorem proved : Rows.FnExactRequestOfSaid := over
end Go.Proofs.YtgdkionmeacalaaGreat.xRequestOf
