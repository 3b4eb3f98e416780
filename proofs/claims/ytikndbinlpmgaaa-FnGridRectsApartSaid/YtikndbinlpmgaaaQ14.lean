import Derived.Test.YtikndbinlpmgaaaQ13
section
namespace Go.Proofs.Ytikndbinlpmgaaa
open Go.RowKit
set_option linter.unusedVariables false
set_option maxHeartbeats 1000000
attribute [local go_sem] growUpon_value growUpon_skip growUpon_enter
attribute [local go_sem] givesUpon_value givesUpon_skip givesUpon_enter
def rgG (u v : Int) : Bool := rng u 0 400 && rng v 0 400
theorem rgG_yes {u v : Int} (h : rgG u v = true) : (0 ≤ u ∧ u ≤ 400) ∧ (0 ≤ v ∧ v ≤ 400) := by simpa only [rgG, Bool.and_eq_true, rng_iff] using h
/-- what is known of a valid grid in a room -/
structure GF (L1 L2 : List Ln) (L3 : List Ce) : Prop where
  v1 : linesB L1 = true
  v2 : linesB L2 = true
  hl8 : L3.length ≤ 8
  hsm : ∀ p ∈ L3, smC p
  s1 : spansB L1.length (L3.map acM) = true
  s2 : spansB L2.length (L3.map dnM) = true
  n1 : L1.length ≤ 5
  n2 : L2.length ≤ 5
theorem GF.of {L1 L2 : List Ln} {L3 : List Ce} (h : gridB L1 L2 L3 = true) : GF L1 L2 L3 := by
  obtain ⟨v1, v2, hl8, hsm, s1, s2⟩ := gridB_yes h
  exact ⟨v1, v2, hl8, hsm, s1, s2, (linesB_len v1).2, (linesB_len v2).2⟩
theorem validRoom_g (u v : Int) (w : World) : Calls Try.prog 32 #[.int .i64 u, .int .i64 v] w fun e w' => e = .returned (.bool (rgG u v)) ∧ w = w' := by
  unfold rgG
  cases h1 : rng u 0 400
  · go_enter Try.func32, Try.ntmps32
    go_wp2_with fail
    with_reducible refine (within_any _ _ _ _).mono ?_
    rintro e w2 ⟨rfl, rfl⟩
    go_wp2
    go_ret
    exact ⟨by simp, rfl⟩
  · go_enter Try.func32, Try.ntmps32
    go_wp2_with fail
    with_reducible refine (within_any _ _ _ _).mono ?_
    rintro e w2 ⟨rfl, rfl⟩
    go_wp2_with fail
    with_reducible refine (within_any _ _ _ _).mono ?_
    rintro e w2 ⟨rfl, rfl⟩
    go_wp2
    go_ret
    exact ⟨by simp, rfl⟩
theorem goodRoom_g (u v : Int) (w : World) : Calls Try.prog 35 #[.int .i64 u, .int .i64 v] w fun e w' => e = .returned (.bool (rgG u v)) ∧ w = w' := by
  unfold rgG
  cases h1 : rng u 0 400
  · go_enter Try.func35, Try.ntmps35
    go_wp2_with fail
    with_reducible refine (inRange_any _ _ _ _).mono ?_
    rintro e w2 ⟨rfl, rfl⟩
    go_wp2
    go_ret
    exact ⟨by simp, rfl⟩
  · go_enter Try.func35, Try.ntmps35
    go_wp2_with fail
    with_reducible refine (inRange_any _ _ _ _).mono ?_
    rintro e w2 ⟨rfl, rfl⟩
    go_wp2_with fail
    with_reducible refine (inRange_any _ _ _ _).mono ?_
    rintro e w2 ⟨rfl, rfl⟩
    go_wp2
    go_ret
    exact ⟨by simp, rfl⟩
set_option maxRecDepth 100000 in
theorem edges_v (A1 : Option Addr) (c1 : Nat) (L1 : List Ln) (A2 : Option Addr) (c2 : Nat) (L2 : List Ln) (A3 : Option Addr) (c3 : Nat) (L3 : List Ce) (u v : Int) (w : World) (h1 : LnV w A1 L1) (h2 : LnV w A2 L2) (h3 : CeV w A3 L3) (hg : gridB L1 L2 L3 = true) (hu : rgG u v = true) :
    Calls Try.prog 41 #[.agg #[.slice A1 L1.length c1, .slice A2 L2.length c2, .slice A3 L3.length c3], .int .i64 u, .int .i64 v] w fun e w' => (∃ B1 e1 B2 e2, e = .returned (.tuple #[.slice B1 (L1.length + 1) e1, .slice B2 (L2.length + 1) e2]) ∧ NV w' B1 (edL (sizedM L1 (L3.map acM) u)) ∧ NV w' B2 (edL (sizedM L2 (L3.map dnM) v))) ∧ Below w.heap.size w w' := by
  have gf := GF.of hg
  obtain ⟨⟨u0, u1⟩, ⟨y0, y1⟩⟩ := rgG_yes hu
  have hl8 := gf.hl8
  have n1 := gf.n1
  have n2 := gf.n2
  have HF := Lib.hid gf
  have M1 := Lib.hid (sized_smal gf.v1 gf.s1 u0 u1)
  have M2 := Lib.hid (sized_smal gf.v2 gf.s2 y0 y1)
  have HL1 := Lib.hid (sizedM_len (room := u) gf.v1 gf.s1)
  have HL2 := Lib.hid (sizedM_len (room := v) gf.v2 gf.s2)
  have hB0 : Below w.heap.size w (w.alloc (.cells #[.slice A1 L1.length c1, .slice A2 L2.length c2, .slice A3 L3.length c3] 26 (0, 0))) := balloc (Below.refl _ _)
  have HX := Lib.hid (newS w (.cells #[.slice A1 L1.length c1, .slice A2 L2.length c2, .slice A3 L3.length c3] 26 (0, 0)))
  have HV1 := Lib.hid (h1.keep hB0)
  have HV2 := Lib.hid (h2.keep hB0)
  have HV3 := Lib.hid (h3.keep hB0)
  have HB := Lib.hid hB0
  clear hB0 h1 h2 h3 gf hg hu
  go_enter Try.func41, Try.ntmps41
  have d0 := cellS HX.out 0
  have d1 := cellS HX.out 1
  have d2 := cellS HX.out 2
  have lx := ltS HX.out
  go_wp2_with fail
  refine wp_region_rx (XV (.pointer (some ⟨w.heap.size, 0, none⟩)) :: XV (.slice A1 L1.length c1) :: XV (.pointer (some ⟨w.heap.size, 2, none⟩)) :: XV (.slice A3 L3.length c3) :: (fun z9 w => SpR w z9 (L3.map acM)) :: XV (.int .i64 u) :: (fun x w => NRz w x L1.length (sizedM L1 (L3.map acM) u)) :: (fun x w => NRz w x L1.length (sizedM L1 (L3.map acM) u)) :: []) (by kernel_rfl) (by kernel_rfl) ?hTs ?hops ?hfin
  case hTs =>
    intro T hT
    simp only [List.mem_cons, List.not_mem_nil, or_false] at hT
    rcases hT with rfl | rfl | rfl | rfl | rfl | rfl | rfl | rfl <;> first | exact stay_V _ | exact stay_T | exact stay_of (fun v a b x g => x.keep g) | exact stay_of (fun v a b x g => x)
  case hops =>
    refine ⟨opOK_rx [(3, none)] (by kernel_rfl) rfl ?_, ?_⟩
    · intro act w' hw' h1
      have hk : ∀ v, act.eval (.const v) = v := fun _ => rfl
      have hf : ∀ f, act.eval (.func f) = .func (.func f) #[] #[] := fun _ => rfl
      generalize act.eval = ρ at *
      replace h1 : ρ (.tmp 3) = .pointer (some ⟨w.heap.size, 0, none⟩) := h1
      refine gx_gen (fun K hK => ?_)
      obtain ⟨hc, hf'⟩ := bcell (bdrewn hw'.out)
      go_simp
      exact hK _ _ ⟨rfl, Gr.refl _⟩
    refine ⟨opOK_rx [(10, some 0)] (by kernel_rfl) rfl ?_, ?_⟩
    · intro act w' hw' h1
      have hk : ∀ v, act.eval (.const v) = v := fun _ => rfl
      have hf : ∀ f, act.eval (.func f) = .func (.func f) #[] #[] := fun _ => rfl
      generalize act.eval = ρ at *
      replace h1 : ρ (.tmp 10) = .pointer (some ⟨w.heap.size, 0, none⟩) := h1
      refine gx_gen (fun K hK => ?_)
      obtain ⟨hc, hf'⟩ := bcell (bdrewn hw'.out)
      go_simp
      exact hK _ _ ⟨rfl, Gr.refl _⟩
    refine ⟨opOK_rx [(3, none)] (by kernel_rfl) rfl ?_, ?_⟩
    · intro act w' hw' h1
      have hk : ∀ v, act.eval (.const v) = v := fun _ => rfl
      have hf : ∀ f, act.eval (.func f) = .func (.func f) #[] #[] := fun _ => rfl
      generalize act.eval = ρ at *
      replace h1 : ρ (.tmp 3) = .pointer (some ⟨w.heap.size, 0, none⟩) := h1
      refine gx_gen (fun K hK => ?_)
      obtain ⟨hc, hf'⟩ := bcell (bdrewn hw'.out)
      go_simp
      exact hK _ _ ⟨rfl, Gr.refl _⟩
    refine ⟨opOK_rx [(12, some 2)] (by kernel_rfl) rfl ?_, ?_⟩
    · intro act w' hw' h1
      have hk : ∀ v, act.eval (.const v) = v := fun _ => rfl
      have hf : ∀ f, act.eval (.func f) = .func (.func f) #[] #[] := fun _ => rfl
      generalize act.eval = ρ at *
      replace h1 : ρ (.tmp 12) = .pointer (some ⟨w.heap.size, 2, none⟩) := h1
      refine gx_gen (fun K hK => ?_)
      obtain ⟨hc, hf'⟩ := bcell (bdrewn hw'.out)
      go_simp
      exact hK _ _ ⟨rfl, Gr.refl _⟩
    refine ⟨opOK_rx [(13, some 3)] (by kernel_rfl) rfl ?_, ?_⟩
    · intro act w' hw' h1
      have hk : ∀ v, act.eval (.const v) = v := fun _ => rfl
      have hf : ∀ f, act.eval (.func f) = .func (.func f) #[] #[] := fun _ => rfl
      generalize act.eval = ρ at *
      replace h1 : ρ (.tmp 13) = .slice A3 L3.length c3 := h1
      refine gx_gen (fun K hK => ?_)
      obtain ⟨hc, hf'⟩ := bcell (bdrewn hw'.out)
      go_simp
      (with_reducible refine (each_across A3 c3 L3 _ (HV3.out.keep (bdrewn hw'.out)) (by omega) HF.out.hsm).mono ?_); rintro e w1 ⟨rfl, hr1, hb1⟩; exact ⟨_, rfl, hK _ _ ⟨⟨_, _, by rw [List.length_map], hr1.v⟩, hb1⟩⟩
    refine ⟨opOK_rx [(1, none)] (by kernel_rfl) rfl ?_, ?_⟩
    · intro act w' hw' h1
      have hk : ∀ v, act.eval (.const v) = v := fun _ => rfl
      have hf : ∀ f, act.eval (.func f) = .func (.func f) #[] #[] := fun _ => rfl
      generalize act.eval = ρ at *
      replace h1 : ρ (.tmp 1) = .int .i64 u := h1
      refine gx_gen (fun K hK => ?_)
      obtain ⟨hc, hf'⟩ := bcell (bdrewn hw'.out)
      go_simp
      exact hK _ _ ⟨rfl, Gr.refl _⟩
    refine ⟨opOK_rx [(11, some 1), (14, some 4), (15, some 5)] (by kernel_rfl) rfl ?_, ?_⟩
    · intro act w' hw' h1 h2 h3
      have hk : ∀ v, act.eval (.const v) = v := fun _ => rfl
      have hf : ∀ f, act.eval (.func f) = .func (.func f) #[] #[] := fun _ => rfl
      generalize act.eval = ρ at *
      replace h1 : ρ (.tmp 11) = .slice A1 L1.length c1 := h1
      replace h2 : (fun z9 w => SpR w z9 (L3.map acM)) (ρ (.tmp 14)) w' := h2
      replace h3 : ρ (.tmp 15) = .int .i64 u := h3
      refine gx_gen (fun K hK => ?_)
      obtain ⟨hc, hf'⟩ := bcell (bdrewn hw'.out)
      go_simp
      obtain ⟨A, c, e, hs⟩ := h2; rw [e]; (with_reducible refine (lineSizes_v A1 c1 L1 A c (L3.map acM) u _ (HV1.out.keep (bdrewn hw'.out)) HF.out.v1 hs HF.out.s1 u0 u1).mono ?_); rintro e w1 ⟨⟨g, rfl, _, hr1⟩, hb1⟩; exact ⟨_, rfl, hK _ _ ⟨⟨_, _, rfl, hr1.nv⟩, hb1⟩⟩
    refine ⟨opOK_rx [(16, some 6)] (by kernel_rfl) rfl ?_, ?_⟩
    · intro act w' hw' h1
      have hk : ∀ v, act.eval (.const v) = v := fun _ => rfl
      have hf : ∀ f, act.eval (.func f) = .func (.func f) #[] #[] := fun _ => rfl
      generalize act.eval = ρ at *
      replace h1 : (fun x w => NRz w x L1.length (sizedM L1 (L3.map acM) u)) (ρ (.tmp 16)) w' := h1
      refine gx_gen (fun K hK => ?_)
      obtain ⟨hc, hf'⟩ := bcell (bdrewn hw'.out)
      go_simp
      exact hK _ _ ⟨h1, Gr.refl _⟩
    exact trivial
  case hfin =>
    intro w1 hg1
    intro v10 t10
    replace t10 : v10 = .pointer (some ⟨w.heap.size, 0, none⟩) := t10
    subst t10
    intro v11 t11
    replace t11 : v11 = .slice A1 L1.length c1 := t11
    subst t11
    intro v12 t12
    replace t12 : v12 = .pointer (some ⟨w.heap.size, 2, none⟩) := t12
    subst t12
    intro v13 t13
    replace t13 : v13 = .slice A3 L3.length c3 := t13
    subst t13
    intro v14 t14
    replace t14 : (fun z9 w => SpR w z9 (L3.map acM)) v14 w1 := t14
    intro v15 t15
    replace t15 : v15 = .int .i64 u := t15
    subst t15
    intro v16 t16
    replace t16 : (fun x w => NRz w x L1.length (sizedM L1 (L3.map acM) u)) v16 w1 := t16
    intro v8 t8
    replace t8 : (fun x w => NRz w x L1.length (sizedM L1 (L3.map acM) u)) v8 w1 := t8
    have hb1 := bdrewn hg1.out
    clear hg1
    simp only [finP, Act.put, List.setIfInBounds_toArray, List.set_cons_succ, List.set_cons_zero]
    obtain ⟨B1, e1, rfl, hn1⟩ := t8
    clear t14 t16 d0 d1 d2 lx
    replace HX := Lib.hid ((hb1.block _ (Array.getElem?_eq_some_iff.1 HX.out).1).trans HX.out)
    replace HV1 := Lib.hid (HV1.out.keep hb1)
    replace HV2 := Lib.hid (HV2.out.keep hb1)
    replace HV3 := Lib.hid (HV3.out.keep hb1)
    replace HB := Lib.hid (bkeep2 HB.out hb1)
    clear hb1
    have HN1 := Lib.hid hn1
    clear hn1
    have d0 := cellS HX.out 0
    have d1 := cellS HX.out 1
    have d2 := cellS HX.out 2
    have lx := ltS HX.out
    go_wp2_with fail
    refine wp_region_rx (XV (.pointer (some ⟨w.heap.size, 1, none⟩)) :: XV (.slice A2 L2.length c2) :: XV (.pointer (some ⟨w.heap.size, 2, none⟩)) :: XV (.slice A3 L3.length c3) :: (fun z9 w => SpR w z9 (L3.map dnM)) :: XV (.int .i64 v) :: (fun x w => NRz w x L2.length (sizedM L2 (L3.map dnM) v)) :: (fun x w => NRz w x L2.length (sizedM L2 (L3.map dnM) v)) :: []) (by kernel_rfl) (by kernel_rfl) ?hTs ?hops ?hfin
    case hTs =>
      intro T hT
      simp only [List.mem_cons, List.not_mem_nil, or_false] at hT
      rcases hT with rfl | rfl | rfl | rfl | rfl | rfl | rfl | rfl <;> first | exact stay_V _ | exact stay_T | exact stay_of (fun v a b x g => x.keep g) | exact stay_of (fun v a b x g => x)
    case hops =>
      refine ⟨opOK_rx [(3, none)] (by kernel_rfl) rfl ?_, ?_⟩
      · intro act w' hw' h1
        have hk : ∀ v, act.eval (.const v) = v := fun _ => rfl
        have hf : ∀ f, act.eval (.func f) = .func (.func f) #[] #[] := fun _ => rfl
        generalize act.eval = ρ at *
        replace h1 : ρ (.tmp 3) = .pointer (some ⟨w.heap.size, 0, none⟩) := h1
        refine gx_gen (fun K hK => ?_)
        obtain ⟨hc, hf'⟩ := bcell (bdrewn hw'.out)
        go_simp
        exact hK _ _ ⟨rfl, Gr.refl _⟩
      refine ⟨opOK_rx [(17, some 0)] (by kernel_rfl) rfl ?_, ?_⟩
      · intro act w' hw' h1
        have hk : ∀ v, act.eval (.const v) = v := fun _ => rfl
        have hf : ∀ f, act.eval (.func f) = .func (.func f) #[] #[] := fun _ => rfl
        generalize act.eval = ρ at *
        replace h1 : ρ (.tmp 17) = .pointer (some ⟨w.heap.size, 1, none⟩) := h1
        refine gx_gen (fun K hK => ?_)
        obtain ⟨hc, hf'⟩ := bcell (bdrewn hw'.out)
        go_simp
        exact hK _ _ ⟨rfl, Gr.refl _⟩
      refine ⟨opOK_rx [(3, none)] (by kernel_rfl) rfl ?_, ?_⟩
      · intro act w' hw' h1
        have hk : ∀ v, act.eval (.const v) = v := fun _ => rfl
        have hf : ∀ f, act.eval (.func f) = .func (.func f) #[] #[] := fun _ => rfl
        generalize act.eval = ρ at *
        replace h1 : ρ (.tmp 3) = .pointer (some ⟨w.heap.size, 0, none⟩) := h1
        refine gx_gen (fun K hK => ?_)
        obtain ⟨hc, hf'⟩ := bcell (bdrewn hw'.out)
        go_simp
        exact hK _ _ ⟨rfl, Gr.refl _⟩
      refine ⟨opOK_rx [(19, some 2)] (by kernel_rfl) rfl ?_, ?_⟩
      · intro act w' hw' h1
        have hk : ∀ v, act.eval (.const v) = v := fun _ => rfl
        have hf : ∀ f, act.eval (.func f) = .func (.func f) #[] #[] := fun _ => rfl
        generalize act.eval = ρ at *
        replace h1 : ρ (.tmp 19) = .pointer (some ⟨w.heap.size, 2, none⟩) := h1
        refine gx_gen (fun K hK => ?_)
        obtain ⟨hc, hf'⟩ := bcell (bdrewn hw'.out)
        go_simp
        exact hK _ _ ⟨rfl, Gr.refl _⟩
      refine ⟨opOK_rx [(20, some 3)] (by kernel_rfl) rfl ?_, ?_⟩
      · intro act w' hw' h1
        have hk : ∀ v, act.eval (.const v) = v := fun _ => rfl
        have hf : ∀ f, act.eval (.func f) = .func (.func f) #[] #[] := fun _ => rfl
        generalize act.eval = ρ at *
        replace h1 : ρ (.tmp 20) = .slice A3 L3.length c3 := h1
        refine gx_gen (fun K hK => ?_)
        obtain ⟨hc, hf'⟩ := bcell (bdrewn hw'.out)
        go_simp
        (with_reducible refine (each_down A3 c3 L3 _ (HV3.out.keep (bdrewn hw'.out)) (by omega) HF.out.hsm).mono ?_); rintro e w1 ⟨rfl, hr1, hb1⟩; exact ⟨_, rfl, hK _ _ ⟨⟨_, _, by rw [List.length_map], hr1.v⟩, hb1⟩⟩
      refine ⟨opOK_rx [(2, none)] (by kernel_rfl) rfl ?_, ?_⟩
      · intro act w' hw' h1
        have hk : ∀ v, act.eval (.const v) = v := fun _ => rfl
        have hf : ∀ f, act.eval (.func f) = .func (.func f) #[] #[] := fun _ => rfl
        generalize act.eval = ρ at *
        replace h1 : ρ (.tmp 2) = .int .i64 v := h1
        refine gx_gen (fun K hK => ?_)
        obtain ⟨hc, hf'⟩ := bcell (bdrewn hw'.out)
        go_simp
        exact hK _ _ ⟨rfl, Gr.refl _⟩
      refine ⟨opOK_rx [(18, some 1), (21, some 4), (22, some 5)] (by kernel_rfl) rfl ?_, ?_⟩
      · intro act w' hw' h1 h2 h3
        have hk : ∀ v, act.eval (.const v) = v := fun _ => rfl
        have hf : ∀ f, act.eval (.func f) = .func (.func f) #[] #[] := fun _ => rfl
        generalize act.eval = ρ at *
        replace h1 : ρ (.tmp 18) = .slice A2 L2.length c2 := h1
        replace h2 : (fun z9 w => SpR w z9 (L3.map dnM)) (ρ (.tmp 21)) w' := h2
        replace h3 : ρ (.tmp 22) = .int .i64 v := h3
        refine gx_gen (fun K hK => ?_)
        obtain ⟨hc, hf'⟩ := bcell (bdrewn hw'.out)
        go_simp
        obtain ⟨A, c, e, hs⟩ := h2; rw [e]; (with_reducible refine (lineSizes_v A2 c2 L2 A c (L3.map dnM) v _ (HV2.out.keep (bdrewn hw'.out)) HF.out.v2 hs HF.out.s2 y0 y1).mono ?_); rintro e w1 ⟨⟨g, rfl, _, hr1⟩, hb1⟩; exact ⟨_, rfl, hK _ _ ⟨⟨_, _, rfl, hr1.nv⟩, hb1⟩⟩
      refine ⟨opOK_rx [(23, some 6)] (by kernel_rfl) rfl ?_, ?_⟩
      · intro act w' hw' h1
        have hk : ∀ v, act.eval (.const v) = v := fun _ => rfl
        have hf : ∀ f, act.eval (.func f) = .func (.func f) #[] #[] := fun _ => rfl
        generalize act.eval = ρ at *
        replace h1 : (fun x w => NRz w x L2.length (sizedM L2 (L3.map dnM) v)) (ρ (.tmp 23)) w' := h1
        refine gx_gen (fun K hK => ?_)
        obtain ⟨hc, hf'⟩ := bcell (bdrewn hw'.out)
        go_simp
        exact hK _ _ ⟨h1, Gr.refl _⟩
      exact trivial
    case hfin =>
      intro w2 hg2
      intro v17 t17
      replace t17 : v17 = .pointer (some ⟨w.heap.size, 1, none⟩) := t17
      subst t17
      intro v18 t18
      replace t18 : v18 = .slice A2 L2.length c2 := t18
      subst t18
      intro v19 t19
      replace t19 : v19 = .pointer (some ⟨w.heap.size, 2, none⟩) := t19
      subst t19
      intro v20 t20
      replace t20 : v20 = .slice A3 L3.length c3 := t20
      subst t20
      intro v21 t21
      replace t21 : (fun z9 w => SpR w z9 (L3.map dnM)) v21 w2 := t21
      intro v22 t22
      replace t22 : v22 = .int .i64 v := t22
      subst t22
      intro v23 t23
      replace t23 : (fun x w => NRz w x L2.length (sizedM L2 (L3.map dnM) v)) v23 w2 := t23
      intro v9 t9
      replace t9 : (fun x w => NRz w x L2.length (sizedM L2 (L3.map dnM) v)) v9 w2 := t9
      have hb2 := bdrewn hg2.out
      clear hg2
      simp only [finP, Act.put, List.setIfInBounds_toArray, List.set_cons_succ, List.set_cons_zero]
      obtain ⟨B2, e2, rfl, hn2⟩ := t9
      clear t21 t23 d0 d1 d2 lx
      replace HX := Lib.hid ((hb2.block _ (Array.getElem?_eq_some_iff.1 HX.out).1).trans HX.out)
      replace HN1 := Lib.hid (HN1.out.keep hb2)
      replace HB := Lib.hid (bkeep2 HB.out hb2)
      clear hb2
      have HN2 := Lib.hid hn2
      clear hn2
      go_wp2_with fail
      with_reducible refine (edgesOf_v B1 e1 L1.length _ _ HN1.out HL1.out.symm M1.out.2 M1.out.1).mono ?_
      rintro e w3 ⟨rfl, hi1, hb3⟩
      replace HX := Lib.hid ((hb3.block _ (Array.getElem?_eq_some_iff.1 HX.out).1).trans HX.out)
      replace HN2 := Lib.hid (HN2.out.keep hb3)
      replace HB := Lib.hid (bkeep2 HB.out hb3)
      clear hb3
      have HI1 := Lib.hid hi1.nv
      clear hi1
      go_wp2_with fail
      with_reducible refine (edgesOf_v B2 e2 L2.length _ _ HN2.out HL2.out.symm M2.out.2 M2.out.1).mono ?_
      rintro e w4 ⟨rfl, hi2, hb4⟩
      replace HX := Lib.hid ((hb4.block _ (Array.getElem?_eq_some_iff.1 HX.out).1).trans HX.out)
      replace HI1 := Lib.hid (HI1.out.keep hb4)
      replace HB := Lib.hid (bkeep2 HB.out hb4)
      clear hb4
      have HI2 := Lib.hid hi2.nv
      clear hi2
      go_wp2
      exact bodyPost_ret (v := .tuple #[.slice (some ⟨w2.heap.size, 0, none⟩) (L1.length + 1) (L1.length + 1), .slice (some ⟨w3.heap.size, 0, none⟩) (L2.length + 1) (L2.length + 1)]) (by simp only [results, Try.results41]; go_simp) rfl ⟨⟨_, _, _, _, rfl, HI1.out, HI2.out⟩, HB.out⟩
/-- the lines of a grid in which a point lies -/
def gaM (L1 L2 : List Ln) (L3 : List Ce) (u v x y : Int) : Int × Int := if (gridB L1 L2 L3 && rgG u v) = true then (lineM (sizedM L1 (L3.map acM) u) x, lineM (sizedM L2 (L3.map dnM) v) y) else (-1, -1)
set_option maxRecDepth 100000 in
theorem GridAt_v (A1 : Option Addr) (c1 : Nat) (L1 : List Ln) (A2 : Option Addr) (c2 : Nat) (L2 : List Ln) (A3 : Option Addr) (c3 : Nat) (L3 : List Ce) (u v x y : Int) (w : World) (h1 : LnV w A1 L1) (h2 : LnV w A2 L2) (h3 : CeV w A3 L3) (k1 : L1.length ≤ 1048576) (k2 : L2.length ≤ 1048576) (k3 : L3.length ≤ 1048576) :
    Calls Try.prog 18 #[.agg #[.slice A1 L1.length c1, .slice A2 L2.length c2, .slice A3 L3.length c3], .int .i64 u, .int .i64 v, .int .i64 x, .int .i64 y] w fun e w' => e = .returned (.tuple #[.int .i64 (gaM L1 L2 L3 u v x y).1, .int .i64 (gaM L1 L2 L3 u v x y).2]) ∧ Below w.heap.size w w' := by
  have hB0 : Below w.heap.size w (w.alloc (.cells #[.slice A1 L1.length c1, .slice A2 L2.length c2, .slice A3 L3.length c3] 26 (0, 0))) := balloc (Below.refl _ _)
  have HX := Lib.hid (newS w (.cells #[.slice A1 L1.length c1, .slice A2 L2.length c2, .slice A3 L3.length c3] 26 (0, 0)))
  have HV1 := Lib.hid (h1.keep hB0)
  have HV2 := Lib.hid (h2.keep hB0)
  have HV3 := Lib.hid (h3.keep hB0)
  have HB := Lib.hid hB0
  clear hB0 h1 h2 h3
  cases ht : gridB L1 L2 L3
  · rw [show gaM L1 L2 L3 u v x y = (-1, -1) by simp [gaM, ht]]
    go_enter Try.func18, Try.ntmps18
    go_wp2_with fail
    with_reducible refine (validGrid_v A1 c1 L1 A2 c2 L2 A3 c3 L3 false _ HV1.out HV2.out HV3.out k1 k2 k3 ht).mono ?_
    rintro e w1 ⟨rfl, hb⟩
    replace HX := Lib.hid ((hb.block _ (Array.getElem?_eq_some_iff.1 HX.out).1).trans HX.out)
    replace HB := Lib.hid (bkeep2 HB.out hb)
    clear hb
    clear ht
    go_wp2
    exact bodyPost_ret (v := .tuple #[.int .i64 (-1), .int .i64 (-1)]) (by simp only [results, Try.results18]; go_simp) rfl ⟨rfl, HB.out⟩
  · cases hr : rgG u v
    · rw [show gaM L1 L2 L3 u v x y = (-1, -1) by simp [gaM, hr]]
      go_enter Try.func18, Try.ntmps18
      go_wp2_with fail
      with_reducible refine (validGrid_v A1 c1 L1 A2 c2 L2 A3 c3 L3 true _ HV1.out HV2.out HV3.out k1 k2 k3 ht).mono ?_
      rintro e w1 ⟨rfl, hb⟩
      replace HX := Lib.hid ((hb.block _ (Array.getElem?_eq_some_iff.1 HX.out).1).trans HX.out)
      replace HB := Lib.hid (bkeep2 HB.out hb)
      clear hb
      clear ht
      go_wp2_with fail
      with_reducible refine (validRoom_g u v _).mono ?_
      rintro e w2 ⟨rfl, rfl⟩
      rw [hr]
      clear hr
      go_wp2
      exact bodyPost_ret (v := .tuple #[.int .i64 (-1), .int .i64 (-1)]) (by simp only [results, Try.results18]; go_simp) rfl ⟨rfl, HB.out⟩
    · rw [show gaM L1 L2 L3 u v x y = (lineM (sizedM L1 (L3.map acM) u) x, lineM (sizedM L2 (L3.map dnM) v) y) by simp [gaM, ht, hr]]
      go_enter Try.func18, Try.ntmps18
      go_wp2_with fail
      with_reducible refine (validGrid_v A1 c1 L1 A2 c2 L2 A3 c3 L3 true _ HV1.out HV2.out HV3.out k1 k2 k3 ht).mono ?_
      rintro e w1 ⟨rfl, hb⟩
      replace HX := Lib.hid ((hb.block _ (Array.getElem?_eq_some_iff.1 HX.out).1).trans HX.out)
      replace HV1 := Lib.hid (HV1.out.keep hb)
      replace HV2 := Lib.hid (HV2.out.keep hb)
      replace HV3 := Lib.hid (HV3.out.keep hb)
      replace HB := Lib.hid (bkeep2 HB.out hb)
      clear hb
      have HT := Lib.hid ht
      clear ht
      go_wp2_with fail
      with_reducible refine (validRoom_g u v _).mono ?_
      rintro e w2 ⟨rfl, rfl⟩
      rw [hr]
      have HR := Lib.hid hr
      clear hr
      have d0 := cellS HX.out 0
      have d1 := cellS HX.out 1
      have d2 := cellS HX.out 2
      go_wp2_with fail
      with_reducible refine (edges_v A1 c1 L1 A2 c2 L2 A3 c3 L3 u v _ HV1.out HV2.out HV3.out HT.out HR.out).mono ?_
      rintro e w3 ⟨⟨B1, e1, B2, e2, rfl, hi1, hi2⟩, hb⟩
      clear d0 d1 d2
      replace HX := Lib.hid ((hb.block _ (Array.getElem?_eq_some_iff.1 HX.out).1).trans HX.out)
      replace HB := Lib.hid (bkeep2 HB.out hb)
      clear hb
      have HI1 := Lib.hid hi1
      have HI2 := Lib.hid hi2
      clear hi1 hi2
      have gf := GF.of HT.out
      obtain ⟨⟨u0, u1⟩, ⟨v0, v1⟩⟩ := rgG_yes HR.out
      have q1 := sizedM_len (room := u) gf.v1 gf.s1
      have q2 := sizedM_len (room := v) gf.v2 gf.s2
      have n1 := gf.n1
      have n2 := gf.n2
      have HQ1 := Lib.hid q1
      have HQ2 := Lib.hid q2
      clear gf q1 q2
      go_wp2_with fail
      with_reducible refine (lineAt_v B1 e1 (L1.length + 1) _ x _ HI1.out (by rw [HQ1.out]) (by rw [HQ1.out]; exact n1)).mono ?_
      rintro e w4 ⟨rfl, hb⟩
      replace HX := Lib.hid ((hb.block _ (Array.getElem?_eq_some_iff.1 HX.out).1).trans HX.out)
      replace HI2 := Lib.hid (HI2.out.keep hb)
      replace HB := Lib.hid (bkeep2 HB.out hb)
      clear hb
      go_wp2_with fail
      with_reducible refine (lineAt_v B2 e2 (L2.length + 1) _ y _ HI2.out (by rw [HQ2.out]) (by rw [HQ2.out]; exact n2)).mono ?_
      rintro e w5 ⟨rfl, hb⟩
      replace HX := Lib.hid ((hb.block _ (Array.getElem?_eq_some_iff.1 HX.out).1).trans HX.out)
      replace HB := Lib.hid (bkeep2 HB.out hb)
      clear hb
      go_wp2
      exact bodyPost_ret (v := .tuple #[.int .i64 (lineM (sizedM L1 (L3.map acM) u) x), .int .i64 (lineM (sizedM L2 (L3.map dnM) v) y)]) (by simp only [results, Try.results18]; go_simp) rfl ⟨rfl, HB.out⟩
set_option maxRecDepth 100000 in
theorem sGridAt_v (A1 : Option Addr) (c1 : Nat) (L1 : List Ln) (A2 : Option Addr) (c2 : Nat) (L2 : List Ln) (A3 : Option Addr) (c3 : Nat) (L3 : List Ce) (u v x y : Int) (w : World) (h1 : LnV w A1 L1) (h2 : LnV w A2 L2) (h3 : CeV w A3 L3) (k1 : L1.length ≤ 1048576) (k2 : L2.length ≤ 1048576) (k3 : L3.length ≤ 1048576) (q1 : L1.length ≤ c1) (q2 : L2.length ≤ c2) :
    Calls Try.prog 19 #[.agg #[.slice A1 L1.length c1, .slice A2 L2.length c2, .slice A3 L3.length c3], .int .i64 u, .int .i64 v, .int .i64 x, .int .i64 y] w fun e w' => e = .returned (.tuple #[.int .i64 (gaM L1 L2 L3 u v x y).1, .int .i64 (gaM L1 L2 L3 u v x y).2]) ∧ Below w.heap.size w w' := by
  have hB0 : Below w.heap.size w (w.alloc (.cells #[.slice A1 L1.length c1, .slice A2 L2.length c2, .slice A3 L3.length c3] 26 (0, 0))) := balloc (Below.refl _ _)
  have HX := Lib.hid (newS w (.cells #[.slice A1 L1.length c1, .slice A2 L2.length c2, .slice A3 L3.length c3] 26 (0, 0)))
  have HV1 := Lib.hid (h1.keep hB0)
  have HV2 := Lib.hid (h2.keep hB0)
  have HV3 := Lib.hid (h3.keep hB0)
  have HB := Lib.hid hB0
  clear hB0 h1 h2 h3
  cases ht : gridB L1 L2 L3
  · rw [show gaM L1 L2 L3 u v x y = (-1, -1) by simp [gaM, ht]]
    go_enter Try.func19, Try.ntmps19
    go_wp2_with fail
    with_reducible refine (svalidGrid_v A1 c1 L1 A2 c2 L2 A3 c3 L3 false _ HV1.out HV2.out HV3.out k1 k2 k3 ht).mono ?_
    rintro e w1 ⟨rfl, hb⟩
    replace HX := Lib.hid ((hb.block _ (Array.getElem?_eq_some_iff.1 HX.out).1).trans HX.out)
    replace HB := Lib.hid (bkeep2 HB.out hb)
    clear hb
    clear ht
    go_wp2
    exact bodyPost_ret (v := .tuple #[.int .i64 (-1), .int .i64 (-1)]) (by simp only [results, Try.results19]; go_simp) rfl ⟨rfl, HB.out⟩
  · cases hr : rgG u v
    · rw [show gaM L1 L2 L3 u v x y = (-1, -1) by simp [gaM, hr]]
      go_enter Try.func19, Try.ntmps19
      go_wp2_with fail
      with_reducible refine (svalidGrid_v A1 c1 L1 A2 c2 L2 A3 c3 L3 true _ HV1.out HV2.out HV3.out k1 k2 k3 ht).mono ?_
      rintro e w1 ⟨rfl, hb⟩
      replace HX := Lib.hid ((hb.block _ (Array.getElem?_eq_some_iff.1 HX.out).1).trans HX.out)
      replace HB := Lib.hid (bkeep2 HB.out hb)
      clear hb
      clear ht
      go_wp2_with fail
      with_reducible refine (goodRoom_g u v _).mono ?_
      rintro e w2 ⟨rfl, rfl⟩
      rw [hr]
      clear hr
      go_wp2
      exact bodyPost_ret (v := .tuple #[.int .i64 (-1), .int .i64 (-1)]) (by simp only [results, Try.results19]; go_simp) rfl ⟨rfl, HB.out⟩
    · rw [show gaM L1 L2 L3 u v x y = (lineM (sizedM L1 (L3.map acM) u) x, lineM (sizedM L2 (L3.map dnM) v) y) by simp [gaM, ht, hr]]
      obtain ⟨⟨u0, u1⟩, ⟨v0, v1⟩⟩ := rgG_yes hr
      have gf := GF.of ht
      have hl8 := gf.hl8
      have HF := Lib.hid gf
      have M1 := Lib.hid (sized_smal gf.v1 gf.s1 u0 u1)
      have M2 := Lib.hid (sized_smal gf.v2 gf.s2 v0 v1)
      have HL1 := Lib.hid (sizedM_len (room := u) gf.v1 gf.s1)
      have HL2 := Lib.hid (sizedM_len (room := v) gf.v2 gf.s2)
      have HN1 := Lib.hid (fun z hz => ((sized_ok gf.v1 gf.s1 u0 u1).2.2.1 z hz).1)
      have HN2 := Lib.hid (fun z hz => ((sized_ok gf.v2 gf.s2 v0 v1).2.2.1 z hz).1)
      clear gf
      go_enter Try.func19, Try.ntmps19
      go_wp2_with fail
      with_reducible refine (svalidGrid_v A1 c1 L1 A2 c2 L2 A3 c3 L3 true _ HV1.out HV2.out HV3.out k1 k2 k3 ht).mono ?_
      rintro e w1 ⟨rfl, hb⟩
      replace HX := Lib.hid ((hb.block _ (Array.getElem?_eq_some_iff.1 HX.out).1).trans HX.out)
      replace HV1 := Lib.hid (HV1.out.keep hb)
      replace HV2 := Lib.hid (HV2.out.keep hb)
      replace HV3 := Lib.hid (HV3.out.keep hb)
      replace HB := Lib.hid (bkeep2 HB.out hb)
      clear hb
      clear ht
      go_wp2_with fail
      with_reducible refine (goodRoom_g u v _).mono ?_
      rintro e w2 ⟨rfl, rfl⟩
      rw [hr]
      clear hr
      have d0 := cellS HX.out 0
      have d1 := cellS HX.out 1
      have d2 := cellS HX.out 2
      have lx := ltS HX.out
      go_wp2_with fail
      refine wp_region_rx (XV (.pointer (some ⟨w.heap.size, 0, none⟩)) :: XV (.slice A1 L1.length c1) :: XV (.pointer (some ⟨w.heap.size, 0, none⟩)) :: XV (.slice A1 L1.length c1) :: XV (.agg #[.slice A1 L1.length c1, .slice A2 L2.length c2, .slice A3 L3.length c3]) :: (fun z9 w => SpR w z9 (L3.map acM)) :: (fun z9 w => NRz w z9 L1.length (wishM L1 (L3.map acM))) :: XV (.int .i64 u) :: (fun z9 w => NRz w z9 L1.length (sizedM L1 (L3.map acM) u)) :: XV (.int .i64 x) :: XV (.int .i64 (lineM (sizedM L1 (L3.map acM) u) x)) :: XV (.pointer (some ⟨w.heap.size, 1, none⟩)) :: XV (.slice A2 L2.length c2) :: XV (.pointer (some ⟨w.heap.size, 1, none⟩)) :: XV (.slice A2 L2.length c2) :: XV (.agg #[.slice A1 L1.length c1, .slice A2 L2.length c2, .slice A3 L3.length c3]) :: (fun z9 w => SpR w z9 (L3.map dnM)) :: (fun z9 w => NRz w z9 L2.length (wishM L2 (L3.map dnM))) :: XV (.int .i64 v) :: (fun z9 w => NRz w z9 L2.length (sizedM L2 (L3.map dnM) v)) :: XV (.int .i64 y) :: XV (.int .i64 (lineM (sizedM L2 (L3.map dnM) v) y)) :: XV (.int .i64 (lineM (sizedM L1 (L3.map acM) u) x)) :: XV (.int .i64 (lineM (sizedM L2 (L3.map dnM) v) y)) :: []) (by kernel_rfl) (by kernel_rfl) ?hTs ?hops ?hfin
      case hTs =>
        intro T hT
        simp only [List.mem_cons, List.not_mem_nil, or_false] at hT
        rcases hT with rfl | rfl | rfl | rfl | rfl | rfl | rfl | rfl | rfl | rfl | rfl | rfl | rfl | rfl | rfl | rfl | rfl | rfl | rfl | rfl | rfl | rfl | rfl | rfl <;> first | exact stay_V _ | exact stay_T | exact stay_of (fun v a b x g => x.keep g) | exact stay_of (fun v a b x g => x)
      case hops =>
        refine ⟨opOK_rx [(5, none)] (by kernel_rfl) rfl ?_, ?_⟩
        · intro act w' hw' h1
          have hk : ∀ v, act.eval (.const v) = v := fun _ => rfl
          have hf : ∀ f, act.eval (.func f) = .func (.func f) #[] #[] := fun _ => rfl
          generalize act.eval = ρ at *
          replace h1 : ρ (.tmp 5) = .pointer (some ⟨w.heap.size, 0, none⟩) := h1
          refine gx_gen (fun K hK => ?_)
          obtain ⟨hc, hf'⟩ := bcell (bdrewn hw'.out)
          go_simp
          exact hK _ _ ⟨rfl, Gr.refl _⟩
        refine ⟨opOK_rx [(21, some 0)] (by kernel_rfl) rfl ?_, ?_⟩
        · intro act w' hw' h1
          have hk : ∀ v, act.eval (.const v) = v := fun _ => rfl
          have hf : ∀ f, act.eval (.func f) = .func (.func f) #[] #[] := fun _ => rfl
          generalize act.eval = ρ at *
          replace h1 : ρ (.tmp 21) = .pointer (some ⟨w.heap.size, 0, none⟩) := h1
          refine gx_gen (fun K hK => ?_)
          obtain ⟨hc, hf'⟩ := bcell (bdrewn hw'.out)
          go_simp
          exact hK _ _ ⟨rfl, Gr.refl _⟩
        refine ⟨opOK_rx [(5, none)] (by kernel_rfl) rfl ?_, ?_⟩
        · intro act w' hw' h1
          have hk : ∀ v, act.eval (.const v) = v := fun _ => rfl
          have hf : ∀ f, act.eval (.func f) = .func (.func f) #[] #[] := fun _ => rfl
          generalize act.eval = ρ at *
          replace h1 : ρ (.tmp 5) = .pointer (some ⟨w.heap.size, 0, none⟩) := h1
          refine gx_gen (fun K hK => ?_)
          obtain ⟨hc, hf'⟩ := bcell (bdrewn hw'.out)
          go_simp
          exact hK _ _ ⟨rfl, Gr.refl _⟩
        refine ⟨opOK_rx [(23, some 2)] (by kernel_rfl) rfl ?_, ?_⟩
        · intro act w' hw' h1
          have hk : ∀ v, act.eval (.const v) = v := fun _ => rfl
          have hf : ∀ f, act.eval (.func f) = .func (.func f) #[] #[] := fun _ => rfl
          generalize act.eval = ρ at *
          replace h1 : ρ (.tmp 23) = .pointer (some ⟨w.heap.size, 0, none⟩) := h1
          refine gx_gen (fun K hK => ?_)
          obtain ⟨hc, hf'⟩ := bcell (bdrewn hw'.out)
          go_simp
          exact hK _ _ ⟨rfl, Gr.refl _⟩
        refine ⟨opOK_rx [(5, none)] (by kernel_rfl) rfl ?_, ?_⟩
        · intro act w' hw' h1
          have hk : ∀ v, act.eval (.const v) = v := fun _ => rfl
          have hf : ∀ f, act.eval (.func f) = .func (.func f) #[] #[] := fun _ => rfl
          generalize act.eval = ρ at *
          replace h1 : ρ (.tmp 5) = .pointer (some ⟨w.heap.size, 0, none⟩) := h1
          refine gx_gen (fun K hK => ?_)
          obtain ⟨hc, hf'⟩ := bcell (bdrewn hw'.out)
          go_simp
          exact hK _ _ ⟨rfl, Gr.refl _⟩
        refine ⟨opOK_rx [(25, some 4)] (by kernel_rfl) rfl ?_, ?_⟩
        · intro act w' hw' h1
          have hk : ∀ v, act.eval (.const v) = v := fun _ => rfl
          have hf : ∀ f, act.eval (.func f) = .func (.func f) #[] #[] := fun _ => rfl
          generalize act.eval = ρ at *
          replace h1 : ρ (.tmp 25) = .agg #[.slice A1 L1.length c1, .slice A2 L2.length c2, .slice A3 L3.length c3] := h1
          refine gx_gen (fun K hK => ?_)
          obtain ⟨hc, hf'⟩ := bcell (bdrewn hw'.out)
          go_simp
          (with_reducible refine (colSpans_v A1 A2 A3 c1 L1.length c2 L2.length c3 L3 _ (HV3.out.keep (bdrewn hw'.out)) hl8 HF.out.hsm).mono ?_); rintro e w1 ⟨⟨v, rfl, hr1⟩, hb1⟩; exact ⟨_, rfl, hK _ _ ⟨hr1, hb1⟩⟩
        refine ⟨opOK_rx [(24, some 3), (26, some 5)] (by kernel_rfl) rfl ?_, ?_⟩
        · intro act w' hw' h1 h2
          have hk : ∀ v, act.eval (.const v) = v := fun _ => rfl
          have hf : ∀ f, act.eval (.func f) = .func (.func f) #[] #[] := fun _ => rfl
          generalize act.eval = ρ at *
          replace h1 : ρ (.tmp 24) = .slice A1 L1.length c1 := h1
          replace h2 : (fun z9 w => SpR w z9 (L3.map acM)) (ρ (.tmp 26)) w' := h2
          refine gx_gen (fun K hK => ?_)
          obtain ⟨hc, hf'⟩ := bcell (bdrewn hw'.out)
          go_simp
          obtain ⟨A, c, e, hs⟩ := h2; rw [e]; (with_reducible refine (wished_v A1 c1 L1 A c (L3.map acM) _ (HV1.out.keep (bdrewn hw'.out)) HF.out.v1 hs HF.out.s1 q1).mono ?_); rintro e w1 ⟨⟨g, cap, rfl, _, hr1⟩, hb1⟩; exact ⟨_, rfl, hK _ _ ⟨⟨_, _, rfl, hr1.nv⟩, hb1⟩⟩
        refine ⟨opOK_rx [(1, none)] (by kernel_rfl) rfl ?_, ?_⟩
        · intro act w' hw' h1
          have hk : ∀ v, act.eval (.const v) = v := fun _ => rfl
          have hf : ∀ f, act.eval (.func f) = .func (.func f) #[] #[] := fun _ => rfl
          generalize act.eval = ρ at *
          replace h1 : ρ (.tmp 1) = .int .i64 u := h1
          refine gx_gen (fun K hK => ?_)
          obtain ⟨hc, hf'⟩ := bcell (bdrewn hw'.out)
          go_simp
          exact hK _ _ ⟨rfl, Gr.refl _⟩
        refine ⟨opOK_rx [(22, some 1), (27, some 6), (28, some 7)] (by kernel_rfl) rfl ?_, ?_⟩
        · intro act w' hw' h1 h2 h3
          have hk : ∀ v, act.eval (.const v) = v := fun _ => rfl
          have hf : ∀ f, act.eval (.func f) = .func (.func f) #[] #[] := fun _ => rfl
          generalize act.eval = ρ at *
          replace h1 : ρ (.tmp 22) = .slice A1 L1.length c1 := h1
          replace h2 : (fun z9 w => NRz w z9 L1.length (wishM L1 (L3.map acM))) (ρ (.tmp 27)) w' := h2
          replace h3 : ρ (.tmp 28) = .int .i64 u := h3
          refine gx_gen (fun K hK => ?_)
          obtain ⟨hc, hf'⟩ := bcell (bdrewn hw'.out)
          go_simp
          obtain ⟨A, c, e, hs⟩ := h2; rw [e]; (with_reducible refine (sized_v A c L1.length _ A1 c1 L1 u _ hs (wish_ok HF.out.v1 HF.out.s1).2.1.symm (HV1.out.keep (bdrewn hw'.out)) HF.out.v1 (wish_ok HF.out.v1 HF.out.s1).1 (wish_ok HF.out.v1 HF.out.s1).2.2.1 (wish_ok HF.out.v1 HF.out.s1).2.2.2.1 (wish_ok HF.out.v1 HF.out.s1).2.2.2.2 u0 u1).mono ?_); rintro e w1 ⟨⟨g, cap, rfl, _, hr1⟩, hb1⟩; exact ⟨_, rfl, hK _ _ ⟨⟨_, _, rfl, hr1.nv⟩, hb1⟩⟩
        refine ⟨opOK_rx [(3, none)] (by kernel_rfl) rfl ?_, ?_⟩
        · intro act w' hw' h1
          have hk : ∀ v, act.eval (.const v) = v := fun _ => rfl
          have hf : ∀ f, act.eval (.func f) = .func (.func f) #[] #[] := fun _ => rfl
          generalize act.eval = ρ at *
          replace h1 : ρ (.tmp 3) = .int .i64 x := h1
          refine gx_gen (fun K hK => ?_)
          obtain ⟨hc, hf'⟩ := bcell (bdrewn hw'.out)
          go_simp
          exact hK _ _ ⟨rfl, Gr.refl _⟩
        refine ⟨opOK_rx [(29, some 8), (30, some 9)] (by kernel_rfl) rfl ?_, ?_⟩
        · intro act w' hw' h1 h2
          have hk : ∀ v, act.eval (.const v) = v := fun _ => rfl
          have hf : ∀ f, act.eval (.func f) = .func (.func f) #[] #[] := fun _ => rfl
          generalize act.eval = ρ at *
          replace h1 : (fun z9 w => NRz w z9 L1.length (sizedM L1 (L3.map acM) u)) (ρ (.tmp 29)) w' := h1
          replace h2 : ρ (.tmp 30) = .int .i64 x := h2
          refine gx_gen (fun K hK => ?_)
          obtain ⟨hc, hf'⟩ := bcell (bdrewn hw'.out)
          go_simp
          obtain ⟨A, c, e, hs⟩ := h1; rw [e]; (with_reducible refine (slineAt_v A c L1.length _ x _ hs HL1.out.symm M1.out.2 M1.out.1 HN1.out).mono ?_); rintro e w1 ⟨rfl, hb1⟩; exact ⟨_, rfl, hK _ _ ⟨rfl, hb1⟩⟩
        refine ⟨opOK_rx [(5, none)] (by kernel_rfl) rfl ?_, ?_⟩
        · intro act w' hw' h1
          have hk : ∀ v, act.eval (.const v) = v := fun _ => rfl
          have hf : ∀ f, act.eval (.func f) = .func (.func f) #[] #[] := fun _ => rfl
          generalize act.eval = ρ at *
          replace h1 : ρ (.tmp 5) = .pointer (some ⟨w.heap.size, 0, none⟩) := h1
          refine gx_gen (fun K hK => ?_)
          obtain ⟨hc, hf'⟩ := bcell (bdrewn hw'.out)
          go_simp
          exact hK _ _ ⟨rfl, Gr.refl _⟩
        refine ⟨opOK_rx [(32, some 11)] (by kernel_rfl) rfl ?_, ?_⟩
        · intro act w' hw' h1
          have hk : ∀ v, act.eval (.const v) = v := fun _ => rfl
          have hf : ∀ f, act.eval (.func f) = .func (.func f) #[] #[] := fun _ => rfl
          generalize act.eval = ρ at *
          replace h1 : ρ (.tmp 32) = .pointer (some ⟨w.heap.size, 1, none⟩) := h1
          refine gx_gen (fun K hK => ?_)
          obtain ⟨hc, hf'⟩ := bcell (bdrewn hw'.out)
          go_simp
          exact hK _ _ ⟨rfl, Gr.refl _⟩
        refine ⟨opOK_rx [(5, none)] (by kernel_rfl) rfl ?_, ?_⟩
        · intro act w' hw' h1
          have hk : ∀ v, act.eval (.const v) = v := fun _ => rfl
          have hf : ∀ f, act.eval (.func f) = .func (.func f) #[] #[] := fun _ => rfl
          generalize act.eval = ρ at *
          replace h1 : ρ (.tmp 5) = .pointer (some ⟨w.heap.size, 0, none⟩) := h1
          refine gx_gen (fun K hK => ?_)
          obtain ⟨hc, hf'⟩ := bcell (bdrewn hw'.out)
          go_simp
          exact hK _ _ ⟨rfl, Gr.refl _⟩
        refine ⟨opOK_rx [(34, some 13)] (by kernel_rfl) rfl ?_, ?_⟩
        · intro act w' hw' h1
          have hk : ∀ v, act.eval (.const v) = v := fun _ => rfl
          have hf : ∀ f, act.eval (.func f) = .func (.func f) #[] #[] := fun _ => rfl
          generalize act.eval = ρ at *
          replace h1 : ρ (.tmp 34) = .pointer (some ⟨w.heap.size, 1, none⟩) := h1
          refine gx_gen (fun K hK => ?_)
          obtain ⟨hc, hf'⟩ := bcell (bdrewn hw'.out)
          go_simp
          exact hK _ _ ⟨rfl, Gr.refl _⟩
        refine ⟨opOK_rx [(5, none)] (by kernel_rfl) rfl ?_, ?_⟩
        · intro act w' hw' h1
          have hk : ∀ v, act.eval (.const v) = v := fun _ => rfl
          have hf : ∀ f, act.eval (.func f) = .func (.func f) #[] #[] := fun _ => rfl
          generalize act.eval = ρ at *
          replace h1 : ρ (.tmp 5) = .pointer (some ⟨w.heap.size, 0, none⟩) := h1
          refine gx_gen (fun K hK => ?_)
          obtain ⟨hc, hf'⟩ := bcell (bdrewn hw'.out)
          go_simp
          exact hK _ _ ⟨rfl, Gr.refl _⟩
        refine ⟨opOK_rx [(36, some 15)] (by kernel_rfl) rfl ?_, ?_⟩
        · intro act w' hw' h1
          have hk : ∀ v, act.eval (.const v) = v := fun _ => rfl
          have hf : ∀ f, act.eval (.func f) = .func (.func f) #[] #[] := fun _ => rfl
          generalize act.eval = ρ at *
          replace h1 : ρ (.tmp 36) = .agg #[.slice A1 L1.length c1, .slice A2 L2.length c2, .slice A3 L3.length c3] := h1
          refine gx_gen (fun K hK => ?_)
          obtain ⟨hc, hf'⟩ := bcell (bdrewn hw'.out)
          go_simp
          (with_reducible refine (rowSpans_v A1 A2 A3 c1 L1.length c2 L2.length c3 L3 _ (HV3.out.keep (bdrewn hw'.out)) hl8 HF.out.hsm).mono ?_); rintro e w1 ⟨⟨v, rfl, hr1⟩, hb1⟩; exact ⟨_, rfl, hK _ _ ⟨hr1, hb1⟩⟩
        refine ⟨opOK_rx [(35, some 14), (37, some 16)] (by kernel_rfl) rfl ?_, ?_⟩
        · intro act w' hw' h1 h2
          have hk : ∀ v, act.eval (.const v) = v := fun _ => rfl
          have hf : ∀ f, act.eval (.func f) = .func (.func f) #[] #[] := fun _ => rfl
          generalize act.eval = ρ at *
          replace h1 : ρ (.tmp 35) = .slice A2 L2.length c2 := h1
          replace h2 : (fun z9 w => SpR w z9 (L3.map dnM)) (ρ (.tmp 37)) w' := h2
          refine gx_gen (fun K hK => ?_)
          obtain ⟨hc, hf'⟩ := bcell (bdrewn hw'.out)
          go_simp
          obtain ⟨A, c, e, hs⟩ := h2; rw [e]; (with_reducible refine (wished_v A2 c2 L2 A c (L3.map dnM) _ (HV2.out.keep (bdrewn hw'.out)) HF.out.v2 hs HF.out.s2 q2).mono ?_); rintro e w1 ⟨⟨g, cap, rfl, _, hr1⟩, hb1⟩; exact ⟨_, rfl, hK _ _ ⟨⟨_, _, rfl, hr1.nv⟩, hb1⟩⟩
        refine ⟨opOK_rx [(2, none)] (by kernel_rfl) rfl ?_, ?_⟩
        · intro act w' hw' h1
          have hk : ∀ v, act.eval (.const v) = v := fun _ => rfl
          have hf : ∀ f, act.eval (.func f) = .func (.func f) #[] #[] := fun _ => rfl
          generalize act.eval = ρ at *
          replace h1 : ρ (.tmp 2) = .int .i64 v := h1
          refine gx_gen (fun K hK => ?_)
          obtain ⟨hc, hf'⟩ := bcell (bdrewn hw'.out)
          go_simp
          exact hK _ _ ⟨rfl, Gr.refl _⟩
        refine ⟨opOK_rx [(33, some 12), (38, some 17), (39, some 18)] (by kernel_rfl) rfl ?_, ?_⟩
        · intro act w' hw' h1 h2 h3
          have hk : ∀ v, act.eval (.const v) = v := fun _ => rfl
          have hf : ∀ f, act.eval (.func f) = .func (.func f) #[] #[] := fun _ => rfl
          generalize act.eval = ρ at *
          replace h1 : ρ (.tmp 33) = .slice A2 L2.length c2 := h1
          replace h2 : (fun z9 w => NRz w z9 L2.length (wishM L2 (L3.map dnM))) (ρ (.tmp 38)) w' := h2
          replace h3 : ρ (.tmp 39) = .int .i64 v := h3
          refine gx_gen (fun K hK => ?_)
          obtain ⟨hc, hf'⟩ := bcell (bdrewn hw'.out)
          go_simp
          obtain ⟨A, c, e, hs⟩ := h2; rw [e]; (with_reducible refine (sized_v A c L2.length _ A2 c2 L2 v _ hs (wish_ok HF.out.v2 HF.out.s2).2.1.symm (HV2.out.keep (bdrewn hw'.out)) HF.out.v2 (wish_ok HF.out.v2 HF.out.s2).1 (wish_ok HF.out.v2 HF.out.s2).2.2.1 (wish_ok HF.out.v2 HF.out.s2).2.2.2.1 (wish_ok HF.out.v2 HF.out.s2).2.2.2.2 v0 v1).mono ?_); rintro e w1 ⟨⟨g, cap, rfl, _, hr1⟩, hb1⟩; exact ⟨_, rfl, hK _ _ ⟨⟨_, _, rfl, hr1.nv⟩, hb1⟩⟩
        refine ⟨opOK_rx [(4, none)] (by kernel_rfl) rfl ?_, ?_⟩
        · intro act w' hw' h1
          have hk : ∀ v, act.eval (.const v) = v := fun _ => rfl
          have hf : ∀ f, act.eval (.func f) = .func (.func f) #[] #[] := fun _ => rfl
          generalize act.eval = ρ at *
          replace h1 : ρ (.tmp 4) = .int .i64 y := h1
          refine gx_gen (fun K hK => ?_)
          obtain ⟨hc, hf'⟩ := bcell (bdrewn hw'.out)
          go_simp
          exact hK _ _ ⟨rfl, Gr.refl _⟩
        refine ⟨opOK_rx [(40, some 19), (41, some 20)] (by kernel_rfl) rfl ?_, ?_⟩
        · intro act w' hw' h1 h2
          have hk : ∀ v, act.eval (.const v) = v := fun _ => rfl
          have hf : ∀ f, act.eval (.func f) = .func (.func f) #[] #[] := fun _ => rfl
          generalize act.eval = ρ at *
          replace h1 : (fun z9 w => NRz w z9 L2.length (sizedM L2 (L3.map dnM) v)) (ρ (.tmp 40)) w' := h1
          replace h2 : ρ (.tmp 41) = .int .i64 y := h2
          refine gx_gen (fun K hK => ?_)
          obtain ⟨hc, hf'⟩ := bcell (bdrewn hw'.out)
          go_simp
          obtain ⟨A, c, e, hs⟩ := h1; rw [e]; (with_reducible refine (slineAt_v A c L2.length _ y _ hs HL2.out.symm M2.out.2 M2.out.1 HN2.out).mono ?_); rintro e w1 ⟨rfl, hb1⟩; exact ⟨_, rfl, hK _ _ ⟨rfl, hb1⟩⟩
        refine ⟨opOK_rx [(31, some 10)] (by kernel_rfl) rfl ?_, ?_⟩
        · intro act w' hw' h1
          have hk : ∀ v, act.eval (.const v) = v := fun _ => rfl
          have hf : ∀ f, act.eval (.func f) = .func (.func f) #[] #[] := fun _ => rfl
          generalize act.eval = ρ at *
          replace h1 : ρ (.tmp 31) = .int .i64 (lineM (sizedM L1 (L3.map acM) u) x) := h1
          refine gx_gen (fun K hK => ?_)
          obtain ⟨hc, hf'⟩ := bcell (bdrewn hw'.out)
          go_simp
          exact hK _ _ ⟨rfl, Gr.refl _⟩
        refine ⟨opOK_rx [(42, some 21)] (by kernel_rfl) rfl ?_, ?_⟩
        · intro act w' hw' h1
          have hk : ∀ v, act.eval (.const v) = v := fun _ => rfl
          have hf : ∀ f, act.eval (.func f) = .func (.func f) #[] #[] := fun _ => rfl
          generalize act.eval = ρ at *
          replace h1 : ρ (.tmp 42) = .int .i64 (lineM (sizedM L2 (L3.map dnM) v) y) := h1
          refine gx_gen (fun K hK => ?_)
          obtain ⟨hc, hf'⟩ := bcell (bdrewn hw'.out)
          go_simp
          exact hK _ _ ⟨rfl, Gr.refl _⟩
        exact trivial
      case hfin =>
        intro w9 hg9
        intro v21 t21
        replace t21 : v21 = .pointer (some ⟨w.heap.size, 0, none⟩) := t21
        subst t21
        intro v22 t22
        replace t22 : v22 = .slice A1 L1.length c1 := t22
        subst t22
        intro v23 t23
        replace t23 : v23 = .pointer (some ⟨w.heap.size, 0, none⟩) := t23
        subst t23
        intro v24 t24
        replace t24 : v24 = .slice A1 L1.length c1 := t24
        subst t24
        intro v25 t25
        replace t25 : v25 = .agg #[.slice A1 L1.length c1, .slice A2 L2.length c2, .slice A3 L3.length c3] := t25
        subst t25
        intro v26 t26
        replace t26 : (fun z9 w => SpR w z9 (L3.map acM)) v26 w9 := t26
        intro v27 t27
        replace t27 : (fun z9 w => NRz w z9 L1.length (wishM L1 (L3.map acM))) v27 w9 := t27
        intro v28 t28
        replace t28 : v28 = .int .i64 u := t28
        subst t28
        intro v29 t29
        replace t29 : (fun z9 w => NRz w z9 L1.length (sizedM L1 (L3.map acM) u)) v29 w9 := t29
        intro v30 t30
        replace t30 : v30 = .int .i64 x := t30
        subst t30
        intro v31 t31
        replace t31 : v31 = .int .i64 (lineM (sizedM L1 (L3.map acM) u) x) := t31
        subst t31
        intro v32 t32
        replace t32 : v32 = .pointer (some ⟨w.heap.size, 1, none⟩) := t32
        subst t32
        intro v33 t33
        replace t33 : v33 = .slice A2 L2.length c2 := t33
        subst t33
        intro v34 t34
        replace t34 : v34 = .pointer (some ⟨w.heap.size, 1, none⟩) := t34
        subst t34
        intro v35 t35
        replace t35 : v35 = .slice A2 L2.length c2 := t35
        subst t35
        intro v36 t36
        replace t36 : v36 = .agg #[.slice A1 L1.length c1, .slice A2 L2.length c2, .slice A3 L3.length c3] := t36
        subst t36
        intro v37 t37
        replace t37 : (fun z9 w => SpR w z9 (L3.map dnM)) v37 w9 := t37
        intro v38 t38
        replace t38 : (fun z9 w => NRz w z9 L2.length (wishM L2 (L3.map dnM))) v38 w9 := t38
        intro v39 t39
        replace t39 : v39 = .int .i64 v := t39
        subst t39
        intro v40 t40
        replace t40 : (fun z9 w => NRz w z9 L2.length (sizedM L2 (L3.map dnM) v)) v40 w9 := t40
        intro v41 t41
        replace t41 : v41 = .int .i64 y := t41
        subst t41
        intro v42 t42
        replace t42 : v42 = .int .i64 (lineM (sizedM L2 (L3.map dnM) v) y) := t42
        subst t42
        intro v10 t10
        replace t10 : v10 = .int .i64 (lineM (sizedM L1 (L3.map acM) u) x) := t10
        subst t10
        intro v11 t11
        replace t11 : v11 = .int .i64 (lineM (sizedM L2 (L3.map dnM) v) y) := t11
        subst t11
        have hb9 := bdrewn hg9.out
        clear hg9
        simp only [finP, Act.put, List.setIfInBounds_toArray, List.set_cons_succ, List.set_cons_zero]
        clear t26 t27 t29 t37 t38 t40 d0 d1 d2 lx
        replace HX := Lib.hid ((hb9.block _ (Array.getElem?_eq_some_iff.1 HX.out).1).trans HX.out)
        replace HB := Lib.hid (bkeep2 HB.out hb9)
        clear hb9
        go_wp2
        exact bodyPost_ret (v := .tuple #[.int .i64 (lineM (sizedM L1 (L3.map acM) u) x), .int .i64 (lineM (sizedM L2 (L3.map dnM) v) y)]) (by simp only [results, Try.results19]; go_simp) rfl ⟨rfl, HB.out⟩
end Go.Proofs.Ytikndbinlpmgaaa
end
section
namespace Go.Proofs.Ytikndbinlpmgaaa
set_option linter.unusedVariables false
theorem take_seg (S : List Int) (a m : Nat) : sumI (S.take (a + m)) = sumI (S.take a) + sumI (segI S a m) := by
  rw [segI, List.take_add, sumI_append]
theorem sum_take_bd {S : List Int} (h : ∀ x ∈ S, 0 ≤ x) (k : Nat) : 0 ≤ sumI (S.take k) ∧ sumI (S.take k) ≤ sumI S := by
  have h1 := sumI_nonneg (L := S.take k) (fun x hx => h x (List.mem_of_mem_take hx))
  have h2 := sumI_nonneg (L := S.drop k) (fun x hx => h x (List.mem_of_mem_drop hx))
  have h3 := sumI_append (S.take k) (S.drop k)
  rw [List.take_append_drop] at h3
  omega
/-- a rectangle with some room all around -/
def insR (a : Re) (p q : Int) : Re := ⟨a.x + mn p (a.u / 2), a.y + mn q (a.v / 2), mx (a.u - 2 * p) 0, mx (a.v - 2 * q) 0⟩
def stkI (wish room k : Int) : Int × Int := if k = 1 then (wish, 0) else if k = 2 then (wish, 2) else if k = 3 then (room, 0) else (wish, 1)
def ancR (a : Re) (p q k : Int) : Re := ⟨a.x + (a.u - mn p a.u) * (k % 3) / 2, a.y + (a.v - mn q a.v) * (k / 3) / 2, mn p a.u, mn q a.v⟩
/-- place and size of something in a room -/
def stkS (at_ room wish : Int) (lo hi : Bool) : Int × Int :=
  if lo && hi then (at_, room) else if lo then (at_, mn wish room) else if hi then (at_ + room - mn wish room, mn wish room) else (at_ + (room - mn wish room) / 2, mn wish room)
def areaR (S1 S2 : List Int) (c : Ce) : Re := ⟨sumI (S1.take c.co.toNat), sumI (S2.take c.ro.toNat), sumI (segI S1 c.co.toNat c.mc.toNat), sumI (segI S2 c.ro.toNat c.mr.toNat)⟩
def cellR (S1 S2 : List Int) (c : Ce) : Re :=
  ⟨(stkS (insR (areaR S1 S2 c) c.px c.py).x (insR (areaR S1 S2 c) c.px c.py).u c.cw (decide (c.sk % 2 = 1)) (decide (c.sk / 2 % 2 = 1))).1,
   (stkS (insR (areaR S1 S2 c) c.px c.py).y (insR (areaR S1 S2 c) c.px c.py).v c.ch (decide (c.sk / 4 % 2 = 1)) (decide (c.sk / 8 = 1))).1,
   (stkS (insR (areaR S1 S2 c) c.px c.py).x (insR (areaR S1 S2 c) c.px c.py).u c.cw (decide (c.sk % 2 = 1)) (decide (c.sk / 2 % 2 = 1))).2,
   (stkS (insR (areaR S1 S2 c) c.px c.py).y (insR (areaR S1 S2 c) c.px c.py).v c.ch (decide (c.sk / 4 % 2 = 1)) (decide (c.sk / 8 = 1))).2⟩
def BdR (a : Re) : Prop := ((0 ≤ a.x ∧ a.x ≤ 4000) ∧ (0 ≤ a.y ∧ a.y ≤ 4000)) ∧ ((0 ≤ a.u ∧ a.u ≤ 4000) ∧ (0 ≤ a.v ∧ a.v ≤ 4000))
theorem ins_bd {a : Re} {p q : Int} (h : BdR a) (hp : 0 ≤ p ∧ p ≤ 10) (hq : 0 ≤ q ∧ q ≤ 10) :
    ((0 ≤ mn p (a.u / 2) ∧ mn p (a.u / 2) ≤ 10) ∧ (0 ≤ mn q (a.v / 2) ∧ mn q (a.v / 2) ≤ 10)) ∧ ((0 ≤ mx (a.u - 2 * p) 0 ∧ mx (a.u - 2 * p) 0 ≤ 4000) ∧ (0 ≤ mx (a.v - 2 * q) 0 ∧ mx (a.v - 2 * q) 0 ≤ 4000)) := by
  obtain ⟨⟨h1, h2⟩, h3, h4⟩ := h
  have := mn_spec p (a.u / 2); have := mn_spec q (a.v / 2); have := mx_spec (a.u - 2 * p) 0; have := mx_spec (a.v - 2 * q) 0
  omega
theorem mul3_bd {a b : Int} (h1 : 0 ≤ a) (h2 : a ≤ 4000) (h3 : 0 ≤ b) (h4 : b ≤ 2) : 0 ≤ a * b ∧ a * b ≤ 8000 :=
  ⟨Int.mul_nonneg h1 h3, Int.le_trans (Int.mul_le_mul h2 h4 h3 (by omega)) (by omega)⟩
theorem anc_bd {u v p q k : Int} (hu : 0 ≤ u ∧ u ≤ 4000) (hv : 0 ≤ v ∧ v ≤ 4000) (hp : 0 ≤ p ∧ p ≤ 4000) (hq : 0 ≤ q ∧ q ≤ 4000) (hk : 0 ≤ k ∧ k ≤ 8) :
    0 ≤ mn p u ∧ mn p u ≤ u ∧ 0 ≤ mn q v ∧ mn q v ≤ v ∧ 0 ≤ k % 3 ∧ k % 3 ≤ 2 ∧ 0 ≤ k / 3 ∧ k / 3 ≤ 2 ∧ 0 ≤ (u - mn p u) * (k % 3) ∧ (u - mn p u) * (k % 3) ≤ 8000 ∧ 0 ≤ (v - mn q v) * (k / 3) ∧ (v - mn q v) * (k / 3) ≤ 8000 := by
  have g1 := mn_spec p u; have g2 := mn_spec q v
  have e1 := mul3_bd (a := u - mn p u) (b := k % 3) (by omega) (by omega) (by omega) (by omega)
  have e2 := mul3_bd (a := v - mn q v) (b := k / 3) (by omega) (by omega) (by omega) (by omega)
  omega
theorem stkI_bd {wish room k : Int} (h1 : 0 ≤ wish ∧ wish ≤ 30) (h2 : 0 ≤ room ∧ room ≤ 4000) : (0 ≤ (stkI wish room k).1 ∧ (stkI wish room k).1 ≤ 4000) ∧ (0 ≤ (stkI wish room k).2 ∧ (stkI wish room k).2 ≤ 2) := by
  unfold stkI
  split
  · simp only; omega
  · split
    · simp only; omega
    · split <;> (simp only; omega)
theorem stk_one (x room wish k : Int) (lo hi : Bool) (hr : 0 ≤ room) (hlo : lo = decide (k % 2 = 1)) (hhi : hi = decide (k / 2 = 1)) (hk : 0 ≤ k ∧ k ≤ 3) :
    x + (room - mn (stkI wish room k).1 room) * (stkI wish room k).2 / 2 = (stkS x room wish lo hi).1 ∧ mn (stkI wish room k).1 room = (stkS x room wish lo hi).2 := by
  have hk4 : k = 0 ∨ k = 1 ∨ k = 2 ∨ k = 3 := by omega
  have hm := mn_spec wish room
  rcases hk4 with rfl | rfl | rfl | rfl
  · subst hlo hhi
    simp [stkI, stkS]
  · subst hlo hhi
    simp [stkI, stkS]
  · subst hlo hhi
    simp [stkI, stkS]
    omega
  · subst hlo hhi
    have := mn_spec room room
    simp [stkI, stkS]
    omega
/-- what the program makes of the rectangle of the lines of a cell -/
def celI (a : Re) (c : Ce) : Re := ancR (insR a c.px c.py) (stkI c.cw (insR a c.px c.py).u (c.sk % 4)).1 (stkI c.ch (insR a c.px c.py).v (c.sk / 4)).1 ((stkI c.cw (insR a c.px c.py).u (c.sk % 4)).2 + 3 * (stkI c.ch (insR a c.px c.py).v (c.sk / 4)).2)
theorem celI_eq {S1 S2 : List Int} {c : Ce} (hs : 0 ≤ c.sk ∧ c.sk ≤ 15) (hw : 0 ≤ c.cw ∧ c.cw ≤ 30) (hh : 0 ≤ c.ch ∧ c.ch ≤ 30) (hp : 0 ≤ c.px ∧ c.px ≤ 10) (hq : 0 ≤ c.py ∧ c.py ≤ 10) (hb : BdR (areaR S1 S2 c)) : celI (areaR S1 S2 c) c = cellR S1 S2 c := by
  obtain ⟨-, b3, b4⟩ := ins_bd hb hp hq
  have e1 := stk_one (insR (areaR S1 S2 c) c.px c.py).x (insR (areaR S1 S2 c) c.px c.py).u c.cw (c.sk % 4) (decide (c.sk % 2 = 1)) (decide (c.sk / 2 % 2 = 1)) b3.1 (by rw [show c.sk % 4 % 2 = c.sk % 2 by omega]) (by rw [show c.sk % 4 / 2 = c.sk / 2 % 2 by omega]) (by omega)
  have e2 := stk_one (insR (areaR S1 S2 c) c.px c.py).y (insR (areaR S1 S2 c) c.px c.py).v c.ch (c.sk / 4) (decide (c.sk / 4 % 2 = 1)) (decide (c.sk / 8 = 1)) b4.1 rfl (by rw [show c.sk / 4 / 2 = c.sk / 8 by omega]) (by omega)
  have f1 := (stkI_bd (wish := c.cw) (room := (insR (areaR S1 S2 c) c.px c.py).u) (k := c.sk % 4) hw b3).2
  have f2 := (stkI_bd (wish := c.ch) (room := (insR (areaR S1 S2 c) c.px c.py).v) (k := c.sk / 4) hh b4).2
  unfold celI cellR ancR
  rw [show ((stkI c.cw (insR (areaR S1 S2 c) c.px c.py).u (c.sk % 4)).2 + 3 * (stkI c.ch (insR (areaR S1 S2 c) c.px c.py).v (c.sk / 4)).2) % 3 = (stkI c.cw (insR (areaR S1 S2 c) c.px c.py).u (c.sk % 4)).2 by omega,
    show ((stkI c.cw (insR (areaR S1 S2 c) c.px c.py).u (c.sk % 4)).2 + 3 * (stkI c.ch (insR (areaR S1 S2 c) c.px c.py).v (c.sk / 4)).2) / 3 = (stkI c.ch (insR (areaR S1 S2 c) c.px c.py).v (c.sk / 4)).2 by omega,
    e1.1, e1.2, e2.1, e2.2]
/-- sizes of lines that are small -/
def SzB (S : List Int) : Prop := (∀ x ∈ S, 0 ≤ x) ∧ sumI S ≤ 2150 ∧ S.length ≤ 5
theorem SzB.seg {S : List Int} (h : SzB S) (a m : Nat) : 0 ≤ sumI (segI S a m) ∧ sumI (segI S a m) ≤ 2150 := by
  have h1 := take_seg S a m
  have h2 := sum_take_bd h.1 (a + m)
  have h3 := sum_take_bd h.1 a
  have h4 := sumI_nonneg (L := segI S a m) (fun x hx => h.1 x (segI_mem hx))
  have := h.2.1
  omega
theorem SzB.take {S : List Int} (h : SzB S) (a : Nat) : 0 ≤ sumI (S.take a) ∧ sumI (S.take a) ≤ 2150 := by
  have h3 := sum_take_bd h.1 a
  have := h.2.1
  omega
theorem area_bd {S1 S2 : List Int} (h1 : SzB S1) (h2 : SzB S2) (c : Ce) : BdR (areaR S1 S2 c) := by
  have a1 := h1.take c.co.toNat
  have a2 := h2.take c.ro.toNat
  have a3 := h1.seg c.co.toNat c.mc.toNat
  have a4 := h2.seg c.ro.toNat c.mr.toNat
  exact ⟨⟨⟨a1.1, by show sumI _ ≤ _; omega⟩, ⟨a2.1, by show sumI _ ≤ _; omega⟩⟩, ⟨a3.1, by show sumI _ ≤ _; omega⟩, ⟨a4.1, by show sumI _ ≤ _; omega⟩⟩
theorem SzB.smal {S : List Int} (h : SzB S) : Smal 1000000000 S := fun k => by
  have := h.take k
  omega
theorem SzB.segsmal {S : List Int} (h : SzB S) (a m : Nat) : Smal 1000000000 (segI S a m) := fun k => by
  have h4 := sum_take_bd (S := segI S a m) (fun x hx => h.1 x (segI_mem hx)) k
  have := h.seg a m
  omega
theorem SzB.takesmal {S : List Int} (h : SzB S) (a : Nat) : Smal 1000000000 (S.take a) := fun k => by
  have h4 := sum_take_bd (S := S.take a) (fun x hx => h.1 x (List.mem_of_mem_take hx)) k
  have := h.take a
  omega
theorem SzB.of {L : List Ln} {S : List Sp} {room : Int} (hL : linesB L = true) (hS : spansB L.length S = true) (hr0 : 0 ≤ room) (hr1 : room ≤ 400) : SzB (sizedM L S room) := by
  obtain ⟨-, h2, h3, h4⟩ := sized_ok hL hS hr0 hr1
  exact ⟨fun x hx => (h3 x hx).1, h4, by have := (linesB_len hL).2; omega⟩
end Go.Proofs.Ytikndbinlpmgaaa
end
