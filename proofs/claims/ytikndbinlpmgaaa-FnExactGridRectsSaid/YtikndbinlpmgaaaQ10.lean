import Derived.Test.YtikndbinlpmgaaaQ09
section
namespace Go.Proofs.Ytikndbinlpmgaaa
open Go.RowKit
set_option linter.unusedVariables false
set_option maxHeartbeats 1000000
attribute [local go_sem] growUpon_value growUpon_skip growUpon_enter
attribute [local go_sem] givesUpon_value givesUpon_skip givesUpon_enter
theorem wish_smal {L : List Ln} {S : List Sp} (hL : linesB L = true) (hS : spansB L.length S = true) : Smal 1000000000 (wishM L S) ∧ (wishM L S).length ≤ 5 := by
  obtain ⟨-, hl, hx, -, -⟩ := wish_ok hL hS
  have h5 := (linesB_len hL).2
  refine ⟨smal_of (b := 1000000) (fun x h => ⟨by have := (hx x h).1; omega, (hx x h).2⟩) (by omega) ?_, by omega⟩
  rw [hl]; omega
def NRz (w : World) (v : Value) (n : Nat) (L : List Int) : Prop := ∃ A c, v = .slice A n c ∧ NV w A L
theorem NRz.keep {w w' : World} {v : Value} {n : Nat} {L : List Int} (h : NRz w v n L) (hb : Below w.heap.size w w') : NRz w' v n L := let ⟨A, c, e, q⟩ := h; ⟨A, c, e, q.keep hb⟩
set_option maxRecDepth 100000 in
theorem gridRequest_v (A1 : Option Addr) (c1 : Nat) (L1 : List Ln) (A2 : Option Addr) (c2 : Nat) (L2 : List Ln) (A3 : Option Addr) (c3 : Nat) (L3 : List Ce) (w : World) (h1 : LnV w A1 L1) (h2 : LnV w A2 L2) (h3 : CeV w A3 L3) (hg : gridB L1 L2 L3 = true) :
    Calls Try.prog 37 #[.agg #[.slice A1 L1.length c1, .slice A2 L2.length c2, .slice A3 L3.length c3]] w fun e w' => e = .returned (.tuple #[.int .i64 (sumI (wishM L1 (L3.map acM))), .int .i64 (sumI (wishM L2 (L3.map dnM)))]) ∧ Below w.heap.size w w' := by
  obtain ⟨v1, v2, hl8, hsm, hs1, hs2⟩ := gridB_yes hg
  obtain ⟨m1, n1⟩ := wish_smal v1 hs1
  obtain ⟨m2, n2⟩ := wish_smal v2 hs2
  have q1 := wishM_len v1 hs1
  have q2 := wishM_len v2 hs2
  have hB0 : Below w.heap.size w (w.alloc (.cells #[.slice A1 L1.length c1, .slice A2 L2.length c2, .slice A3 L3.length c3] 26 (0, 0))) := balloc (Below.refl _ _)
  have hx0 := newS w (.cells #[.slice A1 L1.length c1, .slice A2 L2.length c2, .slice A3 L3.length c3] 26 (0, 0))
  have HV1 := Lib.hid (h1.keep hB0)
  have HV2 := Lib.hid (h2.keep hB0)
  have HV3 := Lib.hid (h3.keep hB0)
  have HX := Lib.hid hx0
  have HB := Lib.hid hB0
  have HS1 := Lib.hid v1
  have HS2 := Lib.hid v2
  have HM1 := Lib.hid m1
  have HM2 := Lib.hid m2
  have HSM := Lib.hid hsm
  have HK1 := Lib.hid hs1
  have HK2 := Lib.hid hs2
  have HL1 := Lib.hid q1
  have HL2 := Lib.hid q2
  clear hB0 hx0 h1 h2 h3 v1 v2 m1 m2 hsm hs1 hs2 q1 q2 hg
  go_enter Try.func37, Try.ntmps37
  have d0 := cellS HX.out 0
  have d1 := cellS HX.out 1
  have d2 := cellS HX.out 2
  have lx := ltS HX.out
  go_wp2_with fail
  refine wp_region_rx (XV (.pointer (some ⟨w.heap.size, 0, none⟩)) :: XV (.slice A1 L1.length c1) :: XV (.pointer (some ⟨w.heap.size, 2, none⟩)) :: XV (.slice A3 L3.length c3) :: (fun v w => SpR w v (L3.map acM)) :: (fun v w => NRz w v L1.length (wishM L1 (L3.map acM))) :: (fun v w => NRz w v L1.length (wishM L1 (L3.map acM))) :: []) (by kernel_rfl) (by kernel_rfl) ?hTs ?hops ?hfin
  case hTs =>
    intro T hT
    simp only [List.mem_cons, List.not_mem_nil, or_false] at hT
    rcases hT with rfl | rfl | rfl | rfl | rfl | rfl | rfl <;> first | exact stay_V _ | exact stay_T | exact stay_of (fun v a b x g => x.keep g) | exact stay_of (fun v a b x g => x)
  case hops =>
    refine ⟨opOK_rx [(1, none)] (by kernel_rfl) rfl ?_, ?_⟩
    · intro act w' hw' h1
      have hk : ∀ v, act.eval (.const v) = v := fun _ => rfl
      have hf : ∀ f, act.eval (.func f) = .func (.func f) #[] #[] := fun _ => rfl
      generalize act.eval = ρ at *
      replace h1 : ρ (.tmp 1) = .pointer (some ⟨w.heap.size, 0, none⟩) := h1
      refine gx_gen (fun K hK => ?_)
      obtain ⟨hc, hf'⟩ := bcell (bdrewn hw'.out)
      go_simp
      exact hK _ _ ⟨rfl, Gr.refl _⟩
    refine ⟨opOK_rx [(6, some 0)] (by kernel_rfl) rfl ?_, ?_⟩
    · intro act w' hw' h1
      have hk : ∀ v, act.eval (.const v) = v := fun _ => rfl
      have hf : ∀ f, act.eval (.func f) = .func (.func f) #[] #[] := fun _ => rfl
      generalize act.eval = ρ at *
      replace h1 : ρ (.tmp 6) = .pointer (some ⟨w.heap.size, 0, none⟩) := h1
      refine gx_gen (fun K hK => ?_)
      obtain ⟨hc, hf'⟩ := bcell (bdrewn hw'.out)
      go_simp
      exact hK _ _ ⟨rfl, Gr.refl _⟩
    refine ⟨opOK_rx [(1, none)] (by kernel_rfl) rfl ?_, ?_⟩
    · intro act w' hw' h1
      have hk : ∀ v, act.eval (.const v) = v := fun _ => rfl
      have hf : ∀ f, act.eval (.func f) = .func (.func f) #[] #[] := fun _ => rfl
      generalize act.eval = ρ at *
      replace h1 : ρ (.tmp 1) = .pointer (some ⟨w.heap.size, 0, none⟩) := h1
      refine gx_gen (fun K hK => ?_)
      obtain ⟨hc, hf'⟩ := bcell (bdrewn hw'.out)
      go_simp
      exact hK _ _ ⟨rfl, Gr.refl _⟩
    refine ⟨opOK_rx [(8, some 2)] (by kernel_rfl) rfl ?_, ?_⟩
    · intro act w' hw' h1
      have hk : ∀ v, act.eval (.const v) = v := fun _ => rfl
      have hf : ∀ f, act.eval (.func f) = .func (.func f) #[] #[] := fun _ => rfl
      generalize act.eval = ρ at *
      replace h1 : ρ (.tmp 8) = .pointer (some ⟨w.heap.size, 2, none⟩) := h1
      refine gx_gen (fun K hK => ?_)
      obtain ⟨hc, hf'⟩ := bcell (bdrewn hw'.out)
      go_simp
      exact hK _ _ ⟨rfl, Gr.refl _⟩
    refine ⟨opOK_rx [(9, some 3)] (by kernel_rfl) rfl ?_, ?_⟩
    · intro act w' hw' h1
      have hk : ∀ v, act.eval (.const v) = v := fun _ => rfl
      have hf : ∀ f, act.eval (.func f) = .func (.func f) #[] #[] := fun _ => rfl
      generalize act.eval = ρ at *
      replace h1 : ρ (.tmp 9) = .slice A3 L3.length c3 := h1
      refine gx_gen (fun K hK => ?_)
      obtain ⟨hc, hf'⟩ := bcell (bdrewn hw'.out)
      go_simp
      (with_reducible refine (each_across A3 c3 L3 _ (HV3.out.keep (bdrewn hw'.out)) (by omega) HSM.out).mono ?_); rintro e w1 ⟨rfl, hr1, hb1⟩; exact ⟨_, rfl, hK _ _ ⟨⟨_, _, by rw [List.length_map], hr1.v⟩, hb1⟩⟩
    refine ⟨opOK_rx [(7, some 1), (10, some 4)] (by kernel_rfl) rfl ?_, ?_⟩
    · intro act w' hw' h1 h2
      have hk : ∀ v, act.eval (.const v) = v := fun _ => rfl
      have hf : ∀ f, act.eval (.func f) = .func (.func f) #[] #[] := fun _ => rfl
      generalize act.eval = ρ at *
      replace h1 : ρ (.tmp 7) = .slice A1 L1.length c1 := h1
      replace h2 : (fun v w => SpR w v (L3.map acM)) (ρ (.tmp 10)) w' := h2
      refine gx_gen (fun K hK => ?_)
      obtain ⟨hc, hf'⟩ := bcell (bdrewn hw'.out)
      go_simp
      obtain ⟨A, c, e, hs⟩ := h2; rw [e]; (with_reducible refine (lineRequests_v A1 c1 L1 A c (L3.map acM) _ (HV1.out.keep (bdrewn hw'.out)) HS1.out hs HK1.out).mono ?_); rintro e w1 ⟨rfl, hr1, hb1⟩; exact ⟨_, rfl, hK _ _ ⟨⟨_, _, rfl, hr1.nv⟩, hb1⟩⟩
    refine ⟨opOK_rx [(11, some 5)] (by kernel_rfl) rfl ?_, ?_⟩
    · intro act w' hw' h1
      have hk : ∀ v, act.eval (.const v) = v := fun _ => rfl
      have hf : ∀ f, act.eval (.func f) = .func (.func f) #[] #[] := fun _ => rfl
      generalize act.eval = ρ at *
      replace h1 : (fun v w => NRz w v L1.length (wishM L1 (L3.map acM))) (ρ (.tmp 11)) w' := h1
      refine gx_gen (fun K hK => ?_)
      obtain ⟨hc, hf'⟩ := bcell (bdrewn hw'.out)
      go_simp
      exact hK _ _ ⟨h1, Gr.refl _⟩
    exact trivial
  case hfin =>
    intro w1 hg1
    intro v6 t6
    replace t6 : v6 = .pointer (some ⟨w.heap.size, 0, none⟩) := t6
    subst t6
    intro v7 t7
    replace t7 : v7 = .slice A1 L1.length c1 := t7
    subst t7
    intro v8 t8
    replace t8 : v8 = .pointer (some ⟨w.heap.size, 2, none⟩) := t8
    subst t8
    intro v9 t9
    replace t9 : v9 = .slice A3 L3.length c3 := t9
    subst t9
    intro v10 t10
    replace t10 : (fun v w => SpR w v (L3.map acM)) v10 w1 := t10
    intro v11 t11
    replace t11 : (fun v w => NRz w v L1.length (wishM L1 (L3.map acM))) v11 w1 := t11
    intro v4 t4
    replace t4 : (fun v w => NRz w v L1.length (wishM L1 (L3.map acM))) v4 w1 := t4
    have hb1 := bdrewn hg1.out
    clear hg1
    simp only [finP, Act.put, List.setIfInBounds_toArray, List.set_cons_succ, List.set_cons_zero]
    obtain ⟨B1, e1, rfl, hn1⟩ := t4
    clear t10 t11 d0 d1 d2 lx
    replace HX := Lib.hid ((hb1.block _ (Array.getElem?_eq_some_iff.1 HX.out).1).trans HX.out)
    replace HV1 := Lib.hid (HV1.out.keep hb1)
    replace HV2 := Lib.hid (HV2.out.keep hb1)
    replace HV3 := Lib.hid (HV3.out.keep hb1)
    replace HB := Lib.hid (bkeep2 HB.out hb1)
    clear hb1
    have HN1 := Lib.hid hn1
    clear hn1
    have d0 := cellS HX.out 0
    have d1 := cellS HX.out 1
    have d2 := cellS HX.out 2
    have lx := ltS HX.out
    go_wp2_with fail
    refine wp_region_rx (XV (.pointer (some ⟨w.heap.size, 1, none⟩)) :: XV (.slice A2 L2.length c2) :: XV (.pointer (some ⟨w.heap.size, 2, none⟩)) :: XV (.slice A3 L3.length c3) :: (fun v w => SpR w v (L3.map dnM)) :: (fun v w => NRz w v L2.length (wishM L2 (L3.map dnM))) :: (fun v w => NRz w v L2.length (wishM L2 (L3.map dnM))) :: []) (by kernel_rfl) (by kernel_rfl) ?hTs ?hops ?hfin
    case hTs =>
      intro T hT
      simp only [List.mem_cons, List.not_mem_nil, or_false] at hT
      rcases hT with rfl | rfl | rfl | rfl | rfl | rfl | rfl <;> first | exact stay_V _ | exact stay_T | exact stay_of (fun v a b x g => x.keep g) | exact stay_of (fun v a b x g => x)
    case hops =>
      refine ⟨opOK_rx [(1, none)] (by kernel_rfl) rfl ?_, ?_⟩
      · intro act w' hw' h1
        have hk : ∀ v, act.eval (.const v) = v := fun _ => rfl
        have hf : ∀ f, act.eval (.func f) = .func (.func f) #[] #[] := fun _ => rfl
        generalize act.eval = ρ at *
        replace h1 : ρ (.tmp 1) = .pointer (some ⟨w.heap.size, 0, none⟩) := h1
        refine gx_gen (fun K hK => ?_)
        obtain ⟨hc, hf'⟩ := bcell (bdrewn hw'.out)
        go_simp
        exact hK _ _ ⟨rfl, Gr.refl _⟩
      refine ⟨opOK_rx [(12, some 0)] (by kernel_rfl) rfl ?_, ?_⟩
      · intro act w' hw' h1
        have hk : ∀ v, act.eval (.const v) = v := fun _ => rfl
        have hf : ∀ f, act.eval (.func f) = .func (.func f) #[] #[] := fun _ => rfl
        generalize act.eval = ρ at *
        replace h1 : ρ (.tmp 12) = .pointer (some ⟨w.heap.size, 1, none⟩) := h1
        refine gx_gen (fun K hK => ?_)
        obtain ⟨hc, hf'⟩ := bcell (bdrewn hw'.out)
        go_simp
        exact hK _ _ ⟨rfl, Gr.refl _⟩
      refine ⟨opOK_rx [(1, none)] (by kernel_rfl) rfl ?_, ?_⟩
      · intro act w' hw' h1
        have hk : ∀ v, act.eval (.const v) = v := fun _ => rfl
        have hf : ∀ f, act.eval (.func f) = .func (.func f) #[] #[] := fun _ => rfl
        generalize act.eval = ρ at *
        replace h1 : ρ (.tmp 1) = .pointer (some ⟨w.heap.size, 0, none⟩) := h1
        refine gx_gen (fun K hK => ?_)
        obtain ⟨hc, hf'⟩ := bcell (bdrewn hw'.out)
        go_simp
        exact hK _ _ ⟨rfl, Gr.refl _⟩
      refine ⟨opOK_rx [(14, some 2)] (by kernel_rfl) rfl ?_, ?_⟩
      · intro act w' hw' h1
        have hk : ∀ v, act.eval (.const v) = v := fun _ => rfl
        have hf : ∀ f, act.eval (.func f) = .func (.func f) #[] #[] := fun _ => rfl
        generalize act.eval = ρ at *
        replace h1 : ρ (.tmp 14) = .pointer (some ⟨w.heap.size, 2, none⟩) := h1
        refine gx_gen (fun K hK => ?_)
        obtain ⟨hc, hf'⟩ := bcell (bdrewn hw'.out)
        go_simp
        exact hK _ _ ⟨rfl, Gr.refl _⟩
      refine ⟨opOK_rx [(15, some 3)] (by kernel_rfl) rfl ?_, ?_⟩
      · intro act w' hw' h1
        have hk : ∀ v, act.eval (.const v) = v := fun _ => rfl
        have hf : ∀ f, act.eval (.func f) = .func (.func f) #[] #[] := fun _ => rfl
        generalize act.eval = ρ at *
        replace h1 : ρ (.tmp 15) = .slice A3 L3.length c3 := h1
        refine gx_gen (fun K hK => ?_)
        obtain ⟨hc, hf'⟩ := bcell (bdrewn hw'.out)
        go_simp
        (with_reducible refine (each_down A3 c3 L3 _ (HV3.out.keep (bdrewn hw'.out)) (by omega) HSM.out).mono ?_); rintro e w1 ⟨rfl, hr1, hb1⟩; exact ⟨_, rfl, hK _ _ ⟨⟨_, _, by rw [List.length_map], hr1.v⟩, hb1⟩⟩
      refine ⟨opOK_rx [(13, some 1), (16, some 4)] (by kernel_rfl) rfl ?_, ?_⟩
      · intro act w' hw' h1 h2
        have hk : ∀ v, act.eval (.const v) = v := fun _ => rfl
        have hf : ∀ f, act.eval (.func f) = .func (.func f) #[] #[] := fun _ => rfl
        generalize act.eval = ρ at *
        replace h1 : ρ (.tmp 13) = .slice A2 L2.length c2 := h1
        replace h2 : (fun v w => SpR w v (L3.map dnM)) (ρ (.tmp 16)) w' := h2
        refine gx_gen (fun K hK => ?_)
        obtain ⟨hc, hf'⟩ := bcell (bdrewn hw'.out)
        go_simp
        obtain ⟨A, c, e, hs⟩ := h2; rw [e]; (with_reducible refine (lineRequests_v A2 c2 L2 A c (L3.map dnM) _ (HV2.out.keep (bdrewn hw'.out)) HS2.out hs HK2.out).mono ?_); rintro e w1 ⟨rfl, hr1, hb1⟩; exact ⟨_, rfl, hK _ _ ⟨⟨_, _, rfl, hr1.nv⟩, hb1⟩⟩
      refine ⟨opOK_rx [(17, some 5)] (by kernel_rfl) rfl ?_, ?_⟩
      · intro act w' hw' h1
        have hk : ∀ v, act.eval (.const v) = v := fun _ => rfl
        have hf : ∀ f, act.eval (.func f) = .func (.func f) #[] #[] := fun _ => rfl
        generalize act.eval = ρ at *
        replace h1 : (fun v w => NRz w v L2.length (wishM L2 (L3.map dnM))) (ρ (.tmp 17)) w' := h1
        refine gx_gen (fun K hK => ?_)
        obtain ⟨hc, hf'⟩ := bcell (bdrewn hw'.out)
        go_simp
        exact hK _ _ ⟨h1, Gr.refl _⟩
      exact trivial
    case hfin =>
      intro w2 hg2
      intro v12 t12
      replace t12 : v12 = .pointer (some ⟨w.heap.size, 1, none⟩) := t12
      subst t12
      intro v13 t13
      replace t13 : v13 = .slice A2 L2.length c2 := t13
      subst t13
      intro v14 t14
      replace t14 : v14 = .pointer (some ⟨w.heap.size, 2, none⟩) := t14
      subst t14
      intro v15 t15
      replace t15 : v15 = .slice A3 L3.length c3 := t15
      subst t15
      intro v16 t16
      replace t16 : (fun v w => SpR w v (L3.map dnM)) v16 w2 := t16
      intro v17 t17
      replace t17 : (fun v w => NRz w v L2.length (wishM L2 (L3.map dnM))) v17 w2 := t17
      intro v5 t5
      replace t5 : (fun v w => NRz w v L2.length (wishM L2 (L3.map dnM))) v5 w2 := t5
      have hb2 := bdrewn hg2.out
      clear hg2
      simp only [finP, Act.put, List.setIfInBounds_toArray, List.set_cons_succ, List.set_cons_zero]
      obtain ⟨B2, e2, rfl, hn2⟩ := t5
      clear t16 t17 d0 d1 d2 lx
      replace HX := Lib.hid ((hb2.block _ (Array.getElem?_eq_some_iff.1 HX.out).1).trans HX.out)
      replace HN1 := Lib.hid (HN1.out.keep hb2)
      replace HB := Lib.hid (bkeep2 HB.out hb2)
      clear hb2
      have HN2 := Lib.hid hn2
      clear hn2
      go_wp2_with fail
      with_reducible refine (sum_b B1 e1 L1.length _ _ HN1.out HL1.out.symm (by rw [← HL1.out]; omega) HM1.out).mono ?_
      rintro e w3 ⟨rfl, hb3⟩
      replace HX := Lib.hid ((hb3.block _ (Array.getElem?_eq_some_iff.1 HX.out).1).trans HX.out)
      replace HN2 := Lib.hid (HN2.out.keep hb3)
      replace HB := Lib.hid (bkeep2 HB.out hb3)
      clear hb3
      go_wp2_with fail
      with_reducible refine (sum_b B2 e2 L2.length _ _ HN2.out HL2.out.symm (by rw [← HL2.out]; omega) HM2.out).mono ?_
      rintro e w4 ⟨rfl, hb4⟩
      replace HX := Lib.hid ((hb4.block _ (Array.getElem?_eq_some_iff.1 HX.out).1).trans HX.out)
      replace HB := Lib.hid (bkeep2 HB.out hb4)
      clear hb4
      go_wp2
      exact bodyPost_ret (v := .tuple #[.int .i64 (sumI (wishM L1 (L3.map acM))), .int .i64 (sumI (wishM L2 (L3.map dnM)))]) (by simp only [results, Try.results37]; go_simp) rfl ⟨rfl, HB.out⟩
set_option maxRecDepth 100000 in
theorem sgridRequest_v (A1 : Option Addr) (c1 : Nat) (L1 : List Ln) (A2 : Option Addr) (c2 : Nat) (L2 : List Ln) (A3 : Option Addr) (c3 : Nat) (L3 : List Ce) (w : World) (h1 : LnV w A1 L1) (h2 : LnV w A2 L2) (h3 : CeV w A3 L3) (hg : gridB L1 L2 L3 = true) (k1 : L1.length ≤ c1) (k2 : L2.length ≤ c2) :
    Calls Try.prog 61 #[.agg #[.slice A1 L1.length c1, .slice A2 L2.length c2, .slice A3 L3.length c3]] w fun e w' => e = .returned (.tuple #[.int .i64 (sumI (wishM L1 (L3.map acM))), .int .i64 (sumI (wishM L2 (L3.map dnM)))]) ∧ Below w.heap.size w w' := by
  obtain ⟨v1, v2, hl8, hsm, hs1, hs2⟩ := gridB_yes hg
  obtain ⟨m1, n1⟩ := wish_smal v1 hs1
  obtain ⟨m2, n2⟩ := wish_smal v2 hs2
  have q1 := wishM_len v1 hs1
  have q2 := wishM_len v2 hs2
  have hB0 : Below w.heap.size w (w.alloc (.cells #[.slice A1 L1.length c1, .slice A2 L2.length c2, .slice A3 L3.length c3] 26 (0, 0))) := balloc (Below.refl _ _)
  have hx0 := newS w (.cells #[.slice A1 L1.length c1, .slice A2 L2.length c2, .slice A3 L3.length c3] 26 (0, 0))
  have HV1 := Lib.hid (h1.keep hB0)
  have HV2 := Lib.hid (h2.keep hB0)
  have HV3 := Lib.hid (h3.keep hB0)
  have HX := Lib.hid hx0
  have HB := Lib.hid hB0
  have HS1 := Lib.hid v1
  have HS2 := Lib.hid v2
  have HM1 := Lib.hid m1
  have HM2 := Lib.hid m2
  have HSM := Lib.hid hsm
  have HK1 := Lib.hid hs1
  have HK2 := Lib.hid hs2
  have HL1 := Lib.hid q1
  have HL2 := Lib.hid q2
  clear hB0 hx0 h1 h2 h3 v1 v2 m1 m2 hsm hs1 hs2 q1 q2 hg
  go_enter Try.func61, Try.ntmps61
  have d0 := cellS HX.out 0
  have d1 := cellS HX.out 1
  have d2 := cellS HX.out 2
  have lx := ltS HX.out
  go_wp2_with fail
  refine wp_region_rx (XV (.pointer (some ⟨w.heap.size, 0, none⟩)) :: XV (.slice A1 L1.length c1) :: XV (.agg #[.slice A1 L1.length c1, .slice A2 L2.length c2, .slice A3 L3.length c3]) :: (fun v w => SpR w v (L3.map acM)) :: (fun v w => NRz w v L1.length (wishM L1 (L3.map acM))) :: XV (.int .i64 (sumI (wishM L1 (L3.map acM)))) :: XV (.pointer (some ⟨w.heap.size, 1, none⟩)) :: XV (.slice A2 L2.length c2) :: XV (.agg #[.slice A1 L1.length c1, .slice A2 L2.length c2, .slice A3 L3.length c3]) :: (fun v w => SpR w v (L3.map dnM)) :: (fun v w => NRz w v L2.length (wishM L2 (L3.map dnM))) :: XV (.int .i64 (sumI (wishM L2 (L3.map dnM)))) :: XV (.int .i64 (sumI (wishM L1 (L3.map acM)))) :: XV (.int .i64 (sumI (wishM L2 (L3.map dnM)))) :: []) (by kernel_rfl) (by kernel_rfl) ?hTs ?hops ?hfin
  case hTs =>
    intro T hT
    simp only [List.mem_cons, List.not_mem_nil, or_false] at hT
    rcases hT with rfl | rfl | rfl | rfl | rfl | rfl | rfl | rfl | rfl | rfl | rfl | rfl | rfl | rfl <;> first | exact stay_V _ | exact stay_T | exact stay_of (fun v a b x g => x.keep g) | exact stay_of (fun v a b x g => x)
  case hops =>
    refine ⟨opOK_rx [(1, none)] (by kernel_rfl) rfl ?_, ?_⟩
    · intro act w' hw' h1
      have hk : ∀ v, act.eval (.const v) = v := fun _ => rfl
      have hf : ∀ f, act.eval (.func f) = .func (.func f) #[] #[] := fun _ => rfl
      generalize act.eval = ρ at *
      replace h1 : ρ (.tmp 1) = .pointer (some ⟨w.heap.size, 0, none⟩) := h1
      refine gx_gen (fun K hK => ?_)
      obtain ⟨hc, hf'⟩ := bcell (bdrewn hw'.out)
      go_simp
      exact hK _ _ ⟨rfl, Gr.refl _⟩
    refine ⟨opOK_rx [(4, some 0)] (by kernel_rfl) rfl ?_, ?_⟩
    · intro act w' hw' h1
      have hk : ∀ v, act.eval (.const v) = v := fun _ => rfl
      have hf : ∀ f, act.eval (.func f) = .func (.func f) #[] #[] := fun _ => rfl
      generalize act.eval = ρ at *
      replace h1 : ρ (.tmp 4) = .pointer (some ⟨w.heap.size, 0, none⟩) := h1
      refine gx_gen (fun K hK => ?_)
      obtain ⟨hc, hf'⟩ := bcell (bdrewn hw'.out)
      go_simp
      exact hK _ _ ⟨rfl, Gr.refl _⟩
    refine ⟨opOK_rx [(1, none)] (by kernel_rfl) rfl ?_, ?_⟩
    · intro act w' hw' h1
      have hk : ∀ v, act.eval (.const v) = v := fun _ => rfl
      have hf : ∀ f, act.eval (.func f) = .func (.func f) #[] #[] := fun _ => rfl
      generalize act.eval = ρ at *
      replace h1 : ρ (.tmp 1) = .pointer (some ⟨w.heap.size, 0, none⟩) := h1
      refine gx_gen (fun K hK => ?_)
      obtain ⟨hc, hf'⟩ := bcell (bdrewn hw'.out)
      go_simp
      exact hK _ _ ⟨rfl, Gr.refl _⟩
    refine ⟨opOK_rx [(6, some 2)] (by kernel_rfl) rfl ?_, ?_⟩
    · intro act w' hw' h1
      have hk : ∀ v, act.eval (.const v) = v := fun _ => rfl
      have hf : ∀ f, act.eval (.func f) = .func (.func f) #[] #[] := fun _ => rfl
      generalize act.eval = ρ at *
      replace h1 : ρ (.tmp 6) = .agg #[.slice A1 L1.length c1, .slice A2 L2.length c2, .slice A3 L3.length c3] := h1
      refine gx_gen (fun K hK => ?_)
      obtain ⟨hc, hf'⟩ := bcell (bdrewn hw'.out)
      go_simp
      (with_reducible refine (colSpans_v A1 A2 A3 c1 L1.length c2 L2.length c3 L3 _ (HV3.out.keep (bdrewn hw'.out)) hl8 HSM.out).mono ?_); rintro e w1 ⟨⟨v, rfl, hr1⟩, hb1⟩; exact ⟨_, rfl, hK _ _ ⟨hr1, hb1⟩⟩
    refine ⟨opOK_rx [(5, some 1), (7, some 3)] (by kernel_rfl) rfl ?_, ?_⟩
    · intro act w' hw' h1 h2
      have hk : ∀ v, act.eval (.const v) = v := fun _ => rfl
      have hf : ∀ f, act.eval (.func f) = .func (.func f) #[] #[] := fun _ => rfl
      generalize act.eval = ρ at *
      replace h1 : ρ (.tmp 5) = .slice A1 L1.length c1 := h1
      replace h2 : (fun v w => SpR w v (L3.map acM)) (ρ (.tmp 7)) w' := h2
      refine gx_gen (fun K hK => ?_)
      obtain ⟨hc, hf'⟩ := bcell (bdrewn hw'.out)
      go_simp
      obtain ⟨A, c, e, hs⟩ := h2; rw [e]; (with_reducible refine (wished_v A1 c1 L1 A c (L3.map acM) _ (HV1.out.keep (bdrewn hw'.out)) HS1.out hs HK1.out k1).mono ?_); rintro e w1 ⟨⟨g, cap, rfl, _, hr1⟩, hb1⟩; exact ⟨_, rfl, hK _ _ ⟨⟨_, _, rfl, hr1.nv⟩, hb1⟩⟩
    refine ⟨opOK_rx [(8, some 4)] (by kernel_rfl) rfl ?_, ?_⟩
    · intro act w' hw' h1
      have hk : ∀ v, act.eval (.const v) = v := fun _ => rfl
      have hf : ∀ f, act.eval (.func f) = .func (.func f) #[] #[] := fun _ => rfl
      generalize act.eval = ρ at *
      replace h1 : (fun v w => NRz w v L1.length (wishM L1 (L3.map acM))) (ρ (.tmp 8)) w' := h1
      refine gx_gen (fun K hK => ?_)
      obtain ⟨hc, hf'⟩ := bcell (bdrewn hw'.out)
      go_simp
      obtain ⟨A, c, e, hs⟩ := h1; rw [e]; (with_reducible refine (total_b A c L1.length _ _ hs HL1.out.symm (by rw [← HL1.out]; omega) HM1.out).mono ?_); rintro e w1 ⟨rfl, hb1⟩; exact ⟨_, rfl, hK _ _ ⟨rfl, hb1⟩⟩
    refine ⟨opOK_rx [(1, none)] (by kernel_rfl) rfl ?_, ?_⟩
    · intro act w' hw' h1
      have hk : ∀ v, act.eval (.const v) = v := fun _ => rfl
      have hf : ∀ f, act.eval (.func f) = .func (.func f) #[] #[] := fun _ => rfl
      generalize act.eval = ρ at *
      replace h1 : ρ (.tmp 1) = .pointer (some ⟨w.heap.size, 0, none⟩) := h1
      refine gx_gen (fun K hK => ?_)
      obtain ⟨hc, hf'⟩ := bcell (bdrewn hw'.out)
      go_simp
      exact hK _ _ ⟨rfl, Gr.refl _⟩
    refine ⟨opOK_rx [(10, some 6)] (by kernel_rfl) rfl ?_, ?_⟩
    · intro act w' hw' h1
      have hk : ∀ v, act.eval (.const v) = v := fun _ => rfl
      have hf : ∀ f, act.eval (.func f) = .func (.func f) #[] #[] := fun _ => rfl
      generalize act.eval = ρ at *
      replace h1 : ρ (.tmp 10) = .pointer (some ⟨w.heap.size, 1, none⟩) := h1
      refine gx_gen (fun K hK => ?_)
      obtain ⟨hc, hf'⟩ := bcell (bdrewn hw'.out)
      go_simp
      exact hK _ _ ⟨rfl, Gr.refl _⟩
    refine ⟨opOK_rx [(1, none)] (by kernel_rfl) rfl ?_, ?_⟩
    · intro act w' hw' h1
      have hk : ∀ v, act.eval (.const v) = v := fun _ => rfl
      have hf : ∀ f, act.eval (.func f) = .func (.func f) #[] #[] := fun _ => rfl
      generalize act.eval = ρ at *
      replace h1 : ρ (.tmp 1) = .pointer (some ⟨w.heap.size, 0, none⟩) := h1
      refine gx_gen (fun K hK => ?_)
      obtain ⟨hc, hf'⟩ := bcell (bdrewn hw'.out)
      go_simp
      exact hK _ _ ⟨rfl, Gr.refl _⟩
    refine ⟨opOK_rx [(12, some 8)] (by kernel_rfl) rfl ?_, ?_⟩
    · intro act w' hw' h1
      have hk : ∀ v, act.eval (.const v) = v := fun _ => rfl
      have hf : ∀ f, act.eval (.func f) = .func (.func f) #[] #[] := fun _ => rfl
      generalize act.eval = ρ at *
      replace h1 : ρ (.tmp 12) = .agg #[.slice A1 L1.length c1, .slice A2 L2.length c2, .slice A3 L3.length c3] := h1
      refine gx_gen (fun K hK => ?_)
      obtain ⟨hc, hf'⟩ := bcell (bdrewn hw'.out)
      go_simp
      (with_reducible refine (rowSpans_v A1 A2 A3 c1 L1.length c2 L2.length c3 L3 _ (HV3.out.keep (bdrewn hw'.out)) hl8 HSM.out).mono ?_); rintro e w1 ⟨⟨v, rfl, hr1⟩, hb1⟩; exact ⟨_, rfl, hK _ _ ⟨hr1, hb1⟩⟩
    refine ⟨opOK_rx [(11, some 7), (13, some 9)] (by kernel_rfl) rfl ?_, ?_⟩
    · intro act w' hw' h1 h2
      have hk : ∀ v, act.eval (.const v) = v := fun _ => rfl
      have hf : ∀ f, act.eval (.func f) = .func (.func f) #[] #[] := fun _ => rfl
      generalize act.eval = ρ at *
      replace h1 : ρ (.tmp 11) = .slice A2 L2.length c2 := h1
      replace h2 : (fun v w => SpR w v (L3.map dnM)) (ρ (.tmp 13)) w' := h2
      refine gx_gen (fun K hK => ?_)
      obtain ⟨hc, hf'⟩ := bcell (bdrewn hw'.out)
      go_simp
      obtain ⟨A, c, e, hs⟩ := h2; rw [e]; (with_reducible refine (wished_v A2 c2 L2 A c (L3.map dnM) _ (HV2.out.keep (bdrewn hw'.out)) HS2.out hs HK2.out k2).mono ?_); rintro e w1 ⟨⟨g, cap, rfl, _, hr1⟩, hb1⟩; exact ⟨_, rfl, hK _ _ ⟨⟨_, _, rfl, hr1.nv⟩, hb1⟩⟩
    refine ⟨opOK_rx [(14, some 10)] (by kernel_rfl) rfl ?_, ?_⟩
    · intro act w' hw' h1
      have hk : ∀ v, act.eval (.const v) = v := fun _ => rfl
      have hf : ∀ f, act.eval (.func f) = .func (.func f) #[] #[] := fun _ => rfl
      generalize act.eval = ρ at *
      replace h1 : (fun v w => NRz w v L2.length (wishM L2 (L3.map dnM))) (ρ (.tmp 14)) w' := h1
      refine gx_gen (fun K hK => ?_)
      obtain ⟨hc, hf'⟩ := bcell (bdrewn hw'.out)
      go_simp
      obtain ⟨A, c, e, hs⟩ := h1; rw [e]; (with_reducible refine (total_b A c L2.length _ _ hs HL2.out.symm (by rw [← HL2.out]; omega) HM2.out).mono ?_); rintro e w1 ⟨rfl, hb1⟩; exact ⟨_, rfl, hK _ _ ⟨rfl, hb1⟩⟩
    refine ⟨opOK_rx [(9, some 5)] (by kernel_rfl) rfl ?_, ?_⟩
    · intro act w' hw' h1
      have hk : ∀ v, act.eval (.const v) = v := fun _ => rfl
      have hf : ∀ f, act.eval (.func f) = .func (.func f) #[] #[] := fun _ => rfl
      generalize act.eval = ρ at *
      replace h1 : ρ (.tmp 9) = .int .i64 (sumI (wishM L1 (L3.map acM))) := h1
      refine gx_gen (fun K hK => ?_)
      obtain ⟨hc, hf'⟩ := bcell (bdrewn hw'.out)
      go_simp
      exact hK _ _ ⟨rfl, Gr.refl _⟩
    refine ⟨opOK_rx [(15, some 11)] (by kernel_rfl) rfl ?_, ?_⟩
    · intro act w' hw' h1
      have hk : ∀ v, act.eval (.const v) = v := fun _ => rfl
      have hf : ∀ f, act.eval (.func f) = .func (.func f) #[] #[] := fun _ => rfl
      generalize act.eval = ρ at *
      replace h1 : ρ (.tmp 15) = .int .i64 (sumI (wishM L2 (L3.map dnM))) := h1
      refine gx_gen (fun K hK => ?_)
      obtain ⟨hc, hf'⟩ := bcell (bdrewn hw'.out)
      go_simp
      exact hK _ _ ⟨rfl, Gr.refl _⟩
    exact trivial
  case hfin =>
    intro w1 hg1
    intro v4 t4
    replace t4 : v4 = .pointer (some ⟨w.heap.size, 0, none⟩) := t4
    subst t4
    intro v5 t5
    replace t5 : v5 = .slice A1 L1.length c1 := t5
    subst t5
    intro v6 t6
    replace t6 : v6 = .agg #[.slice A1 L1.length c1, .slice A2 L2.length c2, .slice A3 L3.length c3] := t6
    subst t6
    intro v7 t7
    replace t7 : (fun v w => SpR w v (L3.map acM)) v7 w1 := t7
    intro v8 t8
    replace t8 : (fun v w => NRz w v L1.length (wishM L1 (L3.map acM))) v8 w1 := t8
    intro v9 t9
    replace t9 : v9 = .int .i64 (sumI (wishM L1 (L3.map acM))) := t9
    subst t9
    intro v10 t10
    replace t10 : v10 = .pointer (some ⟨w.heap.size, 1, none⟩) := t10
    subst t10
    intro v11 t11
    replace t11 : v11 = .slice A2 L2.length c2 := t11
    subst t11
    intro v12 t12
    replace t12 : v12 = .agg #[.slice A1 L1.length c1, .slice A2 L2.length c2, .slice A3 L3.length c3] := t12
    subst t12
    intro v13 t13
    replace t13 : (fun v w => SpR w v (L3.map dnM)) v13 w1 := t13
    intro v14 t14
    replace t14 : (fun v w => NRz w v L2.length (wishM L2 (L3.map dnM))) v14 w1 := t14
    intro v15 t15
    replace t15 : v15 = .int .i64 (sumI (wishM L2 (L3.map dnM))) := t15
    subst t15
    intro v2 t2
    replace t2 : v2 = .int .i64 (sumI (wishM L1 (L3.map acM))) := t2
    subst t2
    intro v3 t3
    replace t3 : v3 = .int .i64 (sumI (wishM L2 (L3.map dnM))) := t3
    subst t3
    have hb1 := bdrewn hg1.out
    clear hg1
    simp only [finP, Act.put, List.setIfInBounds_toArray, List.set_cons_succ, List.set_cons_zero]
    clear t7 t8 t13 t14 d0 d1 d2 lx
    replace HX := Lib.hid ((hb1.block _ (Array.getElem?_eq_some_iff.1 HX.out).1).trans HX.out)
    replace HB := Lib.hid (bkeep2 HB.out hb1)
    clear hb1
    go_wp2
    exact bodyPost_ret (v := .tuple #[.int .i64 (sumI (wishM L1 (L3.map acM))), .int .i64 (sumI (wishM L2 (L3.map dnM)))]) (by simp only [results, Try.results61]; go_simp) rfl ⟨rfl, HB.out⟩
/-- what a grid asks for -/
def gqM (L1 L2 : List Ln) (L3 : List Ce) : Int × Int := if gridB L1 L2 L3 = true then (sumI (wishM L1 (L3.map acM)), sumI (wishM L2 (L3.map dnM))) else (-1, -1)
theorem gq_bd (L1 L2 : List Ln) (L3 : List Ce) : (-1 ≤ (gqM L1 L2 L3).1 ∧ (gqM L1 L2 L3).1 ≤ 2150) ∧ (-1 ≤ (gqM L1 L2 L3).2 ∧ (gqM L1 L2 L3).2 ≤ 2150) := by
  unfold gqM
  split
  · rename_i hg
    obtain ⟨v1, v2, hl8, hsm, hs1, hs2⟩ := gridB_yes hg
    have h1 := wish_ok v1 hs1
    have h2 := wish_ok v2 hs2
    simp only
    omega
  · simp
set_option maxRecDepth 100000 in
theorem GridRequest_v (A1 : Option Addr) (c1 : Nat) (L1 : List Ln) (A2 : Option Addr) (c2 : Nat) (L2 : List Ln) (A3 : Option Addr) (c3 : Nat) (L3 : List Ce) (w : World) (h1 : LnV w A1 L1) (h2 : LnV w A2 L2) (h3 : CeV w A3 L3) (k1 : L1.length ≤ 1048576) (k2 : L2.length ≤ 1048576) (k3 : L3.length ≤ 1048576) :
    Calls Try.prog 13 #[.agg #[.slice A1 L1.length c1, .slice A2 L2.length c2, .slice A3 L3.length c3]] w fun e w' => e = .returned (.tuple #[.int .i64 (gqM L1 L2 L3).1, .int .i64 (gqM L1 L2 L3).2]) ∧ Below w.heap.size w w' := by
  have hB0 : Below w.heap.size w (w.alloc (.cells #[.slice A1 L1.length c1, .slice A2 L2.length c2, .slice A3 L3.length c3] 26 (0, 0))) := balloc (Below.refl _ _)
  have HX := Lib.hid (newS w (.cells #[.slice A1 L1.length c1, .slice A2 L2.length c2, .slice A3 L3.length c3] 26 (0, 0)))
  have HV1 := Lib.hid (h1.keep hB0)
  have HV2 := Lib.hid (h2.keep hB0)
  have HV3 := Lib.hid (h3.keep hB0)
  have HB := Lib.hid hB0
  clear hB0 h1 h2 h3
  cases ht : gridB L1 L2 L3
  · rw [show gqM L1 L2 L3 = (-1, -1) by simp [gqM, ht]]
    go_enter Try.func13, Try.ntmps13
    go_wp2_with fail
    with_reducible refine (validGrid_v A1 c1 L1 A2 c2 L2 A3 c3 L3 false _ HV1.out HV2.out HV3.out k1 k2 k3 ht).mono ?_
    rintro e w1 ⟨rfl, hb⟩
    replace HX := Lib.hid ((hb.block _ (Array.getElem?_eq_some_iff.1 HX.out).1).trans HX.out)
    replace HB := Lib.hid (bkeep2 HB.out hb)
    clear hb
    clear ht
    go_wp2
    exact bodyPost_ret (v := .tuple #[.int .i64 (-1), .int .i64 (-1)]) (by simp only [results, Try.results13]; go_simp) rfl ⟨rfl, HB.out⟩
  · rw [show gqM L1 L2 L3 = (sumI (wishM L1 (L3.map acM)), sumI (wishM L2 (L3.map dnM))) by simp [gqM, ht]]
    go_enter Try.func13, Try.ntmps13
    go_wp2_with fail
    with_reducible refine (validGrid_v A1 c1 L1 A2 c2 L2 A3 c3 L3 true _ HV1.out HV2.out HV3.out k1 k2 k3 ht).mono ?_
    rintro e w1 ⟨rfl, hb⟩
    replace HX := Lib.hid ((hb.block _ (Array.getElem?_eq_some_iff.1 HX.out).1).trans HX.out)
    replace HV1 := Lib.hid (HV1.out.keep hb)
    replace HV2 := Lib.hid (HV2.out.keep hb)
    replace HV3 := Lib.hid (HV3.out.keep hb)
    replace HB := Lib.hid (bkeep2 HB.out hb)
    clear hb
    have HT := Lib.hid ht
    clear ht
    have d0 := cellS HX.out 0
    have d1 := cellS HX.out 1
    have d2 := cellS HX.out 2
    go_wp2_with fail
    with_reducible refine (gridRequest_v A1 c1 L1 A2 c2 L2 A3 c3 L3 _ HV1.out HV2.out HV3.out HT.out).mono ?_
    rintro e w2 ⟨rfl, hb⟩
    clear d0 d1 d2
    replace HX := Lib.hid ((hb.block _ (Array.getElem?_eq_some_iff.1 HX.out).1).trans HX.out)
    replace HB := Lib.hid (bkeep2 HB.out hb)
    clear hb
    go_wp2
    exact bodyPost_ret (v := .tuple #[.int .i64 (sumI (wishM L1 (L3.map acM))), .int .i64 (sumI (wishM L2 (L3.map dnM)))]) (by simp only [results, Try.results13]; go_simp) rfl ⟨rfl, HB.out⟩
set_option maxRecDepth 100000 in
theorem sGridRequest_v (A1 : Option Addr) (c1 : Nat) (L1 : List Ln) (A2 : Option Addr) (c2 : Nat) (L2 : List Ln) (A3 : Option Addr) (c3 : Nat) (L3 : List Ce) (w : World) (h1 : LnV w A1 L1) (h2 : LnV w A2 L2) (h3 : CeV w A3 L3) (k1 : L1.length ≤ 1048576) (k2 : L2.length ≤ 1048576) (k3 : L3.length ≤ 1048576) (q1 : L1.length ≤ c1) (q2 : L2.length ≤ c2) :
    Calls Try.prog 29 #[.agg #[.slice A1 L1.length c1, .slice A2 L2.length c2, .slice A3 L3.length c3]] w fun e w' => e = .returned (.tuple #[.int .i64 (gqM L1 L2 L3).1, .int .i64 (gqM L1 L2 L3).2]) ∧ Below w.heap.size w w' := by
  have hB0 : Below w.heap.size w (w.alloc (.cells #[.slice A1 L1.length c1, .slice A2 L2.length c2, .slice A3 L3.length c3] 26 (0, 0))) := balloc (Below.refl _ _)
  have HX := Lib.hid (newS w (.cells #[.slice A1 L1.length c1, .slice A2 L2.length c2, .slice A3 L3.length c3] 26 (0, 0)))
  have HV1 := Lib.hid (h1.keep hB0)
  have HV2 := Lib.hid (h2.keep hB0)
  have HV3 := Lib.hid (h3.keep hB0)
  have HB := Lib.hid hB0
  clear hB0 h1 h2 h3
  cases ht : gridB L1 L2 L3
  · rw [show gqM L1 L2 L3 = (-1, -1) by simp [gqM, ht]]
    go_enter Try.func29, Try.ntmps29
    go_wp2_with fail
    with_reducible refine (svalidGrid_v A1 c1 L1 A2 c2 L2 A3 c3 L3 false _ HV1.out HV2.out HV3.out k1 k2 k3 ht).mono ?_
    rintro e w1 ⟨rfl, hb⟩
    replace HX := Lib.hid ((hb.block _ (Array.getElem?_eq_some_iff.1 HX.out).1).trans HX.out)
    replace HB := Lib.hid (bkeep2 HB.out hb)
    clear hb
    clear ht
    go_wp2
    exact bodyPost_ret (v := .tuple #[.int .i64 (-1), .int .i64 (-1)]) (by simp only [results, Try.results29]; go_simp) rfl ⟨rfl, HB.out⟩
  · rw [show gqM L1 L2 L3 = (sumI (wishM L1 (L3.map acM)), sumI (wishM L2 (L3.map dnM))) by simp [gqM, ht]]
    go_enter Try.func29, Try.ntmps29
    go_wp2_with fail
    with_reducible refine (svalidGrid_v A1 c1 L1 A2 c2 L2 A3 c3 L3 true _ HV1.out HV2.out HV3.out k1 k2 k3 ht).mono ?_
    rintro e w1 ⟨rfl, hb⟩
    replace HX := Lib.hid ((hb.block _ (Array.getElem?_eq_some_iff.1 HX.out).1).trans HX.out)
    replace HV1 := Lib.hid (HV1.out.keep hb)
    replace HV2 := Lib.hid (HV2.out.keep hb)
    replace HV3 := Lib.hid (HV3.out.keep hb)
    replace HB := Lib.hid (bkeep2 HB.out hb)
    clear hb
    have HT := Lib.hid ht
    clear ht
    have d0 := cellS HX.out 0
    have d1 := cellS HX.out 1
    have d2 := cellS HX.out 2
    go_wp2_with fail
    with_reducible refine (sgridRequest_v A1 c1 L1 A2 c2 L2 A3 c3 L3 _ HV1.out HV2.out HV3.out HT.out q1 q2).mono ?_
    rintro e w2 ⟨rfl, hb⟩
    clear d0 d1 d2
    replace HX := Lib.hid ((hb.block _ (Array.getElem?_eq_some_iff.1 HX.out).1).trans HX.out)
    replace HB := Lib.hid (bkeep2 HB.out hb)
    clear hb
    go_wp2
    exact bodyPost_ret (v := .tuple #[.int .i64 (sumI (wishM L1 (L3.map acM))), .int .i64 (sumI (wishM L2 (L3.map dnM)))]) (by simp only [results, Try.results29]; go_simp) rfl ⟨rfl, HB.out⟩
end Go.Proofs.Ytikndbinlpmgaaa
end
section
namespace Go.Proofs.Ytikndbinlpmgaaa
set_option linter.unusedVariables false
theorem takZ_at : ∀ {L : List Ln} {O P : List Int} {i : Nat} {l : Ln} {o p : Int}, L[i]? = some l → O[i]? = some o → P[i]? = some p → (takZ L O P)[i]? = some (o - mn p (o - l.mi))
  | l' :: L, o' :: O, p' :: P, 0, l, o, p, hl, ho, hp => by
    simp only [List.getElem?_cons_zero, Option.some.injEq] at hl ho hp
    subst hl ho hp
    simp [takZ]
  | l' :: L, o' :: O, p' :: P, i + 1, l, o, p, hl, ho, hp => by
    simp only [List.getElem?_cons_succ] at hl ho hp
    simp only [takZ, List.getElem?_cons_succ]
    exact takZ_at hl ho hp
  | [], _, _, i, l, o, p, hl, _, _ => by simp at hl
  | _ :: _, [], _, i, l, o, p, _, ho, _ => by simp at ho
  | _ :: _, _ :: _, [], i, l, o, p, _, _, hp => by simp at hp
theorem takZ_sum : ∀ (L : List Ln) (O P : List Int), sumI (takZ L O P) = sumI O - tknZ L O P
  | l :: L, o :: O, p :: P => by simp only [takZ, tknZ, sumI, takZ_sum L O P]; omega
  | [], O, P => by simp [takZ, tknZ]
  | l :: L, [], P => by simp [takZ, tknZ]
  | l :: L, o :: O, [] => by simp [takZ, tknZ]
theorem shr_all {L : List Ln} (hL : linesB L = true) : ∀ (f : Nat) (n : Int) (O : List Int), n.toNat ≤ f → 0 ≤ n → SOK L O →
    SOK L (shrZ L n O) ∧ (∀ (i : Nat) (l : Ln) (o r : Int), L[i]? = some l → O[i]? = some o → (shrZ L n O)[i]? = some r → r ≤ o ∧ (l.wt = 0 → r = o)) ∧ sumI (shrZ L n O) ≤ sumI O ∧ sumI O - n ≤ sumI (shrZ L n O) ∧ (sumI (shrZ L n O) = sumI O - n ∨ sumI (wtZ L (shrZ L n O)) = 0)
  | 0, n, O, hf, hn, h => by
    obtain rfl : n = 0 := by omega
    rw [shr_end (.inl (by omega))]
    exact ⟨h, fun i l o r _ h1 h2 => by rw [h1] at h2; obtain rfl := Option.some.inj h2; exact ⟨Int.le_refl _, fun _ => rfl⟩, Int.le_refl _, by omega, .inl (by omega)⟩
  | f + 1, n, O, hf, hn, h => by
    by_cases h0 : 0 < n ∧ sumI (wtZ L O) ≠ 0
    · obtain ⟨hp0, hs⟩ := h0
      obtain ⟨hp, ht0, htn, hk⟩ := round_ok hL h hp0 hs
      rw [shr_go hL h hp0 hs]
      have hw := wtZ_ok hL h
      have hs0 : 0 < sumI (wtZ L O) := by have := hw.sum; omega
      have hsum := takZ_sum L O (spreadM n (wtZ L O))
      obtain ⟨a1, a2, a3, a4, a5⟩ := shr_all hL f (n - tknZ L O (spreadM n (wtZ L O))) (takZ L O (spreadM n (wtZ L O))) (by omega) (by omega) hk
      refine ⟨a1, fun i l o r h1 h2 h3 => ?_, by omega, by omega, ?_⟩
      · obtain ⟨y, e1, y0, y1, e2⟩ := spread_get (n := n) (by omega) hw (wtZ_get h1 h2)
        have := takZ_at h1 h2 e1
        have hr := a2 i l _ r h1 this h3
        have hmi := (h.get h1 h2).1
        have hm := mn_spec y (o - l.mi)
        refine ⟨by omega, fun hw0 => ?_⟩
        have h4 := (e2 hs0).1 (by rw [hw0]; simp)
        have := hr.2 hw0
        subst h4
        omega
      · rcases a5 with a5 | a5
        · exact .inl (by omega)
        · exact .inr a5
    · have he : shrZ L n O = O := shr_end (by omega)
      rw [he]
      refine ⟨h, fun i l o r _ h1 h2 => by rw [h1] at h2; obtain rfl := Option.some.inj h2; exact ⟨Int.le_refl _, fun _ => rfl⟩, Int.le_refl _, by omega, ?_⟩
      by_cases hp0 : 0 < n
      · exact .inr (by omega)
      · exact .inl (by omega)
theorem addP_at : ∀ {O P : List Int} {i : Nat} {o p : Int}, O[i]? = some o → P[i]? = some p → (addP O P)[i]? = some (o + p)
  | o' :: O, p' :: P, 0, o, p, h, hp => by
    simp only [List.getElem?_cons_zero, Option.some.injEq] at h hp
    subst h hp
    simp [addP]
  | o' :: O, p' :: P, i + 1, o, p, h, hp => by
    simp only [List.getElem?_cons_succ] at h hp
    simp only [addP, List.getElem?_cons_succ]
    exact addP_at h hp
  | [], P, i, o, p, h, _ => by simp at h
  | o' :: O, [], i, o, p, _, hp => by simp at hp
theorem addAt0 (O P : List Int) : addAt O 0 P = addP O P := by simp [addAt]
theorem linesB_get {L : List Ln} (hL : linesB L = true) {l : Ln} (hl : l ∈ L) : (0 ≤ l.wt ∧ l.wt ≤ 5) ∧ (0 ≤ l.mi ∧ l.mi ≤ 30) := by
  obtain ⟨h1, h2⟩ := min_bd hL
  refine ⟨h2.1 _ (List.mem_map_of_mem hl), ?_⟩
  simp only [linesB, Bool.and_eq_true, List.all_eq_true] at hL
  have := hL.2 l hl
  simp only [lineB, Bool.and_eq_true, rng_iff] at this
  exact this.2
/-- the sizes of lines in a room -/
theorem sized_ok {L : List Ln} {S : List Sp} {room : Int} (hL : linesB L = true) (hS : spansB L.length S = true) (hr0 : 0 ≤ room) (hr1 : room ≤ 400) :
    SOK L (sizedM L S room) ∧ (sizedM L S room).length = L.length ∧ (∀ x ∈ sizedM L S room, 0 ≤ x ∧ x ≤ 1000000) ∧ sumI (sizedM L S room) ≤ 2150 := by
  obtain ⟨k1, k2, k3, k4, k5⟩ := wish_ok hL hS
  have key : SOK L (sizedM L S room) ∧ sumI (sizedM L S room) ≤ 2150 := by
    unfold sizedM
    split
    · obtain ⟨a1, a2, a3, a4, a5⟩ := shr_all hL _ (-(room - sumI (wishM L S))) (wishM L S) (Nat.le_refl _) (by omega) k1
      exact ⟨a1, by omega⟩
    · split
      · exact ⟨k1, k5⟩
      · obtain ⟨hO, hW⟩ := min_bd hL
        have hn : 0 ≤ room - sumI (wishM L S) := by omega
        have hsum := spread_sum hn hW
        have hnn := spread_nn hn hW
        have hlen : (spreadM (room - sumI (wishM L S)) (L.map Ln.wt)).length = L.length := by rw [spreadM_len, List.length_map]
        have hs := sum_addAt (O := wishM L S) (P := spreadM (room - sumI (wishM L S)) (L.map Ln.wt)) (k := 0) (by omega)
        have hmi : MI L (addAt (wishM L S) 0 (spreadM (room - sumI (wishM L S)) (L.map Ln.wt))) := MI.add (fun i l o h1 h2 => (k1.get h1 h2).1) hnn
        have hx0 := nn_addAt (k := 0) (fun x hx => (k3 x hx).1) hnn
        have hx1 := mem_le_sum hx0
        refine ⟨SOK.of (by rw [addAt_len]; exact k2) hmi (fun x hx => by have := hx1 x hx; omega), by omega⟩
  refine ⟨key.1, key.1.len, fun x hx => ?_, key.2⟩
  obtain ⟨i, hi, e⟩ := List.mem_iff_getElem.1 hx
  have hl : i < L.length := by rw [← key.1.len]; exact hi
  have := key.1.get (List.getElem?_eq_getElem hl) (by rw [List.getElem?_eq_getElem hi, e])
  have := (linesB_get hL (List.getElem_mem hl)).2
  omega
theorem sized_smal {L : List Ln} {S : List Sp} {room : Int} (hL : linesB L = true) (hS : spansB L.length S = true) (hr0 : 0 ≤ room) (hr1 : room ≤ 400) : Smal 1000000000 (sizedM L S room) ∧ (sizedM L S room).length ≤ 5 := by
  obtain ⟨-, hl, hx, -⟩ := sized_ok hL hS hr0 hr1
  have h5 := (linesB_len hL).2
  refine ⟨smal_of (b := 1000000) (fun x h => ⟨by have := (hx x h).1; omega, (hx x h).2⟩) (by omega) ?_, by omega⟩
  rw [hl]; omega
/-- where each line begins, up to one of them -/
def edP (S : List Int) (k : Nat) : List Int := (List.range (S.length + 1)).map fun i => if i ≤ k then sumI (S.take i) else 0
def edL (S : List Int) : List Int := (List.range (S.length + 1)).map fun i => sumI (S.take i)
theorem edP_len (S : List Int) (k : Nat) : (edP S k).length = S.length + 1 := by simp [edP]
theorem edL_len (S : List Int) : (edL S).length = S.length + 1 := by simp [edL]
theorem edP_zero (S : List Int) : List.replicate (S.length + 1) 0 = edP S 0 := by
  apply List.ext_getElem
  · simp [edP]
  · intro i h1 h2
    simp only [edP, List.getElem_map, List.getElem_range, List.getElem_replicate]
    split
    · rename_i h
      obtain rfl : i = 0 := by omega
      simp [sumI]
    · rfl
theorem edP_end (S : List Int) : edP S S.length = edL S := by
  apply List.ext_getElem
  · simp [edP, edL]
  · intro i h1 h2
    simp only [edP, edL, List.getElem_map, List.getElem_range]
    rw [if_pos]
    simp [edP] at h1
    omega
theorem edP_get {S : List Int} {k i : Nat} (hi : i ≤ S.length) : (edP S k)[i]? = some (if i ≤ k then sumI (S.take i) else 0) := by
  rw [List.getElem?_eq_getElem (by rw [edP_len]; omega)]
  simp [edP]
theorem edL_get {S : List Int} {i : Nat} (hi : i ≤ S.length) : (edL S)[i]? = some (sumI (S.take i)) := by
  rw [List.getElem?_eq_getElem (by rw [edL_len]; omega)]
  simp [edL]
theorem edP_set {S : List Int} {k : Nat} (hk : k < S.length) : (edP S k).set (k + 1) (sumI (S.take (k + 1))) = edP S (k + 1) := by
  apply List.ext_getElem
  · simp [edP]
  · intro i h1 h2
    rw [List.getElem_set]
    simp only [edP, List.getElem_map, List.getElem_range]
    split
    · rename_i h
      subst h
      rw [if_pos (Nat.le_refl _)]
    · rename_i h
      by_cases h3 : i ≤ k
      · rw [if_pos h3, if_pos (by omega)]
      · rw [if_neg h3, if_neg (by omega)]
/-- the line in which a place lies, told from the one that begins at a place -/
def lnAt : List Int → Int → Int → Int → Int
  | [], _, _, _ => -1
  | s :: t, a, p, i => if a ≤ p ∧ p < a + s then i else lnAt t (a + s) p (i + 1)
def lineM (S : List Int) (p : Int) : Int := lnAt S 0 p 0
theorem lnAt_bd : ∀ (S : List Int) (a p i : Int), 0 ≤ i → -1 ≤ lnAt S a p i ∧ lnAt S a p i < i + S.length ∨ lnAt S a p i = -1
  | [], a, p, i, h => by simp [lnAt]
  | s :: t, a, p, i, h => by
    unfold lnAt
    split
    · simp only [List.length_cons]; omega
    · rcases lnAt_bd t (a + s) p (i + 1) (by omega) with h1 | h1
      · simp only [List.length_cons]; omega
      · exact .inr h1
theorem lnAt_drop {S : List Int} {k : Nat} {s p R : Int} (hs : S[k]? = some s) (h : lnAt (S.drop k) (sumI (S.take k)) p k = R) :
    (sumI (S.take k) ≤ p ∧ p < sumI (S.take k) + s → R = k) ∧ (¬ (sumI (S.take k) ≤ p ∧ p < sumI (S.take k) + s) → lnAt (S.drop (k + 1)) (sumI (S.take (k + 1))) p ((k + 1 : Nat) : Int) = R) := by
  obtain ⟨hk, e⟩ := List.getElem?_eq_some_iff.1 hs
  rw [List.drop_eq_getElem_cons hk, e, lnAt] at h
  rw [sumI_snoc hs]
  constructor
  · intro hc; rw [if_pos hc] at h; exact h.symm
  · intro hc; rw [if_neg hc] at h; rw [← h]; rfl
theorem lnAt_done {S : List Int} {k : Nat} {p R : Int} (hk : S.length ≤ k) (h : lnAt (S.drop k) (sumI (S.take k)) p k = R) : R = -1 := by
  rw [List.drop_eq_nil_of_le hk, lnAt] at h
  exact h.symm
end Go.Proofs.Ytikndbinlpmgaaa
end
section
namespace Go.Proofs.Ytikndbinlpmgaaa
open Go.RowKit
set_option linter.unusedVariables false
set_option maxHeartbeats 1000000
attribute [local go_sem] growUpon_value growUpon_skip growUpon_enter
attribute [local go_sem] givesUpon_value givesUpon_skip givesUpon_enter
theorem nopan_normal {Q : Exit → Act → World → Prop} {a : Act} {w : World} (h : Q .normal a w) : NoPan Q .normal a w := h
set_option maxRecDepth 100000 in
theorem edgesOf_v (A : Option Addr) (c n : Nat) (S : List Int) (w : World) (h : NV w A S) (hn : n = S.length) (h5 : S.length ≤ 5) (hM : Smal 1000000000 S) :
    Calls Try.prog 84 #[.slice A n c] w fun e w' => e = .returned (.slice (some ⟨w.heap.size, 0, none⟩) (n + 1) (n + 1)) ∧ IB w' w.heap.size (edL S) ∧ Below w.heap.size w w' := by
  have hmk : ∀ w : World, (Instr.makeSlice 68 (.int .i64 ((n : Int) + 1)) (.int .i64 ((n : Int) + 1))).run Try.prog w = .ok (.slice (some ⟨w.heap.size, 0, none⟩) (n + 1) (n + 1)) (w.alloc (.cells (ivals (List.replicate (n + 1) 0)) 3)) := fun w => madeI (n + 1) w (by omega)
  have HM := Lib.hid hM
  subst hn
  have hi0 : IB (w.alloc (.cells (ivals (List.replicate (S.length + 1) 0)) 3)) w.heap.size (edP S 0) := by rw [← edP_zero]; exact makeI_b _ w
  have HI := Lib.hid hi0
  have HB := Lib.hid (balloc (o := (.cells (ivals (List.replicate (S.length + 1) 0)) 3)) (Below.refl w.heap.size w))
  have HH := Lib.hid h
  clear hM hi0 h
  obtain ⟨n, hn⟩ : ∃ n, S.length = n := ⟨_, rfl⟩
  rw [hn] at hmk h5
  have HN := Lib.hid hn
  rw [show S.length = n from hn]
  go_enter Try.func84, Try.ntmps84
  go_wp2_with fail
  go_loopw [11] (fun i wr => ∃ k : Nat, k ≤ n ∧ i = .int .i64 k ∧ IB wr w.heap.size (edP S k) ∧ Below w.heap.size w wr) (fun i _ => n - (intOf i).toNat)
  case atStart => exact ⟨0, by omega, rfl, by rw [← HN.out]; exact HI.out, by rw [← HN.out]; exact HB.out⟩
  case round =>
    obtain ⟨k, hk, rfl, hi, hB⟩ := hrel
    clear HI HB
    by_cases hlt : k < n
    · have hd : decide ((k : Int) < (n : Int)) = true := by simpa using hlt
      have hlS : k < S.length := by omega
      obtain ⟨b, off, rfl, hb, hp⟩ := (HH.out.keep hB).cells (by omega)
      have hget : S[k]? = some S[k] := List.getElem?_eq_getElem hlS
      have c0 := hp k _ hget
      have hs := sumI_snoc hget
      have b1 := HM.out k
      have b2 := HM.out (k + 1)
      rw [hs] at b2
      have hset := hi.set (k + 1) (sumI (S.take (k + 1)))
      rw [edP_set hlS, hs] at hset
      generalize S[k] = x at *
      have d0 := hi.cell (edP_get (S := S) (k := k) (i := k) (by omega))
      rw [if_pos (Nat.le_refl _)] at d0
      have d1 := hi.cell (edP_get (S := S) (k := k) (i := k + 1) (by omega))
      rw [if_neg (by omega)] at d1
      have f1 := hi.frozen (k + 1)
      obtain ⟨t, ht⟩ : ∃ t, sumI (S.take k) = t := ⟨_, rfl⟩
      rw [ht] at d0 b1 b2 hset
      have hlg := hi.lt
      have i1 : (k : Int) < (n : Int) + 1 := by omega
      have i2 : (k : Int) + 1 < (n : Int) + 1 := by omega
      have i3 : (0 : Int) ≤ (k : Int) + 1 := by omega
      have i4 : ((k : Int) + 1).toNat = k + 1 := by omega
      have m1 : IntKind.i64.wrap ((k : Int) + 1) = (k : Int) + 1 := IntWalk.i64_in _ (by omega)
      have m2 : IntKind.i64.wrap (t + x) = t + x := IntWalk.i64_in _ (by omega)
      have HI := Lib.hid hi
      have HB := Lib.hid hB
      have HT := Lib.hid (And.intro ht hs)
      clear hi hB hp hget ht hs hset hn
      go_wp2_with fail
      refine wp_region_grow 13 1 (· < 13) (by kernel_rfl) (by kernel_rfl) rfl ?_
      iterate 13 (refine wpG_step (fun K hK => ?_); first | (refine grow_skip rfl ?_; go_simp; refine hK _ ?_; clear hK K) | (apply Exists.intro; refine ⟨.inl ⟨rfl, fun w' hw' => ?_⟩, ?_⟩; (focus ((obtain ⟨hc, hf⟩ := bcell hw'.out); (have hcS := bcellS hw'.out); go_simp <;> first | rfl | fail)); (go_simp; refine hK _ ?_; clear hK K)))
      refine wpG_nil ?_
      refine wpK_tail (by kernel_rfl) (fun w8 hg8 => ?_)
      have hb8 := bdrewn hg8.out
      obtain ⟨hc8, hf8⟩ := bcell hb8
      refine wpAny_one (i := 13) (by kernel_rfl) rfl rfl ?_
      go_simp
      refine wpAny_end (by kernel_rfl) ?_
      refine nopan_normal ?_
      clear hc8 hf8
      clear hg8
      have hi2 := (HI.out.keep hb8).set (k + 1) (t + x)
      have e2 := edP_set hlS
      rw [HT.out.2, HT.out.1] at e2
      rw [e2] at hi2
      replace HI := Lib.hid hi2
      replace HB := Lib.hid ((bkeep2 HB.out hb8).setCell (p := ⟨w.heap.size, k + 1, none⟩) (Nat.le_refl _) (.int .i64 (t + x)))
      clear hi2 e2 hb8 c0 d0 d1 f1
      go_wp2
      go_roundw
      case rel => exact ⟨k + 1, by omega, by go_num, HI.out, HB.out⟩
      case measure => simp [intOf]; omega
    · have hd : decide ((k : Int) < (n : Int)) = false := decide_eq_false (by omega)
      obtain rfl : k = n := by omega
      rw [← HN.out, edP_end] at hi
      have HI := Lib.hid hi
      have HB := Lib.hid hB
      clear hi hB hn
      go_wp2
      go_ret
      exact ⟨rfl, HI.out, HB.out⟩
set_option maxRecDepth 100000 in
theorem lineAt_v (A : Option Addr) (c n : Nat) (S : List Int) (p : Int) (w : World) (h : NV w A (edL S)) (hn : n = S.length + 1) (h5 : S.length ≤ 5) :
    Calls Try.prog 42 #[.slice A n c, .int .i64 p] w fun e w' => e = .returned (.int .i64 (lineM S p)) ∧ Below w.heap.size w w' := by
  obtain ⟨R, hR⟩ : ∃ R, lineM S p = R := ⟨_, rfl⟩
  rw [hR]
  have HR0 := Lib.hid (show lnAt (S.drop 0) (sumI (S.take 0)) p ((0 : Nat) : Int) = R from hR)
  have HN := Lib.hid hn
  have hn6 : n ≤ 6 := by omega
  have hn1 : 1 ≤ n := by omega
  clear hn hR
  go_enter Try.func42, Try.ntmps42
  go_wp2_with fail
  go_loop [9] (fun i => ∃ k : Nat, k ≤ S.length ∧ i = .int .i64 k ∧ lnAt (S.drop k) (sumI (S.take k)) p k = R) (fun i => S.length - (intOf i).toNat)
  case atStart => exact ⟨0, by omega, rfl, HR0.out⟩
  case round =>
    obtain ⟨k, hk, rfl, hr⟩ := hrel
    clear HR0
    by_cases hlt : k < S.length
    · have hd : decide ((k : Int) < (n : Int) - 1) = true := by have := HN.out; simp; omega
      obtain ⟨b, off, rfl, hb, hp⟩ := h.cells (by rw [edL_len]; omega)
      have hget : S[k]? = some S[k] := List.getElem?_eq_getElem hlt
      obtain ⟨r1, r2⟩ := lnAt_drop hget hr
      have hs := sumI_snoc hget
      have c0 := hp k _ (edL_get (S := S) (i := k) (by omega))
      have c1 := hp (k + 1) _ (edL_get (S := S) (i := k + 1) (by omega))
      rw [hs] at c1
      generalize S[k] = x at *
      have R2 := Lib.hid r2
      have hkn : k + 1 < n := by have := HN.out; omega
      obtain ⟨t, ht⟩ : ∃ t, sumI (S.take k) = t := ⟨_, rfl⟩
      rw [ht] at c0 c1 r1
      have HT := Lib.hid ht
      clear hr hget hs r2 hp ht
      by_cases g1 : t ≤ p
      · by_cases g2 : p < t + x
        · have hrk := r1 ⟨g1, g2⟩
          subst hrk
          clear r1 R2
          go_wp2
          go_ret
          exact ⟨rfl, Below.refl _ _⟩
        · have HR2 := Lib.hid (R2.out (by rw [HT.out]; omega))
          clear r1 R2
          go_wp2
          go_round
          case rel => exact ⟨k + 1, by omega, by go_num, HR2.out⟩
          case measure => simp [intOf]; omega
      · have HR2 := Lib.hid (R2.out (by rw [HT.out]; omega))
        clear r1 R2
        go_wp2
        go_round
        case rel => exact ⟨k + 1, by omega, by go_num, HR2.out⟩
        case measure => simp [intOf]; omega
    · have hd : decide ((k : Int) < (n : Int) - 1) = false := by have := HN.out; simp; omega
      have := lnAt_done (by omega) hr
      subst this
      clear hr
      go_wp2
      go_ret
      exact ⟨rfl, Below.refl _ _⟩
set_option maxRecDepth 100000 in
theorem slineAt_v (A : Option Addr) (c n : Nat) (S : List Int) (p : Int) (w : World) (h : NV w A S) (hn : n = S.length) (h5 : S.length ≤ 5) (hM : Smal 1000000000 S) (hx0 : ∀ x ∈ S, 0 ≤ x) :
    Calls Try.prog 43 #[.slice A n c, .int .i64 p] w fun e w' => e = .returned (.int .i64 (lineM S p)) ∧ Below w.heap.size w w' := by
  obtain ⟨R, hR⟩ : ∃ R, lineM S p = R := ⟨_, rfl⟩
  rw [hR]
  have HR0 := Lib.hid (show lnAt (S.drop 0) (sumI (S.take 0)) p ((0 : Nat) : Int) = R from hR)
  have HN := Lib.hid hn
  have HM := Lib.hid hM
  have hn6 : n ≤ 6 := by omega
  clear hn hR hM
  go_enter Try.func43, Try.ntmps43
  go_wp2_with fail
  go_loop [5, 6] (fun a i => ∃ k : Nat, k ≤ S.length ∧ i = .int .i64 k ∧ a = .int .i64 (sumI (S.take k)) ∧ lnAt (S.drop k) (sumI (S.take k)) p k = R) (fun _ i => S.length - (intOf i).toNat)
  case atStart => exact ⟨0, by omega, rfl, rfl, HR0.out⟩
  case round =>
    obtain ⟨k, hk, rfl, rfl, hr⟩ := hrel
    clear HR0
    by_cases hlt : k < S.length
    · have hkn : k < n := by have := HN.out; omega
      have hd : decide ((k : Int) < (n : Int)) = true := by simpa using hkn
      obtain ⟨b, off, rfl, hb, hp⟩ := h.cells (by omega)
      have hget : S[k]? = some S[k] := List.getElem?_eq_getElem hlt
      obtain ⟨r1, r2⟩ := lnAt_drop hget hr
      have hs := sumI_snoc hget
      have c0 := hp k _ hget
      have b1 := HM.out k
      have b2 := HM.out (k + 1)
      rw [hs] at b2 r2
      generalize S[k] = x at *
      obtain ⟨t, ht⟩ : ∃ t, sumI (S.take k) = t := ⟨_, rfl⟩
      rw [ht] at b1 b2 r1 r2 hs
      rw [ht]
      have R2 := Lib.hid r2
      have HS := Lib.hid hs
      clear hr hget hs r2 hp ht
      by_cases g : t ≤ p ∧ p < t + x
      · have hg : rng p t (t + x - 1) = true := rng_iff.2 (by omega)
        have hrk := r1 g
        subst hrk
        clear r1 R2 g
        go_wp2_with fail
        with_reducible refine (inRange_any _ _ _ _).mono ?_
        rintro e w1 ⟨rfl, rfl⟩
        go_wp2
        go_ret
        exact ⟨rfl, Below.refl _ _⟩
      · have hg : rng p t (t + x - 1) = false := by
          cases hq : rng p t (t + x - 1)
          · rfl
          · exact absurd (rng_iff.1 hq) (by omega)
        have HR2 := Lib.hid (R2.out g)
        clear r1 R2 g
        go_wp2_with fail
        with_reducible refine (inRange_any _ _ _ _).mono ?_
        rintro e w1 ⟨rfl, rfl⟩
        go_wp2
        go_round
        case rel => exact ⟨k + 1, by omega, by go_num, by rw [HS.out], by rw [HS.out]; exact HR2.out⟩
        case measure => simp [intOf]; omega
    · have hkn : ¬ k < n := by have := HN.out; omega
      have hd : decide ((k : Int) < (n : Int)) = false := decide_eq_false (by omega)
      have := lnAt_done (by omega) hr
      subst this
      clear hr
      go_wp2
      go_ret
      exact ⟨rfl, Below.refl _ _⟩
end Go.Proofs.Ytikndbinlpmgaaa
end
