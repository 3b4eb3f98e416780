import Derived.Test.YtjdjahckdgbkbacQ12
section
namespace Go.Proofs.Ytjdjahckdgbkbac
open Go.RowKit
set_option linter.unusedVariables false
set_option maxHeartbeats 1000000
attribute [local go_sem] growUpon_value growUpon_skip growUpon_enter
attribute [local go_sem] givesUpon_value givesUpon_skip givesUpon_enter
def NRz (w : World) (v : Value) (n : Nat) (L : List Int) : Prop := ∃ A c, v = .slice A n c ∧ NV w A L
theorem NRz.keep {w w' : World} {v : Value} {n : Nat} {L : List Int} (h : NRz w v n L) (hb : Below w.heap.size w w') : NRz w' v n L := let ⟨A, c, e, q⟩ := h; ⟨A, c, e, q.keep hb⟩
set_option maxRecDepth 100000 in
theorem gridRequest_w (A1 : Option Addr) (c1 : Nat) (L1 : List Ln) (A2 : Option Addr) (c2 : Nat) (L2 : List Ln) (A3 : Option Addr) (c3 : Nat) (L3 : List Ce) (w : World) (h1 : LnV w A1 L1) (h2 : LnV w A2 L2) (h3 : CeV w A3 L3) (v1 : linesB L1 = true) (v2 : linesB L2 = true) (hl8 : L3.length ≤ 10) (hsm : ∀ p ∈ L3, smW p) (hs1 : spansW L1.length (L3.map acM)) (hs2 : spansW L2.length (L3.map dnM)) :
    Calls Try.prog 58 #[.agg #[.slice A1 L1.length c1, .slice A2 L2.length c2, .slice A3 L3.length c3]] w fun e w' => e = .returned (.tuple #[.int .i64 (sumI (wishM L1 (L3.map acM))), .int .i64 (sumI (wishM L2 (L3.map dnM)))]) ∧ Below w.heap.size w w' := by
  obtain ⟨m1, q1⟩ := wish_smalW v1 hs1
  obtain ⟨m2, q2⟩ := wish_smalW v2 hs2
  have n1 := (linesB_len v1).2
  have n2 := (linesB_len v2).2
  have hB0 : Below w.heap.size w (w.alloc (.cells #[.slice A1 L1.length c1, .slice A2 L2.length c2, .slice A3 L3.length c3] 45 (0, 0))) := balloc (Below.refl _ _)
  have hx0 := newS w (.cells #[.slice A1 L1.length c1, .slice A2 L2.length c2, .slice A3 L3.length c3] 45 (0, 0))
  have HV1 := Lib.hid (h1.keep hB0)
  have HV2 := Lib.hid (h2.keep hB0)
  have HV3 := Lib.hid (h3.keep hB0)
  have HX := Lib.hid hx0
  have HB := Lib.hid hB0
  have HS1 := Lib.hid v1
  have HS2 := Lib.hid v2
  have HM1 := Lib.hid m1
  have HM2 := Lib.hid m2
  have HSM := Lib.hid hsm
  have HK1 := Lib.hid hs1
  have HK2 := Lib.hid hs2
  have HL1 := Lib.hid q1
  have HL2 := Lib.hid q2
  clear hB0 hx0 h1 h2 h3 v1 v2 m1 m2 hsm hs1 hs2 q1 q2
  go_enter Try.func58, Try.ntmps58
  have d0 := cellS HX.out 0
  have d1 := cellS HX.out 1
  have d2 := cellS HX.out 2
  have lx := ltS HX.out
  go_wp2_with fail
  refine wp_region_rx (XV (.pointer (some ⟨w.heap.size, 0, none⟩)) :: XV (.slice A1 L1.length c1) :: XV (.pointer (some ⟨w.heap.size, 2, none⟩)) :: XV (.slice A3 L3.length c3) :: (fun v w => SpR w v (L3.map acM)) :: (fun v w => NRz w v L1.length (wishM L1 (L3.map acM))) :: (fun v w => NRz w v L1.length (wishM L1 (L3.map acM))) :: []) (by kernel_rfl) (by kernel_rfl) ?hTs ?hops ?hfin
  case hTs =>
    intro T hT
    simp only [List.mem_cons, List.not_mem_nil, or_false] at hT
    rcases hT with rfl | rfl | rfl | rfl | rfl | rfl | rfl <;> first | exact stay_V _ | exact stay_T | exact stay_of (fun v a b x g => x.keep g) | exact stay_of (fun v a b x g => x)
  case hops =>
    refine ⟨opOK_rx [(1, none)] (by kernel_rfl) rfl ?_, ?_⟩
    · intro act w' hw' h1
      have hk : ∀ v, act.eval (.const v) = v := fun _ => rfl
      have hf : ∀ f, act.eval (.func f) = .func (.func f) #[] #[] := fun _ => rfl
      generalize act.eval = ρ at *
      replace h1 : ρ (.tmp 1) = .pointer (some ⟨w.heap.size, 0, none⟩) := h1
      refine gx_gen (fun K hK => ?_)
      obtain ⟨hc, hf'⟩ := bcell (bdrewn hw'.out)
      go_simp
      exact hK _ _ ⟨rfl, Gr.refl _⟩
    refine ⟨opOK_rx [(6, some 0)] (by kernel_rfl) rfl ?_, ?_⟩
    · intro act w' hw' h1
      have hk : ∀ v, act.eval (.const v) = v := fun _ => rfl
      have hf : ∀ f, act.eval (.func f) = .func (.func f) #[] #[] := fun _ => rfl
      generalize act.eval = ρ at *
      replace h1 : ρ (.tmp 6) = .pointer (some ⟨w.heap.size, 0, none⟩) := h1
      refine gx_gen (fun K hK => ?_)
      obtain ⟨hc, hf'⟩ := bcell (bdrewn hw'.out)
      go_simp
      exact hK _ _ ⟨rfl, Gr.refl _⟩
    refine ⟨opOK_rx [(1, none)] (by kernel_rfl) rfl ?_, ?_⟩
    · intro act w' hw' h1
      have hk : ∀ v, act.eval (.const v) = v := fun _ => rfl
      have hf : ∀ f, act.eval (.func f) = .func (.func f) #[] #[] := fun _ => rfl
      generalize act.eval = ρ at *
      replace h1 : ρ (.tmp 1) = .pointer (some ⟨w.heap.size, 0, none⟩) := h1
      refine gx_gen (fun K hK => ?_)
      obtain ⟨hc, hf'⟩ := bcell (bdrewn hw'.out)
      go_simp
      exact hK _ _ ⟨rfl, Gr.refl _⟩
    refine ⟨opOK_rx [(8, some 2)] (by kernel_rfl) rfl ?_, ?_⟩
    · intro act w' hw' h1
      have hk : ∀ v, act.eval (.const v) = v := fun _ => rfl
      have hf : ∀ f, act.eval (.func f) = .func (.func f) #[] #[] := fun _ => rfl
      generalize act.eval = ρ at *
      replace h1 : ρ (.tmp 8) = .pointer (some ⟨w.heap.size, 2, none⟩) := h1
      refine gx_gen (fun K hK => ?_)
      obtain ⟨hc, hf'⟩ := bcell (bdrewn hw'.out)
      go_simp
      exact hK _ _ ⟨rfl, Gr.refl _⟩
    refine ⟨opOK_rx [(9, some 3)] (by kernel_rfl) rfl ?_, ?_⟩
    · intro act w' hw' h1
      have hk : ∀ v, act.eval (.const v) = v := fun _ => rfl
      have hf : ∀ f, act.eval (.func f) = .func (.func f) #[] #[] := fun _ => rfl
      generalize act.eval = ρ at *
      replace h1 : ρ (.tmp 9) = .slice A3 L3.length c3 := h1
      refine gx_gen (fun K hK => ?_)
      obtain ⟨hc, hf'⟩ := bcell (bdrewn hw'.out)
      go_simp
      (with_reducible refine (each_acrossW A3 c3 L3 _ (HV3.out.keep (bdrewn hw'.out)) (by omega) HSM.out).mono ?_); rintro e w1 ⟨rfl, hr1, hb1⟩; exact ⟨_, rfl, hK _ _ ⟨⟨_, _, by rw [List.length_map], hr1.v⟩, hb1⟩⟩
    refine ⟨opOK_rx [(7, some 1), (10, some 4)] (by kernel_rfl) rfl ?_, ?_⟩
    · intro act w' hw' h1 h2
      have hk : ∀ v, act.eval (.const v) = v := fun _ => rfl
      have hf : ∀ f, act.eval (.func f) = .func (.func f) #[] #[] := fun _ => rfl
      generalize act.eval = ρ at *
      replace h1 : ρ (.tmp 7) = .slice A1 L1.length c1 := h1
      replace h2 : (fun v w => SpR w v (L3.map acM)) (ρ (.tmp 10)) w' := h2
      refine gx_gen (fun K hK => ?_)
      obtain ⟨hc, hf'⟩ := bcell (bdrewn hw'.out)
      go_simp
      obtain ⟨A, c, e, hs⟩ := h2; rw [e]; (with_reducible refine (lineRequests_w A1 c1 L1 A c (L3.map acM) _ (HV1.out.keep (bdrewn hw'.out)) HS1.out hs HK1.out).mono ?_); rintro e w1 ⟨rfl, hr1, hb1⟩; exact ⟨_, rfl, hK _ _ ⟨⟨_, _, rfl, hr1.nv⟩, hb1⟩⟩
    refine ⟨opOK_rx [(11, some 5)] (by kernel_rfl) rfl ?_, ?_⟩
    · intro act w' hw' h1
      have hk : ∀ v, act.eval (.const v) = v := fun _ => rfl
      have hf : ∀ f, act.eval (.func f) = .func (.func f) #[] #[] := fun _ => rfl
      generalize act.eval = ρ at *
      replace h1 : (fun v w => NRz w v L1.length (wishM L1 (L3.map acM))) (ρ (.tmp 11)) w' := h1
      refine gx_gen (fun K hK => ?_)
      obtain ⟨hc, hf'⟩ := bcell (bdrewn hw'.out)
      go_simp
      exact hK _ _ ⟨h1, Gr.refl _⟩
    exact trivial
  case hfin =>
    intro w1 hg1
    intro v6 t6
    replace t6 : v6 = .pointer (some ⟨w.heap.size, 0, none⟩) := t6
    subst t6
    intro v7 t7
    replace t7 : v7 = .slice A1 L1.length c1 := t7
    subst t7
    intro v8 t8
    replace t8 : v8 = .pointer (some ⟨w.heap.size, 2, none⟩) := t8
    subst t8
    intro v9 t9
    replace t9 : v9 = .slice A3 L3.length c3 := t9
    subst t9
    intro v10 t10
    replace t10 : (fun v w => SpR w v (L3.map acM)) v10 w1 := t10
    intro v11 t11
    replace t11 : (fun v w => NRz w v L1.length (wishM L1 (L3.map acM))) v11 w1 := t11
    intro v4 t4
    replace t4 : (fun v w => NRz w v L1.length (wishM L1 (L3.map acM))) v4 w1 := t4
    have hb1 := bdrewn hg1.out
    clear hg1
    simp only [finP, Act.put, List.setIfInBounds_toArray, List.set_cons_succ, List.set_cons_zero]
    obtain ⟨B1, e1, rfl, hn1⟩ := t4
    clear t10 t11 d0 d1 d2 lx
    replace HX := Lib.hid ((hb1.block _ (Array.getElem?_eq_some_iff.1 HX.out).1).trans HX.out)
    replace HV1 := Lib.hid (HV1.out.keep hb1)
    replace HV2 := Lib.hid (HV2.out.keep hb1)
    replace HV3 := Lib.hid (HV3.out.keep hb1)
    replace HB := Lib.hid (bkeep2 HB.out hb1)
    clear hb1
    have HN1 := Lib.hid hn1
    clear hn1
    have d0 := cellS HX.out 0
    have d1 := cellS HX.out 1
    have d2 := cellS HX.out 2
    have lx := ltS HX.out
    go_wp2_with fail
    refine wp_region_rx (XV (.pointer (some ⟨w.heap.size, 1, none⟩)) :: XV (.slice A2 L2.length c2) :: XV (.pointer (some ⟨w.heap.size, 2, none⟩)) :: XV (.slice A3 L3.length c3) :: (fun v w => SpR w v (L3.map dnM)) :: (fun v w => NRz w v L2.length (wishM L2 (L3.map dnM))) :: (fun v w => NRz w v L2.length (wishM L2 (L3.map dnM))) :: []) (by kernel_rfl) (by kernel_rfl) ?hTs ?hops ?hfin
    case hTs =>
      intro T hT
      simp only [List.mem_cons, List.not_mem_nil, or_false] at hT
      rcases hT with rfl | rfl | rfl | rfl | rfl | rfl | rfl <;> first | exact stay_V _ | exact stay_T | exact stay_of (fun v a b x g => x.keep g) | exact stay_of (fun v a b x g => x)
    case hops =>
      refine ⟨opOK_rx [(1, none)] (by kernel_rfl) rfl ?_, ?_⟩
      · intro act w' hw' h1
        have hk : ∀ v, act.eval (.const v) = v := fun _ => rfl
        have hf : ∀ f, act.eval (.func f) = .func (.func f) #[] #[] := fun _ => rfl
        generalize act.eval = ρ at *
        replace h1 : ρ (.tmp 1) = .pointer (some ⟨w.heap.size, 0, none⟩) := h1
        refine gx_gen (fun K hK => ?_)
        obtain ⟨hc, hf'⟩ := bcell (bdrewn hw'.out)
        go_simp
        exact hK _ _ ⟨rfl, Gr.refl _⟩
      refine ⟨opOK_rx [(12, some 0)] (by kernel_rfl) rfl ?_, ?_⟩
      · intro act w' hw' h1
        have hk : ∀ v, act.eval (.const v) = v := fun _ => rfl
        have hf : ∀ f, act.eval (.func f) = .func (.func f) #[] #[] := fun _ => rfl
        generalize act.eval = ρ at *
        replace h1 : ρ (.tmp 12) = .pointer (some ⟨w.heap.size, 1, none⟩) := h1
        refine gx_gen (fun K hK => ?_)
        obtain ⟨hc, hf'⟩ := bcell (bdrewn hw'.out)
        go_simp
        exact hK _ _ ⟨rfl, Gr.refl _⟩
      refine ⟨opOK_rx [(1, none)] (by kernel_rfl) rfl ?_, ?_⟩
      · intro act w' hw' h1
        have hk : ∀ v, act.eval (.const v) = v := fun _ => rfl
        have hf : ∀ f, act.eval (.func f) = .func (.func f) #[] #[] := fun _ => rfl
        generalize act.eval = ρ at *
        replace h1 : ρ (.tmp 1) = .pointer (some ⟨w.heap.size, 0, none⟩) := h1
        refine gx_gen (fun K hK => ?_)
        obtain ⟨hc, hf'⟩ := bcell (bdrewn hw'.out)
        go_simp
        exact hK _ _ ⟨rfl, Gr.refl _⟩
      refine ⟨opOK_rx [(14, some 2)] (by kernel_rfl) rfl ?_, ?_⟩
      · intro act w' hw' h1
        have hk : ∀ v, act.eval (.const v) = v := fun _ => rfl
        have hf : ∀ f, act.eval (.func f) = .func (.func f) #[] #[] := fun _ => rfl
        generalize act.eval = ρ at *
        replace h1 : ρ (.tmp 14) = .pointer (some ⟨w.heap.size, 2, none⟩) := h1
        refine gx_gen (fun K hK => ?_)
        obtain ⟨hc, hf'⟩ := bcell (bdrewn hw'.out)
        go_simp
        exact hK _ _ ⟨rfl, Gr.refl _⟩
      refine ⟨opOK_rx [(15, some 3)] (by kernel_rfl) rfl ?_, ?_⟩
      · intro act w' hw' h1
        have hk : ∀ v, act.eval (.const v) = v := fun _ => rfl
        have hf : ∀ f, act.eval (.func f) = .func (.func f) #[] #[] := fun _ => rfl
        generalize act.eval = ρ at *
        replace h1 : ρ (.tmp 15) = .slice A3 L3.length c3 := h1
        refine gx_gen (fun K hK => ?_)
        obtain ⟨hc, hf'⟩ := bcell (bdrewn hw'.out)
        go_simp
        (with_reducible refine (each_downW A3 c3 L3 _ (HV3.out.keep (bdrewn hw'.out)) (by omega) HSM.out).mono ?_); rintro e w1 ⟨rfl, hr1, hb1⟩; exact ⟨_, rfl, hK _ _ ⟨⟨_, _, by rw [List.length_map], hr1.v⟩, hb1⟩⟩
      refine ⟨opOK_rx [(13, some 1), (16, some 4)] (by kernel_rfl) rfl ?_, ?_⟩
      · intro act w' hw' h1 h2
        have hk : ∀ v, act.eval (.const v) = v := fun _ => rfl
        have hf : ∀ f, act.eval (.func f) = .func (.func f) #[] #[] := fun _ => rfl
        generalize act.eval = ρ at *
        replace h1 : ρ (.tmp 13) = .slice A2 L2.length c2 := h1
        replace h2 : (fun v w => SpR w v (L3.map dnM)) (ρ (.tmp 16)) w' := h2
        refine gx_gen (fun K hK => ?_)
        obtain ⟨hc, hf'⟩ := bcell (bdrewn hw'.out)
        go_simp
        obtain ⟨A, c, e, hs⟩ := h2; rw [e]; (with_reducible refine (lineRequests_w A2 c2 L2 A c (L3.map dnM) _ (HV2.out.keep (bdrewn hw'.out)) HS2.out hs HK2.out).mono ?_); rintro e w1 ⟨rfl, hr1, hb1⟩; exact ⟨_, rfl, hK _ _ ⟨⟨_, _, rfl, hr1.nv⟩, hb1⟩⟩
      refine ⟨opOK_rx [(17, some 5)] (by kernel_rfl) rfl ?_, ?_⟩
      · intro act w' hw' h1
        have hk : ∀ v, act.eval (.const v) = v := fun _ => rfl
        have hf : ∀ f, act.eval (.func f) = .func (.func f) #[] #[] := fun _ => rfl
        generalize act.eval = ρ at *
        replace h1 : (fun v w => NRz w v L2.length (wishM L2 (L3.map dnM))) (ρ (.tmp 17)) w' := h1
        refine gx_gen (fun K hK => ?_)
        obtain ⟨hc, hf'⟩ := bcell (bdrewn hw'.out)
        go_simp
        exact hK _ _ ⟨h1, Gr.refl _⟩
      exact trivial
    case hfin =>
      intro w2 hg2
      intro v12 t12
      replace t12 : v12 = .pointer (some ⟨w.heap.size, 1, none⟩) := t12
      subst t12
      intro v13 t13
      replace t13 : v13 = .slice A2 L2.length c2 := t13
      subst t13
      intro v14 t14
      replace t14 : v14 = .pointer (some ⟨w.heap.size, 2, none⟩) := t14
      subst t14
      intro v15 t15
      replace t15 : v15 = .slice A3 L3.length c3 := t15
      subst t15
      intro v16 t16
      replace t16 : (fun v w => SpR w v (L3.map dnM)) v16 w2 := t16
      intro v17 t17
      replace t17 : (fun v w => NRz w v L2.length (wishM L2 (L3.map dnM))) v17 w2 := t17
      intro v5 t5
      replace t5 : (fun v w => NRz w v L2.length (wishM L2 (L3.map dnM))) v5 w2 := t5
      have hb2 := bdrewn hg2.out
      clear hg2
      simp only [finP, Act.put, List.setIfInBounds_toArray, List.set_cons_succ, List.set_cons_zero]
      obtain ⟨B2, e2, rfl, hn2⟩ := t5
      clear t16 t17 d0 d1 d2 lx
      replace HX := Lib.hid ((hb2.block _ (Array.getElem?_eq_some_iff.1 HX.out).1).trans HX.out)
      replace HN1 := Lib.hid (HN1.out.keep hb2)
      replace HB := Lib.hid (bkeep2 HB.out hb2)
      clear hb2
      have HN2 := Lib.hid hn2
      clear hn2
      go_wp2_with fail
      with_reducible refine (sum_b B1 e1 L1.length _ _ HN1.out HL1.out.symm (by omega) HM1.out).mono ?_
      rintro e w3 ⟨rfl, hb3⟩
      replace HX := Lib.hid ((hb3.block _ (Array.getElem?_eq_some_iff.1 HX.out).1).trans HX.out)
      replace HN2 := Lib.hid (HN2.out.keep hb3)
      replace HB := Lib.hid (bkeep2 HB.out hb3)
      clear hb3
      go_wp2_with fail
      with_reducible refine (sum_b B2 e2 L2.length _ _ HN2.out HL2.out.symm (by omega) HM2.out).mono ?_
      rintro e w4 ⟨rfl, hb4⟩
      replace HX := Lib.hid ((hb4.block _ (Array.getElem?_eq_some_iff.1 HX.out).1).trans HX.out)
      replace HB := Lib.hid (bkeep2 HB.out hb4)
      clear hb4
      go_wp2
      exact bodyPost_ret (v := .tuple #[.int .i64 (sumI (wishM L1 (L3.map acM))), .int .i64 (sumI (wishM L2 (L3.map dnM)))]) (by simp only [results, Try.results58]; go_simp) rfl ⟨rfl, HB.out⟩
set_option maxRecDepth 100000 in
theorem sgridRequest_w (A1 : Option Addr) (c1 : Nat) (L1 : List Ln) (A2 : Option Addr) (c2 : Nat) (L2 : List Ln) (A3 : Option Addr) (c3 : Nat) (L3 : List Ce) (w : World) (h1 : LnV w A1 L1) (h2 : LnV w A2 L2) (h3 : CeV w A3 L3) (v1 : linesB L1 = true) (v2 : linesB L2 = true) (hl8 : L3.length ≤ 10) (hsm : ∀ p ∈ L3, smW p) (hs1 : spansW L1.length (L3.map acM)) (hs2 : spansW L2.length (L3.map dnM)) (k1 : L1.length ≤ c1) (k2 : L2.length ≤ c2) :
    Calls Try.prog 59 #[.agg #[.slice A1 L1.length c1, .slice A2 L2.length c2, .slice A3 L3.length c3]] w fun e w' => e = .returned (.tuple #[.int .i64 (sumI (wishM L1 (L3.map acM))), .int .i64 (sumI (wishM L2 (L3.map dnM)))]) ∧ Below w.heap.size w w' := by
  obtain ⟨m1, q1⟩ := wish_smalW v1 hs1
  obtain ⟨m2, q2⟩ := wish_smalW v2 hs2
  have n1 := (linesB_len v1).2
  have n2 := (linesB_len v2).2
  have hB0 : Below w.heap.size w (w.alloc (.cells #[.slice A1 L1.length c1, .slice A2 L2.length c2, .slice A3 L3.length c3] 45 (0, 0))) := balloc (Below.refl _ _)
  have hx0 := newS w (.cells #[.slice A1 L1.length c1, .slice A2 L2.length c2, .slice A3 L3.length c3] 45 (0, 0))
  have HV1 := Lib.hid (h1.keep hB0)
  have HV2 := Lib.hid (h2.keep hB0)
  have HV3 := Lib.hid (h3.keep hB0)
  have HX := Lib.hid hx0
  have HB := Lib.hid hB0
  have HS1 := Lib.hid v1
  have HS2 := Lib.hid v2
  have HM1 := Lib.hid m1
  have HM2 := Lib.hid m2
  have HSM := Lib.hid hsm
  have HK1 := Lib.hid hs1
  have HK2 := Lib.hid hs2
  have HL1 := Lib.hid q1
  have HL2 := Lib.hid q2
  clear hB0 hx0 h1 h2 h3 v1 v2 m1 m2 hsm hs1 hs2 q1 q2
  go_enter Try.func59, Try.ntmps59
  have d0 := cellS HX.out 0
  have d1 := cellS HX.out 1
  have d2 := cellS HX.out 2
  have lx := ltS HX.out
  go_wp2_with fail
  refine wp_region_rx (XV (.pointer (some ⟨w.heap.size, 0, none⟩)) :: XV (.slice A1 L1.length c1) :: XV (.agg #[.slice A1 L1.length c1, .slice A2 L2.length c2, .slice A3 L3.length c3]) :: (fun v w => SpR w v (L3.map acM)) :: (fun v w => NRz w v L1.length (wishM L1 (L3.map acM))) :: XV (.int .i64 (sumI (wishM L1 (L3.map acM)))) :: XV (.pointer (some ⟨w.heap.size, 1, none⟩)) :: XV (.slice A2 L2.length c2) :: XV (.agg #[.slice A1 L1.length c1, .slice A2 L2.length c2, .slice A3 L3.length c3]) :: (fun v w => SpR w v (L3.map dnM)) :: (fun v w => NRz w v L2.length (wishM L2 (L3.map dnM))) :: XV (.int .i64 (sumI (wishM L2 (L3.map dnM)))) :: XV (.int .i64 (sumI (wishM L1 (L3.map acM)))) :: XV (.int .i64 (sumI (wishM L2 (L3.map dnM)))) :: []) (by kernel_rfl) (by kernel_rfl) ?hTs ?hops ?hfin
  case hTs =>
    intro T hT
    simp only [List.mem_cons, List.not_mem_nil, or_false] at hT
    rcases hT with rfl | rfl | rfl | rfl | rfl | rfl | rfl | rfl | rfl | rfl | rfl | rfl | rfl | rfl <;> first | exact stay_V _ | exact stay_T | exact stay_of (fun v a b x g => x.keep g) | exact stay_of (fun v a b x g => x)
  case hops =>
    refine ⟨opOK_rx [(1, none)] (by kernel_rfl) rfl ?_, ?_⟩
    · intro act w' hw' h1
      have hk : ∀ v, act.eval (.const v) = v := fun _ => rfl
      have hf : ∀ f, act.eval (.func f) = .func (.func f) #[] #[] := fun _ => rfl
      generalize act.eval = ρ at *
      replace h1 : ρ (.tmp 1) = .pointer (some ⟨w.heap.size, 0, none⟩) := h1
      refine gx_gen (fun K hK => ?_)
      obtain ⟨hc, hf'⟩ := bcell (bdrewn hw'.out)
      go_simp
      exact hK _ _ ⟨rfl, Gr.refl _⟩
    refine ⟨opOK_rx [(4, some 0)] (by kernel_rfl) rfl ?_, ?_⟩
    · intro act w' hw' h1
      have hk : ∀ v, act.eval (.const v) = v := fun _ => rfl
      have hf : ∀ f, act.eval (.func f) = .func (.func f) #[] #[] := fun _ => rfl
      generalize act.eval = ρ at *
      replace h1 : ρ (.tmp 4) = .pointer (some ⟨w.heap.size, 0, none⟩) := h1
      refine gx_gen (fun K hK => ?_)
      obtain ⟨hc, hf'⟩ := bcell (bdrewn hw'.out)
      go_simp
      exact hK _ _ ⟨rfl, Gr.refl _⟩
    refine ⟨opOK_rx [(1, none)] (by kernel_rfl) rfl ?_, ?_⟩
    · intro act w' hw' h1
      have hk : ∀ v, act.eval (.const v) = v := fun _ => rfl
      have hf : ∀ f, act.eval (.func f) = .func (.func f) #[] #[] := fun _ => rfl
      generalize act.eval = ρ at *
      replace h1 : ρ (.tmp 1) = .pointer (some ⟨w.heap.size, 0, none⟩) := h1
      refine gx_gen (fun K hK => ?_)
      obtain ⟨hc, hf'⟩ := bcell (bdrewn hw'.out)
      go_simp
      exact hK _ _ ⟨rfl, Gr.refl _⟩
    refine ⟨opOK_rx [(6, some 2)] (by kernel_rfl) rfl ?_, ?_⟩
    · intro act w' hw' h1
      have hk : ∀ v, act.eval (.const v) = v := fun _ => rfl
      have hf : ∀ f, act.eval (.func f) = .func (.func f) #[] #[] := fun _ => rfl
      generalize act.eval = ρ at *
      replace h1 : ρ (.tmp 6) = .agg #[.slice A1 L1.length c1, .slice A2 L2.length c2, .slice A3 L3.length c3] := h1
      refine gx_gen (fun K hK => ?_)
      obtain ⟨hc, hf'⟩ := bcell (bdrewn hw'.out)
      go_simp
      (with_reducible refine (colSpans_w A1 A2 A3 c1 L1.length c2 L2.length c3 L3 _ (HV3.out.keep (bdrewn hw'.out)) hl8 HSM.out).mono ?_); rintro e w1 ⟨⟨v, rfl, hr1⟩, hb1⟩; exact ⟨_, rfl, hK _ _ ⟨hr1, hb1⟩⟩
    refine ⟨opOK_rx [(5, some 1), (7, some 3)] (by kernel_rfl) rfl ?_, ?_⟩
    · intro act w' hw' h1 h2
      have hk : ∀ v, act.eval (.const v) = v := fun _ => rfl
      have hf : ∀ f, act.eval (.func f) = .func (.func f) #[] #[] := fun _ => rfl
      generalize act.eval = ρ at *
      replace h1 : ρ (.tmp 5) = .slice A1 L1.length c1 := h1
      replace h2 : (fun v w => SpR w v (L3.map acM)) (ρ (.tmp 7)) w' := h2
      refine gx_gen (fun K hK => ?_)
      obtain ⟨hc, hf'⟩ := bcell (bdrewn hw'.out)
      go_simp
      obtain ⟨A, c, e, hs⟩ := h2; rw [e]; (with_reducible refine (wished_w A1 c1 L1 A c (L3.map acM) _ (HV1.out.keep (bdrewn hw'.out)) HS1.out hs HK1.out k1).mono ?_); rintro e w1 ⟨⟨g, cap, rfl, _, hr1⟩, hb1⟩; exact ⟨_, rfl, hK _ _ ⟨⟨_, _, rfl, hr1.nv⟩, hb1⟩⟩
    refine ⟨opOK_rx [(8, some 4)] (by kernel_rfl) rfl ?_, ?_⟩
    · intro act w' hw' h1
      have hk : ∀ v, act.eval (.const v) = v := fun _ => rfl
      have hf : ∀ f, act.eval (.func f) = .func (.func f) #[] #[] := fun _ => rfl
      generalize act.eval = ρ at *
      replace h1 : (fun v w => NRz w v L1.length (wishM L1 (L3.map acM))) (ρ (.tmp 8)) w' := h1
      refine gx_gen (fun K hK => ?_)
      obtain ⟨hc, hf'⟩ := bcell (bdrewn hw'.out)
      go_simp
      obtain ⟨A, c, e, hs⟩ := h1; rw [e]; (with_reducible refine (total_b A c L1.length _ _ hs HL1.out.symm (by omega) HM1.out).mono ?_); rintro e w1 ⟨rfl, hb1⟩; exact ⟨_, rfl, hK _ _ ⟨rfl, hb1⟩⟩
    refine ⟨opOK_rx [(1, none)] (by kernel_rfl) rfl ?_, ?_⟩
    · intro act w' hw' h1
      have hk : ∀ v, act.eval (.const v) = v := fun _ => rfl
      have hf : ∀ f, act.eval (.func f) = .func (.func f) #[] #[] := fun _ => rfl
      generalize act.eval = ρ at *
      replace h1 : ρ (.tmp 1) = .pointer (some ⟨w.heap.size, 0, none⟩) := h1
      refine gx_gen (fun K hK => ?_)
      obtain ⟨hc, hf'⟩ := bcell (bdrewn hw'.out)
      go_simp
      exact hK _ _ ⟨rfl, Gr.refl _⟩
    refine ⟨opOK_rx [(10, some 6)] (by kernel_rfl) rfl ?_, ?_⟩
    · intro act w' hw' h1
      have hk : ∀ v, act.eval (.const v) = v := fun _ => rfl
      have hf : ∀ f, act.eval (.func f) = .func (.func f) #[] #[] := fun _ => rfl
      generalize act.eval = ρ at *
      replace h1 : ρ (.tmp 10) = .pointer (some ⟨w.heap.size, 1, none⟩) := h1
      refine gx_gen (fun K hK => ?_)
      obtain ⟨hc, hf'⟩ := bcell (bdrewn hw'.out)
      go_simp
      exact hK _ _ ⟨rfl, Gr.refl _⟩
    refine ⟨opOK_rx [(1, none)] (by kernel_rfl) rfl ?_, ?_⟩
    · intro act w' hw' h1
      have hk : ∀ v, act.eval (.const v) = v := fun _ => rfl
      have hf : ∀ f, act.eval (.func f) = .func (.func f) #[] #[] := fun _ => rfl
      generalize act.eval = ρ at *
      replace h1 : ρ (.tmp 1) = .pointer (some ⟨w.heap.size, 0, none⟩) := h1
      refine gx_gen (fun K hK => ?_)
      obtain ⟨hc, hf'⟩ := bcell (bdrewn hw'.out)
      go_simp
      exact hK _ _ ⟨rfl, Gr.refl _⟩
    refine ⟨opOK_rx [(12, some 8)] (by kernel_rfl) rfl ?_, ?_⟩
    · intro act w' hw' h1
      have hk : ∀ v, act.eval (.const v) = v := fun _ => rfl
      have hf : ∀ f, act.eval (.func f) = .func (.func f) #[] #[] := fun _ => rfl
      generalize act.eval = ρ at *
      replace h1 : ρ (.tmp 12) = .agg #[.slice A1 L1.length c1, .slice A2 L2.length c2, .slice A3 L3.length c3] := h1
      refine gx_gen (fun K hK => ?_)
      obtain ⟨hc, hf'⟩ := bcell (bdrewn hw'.out)
      go_simp
      (with_reducible refine (rowSpans_w A1 A2 A3 c1 L1.length c2 L2.length c3 L3 _ (HV3.out.keep (bdrewn hw'.out)) hl8 HSM.out).mono ?_); rintro e w1 ⟨⟨v, rfl, hr1⟩, hb1⟩; exact ⟨_, rfl, hK _ _ ⟨hr1, hb1⟩⟩
    refine ⟨opOK_rx [(11, some 7), (13, some 9)] (by kernel_rfl) rfl ?_, ?_⟩
    · intro act w' hw' h1 h2
      have hk : ∀ v, act.eval (.const v) = v := fun _ => rfl
      have hf : ∀ f, act.eval (.func f) = .func (.func f) #[] #[] := fun _ => rfl
      generalize act.eval = ρ at *
      replace h1 : ρ (.tmp 11) = .slice A2 L2.length c2 := h1
      replace h2 : (fun v w => SpR w v (L3.map dnM)) (ρ (.tmp 13)) w' := h2
      refine gx_gen (fun K hK => ?_)
      obtain ⟨hc, hf'⟩ := bcell (bdrewn hw'.out)
      go_simp
      obtain ⟨A, c, e, hs⟩ := h2; rw [e]; (with_reducible refine (wished_w A2 c2 L2 A c (L3.map dnM) _ (HV2.out.keep (bdrewn hw'.out)) HS2.out hs HK2.out k2).mono ?_); rintro e w1 ⟨⟨g, cap, rfl, _, hr1⟩, hb1⟩; exact ⟨_, rfl, hK _ _ ⟨⟨_, _, rfl, hr1.nv⟩, hb1⟩⟩
    refine ⟨opOK_rx [(14, some 10)] (by kernel_rfl) rfl ?_, ?_⟩
    · intro act w' hw' h1
      have hk : ∀ v, act.eval (.const v) = v := fun _ => rfl
      have hf : ∀ f, act.eval (.func f) = .func (.func f) #[] #[] := fun _ => rfl
      generalize act.eval = ρ at *
      replace h1 : (fun v w => NRz w v L2.length (wishM L2 (L3.map dnM))) (ρ (.tmp 14)) w' := h1
      refine gx_gen (fun K hK => ?_)
      obtain ⟨hc, hf'⟩ := bcell (bdrewn hw'.out)
      go_simp
      obtain ⟨A, c, e, hs⟩ := h1; rw [e]; (with_reducible refine (total_b A c L2.length _ _ hs HL2.out.symm (by omega) HM2.out).mono ?_); rintro e w1 ⟨rfl, hb1⟩; exact ⟨_, rfl, hK _ _ ⟨rfl, hb1⟩⟩
    refine ⟨opOK_rx [(9, some 5)] (by kernel_rfl) rfl ?_, ?_⟩
    · intro act w' hw' h1
      have hk : ∀ v, act.eval (.const v) = v := fun _ => rfl
      have hf : ∀ f, act.eval (.func f) = .func (.func f) #[] #[] := fun _ => rfl
      generalize act.eval = ρ at *
      replace h1 : ρ (.tmp 9) = .int .i64 (sumI (wishM L1 (L3.map acM))) := h1
      refine gx_gen (fun K hK => ?_)
      obtain ⟨hc, hf'⟩ := bcell (bdrewn hw'.out)
      go_simp
      exact hK _ _ ⟨rfl, Gr.refl _⟩
    refine ⟨opOK_rx [(15, some 11)] (by kernel_rfl) rfl ?_, ?_⟩
    · intro act w' hw' h1
      have hk : ∀ v, act.eval (.const v) = v := fun _ => rfl
      have hf : ∀ f, act.eval (.func f) = .func (.func f) #[] #[] := fun _ => rfl
      generalize act.eval = ρ at *
      replace h1 : ρ (.tmp 15) = .int .i64 (sumI (wishM L2 (L3.map dnM))) := h1
      refine gx_gen (fun K hK => ?_)
      obtain ⟨hc, hf'⟩ := bcell (bdrewn hw'.out)
      go_simp
      exact hK _ _ ⟨rfl, Gr.refl _⟩
    exact trivial
  case hfin =>
    intro w1 hg1
    intro v4 t4
    replace t4 : v4 = .pointer (some ⟨w.heap.size, 0, none⟩) := t4
    subst t4
    intro v5 t5
    replace t5 : v5 = .slice A1 L1.length c1 := t5
    subst t5
    intro v6 t6
    replace t6 : v6 = .agg #[.slice A1 L1.length c1, .slice A2 L2.length c2, .slice A3 L3.length c3] := t6
    subst t6
    intro v7 t7
    replace t7 : (fun v w => SpR w v (L3.map acM)) v7 w1 := t7
    intro v8 t8
    replace t8 : (fun v w => NRz w v L1.length (wishM L1 (L3.map acM))) v8 w1 := t8
    intro v9 t9
    replace t9 : v9 = .int .i64 (sumI (wishM L1 (L3.map acM))) := t9
    subst t9
    intro v10 t10
    replace t10 : v10 = .pointer (some ⟨w.heap.size, 1, none⟩) := t10
    subst t10
    intro v11 t11
    replace t11 : v11 = .slice A2 L2.length c2 := t11
    subst t11
    intro v12 t12
    replace t12 : v12 = .agg #[.slice A1 L1.length c1, .slice A2 L2.length c2, .slice A3 L3.length c3] := t12
    subst t12
    intro v13 t13
    replace t13 : (fun v w => SpR w v (L3.map dnM)) v13 w1 := t13
    intro v14 t14
    replace t14 : (fun v w => NRz w v L2.length (wishM L2 (L3.map dnM))) v14 w1 := t14
    intro v15 t15
    replace t15 : v15 = .int .i64 (sumI (wishM L2 (L3.map dnM))) := t15
    subst t15
    intro v2 t2
    replace t2 : v2 = .int .i64 (sumI (wishM L1 (L3.map acM))) := t2
    subst t2
    intro v3 t3
    replace t3 : v3 = .int .i64 (sumI (wishM L2 (L3.map dnM))) := t3
    subst t3
    have hb1 := bdrewn hg1.out
    clear hg1
    simp only [finP, Act.put, List.setIfInBounds_toArray, List.set_cons_succ, List.set_cons_zero]
    clear t7 t8 t13 t14 d0 d1 d2 lx
    replace HX := Lib.hid ((hb1.block _ (Array.getElem?_eq_some_iff.1 HX.out).1).trans HX.out)
    replace HB := Lib.hid (bkeep2 HB.out hb1)
    clear hb1
    go_wp2
    exact bodyPost_ret (v := .tuple #[.int .i64 (sumI (wishM L1 (L3.map acM))), .int .i64 (sumI (wishM L2 (L3.map dnM)))]) (by simp only [results, Try.results59]; go_simp) rfl ⟨rfl, HB.out⟩
end Go.Proofs.Ytjdjahckdgbkbac
end
section
namespace Go.Proofs.Ytjdjahckdgbkbac
open Go.RowKit
set_option linter.unusedVariables false
set_option maxHeartbeats 1000000
theorem shrZ_len (L : List Ln) : ∀ (f : Nat) (n : Int) (O : List Int), n.toNat ≤ f → (shrZ L n O).length = O.length
  | 0, n, O, hf => by rw [shr_end (.inl (by omega))]
  | f + 1, n, O, hf => by
    rw [shrZ]
    split
    · rename_i hh
      rw [shrZ_len L f _ _ (by omega), takZ_len]
    · rfl
theorem sizedM_len {L : List Ln} {S : List Sp} {room : Int} (hL : linesB L = true) (hS : spansB L.length S = true) : (sizedM L S room).length = L.length := by
  have h := wishM_len hL hS
  unfold sizedM
  split
  · rw [shrZ_len L _ _ _ (Nat.le_refl _), h]
  · split
    · exact h
    · rw [addAt_len, h]
end Go.Proofs.Ytjdjahckdgbkbac
end
section
namespace Go.Proofs.Ytjdjahckdgbkbac
open Go.RowKit
set_option linter.unusedVariables false
set_option maxHeartbeats 1000000
attribute [local go_sem] growUpon_value growUpon_skip growUpon_enter
attribute [local go_sem] givesUpon_value givesUpon_skip givesUpon_enter
theorem wish_smal {L : List Ln} {S : List Sp} (hL : linesB L = true) (hS : spansB L.length S = true) : Smal 1000000000000000 (wishM L S) ∧ (wishM L S).length ≤ 5 := by
  obtain ⟨-, hl, hx, -, -⟩ := wish_ok hL hS
  have h5 := (linesB_len hL).2
  refine ⟨smal_of (b := 1000000) (fun x h => ⟨by have := (hx x h).1; omega, (hx x h).2⟩) (by omega) ?_, by omega⟩
  rw [hl]; omega
theorem gridRequest_v (A1 : Option Addr) (c1 : Nat) (L1 : List Ln) (A2 : Option Addr) (c2 : Nat) (L2 : List Ln) (A3 : Option Addr) (c3 : Nat) (L3 : List Ce) (w : World) (h1 : LnV w A1 L1) (h2 : LnV w A2 L2) (h3 : CeV w A3 L3) (hg : gridB L1 L2 L3 = true) :
    Calls Try.prog 58 #[.agg #[.slice A1 L1.length c1, .slice A2 L2.length c2, .slice A3 L3.length c3]] w fun e w' => e = .returned (.tuple #[.int .i64 (sumI (wishM L1 (L3.map acM))), .int .i64 (sumI (wishM L2 (L3.map dnM)))]) ∧ Below w.heap.size w w' := by
  obtain ⟨v1, v2, hl8, hsm, hs1, hs2⟩ := gridB_yes hg
  exact gridRequest_w A1 c1 L1 A2 c2 L2 A3 c3 L3 w h1 h2 h3 v1 v2 (by omega) (fun p hp => (hsm p hp).w) (spansB_W hs1) (spansB_W hs2)
theorem sgridRequest_v (A1 : Option Addr) (c1 : Nat) (L1 : List Ln) (A2 : Option Addr) (c2 : Nat) (L2 : List Ln) (A3 : Option Addr) (c3 : Nat) (L3 : List Ce) (w : World) (h1 : LnV w A1 L1) (h2 : LnV w A2 L2) (h3 : CeV w A3 L3) (hg : gridB L1 L2 L3 = true) (k1 : L1.length ≤ c1) (k2 : L2.length ≤ c2) :
    Calls Try.prog 59 #[.agg #[.slice A1 L1.length c1, .slice A2 L2.length c2, .slice A3 L3.length c3]] w fun e w' => e = .returned (.tuple #[.int .i64 (sumI (wishM L1 (L3.map acM))), .int .i64 (sumI (wishM L2 (L3.map dnM)))]) ∧ Below w.heap.size w w' := by
  obtain ⟨v1, v2, hl8, hsm, hs1, hs2⟩ := gridB_yes hg
  exact sgridRequest_w A1 c1 L1 A2 c2 L2 A3 c3 L3 w h1 h2 h3 v1 v2 (by omega) (fun p hp => (hsm p hp).w) (spansB_W hs1) (spansB_W hs2) k1 k2
/-- what a grid asks for -/
def gqM (L1 L2 : List Ln) (L3 : List Ce) : Int × Int := if gridB L1 L2 L3 = true then (sumI (wishM L1 (L3.map acM)), sumI (wishM L2 (L3.map dnM))) else (-1, -1)
theorem gq_bd (L1 L2 : List Ln) (L3 : List Ce) : (-1 ≤ (gqM L1 L2 L3).1 ∧ (gqM L1 L2 L3).1 ≤ 2150) ∧ (-1 ≤ (gqM L1 L2 L3).2 ∧ (gqM L1 L2 L3).2 ≤ 2150) := by
  unfold gqM
  split
  · rename_i hg
    obtain ⟨v1, v2, hl8, hsm, hs1, hs2⟩ := gridB_yes hg
    have h1 := wish_ok v1 hs1
    have h2 := wish_ok v2 hs2
    simp only
    omega
  · simp
set_option maxRecDepth 100000 in
theorem GridRequest_v (A1 : Option Addr) (c1 : Nat) (L1 : List Ln) (A2 : Option Addr) (c2 : Nat) (L2 : List Ln) (A3 : Option Addr) (c3 : Nat) (L3 : List Ce) (w : World) (h1 : LnV w A1 L1) (h2 : LnV w A2 L2) (h3 : CeV w A3 L3) (k1 : L1.length ≤ 1048576) (k2 : L2.length ≤ 1048576) (k3 : L3.length ≤ 1048576) :
    Calls Try.prog 24 #[.agg #[.slice A1 L1.length c1, .slice A2 L2.length c2, .slice A3 L3.length c3]] w fun e w' => e = .returned (.tuple #[.int .i64 (gqM L1 L2 L3).1, .int .i64 (gqM L1 L2 L3).2]) ∧ Below w.heap.size w w' := by
  have hB0 : Below w.heap.size w (w.alloc (.cells #[.slice A1 L1.length c1, .slice A2 L2.length c2, .slice A3 L3.length c3] 45 (0, 0))) := balloc (Below.refl _ _)
  have HX := Lib.hid (newS w (.cells #[.slice A1 L1.length c1, .slice A2 L2.length c2, .slice A3 L3.length c3] 45 (0, 0)))
  have HV1 := Lib.hid (h1.keep hB0)
  have HV2 := Lib.hid (h2.keep hB0)
  have HV3 := Lib.hid (h3.keep hB0)
  have HB := Lib.hid hB0
  clear hB0 h1 h2 h3
  cases ht : gridB L1 L2 L3
  · rw [show gqM L1 L2 L3 = (-1, -1) by simp [gqM, ht]]
    go_enter Try.func24, Try.ntmps24
    go_wp2_with fail
    with_reducible refine (validGrid_v A1 c1 L1 A2 c2 L2 A3 c3 L3 false _ HV1.out HV2.out HV3.out k1 k2 k3 ht).mono ?_
    rintro e w1 ⟨rfl, hb⟩
    replace HX := Lib.hid ((hb.block _ (Array.getElem?_eq_some_iff.1 HX.out).1).trans HX.out)
    replace HB := Lib.hid (bkeep2 HB.out hb)
    clear hb
    clear ht
    go_wp2
    exact bodyPost_ret (v := .tuple #[.int .i64 (-1), .int .i64 (-1)]) (by simp only [results, Try.results24]; go_simp) rfl ⟨rfl, HB.out⟩
  · rw [show gqM L1 L2 L3 = (sumI (wishM L1 (L3.map acM)), sumI (wishM L2 (L3.map dnM))) by simp [gqM, ht]]
    go_enter Try.func24, Try.ntmps24
    go_wp2_with fail
    with_reducible refine (validGrid_v A1 c1 L1 A2 c2 L2 A3 c3 L3 true _ HV1.out HV2.out HV3.out k1 k2 k3 ht).mono ?_
    rintro e w1 ⟨rfl, hb⟩
    replace HX := Lib.hid ((hb.block _ (Array.getElem?_eq_some_iff.1 HX.out).1).trans HX.out)
    replace HV1 := Lib.hid (HV1.out.keep hb)
    replace HV2 := Lib.hid (HV2.out.keep hb)
    replace HV3 := Lib.hid (HV3.out.keep hb)
    replace HB := Lib.hid (bkeep2 HB.out hb)
    clear hb
    have HT := Lib.hid ht
    clear ht
    have d0 := cellS HX.out 0
    have d1 := cellS HX.out 1
    have d2 := cellS HX.out 2
    go_wp2_with fail
    with_reducible refine (gridRequest_v A1 c1 L1 A2 c2 L2 A3 c3 L3 _ HV1.out HV2.out HV3.out HT.out).mono ?_
    rintro e w2 ⟨rfl, hb⟩
    clear d0 d1 d2
    replace HX := Lib.hid ((hb.block _ (Array.getElem?_eq_some_iff.1 HX.out).1).trans HX.out)
    replace HB := Lib.hid (bkeep2 HB.out hb)
    clear hb
    go_wp2
    exact bodyPost_ret (v := .tuple #[.int .i64 (sumI (wishM L1 (L3.map acM))), .int .i64 (sumI (wishM L2 (L3.map dnM)))]) (by simp only [results, Try.results24]; go_simp) rfl ⟨rfl, HB.out⟩
set_option maxRecDepth 100000 in
theorem sGridRequest_v (A1 : Option Addr) (c1 : Nat) (L1 : List Ln) (A2 : Option Addr) (c2 : Nat) (L2 : List Ln) (A3 : Option Addr) (c3 : Nat) (L3 : List Ce) (w : World) (h1 : LnV w A1 L1) (h2 : LnV w A2 L2) (h3 : CeV w A3 L3) (k1 : L1.length ≤ 1048576) (k2 : L2.length ≤ 1048576) (k3 : L3.length ≤ 1048576) (q1 : L1.length ≤ c1) (q2 : L2.length ≤ c2) :
    Calls Try.prog 25 #[.agg #[.slice A1 L1.length c1, .slice A2 L2.length c2, .slice A3 L3.length c3]] w fun e w' => e = .returned (.tuple #[.int .i64 (gqM L1 L2 L3).1, .int .i64 (gqM L1 L2 L3).2]) ∧ Below w.heap.size w w' := by
  have hB0 : Below w.heap.size w (w.alloc (.cells #[.slice A1 L1.length c1, .slice A2 L2.length c2, .slice A3 L3.length c3] 45 (0, 0))) := balloc (Below.refl _ _)
  have HX := Lib.hid (newS w (.cells #[.slice A1 L1.length c1, .slice A2 L2.length c2, .slice A3 L3.length c3] 45 (0, 0)))
  have HV1 := Lib.hid (h1.keep hB0)
  have HV2 := Lib.hid (h2.keep hB0)
  have HV3 := Lib.hid (h3.keep hB0)
  have HB := Lib.hid hB0
  clear hB0 h1 h2 h3
  cases ht : gridB L1 L2 L3
  · rw [show gqM L1 L2 L3 = (-1, -1) by simp [gqM, ht]]
    go_enter Try.func25, Try.ntmps25
    go_wp2_with fail
    with_reducible refine (svalidGrid_v A1 c1 L1 A2 c2 L2 A3 c3 L3 false _ HV1.out HV2.out HV3.out k1 k2 k3 ht).mono ?_
    rintro e w1 ⟨rfl, hb⟩
    replace HX := Lib.hid ((hb.block _ (Array.getElem?_eq_some_iff.1 HX.out).1).trans HX.out)
    replace HB := Lib.hid (bkeep2 HB.out hb)
    clear hb
    clear ht
    go_wp2
    exact bodyPost_ret (v := .tuple #[.int .i64 (-1), .int .i64 (-1)]) (by simp only [results, Try.results25]; go_simp) rfl ⟨rfl, HB.out⟩
  · rw [show gqM L1 L2 L3 = (sumI (wishM L1 (L3.map acM)), sumI (wishM L2 (L3.map dnM))) by simp [gqM, ht]]
    go_enter Try.func25, Try.ntmps25
    go_wp2_with fail
    with_reducible refine (svalidGrid_v A1 c1 L1 A2 c2 L2 A3 c3 L3 true _ HV1.out HV2.out HV3.out k1 k2 k3 ht).mono ?_
    rintro e w1 ⟨rfl, hb⟩
    replace HX := Lib.hid ((hb.block _ (Array.getElem?_eq_some_iff.1 HX.out).1).trans HX.out)
    replace HV1 := Lib.hid (HV1.out.keep hb)
    replace HV2 := Lib.hid (HV2.out.keep hb)
    replace HV3 := Lib.hid (HV3.out.keep hb)
    replace HB := Lib.hid (bkeep2 HB.out hb)
    clear hb
    have HT := Lib.hid ht
    clear ht
    have d0 := cellS HX.out 0
    have d1 := cellS HX.out 1
    have d2 := cellS HX.out 2
    go_wp2_with fail
    with_reducible refine (sgridRequest_v A1 c1 L1 A2 c2 L2 A3 c3 L3 _ HV1.out HV2.out HV3.out HT.out q1 q2).mono ?_
    rintro e w2 ⟨rfl, hb⟩
    clear d0 d1 d2
    replace HX := Lib.hid ((hb.block _ (Array.getElem?_eq_some_iff.1 HX.out).1).trans HX.out)
    replace HB := Lib.hid (bkeep2 HB.out hb)
    clear hb
    go_wp2
    exact bodyPost_ret (v := .tuple #[.int .i64 (sumI (wishM L1 (L3.map acM))), .int .i64 (sumI (wishM L2 (L3.map dnM)))]) (by simp only [results, Try.results25]; go_simp) rfl ⟨rfl, HB.out⟩
end Go.Proofs.Ytjdjahckdgbkbac
end
section
namespace Go.Proofs.Ytjdjahckdgbkbac
open Go.RowKit
set_option linter.unusedVariables false
theorem IsRow.bts {w : World} {A : Option Addr} {n c : Nat} {z : List Int} (h : IsRow .u8 w A n c z) : Bts w A n ∧ n ≤ c ∧ c ≤ maxLen := by
  rcases h with ⟨rfl, rfl, rfl, rfl⟩ | ⟨x, rfl, h1, h2, h3, h4, h5⟩
  · exact ⟨fun h => absurd h (by omega), Nat.le_refl _, by unfold maxLen; omega⟩
  · refine ⟨fun hn => ⟨x, rfl, ?_, fun i hi => ?_⟩, h1, h2⟩
    · have := h4 0 (by omega)
      have h6 := World.block_lt_of_cell? w _ this
      rwa [block_add] at h6
    · have hc := h4 i (by omega)
      refine ⟨z.getD i 0, ?_, ?_, hc⟩
      all_goals
        have hm : z.getD i 0 ∈ z := by
          rw [List.getD_eq_getElem?_getD, List.getElem?_eq_getElem (by omega)]
          exact List.getElem_mem _
        have h6 := h5 _ hm
        have g1 : IntKind.u8.min = 0 := by decide
        have g2 : IntKind.u8.max = 255 := by decide
        generalize z.getD i 0 = y at *
        simp [Lit.wf, g1, g2] at h6
        omega
end Go.Proofs.Ytjdjahckdgbkbac
end
