/- FnExactDragSash: for every argument the function of the program answers as the model's, and it writes into no argument, and its answer is memory of its own. No condition. -/
import Derived.Test.YtpbfbcdidkbjiabQ07
namespace Go.Proofs.Ytpbfbcdidkbjiab.xDragSash
open Go.ChangeShapes Go.WideShapes Go.ChangeAt Go.RowKit Go.Joins
set_option linter.unusedVariables false
attribute [local go_sem] growUpon_value growUpon_skip growUpon_enter
attribute [local go_sem] givesUpon_value givesUpon_skip givesUpon_enter
set_option maxHeartbeats 1000000
theorem both (S M : List Int) (i y : Int) (hL1 : S.length ≤ 1048576) (hL2 : M.length ≤ 1048576) : ∃ R Q : List Int, R.length ≤ 1048576 ∧ Q.length ≤ 1048576 ∧
    (∀ (w1 : World) (v : Value) (lo hi : Nat), PS lo hi w1 v S M → Calls Try.prog 15 #[v, .int .i64 i, .int .i64 y] w1 fun e w' => (∃ x, e = .returned x ∧ PR w' x R Q) ∧ Below w1.heap.size w1 w') ∧
    (∀ (w1 : World) (v : Value) (lo hi : Nat), PS lo hi w1 v S M → Calls Try.prog 16 #[v, .int .i64 i, .int .i64 y] w1 fun e w' => (∃ x, e = .returned x ∧ PS w1.heap.size w'.heap.size w' x R Q) ∧ Below w1.heap.size w1 w') := by
  have hno : (¬ pnP S M ∨ (pnP S M ∧ rng i 0 ((S.length : Int) - 2) = false) ∨ (pnP S M ∧ rng i 0 ((S.length : Int) - 2) = true ∧ rng y (-400) 400 = false)) ∨ (pnP S M ∧ rng i 0 ((S.length : Int) - 2) = true ∧ rng y (-400) 400 = true) := by
    by_cases hv : pnP S M
    · cases hi : rng i 0 ((S.length : Int) - 2)
      · exact .inl (.inr (.inl ⟨hv, rfl⟩))
      · cases hy : rng y (-400) 400
        · exact .inl (.inr (.inr ⟨hv, rfl, rfl⟩))
        · exact .inr ⟨hv, rfl, rfl⟩
    · exact .inl (.inl hv)
  rcases hno with hno | ⟨hv, hi, hy⟩
  · refine ⟨[], [], by simp, by simp, fun w1 v lo hi' hp => ?_, fun w1 v lo hi' hp => ?_⟩
    · rcases hp with ⟨rfl, rfl, rfl⟩ | ⟨g1, c1, g2, c2, rfl, _, _, _, _, _, o1, o2⟩
      · exact (sDragSash_no none none 0 0 [] [] i y w1 (NV.nil _ _) (NV.nil _ _) hL2 hL1 hno).mono fun e w' ⟨h1, h2⟩ => ⟨⟨_, h1, _, _, rfl, ⟨none, 0, rfl, NV.nil _ _⟩, ⟨none, 0, rfl, NV.nil _ _⟩⟩, h2⟩
      · exact (sDragSash_no _ _ c1 c2 S M i y w1 o1.nv o2.nv hL2 hL1 hno).mono fun e w' ⟨h1, h2⟩ => ⟨⟨_, h1, _, _, rfl, ⟨none, 0, rfl, NV.nil _ _⟩, ⟨none, 0, rfl, NV.nil _ _⟩⟩, h2⟩
    · rcases hp with ⟨rfl, rfl, rfl⟩ | ⟨g1, c1, g2, c2, rfl, _, _, _, _, _, o1, o2⟩
      · exact (DragSash_no none none 0 0 [] [] i y w1 (NV.nil _ _) (NV.nil _ _) hL2 hL1 hno).mono fun e w' ⟨h1, h2⟩ => ⟨⟨_, h1, .inl ⟨rfl, rfl, rfl⟩⟩, h2⟩
      · exact (DragSash_no _ _ c1 c2 S M i y w1 o1.nv o2.nv hL2 hL1 hno).mono fun e w' ⟨h1, h2⟩ => ⟨⟨_, h1, .inl ⟨rfl, rfl, rfl⟩⟩, h2⟩
  · have hlen := dragM_len (k := i.toNat) (y := y) hv (by have := rng_iff.1 hi; omega)
    refine ⟨dragM S M i.toNat y, M, by omega, hL2, fun w1 v lo hi' hp => ?_, fun w1 v lo hi' hp => ?_⟩
    · rcases hp with ⟨rfl, rfl, rfl⟩ | ⟨g1, c1, g2, c2, rfl, _, _, _, _, _, o1, o2⟩
      · exact absurd hv.one (by simp)
      · refine (sDragSash_yes _ _ c1 c2 S M i y w1 o1.nv o2.nv hL2 hL1 hv hi hy).mono ?_
        rintro e w' ⟨⟨v1, v2, rfl, ⟨b1, q1, rfl, _, p1⟩, ⟨b2, q2, rfl, _, p2⟩⟩, hb⟩
        exact ⟨⟨_, rfl, _, _, rfl, p1.nr rfl _, p2.nr rfl _⟩, hb⟩
    · rcases hp with ⟨rfl, rfl, rfl⟩ | ⟨g1, c1, g2, c2, rfl, _, _, _, _, _, o1, o2⟩
      · exact absurd hv.one (by simp)
      · exact DragSash_yes _ _ c1 c2 S M i y w1 o1.nv o2.nv hL2 hL1 hv hi hy
set_option maxRecDepth 100000 in
theorem walk (A : Option Addr) (c : Nat) (S : List Int) (A' : Option Addr) (c' : Nat) (M : List Int) (i y : Int) (w : World) (k1 : NV w A S ∧ S.length ≤ maxLen) (k2 : NV w A' M ∧ M.length ≤ maxLen) : Calls Try.prog 5 #[.agg #[.slice A S.length c, .slice A' M.length c'], .int .i64 i, .int .i64 y] w fun e w' => e = .returned (.bool true) ∧ Below w.heap.size w w' := by
  obtain ⟨hn1, hm1⟩ := k1
  obtain ⟨hn2, hm2⟩ := k2
  have HX := Lib.hid (newS w (.cells #[.slice A S.length c, .slice A' M.length c'] 24))
  have HB := Lib.hid (balloc (o := (.cells #[.slice A S.length c, .slice A' M.length c'] 24)) (Below.refl w.heap.size w))
  by_cases hL : S.length + M.length ≤ 1048576
  · have hL1 : S.length ≤ 1048576 := by omega
    have hL2 : M.length ≤ 1048576 := by omega
    obtain ⟨R, Q, hR, hQ, hS, hI⟩ := both S M i y hL1 hL2
    have HS := Lib.hid hS
    have HI := Lib.hid hI
    clear hS hI
    have qk : ¬ (1 : Int) + S.length + M.length < 0 := by omega
    have qm : ¬ (1 : Int) + R.length + Q.length < 0 := by omega
    go_enter Try.func5, Try.ntmps5
    go_wp2_with fail
    with_reducible refine (szPanes_yes A A' S.length c M.length c' _ hL).mono ?_
    rintro e w1 ⟨⟨q, rfl, hq⟩, hb⟩
    have hq' : ¬ q < 0 := by omega
    replace HX := Lib.hid ((hb.block _ (Array.getElem?_eq_some_iff.1 HX.out).1).trans HX.out)
    replace HB := Lib.hid (bkeep2 HB.out hb)
    clear hb
    obtain ⟨c0, c1⟩ := c2L HX.out
    go_wp2_with fail
    with_reducible refine (toPanes_v A A' c c' S M _ (hn1.keep HB.out) (hn2.keep HB.out) hL1 hL2).mono ?_
    rintro e w2 ⟨⟨v2, rfl, hp2⟩, hb⟩
    clear c0 c1
    replace HX := Lib.hid ((hb.block _ (Array.getElem?_eq_some_iff.1 HX.out).1).trans HX.out)
    replace HB := Lib.hid (bkeep2 HB.out hb)
    clear hb
    go_wp2_with fail
    with_reducible refine (HS.out _ v2 _ _ hp2).mono ?_
    rintro e w3 ⟨⟨v3, rfl, hp3⟩, hb⟩
    clear hp2
    replace HX := Lib.hid ((hb.block _ (Array.getElem?_eq_some_iff.1 HX.out).1).trans HX.out)
    replace HB := Lib.hid (bkeep2 HB.out hb)
    clear hb
    have HX3 := Lib.hid HX.out
    have HB3 := Lib.hid HB.out
    obtain ⟨_, _, rfl, ⟨D1, f1, rfl, n3⟩, ⟨D2, f2, rfl, n4⟩⟩ := hp3
    have HWV := Lib.hid (show PR w3 (.agg #[.slice D1 R.length f1, .slice D2 Q.length f2]) R Q from ⟨_, _, rfl, nrOf f1 n3, nrOf f2 n4⟩)
    have hl3 : w.heap.size < w3.heap.size := ltS HX.out
    clear n3 n4 HX HB
    have HW := Lib.hid (newS w3 (.cells #[.slice D1 R.length f1, .slice D2 Q.length f2] 27))
    have hb : Below w3.heap.size w3 (w3.alloc (.cells #[.slice D1 R.length f1, .slice D2 Q.length f2] 27)) := balloc (Below.refl _ _)
    have HC := Lib.hid hb
    have hs3 : (w3.alloc (.cells #[.slice D1 R.length f1, .slice D2 Q.length f2] 27)).heap.size = w3.heap.size + 1 := by simp
    clear hb
    have hx3 := (HC.out.block w.heap.size (ltS HX3.out)).trans HX3.out
    obtain ⟨ca0, ca1⟩ := c2L hx3
    clear hx3
    go_wp2_with fail
    with_reducible refine (toPanes_v A A' c c' S M _ (hn1.keep (HB3.out.trans (HC.out.mono HB3.out.size))) (hn2.keep (HB3.out.trans (HC.out.mono HB3.out.size))) hL1 hL2).mono ?_
    rintro e w4 ⟨⟨v4, rfl, hp4⟩, hb⟩
    rw [hs3] at hp4
    have hs4 : w3.heap.size + 1 ≤ w4.heap.size := by have := hb.size; omega
    clear ca0 ca1
    replace HW := Lib.hid ((hb.block _ (ltS HW.out)).trans HW.out)
    replace HC := Lib.hid (HC.out.trans (hb.mono HC.out.size))
    clear hb
    obtain ⟨_, _, rfl, ⟨B1, e1, rfl, -⟩, ⟨B2, e2, rfl, -⟩⟩ := hp4.pr
    have HXV := Lib.hid hp4
    clear hp4
    have HY := Lib.hid (newS w4 (.cells #[.slice B1 S.length e1, .slice B2 M.length e2] 27))
    have hb : Below w4.heap.size w4 (w4.alloc (.cells #[.slice B1 S.length e1, .slice B2 M.length e2] 27)) := balloc (Below.refl _ _)
    have hs4' : (w4.alloc (.cells #[.slice B1 S.length e1, .slice B2 M.length e2] 27)).heap.size = w4.heap.size + 1 := by simp
    replace HW := Lib.hid ((hb.block _ (ltS HW.out)).trans HW.out)
    replace HXV := Lib.hid (HXV.out.keep hb)
    replace HC := Lib.hid (HC.out.trans (hb.mono HC.out.size))
    clear hb
    obtain ⟨d0, d1⟩ := c2L HY.out
    go_wp2_with fail
    with_reducible refine (HI.out _ _ _ _ HXV.out).mono ?_
    rintro e w5 ⟨⟨v5, rfl, hp5⟩, hb⟩
    rw [hs4'] at hp5
    have hs5 : w4.heap.size + 1 ≤ w5.heap.size := by have := hb.size; omega
    clear d0 d1
    replace HW := Lib.hid ((hb.block _ (ltS HW.out)).trans HW.out)
    replace HY := Lib.hid ((hb.block _ (ltS HY.out)).trans HY.out)
    replace HXV := Lib.hid (HXV.out.keep hb)
    replace HC := Lib.hid (HC.out.trans (hb.mono HC.out.size))
    clear hb
    obtain ⟨_, _, rfl, ⟨G1, q1, rfl, -⟩, ⟨G2, q2, rfl, -⟩⟩ := hp5.pr
    have HGV := Lib.hid hp5
    clear hp5
    have HZ := Lib.hid (newS w5 (.cells #[.slice G1 R.length q1, .slice G2 Q.length q2] 27))
    have hb : Below w5.heap.size w5 (w5.alloc (.cells #[.slice G1 R.length q1, .slice G2 Q.length q2] 27)) := balloc (Below.refl _ _)
    replace HW := Lib.hid ((hb.block _ (ltS HW.out)).trans HW.out)
    replace HY := Lib.hid ((hb.block _ (ltS HY.out)).trans HY.out)
    replace HXV := Lib.hid (HXV.out.keep hb)
    replace HGV := Lib.hid (HGV.out.keep hb)
    replace HC := Lib.hid (HC.out.trans (hb.mono HC.out.size))
    clear hb
    obtain ⟨d0, d1⟩ := c2L HZ.out
    obtain ⟨p0, p1⟩ := c2L HW.out
    go_wp2_with fail
    with_reducible refine (eqPanes_same _ _ R Q _ HGV.out.pr (HWV.out.keep HC.out) hR hQ).mono ?_
    rintro e w6 ⟨rfl, hb⟩
    clear d0 d1 p0 p1
    replace HW := Lib.hid ((hb.block _ (ltS HW.out)).trans HW.out)
    replace HY := Lib.hid ((hb.block _ (ltS HY.out)).trans HY.out)
    replace HZ := Lib.hid ((hb.block _ (ltS HZ.out)).trans HZ.out)
    replace HXV := Lib.hid (HXV.out.keep hb)
    replace HGV := Lib.hid (HGV.out.keep hb)
    replace HC := Lib.hid (HC.out.trans (hb.mono HC.out.size))
    clear hb
    have hx3 := (HC.out.block w.heap.size (ltS HX3.out)).trans HX3.out
    obtain ⟨ca0, ca1⟩ := c2L hx3
    clear hx3
    obtain ⟨d0, d1⟩ := c2L HY.out
    have hla : w.heap.size < w6.heap.size := by have := HC.out.size; omega
    have hlx := ltS HY.out
    go_wp2_with fail
    refine wp_region_rx (XV (.agg #[.slice B1 S.length e1, .slice B2 M.length e2]) :: XV (.agg #[.slice A S.length c, .slice A' M.length c']) :: (fun v a => PR a v S M) :: XV (.bool true) :: XV (.bool false) :: []) (by kernel_rfl) (by kernel_rfl) ?hTs ?hops ?hfin
    case hTs =>
      intro T hT
      simp only [List.mem_cons, List.not_mem_nil, or_false] at hT
      rcases hT with rfl | rfl | rfl | rfl | rfl <;> first | exact stay_V _ | exact stay_T | exact stay_of (fun v a b x g => x.keep g) | exact stay_of (fun v a b x g => x)
    case hops =>
      refine ⟨opOK_rx [(9, none)] (by kernel_rfl) rfl ?_, ?_⟩
      · intro act w' hw' h1
        have hk : ∀ v, act.eval (.const v) = v := fun _ => rfl
        have hf : ∀ f, act.eval (.func f) = .func (.func f) #[] #[] := fun _ => rfl
        generalize act.eval = ρ at *
        replace h1 : ρ (.tmp 9) = .pointer (some ⟨w4.heap.size, 0, none⟩) := h1
        refine gx_gen (fun K hK => ?_)
        obtain ⟨hc, hf'⟩ := bcell (bdrewn hw'.out)
        go_simp
        exact hK _ _ ⟨rfl, Gr.refl _⟩
      refine ⟨opOK_rx [(3, none)] (by kernel_rfl) rfl ?_, ?_⟩
      · intro act w' hw' h1
        have hk : ∀ v, act.eval (.const v) = v := fun _ => rfl
        have hf : ∀ f, act.eval (.func f) = .func (.func f) #[] #[] := fun _ => rfl
        generalize act.eval = ρ at *
        replace h1 : ρ (.tmp 3) = .pointer (some ⟨w.heap.size, 0, none⟩) := h1
        refine gx_gen (fun K hK => ?_)
        obtain ⟨hc, hf'⟩ := bcell (bdrewn hw'.out)
        go_simp
        exact hK _ _ ⟨rfl, Gr.refl _⟩
      refine ⟨opOK_rx [(36, some 1)] (by kernel_rfl) rfl ?_, ?_⟩
      · intro act w' hw' h1
        have hk : ∀ v, act.eval (.const v) = v := fun _ => rfl
        have hf : ∀ f, act.eval (.func f) = .func (.func f) #[] #[] := fun _ => rfl
        generalize act.eval = ρ at *
        replace h1 : ρ (.tmp 36) = .agg #[.slice A S.length c, .slice A' M.length c'] := h1
        refine gx_gen (fun K hK => ?_)
        obtain ⟨hc, hf'⟩ := bcell (bdrewn hw'.out)
        go_simp
        (with_reducible refine (toPanes_v A A' c c' S M _ ((hn1.keep (HB3.out.trans (HC.out.mono HB3.out.size))).keep (bdrewn hw'.out)) ((hn2.keep (HB3.out.trans (HC.out.mono HB3.out.size))).keep (bdrewn hw'.out)) hL1 hL2).mono ?_); rintro e w2 ⟨⟨v, rfl, hv⟩, hb⟩; exact ⟨v, rfl, hK _ _ ⟨hv.pr, Gr.of hb⟩⟩
      refine ⟨opOK_rx [(35, some 0), (37, some 2)] (by kernel_rfl) rfl ?_, ?_⟩
      · intro act w' hw' h1 h2
        have hk : ∀ v, act.eval (.const v) = v := fun _ => rfl
        have hf : ∀ f, act.eval (.func f) = .func (.func f) #[] #[] := fun _ => rfl
        generalize act.eval = ρ at *
        replace h1 : ρ (.tmp 35) = .agg #[.slice B1 S.length e1, .slice B2 M.length e2] := h1
        replace h2 : (fun v a => PR a v S M) (ρ (.tmp 37)) w' := h2
        refine gx_gen (fun K hK => ?_)
        obtain ⟨hc, hf'⟩ := bcell (bdrewn hw'.out)
        go_simp
        (with_reducible refine (eqPanes_same _ _ S M _ (HXV.out.pr.keep (bdrewn hw'.out)) h2 hL1 hL2).mono ?_); rintro e w2 ⟨rfl, hb⟩; exact ⟨_, rfl, hK _ _ ⟨rfl, Gr.of hb⟩⟩
      refine ⟨opOK_rx [(38, some 3)] (by kernel_rfl) rfl ?_, ?_⟩
      · intro act w' hw' h1
        have hk : ∀ v, act.eval (.const v) = v := fun _ => rfl
        have hf : ∀ f, act.eval (.func f) = .func (.func f) #[] #[] := fun _ => rfl
        generalize act.eval = ρ at *
        replace h1 : ρ (.tmp 38) = .bool true := h1
        refine gx_gen (fun K hK => ?_)
        obtain ⟨hc, hf'⟩ := bcell (bdrewn hw'.out)
        go_simp
        exact hK _ _ ⟨rfl, Gr.refl _⟩
      exact trivial
    case hfin =>
      intro w9 hg9
      intro v35 t35
      replace t35 : v35 = .agg #[.slice B1 S.length e1, .slice B2 M.length e2] := t35
      subst t35
      intro v36 t36
      replace t36 : v36 = .agg #[.slice A S.length c, .slice A' M.length c'] := t36
      subst t36
      intro v37 t37
      replace t37 : (fun v a => PR a v S M) v37 w9 := t37
      intro v38 t38
      replace t38 : v38 = .bool true := t38
      subst t38
      intro v39 t39
      replace t39 : v39 = .bool false := t39
      subst t39
      have hb9 := bdrewn hg9.out
      clear hg9
      simp only [finP, Act.put, List.setIfInBounds_toArray, List.set_cons_succ, List.set_cons_zero]
      have hb := hb9
      clear hb9 ca0 ca1 d0 d1 hla hlx
      replace HW := Lib.hid ((hb.block _ (ltS HW.out)).trans HW.out)
      replace HY := Lib.hid ((hb.block _ (ltS HY.out)).trans HY.out)
      replace HZ := Lib.hid ((hb.block _ (ltS HZ.out)).trans HZ.out)
      replace HXV := Lib.hid (HXV.out.keep hb)
      replace HGV := Lib.hid (HGV.out.keep hb)
      replace HC := Lib.hid (HC.out.trans (hb.mono HC.out.size))
      clear hb
      obtain ⟨d0, d1⟩ := c2L HY.out
      go_wp2_with fail
      with_reducible refine (markPanes_v _ _ _ S M _ HXV.out hL1 hL2).mono ?_
      rintro e w10 ⟨rfl, -, hcb⟩
      clear d0 d1 HXV
      have hlHW := ltS HW.out
      have hlHY := ltS HY.out
      have hlHZ := ltS HZ.out
      replace HW := Lib.hid ((hcb.block _ (ltS HW.out) (.inl (by omega))).trans HW.out)
      replace HY := Lib.hid ((hcb.block _ (ltS HY.out) (.inr (by omega))).trans HY.out)
      replace HZ := Lib.hid ((hcb.block _ (ltS HZ.out) (.inr (by omega))).trans HZ.out)
      replace HGV := Lib.hid (HGV.out.but hcb (by omega))
      replace HC := Lib.hid (HC.out.trans ((hcb.below (by have := HC.out.size; omega)).mono (by omega)))
      clear hcb hlHW hlHY hlHZ
      obtain ⟨d0, d1⟩ := c2L HZ.out
      obtain ⟨p0, p1⟩ := c2L HW.out
      go_wp2_with fail
      with_reducible refine (eqPanes_same _ _ R Q _ HGV.out.pr (HWV.out.keep HC.out) hR hQ).mono ?_
      rintro e w11 ⟨rfl, hb⟩
      clear d0 d1 p0 p1
      replace HW := Lib.hid ((hb.block _ (ltS HW.out)).trans HW.out)
      replace HZ := Lib.hid ((hb.block _ (ltS HZ.out)).trans HZ.out)
      replace HGV := Lib.hid (HGV.out.keep hb)
      replace HC := Lib.hid (HC.out.trans (hb.mono HC.out.size))
      clear hb
      obtain ⟨d0, d1⟩ := c2L HZ.out
      go_wp2_with fail
      with_reducible refine (markPanes_v _ _ _ R Q _ HGV.out hR hQ).mono ?_
      rintro e w12 ⟨rfl, hpm, hcb⟩
      have HGM := Lib.hid hpm
      clear d0 d1 HGV hpm
      have hlHW := ltS HW.out
      have hlHZ := ltS HZ.out
      replace HW := Lib.hid ((hcb.block _ (ltS HW.out) (.inl (by omega))).trans HW.out)
      replace HZ := Lib.hid ((hcb.block _ (ltS HZ.out) (.inr (by omega))).trans HZ.out)
      replace HC := Lib.hid (HC.out.trans ((hcb.below (by have := HC.out.size; omega)).mono (by omega)))
      clear hcb hlHW hlHZ
      obtain ⟨d0, d1⟩ := c2L HZ.out
      go_wp2_with fail
      with_reducible refine (heldPanes_v _ _ _ _ HGM.out hR hQ).mono ?_
      rintro e w13 ⟨rfl, hb⟩
      clear d0 d1
      replace HW := Lib.hid ((hb.block _ (ltS HW.out)).trans HW.out)
      replace HZ := Lib.hid ((hb.block _ (ltS HZ.out)).trans HZ.out)
      replace HGM := Lib.hid (HGM.out.keep hb)
      replace HC := Lib.hid (HC.out.trans (hb.mono HC.out.size))
      clear hb
      have hx3 := (HC.out.block w.heap.size (ltS HX3.out)).trans HX3.out
      obtain ⟨ca0, ca1⟩ := c2L hx3
      clear hx3
      go_wp2_with fail
      with_reducible refine (toPanes_v A A' c c' S M _ (hn1.keep (HB3.out.trans (HC.out.mono HB3.out.size))) (hn2.keep (HB3.out.trans (HC.out.mono HB3.out.size))) hL1 hL2).mono ?_
      rintro e w14 ⟨⟨v14, rfl, hp14⟩, hb⟩
      clear ca0 ca1
      replace HW := Lib.hid ((hb.block _ (ltS HW.out)).trans HW.out)
      replace HZ := Lib.hid ((hb.block _ (ltS HZ.out)).trans HZ.out)
      replace HGM := Lib.hid (HGM.out.keep hb)
      replace HC := Lib.hid (HC.out.trans (hb.mono HC.out.size))
      clear hb
      go_wp2_with fail
      with_reducible refine (HI.out _ v14 _ _ hp14).mono ?_
      rintro e w15 ⟨⟨v15, rfl, hp15⟩, hb⟩
      clear hp14
      replace HW := Lib.hid ((hb.block _ (ltS HW.out)).trans HW.out)
      replace HZ := Lib.hid ((hb.block _ (ltS HZ.out)).trans HZ.out)
      replace HGM := Lib.hid (HGM.out.keep hb)
      replace HC := Lib.hid (HC.out.trans (hb.mono HC.out.size))
      clear hb
      obtain ⟨_, _, rfl, ⟨J1, j1, rfl, -⟩, ⟨J2, j2, rfl, -⟩⟩ := hp15.pr
      have HHV := Lib.hid hp15.pr
      clear hp15
      have HV := Lib.hid (newS w15 (.cells #[.slice J1 R.length j1, .slice J2 Q.length j2] 27))
      have hb : Below w15.heap.size w15 (w15.alloc (.cells #[.slice J1 R.length j1, .slice J2 Q.length j2] 27)) := balloc (Below.refl _ _)
      replace HW := Lib.hid ((hb.block _ (ltS HW.out)).trans HW.out)
      replace HZ := Lib.hid ((hb.block _ (ltS HZ.out)).trans HZ.out)
      replace HGM := Lib.hid (HGM.out.keep hb)
      replace HHV := Lib.hid (HHV.out.keep hb)
      replace HC := Lib.hid (HC.out.trans (hb.mono HC.out.size))
      clear hb
      obtain ⟨d0, d1⟩ := c2L HV.out
      obtain ⟨p0, p1⟩ := c2L HW.out
      go_wp2_with fail
      with_reducible refine (eqPanes_same _ _ R Q _ HHV.out (HWV.out.keep HC.out) hR hQ).mono ?_
      rintro e w16 ⟨rfl, hb⟩
      clear d0 d1 p0 p1 HHV HV
      replace HZ := Lib.hid ((hb.block _ (ltS HZ.out)).trans HZ.out)
      replace HGM := Lib.hid (HGM.out.keep hb)
      replace HC := Lib.hid (HC.out.trans (hb.mono HC.out.size))
      clear hb
      obtain ⟨d0, d1⟩ := c2L HZ.out
      go_wp2_with fail
      with_reducible refine (heldPanes_v _ _ _ _ HGM.out hR hQ).mono ?_
      rintro e w17 ⟨rfl, hb⟩
      clear d0 d1
      replace HC := Lib.hid (HC.out.trans (hb.mono HC.out.size))
      clear hb
      go_wp2
      go_ret
      exact ⟨rfl, HB3.out.trans (HC.out.mono HB3.out.size)⟩
  · go_enter Try.func5, Try.ntmps5
    go_wp2_with fail
    with_reducible refine (szPanes_no A A' S.length c M.length c' _ hL hm1 hm2).mono ?_
    rintro e w1 ⟨rfl, hb⟩
    replace HB := Lib.hid (bkeep2 HB.out hb)
    clear hb
    go_wp2
    go_ret
    exact ⟨rfl, HB.out⟩
set_option maxRecDepth 100000 in
theorem lifted (os : Os) (started : os.Started) (H : Type) (enc : TypeId × Value → H) :
    ReturnsInHanded {} Try.checked os 5 .any (Rows.fnExactDragSashSpec.pre6 enc Try.prog Try.f5 Rows.fnExactDragSashRow.domain false) (Rows.fnExactDragSashSpec.post enc Try.prog Try.f5 false true false false) := by
  refine returnsInHanded_of_change (C := Try.checked) own started (by kernel_rfl) Try.func5
    (ChangeSpec.witness6 (enc := enc) (C := Try.checked) false ⟨#[], #[.agg #[.slice none 0 0, .slice none 0 0], .int .i64 0, .int .i64 0], []⟩ 8 (by kernel_rfl) (by kernel_rfl) (by kernel_rfl) (by kernel_rfl)) ?_
  intro W base args ds gs before hval0 hW hcnd _
  have hval : ∀ (j : Nat) t v, Try.f5.params[j]? = some t → args[j]? = some v → Value.okWide Try.prog W .any base t v := hval0
  have hW' := hW
  obtain ⟨p, q, hA0, hV, rfl, hfz, hnd⟩ := hW
  have hA : DataW.TrodAll enc Try.prog W 0 (fun _ => true) true Try.f5.params.toList args.toList ds p := hA0
  rw [Try.params5] at hA hval
  obtain ⟨v0, vs0, d0, ds0, p0, q0, hargs, rfl, rfl, h0, r0⟩ := trodAll_cons hA
  obtain ⟨v1, vs1, d1, ds1, p1, q1, rfl, rfl, rfl, h1, r1⟩ := trodAll_cons r0
  obtain ⟨v2, vs2, d2, ds2, p2, q2, rfl, rfl, rfl, h2, r2⟩ := trodAll_cons r1
  obtain ⟨rfl, rfl, rfl⟩ := trodAll_nil r2
  obtain rfl : args = #[v0, v1, v2] := by cases args; simp_all
  obtain ⟨rfl, rfl⟩ := trodVars_none hV
  have k0 := h0
  have lt0 : ∀ x ∈ p0, x.block < W.heap.size := by obtain ⟨m, hm⟩ := k0; exact DataW.trod_lt m _ _ _ hm
  obtain ⟨a0a, c0a, z0a, a0b, c0b, z0b, rfl, wz0a, wz0b⟩ := panes_of (hval 0 24 v0 rfl rfl) h0
  have k1 := h1
  have lt1 : ∀ x ∈ p1, x.block < W.heap.size := by obtain ⟨m, hm⟩ := k1; exact DataW.trod_lt m _ _ _ hm
  obtain ⟨x1, rfl, _, _, wx1⟩ := open_int Try.underlying3 (hval 1 3 v1 rfl rfl) h1
  have k2 := h2
  have lt2 : ∀ x ∈ p2, x.block < W.heap.size := by obtain ⟨m, hm⟩ := k2; exact DataW.trod_lt m _ _ _ hm
  obtain ⟨x2, rfl, _, _, wx2⟩ := open_int Try.underlying3 (hval 2 3 v2 rfl rfl) h2
  clear hA0 hval0
  refine (walk a0a c0a z0a a0b c0b z0b x1 x2 W wz0a wz0b).mono fun e W' ⟨he, bel⟩ => ?_
  subst he
  exact ⟨_, rfl, _, _, _, [], _, [], hW', trodAll_mk1 (shut_bool Try.underlying4 _), (trodAll_cons_mk (Below.trod laidOut (by kernel_rfl) (of_decide_eq_true (by kernel_rfl)) k0 bel lt0) (trodAll_cons_mk (Below.trod laidOut (by kernel_rfl) (of_decide_eq_true (by kernel_rfl)) k1 bel lt1) (trodAll_cons_mk (Below.trod laidOut (by kernel_rfl) (of_decide_eq_true (by kernel_rfl)) k2 bel lt2) trodAll_mk0))), rfl, bel.frame _, fun h => by cases h⟩
theorem over : Rows.fnExactDragSashRow.holds Try.pinned (OpenSpec.ofChange Rows.fnExactDragSashSpec) :=
  OpenClaim.holds_of_wide 5 Try.f5 rfl rfl rfl rfl rfl rfl rfl ⟨rfl, rfl, rfl, rfl, rfl⟩ rfl rfl rfl rfl rfl (by kernel_rfl) Try.func5 (by kernel_rfl)
    (of_decide_eq_true (by kernel_rfl)) (by unfold Func.isWrapper; first | (rw [if_pos (by decide +kernel)]; kernel_rfl) | (rw [if_neg (by decide +kernel)]; exact ⟨rfl, rfl⟩))
    (fun os started H enc _ => lifted os started H enc)
theorem proved : Rows.FnExactDragSashSaid := over
end Go.Proofs.Ytpbfbcdidkbjiab.xDragSash
