/- FnExactResizePanes: for every argument the function of the program answers as the model's, and it writes into no argument, and its answer is memory of its own. No condition. -/
import Derived.Test.YtjdjahckdgbkbaeDoorQ08
namespace Go.Proofs.YtjdjahckdgbkbaeDoor.xResizePanes
open Go.ChangeShapes Go.WideShapes Go.ChangeAt Go.RowKit Go.Joins
set_option linter.unusedVariables false
attribute [local go_sem] growUpon_value growUpon_skip growUpon_enter
attribute [local go_sem] givesUpon_value givesUpon_skip givesUpon_enter
set_option maxHeartbeats 1000000
theorem both (S M : List Int) (y : Int) (hL1 : S.length ≤ 1048576) (hL2 : M.length ≤ 1048576) (a0 : Addr) : ∃ (R Q : List Int) (t : Bool), R.length ≤ 1048576 ∧ Q.length ≤ 1048576 ∧
    (∀ (w1 : World) (v : Value) (lo hi : Nat), PS lo hi w1 v S M → Calls Tryd.prog 14 #[v, .int .i64 y] w1 fun e w' => (∃ x, e = .returned (.tuple #[x, .bool t]) ∧ PR w' x R Q) ∧ Below w1.heap.size w1 w') ∧
    (∀ (w1 : World) (v : Value) (lo hi : Nat), PS lo hi w1 v S M → w1.cell? ⟨0, 0, none⟩ = some (.iface 106 (.pointer (some a0))) → Calls Tryd.prog 13 #[v, .int .i64 y] w1 fun e w' => (∃ x, e = .returned (.tuple #[x, .bool t]) ∧ PS w1.heap.size w'.heap.size w' x R Q) ∧ Below w1.heap.size w1 w') := by
  have hno : (¬ pnP S M ∨ (pnP S M ∧ rng y 0 400 = false)) ∨ (pnP S M ∧ rng y 0 400 = true) := by
    by_cases hv : pnP S M
    · cases hy : rng y 0 400
      · exact .inl (.inr ⟨hv, rfl⟩)
      · exact .inr ⟨hv, rfl⟩
    · exact .inl (.inl hv)
  rcases hno with hno | ⟨hv, hy⟩
  · refine ⟨[], [], false, by simp, by simp, fun w1 v lo hi' hp => ?_, fun w1 v lo hi' hp _ => ?_⟩
    · rcases hp with ⟨rfl, rfl, rfl⟩ | ⟨g1, c1, g2, c2, rfl, _, _, _, _, _, o1, o2⟩
      · exact (sResizePanes_no none none 0 0 [] [] y w1 (NV.nil _ _) (NV.nil _ _) hL2 hL1 hno).mono fun e w' ⟨h1, h2⟩ => ⟨⟨_, h1, _, _, rfl, ⟨none, 0, rfl, NV.nil _ _⟩, ⟨none, 0, rfl, NV.nil _ _⟩⟩, h2⟩
      · exact (sResizePanes_no _ _ c1 c2 S M y w1 o1.nv o2.nv hL2 hL1 hno).mono fun e w' ⟨h1, h2⟩ => ⟨⟨_, h1, _, _, rfl, ⟨none, 0, rfl, NV.nil _ _⟩, ⟨none, 0, rfl, NV.nil _ _⟩⟩, h2⟩
    · rcases hp with ⟨rfl, rfl, rfl⟩ | ⟨g1, c1, g2, c2, rfl, _, _, _, _, _, o1, o2⟩
      · exact (ResizePanes_no none none 0 0 [] [] y w1 (NV.nil _ _) (NV.nil _ _) hL2 hL1 hno).mono fun e w' ⟨h1, h2⟩ => ⟨⟨_, h1, .inl ⟨rfl, rfl, rfl⟩⟩, h2⟩
      · exact (ResizePanes_no _ _ c1 c2 S M y w1 o1.nv o2.nv hL2 hL1 hno).mono fun e w' ⟨h1, h2⟩ => ⟨⟨_, h1, .inl ⟨rfl, rfl, rfl⟩⟩, h2⟩
  · cases ht : resB S M y
    · refine ⟨[], [], false, by simp, by simp, fun w1 v lo hi' hp => ?_, fun w1 v lo hi' hp h0 => ?_⟩
      · rcases hp with ⟨rfl, rfl, rfl⟩ | ⟨g1, c1, g2, c2, rfl, _, _, _, _, _, o1, o2⟩
        · exact absurd hv.one (by simp)
        · exact (sResizePanes_full _ _ c1 c2 S M y w1 o1.nv o2.nv hL2 hL1 hv hy ht).mono fun e w' ⟨h1, h2⟩ => ⟨⟨_, h1, _, _, rfl, ⟨none, 0, rfl, NV.nil _ _⟩, ⟨none, 0, rfl, NV.nil _ _⟩⟩, h2⟩
      · rcases hp with ⟨rfl, rfl, rfl⟩ | ⟨g1, c1, g2, c2, rfl, _, _, _, _, _, o1, o2⟩
        · exact absurd hv.one (by simp)
        · exact (ResizePanes_full _ _ c1 c2 S M y w1 o1.nv o2.nv hL2 hL1 hv hy ht a0 h0).mono fun e w' ⟨h1, h2⟩ => ⟨⟨_, h1, .inl ⟨rfl, rfl, rfl⟩⟩, h2⟩
    · have hlen := (res_spec hv (rng_iff.1 hy)).len
      refine ⟨resM S M y, M, true, by omega, hL2, fun w1 v lo hi' hp => ?_, fun w1 v lo hi' hp h0 => ?_⟩
      · rcases hp with ⟨rfl, rfl, rfl⟩ | ⟨g1, c1, g2, c2, rfl, _, _, _, _, _, o1, o2⟩
        · exact absurd hv.one (by simp)
        · refine (sResizePanes_yes _ _ c1 c2 S M y w1 o1.nv o2.nv hL2 hL1 hv hy ht).mono ?_
          rintro e w' ⟨⟨v1, v2, rfl, ⟨b1, q1, rfl, _, p1⟩, ⟨b2, q2, rfl, _, p2⟩⟩, hb⟩
          exact ⟨⟨_, rfl, _, _, rfl, p1.nr (by rw [hlen]) _, p2.nr rfl _⟩, hb⟩
      · rcases hp with ⟨rfl, rfl, rfl⟩ | ⟨g1, c1, g2, c2, rfl, _, _, _, _, _, o1, o2⟩
        · exact absurd hv.one (by simp)
        · exact (ResizePanes_yes _ _ c1 c2 S M y w1 o1.nv o2.nv hL2 hL1 hv hy ht a0 h0).mono fun e w' ⟨⟨v, h1, h3⟩, h2⟩ => ⟨⟨_, h1, h3⟩, h2⟩
set_option maxRecDepth 100000 in
theorem walk (A : Option Addr) (c : Nat) (S : List Int) (A' : Option Addr) (c' : Nat) (M : List Int) (y : Int) (w : World) (k1 : NV w A S ∧ S.length ≤ maxLen) (k2 : NV w A' M ∧ M.length ≤ maxLen) (a0 : Addr) (h0 : w.cell? ⟨0, 0, none⟩ = some (.iface 106 (.pointer (some a0)))) : Calls Tryd.prog 6 #[.agg #[.slice A S.length c, .slice A' M.length c'], .int .i64 y] w fun e w' => e = .returned (.bool true) ∧ Below w.heap.size w w' := by
  obtain ⟨hn1, hm1⟩ := k1
  obtain ⟨hn2, hm2⟩ := k2
  have HX := Lib.hid (newS w (.cells #[.slice A S.length c, .slice A' M.length c'] 43))
  have HB := Lib.hid (balloc (o := (.cells #[.slice A S.length c, .slice A' M.length c'] 43)) (Below.refl w.heap.size w))
  by_cases hL : S.length + M.length ≤ 1048576
  · have hL1 : S.length ≤ 1048576 := by omega
    have hL2 : M.length ≤ 1048576 := by omega
    obtain ⟨R, Q, t, hR, hQ, hS, hI⟩ := both S M y hL1 hL2 a0
    have hzs : 0 < w.heap.size := World.block_lt_of_cell? _ _ h0
    have H0 := Lib.hid h0
    clear h0
    have tb : (t == t) = true := by cases t <;> rfl
    have HS := Lib.hid hS
    have HI := Lib.hid hI
    clear hS hI
    have qk : ¬ (1 : Int) + S.length + M.length < 0 := by omega
    have qm : ¬ (1 : Int) + R.length + Q.length < 0 := by omega
    go_enter Tryd.func6, Tryd.ntmps6
    go_wp2_with fail
    with_reducible refine (szPanes_yes A A' S.length c M.length c' _ hL).mono ?_
    rintro e w1 ⟨⟨q, rfl, hq⟩, hb⟩
    have hq' : ¬ q < 0 := by omega
    replace HX := Lib.hid ((hb.block _ (Array.getElem?_eq_some_iff.1 HX.out).1).trans HX.out)
    replace HB := Lib.hid (bkeep2 HB.out hb)
    clear hb
    obtain ⟨c0, c1⟩ := c2L HX.out
    go_wp2_with fail
    with_reducible refine (toPanes_v A A' c c' S M _ (hn1.keep HB.out) (hn2.keep HB.out) hL1 hL2).mono ?_
    rintro e w2 ⟨⟨v2, rfl, hp2⟩, hb⟩
    clear c0 c1
    replace HX := Lib.hid ((hb.block _ (Array.getElem?_eq_some_iff.1 HX.out).1).trans HX.out)
    replace HB := Lib.hid (bkeep2 HB.out hb)
    clear hb
    go_wp2_with fail
    with_reducible refine (HS.out _ v2 _ _ hp2).mono ?_
    rintro e w3 ⟨⟨v3, rfl, hp3⟩, hb⟩
    clear hp2
    replace HX := Lib.hid ((hb.block _ (Array.getElem?_eq_some_iff.1 HX.out).1).trans HX.out)
    replace HB := Lib.hid (bkeep2 HB.out hb)
    clear hb
    have HX3 := Lib.hid HX.out
    have HB3 := Lib.hid HB.out
    obtain ⟨_, _, rfl, ⟨D1, f1, rfl, n3⟩, ⟨D2, f2, rfl, n4⟩⟩ := hp3
    have HWV := Lib.hid (show PR w3 (.agg #[.slice D1 R.length f1, .slice D2 Q.length f2]) R Q from ⟨_, _, rfl, nrOf f1 n3, nrOf f2 n4⟩)
    have hl3 : w.heap.size < w3.heap.size := ltS HX.out
    clear n3 n4 HX HB
    have HW := Lib.hid (newS w3 (.cells #[.slice D1 R.length f1, .slice D2 Q.length f2] 35))
    have hb : Below w3.heap.size w3 (w3.alloc (.cells #[.slice D1 R.length f1, .slice D2 Q.length f2] 35)) := balloc (Below.refl _ _)
    have HC := Lib.hid hb
    have hs3 : (w3.alloc (.cells #[.slice D1 R.length f1, .slice D2 Q.length f2] 35)).heap.size = w3.heap.size + 1 := by simp
    clear hb
    have hx3 := (HC.out.block w.heap.size (ltS HX3.out)).trans HX3.out
    obtain ⟨ca0, ca1⟩ := c2L hx3
    clear hx3
    go_wp2_with fail
    with_reducible refine (toPanes_v A A' c c' S M _ (hn1.keep (HB3.out.trans (HC.out.mono HB3.out.size))) (hn2.keep (HB3.out.trans (HC.out.mono HB3.out.size))) hL1 hL2).mono ?_
    rintro e w4 ⟨⟨v4, rfl, hp4⟩, hb⟩
    rw [hs3] at hp4
    have hs4 : w3.heap.size + 1 ≤ w4.heap.size := by have := hb.size; omega
    clear ca0 ca1
    replace HW := Lib.hid ((hb.block _ (ltS HW.out)).trans HW.out)
    replace HC := Lib.hid (HC.out.trans (hb.mono HC.out.size))
    clear hb
    obtain ⟨_, _, rfl, ⟨B1, e1, rfl, -⟩, ⟨B2, e2, rfl, -⟩⟩ := hp4.pr
    have HXV := Lib.hid hp4
    clear hp4
    have HY := Lib.hid (newS w4 (.cells #[.slice B1 S.length e1, .slice B2 M.length e2] 35))
    have hb : Below w4.heap.size w4 (w4.alloc (.cells #[.slice B1 S.length e1, .slice B2 M.length e2] 35)) := balloc (Below.refl _ _)
    have hs4' : (w4.alloc (.cells #[.slice B1 S.length e1, .slice B2 M.length e2] 35)).heap.size = w4.heap.size + 1 := by simp
    replace HW := Lib.hid ((hb.block _ (ltS HW.out)).trans HW.out)
    replace HXV := Lib.hid (HXV.out.keep hb)
    replace HC := Lib.hid (HC.out.trans (hb.mono HC.out.size))
    clear hb
    obtain ⟨d0, d1⟩ := c2L HY.out
    go_wp2_with fail
    with_reducible refine (HI.out _ _ _ _ HXV.out ((World.cell?_of_block ((HB3.out.trans (HC.out.mono HB3.out.size)).block 0 hzs)).trans H0.out)).mono ?_
    rintro e w5 ⟨⟨v5, rfl, hp5⟩, hb⟩
    rw [hs4'] at hp5
    have hs5 : w4.heap.size + 1 ≤ w5.heap.size := by have := hb.size; omega
    clear d0 d1
    replace HW := Lib.hid ((hb.block _ (ltS HW.out)).trans HW.out)
    replace HY := Lib.hid ((hb.block _ (ltS HY.out)).trans HY.out)
    replace HXV := Lib.hid (HXV.out.keep hb)
    replace HC := Lib.hid (HC.out.trans (hb.mono HC.out.size))
    clear hb
    obtain ⟨_, _, rfl, ⟨G1, q1, rfl, -⟩, ⟨G2, q2, rfl, -⟩⟩ := hp5.pr
    have HGV := Lib.hid hp5
    clear hp5
    have HZ := Lib.hid (newS w5 (.cells #[.slice G1 R.length q1, .slice G2 Q.length q2] 35))
    have hb : Below w5.heap.size w5 (w5.alloc (.cells #[.slice G1 R.length q1, .slice G2 Q.length q2] 35)) := balloc (Below.refl _ _)
    replace HW := Lib.hid ((hb.block _ (ltS HW.out)).trans HW.out)
    replace HY := Lib.hid ((hb.block _ (ltS HY.out)).trans HY.out)
    replace HXV := Lib.hid (HXV.out.keep hb)
    replace HGV := Lib.hid (HGV.out.keep hb)
    replace HC := Lib.hid (HC.out.trans (hb.mono HC.out.size))
    clear hb
    obtain ⟨d0, d1⟩ := c2L HZ.out
    obtain ⟨p0, p1⟩ := c2L HW.out
    go_wp2_with fail
    with_reducible refine (eqPanes_same _ _ R Q _ HGV.out.pr (HWV.out.keep HC.out) hR hQ).mono ?_
    rintro e w6 ⟨rfl, hb⟩
    clear d0 d1 p0 p1
    replace HW := Lib.hid ((hb.block _ (ltS HW.out)).trans HW.out)
    replace HY := Lib.hid ((hb.block _ (ltS HY.out)).trans HY.out)
    replace HZ := Lib.hid ((hb.block _ (ltS HZ.out)).trans HZ.out)
    replace HXV := Lib.hid (HXV.out.keep hb)
    replace HGV := Lib.hid (HGV.out.keep hb)
    replace HC := Lib.hid (HC.out.trans (hb.mono HC.out.size))
    clear hb
    have hx3 := (HC.out.block w.heap.size (ltS HX3.out)).trans HX3.out
    obtain ⟨ca0, ca1⟩ := c2L hx3
    clear hx3
    obtain ⟨d0, d1⟩ := c2L HY.out
    have hla : w.heap.size < w6.heap.size := by have := HC.out.size; omega
    have hlx := ltS HY.out
    go_wp2_with fail
    refine wp_region_rx (XV (.agg #[.slice B1 S.length e1, .slice B2 M.length e2]) :: XV (.agg #[.slice A S.length c, .slice A' M.length c']) :: (fun v a => PR a v S M) :: XV (.bool true) :: XV (.bool false) :: []) (by kernel_rfl) (by kernel_rfl) ?hTs ?hops ?hfin
    case hTs =>
      intro T hT
      simp only [List.mem_cons, List.not_mem_nil, or_false] at hT
      rcases hT with rfl | rfl | rfl | rfl | rfl <;> first | exact stay_V _ | exact stay_T | exact stay_of (fun v a b x g => x.keep g) | exact stay_of (fun v a b x g => x)
    case hops =>
      refine ⟨opOK_rx [(8, none)] (by kernel_rfl) rfl ?_, ?_⟩
      · intro act w' hw' h1
        have hk : ∀ v, act.eval (.const v) = v := fun _ => rfl
        have hf : ∀ f, act.eval (.func f) = .func (.func f) #[] #[] := fun _ => rfl
        generalize act.eval = ρ at *
        replace h1 : ρ (.tmp 8) = .pointer (some ⟨w4.heap.size, 0, none⟩) := h1
        refine gx_gen (fun K hK => ?_)
        obtain ⟨hc, hf'⟩ := bcell (bdrewn hw'.out)
        go_simp
        exact hK _ _ ⟨rfl, Gr.refl _⟩
      refine ⟨opOK_rx [(2, none)] (by kernel_rfl) rfl ?_, ?_⟩
      · intro act w' hw' h1
        have hk : ∀ v, act.eval (.const v) = v := fun _ => rfl
        have hf : ∀ f, act.eval (.func f) = .func (.func f) #[] #[] := fun _ => rfl
        generalize act.eval = ρ at *
        replace h1 : ρ (.tmp 2) = .pointer (some ⟨w.heap.size, 0, none⟩) := h1
        refine gx_gen (fun K hK => ?_)
        obtain ⟨hc, hf'⟩ := bcell (bdrewn hw'.out)
        go_simp
        exact hK _ _ ⟨rfl, Gr.refl _⟩
      refine ⟨opOK_rx [(46, some 1)] (by kernel_rfl) rfl ?_, ?_⟩
      · intro act w' hw' h1
        have hk : ∀ v, act.eval (.const v) = v := fun _ => rfl
        have hf : ∀ f, act.eval (.func f) = .func (.func f) #[] #[] := fun _ => rfl
        generalize act.eval = ρ at *
        replace h1 : ρ (.tmp 46) = .agg #[.slice A S.length c, .slice A' M.length c'] := h1
        refine gx_gen (fun K hK => ?_)
        obtain ⟨hc, hf'⟩ := bcell (bdrewn hw'.out)
        go_simp
        (with_reducible refine (toPanes_v A A' c c' S M _ ((hn1.keep (HB3.out.trans (HC.out.mono HB3.out.size))).keep (bdrewn hw'.out)) ((hn2.keep (HB3.out.trans (HC.out.mono HB3.out.size))).keep (bdrewn hw'.out)) hL1 hL2).mono ?_); rintro e w2 ⟨⟨v, rfl, hv⟩, hb⟩; exact ⟨v, rfl, hK _ _ ⟨hv.pr, Gr.of hb⟩⟩
      refine ⟨opOK_rx [(45, some 0), (47, some 2)] (by kernel_rfl) rfl ?_, ?_⟩
      · intro act w' hw' h1 h2
        have hk : ∀ v, act.eval (.const v) = v := fun _ => rfl
        have hf : ∀ f, act.eval (.func f) = .func (.func f) #[] #[] := fun _ => rfl
        generalize act.eval = ρ at *
        replace h1 : ρ (.tmp 45) = .agg #[.slice B1 S.length e1, .slice B2 M.length e2] := h1
        replace h2 : (fun v a => PR a v S M) (ρ (.tmp 47)) w' := h2
        refine gx_gen (fun K hK => ?_)
        obtain ⟨hc, hf'⟩ := bcell (bdrewn hw'.out)
        go_simp
        (with_reducible refine (eqPanes_same _ _ S M _ (HXV.out.pr.keep (bdrewn hw'.out)) h2 hL1 hL2).mono ?_); rintro e w2 ⟨rfl, hb⟩; exact ⟨_, rfl, hK _ _ ⟨rfl, Gr.of hb⟩⟩
      refine ⟨opOK_rx [(48, some 3)] (by kernel_rfl) rfl ?_, ?_⟩
      · intro act w' hw' h1
        have hk : ∀ v, act.eval (.const v) = v := fun _ => rfl
        have hf : ∀ f, act.eval (.func f) = .func (.func f) #[] #[] := fun _ => rfl
        generalize act.eval = ρ at *
        replace h1 : ρ (.tmp 48) = .bool true := h1
        refine gx_gen (fun K hK => ?_)
        obtain ⟨hc, hf'⟩ := bcell (bdrewn hw'.out)
        go_simp
        exact hK _ _ ⟨rfl, Gr.refl _⟩
      exact trivial
    case hfin =>
      intro w9 hg9
      intro v45 t45
      replace t45 : v45 = .agg #[.slice B1 S.length e1, .slice B2 M.length e2] := t45
      subst t45
      intro v46 t46
      replace t46 : v46 = .agg #[.slice A S.length c, .slice A' M.length c'] := t46
      subst t46
      intro v47 t47
      replace t47 : (fun v a => PR a v S M) v47 w9 := t47
      intro v48 t48
      replace t48 : v48 = .bool true := t48
      subst t48
      intro v49 t49
      replace t49 : v49 = .bool false := t49
      subst t49
      have hb9 := bdrewn hg9.out
      clear hg9
      simp only [finP, Act.put, List.setIfInBounds_toArray, List.set_cons_succ, List.set_cons_zero]
      have hb := hb9
      clear hb9 ca0 ca1 d0 d1 hla hlx
      replace HW := Lib.hid ((hb.block _ (ltS HW.out)).trans HW.out)
      replace HY := Lib.hid ((hb.block _ (ltS HY.out)).trans HY.out)
      replace HZ := Lib.hid ((hb.block _ (ltS HZ.out)).trans HZ.out)
      replace HXV := Lib.hid (HXV.out.keep hb)
      replace HGV := Lib.hid (HGV.out.keep hb)
      replace HC := Lib.hid (HC.out.trans (hb.mono HC.out.size))
      clear hb
      obtain ⟨d0, d1⟩ := c2L HY.out
      go_wp2_with fail
      with_reducible refine (markPanes_v _ _ _ S M _ HXV.out hL1 hL2).mono ?_
      rintro e w10 ⟨rfl, -, hcb⟩
      clear d0 d1 HXV
      have hlHW := ltS HW.out
      have hlHY := ltS HY.out
      have hlHZ := ltS HZ.out
      replace HW := Lib.hid ((hcb.block _ (ltS HW.out) (.inl (by omega))).trans HW.out)
      replace HY := Lib.hid ((hcb.block _ (ltS HY.out) (.inr (by omega))).trans HY.out)
      replace HZ := Lib.hid ((hcb.block _ (ltS HZ.out) (.inr (by omega))).trans HZ.out)
      replace HGV := Lib.hid (HGV.out.but hcb (by omega))
      replace HC := Lib.hid (HC.out.trans ((hcb.below (by have := HC.out.size; omega)).mono (by omega)))
      clear hcb hlHW hlHY hlHZ
      obtain ⟨d0, d1⟩ := c2L HZ.out
      obtain ⟨p0, p1⟩ := c2L HW.out
      go_wp2_with fail
      with_reducible refine (eqPanes_same _ _ R Q _ HGV.out.pr (HWV.out.keep HC.out) hR hQ).mono ?_
      rintro e w11 ⟨rfl, hb⟩
      clear d0 d1 p0 p1
      replace HW := Lib.hid ((hb.block _ (ltS HW.out)).trans HW.out)
      replace HZ := Lib.hid ((hb.block _ (ltS HZ.out)).trans HZ.out)
      replace HGV := Lib.hid (HGV.out.keep hb)
      replace HC := Lib.hid (HC.out.trans (hb.mono HC.out.size))
      clear hb
      obtain ⟨d0, d1⟩ := c2L HZ.out
      go_wp2_with fail
      with_reducible refine (markPanes_v _ _ _ R Q _ HGV.out hR hQ).mono ?_
      rintro e w12 ⟨rfl, hpm, hcb⟩
      have HGM := Lib.hid hpm
      clear d0 d1 HGV hpm
      have hlHW := ltS HW.out
      have hlHZ := ltS HZ.out
      replace HW := Lib.hid ((hcb.block _ (ltS HW.out) (.inl (by omega))).trans HW.out)
      replace HZ := Lib.hid ((hcb.block _ (ltS HZ.out) (.inr (by omega))).trans HZ.out)
      replace HC := Lib.hid (HC.out.trans ((hcb.below (by have := HC.out.size; omega)).mono (by omega)))
      clear hcb hlHW hlHZ
      obtain ⟨d0, d1⟩ := c2L HZ.out
      go_wp2_with fail
      with_reducible refine (heldPanes_v _ _ _ _ HGM.out hR hQ).mono ?_
      rintro e w13 ⟨rfl, hb⟩
      clear d0 d1
      replace HW := Lib.hid ((hb.block _ (ltS HW.out)).trans HW.out)
      replace HZ := Lib.hid ((hb.block _ (ltS HZ.out)).trans HZ.out)
      replace HGM := Lib.hid (HGM.out.keep hb)
      replace HC := Lib.hid (HC.out.trans (hb.mono HC.out.size))
      clear hb
      have hx3 := (HC.out.block w.heap.size (ltS HX3.out)).trans HX3.out
      obtain ⟨ca0, ca1⟩ := c2L hx3
      clear hx3
      go_wp2_with fail
      with_reducible refine (toPanes_v A A' c c' S M _ (hn1.keep (HB3.out.trans (HC.out.mono HB3.out.size))) (hn2.keep (HB3.out.trans (HC.out.mono HB3.out.size))) hL1 hL2).mono ?_
      rintro e w14 ⟨⟨v14, rfl, hp14⟩, hb⟩
      clear ca0 ca1
      replace HW := Lib.hid ((hb.block _ (ltS HW.out)).trans HW.out)
      replace HZ := Lib.hid ((hb.block _ (ltS HZ.out)).trans HZ.out)
      replace HGM := Lib.hid (HGM.out.keep hb)
      replace HC := Lib.hid (HC.out.trans (hb.mono HC.out.size))
      clear hb
      go_wp2_with fail
      with_reducible refine (HI.out _ v14 _ _ hp14 ((World.cell?_of_block ((HB3.out.trans (HC.out.mono HB3.out.size)).block 0 hzs)).trans H0.out)).mono ?_
      rintro e w15 ⟨⟨v15, rfl, hp15⟩, hb⟩
      clear hp14
      replace HW := Lib.hid ((hb.block _ (ltS HW.out)).trans HW.out)
      replace HZ := Lib.hid ((hb.block _ (ltS HZ.out)).trans HZ.out)
      replace HGM := Lib.hid (HGM.out.keep hb)
      replace HC := Lib.hid (HC.out.trans (hb.mono HC.out.size))
      clear hb
      obtain ⟨_, _, rfl, ⟨J1, j1, rfl, -⟩, ⟨J2, j2, rfl, -⟩⟩ := hp15.pr
      have HHV := Lib.hid hp15.pr
      clear hp15
      have HV := Lib.hid (newS w15 (.cells #[.slice J1 R.length j1, .slice J2 Q.length j2] 35))
      have hb : Below w15.heap.size w15 (w15.alloc (.cells #[.slice J1 R.length j1, .slice J2 Q.length j2] 35)) := balloc (Below.refl _ _)
      replace HW := Lib.hid ((hb.block _ (ltS HW.out)).trans HW.out)
      replace HZ := Lib.hid ((hb.block _ (ltS HZ.out)).trans HZ.out)
      replace HGM := Lib.hid (HGM.out.keep hb)
      replace HHV := Lib.hid (HHV.out.keep hb)
      replace HC := Lib.hid (HC.out.trans (hb.mono HC.out.size))
      clear hb
      obtain ⟨d0, d1⟩ := c2L HV.out
      obtain ⟨p0, p1⟩ := c2L HW.out
      go_wp2_with fail
      with_reducible refine (eqPanes_same _ _ R Q _ HHV.out (HWV.out.keep HC.out) hR hQ).mono ?_
      rintro e w16 ⟨rfl, hb⟩
      clear d0 d1 p0 p1 HHV HV
      replace HZ := Lib.hid ((hb.block _ (ltS HZ.out)).trans HZ.out)
      replace HGM := Lib.hid (HGM.out.keep hb)
      replace HC := Lib.hid (HC.out.trans (hb.mono HC.out.size))
      clear hb
      obtain ⟨d0, d1⟩ := c2L HZ.out
      go_wp2_with fail
      with_reducible refine (heldPanes_v _ _ _ _ HGM.out hR hQ).mono ?_
      rintro e w17 ⟨rfl, hb⟩
      clear d0 d1
      replace HC := Lib.hid (HC.out.trans (hb.mono HC.out.size))
      clear hb
      go_wp2
      go_ret
      exact ⟨rfl, HB3.out.trans (HC.out.mono HB3.out.size)⟩
  · go_enter Tryd.func6, Tryd.ntmps6
    go_wp2_with fail
    with_reducible refine (szPanes_no A A' S.length c M.length c' _ hL hm1 hm2).mono ?_
    rintro e w1 ⟨rfl, hb⟩
    replace HB := Lib.hid (bkeep2 HB.out hb)
    clear hb
    go_wp2
    go_ret
    exact ⟨rfl, HB.out⟩
set_option maxRecDepth 100000 in
theorem lifted (os : Os) (started : os.Started) (H : Type) (enc : TypeId × Value → H) :
    ReturnsInHanded {} Tryd.checked os 6 .any (fun w args => (Rows.fnExactResizePanesSpec.pre enc Tryd.prog Tryd.f6 [] false w args ∧ laidMetH Tryd.prog Rows.fnExactResizePanesRow.laid w) ∧ sizedMet enc Tryd.prog Tryd.f6 (OpenSpec.ofChange Rows.fnExactResizePanesSpec) false w args) (Rows.fnExactResizePanesSpec.post enc Tryd.prog Tryd.f6 false true false false) := by
  refine returnsInHanded_of_change_and (C := Tryd.checked) (X := fun w _ => laidMetH Tryd.prog Rows.fnExactResizePanesRow.laid w) (fun _ _ _ hh h => h.of_heap hh) own started (by kernel_rfl) Tryd.func6
    (ChangeSpec.witness_at (enc := enc) (C := Tryd.checked) (os := os) (X := fun w _ => laidMetH Tryd.prog Rows.fnExactResizePanesRow.laid w) false (LD.world os) #[.agg #[.slice none 0 0, .slice none 0 0], .int .i64 0] 8 rfl (by kernel_rfl) (by kernel_rfl) (by kernel_rfl) (by kernel_rfl) (by kernel_rfl) (LD.met os _)) ?_
  intro W base args ds gs before hval0 hW hcnd _ hL _
  have hval : ∀ (j : Nat) t v, Tryd.f6.params[j]? = some t → args[j]? = some v → Value.okWide Tryd.prog W .any base t v := hval0
  have hW' := hW
  obtain ⟨p, q, hA0, hV, rfl, hfz, hnd⟩ := hW
  have hA : DataW.TrodAll enc Tryd.prog W 0 (fun _ => true) true Tryd.f6.params.toList args.toList ds p := hA0
  rw [Tryd.params6] at hA hval
  obtain ⟨v0, vs0, d0, ds0, p0, q0, hargs, rfl, rfl, h0, r0⟩ := trodAll_cons hA
  obtain ⟨v1, vs1, d1, ds1, p1, q1, rfl, rfl, rfl, h1, r1⟩ := trodAll_cons r0
  obtain ⟨rfl, rfl, rfl⟩ := trodAll_nil r1
  obtain rfl : args = #[v0, v1] := by cases args; simp_all
  have hV2 : DataW.TrodVars enc Tryd.prog W (fun _ => true) ["loop.example/widgetroom/impl.errNoRoom"] gs q := hV
  obtain ⟨b0, hv0, hg0⟩ := LD.opens hL
  obtain ⟨rfl, rfl⟩ := hV2.unique (vars_read1 enc LD.gE LD.gEType Tryd.underlying59 hv0 trivial _)
  clear hV hV2
  have k0 := h0
  have lt0 : ∀ x ∈ p0, x.block < W.heap.size := by obtain ⟨m, hm⟩ := k0; exact DataW.trod_lt m _ _ _ hm
  obtain ⟨a0a, c0a, z0a, a0b, c0b, z0b, rfl, wz0a, wz0b⟩ := panes_of (hval 0 43 v0 rfl rfl) h0
  have k1 := h1
  have lt1 : ∀ x ∈ p1, x.block < W.heap.size := by obtain ⟨m, hm⟩ := k1; exact DataW.trod_lt m _ _ _ hm
  obtain ⟨x1, rfl, _, _, wx1⟩ := open_int Tryd.underlying3 (hval 1 3 v1 rfl rfl) h1
  clear hA0 hval0
  refine (walk a0a c0a z0a a0b c0b z0b x1 W wz0a wz0b b0 hg0).mono fun e W' ⟨he, bel⟩ => ?_
  subst he
  exact ⟨_, rfl, _, _, _, [], _, [.cell 0 0], hW', trodAll_mk1 (shut_bool Tryd.underlying4 _), (trodAll_cons_mk (Below.trod laidOut (by kernel_rfl) (of_decide_eq_true (by kernel_rfl)) k0 bel lt0) (trodAll_cons_mk (Below.trod laidOut (by kernel_rfl) (of_decide_eq_true (by kernel_rfl)) k1 bel lt1) trodAll_mk0)), vars_read1 enc LD.gE LD.gEType Tryd.underlying59 (LD.var_below hv0 bel) trivial _, bel.frame _, fun h => by cases h⟩
theorem over : Rows.fnExactResizePanesRow.holds Tryd.pinned (OpenSpec.ofChange Rows.fnExactResizePanesSpec) :=
  OpenClaim.holds_of_wide 6 Tryd.f6 rfl rfl rfl rfl rfl rfl rfl ⟨rfl, rfl, rfl, rfl, rfl⟩ rfl rfl rfl rfl rfl (by kernel_rfl) Tryd.func6 (by kernel_rfl)
    (of_decide_eq_true (by kernel_rfl)) (by unfold Func.isWrapper; first | (rw [if_pos (by decide +kernel)]; kernel_rfl) | (rw [if_neg (by decide +kernel)]; exact ⟨rfl, rfl⟩))
    (fun os started H enc _ => lifted os started H enc)
theorem proved : Rows.FnExactResizePanesCardSaid :=
  Claim7.holds_tied_plain_at .later [] [.sentinel] true (true, "75e81dd97c9cfb63a1fb11cff37c3892da58c4b35b0c8750450bf23e2f61e971") true over (fun _ h => by cases h) (by kernel_rfl) (fun _ h => by cases h) fnExactResizePanes_row_tie rfl ⟨rfl, rfl⟩ (by kernel_rfl) rfl
    (fun f fn hf hfn => by
      obtain rfl : f = 6 := Option.some.inj ((show Tryd.prog.funcNamed "loop.example/widgetroom/laws.FnExactResizePanes" = some 6 by kernel_rfl).symm.trans hf) |>.symm
      obtain rfl : fn = Tryd.f6 := (Option.some.inj (Tryd.func6.symm.trans hfn)).symm
      refine ⟨by kernel_rfl, fun j t ht => ?_⟩
      rw [Tryd.params6] at ht
      rcases j with _ | _ | j
      · exact (Option.some.inj ht) ▸ (show Tryd.prog.wantsStandIn 43 = false by kernel_rfl)
      · exact (Option.some.inj ht) ▸ (show Tryd.prog.wantsStandIn 3 = false by kernel_rfl)
      · simp at ht)
    (by kernel_rfl)
end Go.Proofs.YtjdjahckdgbkbaeDoor.xResizePanes
