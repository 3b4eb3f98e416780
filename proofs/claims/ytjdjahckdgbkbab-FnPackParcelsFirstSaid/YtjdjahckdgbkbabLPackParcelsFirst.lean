/- FnPackParcelsFirst: for every code the law returns true. No condition. -/
import Derived.Test.YtjdjahckdgbkbabQ10
namespace Go.Proofs.Ytjdjahckdgbkbab.lPackParcelsFirst
open Go.ChangeShapes Go.WideShapes Go.ChangeAt Go.RowKit Go.Joins
set_option linter.unusedVariables false
set_option maxHeartbeats 1000000
attribute [local go_sem 5000] run_mx run_mn run_eqlR run_neqR
attribute [local go_sem] growUpon_value growUpon_skip growUpon_enter givesUpon_value givesUpon_skip givesUpon_enter
theorem gp_take {L : List Pk} {a b : Int} (h : gpB L a b = true) (k : Nat) : gpB (L.take k) a b = true := by
  obtain ⟨hv, hr⟩ := gpB_yes h
  obtain ⟨h1, h2⟩ := vpsB_iff.1 hv
  have : vpsB (L.take k) = true := vpsB_iff.2 ⟨fun p hp => h1 p (List.mem_of_mem_take hp), by rw [List.length_take]; omega⟩
  simp [gpB, this, hr]
theorem par_take {L : List Pk} {a b : Int} (h : gpB L a b = true) (k : Nat) (hx : ∀ p ∈ L, p.ex = false) : parL (L.take k) a b = (parL L a b).take k := by
  unfold parL
  rw [h, gp_take h]
  simp only [if_true]
  exact parcM_noex hx k
theorem noex_all {L : List Pk} {k : Nat} (hk : L.length ≤ k) (h : ∀ i p, i < k → L[i]? = some p → p.ex = false) : ∀ p ∈ L, p.ex = false := fun p hp => by
  obtain ⟨i, hi, e⟩ := List.mem_iff_getElem.1 hp
  exact h i p (by omega) (by rw [List.getElem?_eq_getElem hi, e])
set_option maxRecDepth 100000 in
theorem walk (A : Option Addr) (n c : Nat) (z : List Int) (w : World) (wz : IsRow .u8 w A n c z) : Calls Try.prog 8 #[.slice A n c] w fun e w' => e = .returned (.bool true) ∧ Below w.heap.size w w' := by
  obtain ⟨hb, hn, hc⟩ := wz.bts
  clear wz
  by_cases hlen : n ≤ 1048576
  · have hl1 : ¬ (1048576 : Int) < n := by omega
    go_enter Try.func8, Try.ntmps8
    go_wp2_with fail
    with_reducible refine (DrawPackParcels_any A n c _ hb hn hc).mono ?_
    rintro e w1 ⟨⟨A', c', L, a, b, rfl, hL8, hcap, hpv⟩, hB⟩
    have HB := Lib.hid hB
    clear hb hn hc hB
    have hL : L.length ≤ 1048576 := by omega
    have hM7 := parL_len (L := L) (u := a) (v := b)
    obtain ⟨M, hM⟩ : ∃ M, parL L a b = M := ⟨_, rfl⟩
    rw [hM] at hM7
    have HM := Lib.hid hM
    have HP := Lib.hid hpv
    clear hM hpv
    go_wp2_with fail
    with_reducible refine (PackParcels_n A' c' _ L a b _ HP.out rfl hcap hL M HM.out).mono ?_
    rintro e w2 ⟨⟨B, rfl, hrv⟩, hb2⟩
    replace HP := Lib.hid (HP.out.keep hb2)
    replace HB := Lib.hid (bkeep2 HB.out hb2)
    clear hb2
    have HV := Lib.hid hrv
    clear hrv
    by_cases hM0 : M.length = 0
    · have hm0 : ((M.length : Int) == 0) = true := by rw [hM0]; rfl
      clear hM0
      go_wp2_with fail
      with_reducible refine (sPackParcels_n A' c' _ L a b _ HP.out rfl hcap hL M HM.out).mono ?_
      rintro e w3 ⟨⟨r, rfl, hrv⟩, hb3⟩
      replace HP := Lib.hid (HP.out.keep hb3)
      replace HV := Lib.hid (HV.out.keep hb3)
      replace HB := Lib.hid (bkeep2 HB.out hb3)
      clear hb3
      go_wp2_with fail
      with_reducible refine (equalRects_z _ _ M _ HV.out hrv (by omega)).mono ?_
      rintro e w4 ⟨rfl, hb4⟩
      clear hrv
      replace HP := Lib.hid (HP.out.keep hb4)
      replace HV := Lib.hid (HV.out.keep hb4)
      replace HB := Lib.hid (bkeep2 HB.out hb4)
      clear hb4
      go_wp2_with fail
      with_reducible refine (sPackParcels_n A' c' _ L a b _ HP.out rfl hcap hL M HM.out).mono ?_
      rintro e w5 ⟨⟨r, rfl, hrv⟩, hb5⟩
      replace HP := Lib.hid (HP.out.keep hb5)
      replace HV := Lib.hid (HV.out.keep hb5)
      replace HB := Lib.hid (bkeep2 HB.out hb5)
      clear hb5
      go_wp2_with fail
      with_reducible refine (equalRects_z _ _ M _ HV.out hrv (by omega)).mono ?_
      rintro e w6 ⟨rfl, hb6⟩
      clear hrv
      replace HP := Lib.hid (HP.out.keep hb6)
      replace HV := Lib.hid (HV.out.keep hb6)
      replace HB := Lib.hid (bkeep2 HB.out hb6)
      clear hb6
      go_wp2
      go_ret
      exact ⟨rfl, HB.out⟩
    · have hm0 : ((M.length : Int) == 0) = false := beq_eq_false_iff_ne.2 (by omega)
      have hg : gpB L a b = true := by
        cases hg : gpB L a b
        · exfalso; apply hM0; rw [← HM.out]; simp [parL, hg]
        · rfl
      have hML : M.length = L.length := by rw [← HM.out]; simp [parL, hg, parcM_len]
      have HG := Lib.hid hg
      clear hg
      obtain ⟨j, hj⟩ : ∃ j, L.length = j + 1 := ⟨L.length - 1, by omega⟩
      have HML := Lib.hid hML
      have HJ := Lib.hid hj
      have hjl : j < L.length := by omega
      have hjm : j < M.length := by omega
      clear hM0 hML hj
      go_wp2_with fail
      with_reducible refine (sPackParcels_n A' c' _ L a b _ HP.out rfl hcap hL M HM.out).mono ?_
      rintro e w3 ⟨⟨r, rfl, hrv⟩, hb3⟩
      replace HP := Lib.hid (HP.out.keep hb3)
      replace HV := Lib.hid (HV.out.keep hb3)
      replace HB := Lib.hid (bkeep2 HB.out hb3)
      clear hb3
      go_wp2_with fail
      with_reducible refine (equalRects_z _ _ M _ HV.out hrv (by omega)).mono ?_
      rintro e w4 ⟨rfl, hb4⟩
      clear hrv
      replace HP := Lib.hid (HP.out.keep hb4)
      replace HV := Lib.hid (HV.out.keep hb4)
      replace HB := Lib.hid (bkeep2 HB.out hb4)
      clear hb4
      go_wp2_with fail
      go_loopw [7] (fun i wr => ∃ k : Nat, k ≤ L.length ∧ i = .int .i64 k ∧ (∀ i p, i < k → L[i]? = some p → p.ex = false) ∧ Below w4.heap.size w4 wr) (fun i _ => L.length - (intOf i).toNat)
      case atStart => exact ⟨0, by omega, rfl, fun i p hi => absurd hi (by omega), Below.refl _ _⟩
      case round =>
        obtain ⟨k, hk, rfl, hxs, hBr⟩ := hrel
        have HP' := Lib.hid (HP.out.keep hBr)
        have HV' := Lib.hid (HV.out.keep hBr)
        have HB' := Lib.hid (bkeep2 HB.out hBr)
        have HBr' := Lib.hid hBr
        clear HP HV HB hBr
        by_cases hlt : k < L.length
        · have hd : decide ((k : Int) < (L.length : Int)) = true := by simpa using hlt
          obtain ⟨bp, off, rfl, hbp, hps⟩ := HP'.out.cells (by omega)
          have hget : L[k]? = some L[k] := List.getElem?_eq_getElem hlt
          obtain ⟨c0, c1, c2, c3, c4, c5, c6, c7, c8⟩ := hps k _ hget
          generalize hx : L[k] = p at *
          have HG' := Lib.hid hget
          have HX := Lib.hid hx
          clear hget hx hps
          have HXS := Lib.hid hxs
          clear hxs
          cases hex : p.ex
          · rw [hex] at c5
            have HE := Lib.hid hex
            clear hex
            go_wp2
            go_roundw
            case rel => exact ⟨k + 1, by omega, by go_num, fun i q hi hq => by
              by_cases hik : i = k
              · subst hik
                have := HG'.out
                rw [this] at hq
                obtain rfl := Option.some.inj hq
                exact HE.out
              · exact HXS.out i q (by omega) hq, (HBr'.out)⟩
            case measure => simp [intOf]; omega
          · rw [hex] at c5
            clear hex
            go_wp2
            go_ret
            exact ⟨rfl, HB'.out⟩
        · have hd : decide ((k : Int) < (L.length : Int)) = false := by simp; omega
          have hall := noex_all (by omega) hxs
          have hpt := par_take HG.out j hall
          rw [HM.out] at hpt
          have HPT := Lib.hid hpt
          have e1 : (L.length : Int) - 1 = (j : Int) := by have := HJ.out; omega
          have e2 : (M.length : Int) - 1 = (j : Int) := by have := HJ.out; have := HML.out; omega
          have e3 : IntKind.i64.wrap ((L.length : Int) - 1) = (j : Int) := by rw [e1]; exact IntWalk.i64_in _ (by omega)
          have e4 : IntKind.i64.wrap ((M.length : Int) - 1) = (j : Int) := by rw [e2]; exact IntWalk.i64_in _ (by omega)
          have hjc : j ≤ c' := by omega
          have hjM : j ≤ M.length := by omega
          have hj0 : (0 : Int) ≤ (j : Int) := by omega
          have hj1 : ((j : Int)).toNat = j := by omega
          clear hxs hall hpt e1 e2
          go_wp2_with fail
          refine wp_region_rx (XV (.slice A' L.length c') :: XV (.slice A' L.length c') :: XV (.int .i64 L.length) :: XV (.int .i64 j) :: XV (.slice A' j c') :: XV (.int .i64 a) :: XV (.int .i64 b) :: (fun v w => RV w v (M.take j)) :: XV (.slice B M.length M.length) :: XV (.slice B M.length M.length) :: XV (.int .i64 M.length) :: XV (.int .i64 j) :: XV (.slice B j M.length) :: XV (.bool true) :: XV (.bool true) :: []) (by kernel_rfl) (by kernel_rfl) ?hTs ?hops ?hfin
          case hTs =>
            intro T hT
            simp only [List.mem_cons, List.not_mem_nil, or_false] at hT
            rcases hT with rfl | rfl | rfl | rfl | rfl | rfl | rfl | rfl | rfl | rfl | rfl | rfl | rfl | rfl | rfl <;> first | exact stay_V _ | exact stay_T | exact stay_of (fun v a b x g => x.keep g) | exact stay_of (fun v a b x g => x)
          case hops =>
            refine ⟨opOK_rx [(3, none)] (by kernel_rfl) rfl ?_, ?_⟩
            · intro act w' hw' h1
              have hk : ∀ v, act.eval (.const v) = v := fun _ => rfl
              have hf : ∀ f, act.eval (.func f) = .func (.func f) #[] #[] := fun _ => rfl
              generalize act.eval = ρ at *
              replace h1 : ρ (.tmp 3) = .slice A' L.length c' := h1
              refine gx_gen (fun K hK => ?_)
              obtain ⟨hc, hf'⟩ := bcell (bdrewn hw'.out)
              go_simp
              exact hK _ _ ⟨rfl, Gr.refl _⟩
            refine ⟨opOK_rx [(3, none)] (by kernel_rfl) rfl ?_, ?_⟩
            · intro act w' hw' h1
              have hk : ∀ v, act.eval (.const v) = v := fun _ => rfl
              have hf : ∀ f, act.eval (.func f) = .func (.func f) #[] #[] := fun _ => rfl
              generalize act.eval = ρ at *
              replace h1 : ρ (.tmp 3) = .slice A' L.length c' := h1
              refine gx_gen (fun K hK => ?_)
              obtain ⟨hc, hf'⟩ := bcell (bdrewn hw'.out)
              go_simp
              exact hK _ _ ⟨rfl, Gr.refl _⟩
            refine ⟨opOK_rx [(51, some 1)] (by kernel_rfl) rfl ?_, ?_⟩
            · intro act w' hw' h1
              have hk : ∀ v, act.eval (.const v) = v := fun _ => rfl
              have hf : ∀ f, act.eval (.func f) = .func (.func f) #[] #[] := fun _ => rfl
              generalize act.eval = ρ at *
              replace h1 : ρ (.tmp 51) = .slice A' L.length c' := h1
              refine gx_gen (fun K hK => ?_)
              obtain ⟨hc, hf'⟩ := bcell (bdrewn hw'.out)
              go_simp
              exact hK _ _ ⟨rfl, Gr.refl _⟩
            refine ⟨opOK_rx [(52, some 2)] (by kernel_rfl) rfl ?_, ?_⟩
            · intro act w' hw' h1
              have hk : ∀ v, act.eval (.const v) = v := fun _ => rfl
              have hf : ∀ f, act.eval (.func f) = .func (.func f) #[] #[] := fun _ => rfl
              generalize act.eval = ρ at *
              replace h1 : ρ (.tmp 52) = .int .i64 L.length := h1
              refine gx_gen (fun K hK => ?_)
              obtain ⟨hc, hf'⟩ := bcell (bdrewn hw'.out)
              go_simp
              exact hK _ _ ⟨rfl, Gr.refl _⟩
            refine ⟨opOK_rx [(50, some 0), (53, some 3)] (by kernel_rfl) rfl ?_, ?_⟩
            · intro act w' hw' h1 h2
              have hk : ∀ v, act.eval (.const v) = v := fun _ => rfl
              have hf : ∀ f, act.eval (.func f) = .func (.func f) #[] #[] := fun _ => rfl
              generalize act.eval = ρ at *
              replace h1 : ρ (.tmp 50) = .slice A' L.length c' := h1
              replace h2 : ρ (.tmp 53) = .int .i64 j := h2
              refine gx_gen (fun K hK => ?_)
              obtain ⟨hc, hf'⟩ := bcell (bdrewn hw'.out)
              go_simp
              exact hK _ _ ⟨rfl, Gr.refl _⟩
            refine ⟨opOK_rx [(4, none)] (by kernel_rfl) rfl ?_, ?_⟩
            · intro act w' hw' h1
              have hk : ∀ v, act.eval (.const v) = v := fun _ => rfl
              have hf : ∀ f, act.eval (.func f) = .func (.func f) #[] #[] := fun _ => rfl
              generalize act.eval = ρ at *
              replace h1 : ρ (.tmp 4) = .int .i64 a := h1
              refine gx_gen (fun K hK => ?_)
              obtain ⟨hc, hf'⟩ := bcell (bdrewn hw'.out)
              go_simp
              exact hK _ _ ⟨rfl, Gr.refl _⟩
            refine ⟨opOK_rx [(5, none)] (by kernel_rfl) rfl ?_, ?_⟩
            · intro act w' hw' h1
              have hk : ∀ v, act.eval (.const v) = v := fun _ => rfl
              have hf : ∀ f, act.eval (.func f) = .func (.func f) #[] #[] := fun _ => rfl
              generalize act.eval = ρ at *
              replace h1 : ρ (.tmp 5) = .int .i64 b := h1
              refine gx_gen (fun K hK => ?_)
              obtain ⟨hc, hf'⟩ := bcell (bdrewn hw'.out)
              go_simp
              exact hK _ _ ⟨rfl, Gr.refl _⟩
            refine ⟨opOK_rx [(54, some 4), (55, some 5), (56, some 6)] (by kernel_rfl) rfl ?_, ?_⟩
            · intro act w' hw' h1 h2 h3
              have hk : ∀ v, act.eval (.const v) = v := fun _ => rfl
              have hf : ∀ f, act.eval (.func f) = .func (.func f) #[] #[] := fun _ => rfl
              generalize act.eval = ρ at *
              replace h1 : ρ (.tmp 54) = .slice A' j c' := h1
              replace h2 : ρ (.tmp 55) = .int .i64 a := h2
              replace h3 : ρ (.tmp 56) = .int .i64 b := h3
              refine gx_gen (fun K hK => ?_)
              obtain ⟨hc, hf'⟩ := bcell (bdrewn hw'.out)
              go_simp
              (with_reducible refine (PackParcels_n A' c' j (L.take j) a b _ ((HP'.out.keep (bdrewn hw'.out)).take j) (by simp; omega) (by omega) (by omega) _ HPT.out).mono ?_); rintro e w1 ⟨⟨B1, rfl, hr1⟩, hb1⟩; exact ⟨_, rfl, hK _ _ ⟨hr1, hb1⟩⟩
            refine ⟨opOK_rx [(6, none)] (by kernel_rfl) rfl ?_, ?_⟩
            · intro act w' hw' h1
              have hk : ∀ v, act.eval (.const v) = v := fun _ => rfl
              have hf : ∀ f, act.eval (.func f) = .func (.func f) #[] #[] := fun _ => rfl
              generalize act.eval = ρ at *
              replace h1 : ρ (.tmp 6) = .slice B M.length M.length := h1
              refine gx_gen (fun K hK => ?_)
              obtain ⟨hc, hf'⟩ := bcell (bdrewn hw'.out)
              go_simp
              exact hK _ _ ⟨rfl, Gr.refl _⟩
            refine ⟨opOK_rx [(6, none)] (by kernel_rfl) rfl ?_, ?_⟩
            · intro act w' hw' h1
              have hk : ∀ v, act.eval (.const v) = v := fun _ => rfl
              have hf : ∀ f, act.eval (.func f) = .func (.func f) #[] #[] := fun _ => rfl
              generalize act.eval = ρ at *
              replace h1 : ρ (.tmp 6) = .slice B M.length M.length := h1
              refine gx_gen (fun K hK => ?_)
              obtain ⟨hc, hf'⟩ := bcell (bdrewn hw'.out)
              go_simp
              exact hK _ _ ⟨rfl, Gr.refl _⟩
            refine ⟨opOK_rx [(59, some 9)] (by kernel_rfl) rfl ?_, ?_⟩
            · intro act w' hw' h1
              have hk : ∀ v, act.eval (.const v) = v := fun _ => rfl
              have hf : ∀ f, act.eval (.func f) = .func (.func f) #[] #[] := fun _ => rfl
              generalize act.eval = ρ at *
              replace h1 : ρ (.tmp 59) = .slice B M.length M.length := h1
              refine gx_gen (fun K hK => ?_)
              obtain ⟨hc, hf'⟩ := bcell (bdrewn hw'.out)
              go_simp
              exact hK _ _ ⟨rfl, Gr.refl _⟩
            refine ⟨opOK_rx [(60, some 10)] (by kernel_rfl) rfl ?_, ?_⟩
            · intro act w' hw' h1
              have hk : ∀ v, act.eval (.const v) = v := fun _ => rfl
              have hf : ∀ f, act.eval (.func f) = .func (.func f) #[] #[] := fun _ => rfl
              generalize act.eval = ρ at *
              replace h1 : ρ (.tmp 60) = .int .i64 M.length := h1
              refine gx_gen (fun K hK => ?_)
              obtain ⟨hc, hf'⟩ := bcell (bdrewn hw'.out)
              go_simp
              exact hK _ _ ⟨rfl, Gr.refl _⟩
            refine ⟨opOK_rx [(58, some 8), (61, some 11)] (by kernel_rfl) rfl ?_, ?_⟩
            · intro act w' hw' h1 h2
              have hk : ∀ v, act.eval (.const v) = v := fun _ => rfl
              have hf : ∀ f, act.eval (.func f) = .func (.func f) #[] #[] := fun _ => rfl
              generalize act.eval = ρ at *
              replace h1 : ρ (.tmp 58) = .slice B M.length M.length := h1
              replace h2 : ρ (.tmp 61) = .int .i64 j := h2
              refine gx_gen (fun K hK => ?_)
              obtain ⟨hc, hf'⟩ := bcell (bdrewn hw'.out)
              go_simp
              exact hK _ _ ⟨rfl, Gr.refl _⟩
            refine ⟨opOK_rx [(57, some 7), (62, some 12)] (by kernel_rfl) rfl ?_, ?_⟩
            · intro act w' hw' h1 h2
              have hk : ∀ v, act.eval (.const v) = v := fun _ => rfl
              have hf : ∀ f, act.eval (.func f) = .func (.func f) #[] #[] := fun _ => rfl
              generalize act.eval = ρ at *
              replace h1 : (fun v w => RV w v (M.take j)) (ρ (.tmp 57)) w' := h1
              replace h2 : ρ (.tmp 62) = .slice B j M.length := h2
              refine gx_gen (fun K hK => ?_)
              obtain ⟨hc, hf'⟩ := bcell (bdrewn hw'.out)
              go_simp
              (with_reducible refine (equalRects_z _ _ (M.take j) _ h1 ((HV'.out.keep (bdrewn hw'.out)).take j (by omega)) (by simp; omega)).mono ?_); rintro e w1 ⟨rfl, hb1⟩; exact ⟨_, rfl, hK _ _ ⟨rfl, hb1⟩⟩
            refine ⟨opOK_rx [(63, some 13)] (by kernel_rfl) rfl ?_, ?_⟩
            · intro act w' hw' h1
              have hk : ∀ v, act.eval (.const v) = v := fun _ => rfl
              have hf : ∀ f, act.eval (.func f) = .func (.func f) #[] #[] := fun _ => rfl
              generalize act.eval = ρ at *
              replace h1 : ρ (.tmp 63) = .bool true := h1
              refine gx_gen (fun K hK => ?_)
              obtain ⟨hc, hf'⟩ := bcell (bdrewn hw'.out)
              go_simp
              exact hK _ _ ⟨rfl, Gr.refl _⟩
            exact trivial
          case hfin =>
            intro w5 hg5
            intro v50 t50
            replace t50 : v50 = .slice A' L.length c' := t50
            subst t50
            intro v51 t51
            replace t51 : v51 = .slice A' L.length c' := t51
            subst t51
            intro v52 t52
            replace t52 : v52 = .int .i64 L.length := t52
            subst t52
            intro v53 t53
            replace t53 : v53 = .int .i64 j := t53
            subst t53
            intro v54 t54
            replace t54 : v54 = .slice A' j c' := t54
            subst t54
            intro v55 t55
            replace t55 : v55 = .int .i64 a := t55
            subst t55
            intro v56 t56
            replace t56 : v56 = .int .i64 b := t56
            subst t56
            intro v57 t57
            replace t57 : (fun v w => RV w v (M.take j)) v57 w5 := t57
            intro v58 t58
            replace t58 : v58 = .slice B M.length M.length := t58
            subst t58
            intro v59 t59
            replace t59 : v59 = .slice B M.length M.length := t59
            subst t59
            intro v60 t60
            replace t60 : v60 = .int .i64 M.length := t60
            subst t60
            intro v61 t61
            replace t61 : v61 = .int .i64 j := t61
            subst t61
            intro v62 t62
            replace t62 : v62 = .slice B j M.length := t62
            subst t62
            intro v63 t63
            replace t63 : v63 = .bool true := t63
            subst t63
            intro v2 t2
            replace t2 : v2 = .bool true := t2
            subst t2
            have hb5 := bdrewn hg5.out
            clear hg5
            simp only [finP, Act.put, List.setIfInBounds_toArray, List.set_cons_succ, List.set_cons_zero]
            go_wp2
            go_ret
            exact ⟨rfl, bkeep2 HB'.out hb5⟩
  · have hl1 : (1048576 : Int) < n := by omega
    go_enter Try.func8, Try.ntmps8
    go_wp2
    go_ret
    exact ⟨rfl, Below.refl _ _⟩
set_option maxRecDepth 100000 in
theorem lifted (os : Os) (started : os.Started) (H : Type) (enc : TypeId × Value → H) :
    ReturnsInHanded {} Try.checked os 8 .any (Rows.fnPackParcelsFirstSpec.pre6 enc Try.prog Try.f8 Rows.fnPackParcelsFirstRow.domain false) (Rows.fnPackParcelsFirstSpec.post enc Try.prog Try.f8 false true false false) := by
  refine returnsInHanded_of_change (C := Try.checked) own started (by kernel_rfl) Try.func8
    (ChangeSpec.witness6 (enc := enc) (C := Try.checked) false ⟨#[], #[.slice none 0 0], []⟩ 8 (by kernel_rfl) (by kernel_rfl) (by kernel_rfl) (by kernel_rfl)) ?_
  intro W base args ds gs before hval0 hW hcnd _
  have hval : ∀ (j : Nat) t v, Try.f8.params[j]? = some t → args[j]? = some v → Value.okWide Try.prog W .any base t v := hval0
  have hW' := hW
  obtain ⟨p, q, hA0, hV, rfl, hfz, hnd⟩ := hW
  have hA : DataW.TrodAll enc Try.prog W 0 (fun _ => true) true Try.f8.params.toList args.toList ds p := hA0
  rw [Try.params8] at hA hval
  obtain ⟨v0, vs0, d0, ds0, p0, q0, hargs, rfl, rfl, h0, r0⟩ := trodAll_cons hA
  obtain ⟨rfl, rfl, rfl⟩ := trodAll_nil r0
  obtain rfl : args = #[v0] := by cases args; simp_all
  obtain ⟨rfl, rfl⟩ := trodVars_none hV
  have k0 := h0
  have lt0 : ∀ x ∈ p0, x.block < W.heap.size := by obtain ⟨m, hm⟩ := k0; exact DataW.trod_lt m _ _ _ hm
  obtain ⟨a0, len0, cap0, rfl⟩ := okWide_slice Try.underlying29 (hval 0 29 v0 rfl rfl)
  obtain ⟨z0, wz0⟩ : ∃ zs, IsRow .u8 W a0 len0 cap0 zs := by
    obtain ⟨fuel, hf⟩ := h0
    rcases open_ints Try.underlying29 Try.underlying5 (by kernel_rfl) hf with ⟨hcs, _⟩ | ⟨x, l, c, zs, hcs, _, hl, hm, hz, _, hcell, hwz⟩
    · simp [Value.cells] at hcs
      obtain ⟨rfl, rfl, rfl⟩ := hcs
      exact ⟨[], .inl ⟨rfl, rfl, rfl, rfl⟩⟩
    · simp [Value.cells] at hcs
      obtain ⟨rfl, rfl, rfl⟩ := hcs
      exact ⟨zs, .inr ⟨_, rfl, hl, hm, by simpa using hz, hcell, hwz⟩⟩
  clear hA0 hval0
  refine (walk a0 len0 cap0 z0 W wz0).mono fun e W' ⟨he, bel⟩ => ?_
  subst he
  exact ⟨_, rfl, _, _, _, [], _, [], hW', trodAll_mk1 (shut_bool Try.underlying4 _), (trodAll_cons_mk (Below.trod laidOut (by kernel_rfl) (of_decide_eq_true (by kernel_rfl)) k0 bel lt0) trodAll_mk0), rfl, bel.frame _, fun h => by cases h⟩
theorem over : Rows.fnPackParcelsFirstRow.holds Try.pinned (OpenSpec.ofChange Rows.fnPackParcelsFirstSpec) :=
  OpenClaim.holds_of_wide 8 Try.f8 rfl rfl rfl rfl rfl rfl rfl ⟨rfl, rfl, rfl, rfl, rfl⟩ rfl rfl rfl rfl rfl (by kernel_rfl) Try.func8 (by kernel_rfl)
    (of_decide_eq_true (by kernel_rfl)) (by unfold Func.isWrapper; first | (rw [if_pos (by decide +kernel)]; kernel_rfl) | (rw [if_neg (by decide +kernel)]; exact ⟨rfl, rfl⟩))
    (fun os started H enc _ => lifted os started H enc)
theorem proved : Rows.FnPackParcelsFirstSaid := over
end Go.Proofs.Ytjdjahckdgbkbab.lPackParcelsFirst
