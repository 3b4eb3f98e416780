/- FnPackFits: for every code the law returns true. No condition. -/
import Derived.Test.YtjdjahckdgbkbabQ10
namespace Go.Proofs.Ytjdjahckdgbkbab.lPackFits
open Go.ChangeShapes Go.WideShapes Go.ChangeAt Go.RowKit Go.Joins
set_option linter.unusedVariables false
set_option maxHeartbeats 1000000
attribute [local go_sem 5000] run_mx run_mn run_eqlR run_neqR
attribute [local go_sem] growUpon_value growUpon_skip growUpon_enter
theorem pos_all {L : List Pk} {k : Nat} (hk : L.length ≤ k) (hok : ∀ p ∈ L, p.ok = true) (h : ∀ i p, i < k → L[i]? = some p → p.w ≠ 0 ∧ p.h ≠ 0) : ∀ p ∈ L, 0 < p.w ∧ 0 < p.h := fun p hp => by
  obtain ⟨i, hi, e⟩ := List.mem_iff_getElem.1 hp
  have h1 := h i p (by omega) (by rw [List.getElem?_eq_getElem hi, e])
  have h2 := vpB_iff.1 (hok p hp)
  omega
set_option maxRecDepth 100000 in
theorem walk (A : Option Addr) (n c : Nat) (z : List Int) (w : World) (wz : IsRow .u8 w A n c z) : Calls Try.prog 4 #[.slice A n c] w fun e w' => e = .returned (.bool true) ∧ Below w.heap.size w w' := by
  obtain ⟨hb, hn, hc⟩ := wz.bts
  clear wz
  by_cases hlen : n ≤ 1048576
  · have hl1 : ¬ (1048576 : Int) < n := by omega
    go_enter Try.func4, Try.ntmps4
    go_wp2_with fail
    with_reducible refine (DrawPackFits_any A n c _ hb hn hc).mono ?_
    rintro e w1 ⟨⟨A', c', L, u, v, rfl, hL8, hcap, hpv⟩, hB⟩
    have HB := Lib.hid hB
    clear hb hn hc hB
    have hL : L.length ≤ 1048576 := by omega
    have HP := Lib.hid hpv
    clear hpv
    obtain ⟨B, hBv⟩ : ∃ B, (gpB L u v && fitB L (recL L u v)) = B := ⟨_, rfl⟩
    have HV := Lib.hid hBv
    clear hBv
    cases hg : gpB L u v
    · have hgv : (vpsB L && rmB u v) = false := hg
      cases B
      all_goals
        go_wp2_with fail
        with_reducible refine (PackFits_c A' c' L u v _ HP.out hcap hL _ HV.out).mono ?_
        rintro e w2 ⟨rfl, hb2⟩
        replace HP := Lib.hid (HP.out.keep hb2)
        replace HB := Lib.hid (bkeep2 HB.out hb2)
        clear hb2
        go_wp2_with fail
        with_reducible refine (sPackFits_c A' c' L u v _ HP.out hcap hL _ HV.out).mono ?_
        rintro e w3 ⟨rfl, hb3⟩
        replace HP := Lib.hid (HP.out.keep hb3)
        replace HB := Lib.hid (bkeep2 HB.out hb3)
        clear hb3
        go_wp2_with fail
        with_reducible refine (goodPacks_any A' c' L u v _ HP.out hL false hgv).mono ?_
        rintro e w4 ⟨rfl, hb4⟩
        replace HP := Lib.hid (HP.out.keep hb4)
        replace HB := Lib.hid (bkeep2 HB.out hb4)
        clear hb4
        go_wp2_with fail
        with_reducible refine (sPackFits_c A' c' L u v _ HP.out hcap hL _ HV.out).mono ?_
        rintro e w5 ⟨rfl, hb5⟩
        replace HP := Lib.hid (HP.out.keep hb5)
        replace HB := Lib.hid (bkeep2 HB.out hb5)
        clear hb5
        go_wp2
        go_ret
        exact ⟨rfl, HB.out⟩
    · have hgv : (vpsB L && rmB u v) = true := hg
      obtain ⟨hvv, hrr⟩ := gpB_yes hg
      have hok := (vpsB_iff.1 hvv).1
      have hfit : fitB L (setL L (parcM L ⟨0, 0, u, v⟩).1) = B := by rw [← HV.out]; simp [hg, recL]
      obtain ⟨⟨a, b⟩, hr⟩ : ∃ p, reqP L = p := ⟨_, rfl⟩
      have hreq : reqM L = (a, b) := by rw [← hr]; simp [reqP, hvv]
      have h1 : a ≤ u → b ≤ v → B = true := fun h1 h2 => by
        rw [← hfit]
        exact fits_if hok (rmB_ok hrr) (by rw [hreq]; exact h1) (by rw [hreq]; exact h2)
      have h2 : (∀ p ∈ L, 0 < p.w ∧ 0 < p.h) → B = true → a ≤ u ∧ b ≤ v := fun h0 hB => by
        rw [← hfit] at hB
        have := fits_only hok h0 (rmB_ok hrr) hB
        rw [hreq] at this
        exact this
      have H1 := Lib.hid h1
      have H2 := Lib.hid h2
      have HR := Lib.hid hr
      have HK := Lib.hid hok
      clear h1 h2 hr hok hfit hreq hvv hrr
      cases B <;> by_cases hau : a ≤ u <;> by_cases hbv : b ≤ v
      · exact absurd (H1.out hau hbv) (by simp)
      all_goals
        go_wp2_with fail
        with_reducible refine (PackFits_c A' c' L u v _ HP.out hcap hL _ HV.out).mono ?_
        rintro e w2 ⟨rfl, hb2⟩
        replace HP := Lib.hid (HP.out.keep hb2)
        replace HB := Lib.hid (bkeep2 HB.out hb2)
        clear hb2
        go_wp2_with fail
        with_reducible refine (sPackFits_c A' c' L u v _ HP.out hcap hL _ HV.out).mono ?_
        rintro e w3 ⟨rfl, hb3⟩
        replace HP := Lib.hid (HP.out.keep hb3)
        replace HB := Lib.hid (bkeep2 HB.out hb3)
        clear hb3
        go_wp2_with fail
        with_reducible refine (goodPacks_any A' c' L u v _ HP.out hL true hgv).mono ?_
        rintro e w4 ⟨rfl, hb4⟩
        replace HP := Lib.hid (HP.out.keep hb4)
        replace HB := Lib.hid (bkeep2 HB.out hb4)
        clear hb4
        go_wp2_with fail
        with_reducible refine (PackRequest_c A' c' _ L _ HP.out rfl hL a b HR.out).mono ?_
        rintro e w5 ⟨rfl, hb5⟩
        replace HP := Lib.hid (HP.out.keep hb5)
        replace HB := Lib.hid (bkeep2 HB.out hb5)
        clear hb5
        have hau' := Lib.hid hau
        have hbv' := Lib.hid hbv
        have q1 : decide (a ≤ u) = decide (a ≤ u) := rfl
        first | replace q1 : decide (a ≤ u) = true := by simpa using hau'.out | replace q1 : decide (a ≤ u) = false := by simpa using hau'.out
        have q2 : decide (b ≤ v) = decide (b ≤ v) := rfl
        first | replace q2 : decide (b ≤ v) = true := by simpa using hbv'.out | replace q2 : decide (b ≤ v) = false := by simpa using hbv'.out
        clear hau hbv
        go_wp2_with fail
        go_loopw [10] (fun i wr => ∃ k : Nat, k ≤ L.length ∧ i = .int .i64 k ∧ (∀ i p, i < k → L[i]? = some p → p.w ≠ 0 ∧ p.h ≠ 0) ∧ Below w5.heap.size w5 wr) (fun i _ => L.length - (intOf i).toNat)
        case atStart => exact ⟨0, by omega, rfl, fun i p hi => absurd hi (by omega), Below.refl _ _⟩
        case round =>
          obtain ⟨k, hk, rfl, hxs, hBr⟩ := hrel
          by_cases hlt : k < L.length
          · have hd : decide ((k : Int) < (L.length : Int)) = true := by simpa using hlt
            obtain ⟨bp, off, rfl, hbp, hps⟩ := (HP.out.keep hBr).cells (by omega)
            have hget : L[k]? = some L[k] := List.getElem?_eq_getElem hlt
            obtain ⟨c0, c1, c2, c3, c4, c5, c6, c7, c8⟩ := hps k _ hget
            generalize hx : L[k] = p at *
            have HGT := Lib.hid hget
            have HXS := Lib.hid hxs
            have HBR := Lib.hid hBr
            clear hget hx hps hxs hBr
            by_cases hw : p.w = 0
            · have e1 : (p.w == 0) = true := by simpa using hw
              clear hw
              go_wp2
              go_ret
              exact ⟨rfl, HB.out.trans (HBR.out.mono HB.out.size)⟩
            · have e1 : (p.w == 0) = false := by simpa using hw
              by_cases hh : p.h = 0
              · have e2 : (p.h == 0) = true := by simpa using hh
                have HW := Lib.hid hw
                clear hh hw
                go_wp2
                go_ret
                exact ⟨rfl, HB.out.trans (HBR.out.mono HB.out.size)⟩
              · have e2 : (p.h == 0) = false := by simpa using hh
                have HW := Lib.hid hw
                have HH := Lib.hid hh
                clear hh hw
                go_wp2
                go_roundw
                case rel => exact ⟨k + 1, by omega, by go_num, fun i q hi hq => by
                  by_cases hik : i = k
                  · subst hik
                    have := HGT.out
                    rw [this] at hq
                    obtain rfl := Option.some.inj hq
                    exact ⟨HW.out, HH.out⟩
                  · exact HXS.out i q (by omega) hq, HBR.out⟩
                case measure => simp [intOf]; omega
          · have hd : decide ((k : Int) < (L.length : Int)) = false := by simp; omega
            have hpos := pos_all (by omega) HK.out hxs
            have h2 := H2.out hpos
            have HBR := Lib.hid hBr
            first
            | (have h3 := h2 trivial
               have h4 := hau'.out
               have h5 := hbv'.out
               exfalso
               omega)
            | (clear h2 hpos hxs hBr
               go_wp2
               go_ret
               refine ⟨?_, HB.out.trans (HBR.out.mono HB.out.size)⟩
               first | rfl | simp)
  · have hl1 : (1048576 : Int) < n := by omega
    go_enter Try.func4, Try.ntmps4
    go_wp2
    go_ret
    exact ⟨rfl, Below.refl _ _⟩
set_option maxRecDepth 100000 in
theorem lifted (os : Os) (started : os.Started) (H : Type) (enc : TypeId × Value → H) :
    ReturnsInHanded {} Try.checked os 4 .any (Rows.fnPackFitsSpec.pre6 enc Try.prog Try.f4 Rows.fnPackFitsRow.domain false) (Rows.fnPackFitsSpec.post enc Try.prog Try.f4 false true false false) := by
  refine returnsInHanded_of_change (C := Try.checked) own started (by kernel_rfl) Try.func4
    (ChangeSpec.witness6 (enc := enc) (C := Try.checked) false ⟨#[], #[.slice none 0 0], []⟩ 8 (by kernel_rfl) (by kernel_rfl) (by kernel_rfl) (by kernel_rfl)) ?_
  intro W base args ds gs before hval0 hW hcnd _
  have hval : ∀ (j : Nat) t v, Try.f4.params[j]? = some t → args[j]? = some v → Value.okWide Try.prog W .any base t v := hval0
  have hW' := hW
  obtain ⟨p, q, hA0, hV, rfl, hfz, hnd⟩ := hW
  have hA : DataW.TrodAll enc Try.prog W 0 (fun _ => true) true Try.f4.params.toList args.toList ds p := hA0
  rw [Try.params4] at hA hval
  obtain ⟨v0, vs0, d0, ds0, p0, q0, hargs, rfl, rfl, h0, r0⟩ := trodAll_cons hA
  obtain ⟨rfl, rfl, rfl⟩ := trodAll_nil r0
  obtain rfl : args = #[v0] := by cases args; simp_all
  obtain ⟨rfl, rfl⟩ := trodVars_none hV
  have k0 := h0
  have lt0 : ∀ x ∈ p0, x.block < W.heap.size := by obtain ⟨m, hm⟩ := k0; exact DataW.trod_lt m _ _ _ hm
  obtain ⟨a0, len0, cap0, rfl⟩ := okWide_slice Try.underlying29 (hval 0 29 v0 rfl rfl)
  obtain ⟨z0, wz0⟩ : ∃ zs, IsRow .u8 W a0 len0 cap0 zs := by
    obtain ⟨fuel, hf⟩ := h0
    rcases open_ints Try.underlying29 Try.underlying5 (by kernel_rfl) hf with ⟨hcs, _⟩ | ⟨x, l, c, zs, hcs, _, hl, hm, hz, _, hcell, hwz⟩
    · simp [Value.cells] at hcs
      obtain ⟨rfl, rfl, rfl⟩ := hcs
      exact ⟨[], .inl ⟨rfl, rfl, rfl, rfl⟩⟩
    · simp [Value.cells] at hcs
      obtain ⟨rfl, rfl, rfl⟩ := hcs
      exact ⟨zs, .inr ⟨_, rfl, hl, hm, by simpa using hz, hcell, hwz⟩⟩
  clear hA0 hval0
  refine (walk a0 len0 cap0 z0 W wz0).mono fun e W' ⟨he, bel⟩ => ?_
  subst he
  exact ⟨_, rfl, _, _, _, [], _, [], hW', trodAll_mk1 (shut_bool Try.underlying4 _), (trodAll_cons_mk (Below.trod laidOut (by kernel_rfl) (of_decide_eq_true (by kernel_rfl)) k0 bel lt0) trodAll_mk0), rfl, bel.frame _, fun h => by cases h⟩
theorem over : Rows.fnPackFitsRow.holds Try.pinned (OpenSpec.ofChange Rows.fnPackFitsSpec) :=
  OpenClaim.holds_of_wide 4 Try.f4 rfl rfl rfl rfl rfl rfl rfl ⟨rfl, rfl, rfl, rfl, rfl⟩ rfl rfl rfl rfl rfl (by kernel_rfl) Try.func4 (by kernel_rfl)
    (of_decide_eq_true (by kernel_rfl)) (by unfold Func.isWrapper; first | (rw [if_pos (by decide +kernel)]; kernel_rfl) | (rw [if_neg (by decide +kernel)]; exact ⟨rfl, rfl⟩))
    (fun os started H enc _ => lifted os started H enc)
theorem proved : Rows.FnPackFitsSaid := over
end Go.Proofs.Ytjdjahckdgbkbab.lPackFits
