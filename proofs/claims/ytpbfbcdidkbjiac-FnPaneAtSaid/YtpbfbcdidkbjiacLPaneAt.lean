/- FnPaneAt: for every code the law returns true. No condition. -/
import Derived.Test.YtpbfbcdidkbjiacQ07
namespace Go.Proofs.Ytpbfbcdidkbjiac.lPaneAt
open Go.ChangeShapes Go.WideShapes Go.ChangeAt Go.RowKit Go.Joins
set_option linter.unusedVariables false
set_option maxHeartbeats 2000000
attribute [local go_sem 5000] run_mx run_mn
attribute [local go_sem] growUpon_value growUpon_skip growUpon_enter
set_option maxRecDepth 100000 in
theorem walk (A : Option Addr) (n c : Nat) (z : List Int) (w : World) (wz : IsRow .u8 w A n c z) : Calls Try.prog 3 #[.slice A n c] w fun e w' => e = .returned (.bool true) ∧ Below w.heap.size w w' := by
  obtain ⟨hb, hn, hc⟩ := wz.bts
  clear wz
  by_cases hlen : n ≤ 1048576
  · have hl1 : ¬ (1048576 : Int) < n := by omega
    go_enter Try.func3, Try.ntmps3
    go_wp2_with fail
    with_reducible refine (DrawPaneAt_any A n c _ hb hn hc).mono ?_
    rintro e w1 ⟨⟨A1, c1, L1, A2, c2, L2, r, rfl, v1, v2, l1, l2, l3, l4⟩, hB⟩
    have HX := Lib.hid (newS w1 (.cells #[.slice A1 L1.length c1, .slice A2 L2.length c2] 25))
    have hbb : Below w1.heap.size w1 (w1.alloc (.cells #[.slice A1 L1.length c1, .slice A2 L2.length c2] 25)) := balloc (Below.refl _ _)
    have HV1 := Lib.hid (v1.keep hbb)
    have HV2 := Lib.hid (v2.keep hbb)
    have HB := Lib.hid (balloc (o := (.cells #[.slice A1 L1.length c1, .slice A2 L2.length c2] 25)) hB)
    have k1 : L1.length ≤ 1048576 := by omega
    have k2 : L2.length ≤ 1048576 := by omega
    clear hB hb hn hc v1 v2 hbb
    obtain ⟨t, ht⟩ := vpT L1 L2
    have HT := Lib.hid ht
    clear ht
    cases t
    · have hv : ¬ pnP L1 L2 := fun h => by have := HT.out.2 h; cases this
      obtain ⟨c0, c1'⟩ := c2L HX.out
      go_wp2_with fail
      with_reducible refine (PaneAt_no A1 A2 c1 c2 L1 L2 r _ HV1.out HV2.out k2 k1 hv).mono ?_
      rintro e w2 ⟨rfl, hb⟩
      clear c0 c1'
      replace HX := Lib.hid ((hb.block _ (Array.getElem?_eq_some_iff.1 HX.out).1).trans HX.out)
      replace HV1 := Lib.hid (HV1.out.keep hb)
      replace HV2 := Lib.hid (HV2.out.keep hb)
      replace HB := Lib.hid (bkeep2 HB.out hb)
      clear hb
      obtain ⟨c0, c1'⟩ := c2L HX.out
      go_wp2_with fail
      with_reducible refine (sPaneAt_no A1 A2 c1 c2 L1 L2 r _ HV1.out HV2.out k2 k1 hv).mono ?_
      rintro e w3 ⟨rfl, hb⟩
      clear c0 c1'
      replace HX := Lib.hid ((hb.block _ (Array.getElem?_eq_some_iff.1 HX.out).1).trans HX.out)
      replace HV1 := Lib.hid (HV1.out.keep hb)
      replace HV2 := Lib.hid (HV2.out.keep hb)
      replace HB := Lib.hid (bkeep2 HB.out hb)
      clear hb
      obtain ⟨c0, c1'⟩ := c2L HX.out
      go_wp2_with fail
      with_reducible refine (ValidPanes_v A1 A2 _ _ c1 c2 L1 L2 false _ HV1.out HV2.out rfl rfl k1 k2 HT.out).mono ?_
      rintro e w4 ⟨rfl, hb⟩
      clear c0 c1'
      replace HX := Lib.hid ((hb.block _ (Array.getElem?_eq_some_iff.1 HX.out).1).trans HX.out)
      replace HV1 := Lib.hid (HV1.out.keep hb)
      replace HV2 := Lib.hid (HV2.out.keep hb)
      replace HB := Lib.hid (bkeep2 HB.out hb)
      clear hb
      obtain ⟨c0, c1'⟩ := c2L HX.out
      go_wp2_with fail
      with_reducible refine (sPaneAt_no A1 A2 c1 c2 L1 L2 r _ HV1.out HV2.out k2 k1 hv).mono ?_
      rintro e w5 ⟨rfl, hb⟩
      clear c0 c1'
      replace HX := Lib.hid ((hb.block _ (Array.getElem?_eq_some_iff.1 HX.out).1).trans HX.out)
      replace HV1 := Lib.hid (HV1.out.keep hb)
      replace HV2 := Lib.hid (HV2.out.keep hb)
      replace HB := Lib.hid (bkeep2 HB.out hb)
      clear hb
      go_wp2
      go_ret
      exact ⟨rfl, HB.out⟩
    · have hv : pnP L1 L2 := HT.out.1 rfl
      have HP := Lib.hid hv
      have HS := Lib.hid hv.smal.1
      have hnn : ∀ x ∈ L1, 0 ≤ x := fun x hx => (hv.mem.1 x hx).1
      obtain ⟨K, hK⟩ : ∃ K, lineM L1 r = K := ⟨_, rfl⟩
      have HI := Lib.hid (fun w h h' => PaneAt_yes A1 A2 c1 c2 L1 L2 r w h h' k2 k1 hv)
      have HSP := Lib.hid (fun w h h' => sPaneAt_yes A1 A2 c1 c2 L1 L2 r w h h' k2 k1 hv)
      rw [hK] at HI HSP
      have hsp := pane_spec hv r
      rw [hK] at hsp
      have hsum := hv.sum
      have ht := fun k => take_all hnn k
      have h6 := hv.six
      clear hK hv hnn
      rcases hsp with ⟨rfl, hr⟩ | ⟨k, s, rfl, hs, hr1, hr2⟩
      · obtain ⟨c0, c1'⟩ := c2L HX.out
        go_wp2_with fail
        with_reducible refine (HI.out _ HV1.out HV2.out).mono ?_
        rintro e w2 ⟨rfl, hb⟩
        clear c0 c1'
        replace HX := Lib.hid ((hb.block _ (Array.getElem?_eq_some_iff.1 HX.out).1).trans HX.out)
        replace HV1 := Lib.hid (HV1.out.keep hb)
        replace HV2 := Lib.hid (HV2.out.keep hb)
        replace HB := Lib.hid (bkeep2 HB.out hb)
        clear hb
        obtain ⟨c0, c1'⟩ := c2L HX.out
        go_wp2_with fail
        with_reducible refine (HSP.out _ HV1.out HV2.out).mono ?_
        rintro e w3 ⟨rfl, hb⟩
        clear c0 c1'
        replace HX := Lib.hid ((hb.block _ (Array.getElem?_eq_some_iff.1 HX.out).1).trans HX.out)
        replace HV1 := Lib.hid (HV1.out.keep hb)
        replace HV2 := Lib.hid (HV2.out.keep hb)
        replace HB := Lib.hid (bkeep2 HB.out hb)
        clear hb
        obtain ⟨c0, c1'⟩ := c2L HX.out
        go_wp2_with fail
        with_reducible refine (ValidPanes_v A1 A2 _ _ c1 c2 L1 L2 true _ HV1.out HV2.out rfl rfl k1 k2 (by simp [HP.out])).mono ?_
        rintro e w4 ⟨rfl, hb⟩
        clear c0 c1'
        replace HX := Lib.hid ((hb.block _ (Array.getElem?_eq_some_iff.1 HX.out).1).trans HX.out)
        replace HV1 := Lib.hid (HV1.out.keep hb)
        replace HV2 := Lib.hid (HV2.out.keep hb)
        replace HB := Lib.hid (bkeep2 HB.out hb)
        clear hb
        by_cases q1 : r < 0
        · have p1 : decide (r < 0) = true := by simpa using q1
          clear ht
          obtain ⟨c0, c1'⟩ := c2L HX.out
          go_wp2
          go_ret
          exact ⟨rfl, HB.out⟩
        · have p1 : decide (r < 0) = false := by simpa using q1
          have p2 : decide (r ≥ sumI L1) = true := by simp; omega
          clear ht
          obtain ⟨c0, c1'⟩ := c2L HX.out
          go_wp2_with fail
          with_reducible refine (ltotal_v A1 c1 L1 _ HV1.out k1 HS.out).mono ?_
          rintro e w5 ⟨rfl, rfl⟩
          go_wp2
          go_ret
          exact ⟨rfl, HB.out⟩
      · have hkl := (List.getElem?_eq_some_iff.1 hs).1
        obtain ⟨t1, t2⟩ := ht k
        have hq0 : ¬ (k : Int) < 0 := by omega
        obtain ⟨T, hT⟩ : ∃ T, sumI (L1.take k) = T := ⟨_, rfl⟩
        have HSK : Hid (Smal 1000000000000000 (L1.take k)) := Lib.hid (smal_take HS.out k)
        have elen : (L1.take k).length = k := by rw [List.length_take]; omega
        have HTT := Lib.hid hT
        rw [hT] at hr1 hr2 t1 t2
        have p1 : decide (T ≤ r) = true := by simpa using hr1
        have p2 : decide (r < T + s) = true := by simpa using hr2
        have hcap : k ≤ c1 := by omega
        have hks : k ≤ L1.length := by omega
        have hs400 : s ≤ 400 := (HP.out.mem.1 s (List.mem_of_getElem? hs)).2
        have hs0 : 0 ≤ s := (HP.out.mem.1 s (List.mem_of_getElem? hs)).1
        have HE := Lib.hid elen
        have HG := Lib.hid hs
        clear ht hT elen hs
        obtain ⟨c0, c1'⟩ := c2L HX.out
        go_wp2_with fail
        with_reducible refine (HI.out _ HV1.out HV2.out).mono ?_
        rintro e w2 ⟨rfl, hb⟩
        clear c0 c1'
        replace HX := Lib.hid ((hb.block _ (Array.getElem?_eq_some_iff.1 HX.out).1).trans HX.out)
        replace HV1 := Lib.hid (HV1.out.keep hb)
        replace HV2 := Lib.hid (HV2.out.keep hb)
        replace HB := Lib.hid (bkeep2 HB.out hb)
        clear hb
        obtain ⟨c0, c1'⟩ := c2L HX.out
        go_wp2_with fail
        with_reducible refine (HSP.out _ HV1.out HV2.out).mono ?_
        rintro e w3 ⟨rfl, hb⟩
        clear c0 c1'
        replace HX := Lib.hid ((hb.block _ (Array.getElem?_eq_some_iff.1 HX.out).1).trans HX.out)
        replace HV1 := Lib.hid (HV1.out.keep hb)
        replace HV2 := Lib.hid (HV2.out.keep hb)
        replace HB := Lib.hid (bkeep2 HB.out hb)
        clear hb
        obtain ⟨c0, c1'⟩ := c2L HX.out
        go_wp2_with fail
        with_reducible refine (ValidPanes_v A1 A2 _ _ c1 c2 L1 L2 true _ HV1.out HV2.out rfl rfl k1 k2 (by simp [HP.out])).mono ?_
        rintro e w4 ⟨rfl, hb⟩
        clear c0 c1'
        replace HX := Lib.hid ((hb.block _ (Array.getElem?_eq_some_iff.1 HX.out).1).trans HX.out)
        replace HV1 := Lib.hid (HV1.out.keep hb)
        replace HV2 := Lib.hid (HV2.out.keep hb)
        replace HB := Lib.hid (bkeep2 HB.out hb)
        clear hb
        obtain ⟨b1, off1, rfl, hb1, hp1⟩ := HV1.out.cells (by omega)
        have cs1 := hp1 k s HG.out
        have hkd : (k : Int) < (L1.length : Int) := by omega
        have hkd2 : decide ((k : Int) < (L1.length : Int)) = true := by simpa using hkl
        clear hp1
        obtain ⟨c0, c1'⟩ := c2L HX.out
        go_wp2_with fail
        have hq := ltotal_v (some ⟨b1, off1, none⟩) c1 (L1.take k) _ (HV1.out.head k) (by rw [HE.out]; omega) HSK.out
        rw [HE.out, HTT.out] at hq
        with_reducible refine hq.mono ?_
        rintro e w5 ⟨rfl, rfl⟩
        go_wp2
        go_ret
        exact ⟨rfl, HB.out⟩
  · have hl1 : (1048576 : Int) < n := by omega
    go_enter Try.func3, Try.ntmps3
    go_wp2
    go_ret
    exact ⟨rfl, Below.refl _ _⟩
set_option maxRecDepth 100000 in
theorem lifted (os : Os) (started : os.Started) (H : Type) (enc : TypeId × Value → H) :
    ReturnsInHanded {} Try.checked os 3 .any (Rows.fnPaneAtSpec.pre6 enc Try.prog Try.f3 Rows.fnPaneAtRow.domain false) (Rows.fnPaneAtSpec.post enc Try.prog Try.f3 false true false false) := by
  refine returnsInHanded_of_change (C := Try.checked) own started (by kernel_rfl) Try.func3
    (ChangeSpec.witness6 (enc := enc) (C := Try.checked) false ⟨#[], #[.slice none 0 0], []⟩ 8 (by kernel_rfl) (by kernel_rfl) (by kernel_rfl) (by kernel_rfl)) ?_
  intro W base args ds gs before hval0 hW hcnd _
  have hval : ∀ (j : Nat) t v, Try.f3.params[j]? = some t → args[j]? = some v → Value.okWide Try.prog W .any base t v := hval0
  have hW' := hW
  obtain ⟨p, q, hA0, hV, rfl, hfz, hnd⟩ := hW
  have hA : DataW.TrodAll enc Try.prog W 0 (fun _ => true) true Try.f3.params.toList args.toList ds p := hA0
  rw [Try.params3] at hA hval
  obtain ⟨v0, vs0, d0, ds0, p0, q0, hargs, rfl, rfl, h0, r0⟩ := trodAll_cons hA
  obtain ⟨rfl, rfl, rfl⟩ := trodAll_nil r0
  obtain rfl : args = #[v0] := by cases args; simp_all
  obtain ⟨rfl, rfl⟩ := trodVars_none hV
  have k0 := h0
  have lt0 : ∀ x ∈ p0, x.block < W.heap.size := by obtain ⟨m, hm⟩ := k0; exact DataW.trod_lt m _ _ _ hm
  obtain ⟨a0, len0, cap0, rfl⟩ := okWide_slice Try.underlying22 (hval 0 22 v0 rfl rfl)
  obtain ⟨z0, wz0⟩ : ∃ zs, IsRow .u8 W a0 len0 cap0 zs := by
    obtain ⟨fuel, hf⟩ := h0
    rcases open_ints Try.underlying22 Try.underlying5 (by kernel_rfl) hf with ⟨hcs, _⟩ | ⟨x, l, c, zs, hcs, _, hl, hm, hz, _, hcell, hwz⟩
    · simp [Value.cells] at hcs
      obtain ⟨rfl, rfl, rfl⟩ := hcs
      exact ⟨[], .inl ⟨rfl, rfl, rfl, rfl⟩⟩
    · simp [Value.cells] at hcs
      obtain ⟨rfl, rfl, rfl⟩ := hcs
      exact ⟨zs, .inr ⟨_, rfl, hl, hm, by simpa using hz, hcell, hwz⟩⟩
  clear hA0 hval0
  refine (walk a0 len0 cap0 z0 W wz0).mono fun e W' ⟨he, bel⟩ => ?_
  subst he
  exact ⟨_, rfl, _, _, _, [], _, [], hW', trodAll_mk1 (shut_bool Try.underlying4 _), (trodAll_cons_mk (Below.trod laidOut (by kernel_rfl) (of_decide_eq_true (by kernel_rfl)) k0 bel lt0) trodAll_mk0), rfl, bel.frame _, fun h => by cases h⟩
theorem over : Rows.fnPaneAtRow.holds Try.pinned (OpenSpec.ofChange Rows.fnPaneAtSpec) :=
  OpenClaim.holds_of_wide 3 Try.f3 rfl rfl rfl rfl rfl rfl rfl ⟨rfl, rfl, rfl, rfl, rfl⟩ rfl rfl rfl rfl rfl (by kernel_rfl) Try.func3 (by kernel_rfl)
    (of_decide_eq_true (by kernel_rfl)) (by unfold Func.isWrapper; first | (rw [if_pos (by decide +kernel)]; kernel_rfl) | (rw [if_neg (by decide +kernel)]; exact ⟨rfl, rfl⟩))
    (fun os started H enc _ => lifted os started H enc)
theorem proved : Rows.FnPaneAtSaid := over
end Go.Proofs.Ytpbfbcdidkbjiac.lPaneAt
