/- FnValidPanes: for every code the law returns true. No condition. -/
import Derived.Test.YtpbfbcdidkbjiabQ08
namespace Go.Proofs.Ytpbfbcdidkbjiab.lValidPanes
open Go.ChangeShapes Go.WideShapes Go.ChangeAt Go.RowKit Go.Joins
set_option linter.unusedVariables false
set_option maxHeartbeats 2000000
attribute [local go_sem 5000] run_mx run_mn
attribute [local go_sem] growUpon_value growUpon_skip growUpon_enter
theorem sum_le {S M : List Int} (h : ∀ m ∈ M, 0 ≤ m ∧ m ≤ 30) (hl : M.length ≤ 6) : sumI M ≤ 400 := by
  have := (sumI_bd (lo := 0) (hi := 30) (L := M) h).2
  omega
theorem _root_.Go.Proofs.Ytpbfbcdidkbjiab.pnP.mins {S M : List Int} (h : pnP S M) : pnP M M := by
  have hm := h.mem.2
  have hl := h.len
  refine ⟨by have := h.one; omega, by have := h.six; omega, rfl, fun i s m hs hm' => ?_, sum_le (S := S) hm (by have := h.six; omega)⟩
  rw [hs] at hm'
  cases hm'
  have := hm s (List.mem_of_getElem? hs)
  unfold okP; omega
set_option maxRecDepth 100000 in
theorem walk (A : Option Addr) (n c : Nat) (z : List Int) (w : World) (wz : IsRow .u8 w A n c z) : Calls Try.prog 6 #[.slice A n c] w fun e w' => e = .returned (.bool true) ∧ Below w.heap.size w w' := by
  obtain ⟨hb, hn, hc⟩ := wz.bts
  clear wz
  by_cases hlen : n ≤ 1048576
  · have hl1 : ¬ (1048576 : Int) < n := by omega
    go_enter Try.func6, Try.ntmps6
    go_wp2_with fail
    with_reducible refine (DrawValidPanes_any A n c _ hb hn hc).mono ?_
    rintro e w1 ⟨⟨A1, c1, L1, A2, c2, L2, rfl, v1, v2, l1, l2, l3, l4⟩, hB⟩
    have HX := Lib.hid (newS w1 (.cells #[.slice A1 L1.length c1, .slice A2 L2.length c2] 27))
    have hbb : Below w1.heap.size w1 (w1.alloc (.cells #[.slice A1 L1.length c1, .slice A2 L2.length c2] 27)) := balloc (Below.refl _ _)
    have HV1 := Lib.hid (v1.keep hbb)
    have HV2 := Lib.hid (v2.keep hbb)
    have HB := Lib.hid (balloc (o := (.cells #[.slice A1 L1.length c1, .slice A2 L2.length c2] 27)) hB)
    have k1 : L1.length ≤ 1048576 := by omega
    have k2 : L2.length ≤ 1048576 := by omega
    clear hB hb hn hc v1 v2 hbb
    obtain ⟨t, ht⟩ := vpT L1 L2
    have HT := Lib.hid ht
    clear ht
    cases t
    · obtain ⟨c0, c1'⟩ := c2L HX.out
      go_wp2_with fail
      with_reducible refine (ValidPanes_v A1 A2 _ _ c1 c2 L1 L2 false _ HV1.out HV2.out rfl rfl k1 k2 HT.out).mono ?_
      rintro e w2 ⟨rfl, hb⟩
      clear c0 c1'
      replace HX := Lib.hid ((hb.block _ (Array.getElem?_eq_some_iff.1 HX.out).1).trans HX.out)
      replace HV1 := Lib.hid (HV1.out.keep hb)
      replace HV2 := Lib.hid (HV2.out.keep hb)
      replace HB := Lib.hid (bkeep2 HB.out hb)
      clear hb
      obtain ⟨c0, c1'⟩ := c2L HX.out
      go_wp2_with fail
      with_reducible refine (sValidPanes_v A1 A2 _ _ c1 c2 L1 L2 false _ HV1.out HV2.out rfl rfl k1 k2 HT.out).mono ?_
      rintro e w3 ⟨rfl, hb⟩
      clear c0 c1'
      replace HX := Lib.hid ((hb.block _ (Array.getElem?_eq_some_iff.1 HX.out).1).trans HX.out)
      replace HV1 := Lib.hid (HV1.out.keep hb)
      replace HV2 := Lib.hid (HV2.out.keep hb)
      replace HB := Lib.hid (bkeep2 HB.out hb)
      clear hb
      obtain ⟨c0, c1'⟩ := c2L HX.out
      go_wp2_with fail
      with_reducible refine (sValidPanes_v A1 A2 _ _ c1 c2 L1 L2 false _ HV1.out HV2.out rfl rfl k1 k2 HT.out).mono ?_
      rintro e w4 ⟨rfl, hb⟩
      clear c0 c1'
      replace HX := Lib.hid ((hb.block _ (Array.getElem?_eq_some_iff.1 HX.out).1).trans HX.out)
      replace HV1 := Lib.hid (HV1.out.keep hb)
      replace HV2 := Lib.hid (HV2.out.keep hb)
      replace HB := Lib.hid (bkeep2 HB.out hb)
      clear hb
      go_wp2
      go_ret
      exact ⟨rfl, HB.out⟩
    · have hv : pnP L1 L2 := HT.out.1 rfl
      have HP := Lib.hid hv
      have hv2 := hv.mins
      have hsum := hv.sum
      have HS := Lib.hid hv.smal.1
      have hds : decide (sumI L1 ≤ 400) = true := by simpa using hsum
      clear hv hsum
      obtain ⟨c0, c1'⟩ := c2L HX.out
      go_wp2_with fail
      with_reducible refine (ValidPanes_v A1 A2 _ _ c1 c2 L1 L2 true _ HV1.out HV2.out rfl rfl k1 k2 (by simp [HP.out])).mono ?_
      rintro e w2 ⟨rfl, hb⟩
      clear c0 c1'
      replace HX := Lib.hid ((hb.block _ (Array.getElem?_eq_some_iff.1 HX.out).1).trans HX.out)
      replace HV1 := Lib.hid (HV1.out.keep hb)
      replace HV2 := Lib.hid (HV2.out.keep hb)
      replace HB := Lib.hid (bkeep2 HB.out hb)
      clear hb
      obtain ⟨c0, c1'⟩ := c2L HX.out
      go_wp2_with fail
      with_reducible refine (sValidPanes_v A1 A2 _ _ c1 c2 L1 L2 true _ HV1.out HV2.out rfl rfl k1 k2 (by simp [HP.out])).mono ?_
      rintro e w3 ⟨rfl, hb⟩
      clear c0 c1'
      replace HX := Lib.hid ((hb.block _ (Array.getElem?_eq_some_iff.1 HX.out).1).trans HX.out)
      replace HV1 := Lib.hid (HV1.out.keep hb)
      replace HV2 := Lib.hid (HV2.out.keep hb)
      replace HB := Lib.hid (bkeep2 HB.out hb)
      clear hb
      obtain ⟨c0, c1'⟩ := c2L HX.out
      go_wp2_with fail
      with_reducible refine (ValidPanes_v A2 A2 _ _ c2 c2 L2 L2 true _ HV2.out HV2.out rfl rfl k2 k2 (by simp [hv2])).mono ?_
      rintro e w4 ⟨rfl, hb⟩
      clear c0 c1'
      replace HX := Lib.hid ((hb.block _ (Array.getElem?_eq_some_iff.1 HX.out).1).trans HX.out)
      replace HV1 := Lib.hid (HV1.out.keep hb)
      replace HV2 := Lib.hid (HV2.out.keep hb)
      replace HB := Lib.hid (bkeep2 HB.out hb)
      clear hb
      obtain ⟨c0, c1'⟩ := c2L HX.out
      go_wp2_with fail
      with_reducible refine (ltotal_v A1 c1 L1 _ HV1.out k1 HS.out).mono ?_
      rintro e w5 ⟨rfl, rfl⟩
      go_wp2
      go_ret
      exact ⟨rfl, HB.out⟩
  · have hl1 : (1048576 : Int) < n := by omega
    go_enter Try.func6, Try.ntmps6
    go_wp2
    go_ret
    exact ⟨rfl, Below.refl _ _⟩
set_option maxRecDepth 100000 in
theorem lifted (os : Os) (started : os.Started) (H : Type) (enc : TypeId × Value → H) :
    ReturnsInHanded {} Try.checked os 6 .any (Rows.fnValidPanesSpec.pre6 enc Try.prog Try.f6 Rows.fnValidPanesRow.domain false) (Rows.fnValidPanesSpec.post enc Try.prog Try.f6 false true false false) := by
  refine returnsInHanded_of_change (C := Try.checked) own started (by kernel_rfl) Try.func6
    (ChangeSpec.witness6 (enc := enc) (C := Try.checked) false ⟨#[], #[.slice none 0 0], []⟩ 8 (by kernel_rfl) (by kernel_rfl) (by kernel_rfl) (by kernel_rfl)) ?_
  intro W base args ds gs before hval0 hW hcnd _
  have hval : ∀ (j : Nat) t v, Try.f6.params[j]? = some t → args[j]? = some v → Value.okWide Try.prog W .any base t v := hval0
  have hW' := hW
  obtain ⟨p, q, hA0, hV, rfl, hfz, hnd⟩ := hW
  have hA : DataW.TrodAll enc Try.prog W 0 (fun _ => true) true Try.f6.params.toList args.toList ds p := hA0
  rw [Try.params6] at hA hval
  obtain ⟨v0, vs0, d0, ds0, p0, q0, hargs, rfl, rfl, h0, r0⟩ := trodAll_cons hA
  obtain ⟨rfl, rfl, rfl⟩ := trodAll_nil r0
  obtain rfl : args = #[v0] := by cases args; simp_all
  obtain ⟨rfl, rfl⟩ := trodVars_none hV
  have k0 := h0
  have lt0 : ∀ x ∈ p0, x.block < W.heap.size := by obtain ⟨m, hm⟩ := k0; exact DataW.trod_lt m _ _ _ hm
  obtain ⟨a0, len0, cap0, rfl⟩ := okWide_slice Try.underlying33 (hval 0 33 v0 rfl rfl)
  obtain ⟨z0, wz0⟩ : ∃ zs, IsRow .u8 W a0 len0 cap0 zs := by
    obtain ⟨fuel, hf⟩ := h0
    rcases open_ints Try.underlying33 Try.underlying5 (by kernel_rfl) hf with ⟨hcs, _⟩ | ⟨x, l, c, zs, hcs, _, hl, hm, hz, _, hcell, hwz⟩
    · simp [Value.cells] at hcs
      obtain ⟨rfl, rfl, rfl⟩ := hcs
      exact ⟨[], .inl ⟨rfl, rfl, rfl, rfl⟩⟩
    · simp [Value.cells] at hcs
      obtain ⟨rfl, rfl, rfl⟩ := hcs
      exact ⟨zs, .inr ⟨_, rfl, hl, hm, by simpa using hz, hcell, hwz⟩⟩
  clear hA0 hval0
  refine (walk a0 len0 cap0 z0 W wz0).mono fun e W' ⟨he, bel⟩ => ?_
  subst he
  exact ⟨_, rfl, _, _, _, [], _, [], hW', trodAll_mk1 (shut_bool Try.underlying4 _), (trodAll_cons_mk (Below.trod laidOut (by kernel_rfl) (of_decide_eq_true (by kernel_rfl)) k0 bel lt0) trodAll_mk0), rfl, bel.frame _, fun h => by cases h⟩
theorem over : Rows.fnValidPanesRow.holds Try.pinned (OpenSpec.ofChange Rows.fnValidPanesSpec) :=
  OpenClaim.holds_of_wide 6 Try.f6 rfl rfl rfl rfl rfl rfl rfl ⟨rfl, rfl, rfl, rfl, rfl⟩ rfl rfl rfl rfl rfl (by kernel_rfl) Try.func6 (by kernel_rfl)
    (of_decide_eq_true (by kernel_rfl)) (by unfold Func.isWrapper; first | (rw [if_pos (by decide +kernel)]; kernel_rfl) | (rw [if_neg (by decide +kernel)]; exact ⟨rfl, rfl⟩))
    (fun os started H enc _ => lifted os started H enc)
theorem proved : Rows.FnValidPanesSaid := over
end Go.Proofs.Ytpbfbcdidkbjiab.lValidPanes
