/- FnSashAt: for every code the law returns true. No condition. -/
import Derived.Test.YtpbfbcdidkbjiabQ08
namespace Go.Proofs.Ytpbfbcdidkbjiab.lSashAt
open Go.ChangeShapes Go.WideShapes Go.ChangeAt Go.RowKit Go.Joins
set_option linter.unusedVariables false
set_option maxHeartbeats 2000000
attribute [local go_sem 5000] run_mx run_mn
attribute [local go_sem] growUpon_value growUpon_skip growUpon_enter
theorem take_one {S : List Int} {k : Nat} {s : Int} (h : S[k]? = some s) : sumI (S.take (k + 1)) = sumI (S.take k) + s := by
  rw [List.take_add_one, h, sumI_append]; simp [sumI]
theorem sash_spec {S M : List Int} (h : pnP S M) (r : Int) (hr : rng r 0 ((S.length : Int) - 2) = true) : 0 ≤ sumI (S.take (r.toNat + 1)) ∧ sumI (S.take (r.toNat + 1)) ≤ sumI S ∧ (lineM S (sumI (S.take (r.toNat + 1))) < 0 ∨ r < lineM S (sumI (S.take (r.toNat + 1)))) ∧ lineM S (sumI (S.take (r.toNat + 1)) - 1) ≤ r ∧ 0 ≤ r := by
  have hr0 : 0 ≤ r := by simp [rng] at hr; omega
  have hnn : ∀ x ∈ S, 0 ≤ x := fun x hx => (h.mem.1 x hx).1
  have ha := take_all hnn (r.toNat + 1)
  refine ⟨ha.1, ha.2, ?_, ?_, hr0⟩
  · rcases pane_spec h (sumI (S.take (r.toNat + 1))) with ⟨h1, _⟩ | ⟨k, s, h1, h2, h3, h4⟩
    · left; omega
    · right
      rw [h1]
      by_cases hk : k ≤ r.toNat
      · have := take_le hnn (k + 1) (r.toNat + 1) (by omega)
        rw [take_one h2] at this
        omega
      · omega
  · rcases pane_spec h (sumI (S.take (r.toNat + 1)) - 1) with ⟨h1, _⟩ | ⟨k, s, h1, h2, h3, h4⟩
    · omega
    · rw [h1]
      by_cases hk : k ≤ r.toNat
      · omega
      · have := take_le hnn (r.toNat + 1) k (by omega)
        omega
set_option maxRecDepth 100000 in
theorem walk (A : Option Addr) (n c : Nat) (z : List Int) (w : World) (wz : IsRow .u8 w A n c z) : Calls Try.prog 7 #[.slice A n c] w fun e w' => e = .returned (.bool true) ∧ Below w.heap.size w w' := by
  obtain ⟨hb, hn, hc⟩ := wz.bts
  clear wz
  by_cases hlen : n ≤ 1048576
  · have hl1 : ¬ (1048576 : Int) < n := by omega
    go_enter Try.func7, Try.ntmps7
    go_wp2_with fail
    with_reducible refine (DrawSashAt_any A n c _ hb hn hc).mono ?_
    rintro e w1 ⟨⟨A1, c1, L1, A2, c2, L2, r, rfl, v1, v2, l1, l2, l3, l4⟩, hB⟩
    have HX := Lib.hid (newS w1 (.cells #[.slice A1 L1.length c1, .slice A2 L2.length c2] 27))
    have hbb : Below w1.heap.size w1 (w1.alloc (.cells #[.slice A1 L1.length c1, .slice A2 L2.length c2] 27)) := balloc (Below.refl _ _)
    have HV1 := Lib.hid (v1.keep hbb)
    have HV2 := Lib.hid (v2.keep hbb)
    have HB := Lib.hid (balloc (o := (.cells #[.slice A1 L1.length c1, .slice A2 L2.length c2] 27)) hB)
    have k1 : L1.length ≤ 1048576 := by omega
    have k2 : L2.length ≤ 1048576 := by omega
    clear hB hb hn hc v1 v2 hbb
    obtain ⟨t, ht⟩ := vpT L1 L2
    have HT := Lib.hid ht
    clear ht
    by_cases hq : pnP L1 L2 ∧ rng r 0 ((L1.length : Int) - 2) = true
    · obtain ⟨hv, hr⟩ := hq
      have ht : t = true := HT.out.2 hv
      subst ht
      have HS := Lib.hid hv.smal.1
      have HI := Lib.hid (fun w h h' => SashAt_yes A1 A2 c1 c2 L1 L2 r w h h' k2 l3 k1 hv hr)
      have HSP := Lib.hid (fun w h h' => sSashAt_yes A1 A2 c1 c2 L1 L2 r w h h' k2 l3 k1 hv hr)
      obtain ⟨s0, s1, s2, s3, hr0⟩ := sash_spec hv r hr
      obtain ⟨T, hT⟩ : ∃ T, sumI (L1.take (r.toNat + 1)) = T := ⟨_, rfl⟩
      rw [hT] at HI HSP s0 s1 s2 s3
      obtain ⟨K, hK⟩ : ∃ K, lineM L1 T = K := ⟨_, rfl⟩
      obtain ⟨K1, hK1⟩ : ∃ K1, lineM L1 (T - 1) = K1 := ⟨_, rfl⟩
      have HP := Lib.hid (fun w h h' => PaneAt_yes A1 A2 c1 c2 L1 L2 T w h h' k2 k1 hv)
      have HP1 := Lib.hid (fun w h h' => PaneAt_yes A1 A2 c1 c2 L1 L2 (T - 1) w h h' k2 k1 hv)
      rw [hK] at HP s2
      rw [hK1] at HP1 s3
      have hsum := hv.sum
      have p0 : decide (T < 0) = false := by simp; omega
      have p3 : decide (K1 ≤ r) = true := by simpa using s3
      have p4 : decide (T ≤ sumI L1) = true := by simpa using s1
      clear hK hK1 hv hr hT
      obtain ⟨c0, c1'⟩ := c2L HX.out
      go_wp2_with fail
      with_reducible refine (HI.out _ HV1.out HV2.out).mono ?_
      rintro e w2 ⟨rfl, hb⟩
      clear c0 c1'
      replace HX := Lib.hid ((hb.block _ (Array.getElem?_eq_some_iff.1 HX.out).1).trans HX.out)
      replace HV1 := Lib.hid (HV1.out.keep hb)
      replace HV2 := Lib.hid (HV2.out.keep hb)
      replace HB := Lib.hid (bkeep2 HB.out hb)
      clear hb
      obtain ⟨c0, c1'⟩ := c2L HX.out
      go_wp2_with fail
      with_reducible refine (HSP.out _ HV1.out HV2.out).mono ?_
      rintro e w3 ⟨rfl, hb⟩
      clear c0 c1'
      replace HX := Lib.hid ((hb.block _ (Array.getElem?_eq_some_iff.1 HX.out).1).trans HX.out)
      replace HV1 := Lib.hid (HV1.out.keep hb)
      replace HV2 := Lib.hid (HV2.out.keep hb)
      replace HB := Lib.hid (bkeep2 HB.out hb)
      clear hb
      obtain ⟨c0, c1'⟩ := c2L HX.out
      go_wp2_with fail
      with_reducible refine (HP.out _ HV1.out HV2.out).mono ?_
      rintro e w4 ⟨rfl, hb⟩
      clear c0 c1'
      replace HX := Lib.hid ((hb.block _ (Array.getElem?_eq_some_iff.1 HX.out).1).trans HX.out)
      replace HV1 := Lib.hid (HV1.out.keep hb)
      replace HV2 := Lib.hid (HV2.out.keep hb)
      replace HB := Lib.hid (bkeep2 HB.out hb)
      clear hb
      have q1 : decide (K < 0) = true ∨ (decide (K < 0) = false ∧ decide (K > r) = true) := by
        rcases s2 with h | h
        · exact .inl (by simpa using h)
        · exact .inr ⟨by simp; omega, by simpa using h⟩
      have q2 : (T = 0) ∨ (decide (T = 0) = false ∧ ¬ T = 0 ∧ (T == 0) = false) := by
        by_cases h : T = 0
        · exact .inl h
        · exact .inr ⟨by simpa using h, h, by simpa using h⟩
      clear s2
      rcases q1 with q1 | ⟨q1, q1'⟩
      · rcases q2 with rfl | ⟨q2, q2', q2''⟩
        · obtain ⟨c0, c1'⟩ := c2L HX.out
          go_wp2_with fail
          with_reducible refine (ltotal_v A1 c1 L1 _ HV1.out k1 HS.out).mono ?_
          rintro e w6 ⟨rfl, rfl⟩
          go_wp2
          go_ret
          exact ⟨rfl, HB.out⟩
        · obtain ⟨c0, c1'⟩ := c2L HX.out
          go_wp2_with fail
          with_reducible refine (HP1.out _ HV1.out HV2.out).mono ?_
          rintro e w5 ⟨rfl, hb⟩
          clear c0 c1'
          replace HX := Lib.hid ((hb.block _ (Array.getElem?_eq_some_iff.1 HX.out).1).trans HX.out)
          replace HV1 := Lib.hid (HV1.out.keep hb)
          replace HV2 := Lib.hid (HV2.out.keep hb)
          replace HB := Lib.hid (bkeep2 HB.out hb)
          clear hb
          obtain ⟨c0, c1'⟩ := c2L HX.out
          go_wp2_with fail
          with_reducible refine (ltotal_v A1 c1 L1 _ HV1.out k1 HS.out).mono ?_
          rintro e w6 ⟨rfl, rfl⟩
          go_wp2
          go_ret
          exact ⟨rfl, HB.out⟩
      · rcases q2 with rfl | ⟨q2, q2', q2''⟩
        · obtain ⟨c0, c1'⟩ := c2L HX.out
          go_wp2_with fail
          with_reducible refine (ltotal_v A1 c1 L1 _ HV1.out k1 HS.out).mono ?_
          rintro e w6 ⟨rfl, rfl⟩
          go_wp2
          go_ret
          exact ⟨rfl, HB.out⟩
        · obtain ⟨c0, c1'⟩ := c2L HX.out
          go_wp2_with fail
          with_reducible refine (HP1.out _ HV1.out HV2.out).mono ?_
          rintro e w5 ⟨rfl, hb⟩
          clear c0 c1'
          replace HX := Lib.hid ((hb.block _ (Array.getElem?_eq_some_iff.1 HX.out).1).trans HX.out)
          replace HV1 := Lib.hid (HV1.out.keep hb)
          replace HV2 := Lib.hid (HV2.out.keep hb)
          replace HB := Lib.hid (bkeep2 HB.out hb)
          clear hb
          obtain ⟨c0, c1'⟩ := c2L HX.out
          go_wp2_with fail
          with_reducible refine (ltotal_v A1 c1 L1 _ HV1.out k1 HS.out).mono ?_
          rintro e w6 ⟨rfl, rfl⟩
          go_wp2
          go_ret
          exact ⟨rfl, HB.out⟩
    · have hno : ¬ pnP L1 L2 ∨ (pnP L1 L2 ∧ rng r 0 ((L1.length : Int) - 2) = false) := by
        by_cases h : pnP L1 L2
        · exact .inr ⟨h, by cases e : rng r 0 ((L1.length : Int) - 2) with
            | false => rfl
            | true => exact absurd ⟨h, e⟩ hq⟩
        · exact .inl h
      clear hq HT
      obtain ⟨c0, c1'⟩ := c2L HX.out
      go_wp2_with fail
      with_reducible refine (SashAt_no A1 A2 c1 c2 L1 L2 r _ HV1.out HV2.out k2 k1 hno).mono ?_
      rintro e w2 ⟨rfl, hb⟩
      clear c0 c1'
      replace HX := Lib.hid ((hb.block _ (Array.getElem?_eq_some_iff.1 HX.out).1).trans HX.out)
      replace HV1 := Lib.hid (HV1.out.keep hb)
      replace HV2 := Lib.hid (HV2.out.keep hb)
      replace HB := Lib.hid (bkeep2 HB.out hb)
      clear hb
      obtain ⟨c0, c1'⟩ := c2L HX.out
      go_wp2_with fail
      with_reducible refine (sSashAt_no A1 A2 c1 c2 L1 L2 r _ HV1.out HV2.out k2 k1 hno).mono ?_
      rintro e w3 ⟨rfl, hb⟩
      clear c0 c1'
      replace HX := Lib.hid ((hb.block _ (Array.getElem?_eq_some_iff.1 HX.out).1).trans HX.out)
      replace HV1 := Lib.hid (HV1.out.keep hb)
      replace HV2 := Lib.hid (HV2.out.keep hb)
      replace HB := Lib.hid (bkeep2 HB.out hb)
      clear hb
      obtain ⟨c0, c1'⟩ := c2L HX.out
      go_wp2_with fail
      with_reducible refine (sSashAt_no A1 A2 c1 c2 L1 L2 r _ HV1.out HV2.out k2 k1 hno).mono ?_
      rintro e w4 ⟨rfl, hb⟩
      clear c0 c1'
      replace HX := Lib.hid ((hb.block _ (Array.getElem?_eq_some_iff.1 HX.out).1).trans HX.out)
      replace HV1 := Lib.hid (HV1.out.keep hb)
      replace HV2 := Lib.hid (HV2.out.keep hb)
      replace HB := Lib.hid (bkeep2 HB.out hb)
      clear hb
      go_wp2
      go_ret
      exact ⟨rfl, HB.out⟩
  · have hl1 : (1048576 : Int) < n := by omega
    go_enter Try.func7, Try.ntmps7
    go_wp2
    go_ret
    exact ⟨rfl, Below.refl _ _⟩
set_option maxRecDepth 100000 in
theorem lifted (os : Os) (started : os.Started) (H : Type) (enc : TypeId × Value → H) :
    ReturnsInHanded {} Try.checked os 7 .any (Rows.fnSashAtSpec.pre6 enc Try.prog Try.f7 Rows.fnSashAtRow.domain false) (Rows.fnSashAtSpec.post enc Try.prog Try.f7 false true false false) := by
  refine returnsInHanded_of_change (C := Try.checked) own started (by kernel_rfl) Try.func7
    (ChangeSpec.witness6 (enc := enc) (C := Try.checked) false ⟨#[], #[.slice none 0 0], []⟩ 8 (by kernel_rfl) (by kernel_rfl) (by kernel_rfl) (by kernel_rfl)) ?_
  intro W base args ds gs before hval0 hW hcnd _
  have hval : ∀ (j : Nat) t v, Try.f7.params[j]? = some t → args[j]? = some v → Value.okWide Try.prog W .any base t v := hval0
  have hW' := hW
  obtain ⟨p, q, hA0, hV, rfl, hfz, hnd⟩ := hW
  have hA : DataW.TrodAll enc Try.prog W 0 (fun _ => true) true Try.f7.params.toList args.toList ds p := hA0
  rw [Try.params7] at hA hval
  obtain ⟨v0, vs0, d0, ds0, p0, q0, hargs, rfl, rfl, h0, r0⟩ := trodAll_cons hA
  obtain ⟨rfl, rfl, rfl⟩ := trodAll_nil r0
  obtain rfl : args = #[v0] := by cases args; simp_all
  obtain ⟨rfl, rfl⟩ := trodVars_none hV
  have k0 := h0
  have lt0 : ∀ x ∈ p0, x.block < W.heap.size := by obtain ⟨m, hm⟩ := k0; exact DataW.trod_lt m _ _ _ hm
  obtain ⟨a0, len0, cap0, rfl⟩ := okWide_slice Try.underlying33 (hval 0 33 v0 rfl rfl)
  obtain ⟨z0, wz0⟩ : ∃ zs, IsRow .u8 W a0 len0 cap0 zs := by
    obtain ⟨fuel, hf⟩ := h0
    rcases open_ints Try.underlying33 Try.underlying5 (by kernel_rfl) hf with ⟨hcs, _⟩ | ⟨x, l, c, zs, hcs, _, hl, hm, hz, _, hcell, hwz⟩
    · simp [Value.cells] at hcs
      obtain ⟨rfl, rfl, rfl⟩ := hcs
      exact ⟨[], .inl ⟨rfl, rfl, rfl, rfl⟩⟩
    · simp [Value.cells] at hcs
      obtain ⟨rfl, rfl, rfl⟩ := hcs
      exact ⟨zs, .inr ⟨_, rfl, hl, hm, by simpa using hz, hcell, hwz⟩⟩
  clear hA0 hval0
  refine (walk a0 len0 cap0 z0 W wz0).mono fun e W' ⟨he, bel⟩ => ?_
  subst he
  exact ⟨_, rfl, _, _, _, [], _, [], hW', trodAll_mk1 (shut_bool Try.underlying4 _), (trodAll_cons_mk (Below.trod laidOut (by kernel_rfl) (of_decide_eq_true (by kernel_rfl)) k0 bel lt0) trodAll_mk0), rfl, bel.frame _, fun h => by cases h⟩
theorem over : Rows.fnSashAtRow.holds Try.pinned (OpenSpec.ofChange Rows.fnSashAtSpec) :=
  OpenClaim.holds_of_wide 7 Try.f7 rfl rfl rfl rfl rfl rfl rfl ⟨rfl, rfl, rfl, rfl, rfl⟩ rfl rfl rfl rfl rfl (by kernel_rfl) Try.func7 (by kernel_rfl)
    (of_decide_eq_true (by kernel_rfl)) (by unfold Func.isWrapper; first | (rw [if_pos (by decide +kernel)]; kernel_rfl) | (rw [if_neg (by decide +kernel)]; exact ⟨rfl, rfl⟩))
    (fun os started H enc _ => lifted os started H enc)
theorem proved : Rows.FnSashAtSaid := over
end Go.Proofs.Ytpbfbcdidkbjiab.lSashAt
