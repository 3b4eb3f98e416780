/- FnLineSizesWish: for every code the law returns true. No condition. -/
import Derived.Test.YtignigcknfklkabQ08
namespace Go.Proofs.Ytignigcknfklkab.lLineSizesWish
open Go.ChangeShapes Go.WideShapes Go.ChangeAt Go.RowKit Go.Joins
set_option linter.unusedVariables false
set_option maxHeartbeats 1000000
attribute [local go_sem] growUpon_value growUpon_skip growUpon_enter
set_option maxRecDepth 100000 in
theorem walk (A : Option Addr) (n c : Nat) (z : List Int) (w : World) (wz : IsRow .u8 w A n c z) : Calls Try.prog 6 #[.slice A n c] w fun e w' => e = .returned (.bool true) ∧ Below w.heap.size w w' := by
  obtain ⟨hb, hn, hc⟩ := wz.bts
  clear wz
  by_cases hlen : n ≤ 1048576
  · have hl1 : ¬ (1048576 : Int) < n := by omega
    go_enter Try.func6, Try.ntmps6
    go_wp2_with fail
    with_reducible refine (DrawLineSizes_any A n c _ hb hn hc).mono ?_
    rintro e w1 ⟨⟨A1, c1, L, A2, c2, S, room, rfl, hlv, hsv, hL5, hS6, hcap, hA2⟩, hB⟩
    have HB := Lib.hid hB
    clear hb hn hc hB
    obtain ⟨M, hM⟩ : ∃ M, lsM L S room = M := ⟨_, rfl⟩
    have hM5 := lsM_len L S room
    rw [hM] at hM5
    have hM6 : M.length ≤ 1048576 := by omega
    have HM := Lib.hid hM
    have HL := Lib.hid hlv
    have HS := Lib.hid hsv
    clear hM hlv hsv
    go_wp2_with fail
    with_reducible refine (LineSizes_c A1 c1 _ L A2 c2 _ S room M _ HL.out HS.out rfl rfl (by omega) (by omega) hcap HM.out).mono ?_
    rintro e w2 ⟨⟨B, rfl, hmv⟩, hb2⟩
    replace HL := Lib.hid (HL.out.keep hb2)
    replace HS := Lib.hid (HS.out.keep hb2)
    replace HB := Lib.hid (bkeep2 HB.out hb2)
    clear hb2
    have HV := Lib.hid hmv
    have HR := Lib.hid (show NR w2 (.slice B M.length M.length) M from ⟨_, _, rfl, hmv⟩)
    clear hmv
    by_cases hM0 : M.length = 0
    · have hm0 : ((M.length : Int) == 0) = true := by rw [hM0]; rfl
      clear hM0
      go_wp2_with fail
      with_reducible refine (sLineSizes_c A1 c1 _ L A2 c2 _ S room M _ HL.out HS.out rfl rfl (by omega) (by omega) hcap HM.out).mono ?_
      rintro e w3 ⟨⟨x, rfl, hx⟩, hb3⟩
      replace HL := Lib.hid (HL.out.keep hb3)
      replace HS := Lib.hid (HS.out.keep hb3)
      replace HR := Lib.hid (HR.out.keep hb3)
      replace HB := Lib.hid (bkeep2 HB.out hb3)
      clear hb3
      go_wp2_with fail
      with_reducible refine (equalInts_z _ _ M _ HR.out hx hM6).mono ?_
      rintro e w4 ⟨rfl, hb4⟩
      clear hx
      replace HL := Lib.hid (HL.out.keep hb4)
      replace HS := Lib.hid (HS.out.keep hb4)
      replace HR := Lib.hid (HR.out.keep hb4)
      replace HB := Lib.hid (bkeep2 HB.out hb4)
      clear hb4
      go_wp2_with fail
      with_reducible refine (sLineSizes_c A1 c1 _ L A2 c2 _ S room M _ HL.out HS.out rfl rfl (by omega) (by omega) hcap HM.out).mono ?_
      rintro e w5 ⟨⟨x, rfl, hx⟩, hb5⟩
      replace HL := Lib.hid (HL.out.keep hb5)
      replace HS := Lib.hid (HS.out.keep hb5)
      replace HR := Lib.hid (HR.out.keep hb5)
      replace HB := Lib.hid (bkeep2 HB.out hb5)
      clear hb5
      go_wp2_with fail
      with_reducible refine (equalInts_z _ _ M _ HR.out hx hM6).mono ?_
      rintro e w6 ⟨rfl, hb6⟩
      clear hx
      replace HL := Lib.hid (HL.out.keep hb6)
      replace HS := Lib.hid (HS.out.keep hb6)
      replace HR := Lib.hid (HR.out.keep hb6)
      replace HB := Lib.hid (bkeep2 HB.out hb6)
      clear hb6
      go_wp2
      go_ret
      exact ⟨rfl, HB.out⟩
    · have hm0 : ((M.length : Int) == 0) = false := beq_eq_false_iff_ne.2 (by omega)
      have hg := lsM_yes (L := L) (S := S) (room := room) (by rw [HM.out]; omega)
      obtain ⟨v1, v2, hr, e3⟩ := hg
      rw [HM.out] at e3
      have hwo := wish_ok v1 v2
      obtain ⟨hsok, hWL, hWx, hW0, hW1⟩ := hwo
      obtain ⟨W, hW⟩ : ∃ W, wishM L S = W := ⟨_, rfl⟩
      have hlr : lrM L S = W := by unfold lrM; rw [if_pos (by rw [v1, v2]; rfl), hW]
      have hSw := wish_ok v1 v2
      rw [hW] at hSw
      have h5 := (linesB_len v1).2
      have hW5 : W.length ≤ 5 := by rw [hSw.2.1]; exact h5
      have hWs : Smal 1000000000 W := smal_of (b := 1000000) (fun x hx => ⟨by have := (hSw.2.2.1 x hx).1; omega, (hSw.2.2.1 x hx).2⟩) (by omega) (by omega)
      have hw0 : 0 ≤ sumI W := hSw.2.2.2.1
      have hw1 : sumI W ≤ 2150 := hSw.2.2.2.2
      have hls : sumI W ≤ 400 → lsM L S (sumI W) = W := fun h => by
        unfold lsM
        rw [if_pos (by rw [v1, v2, rng_iff.2 ⟨hw0, h⟩]; rfl)]
        have := sized_wish v1 v2
        rwa [hW] at this
      have hW6 : W.length ≤ 1048576 := by omega
      have HLR := Lib.hid hlr
      have HLS := Lib.hid hls
      have HWS := Lib.hid hWs
      clear hM0 v1 v2 e3 hsok hWL hWx hW0 hW1 hW hlr hSw hWs hls hr
      go_wp2_with fail
      with_reducible refine (sLineSizes_c A1 c1 _ L A2 c2 _ S room M _ HL.out HS.out rfl rfl (by omega) (by omega) hcap HM.out).mono ?_
      rintro e w3 ⟨⟨x, rfl, hx⟩, hb3⟩
      replace HL := Lib.hid (HL.out.keep hb3)
      replace HS := Lib.hid (HS.out.keep hb3)
      replace HR := Lib.hid (HR.out.keep hb3)
      replace HV := Lib.hid (HV.out.keep hb3)
      replace HB := Lib.hid (bkeep2 HB.out hb3)
      clear hb3
      go_wp2_with fail
      with_reducible refine (equalInts_z _ _ M _ HR.out hx hM6).mono ?_
      rintro e w4 ⟨rfl, hb4⟩
      clear hx
      replace HL := Lib.hid (HL.out.keep hb4)
      replace HS := Lib.hid (HS.out.keep hb4)
      replace HR := Lib.hid (HR.out.keep hb4)
      replace HV := Lib.hid (HV.out.keep hb4)
      replace HB := Lib.hid (bkeep2 HB.out hb4)
      clear hb4
      go_wp2_with fail
      with_reducible refine (LineRequests_c A1 c1 _ L A2 c2 _ S W _ HL.out HS.out rfl rfl (by omega) (by omega) HLR.out).mono ?_
      rintro e w5 ⟨⟨B1, rfl, hwv⟩, hb5⟩
      replace HL := Lib.hid (HL.out.keep hb5)
      replace HS := Lib.hid (HS.out.keep hb5)
      replace HR := Lib.hid (HR.out.keep hb5)
      replace HV := Lib.hid (HV.out.keep hb5)
      replace HB := Lib.hid (bkeep2 HB.out hb5)
      clear hb5
      have HWV := Lib.hid hwv
      clear hwv
      go_wp2_with fail
      with_reducible refine (ltotal_n B1 W.length W.length W _ HWV.out rfl hW6 HWS.out).mono ?_
      rintro e w6 ⟨rfl, rfl⟩
      obtain ⟨q, hq⟩ : ∃ q, sumI W = q := ⟨_, rfl⟩
      rw [hq] at hw0 hw1 HLS ⊢
      clear hq
      by_cases h4 : 400 < q
      · have hd : decide (q > 400) = true := by simpa using h4
        have hd' : decide ((400 : Int) < q) = true := by simpa using h4
        go_wp2
        go_ret
        exact ⟨rfl, HB.out⟩
      · have hd : decide (q > 400) = false := by simpa using h4
        have hd' : decide ((400 : Int) < q) = false := by simpa using h4
        have h41 : q ≤ 400 := by omega
        go_wp2_with fail
        with_reducible refine (LineSizes_c A1 c1 _ L A2 c2 _ S q W _ HL.out HS.out rfl rfl (by omega) (by omega) hcap (HLS.out h41)).mono ?_
        rintro e w7 ⟨⟨B2, rfl, hm2⟩, hb7⟩
        replace HWV := Lib.hid (HWV.out.keep hb7)
        replace HB := Lib.hid (bkeep2 HB.out hb7)
        clear hb7
        go_wp2_with fail
        have nr2 : NR w7 (.slice B2 W.length W.length) W := ⟨_, _, rfl, hm2⟩
        have nr1 : NR w7 (.slice B1 W.length W.length) W := ⟨_, _, rfl, HWV.out⟩
        with_reducible refine (equalInts_z _ _ W _ nr2 nr1 hW6).mono ?_
        rintro e w8 ⟨rfl, hb8⟩
        clear hm2 nr1 nr2
        replace HWV := Lib.hid (HWV.out.keep hb8)
        replace HB := Lib.hid (bkeep2 HB.out hb8)
        clear hb8
        go_wp2
        go_ret
        exact ⟨rfl, HB.out⟩
  · have hl1 : (1048576 : Int) < n := by omega
    go_enter Try.func6, Try.ntmps6
    go_wp2
    go_ret
    exact ⟨rfl, Below.refl _ _⟩
set_option maxRecDepth 100000 in
theorem lifted (os : Os) (started : os.Started) (H : Type) (enc : TypeId × Value → H) :
    ReturnsInHanded {} Try.checked os 6 .any (Rows.fnLineSizesWishSpec.pre6 enc Try.prog Try.f6 Rows.fnLineSizesWishRow.domain false) (Rows.fnLineSizesWishSpec.post enc Try.prog Try.f6 false true false false) := by
  refine returnsInHanded_of_change (C := Try.checked) own started (by kernel_rfl) Try.func6
    (ChangeSpec.witness6 (enc := enc) (C := Try.checked) false ⟨#[], #[.slice none 0 0], []⟩ 8 (by kernel_rfl) (by kernel_rfl) (by kernel_rfl) (by kernel_rfl)) ?_
  intro W base args ds gs before hval0 hW hcnd _
  have hval : ∀ (j : Nat) t v, Try.f6.params[j]? = some t → args[j]? = some v → Value.okWide Try.prog W .any base t v := hval0
  have hW' := hW
  obtain ⟨p, q, hA0, hV, rfl, hfz, hnd⟩ := hW
  have hA : DataW.TrodAll enc Try.prog W 0 (fun _ => true) true Try.f6.params.toList args.toList ds p := hA0
  rw [Try.params6] at hA hval
  obtain ⟨v0, vs0, d0, ds0, p0, q0, hargs, rfl, rfl, h0, r0⟩ := trodAll_cons hA
  obtain ⟨rfl, rfl, rfl⟩ := trodAll_nil r0
  obtain rfl : args = #[v0] := by cases args; simp_all
  obtain ⟨rfl, rfl⟩ := trodVars_none hV
  have k0 := h0
  have lt0 : ∀ x ∈ p0, x.block < W.heap.size := by obtain ⟨m, hm⟩ := k0; exact DataW.trod_lt m _ _ _ hm
  obtain ⟨a0, len0, cap0, rfl⟩ := okWide_slice Try.underlying22 (hval 0 22 v0 rfl rfl)
  obtain ⟨z0, wz0⟩ : ∃ zs, IsRow .u8 W a0 len0 cap0 zs := by
    obtain ⟨fuel, hf⟩ := h0
    rcases open_ints Try.underlying22 Try.underlying5 (by kernel_rfl) hf with ⟨hcs, _⟩ | ⟨x, l, c, zs, hcs, _, hl, hm, hz, _, hcell, hwz⟩
    · simp [Value.cells] at hcs
      obtain ⟨rfl, rfl, rfl⟩ := hcs
      exact ⟨[], .inl ⟨rfl, rfl, rfl, rfl⟩⟩
    · simp [Value.cells] at hcs
      obtain ⟨rfl, rfl, rfl⟩ := hcs
      exact ⟨zs, .inr ⟨_, rfl, hl, hm, by simpa using hz, hcell, hwz⟩⟩
  clear hA0 hval0
  refine (walk a0 len0 cap0 z0 W wz0).mono fun e W' ⟨he, bel⟩ => ?_
  subst he
  exact ⟨_, rfl, _, _, _, [], _, [], hW', trodAll_mk1 (shut_bool Try.underlying4 _), (trodAll_cons_mk (Below.trod laidOut (by kernel_rfl) (of_decide_eq_true (by kernel_rfl)) k0 bel lt0) trodAll_mk0), rfl, bel.frame _, fun h => by cases h⟩
theorem over : Rows.fnLineSizesWishRow.holds Try.pinned (OpenSpec.ofChange Rows.fnLineSizesWishSpec) :=
  OpenClaim.holds_of_wide 6 Try.f6 rfl rfl rfl rfl rfl rfl rfl ⟨rfl, rfl, rfl, rfl, rfl⟩ rfl rfl rfl rfl rfl (by kernel_rfl) Try.func6 (by kernel_rfl)
    (of_decide_eq_true (by kernel_rfl)) (by unfold Func.isWrapper; first | (rw [if_pos (by decide +kernel)]; kernel_rfl) | (rw [if_neg (by decide +kernel)]; exact ⟨rfl, rfl⟩))
    (fun os started H enc _ => lifted os started H enc)
theorem proved : Rows.FnLineSizesWishSaid := over
end Go.Proofs.Ytignigcknfklkab.lLineSizesWish
