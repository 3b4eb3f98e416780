/- FnExactLineRequests: for every argument the function of the program answers as the model's, it writes into no argument, and its answer is memory of its own. No condition. -/
import Derived.Test.YtnkoeekgdehhiacQ07
namespace Go.Proofs.Ytnkoeekgdehhiac.xLineRequests
open Go.ChangeShapes Go.WideShapes Go.ChangeAt Go.RowKit Go.Joins
set_option linter.unusedVariables false
set_option maxHeartbeats 1000000
theorem both (L : List Ln) (S : List Sp) (hL : L.length ≤ 1048576) (hS : S.length ≤ 1048576) : ∃ M : List Int, M.length ≤ 1048576 ∧
    (∀ w1 A1 A2 c2, LnV w1 A1 L → SpV w1 A2 S → Calls Try.prog 17 #[.slice A1 L.length L.length, .slice A2 S.length c2] w1 fun e w' => (∃ x, e = .returned x ∧ NR w' x M) ∧ Below w1.heap.size w1 w') ∧
    (∀ w1 A1 c1 A2 c2, LnV w1 A1 L → SpV w1 A2 S → Calls Try.prog 20 #[.slice A1 L.length c1, .slice A2 S.length c2] w1 fun e w' => (∃ x, e = .returned x ∧ GI w1.heap.size w' x M) ∧ Below w1.heap.size w1 w') := by
  cases hv : (linesB L && spansB L.length S)
  · refine ⟨[], by simp, fun w1 A1 A2 c2 h1 h2 => ?_, fun w1 A1 c1 A2 c2 h1 h2 => ?_⟩
    · refine (sLineRequests_no A1 _ L A2 c2 S w1 h1 h2 hL hS hv).mono ?_
      rintro e w' ⟨rfl, hb⟩
      exact ⟨⟨_, rfl, none, 0, rfl, NV.nil _ _⟩, hb⟩
    · refine (LineRequests_no A1 c1 L A2 c2 S w1 h1 h2 hL hS hv).mono ?_
      rintro e w' ⟨rfl, hb⟩
      exact ⟨⟨_, rfl, .inl ⟨rfl, rfl⟩⟩, hb⟩
  · rw [Bool.and_eq_true] at hv
    have hlen := wishM_len hv.1 hv.2
    refine ⟨wishM L S, by omega, fun w1 A1 A2 c2 h1 h2 => ?_, fun w1 A1 c1 A2 c2 h1 h2 => ?_⟩
    · refine (sLineRequests_yes A1 _ L A2 c2 S w1 h1 h2 hv.1 hv.2 (Nat.le_refl _)).mono ?_
      rintro e w' ⟨⟨g, cap, rfl, _, hi⟩, hb⟩
      exact ⟨⟨_, rfl, _, cap, by rw [hlen], hi.nv⟩, hb⟩
    · refine (LineRequests_yes A1 c1 L A2 c2 S w1 h1 h2 hv.1 hv.2).mono ?_
      rintro e w' ⟨⟨g, rfl, hg, hi⟩, hb⟩
      exact ⟨⟨_, rfl, .inr ⟨g, _, rfl, hlen.symm, hg, hi⟩⟩, hb⟩
set_option maxRecDepth 100000 in
theorem walk (A : Option Addr) (c : Nat) (L : List Ln) (A' : Option Addr) (c' : Nat) (S : List Sp) (w : World) (h : LnV w A L) (hm : L.length ≤ maxLen) (h' : SpV w A' S) (hm' : S.length ≤ maxLen) : Calls Try.prog 4 #[.slice A L.length c, .slice A' S.length c'] w fun e w' => e = .returned (.bool true) ∧ Below w.heap.size w w' := by
  by_cases hL : (L.length : Int) ≤ 1048576
  · by_cases hS : (S.length : Int) ≤ 1048576 - (L.length : Int)
    · have hL8 : L.length ≤ 1048576 := by omega
      have hS8 : S.length ≤ 1048576 := by omega
      obtain ⟨M, hM, hR1, hR2⟩ := both L S hL8 hS8
      have HR1 := Lib.hid hR1
      have HR2 := Lib.hid hR2
      have hd1 : decide ((1048576 : Int) - (L.length : Int) < 0) = false := by simp; omega
      have hd2 : decide ((1048576 : Int) - (L.length : Int) - (S.length : Int) < 0) = false := by simp; omega
      clear hR1 hR2
      go_enter Try.func4, Try.ntmps4
      go_wp2_with fail
      with_reducible refine (szLnS_yes A c L.length 1048576 _ hL (by omega)).mono ?_
      rintro e w1 ⟨rfl, rfl⟩
      go_wp2_with fail
      with_reducible refine (szSpS_yes A' c' S.length _ _ hS (by omega)).mono ?_
      rintro e w1 ⟨rfl, rfl⟩
      go_wp2_with fail
      with_reducible refine (toLnS_any A c L _ h hL8).mono ?_
      rintro e w1 ⟨rfl, hk1, hb1⟩
      have HB := Lib.hid hb1
      have HK := Lib.hid hk1
      clear hb1 hk1
      go_wp2_with fail
      with_reducible refine (toSpS_any A' c' S _ (h'.keep HB.out) hS8).mono ?_
      rintro e w2 ⟨rfl, hk2, hb2⟩
      replace HK := Lib.hid (HK.out.keep hb2)
      have HJ := Lib.hid hk2
      replace HB := Lib.hid (bkeep2 HB.out hb2)
      clear hb2 hk2
      go_wp2_with fail
      with_reducible refine (HR1.out _ _ _ S.length HK.out.v HJ.out.v).mono ?_
      rintro e w3 ⟨⟨x3, rfl, hx3⟩, hb3⟩
      replace HB := Lib.hid (bkeep2 HB.out hb3)
      have HX := Lib.hid hx3
      clear hb3 hx3 HK HJ
      go_wp2_with fail
      with_reducible refine (toLnS_any A c L _ (h.keep HB.out) hL8).mono ?_
      rintro e w4 ⟨rfl, hk4, hb4⟩
      have HC := Lib.hid hb4
      have HK := Lib.hid hk4
      clear hb4 hk4
      go_wp2_with fail
      with_reducible refine (toSpS_any A' c' S _ (h'.keep (HB.out.trans (HC.out.mono HB.out.size))) hS8).mono ?_
      rintro e w5 ⟨rfl, hk5, hb5⟩
      have hg45 := HK.out.lt
      replace HK := Lib.hid (HK.out.keep hb5)
      have HJ := Lib.hid hk5
      have hs34 := HC.out.size
      replace HC := Lib.hid (bkeep2 HC.out hb5)
      have hlt4 := HK.out.lt
      have hlt5 := HJ.out.lt
      clear hb5 hk5
      go_wp2_with fail
      with_reducible refine (HR2.out _ _ L.length _ S.length HK.out.v HJ.out.v).mono ?_
      rintro e w6 ⟨⟨x6, rfl, hx6⟩, hb6⟩
      have hs35 := HC.out.size
      replace HC := Lib.hid (bkeep2 HC.out hb6)
      have HG := Lib.hid hx6
      replace HK := Lib.hid (HK.out.keep hb6)
      replace HJ := Lib.hid (HJ.out.keep hb6)
      clear hb6 hx6
      go_wp2_with fail
      have hM0 : decide ((M.length : Int) + 1 < 0) = false := by simp; omega
      have hL0 : decide ((S.length : Int) * 3 + ((L.length : Int) * 2 + 1) < 0) = false := by simp; omega
      with_reducible refine (eqIntS_same _ _ M _ HG.out.nr (HX.out.keep HC.out) hM).mono ?_
      rintro e w7 ⟨rfl, hb7⟩
      replace HC := Lib.hid (bkeep2 HC.out hb7)
      replace HG := Lib.hid (HG.out.keep hb7)
      replace HK := Lib.hid (HK.out.keep hb7)
      replace HJ := Lib.hid (HJ.out.keep hb7)
      clear hb7
      go_wp2_with fail
      with_reducible refine (toLnS_any A c L _ (h.keep (HB.out.trans (HC.out.mono HB.out.size))) hL8).mono ?_
      rintro e w8 ⟨rfl, hk8, hb8⟩
      replace HC := Lib.hid (bkeep2 HC.out hb8)
      replace HG := Lib.hid (HG.out.keep hb8)
      replace HK := Lib.hid (HK.out.keep hb8)
      replace HJ := Lib.hid (HJ.out.keep hb8)
      clear hb8
      go_wp2_with fail
      with_reducible refine (eqLnS_same _ _ _ _ L _ HK.out.v hk8.v hL8).mono ?_
      rintro e w9 ⟨rfl, hb9⟩
      replace HC := Lib.hid (bkeep2 HC.out hb9)
      replace HG := Lib.hid (HG.out.keep hb9)
      replace HK := Lib.hid (HK.out.keep hb9)
      replace HJ := Lib.hid (HJ.out.keep hb9)
      clear hb9 hk8
      go_wp2_with fail
      with_reducible refine (toSpS_any A' c' S _ (h'.keep (HB.out.trans (HC.out.mono HB.out.size))) hS8).mono ?_
      rintro e w10 ⟨rfl, hk10, hb10⟩
      replace HC := Lib.hid (bkeep2 HC.out hb10)
      replace HG := Lib.hid (HG.out.keep hb10)
      replace HK := Lib.hid (HK.out.keep hb10)
      replace HJ := Lib.hid (HJ.out.keep hb10)
      clear hb10
      go_wp2_with fail
      with_reducible refine (eqSpS_same _ _ _ _ S _ HJ.out.v hk10.v hS8).mono ?_
      rintro e w11 ⟨rfl, hb11⟩
      replace HC := Lib.hid (bkeep2 HC.out hb11)
      replace HG := Lib.hid (HG.out.keep hb11)
      replace HK := Lib.hid (HK.out.keep hb11)
      replace HJ := Lib.hid (HJ.out.keep hb11)
      clear hb11 hk10
      go_wp2_with fail
      with_reducible refine (markLnS_v _ L.length 1 L _ HK.out rfl hL8 (by omega) (by omega)).mono ?_
      rintro e w12 ⟨rfl, hg12⟩
      replace HC := Lib.hid (HC.out.trans (below_grownI hg12 (fun q e => by cases e; exact Nat.le_refl _) HC.out.size))
      replace HG := Lib.hid (HG.out.but hg12 hlt4)
      replace HJ := Lib.hid (HJ.out.but hg12 (by omega))
      clear hg12 HK
      go_wp2_with fail
      with_reducible refine (markSpS_v _ S.length _ S _ HJ.out rfl hS8 (by omega) (by omega)).mono ?_
      rintro e w13 ⟨rfl, hg13⟩
      replace HC := Lib.hid (HC.out.trans (below_grownI hg13 (fun q e => by cases e; exact hs34) HC.out.size))
      replace HG := Lib.hid (HG.out.but hg13 hlt5)
      clear hg13 HJ
      go_wp2_with fail
      with_reducible refine (eqIntS_same _ _ M _ HG.out.nr (HX.out.keep HC.out) hM).mono ?_
      rintro e w14 ⟨rfl, hb14⟩
      replace HC := Lib.hid (bkeep2 HC.out hb14)
      replace HG := Lib.hid (HG.out.keep hb14)
      clear hb14
      go_wp2_with fail
      with_reducible refine (markGI _ _ _ M HG.out hM).mono ?_
      rintro e w15 ⟨rfl, hm15, hb15⟩
      replace HC := Lib.hid (HC.out.trans (hb15.mono hs35))
      have HM := Lib.hid hm15
      clear hb15 hm15 HG
      go_wp2_with fail
      with_reducible refine (heldGI _ _ M.length HM.out hM).mono ?_
      rintro e w16 ⟨rfl, rfl⟩
      go_wp2_with fail
      with_reducible refine (toLnS_any A c L _ (h.keep (HB.out.trans (HC.out.mono HB.out.size))) hL8).mono ?_
      rintro e w17 ⟨rfl, hk17, hb17⟩
      replace HC := Lib.hid (bkeep2 HC.out hb17)
      replace HM := Lib.hid (HM.out.keep hb17)
      have HK := Lib.hid hk17
      clear hb17 hk17
      go_wp2_with fail
      with_reducible refine (toSpS_any A' c' S _ (h'.keep (HB.out.trans (HC.out.mono HB.out.size))) hS8).mono ?_
      rintro e w18 ⟨rfl, hk18, hb18⟩
      replace HC := Lib.hid (bkeep2 HC.out hb18)
      replace HM := Lib.hid (HM.out.keep hb18)
      replace HK := Lib.hid (HK.out.keep hb18)
      have HJ := Lib.hid hk18
      clear hb18 hk18
      go_wp2_with fail
      with_reducible refine (HR2.out _ _ L.length _ S.length HK.out.v HJ.out.v).mono ?_
      rintro e w19 ⟨⟨x19, rfl, hx19⟩, hb19⟩
      replace HC := Lib.hid (bkeep2 HC.out hb19)
      replace HM := Lib.hid (HM.out.keep hb19)
      have HH := Lib.hid hx19
      clear hb19 HK HJ hx19
      go_wp2_with fail
      with_reducible refine (eqIntS_same _ _ M _ HH.out.nr (HX.out.keep HC.out) hM).mono ?_
      rintro e w20 ⟨rfl, hb20⟩
      replace HC := Lib.hid (bkeep2 HC.out hb20)
      replace HM := Lib.hid (HM.out.keep hb20)
      clear hb20 HH
      go_wp2_with fail
      with_reducible refine (heldGI _ _ M.length HM.out hM).mono ?_
      rintro e w21 ⟨rfl, rfl⟩
      go_wp2
      go_ret
      exact ⟨rfl, HB.out.trans (HC.out.mono HB.out.size)⟩
    · have hd1 : decide ((1048576 : Int) - (L.length : Int) < 0) = false := by simp; omega
      go_enter Try.func4, Try.ntmps4
      go_wp2_with fail
      with_reducible refine (szLnS_yes A c L.length 1048576 _ (by omega) (by omega)).mono ?_
      rintro e w1 ⟨rfl, rfl⟩
      go_wp2_with fail
      with_reducible refine (szSpS_no A' c' S.length _ _ (by omega) (by omega) (by omega) hm').mono ?_
      rintro e w1 ⟨rfl, rfl⟩
      go_wp2
      go_ret
      exact ⟨rfl, Below.refl _ _⟩
  · have hd1 : decide ((-1 : Int) < 0) = true := by simp
    go_enter Try.func4, Try.ntmps4
    go_wp2_with fail
    with_reducible refine (szLnS_no A c L.length 1048576 _ (by omega) (by omega) (by omega) hm).mono ?_
    rintro e w1 ⟨rfl, rfl⟩
    go_wp2
    go_ret
    exact ⟨rfl, Below.refl _ _⟩
set_option maxRecDepth 100000 in
theorem lifted (os : Os) (started : os.Started) (H : Type) (enc : TypeId × Value → H) :
    ReturnsInHanded {} Try.checked os 4 .any (Rows.fnExactLineRequestsSpec.pre6 enc Try.prog Try.f4 Rows.fnExactLineRequestsRow.domain false) (Rows.fnExactLineRequestsSpec.post enc Try.prog Try.f4 false true false false) := by
  refine returnsInHanded_of_change (C := Try.checked) own started (by kernel_rfl) Try.func4
    (ChangeSpec.witness6 (enc := enc) (C := Try.checked) false ⟨#[], #[.slice none 0 0, .slice none 0 0], []⟩ 8 (by kernel_rfl) (by kernel_rfl) (by kernel_rfl) (by kernel_rfl)) ?_
  intro W base args ds gs before hval0 hW hcnd _
  have hval : ∀ (j : Nat) t v, Try.f4.params[j]? = some t → args[j]? = some v → Value.okWide Try.prog W .any base t v := hval0
  have hW' := hW
  obtain ⟨p, q, hA0, hV, rfl, hfz, hnd⟩ := hW
  have hA : DataW.TrodAll enc Try.prog W 0 (fun _ => true) true Try.f4.params.toList args.toList ds p := hA0
  rw [Try.params4] at hA hval
  obtain ⟨v0, vs0, d0, ds0, p0, q0, hargs, rfl, rfl, h0, r0⟩ := trodAll_cons hA
  obtain ⟨v1, vs1, d1, ds1, p1, q1, rfl, rfl, rfl, h1, r1⟩ := trodAll_cons r0
  obtain ⟨rfl, rfl, rfl⟩ := trodAll_nil r1
  obtain rfl : args = #[v0, v1] := by cases args; simp_all
  obtain ⟨rfl, rfl⟩ := trodVars_none hV
  have k0 := h0
  have lt0 : ∀ x ∈ p0, x.block < W.heap.size := by obtain ⟨m, hm⟩ := k0; exact DataW.trod_lt m _ _ _ hm
  obtain ⟨a0, len0, cap0, rfl⟩ := okWide_slice Try.underlying28 (hval 0 28 v0 rfl rfl)
  obtain ⟨z0, zl0, wz0, zm0⟩ := lines_of h0
  subst zl0
  have k1 := h1
  have lt1 : ∀ x ∈ p1, x.block < W.heap.size := by obtain ⟨m, hm⟩ := k1; exact DataW.trod_lt m _ _ _ hm
  obtain ⟨a1, len1, cap1, rfl⟩ := okWide_slice Try.underlying29 (hval 1 29 v1 rfl rfl)
  obtain ⟨z1, zl1, wz1, zm1⟩ := spans_of h1
  subst zl1
  clear hA0 hval0
  refine (walk a0 cap0 z0 a1 cap1 z1 W wz0 zm0 wz1 zm1).mono fun e W' ⟨he, bel⟩ => ?_
  subst he
  exact ⟨_, rfl, _, _, _, [], _, [], hW', trodAll_mk1 (shut_bool Try.underlying4 _), (trodAll_cons_mk (Below.trod laidOut (by kernel_rfl) (of_decide_eq_true (by kernel_rfl)) k0 bel lt0) (trodAll_cons_mk (Below.trod laidOut (by kernel_rfl) (of_decide_eq_true (by kernel_rfl)) k1 bel lt1) trodAll_mk0)), rfl, bel.frame _, fun h => by cases h⟩
theorem over : Rows.fnExactLineRequestsRow.holds Try.pinned (OpenSpec.ofChange Rows.fnExactLineRequestsSpec) :=
  OpenClaim.holds_of_wide 4 Try.f4 rfl rfl rfl rfl rfl rfl rfl ⟨rfl, rfl, rfl, rfl, rfl⟩ rfl rfl rfl rfl rfl (by kernel_rfl) Try.func4 (by kernel_rfl)
    (of_decide_eq_true (by kernel_rfl)) (by unfold Func.isWrapper; first | (rw [if_pos (by decide +kernel)]; kernel_rfl) | (rw [if_neg (by decide +kernel)]; exact ⟨rfl, rfl⟩))
    (fun os started H enc _ => lifted os started H enc)
theorem proved : Rows.FnExactLineRequestsSaid := over
end Go.Proofs.Ytnkoeekgdehhiac.xLineRequests
