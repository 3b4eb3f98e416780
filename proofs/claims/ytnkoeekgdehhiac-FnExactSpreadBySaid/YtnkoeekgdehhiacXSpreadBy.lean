/- FnExactSpreadBy: for every argument the function of the program answers as the model's, it writes into no argument, and its answer is memory of its own. No condition. -/
import Derived.Test.YtnkoeekgdehhiacQ03
namespace Go.Proofs.Ytnkoeekgdehhiac.xSpreadBy
open Go.ChangeShapes Go.WideShapes Go.ChangeAt Go.RowKit Go.Joins
set_option linter.unusedVariables false
set_option maxHeartbeats 1000000
theorem both (n : Int) (L : List Int) (hL : L.length ≤ 1048576) : ∃ M : List Int, M.length ≤ 1048576 ∧
    (∀ w1 A' c', NV w1 A' L → Calls Try.prog 9 #[.int .i64 n, .slice A' L.length c'] w1 fun e w' => (∃ x, e = .returned x ∧ NR w' x M) ∧ Below w1.heap.size w1 w') ∧
    (∀ w1 A' c', NV w1 A' L → Calls Try.prog 11 #[.int .i64 n, .slice A' L.length c'] w1 fun e w' => (∃ x, e = .returned x ∧ GI w1.heap.size w' x M) ∧ Below w1.heap.size w1 w') := by
  cases hv : sbB n L
  · refine ⟨[], by simp, fun w1 A' c' h1 => ?_, fun w1 A' c' h1 => ?_⟩
    · refine (sSpreadBy_any A' c' n L w1 h1 hL).mono ?_
      rintro e w' ⟨⟨_, rfl⟩ | ⟨h, _⟩, hb⟩
      · exact ⟨⟨_, rfl, none, 0, rfl, NV.nil _ _⟩, hb⟩
      · rw [hv] at h; cases h
    · refine (SpreadBy_no A' c' n L w1 h1 hL hv).mono ?_
      rintro e w' ⟨rfl, hb⟩
      exact ⟨⟨_, rfl, .inl ⟨rfl, rfl⟩⟩, hb⟩
  · have hlen := spreadM_len (n := n) (ws := L)
    refine ⟨spreadM n L, by omega, fun w1 A' c' h1 => ?_, fun w1 A' c' h1 => ?_⟩
    · refine (sSpreadBy_any A' c' n L w1 h1 hL).mono ?_
      rintro e w' ⟨⟨h, _⟩ | ⟨_, g, rfl, _, hi⟩, hb⟩
      · rw [hv] at h; cases h
      · exact ⟨⟨_, rfl, hi.nr hlen.symm _⟩, hb⟩
    · refine (SpreadBy_yes A' c' n L w1 h1 hv).mono ?_
      rintro e w' ⟨⟨g, rfl, hg, hi⟩, hb⟩
      exact ⟨⟨_, rfl, .inr ⟨g, _, rfl, hlen.symm, hg, hi⟩⟩, hb⟩
set_option maxRecDepth 100000 in
theorem walk (n : Int) (A : Option Addr) (c : Nat) (L : List Int) (w : World) (h : NV w A L) (hm : L.length ≤ maxLen) : Calls Try.prog 3 #[.int .i64 n, .slice A L.length c] w fun e w' => e = .returned (.bool true) ∧ Below w.heap.size w w' := by
  by_cases hL : L.length ≤ 1048576
  · obtain ⟨M, hM, hR1, hR2⟩ := both n L hL
    have HR1 := Lib.hid hR1
    have HR2 := Lib.hid hR2
    have hL1 : ¬ (1048576 : Int) < (L.length : Int) := by omega
    have hL2 : decide ((1048576 : Int) < (L.length : Int)) = false := by simp; omega
    clear hR1 hR2
    go_enter Try.func3, Try.ntmps3
    go_wp2_with fail
    with_reducible refine (toIntS_any A c L _ h hL).mono ?_
    rintro e w1 ⟨rfl, hk1, hb1⟩
    have HB := Lib.hid hb1
    clear hb1
    go_wp2_with fail
    with_reducible refine (HR1.out _ _ L.length hk1.nv).mono ?_
    rintro e w2 ⟨⟨x2, rfl, hx2⟩, hb2⟩
    replace HB := Lib.hid (bkeep2 HB.out hb2)
    clear hb2 hk1
    go_wp2_with fail
    with_reducible refine (toIntS_any A c L _ (h.keep HB.out) hL).mono ?_
    rintro e w3 ⟨rfl, hk3, hb3⟩
    have HC := Lib.hid hb3
    have HX := Lib.hid hx2
    have hlt3 := hk3.lt
    clear hb3 hx2
    go_wp2_with fail
    with_reducible refine (HR2.out _ _ L.length hk3.nv).mono ?_
    rintro e w4 ⟨⟨x4, rfl, hx4⟩, hb4⟩
    replace HC := Lib.hid (bkeep2 HC.out hb4)
    have HG := Lib.hid hx4
    have HK := Lib.hid (hk3.keep hb4)
    clear hb4 hk3 hx4
    go_wp2_with fail
    have hM0 : decide ((M.length : Int) + 1 < 0) = false := by simp; omega
    have hL0 : decide ((L.length : Int) + 1 < 0) = false := by simp; omega
    have hs23 : w2.heap.size ≤ w3.heap.size := by omega
    with_reducible refine (eqIntS_same _ _ M _ HG.out.nr (HX.out.keep HC.out) hM).mono ?_
    rintro e w5 ⟨rfl, hb5⟩
    replace HC := Lib.hid (bkeep2 HC.out hb5)
    replace HG := Lib.hid (HG.out.keep hb5)
    replace HK := Lib.hid (HK.out.keep hb5)
    clear hb5
    go_wp2_with fail
    with_reducible refine (toIntS_any A c L _ (h.keep (HB.out.trans (HC.out.mono HB.out.size))) hL).mono ?_
    rintro e w6 ⟨rfl, hk6, hb6⟩
    replace HC := Lib.hid (bkeep2 HC.out hb6)
    replace HG := Lib.hid (HG.out.keep hb6)
    replace HK := Lib.hid (HK.out.keep hb6)
    clear hb6
    go_wp2_with fail
    with_reducible refine (eqIntS_same _ _ L _ (HK.out.nr rfl _) (hk6.nr rfl _) hL).mono ?_
    rintro e w7 ⟨rfl, hb7⟩
    replace HC := Lib.hid (bkeep2 HC.out hb7)
    replace HG := Lib.hid (HG.out.keep hb7)
    replace HK := Lib.hid (HK.out.keep hb7)
    clear hb7 hk6
    go_wp2_with fail
    with_reducible refine (markIntS_v _ L _ _ HK.out rfl hL).mono ?_
    rintro e w8 ⟨rfl, -, hg8⟩
    replace HC := Lib.hid (HC.out.trans (below_grownI hg8 (fun q e => by cases e; exact Nat.le_refl _) HC.out.size))
    replace HG := Lib.hid (HG.out.but hg8 hlt3)
    clear hg8 HK
    go_wp2_with fail
    with_reducible refine (eqIntS_same _ _ M _ HG.out.nr (HX.out.keep HC.out) hM).mono ?_
    rintro e w9 ⟨rfl, hb9⟩
    replace HC := Lib.hid (bkeep2 HC.out hb9)
    replace HG := Lib.hid (HG.out.keep hb9)
    clear hb9
    go_wp2_with fail
    with_reducible refine (markGI _ _ _ M HG.out hM).mono ?_
    rintro e w10 ⟨rfl, hm10, hb10⟩
    replace HC := Lib.hid (HC.out.trans (hb10.mono hs23))
    have HM := Lib.hid hm10
    clear hb10 hm10 HG
    go_wp2_with fail
    with_reducible refine (heldGI _ _ M.length HM.out hM).mono ?_
    rintro e w11 ⟨rfl, rfl⟩
    go_wp2_with fail
    with_reducible refine (toIntS_any A c L _ (h.keep (HB.out.trans (HC.out.mono HB.out.size))) hL).mono ?_
    rintro e w12 ⟨rfl, hk12, hb12⟩
    replace HC := Lib.hid (bkeep2 HC.out hb12)
    replace HM := Lib.hid (HM.out.keep hb12)
    clear hb12
    go_wp2_with fail
    with_reducible refine (HR2.out _ _ L.length hk12.nv).mono ?_
    rintro e w13 ⟨⟨x13, rfl, hx13⟩, hb13⟩
    replace HC := Lib.hid (bkeep2 HC.out hb13)
    replace HM := Lib.hid (HM.out.keep hb13)
    have HH := Lib.hid hx13
    clear hb13 hk12 hx13
    go_wp2_with fail
    with_reducible refine (eqIntS_same _ _ M _ HH.out.nr (HX.out.keep HC.out) hM).mono ?_
    rintro e w14 ⟨rfl, hb14⟩
    replace HC := Lib.hid (bkeep2 HC.out hb14)
    replace HM := Lib.hid (HM.out.keep hb14)
    clear hb14 HH
    go_wp2_with fail
    with_reducible refine (heldGI _ _ M.length HM.out hM).mono ?_
    rintro e w15 ⟨rfl, rfl⟩
    go_wp2
    go_ret
    exact ⟨rfl, HB.out.trans (HC.out.mono HB.out.size)⟩
  · have hL1 : (1048576 : Int) < (L.length : Int) := by omega
    go_enter Try.func3, Try.ntmps3
    go_wp2
    go_ret
    exact ⟨rfl, Below.refl _ _⟩
set_option maxRecDepth 100000 in
theorem lifted (os : Os) (started : os.Started) (H : Type) (enc : TypeId × Value → H) :
    ReturnsInHanded {} Try.checked os 3 .any (Rows.fnExactSpreadBySpec.pre6 enc Try.prog Try.f3 Rows.fnExactSpreadByRow.domain false) (Rows.fnExactSpreadBySpec.post enc Try.prog Try.f3 false true false false) := by
  refine returnsInHanded_of_change (C := Try.checked) own started (by kernel_rfl) Try.func3
    (ChangeSpec.witness6 (enc := enc) (C := Try.checked) false ⟨#[], #[.int .i64 0, .slice none 0 0], []⟩ 8 (by kernel_rfl) (by kernel_rfl) (by kernel_rfl) (by kernel_rfl)) ?_
  intro W base args ds gs before hval0 hW hcnd _
  have hval : ∀ (j : Nat) t v, Try.f3.params[j]? = some t → args[j]? = some v → Value.okWide Try.prog W .any base t v := hval0
  have hW' := hW
  obtain ⟨p, q, hA0, hV, rfl, hfz, hnd⟩ := hW
  have hA : DataW.TrodAll enc Try.prog W 0 (fun _ => true) true Try.f3.params.toList args.toList ds p := hA0
  rw [Try.params3] at hA hval
  obtain ⟨v0, vs0, d0, ds0, p0, q0, hargs, rfl, rfl, h0, r0⟩ := trodAll_cons hA
  obtain ⟨v1, vs1, d1, ds1, p1, q1, rfl, rfl, rfl, h1, r1⟩ := trodAll_cons r0
  obtain ⟨rfl, rfl, rfl⟩ := trodAll_nil r1
  obtain rfl : args = #[v0, v1] := by cases args; simp_all
  obtain ⟨rfl, rfl⟩ := trodVars_none hV
  have k0 := h0
  have lt0 : ∀ x ∈ p0, x.block < W.heap.size := by obtain ⟨m, hm⟩ := k0; exact DataW.trod_lt m _ _ _ hm
  obtain ⟨x0, rfl, _, _, wx0⟩ := open_int Try.underlying3 (hval 0 3 v0 rfl rfl) h0
  have k1 := h1
  have lt1 : ∀ x ∈ p1, x.block < W.heap.size := by obtain ⟨m, hm⟩ := k1; exact DataW.trod_lt m _ _ _ hm
  obtain ⟨a1, len1, cap1, rfl⟩ := okWide_slice Try.underlying22 (hval 1 22 v1 rfl rfl)
  obtain ⟨z1, zl1, wz1, zm1⟩ := ints_of h1
  subst zl1
  clear hA0 hval0
  refine (walk x0 a1 cap1 z1 W wz1 zm1).mono fun e W' ⟨he, bel⟩ => ?_
  subst he
  exact ⟨_, rfl, _, _, _, [], _, [], hW', trodAll_mk1 (shut_bool Try.underlying4 _), (trodAll_cons_mk (Below.trod laidOut (by kernel_rfl) (of_decide_eq_true (by kernel_rfl)) k0 bel lt0) (trodAll_cons_mk (Below.trod laidOut (by kernel_rfl) (of_decide_eq_true (by kernel_rfl)) k1 bel lt1) trodAll_mk0)), rfl, bel.frame _, fun h => by cases h⟩
theorem over : Rows.fnExactSpreadByRow.holds Try.pinned (OpenSpec.ofChange Rows.fnExactSpreadBySpec) :=
  OpenClaim.holds_of_wide 3 Try.f3 rfl rfl rfl rfl rfl rfl rfl ⟨rfl, rfl, rfl, rfl, rfl⟩ rfl rfl rfl rfl rfl (by kernel_rfl) Try.func3 (by kernel_rfl)
    (of_decide_eq_true (by kernel_rfl)) (by unfold Func.isWrapper; first | (rw [if_pos (by decide +kernel)]; kernel_rfl) | (rw [if_neg (by decide +kernel)]; exact ⟨rfl, rfl⟩))
    (fun os started H enc _ => lifted os started H enc)
theorem proved : Rows.FnExactSpreadBySaid := over
end Go.Proofs.Ytnkoeekgdehhiac.xSpreadBy
