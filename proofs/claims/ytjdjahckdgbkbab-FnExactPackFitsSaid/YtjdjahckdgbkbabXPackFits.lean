/- FnExactPackFits: for every argument the function of the program answers as the model's, and it writes into no argument. No condition. -/
import Derived.Test.YtjdjahckdgbkbabQ08
namespace Go.Proofs.Ytjdjahckdgbkbab.xPackFits
open Go.ChangeShapes Go.WideShapes Go.ChangeAt Go.RowKit Go.Joins
set_option linter.unusedVariables false
set_option maxHeartbeats 1000000
theorem both (L : List Pk) (u v : Int) (hL : L.length ≤ 1048576) : ∃ B : Bool,
    (∀ w1 A' c', PV w1 A' L → L.length ≤ c' → Calls Try.prog 10 #[.slice A' L.length c', .int .i64 u, .int .i64 v] w1 fun e w' => e = .returned (.bool B) ∧ Below w1.heap.size w1 w') ∧
    (∀ w1 A' c', PV w1 A' L → L.length ≤ c' → Calls Try.prog 12 #[.slice A' L.length c', .int .i64 u, .int .i64 v] w1 fun e w' => e = .returned (.bool B) ∧ Below w1.heap.size w1 w') := by
  cases hv : vpsB L
  · exact ⟨false, fun w1 A' c' h1 h2 => sPackFits_no A' c' L u v w1 h1 h2 hL (.inl hv), fun w1 A' c' h1 h2 => PackFits_no A' c' L u v w1 h1 h2 hL (.inl hv)⟩
  · cases hr : rmB u v
    · exact ⟨false, fun w1 A' c' h1 h2 => sPackFits_no A' c' L u v w1 h1 h2 hL (.inr ⟨hv, hr⟩), fun w1 A' c' h1 h2 => PackFits_no A' c' L u v w1 h1 h2 hL (.inr ⟨hv, hr⟩)⟩
    · exact ⟨_, fun w1 A' c' h1 h2 => sPackFits_yes A' c' L u v w1 h1 h2 hL hv hr _ rfl, fun w1 A' c' h1 h2 => PackFits_yes A' c' L u v w1 h1 h2 hL hv hr _ rfl⟩
set_option maxRecDepth 100000 in
theorem walk (A : Option Addr) (c : Nat) (L : List Pk) (u v : Int) (w : World) (h : PV w A L) (hm : L.length ≤ maxLen) : Calls Try.prog 3 #[.slice A L.length c, .int .i64 u, .int .i64 v] w fun e w' => e = .returned (.bool true) ∧ Below w.heap.size w w' := by
  by_cases hL : L.length ≤ 1048576
  · obtain ⟨B, hR1, hR2⟩ := both L u v hL
    have HR1 := Lib.hid hR1
    have HR2 := Lib.hid hR2
    clear hR1 hR2
    cases B
    all_goals
      go_enter Try.func3, Try.ntmps3
      go_wp2_with fail
      with_reducible refine (szPackS_yes A c L.length _ hL).mono ?_
      rintro e w0 ⟨⟨r, rfl, hr0⟩, rfl⟩
      have hr1 : decide (r < 0) = false := by simp; omega
      go_wp2_with fail
      with_reducible refine (toPackS_any A c L _ h hL).mono ?_
      rintro e w1 ⟨rfl, hk1, hb1⟩
      have HB := Lib.hid hb1
      clear hb1 hr1
      go_wp2_with fail
      with_reducible refine (HR1.out _ _ L.length hk1.pv (Nat.le_refl _)).mono ?_
      rintro e w2 ⟨rfl, hb2⟩
      replace HB := Lib.hid (bkeep2 HB.out hb2)
      clear hb2 hk1
      go_wp2_with fail
      with_reducible refine (toPackS_any A c L _ (h.keep HB.out) hL).mono ?_
      rintro e w3 ⟨rfl, hk3, hb3⟩
      replace HB := Lib.hid (bkeep2 HB.out hb3)
      clear hb3
      go_wp2_with fail
      with_reducible refine (HR2.out _ _ L.length hk3.pv (Nat.le_refl _)).mono ?_
      rintro e w4 ⟨rfl, hb4⟩
      replace HB := Lib.hid (bkeep2 HB.out hb4)
      have hk4 := hk3.keep hb4
      clear hb4 hk3
      go_wp2_with fail
      with_reducible refine (toPackS_any A c L _ (h.keep HB.out) hL).mono ?_
      rintro e w5 ⟨rfl, hk5, hb5⟩
      replace HB := Lib.hid (bkeep2 HB.out hb5)
      have hk6 := hk4.keep hb5
      clear hb5 hk4
      go_wp2_with fail
      with_reducible refine (eqPackS_same _ _ L.length L.length L _ hk6.pv hk5.pv hL).mono ?_
      rintro e w6 ⟨rfl, hb6⟩
      replace HB := Lib.hid (bkeep2 HB.out hb6)
      clear hb6 hk5 hk6
      go_wp2
      go_ret
      exact ⟨rfl, HB.out⟩
  · go_enter Try.func3, Try.ntmps3
    go_wp2_with fail
    with_reducible refine (szPackS_no A c L.length _ hL hm).mono ?_
    rintro e w0 ⟨rfl, rfl⟩
    go_wp2
    go_ret
    exact ⟨rfl, Below.refl _ _⟩
set_option maxRecDepth 100000 in
theorem lifted (os : Os) (started : os.Started) (H : Type) (enc : TypeId × Value → H) :
    ReturnsInHanded {} Try.checked os 3 .any (Rows.fnExactPackFitsSpec.pre6 enc Try.prog Try.f3 Rows.fnExactPackFitsRow.domain false) (Rows.fnExactPackFitsSpec.post enc Try.prog Try.f3 false true false false) := by
  refine returnsInHanded_of_change (C := Try.checked) own started (by kernel_rfl) Try.func3
    (ChangeSpec.witness6 (enc := enc) (C := Try.checked) false ⟨#[], #[.slice none 0 0, .int .i64 0, .int .i64 0], []⟩ 8 (by kernel_rfl) (by kernel_rfl) (by kernel_rfl) (by kernel_rfl)) ?_
  intro W base args ds gs before hval0 hW hcnd _
  have hval : ∀ (j : Nat) t v, Try.f3.params[j]? = some t → args[j]? = some v → Value.okWide Try.prog W .any base t v := hval0
  have hW' := hW
  obtain ⟨p, q, hA0, hV, rfl, hfz, hnd⟩ := hW
  have hA : DataW.TrodAll enc Try.prog W 0 (fun _ => true) true Try.f3.params.toList args.toList ds p := hA0
  rw [Try.params3] at hA hval
  obtain ⟨v0, vs0, d0, ds0, p0, q0, hargs, rfl, rfl, h0, r0⟩ := trodAll_cons hA
  obtain ⟨v1, vs1, d1, ds1, p1, q1, rfl, rfl, rfl, h1, r1⟩ := trodAll_cons r0
  obtain ⟨v2, vs2, d2, ds2, p2, q2, rfl, rfl, rfl, h2, r2⟩ := trodAll_cons r1
  obtain ⟨rfl, rfl, rfl⟩ := trodAll_nil r2
  obtain rfl : args = #[v0, v1, v2] := by cases args; simp_all
  obtain ⟨rfl, rfl⟩ := trodVars_none hV
  have k0 := h0
  have lt0 : ∀ x ∈ p0, x.block < W.heap.size := by obtain ⟨m, hm⟩ := k0; exact DataW.trod_lt m _ _ _ hm
  obtain ⟨a0, len0, cap0, rfl⟩ := okWide_slice Try.underlying22 (hval 0 22 v0 rfl rfl)
  obtain ⟨z0, zl0, wz0, zm0⟩ := packs_of h0
  subst zl0
  have k1 := h1
  have lt1 : ∀ x ∈ p1, x.block < W.heap.size := by obtain ⟨m, hm⟩ := k1; exact DataW.trod_lt m _ _ _ hm
  obtain ⟨x1, rfl, _, _, wx1⟩ := open_int Try.underlying3 (hval 1 3 v1 rfl rfl) h1
  have k2 := h2
  have lt2 : ∀ x ∈ p2, x.block < W.heap.size := by obtain ⟨m, hm⟩ := k2; exact DataW.trod_lt m _ _ _ hm
  obtain ⟨x2, rfl, _, _, wx2⟩ := open_int Try.underlying3 (hval 2 3 v2 rfl rfl) h2
  clear hA0 hval0
  refine (walk a0 cap0 z0 x1 x2 W wz0 zm0).mono fun e W' ⟨he, bel⟩ => ?_
  subst he
  exact ⟨_, rfl, _, _, _, [], _, [], hW', trodAll_mk1 (shut_bool Try.underlying4 _), (trodAll_cons_mk (Below.trod laidOut (by kernel_rfl) (of_decide_eq_true (by kernel_rfl)) k0 bel lt0) (trodAll_cons_mk (Below.trod laidOut (by kernel_rfl) (of_decide_eq_true (by kernel_rfl)) k1 bel lt1) (trodAll_cons_mk (Below.trod laidOut (by kernel_rfl) (of_decide_eq_true (by kernel_rfl)) k2 bel lt2) trodAll_mk0))), rfl, bel.frame _, fun h => by cases h⟩
theorem over : Rows.fnExactPackFitsRow.holds Try.pinned (OpenSpec.ofChange Rows.fnExactPackFitsSpec) :=
  OpenClaim.holds_of_wide 3 Try.f3 rfl rfl rfl rfl rfl rfl rfl ⟨rfl, rfl, rfl, rfl, rfl⟩ rfl rfl rfl rfl rfl (by kernel_rfl) Try.func3 (by kernel_rfl)
    (of_decide_eq_true (by kernel_rfl)) (by unfold Func.isWrapper; first | (rw [if_pos (by decide +kernel)]; kernel_rfl) | (rw [if_neg (by decide +kernel)]; exact ⟨rfl, rfl⟩))
    (fun os started H enc _ => lifted os started H enc)
theorem proved : Rows.FnExactPackFitsSaid := over
end Go.Proofs.Ytjdjahckdgbkbab.xPackFits
