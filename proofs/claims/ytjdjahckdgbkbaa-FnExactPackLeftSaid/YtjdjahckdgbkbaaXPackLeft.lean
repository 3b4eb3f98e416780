/- FnExactPackLeft: for every argument the function of the program answers as the model's, and it writes into no argument. No condition. -/
import Derived.Test.YtjdjahckdgbkbaaQ06
namespace Go.Proofs.Ytjdjahckdgbkbaa.xPackLeft
open Go.ChangeShapes Go.WideShapes Go.ChangeAt Go.RowKit Go.Joins
set_option linter.unusedVariables false
set_option maxHeartbeats 1000000
set_option maxRecDepth 100000 in
theorem eqRect_same (x y u v : Int) (w : World) : Calls Try.prog 27 #[.agg #[.int .i64 (x), .int .i64 (y), .int .i64 (u), .int .i64 (v)], .agg #[.int .i64 (x), .int .i64 (y), .int .i64 (u), .int .i64 (v)]] w fun e w' => e = .returned (.bool true) ∧ Below w.heap.size w w' := by
  go_enter Try.func27, Try.ntmps27
  go_wp2
  go_ret
  exact ⟨rfl, balloc (balloc (Below.refl _ _))⟩
set_option maxRecDepth 100000 in
theorem walk (A : Option Addr) (c : Nat) (L : List Pk) (u v : Int) (w : World) (h : PV w A L) (hm : L.length ≤ maxLen) : Calls Try.prog 7 #[.slice A L.length c, .int .i64 u, .int .i64 v] w fun e w' => e = .returned (.bool true) ∧ Below w.heap.size w w' := by
  by_cases hL : L.length ≤ 1048576
  · obtain ⟨R, hR1, hR2⟩ : ∃ R : Rc, (∀ w1 A' c', PV w1 A' L → L.length ≤ c' → Calls Try.prog 25 #[.slice A' L.length c', .int .i64 u, .int .i64 v] w1 fun e w' => e = .returned (.agg #[.int .i64 (R.x), .int .i64 (R.y), .int .i64 (R.u), .int .i64 (R.v)]) ∧ Below w1.heap.size w1 w') ∧
        (∀ w1 A' c', PV w1 A' L → L.length ≤ c' → Calls Try.prog 26 #[.slice A' L.length c', .int .i64 u, .int .i64 v] w1 fun e w' => e = .returned (.agg #[.int .i64 (R.x), .int .i64 (R.y), .int .i64 (R.u), .int .i64 (R.v)]) ∧ Below w1.heap.size w1 w') := by
      cases hv : vpsB L
      · exact ⟨⟨0, 0, 0, 0⟩, fun w1 A' c' h1 h2 => sPackLeft_no A' c' L u v w1 h1 h2 hL (.inl hv), fun w1 A' c' h1 h2 => PackLeft_no A' c' L u v w1 h1 h2 hL (.inl hv)⟩
      · cases hr : rmB u v
        · exact ⟨⟨0, 0, 0, 0⟩, fun w1 A' c' h1 h2 => sPackLeft_no A' c' L u v w1 h1 h2 hL (.inr ⟨hv, hr⟩), fun w1 A' c' h1 h2 => PackLeft_no A' c' L u v w1 h1 h2 hL (.inr ⟨hv, hr⟩)⟩
        · exact ⟨(parcM L ⟨0, 0, u, v⟩).2, fun w1 A' c' h1 h2 => sPackLeft_yes A' c' L u v w1 h1 h2 hL hv hr _ _ rfl, fun w1 A' c' h1 h2 => PackLeft_yes A' c' L u v w1 h1 h2 hL hv hr _ _ rfl⟩
    have HR1 := Lib.hid hR1
    have HR2 := Lib.hid hR2
    clear hR1 hR2
    go_enter Try.func7, Try.ntmps7
    go_wp2_with fail
    with_reducible refine (szPackS_yes A c L.length _ hL).mono ?_
    rintro e w0 ⟨⟨r, rfl, hr0⟩, rfl⟩
    have hr1 : decide (r < 0) = false := by simp; omega
    go_wp2_with fail
    with_reducible refine (toPackS_any A c L _ h hL).mono ?_
    rintro e w1 ⟨rfl, hk1, hb1⟩
    have HB := Lib.hid hb1
    clear hb1 hr1
    go_wp2_with fail
    with_reducible refine (HR1.out _ _ L.length hk1.pv (Nat.le_refl _)).mono ?_
    rintro e w2 ⟨rfl, hb2⟩
    replace HB := Lib.hid (bkeep2 HB.out hb2)
    clear hb2 hk1
    go_wp2_with fail
    with_reducible refine (toPackS_any A c L _ (h.keep (balloc HB.out)) hL).mono ?_
    rintro e w3 ⟨rfl, hk3, hb3⟩
    have hx3 := (hb3.block w2.heap.size (by simp)).trans (heap_new w2 (.cells #[.int .i64 R.x, .int .i64 R.y, .int .i64 R.u, .int .i64 R.v] 45 (0, 0)))
    replace HB := Lib.hid (bkeep2 (balloc HB.out) hb3)
    simp only [World.size_alloc] at hk3
    clear hb3
    go_wp2_with fail
    with_reducible refine (HR2.out _ _ L.length hk3.pv (Nat.le_refl _)).mono ?_
    rintro e w4 ⟨rfl, hb4⟩
    replace HB := Lib.hid (bkeep2 HB.out hb4)
    replace hx3 := (hb4.block _ (Array.getElem?_eq_some_iff.1 hx3).1).trans hx3
    have hk4 := hk3.keep hb4
    clear hb4 hk3
    have hl3 := (Array.getElem?_eq_some_iff.1 hx3).1
    have hn3 := Nat.ne_of_lt hl3
    obtain ⟨q0, q1, q2, q3⟩ := cells4 hx3
    generalize w2.heap.size = bx at *
    go_wp2_with fail
    with_reducible refine (eqRect_same _ _ _ _ _).mono ?_
    rintro e w5 ⟨rfl, hb5⟩
    have hk5 := (hk4.keep (balloc (Below.refl _ _))).keep hb5
    replace HB := Lib.hid (bkeep2 (balloc HB.out) hb5)
    clear hb5 hk4 hx3 hl3 hn3 q0 q1 q2 q3
    go_wp2_with fail
    with_reducible refine (toPackS_any A c L _ (h.keep HB.out) hL).mono ?_
    rintro e w6 ⟨rfl, hk6, hb6⟩
    replace HB := Lib.hid (bkeep2 HB.out hb6)
    have hk7 := hk5.keep hb6
    clear hb6 hk5
    go_wp2_with fail
    with_reducible refine (eqPackS_same _ _ L.length L.length L _ hk7.pv hk6.pv hL).mono ?_
    rintro e w7 ⟨rfl, hb7⟩
    replace HB := Lib.hid (bkeep2 HB.out hb7)
    clear hb7 hk7 hk6
    go_wp2
    go_ret
    exact ⟨rfl, HB.out⟩
  · go_enter Try.func7, Try.ntmps7
    go_wp2_with fail
    with_reducible refine (szPackS_no A c L.length _ hL hm).mono ?_
    rintro e w0 ⟨rfl, rfl⟩
    go_wp2
    go_ret
    exact ⟨rfl, Below.refl _ _⟩
set_option maxRecDepth 100000 in
theorem lifted (os : Os) (started : os.Started) (H : Type) (enc : TypeId × Value → H) :
    ReturnsInHanded {} Try.checked os 7 .any (Rows.fnExactPackLeftSpec.pre6 enc Try.prog Try.f7 Rows.fnExactPackLeftRow.domain false) (Rows.fnExactPackLeftSpec.post enc Try.prog Try.f7 false true false false) := by
  refine returnsInHanded_of_change (C := Try.checked) own started (by kernel_rfl) Try.func7
    (ChangeSpec.witness6 (enc := enc) (C := Try.checked) false ⟨#[], #[.slice none 0 0, .int .i64 0, .int .i64 0], []⟩ 8 (by kernel_rfl) (by kernel_rfl) (by kernel_rfl) (by kernel_rfl)) ?_
  intro W base args ds gs before hval0 hW hcnd _
  have hval : ∀ (j : Nat) t v, Try.f7.params[j]? = some t → args[j]? = some v → Value.okWide Try.prog W .any base t v := hval0
  have hW' := hW
  obtain ⟨p, q, hA0, hV, rfl, hfz, hnd⟩ := hW
  have hA : DataW.TrodAll enc Try.prog W 0 (fun _ => true) true Try.f7.params.toList args.toList ds p := hA0
  rw [Try.params7] at hA hval
  obtain ⟨v0, vs0, d0, ds0, p0, q0, hargs, rfl, rfl, h0, r0⟩ := trodAll_cons hA
  obtain ⟨v1, vs1, d1, ds1, p1, q1, rfl, rfl, rfl, h1, r1⟩ := trodAll_cons r0
  obtain ⟨v2, vs2, d2, ds2, p2, q2, rfl, rfl, rfl, h2, r2⟩ := trodAll_cons r1
  obtain ⟨rfl, rfl, rfl⟩ := trodAll_nil r2
  obtain rfl : args = #[v0, v1, v2] := by cases args; simp_all
  obtain ⟨rfl, rfl⟩ := trodVars_none hV
  have k0 := h0
  have lt0 : ∀ x ∈ p0, x.block < W.heap.size := by obtain ⟨m, hm⟩ := k0; exact DataW.trod_lt m _ _ _ hm
  obtain ⟨a0, len0, cap0, rfl⟩ := okWide_slice Try.underlying28 (hval 0 28 v0 rfl rfl)
  obtain ⟨z0, zl0, wz0, zm0⟩ := packs_of h0
  subst zl0
  have k1 := h1
  have lt1 : ∀ x ∈ p1, x.block < W.heap.size := by obtain ⟨m, hm⟩ := k1; exact DataW.trod_lt m _ _ _ hm
  obtain ⟨x1, rfl, _, _, wx1⟩ := open_int Try.underlying3 (hval 1 3 v1 rfl rfl) h1
  have k2 := h2
  have lt2 : ∀ x ∈ p2, x.block < W.heap.size := by obtain ⟨m, hm⟩ := k2; exact DataW.trod_lt m _ _ _ hm
  obtain ⟨x2, rfl, _, _, wx2⟩ := open_int Try.underlying3 (hval 2 3 v2 rfl rfl) h2
  clear hA0 hval0
  refine (walk a0 cap0 z0 x1 x2 W wz0 zm0).mono fun e W' ⟨he, bel⟩ => ?_
  subst he
  exact ⟨_, rfl, _, _, _, [], _, [], hW', trodAll_mk1 (shut_bool Try.underlying4 _), (trodAll_cons_mk (Below.trod laidOut (by kernel_rfl) (of_decide_eq_true (by kernel_rfl)) k0 bel lt0) (trodAll_cons_mk (Below.trod laidOut (by kernel_rfl) (of_decide_eq_true (by kernel_rfl)) k1 bel lt1) (trodAll_cons_mk (Below.trod laidOut (by kernel_rfl) (of_decide_eq_true (by kernel_rfl)) k2 bel lt2) trodAll_mk0))), rfl, bel.frame _, fun h => by cases h⟩
theorem over : Rows.fnExactPackLeftRow.holds Try.pinned (OpenSpec.ofChange Rows.fnExactPackLeftSpec) :=
  OpenClaim.holds_of_wide 7 Try.f7 rfl rfl rfl rfl rfl rfl rfl ⟨rfl, rfl, rfl, rfl, rfl⟩ rfl rfl rfl rfl rfl (by kernel_rfl) Try.func7 (by kernel_rfl)
    (of_decide_eq_true (by kernel_rfl)) (by unfold Func.isWrapper; first | (rw [if_pos (by decide +kernel)]; kernel_rfl) | (rw [if_neg (by decide +kernel)]; exact ⟨rfl, rfl⟩))
    (fun os started H enc _ => lifted os started H enc)
theorem proved : Rows.FnExactPackLeftSaid := over
end Go.Proofs.Ytjdjahckdgbkbaa.xPackLeft
