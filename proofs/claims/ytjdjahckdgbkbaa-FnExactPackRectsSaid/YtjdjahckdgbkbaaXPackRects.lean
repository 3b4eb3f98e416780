/- FnExactPackRects: for every argument the function of the program answers as the model's, it writes into no argument, and its answer is memory of its own. No condition. -/
import Derived.Test.YtjdjahckdgbkbaaQ08
namespace Go.Proofs.Ytjdjahckdgbkbaa.xPackRects
open Go.ChangeShapes Go.WideShapes Go.ChangeAt Go.RowKit Go.Joins
set_option linter.unusedVariables false
set_option maxHeartbeats 1000000
def GB (lo : Nat) (w : World) (v : Value) (M : List Rc) : Prop := (v = .slice none 0 0 ∧ M = []) ∨ ∃ g n, v = .slice (some ⟨g, 0, none⟩) n n ∧ n = M.length ∧ lo ≤ g ∧ Blk4 w g M
theorem GB.rv {lo : Nat} {w : World} {v : Value} {M : List Rc} (h : GB lo w v M) : RV w v M := by
  rcases h with ⟨rfl, rfl⟩ | ⟨g, n, rfl, hn, _, hk⟩
  · exact RV.nil w
  · exact RV.blk hk hn n
theorem GB.keep {lo : Nat} {w w' : World} {v : Value} {M : List Rc} (h : GB lo w v M) (hb : Below w.heap.size w w') : GB lo w' v M :=
  h.imp id fun ⟨g, n, h1, h2, h3, hk⟩ => ⟨g, n, h1, h2, h3, hk.keep hb⟩
theorem GB.but {lo g0 : Nat} {w w' : World} {v : Value} {M : List Rc} (h : GB lo w v M) (hb : w.grownBy w' (some g0)) (hg : g0 < lo) : GB lo w' v M :=
  h.imp id fun ⟨g, n, h1, h2, h3, cs, hh, hs, hc⟩ => ⟨g, n, h1, h2, h3, cs, (hb.block g (Array.getElem?_eq_some_iff.1 hh).1 (fun e => by have := Option.some.inj e; omega)).trans hh, hs, hc⟩
def GM (w : World) (v : Value) (n : Nat) : Prop := (v = .slice none 0 0 ∧ n = 0) ∨ ∃ g, v = .slice (some ⟨g, 0, none⟩) n n ∧ Blk4 w g (MK n)
theorem GM.keep {w w' : World} {v : Value} {n : Nat} (h : GM w v n) (hb : Below w.heap.size w w') : GM w' v n :=
  h.imp id fun ⟨g, h1, hk⟩ => ⟨g, h1, hk.keep hb⟩
theorem markG (lo : Nat) (w : World) (v : Value) (M : List Rc) (h : GB lo w v M) (hM : M.length ≤ 7) :
    Calls Try.prog 23 #[v, .int .i64 1] w fun e w' => e = .returned (.int .i64 ((M.length : Int) * 4 + 1)) ∧ GM w' v M.length ∧ Below lo w w' := by
  rcases h with ⟨rfl, rfl⟩ | ⟨g, n, rfl, hn, hlo, hk⟩
  · refine (markRectS_nil w).mono ?_
    rintro e w' ⟨rfl, rfl⟩
    exact ⟨rfl, .inl ⟨rfl, rfl⟩, Below.refl _ _⟩
  · have hlt : g < w.heap.size := by obtain ⟨cs, hh, _⟩ := hk; exact (Array.getElem?_eq_some_iff.1 hh).1
    refine (markRectS_v g M n w hk hn (by omega)).mono ?_
    rintro e w' ⟨rfl, hk', hg⟩
    subst hn
    exact ⟨rfl, .inr ⟨g, rfl, hk'⟩, below_grown hg (fun q e => by cases e; exact hlo) (by omega)⟩
theorem heldG (w : World) (v : Value) (n : Nat) (h : GM w v n) (hn : n ≤ 7) :
    Calls Try.prog 24 #[v, .int .i64 1] w fun e w' => e = .returned (.int .i64 ((n : Int) * 4 + 1)) ∧ Below w.heap.size w w' := by
  rcases h with ⟨rfl, rfl⟩ | ⟨g, rfl, hk⟩
  · refine (heldRectS_nil w).mono ?_
    rintro e w' ⟨rfl, rfl⟩
    exact ⟨rfl, Below.refl _ _⟩
  · exact heldRectS_v g n w hk hn
theorem both (L : List Pk) (u v : Int) (hL : L.length ≤ 1048576) : ∃ M : List Rc, M.length ≤ 7 ∧
    (∀ w1 A' c', PV w1 A' L → L.length ≤ c' → Calls Try.prog 28 #[.slice A' L.length c', .int .i64 u, .int .i64 v] w1 fun e w' => (∃ x, e = .returned x ∧ RV w' x M) ∧ Below w1.heap.size w1 w') ∧
    (∀ w1 A' c', PV w1 A' L → L.length ≤ c' → Calls Try.prog 29 #[.slice A' L.length c', .int .i64 u, .int .i64 v] w1 fun e w' => (∃ x, e = .returned x ∧ GB w1.heap.size w' x M) ∧ Below w1.heap.size w1 w') := by
  have no : (vpsB L = false ∨ (vpsB L = true ∧ rmB u v = false)) → ∃ M : List Rc, M.length ≤ 7 ∧
    (∀ w1 A' c', PV w1 A' L → L.length ≤ c' → Calls Try.prog 28 #[.slice A' L.length c', .int .i64 u, .int .i64 v] w1 fun e w' => (∃ x, e = .returned x ∧ RV w' x M) ∧ Below w1.heap.size w1 w') ∧
    (∀ w1 A' c', PV w1 A' L → L.length ≤ c' → Calls Try.prog 29 #[.slice A' L.length c', .int .i64 u, .int .i64 v] w1 fun e w' => (∃ x, e = .returned x ∧ GB w1.heap.size w' x M) ∧ Below w1.heap.size w1 w') := fun hn => by
    refine ⟨[], by simp, fun w1 A' c' h1 h2 => ?_, fun w1 A' c' h1 h2 => ?_⟩
    · refine (sPackRects_no A' c' L u v w1 h1 h2 hL hn).mono ?_
      rintro e w' ⟨rfl, hb⟩
      exact ⟨⟨_, rfl, RV.nil _⟩, hb⟩
    · refine (PackRects_no A' c' L u v w1 h1 h2 hL hn).mono ?_
      rintro e w' ⟨rfl, hb⟩
      exact ⟨⟨_, rfl, .inl ⟨rfl, rfl⟩⟩, hb⟩
  cases hv : vpsB L
  · exact no (.inl hv)
  · cases hr : rmB u v
    · exact no (.inr ⟨hv, hr⟩)
    · obtain ⟨_, h7⟩ := vpsB_iff.1 hv
      have hlen := parcM_len (L := L) (z := ⟨0, 0, u, v⟩)
      have hsl := setL_len hlen
      refine ⟨setL L (parcM L ⟨0, 0, u, v⟩).1, by omega, fun w1 A' c' h1 h2 => ?_, fun w1 A' c' h1 h2 => ?_⟩
      · refine (sPackRects_yes A' c' L u v w1 h1 h2 hL hv hr _ _ rfl).mono ?_
        rintro e w' ⟨⟨x, rfl, ho⟩, hb⟩
        exact ⟨⟨_, rfl, ho⟩, hb⟩
      · refine (PackRects_yes A' c' L u v w1 h1 h2 hL hv hr _ _ rfl).mono ?_
        rintro e w' ⟨⟨g, rfl, hg, hk⟩, hb⟩
        exact ⟨⟨_, rfl, .inr ⟨g, _, rfl, hsl.symm, hg, hk⟩⟩, hb⟩
set_option maxRecDepth 100000 in
theorem walk (A : Option Addr) (c : Nat) (L : List Pk) (u v : Int) (w : World) (h : PV w A L) (hm : L.length ≤ maxLen) : Calls Try.prog 8 #[.slice A L.length c, .int .i64 u, .int .i64 v] w fun e w' => e = .returned (.bool true) ∧ Below w.heap.size w w' := by
  by_cases hL : L.length ≤ 1048576
  · obtain ⟨M, hM, hR1, hR2⟩ := both L u v hL
    have HR1 := Lib.hid hR1
    have HR2 := Lib.hid hR2
    clear hR1 hR2
    go_enter Try.func8, Try.ntmps8
    go_wp2_with fail
    with_reducible refine (szPackS_yes A c L.length _ hL).mono ?_
    rintro e w0 ⟨⟨r, rfl, hr0⟩, rfl⟩
    have hr1 : decide (r < 0) = false := by simp; omega
    go_wp2_with fail
    with_reducible refine (toPackS_any A c L _ h hL).mono ?_
    rintro e w1 ⟨rfl, hk1, hb1⟩
    have HB := Lib.hid hb1
    clear hb1 hr1
    go_wp2_with fail
    with_reducible refine (HR1.out _ _ L.length hk1.pv (Nat.le_refl _)).mono ?_
    rintro e w2 ⟨⟨x2, rfl, hx2⟩, hb2⟩
    replace HB := Lib.hid (bkeep2 HB.out hb2)
    clear hb2 hk1
    go_wp2_with fail
    with_reducible refine (toPackS_any A c L _ (h.keep HB.out) hL).mono ?_
    rintro e w3 ⟨rfl, hk3, hb3⟩
    have HC := Lib.hid hb3
    have HX := Lib.hid hx2
    have hlt3 := hk3.lt
    clear hb3 hx2
    go_wp2_with fail
    with_reducible refine (HR2.out _ _ L.length hk3.pv (Nat.le_refl _)).mono ?_
    rintro e w4 ⟨⟨x4, rfl, hx4⟩, hb4⟩
    replace HC := Lib.hid (bkeep2 HC.out hb4)
    have HG := Lib.hid hx4
    have HK := Lib.hid (hk3.keep hb4)
    clear hb4 hk3 hx4
    go_wp2_with fail
    have hM0 : decide ((M.length : Int) * 4 + 1 < 0) = false := by simp; omega
    have hs23 : w2.heap.size ≤ w3.heap.size := by omega
    with_reducible refine (eqRectS_same _ _ M _ HG.out.rv (HX.out.keep HC.out) hM).mono ?_
    rintro e w5 ⟨rfl, hb5⟩
    replace HC := Lib.hid (bkeep2 HC.out hb5)
    replace HG := Lib.hid (HG.out.keep hb5)
    replace HK := Lib.hid (HK.out.keep hb5)
    clear hb5
    go_wp2_with fail
    with_reducible refine (toPackS_any A c L _ (h.keep (HB.out.trans (HC.out.mono HB.out.size))) hL).mono ?_
    rintro e w6 ⟨rfl, hk6, hb6⟩
    replace HC := Lib.hid (bkeep2 HC.out hb6)
    replace HG := Lib.hid (HG.out.keep hb6)
    replace HK := Lib.hid (HK.out.keep hb6)
    clear hb6
    go_wp2_with fail
    with_reducible refine (eqPackS_same _ _ L.length L.length L _ HK.out.pv hk6.pv hL).mono ?_
    rintro e w7 ⟨rfl, hb7⟩
    replace HC := Lib.hid (bkeep2 HC.out hb7)
    replace HG := Lib.hid (HG.out.keep hb7)
    replace HK := Lib.hid (HK.out.keep hb7)
    clear hb7 hk6
    go_wp2_with fail
    with_reducible refine (markPackS_v _ L _ HK.out hL).mono ?_
    rintro e w8 ⟨⟨km, rfl, hkm⟩, hg8⟩
    have hkm1 : decide (km < 0) = false := by simp; omega
    replace HC := Lib.hid (HC.out.trans (below_grown hg8 (fun q e => by cases e; exact Nat.le_refl _) HC.out.size))
    replace HG := Lib.hid (HG.out.but hg8 hlt3)
    clear hg8 HK
    go_wp2_with fail
    with_reducible refine (eqRectS_same _ _ M _ HG.out.rv (HX.out.keep HC.out) hM).mono ?_
    rintro e w9 ⟨rfl, hb9⟩
    replace HC := Lib.hid (bkeep2 HC.out hb9)
    replace HG := Lib.hid (HG.out.keep hb9)
    clear hb9
    go_wp2_with fail
    with_reducible refine (markG _ _ _ M HG.out hM).mono ?_
    rintro e w10 ⟨rfl, hm10, hb10⟩
    replace HC := Lib.hid (HC.out.trans (hb10.mono hs23))
    have HM := Lib.hid hm10
    clear hb10 hm10 HG
    go_wp2_with fail
    with_reducible refine (heldG _ _ M.length HM.out hM).mono ?_
    rintro e w11 ⟨rfl, hb11⟩
    replace HC := Lib.hid (bkeep2 HC.out hb11)
    replace HM := Lib.hid (HM.out.keep hb11)
    clear hb11
    go_wp2_with fail
    with_reducible refine (toPackS_any A c L _ (h.keep (HB.out.trans (HC.out.mono HB.out.size))) hL).mono ?_
    rintro e w12 ⟨rfl, hk12, hb12⟩
    replace HC := Lib.hid (bkeep2 HC.out hb12)
    replace HM := Lib.hid (HM.out.keep hb12)
    clear hb12
    go_wp2_with fail
    with_reducible refine (HR2.out _ _ L.length hk12.pv (Nat.le_refl _)).mono ?_
    rintro e w13 ⟨⟨x13, rfl, hx13⟩, hb13⟩
    replace HC := Lib.hid (bkeep2 HC.out hb13)
    replace HM := Lib.hid (HM.out.keep hb13)
    clear hb13 hk12
    go_wp2_with fail
    with_reducible refine (eqRectS_same _ _ M _ hx13.rv (HX.out.keep HC.out) hM).mono ?_
    rintro e w14 ⟨rfl, hb14⟩
    replace HC := Lib.hid (bkeep2 HC.out hb14)
    replace HM := Lib.hid (HM.out.keep hb14)
    clear hb14 hx13
    go_wp2_with fail
    with_reducible refine (heldG _ _ M.length HM.out hM).mono ?_
    rintro e w15 ⟨rfl, hb15⟩
    replace HC := Lib.hid (bkeep2 HC.out hb15)
    clear hb15 HM
    go_wp2
    go_ret
    exact ⟨rfl, HB.out.trans (HC.out.mono HB.out.size)⟩
  · go_enter Try.func8, Try.ntmps8
    go_wp2_with fail
    with_reducible refine (szPackS_no A c L.length _ hL hm).mono ?_
    rintro e w0 ⟨rfl, rfl⟩
    go_wp2
    go_ret
    exact ⟨rfl, Below.refl _ _⟩
set_option maxRecDepth 100000 in
theorem lifted (os : Os) (started : os.Started) (H : Type) (enc : TypeId × Value → H) :
    ReturnsInHanded {} Try.checked os 8 .any (Rows.fnExactPackRectsSpec.pre6 enc Try.prog Try.f8 Rows.fnExactPackRectsRow.domain false) (Rows.fnExactPackRectsSpec.post enc Try.prog Try.f8 false true false false) := by
  refine returnsInHanded_of_change (C := Try.checked) own started (by kernel_rfl) Try.func8
    (ChangeSpec.witness6 (enc := enc) (C := Try.checked) false ⟨#[], #[.slice none 0 0, .int .i64 0, .int .i64 0], []⟩ 8 (by kernel_rfl) (by kernel_rfl) (by kernel_rfl) (by kernel_rfl)) ?_
  intro W base args ds gs before hval0 hW hcnd _
  have hval : ∀ (j : Nat) t v, Try.f8.params[j]? = some t → args[j]? = some v → Value.okWide Try.prog W .any base t v := hval0
  have hW' := hW
  obtain ⟨p, q, hA0, hV, rfl, hfz, hnd⟩ := hW
  have hA : DataW.TrodAll enc Try.prog W 0 (fun _ => true) true Try.f8.params.toList args.toList ds p := hA0
  rw [Try.params8] at hA hval
  obtain ⟨v0, vs0, d0, ds0, p0, q0, hargs, rfl, rfl, h0, r0⟩ := trodAll_cons hA
  obtain ⟨v1, vs1, d1, ds1, p1, q1, rfl, rfl, rfl, h1, r1⟩ := trodAll_cons r0
  obtain ⟨v2, vs2, d2, ds2, p2, q2, rfl, rfl, rfl, h2, r2⟩ := trodAll_cons r1
  obtain ⟨rfl, rfl, rfl⟩ := trodAll_nil r2
  obtain rfl : args = #[v0, v1, v2] := by cases args; simp_all
  obtain ⟨rfl, rfl⟩ := trodVars_none hV
  have k0 := h0
  have lt0 : ∀ x ∈ p0, x.block < W.heap.size := by obtain ⟨m, hm⟩ := k0; exact DataW.trod_lt m _ _ _ hm
  obtain ⟨a0, len0, cap0, rfl⟩ := okWide_slice Try.underlying28 (hval 0 28 v0 rfl rfl)
  obtain ⟨z0, zl0, wz0, zm0⟩ := packs_of h0
  subst zl0
  have k1 := h1
  have lt1 : ∀ x ∈ p1, x.block < W.heap.size := by obtain ⟨m, hm⟩ := k1; exact DataW.trod_lt m _ _ _ hm
  obtain ⟨x1, rfl, _, _, wx1⟩ := open_int Try.underlying3 (hval 1 3 v1 rfl rfl) h1
  have k2 := h2
  have lt2 : ∀ x ∈ p2, x.block < W.heap.size := by obtain ⟨m, hm⟩ := k2; exact DataW.trod_lt m _ _ _ hm
  obtain ⟨x2, rfl, _, _, wx2⟩ := open_int Try.underlying3 (hval 2 3 v2 rfl rfl) h2
  clear hA0 hval0
  refine (walk a0 cap0 z0 x1 x2 W wz0 zm0).mono fun e W' ⟨he, bel⟩ => ?_
  subst he
  exact ⟨_, rfl, _, _, _, [], _, [], hW', trodAll_mk1 (shut_bool Try.underlying4 _), (trodAll_cons_mk (Below.trod laidOut (by kernel_rfl) (of_decide_eq_true (by kernel_rfl)) k0 bel lt0) (trodAll_cons_mk (Below.trod laidOut (by kernel_rfl) (of_decide_eq_true (by kernel_rfl)) k1 bel lt1) (trodAll_cons_mk (Below.trod laidOut (by kernel_rfl) (of_decide_eq_true (by kernel_rfl)) k2 bel lt2) trodAll_mk0))), rfl, bel.frame _, fun h => by cases h⟩
theorem over : Rows.fnExactPackRectsRow.holds Try.pinned (OpenSpec.ofChange Rows.fnExactPackRectsSpec) :=
  OpenClaim.holds_of_wide 8 Try.f8 rfl rfl rfl rfl rfl rfl rfl ⟨rfl, rfl, rfl, rfl, rfl⟩ rfl rfl rfl rfl rfl (by kernel_rfl) Try.func8 (by kernel_rfl)
    (of_decide_eq_true (by kernel_rfl)) (by unfold Func.isWrapper; first | (rw [if_pos (by decide +kernel)]; kernel_rfl) | (rw [if_neg (by decide +kernel)]; exact ⟨rfl, rfl⟩))
    (fun os started H enc _ => lifted os started H enc)
theorem proved : Rows.FnExactPackRectsSaid := over
end Go.Proofs.Ytjdjahckdgbkbaa.xPackRects
