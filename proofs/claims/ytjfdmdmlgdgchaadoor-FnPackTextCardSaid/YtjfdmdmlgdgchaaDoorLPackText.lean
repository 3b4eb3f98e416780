/- FnPackText: for every code the law returns true. No condition but the tied tables. -/
import Derived.Test.YtjfdmdmlgdgchaaDoorQ07
namespace Go.Proofs.YtjfdmdmlgdgchaaDoor.lPackText
open Go.ChangeShapes Go.WideShapes Go.ChangeAt Go.RowKit Go.Joins
set_option linter.unusedVariables false
attribute [local go_sem] growUpon_value growUpon_skip growUpon_enter
set_option maxHeartbeats 1000000
set_option linter.unusedSimpArgs false
theorem eqg_c (o : BinOp) (s t : Operand) (a : List UInt8) (b : ByteArray) (w : World) : (eqGuard o 9 s t (tx a) (.string b)).run Tryd.prog w = .ok () w := by
  unfold tx
  cases o <;> go_simp
theorem eq_nil (w : World) : (binOp .eql 9 (tx []) (.string ⟨#[]⟩)).run Tryd.prog w = .ok (.bool true) w := by
  unfold tx
  go_simp
theorem tx_ne {a b : List UInt8} (h : a ≠ b) : ¬ (⟨a.toArray⟩ : ByteArray) = ⟨b.toArray⟩ := fun e => h (by simpa using e)
theorem eq_no (a : List UInt8) (h : a ≠ []) (w : World) : (binOp .eql 9 (tx a) (.string ⟨#[]⟩)).run Tryd.prog w = .ok (.bool false) w := by
  have h' := tx_ne h
  unfold tx
  go_simp
set_option maxRecDepth 100000 in
theorem walk (A : Option Addr) (n c : Nat) (z : List Int) (w : World) (wz : IsRow .u8 w A n c z) (hT : LT.TW w) (hM : MLN w) : Calls Tryd.prog 5 #[.slice A n c] w fun e w' => e = .returned (.bool true) ∧ Below w.heap.size w w' := by
  obtain ⟨hb, hn, hc⟩ := wz.bts
  clear wz
  by_cases hlen : n ≤ 1048576
  · have hl1 : ¬ (1048576 : Int) < n := by omega
    go_enter Tryd.func5, Tryd.ntmps5
    go_wp2_with fail
    with_reducible refine (DrawPackText_any A n c _ hb hn hc).mono ?_
    rintro e w1 ⟨⟨w0, h0, s, fx, fy, ex, an, px, py, rfl⟩, hB⟩
    have HX := Lib.hid (newS w1 (.cells #[.int .i64 w0, .int .i64 h0, .int .i64 s, .bool fx, .bool fy, .bool ex, .int .i64 an, .int .i64 px, .int .i64 py] 23))
    have HB := Lib.hid (balloc (o := .cells #[.int .i64 w0, .int .i64 h0, .int .i64 s, .bool fx, .bool fy, .bool ex, .int .i64 an, .int .i64 px, .int .i64 py] 23) hB)
    clear hB hb hn hc
    have HI := Lib.hid (fun w h => PackText_v w0 h0 s fx fy ex an px py w h)
    have HS := Lib.hid (fun w => sPackText_v w0 h0 s fx fy ex an px py w)
    cases hr : vpB w0 h0 s an px py
    · rw [hr] at HI HS
      clear hr
      have g1 := fun s t w => eqg_tx .neq s t [] [] w
      have g2 := fun s t w => eqg_c .eql s t [] ⟨#[]⟩ w
      have g3 := fun s t w => eqg_tx .eql s t [] [] w
      have g4 := ne_same []
      have g5 := eq_same []
      have g6 := eq_nil
      obtain ⟨c0, c1, c2, c3, c4, c5, c6, c7, c8⟩ := b9c HX.out
      go_wp2_with fail
      with_reducible refine (HI.out _ (hT.keep HB.out)).mono ?_
      rintro e w2 ⟨rfl, hb⟩
      clear c0 c1 c2 c3 c4 c5 c6 c7 c8
      replace HX := Lib.hid ((hb.block _ (Array.getElem?_eq_some_iff.1 HX.out).1).trans HX.out)
      replace HB := Lib.hid (bkeep2 HB.out hb)
      clear hb
      obtain ⟨c0, c1, c2, c3, c4, c5, c6, c7, c8⟩ := b9c HX.out
      go_wp2_with fail
      with_reducible refine (HS.out _).mono ?_
      rintro e w3 ⟨rfl, hb⟩
      clear c0 c1 c2 c3 c4 c5 c6 c7 c8
      replace HX := Lib.hid ((hb.block _ (Array.getElem?_eq_some_iff.1 HX.out).1).trans HX.out)
      replace HB := Lib.hid (bkeep2 HB.out hb)
      clear hb
      obtain ⟨c0, c1, c2, c3, c4, c5, c6, c7, c8⟩ := b9c HX.out
      go_wp2_with fail
      with_reducible refine (HS.out _).mono ?_
      rintro e w4 ⟨rfl, hb⟩
      clear c0 c1 c2 c3 c4 c5 c6 c7 c8
      replace HX := Lib.hid ((hb.block _ (Array.getElem?_eq_some_iff.1 HX.out).1).trans HX.out)
      replace HB := Lib.hid (bkeep2 HB.out hb)
      clear hb
      go_wp2
      go_ret
      exact ⟨rfl, HB.out⟩
    · have hP : prs (pkT w0 h0 s fx fy ex an px py) = some ⟨w0, h0, s, fx, fy, ex, an, px, py⟩ := prs_iff.2 ⟨hr, rfl⟩
      have hlen2 := pkT_len (fx := fx) (fy := fy) (ex := ex) hr
      rw [hr, if_pos rfl] at HI HS
      obtain ⟨R, hR⟩ : ∃ R, pkT w0 h0 s fx fy ex an px py = R := ⟨_, rfl⟩
      rw [hR] at HI HS hP hlen2
      have nn : R ≠ [] := fun e => by rw [e] at hP; simp [prs] at hP
      have HPP : Hid (∀ w, LT.TW w → MLN w → Calls Tryd.prog 9 #[tx R] w fun e w' => e = .returned (.tuple #[.agg #[.int .i64 w0, .int .i64 h0, .int .i64 s, .bool fx, .bool fy, .bool ex, .int .i64 an, .int .i64 px, .int .i64 py], .bool true]) ∧ Below w.heap.size w w') := Lib.hid (fun w h1 h2 => by
        have := ParsePack_v R w (by omega) h1 h2
        rwa [hP] at this)
      have g1 := fun s t w => eqg_tx .neq s t R R w
      have g2 := fun s t w => eqg_c .eql s t R ⟨#[]⟩ w
      have g4 := ne_same R
      have g6 := eq_no R nn
      clear hR nn hP hlen2 hr
      obtain ⟨c0, c1, c2, c3, c4, c5, c6, c7, c8⟩ := b9c HX.out
      go_wp2_with fail
      with_reducible refine (HI.out _ (hT.keep HB.out)).mono ?_
      rintro e w2 ⟨rfl, hb⟩
      clear c0 c1 c2 c3 c4 c5 c6 c7 c8
      replace HX := Lib.hid ((hb.block _ (Array.getElem?_eq_some_iff.1 HX.out).1).trans HX.out)
      replace HB := Lib.hid (bkeep2 HB.out hb)
      clear hb
      obtain ⟨c0, c1, c2, c3, c4, c5, c6, c7, c8⟩ := b9c HX.out
      go_wp2_with fail
      with_reducible refine (HS.out _).mono ?_
      rintro e w3 ⟨rfl, hb⟩
      clear c0 c1 c2 c3 c4 c5 c6 c7 c8
      replace HX := Lib.hid ((hb.block _ (Array.getElem?_eq_some_iff.1 HX.out).1).trans HX.out)
      replace HB := Lib.hid (bkeep2 HB.out hb)
      clear hb
      obtain ⟨c0, c1, c2, c3, c4, c5, c6, c7, c8⟩ := b9c HX.out
      go_wp2_with fail
      with_reducible refine (HPP.out _ (hT.keep HB.out) (hM.keep HB.out)).mono ?_
      rintro e w4 ⟨rfl, hb⟩
      clear c0 c1 c2 c3 c4 c5 c6 c7 c8
      replace HX := Lib.hid ((hb.block _ (Array.getElem?_eq_some_iff.1 HX.out).1).trans HX.out)
      replace HB := Lib.hid (bkeep2 HB.out hb)
      clear hb
      have hlx := ltS HX.out
      obtain ⟨c0, c1, c2, c3, c4, c5, c6, c7, c8⟩ := b9c HX.out
      go_wp2
      go_ret
      exact ⟨rfl, by first | exact HB.out | exact balloc HB.out | exact balloc (balloc HB.out)⟩
  · have hl1 : (1048576 : Int) < n := by omega
    go_enter Tryd.func5, Tryd.ntmps5
    go_wp2
    go_ret
    exact ⟨rfl, Below.refl _ _⟩
set_option maxRecDepth 100000 in
theorem lifted (os : Os) (started : os.Started) (H : Type) (enc : TypeId × Value → H) :
    ReturnsInHanded {} Tryd.checked os 5 .any (fun w args => (Rows.fnPackTextSpec.pre enc Tryd.prog Tryd.f5 [] false w args ∧ laidMetH Tryd.prog Rows.fnPackTextRow.laid w) ∧ sizedMet enc Tryd.prog Tryd.f5 (OpenSpec.ofChange Rows.fnPackTextSpec) false w args) (Rows.fnPackTextSpec.post enc Tryd.prog Tryd.f5 false true false false) := by
  refine handed_shaped_laid (C := Tryd.checked) (X := fun w _ => laidMetH Tryd.prog Rows.fnPackTextRow.laid w) (fun _ _ _ hh h => h.of_heap hh) own started (by kernel_rfl) Tryd.func5
    (ChangeSpec.witness_shaped (enc := enc) (C := Tryd.checked) (os := os) (X := fun w _ => laidMetH Tryd.prog Rows.fnPackTextRow.laid w) false (LT.world5pt os) #[.slice none 0 0] 8 (World.laidAll_os _ _ _) (World.shaped_of_ZipB (by kernel_rfl) (by kernel_rfl)) (by kernel_rfl) (by kernel_rfl) (by kernel_rfl) (LT.met5pt os _)) ?_
  intro W base args ds gs before hval0 hW hL hsh
  have hval : ∀ (j : Nat) t v, Tryd.f5.params[j]? = some t → args[j]? = some v → Value.okWide Tryd.prog W .any base t v := hval0
  have hW' := hW
  obtain ⟨p, q, hA0, hV, rfl, hfz, hnd⟩ := hW
  have hA : DataW.TrodAll enc Tryd.prog W 0 (fun _ => true) true Tryd.f5.params.toList args.toList ds p := hA0
  rw [Tryd.params5] at hA hval
  obtain ⟨v0, vs0, d0, ds0, p0, q0, hargs, rfl, rfl, h0, r0⟩ := trodAll_cons hA
  obtain ⟨rfl, rfl, rfl⟩ := trodAll_nil r0
  obtain rfl : args = #[v0] := by cases args; simp_all
  obtain ⟨rfl, rfl⟩ := trodVars_none hV
  have k0 := h0
  have lt0 : ∀ x ∈ p0, x.block < W.heap.size := by obtain ⟨m, hm⟩ := k0; exact DataW.trod_lt m _ _ _ hm
  obtain ⟨a0, len0, cap0, rfl⟩ := okWide_slice Tryd.underlying33 (hval 0 33 v0 rfl rfl)
  obtain ⟨z0, wz0⟩ : ∃ zs, IsRow .u8 W a0 len0 cap0 zs := by
    obtain ⟨fuel, hf⟩ := h0
    rcases open_ints Tryd.underlying33 Tryd.underlying5 (by kernel_rfl) hf with ⟨hcs, _⟩ | ⟨x, l, c, zs, hcs, _, hl, hm, hz, _, hcell, hwz⟩
    · simp [Value.cells] at hcs
      obtain ⟨rfl, rfl, rfl⟩ := hcs
      exact ⟨[], .inl ⟨rfl, rfl, rfl, rfl⟩⟩
    · simp [Value.cells] at hcs
      obtain ⟨rfl, rfl, rfl⟩ := hcs
      exact ⟨zs, .inr ⟨_, rfl, hl, hm, by simpa using hz, hcell, hwz⟩⟩
  clear hA0 hval0
  have hT := LT.opens5pt hL
  refine (walk a0 len0 cap0 z0 W wz0 hT (cell_of_shapedOpen_int (P := Tryd.prog) (g := 0) (t := 3) (zero := #[.int .i64 0]) hsh (of_decide_eq_true (by kernel_rfl)) (by kernel_rfl) rfl (by kernel_rfl) (by kernel_rfl) Tryd.underlying3)).mono fun e W' ⟨he, bel⟩ => ?_
  subst he
  exact ⟨_, rfl, _, _, _, [], _, [], hW', trodAll_mk1 (shut_bool Tryd.underlying4 _), (trodAll_cons_mk (Below.trod laidOut (by kernel_rfl) (of_decide_eq_true (by kernel_rfl)) k0 bel lt0) trodAll_mk0), rfl, bel.frame _, fun h => by cases h⟩
theorem over : Rows.fnPackTextRow.holds Tryd.pinned (OpenSpec.ofChange Rows.fnPackTextSpec) :=
  OpenClaim.holds_of_wide 5 Tryd.f5 rfl rfl rfl rfl rfl rfl rfl ⟨rfl, rfl, rfl, rfl, rfl⟩ rfl rfl rfl rfl rfl (by kernel_rfl) Tryd.func5 (by kernel_rfl)
    (of_decide_eq_true (by kernel_rfl)) (by unfold Func.isWrapper; first | (rw [if_pos (by decide +kernel)]; kernel_rfl) | (rw [if_neg (by decide +kernel)]; exact ⟨rfl, rfl⟩))
    (fun os started H enc _ => lifted os started H enc)
theorem proved : Rows.FnPackTextCardSaid :=
  Claim7.holds_tied_plain_at .later [] [.data, .data, .data, .data, .pinned] true (true, "253a2c7e9501fdfe114c59bbc44fcfb1d67287b88a3d019368ad9d4c1ef390ae") false over (fun _ h => by cases h) (by kernel_rfl) (fun _ h => by cases h) fnPackText_row_tie rfl ⟨rfl, rfl⟩ (by kernel_rfl) rfl
    (fun f fn hf hfn => by
      obtain rfl : f = 5 := Option.some.inj ((show Tryd.prog.funcNamed "loop.example/widgetroom/laws.FnPackText" = some 5 by kernel_rfl).symm.trans hf) |>.symm
      obtain rfl : fn = Tryd.f5 := (Option.some.inj (Tryd.func5.symm.trans hfn)).symm
      refine ⟨by kernel_rfl, fun j t ht => ?_⟩
      rw [Tryd.params5] at ht
      rcases j with _ | j
      · exact (Option.some.inj ht) ▸ (show Tryd.prog.wantsStandIn 33 = false by kernel_rfl)
      · simp at ht)
    (by kernel_rfl)
end Go.Proofs.YtjfdmdmlgdgchaaDoor.lPackText
