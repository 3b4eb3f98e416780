/- FnRectText: for every code the law returns true. No condition but the tied tables. -/
import Derived.Test.YtjdjahckdgbkbaeDoorQ03
namespace Go.Proofs.YtjdjahckdgbkbaeDoor.lRectText
open Go.ChangeShapes Go.WideShapes Go.ChangeAt Go.RowKit Go.Joins
set_option linter.unusedVariables false
attribute [local go_sem 5000] run_mx run_mn run_eqlR run_neqR
attribute [local go_sem] growUpon_value growUpon_skip growUpon_enter
set_option maxHeartbeats 1000000
set_option linter.unusedSimpArgs false
theorem eqg_c (o : BinOp) (s t : Operand) (a : List UInt8) (b : ByteArray) (w : World) : (eqGuard o 9 s t (tx a) (.string b)).run Tryd.prog w = .ok () w := by
  unfold tx
  cases o <;> go_simp
theorem eq_nil (w : World) : (binOp .eql 9 (tx []) (.string ⟨#[]⟩)).run Tryd.prog w = .ok (.bool true) w := by
  unfold tx
  go_simp
theorem tx_ne {a b : List UInt8} (h : a ≠ b) : ¬ (⟨a.toArray⟩ : ByteArray) = ⟨b.toArray⟩ := fun e => h (by simpa using e)
theorem eq_no (a : List UInt8) (h : a ≠ []) (w : World) : (binOp .eql 9 (tx a) (.string ⟨#[]⟩)).run Tryd.prog w = .ok (.bool false) w := by
  have h' := tx_ne h
  unfold tx
  go_simp
theorem ne_diff (a b : List UInt8) (h : a ≠ b) (w : World) : (binOp .neq 9 (tx a) (tx b)).run Tryd.prog w = .ok (.bool true) w := by
  have h' := tx_ne h
  unfold tx
  go_simp
theorem rt_nil (x y u v : Int) : rtL x y u v ≠ [] := by
  have := itoa_ne_nil x
  simp [rtL]
theorem rt_x {x x' y u v : Int} (h : rtL x y u v = rtL x' y u v) : x = x' := by
  have e : ∀ z, rtL z y u v = Lib.itoa z ++ (44 :: (Lib.itoa y ++ 43 :: (Lib.itoa u ++ 120 :: Lib.itoa v))) := fun z => by simp [rtL]
  rw [e, e] at h
  exact itoa_inj (List.append_cancel_right h)
theorem rt_u {x y u u' v : Int} (h : rtL x y u v = rtL x y u' v) : u = u' := by
  have e : ∀ z, rtL x y z v = (Lib.itoa x ++ 44 :: (Lib.itoa y ++ [43])) ++ (Lib.itoa z ++ 120 :: Lib.itoa v) := fun z => by simp [rtL]
  rw [e, e] at h
  exact itoa_inj (List.append_cancel_right (List.append_cancel_left h))
theorem newR (w : World) (o o' : Obj) : ((w.alloc o).alloc o').heap[w.heap.size + 1]? = some o' := by
  have := newS (w.alloc o) o'
  simpa using this
set_option maxRecDepth 100000 in
theorem walk (A : Option Addr) (n c : Nat) (z : List Int) (w : World) (wz : IsRow .u8 w A n c z) (hT : LT.TW w) : Calls Tryd.prog 4 #[.slice A n c] w fun e w' => e = .returned (.bool true) ∧ Below w.heap.size w w' := by
  obtain ⟨hb, hn, hc⟩ := wz.bts
  clear wz
  by_cases hlen : n ≤ 1048576
  · have hl1 : ¬ (1048576 : Int) < n := by omega
    go_enter Tryd.func4, Tryd.ntmps4
    go_wp2_with fail
    with_reducible refine (DrawRectText_any A n c _ hb hn hc).mono ?_
    rintro e w1 ⟨⟨x, y, u, v, rfl⟩, hB⟩
    have HX := Lib.hid (newS w1 (.cells #[.int .i64 x, .int .i64 y, .int .i64 u, .int .i64 v] 25))
    have HB := Lib.hid (balloc (o := .cells #[.int .i64 x, .int .i64 y, .int .i64 u, .int .i64 v] 25) hB)
    clear hB hb hn hc
    have HI := Lib.hid (fun w h => RectText_v x y u v w h)
    have HS := Lib.hid (fun w => sRectText_v x y u v w)
    cases hr : vr x y u v
    · rw [hr] at HI HS
      clear hr
      have g1 := fun s t w => eqg_tx .neq s t [] [] w
      have g2 := fun s t w => eqg_c .eql s t [] ⟨#[]⟩ w
      have g3 := fun s t w => eqg_tx .eql s t [] [] w
      have g4 := ne_same []
      have g5 := eq_same []
      have g6 := eq_nil
      obtain ⟨c0, c1, c2, c3⟩ := c4R HX.out
      go_wp2_with fail
      with_reducible refine (HI.out _ (hT.keep HB.out)).mono ?_
      rintro e w2 ⟨rfl, hb⟩
      clear c0 c1 c2 c3
      replace HX := Lib.hid ((hb.block _ (Array.getElem?_eq_some_iff.1 HX.out).1).trans HX.out)
      replace HB := Lib.hid (bkeep2 HB.out hb)
      clear hb
      obtain ⟨c0, c1, c2, c3⟩ := c4R HX.out
      go_wp2_with fail
      with_reducible refine (HS.out _).mono ?_
      rintro e w3 ⟨rfl, hb⟩
      clear c0 c1 c2 c3
      replace HX := Lib.hid ((hb.block _ (Array.getElem?_eq_some_iff.1 HX.out).1).trans HX.out)
      replace HB := Lib.hid (bkeep2 HB.out hb)
      clear hb
      obtain ⟨c0, c1, c2, c3⟩ := c4R HX.out
      go_wp2_with fail
      with_reducible refine (HS.out _).mono ?_
      rintro e w4 ⟨rfl, hb⟩
      clear c0 c1 c2 c3
      replace HX := Lib.hid ((hb.block _ (Array.getElem?_eq_some_iff.1 HX.out).1).trans HX.out)
      replace HB := Lib.hid (bkeep2 HB.out hb)
      clear hb
      go_wp2
      go_ret
      exact ⟨rfl, HB.out⟩
    · have hv := vr_iff.1 hr
      rw [hr, if_pos rfl] at HI HS
      have wU : IntKind.i64.wrap (u + 1) = u + 1 := IntWalk.i64_in _ (by omega)
      have HW := Lib.hid (fun w h => RectText_v x y (u + 1) v w h)
      obtain ⟨R2, hR2, n2⟩ : ∃ R2, (if vr x y (u + 1) v = true then rtL x y (u + 1) v else []) = R2 ∧ R2 ≠ rtL x y u v := ⟨_, rfl, by
        split
        · intro e; have := rt_u e; omega
        · exact fun e => rt_nil _ _ _ _ e.symm⟩
      rw [hR2] at HW
      have n1 : rtL (x + 1) y u v ≠ rtL x y u v := fun e => by have := rt_x e; omega
      have HN := Lib.hid (fun w h => RectText_v (x + 1) y u v w h)
      have hm : (mvB x y u v 1 0 = false) ∨ (mvB x y u v 1 0 = true ∧ vr (x + 1) y u v = true) := by
        cases h : mvB x y u v 1 0
        · exact .inl rfl
        · exact .inr ⟨rfl, by have := (mvB_yes h).2.2.2; rwa [Int.add_zero] at this⟩
      obtain ⟨R1, hR1⟩ : ∃ R1, rtL (x + 1) y u v = R1 := ⟨_, rfl⟩
      rw [hR1] at HN n1
      have nn := rt_nil x y u v
      generalize rtL x y u v = R at *
      have g1 := fun s t w => eqg_tx .neq s t R R w
      have g2 := fun s t w => eqg_c .eql s t R ⟨#[]⟩ w
      have g4 := ne_same R
      have g6 := eq_no R nn
      have g7 := fun s t w => eqg_tx .neq s t R1 R w
      have g8 := fun s t w => eqg_tx .neq s t R2 R w
      have g9 := ne_diff R1 R n1
      have g10 := ne_diff R2 R n2
      have HM := Lib.hid hm
      clear hR2 hR1 n1 n2 nn hv hm hr
      obtain ⟨c0, c1, c2, c3⟩ := c4R HX.out
      go_wp2_with fail
      with_reducible refine (HI.out _ (hT.keep HB.out)).mono ?_
      rintro e w2 ⟨rfl, hb⟩
      clear c0 c1 c2 c3
      replace HX := Lib.hid ((hb.block _ (Array.getElem?_eq_some_iff.1 HX.out).1).trans HX.out)
      replace HB := Lib.hid (bkeep2 HB.out hb)
      clear hb
      obtain ⟨c0, c1, c2, c3⟩ := c4R HX.out
      go_wp2_with fail
      with_reducible refine (HS.out _).mono ?_
      rintro e w3 ⟨rfl, hb⟩
      clear c0 c1 c2 c3
      replace HX := Lib.hid ((hb.block _ (Array.getElem?_eq_some_iff.1 HX.out).1).trans HX.out)
      replace HB := Lib.hid (bkeep2 HB.out hb)
      clear hb
      obtain ⟨c0, c1, c2, c3⟩ := c4R HX.out
      go_wp2_with fail
      rcases HM.out with hm | ⟨hm, hvn⟩
      · with_reducible refine (MoveRect_no x y u v 1 0 _ hm).mono ?_
        rintro e w4 ⟨rfl, hb⟩
        clear c0 c1 c2 c3 HM
        replace HX := Lib.hid ((hb.block _ (Array.getElem?_eq_some_iff.1 HX.out).1).trans HX.out)
        replace HB := Lib.hid (bkeep2 HB.out hb)
        clear hb
        have hlx := ltS HX.out
        obtain ⟨c0, c1, c2, c3⟩ := c4R HX.out
        go_wp2_with fail
        with_reducible refine (HW.out _ (hT.keep (balloc (balloc HB.out)))).mono ?_
        rintro e w5 ⟨rfl, hb⟩
        clear c0 c1 c2 c3
        replace HB := Lib.hid (bkeep2 (balloc (balloc HB.out)) hb)
        go_wp2
        go_ret
        exact ⟨rfl, HB.out⟩
      · rw [hvn, if_pos rfl] at HN
        with_reducible refine (MoveRect_yes x y u v 1 0 _ hm).mono ?_
        rintro e w4 ⟨rfl, hb⟩
        clear c0 c1 c2 c3 HM
        replace HX := Lib.hid ((hb.block _ (Array.getElem?_eq_some_iff.1 HX.out).1).trans HX.out)
        replace HB := Lib.hid (bkeep2 HB.out hb)
        clear hb
        have hlx := ltS HX.out
        obtain ⟨c0, c1, c2, c3⟩ := c4R HX.out
        go_wp2_with fail
        with_reducible refine (HN.out _ (hT.keep (balloc (balloc HB.out)))).mono ?_
        rintro e w5 ⟨rfl, hb⟩
        clear c0 c1 c2 c3
        have hz := (hb.block (w4.heap.size + 1) (by simp)).trans (newR w4 (.cells #[.int .i64 (x + 1), .int .i64 y, .int .i64 u, .int .i64 v] 25) (.cells #[.int .i64 x, .int .i64 y, .int .i64 (u + 1), .int .i64 v] 25))
        obtain ⟨c0, c1, c2, c3⟩ := c4R hz
        replace HB := Lib.hid (bkeep2 (balloc (balloc HB.out)) hb)
        clear hz hb
        go_wp2_with fail
        with_reducible refine (HW.out _ (hT.keep HB.out)).mono ?_
        rintro e w6 ⟨rfl, hb⟩
        replace HB := Lib.hid (bkeep2 HB.out hb)
        clear c0 c1 c2 c3 hb
        go_wp2
        go_ret
        exact ⟨rfl, HB.out⟩
  · have hl1 : (1048576 : Int) < n := by omega
    go_enter Tryd.func4, Tryd.ntmps4
    go_wp2
    go_ret
    exact ⟨rfl, Below.refl _ _⟩
set_option maxRecDepth 100000 in
theorem lifted (os : Os) (started : os.Started) (H : Type) (enc : TypeId × Value → H) :
    ReturnsInHanded {} Tryd.checked os 4 .any (fun w args => (Rows.fnRectTextSpec.pre enc Tryd.prog Tryd.f4 [] false w args ∧ laidMetH Tryd.prog Rows.fnRectTextRow.laid w) ∧ sizedMet enc Tryd.prog Tryd.f4 (OpenSpec.ofChange Rows.fnRectTextSpec) false w args) (Rows.fnRectTextSpec.post enc Tryd.prog Tryd.f4 false true false false) := by
  refine returnsInHanded_of_change_and (C := Tryd.checked) (X := fun w _ => laidMetH Tryd.prog Rows.fnRectTextRow.laid w) (fun _ _ _ hh h => h.of_heap hh) own started (by kernel_rfl) Tryd.func4
    (ChangeSpec.witness_shaped (enc := enc) (C := Tryd.checked) (os := os) (X := fun w _ => laidMetH Tryd.prog Rows.fnRectTextRow.laid w) false (LT.world os) #[.slice none 0 0] 8 rfl (World.shaped_of_RefB (by kernel_rfl) (by kernel_rfl)) (by kernel_rfl) (by kernel_rfl) (by kernel_rfl) (LT.met os _)) ?_
  intro W base args ds gs before hval0 hW hcnd _ hL _
  have hval : ∀ (j : Nat) t v, Tryd.f4.params[j]? = some t → args[j]? = some v → Value.okWide Tryd.prog W .any base t v := hval0
  have hW' := hW
  obtain ⟨p, q, hA0, hV, rfl, hfz, hnd⟩ := hW
  have hA : DataW.TrodAll enc Tryd.prog W 0 (fun _ => true) true Tryd.f4.params.toList args.toList ds p := hA0
  rw [Tryd.params4] at hA hval
  obtain ⟨v0, vs0, d0, ds0, p0, q0, hargs, rfl, rfl, h0, r0⟩ := trodAll_cons hA
  obtain ⟨rfl, rfl, rfl⟩ := trodAll_nil r0
  obtain rfl : args = #[v0] := by cases args; simp_all
  obtain ⟨rfl, rfl⟩ := trodVars_none hV
  have k0 := h0
  have lt0 : ∀ x ∈ p0, x.block < W.heap.size := by obtain ⟨m, hm⟩ := k0; exact DataW.trod_lt m _ _ _ hm
  obtain ⟨a0, len0, cap0, rfl⟩ := okWide_slice Tryd.underlying28 (hval 0 28 v0 rfl rfl)
  obtain ⟨z0, wz0⟩ : ∃ zs, IsRow .u8 W a0 len0 cap0 zs := by
    obtain ⟨fuel, hf⟩ := h0
    rcases open_ints Tryd.underlying28 Tryd.underlying5 (by kernel_rfl) hf with ⟨hcs, _⟩ | ⟨x, l, c, zs, hcs, _, hl, hm, hz, _, hcell, hwz⟩
    · simp [Value.cells] at hcs
      obtain ⟨rfl, rfl, rfl⟩ := hcs
      exact ⟨[], .inl ⟨rfl, rfl, rfl, rfl⟩⟩
    · simp [Value.cells] at hcs
      obtain ⟨rfl, rfl, rfl⟩ := hcs
      exact ⟨zs, .inr ⟨_, rfl, hl, hm, by simpa using hz, hcell, hwz⟩⟩
  clear hA0 hval0
  have hT := LT.opens hL
  refine (walk a0 len0 cap0 z0 W wz0 hT).mono fun e W' ⟨he, bel⟩ => ?_
  subst he
  exact ⟨_, rfl, _, _, _, [], _, [], hW', trodAll_mk1 (shut_bool Tryd.underlying4 _), (trodAll_cons_mk (Below.trod laidOut (by kernel_rfl) (of_decide_eq_true (by kernel_rfl)) k0 bel lt0) trodAll_mk0), rfl, bel.frame _, fun h => by cases h⟩
theorem over : Rows.fnRectTextRow.holds Tryd.pinned (OpenSpec.ofChange Rows.fnRectTextSpec) :=
  OpenClaim.holds_of_wide 4 Tryd.f4 rfl rfl rfl rfl rfl rfl rfl ⟨rfl, rfl, rfl, rfl, rfl⟩ rfl rfl rfl rfl rfl (by kernel_rfl) Tryd.func4 (by kernel_rfl)
    (of_decide_eq_true (by kernel_rfl)) (by unfold Func.isWrapper; first | (rw [if_pos (by decide +kernel)]; kernel_rfl) | (rw [if_neg (by decide +kernel)]; exact ⟨rfl, rfl⟩))
    (fun os started H enc _ => lifted os started H enc)
theorem proved : Rows.FnRectTextCardSaid :=
  Claim7.holds_tied_plain_at .later [] [.data, .data, .data] true (true, "75e81dd97c9cfb63a1fb11cff37c3892da58c4b35b0c8750450bf23e2f61e971") true over (fun _ h => by cases h) (by kernel_rfl) (fun _ h => by cases h) fnRectText_row_tie rfl ⟨rfl, rfl⟩ (by kernel_rfl) rfl
    (fun f fn hf hfn => by
      obtain rfl : f = 4 := Option.some.inj ((show Tryd.prog.funcNamed "loop.example/widgetroom/laws.FnRectText" = some 4 by kernel_rfl).symm.trans hf) |>.symm
      obtain rfl : fn = Tryd.f4 := (Option.some.inj (Tryd.func4.symm.trans hfn)).symm
      refine ⟨by kernel_rfl, fun j t ht => ?_⟩
      rw [Tryd.params4] at ht
      rcases j with _ | j
      · exact (Option.some.inj ht) ▸ (show Tryd.prog.wantsStandIn 28 = false by kernel_rfl)
      · simp at ht)
    (by kernel_rfl)
end Go.Proofs.YtjdjahckdgbkbaeDoor.lRectText
