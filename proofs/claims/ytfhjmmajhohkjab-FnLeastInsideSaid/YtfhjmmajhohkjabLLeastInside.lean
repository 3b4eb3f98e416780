/- FnLeastInside: for every code the law returns true. No condition. -/
import Derived.Test.YtfhjmmajhohkjabQ04
import Derived.LoopTactic
namespace Go.Proofs.Ytfhjmmajhohkjab.lLeastInside
open Go.ChangeShapes Go.WideShapes Go.ChangeAt Go.RowKit Go.Joins
set_option linter.unusedVariables false
set_option maxHeartbeats 1000000
/-- no size up to h (not with it) is one -/
theorem loopP (p : Plc) (v h : Int) (hp : plB p = true) (hv : (v = -1 ∧ h = 401) ∨ (0 ≤ v ∧ v ≤ 400 ∧ h = v)) (hn : ∀ j : Int, 0 ≤ j → j < h → piB p j j = false) (k : Int) (h0 : 0 ≤ k) (h1 : k < h) : (prB p k k && piB p k k) = false := by
  rw [hn k h0 h1, Bool.and_false]
set_option maxRecDepth 100000 in
theorem walk (A : Option Addr) (n c : Nat) (z : List Int) (w : World) (wz : IsRow .u8 w A n c z) : Calls Try.prog 6 #[.slice A n c] w fun e w' => e = .returned (.bool true) ∧ Below w.heap.size w w' := by
  obtain ⟨hb, hn, hc⟩ := wz.bts
  clear wz
  by_cases hlen : n ≤ 1048576
  · have hl1 : ¬ (1048576 : Int) < n := by omega
    go_enter Try.func6, Try.ntmps6
    go_wp2_with fail
    with_reducible refine (DrawLeastInside_any A n c _ hb hn hc).mono ?_
    rintro e w1 ⟨⟨p, rfl⟩, hB⟩
    have HX := Lib.hid (heap_alloc_new w1 (.cells #[.int .i64 p.x, .int .i64 p.y, .int .i64 p.rx, .int .i64 p.ry, .int .i64 p.ww, .int .i64 p.hh, .int .i64 p.qw, .int .i64 p.qh, .int .i64 p.an] 24))
    have HB := Lib.hid (balloc' (o := .cells #[.int .i64 p.x, .int .i64 p.y, .int .i64 p.rx, .int .i64 p.ry, .int .i64 p.ww, .int .i64 p.hh, .int .i64 p.qw, .int .i64 p.qh, .int .i64 p.an] 24) hB)
    clear hB hb hn hc
    cases hv : plB p
    · skip
      go_wp2_with fail
      with_reducible refine (LeastInside_no p _ hv).mono ?_
      rintro e w2 ⟨rfl, hb⟩
      replace HX := Lib.hid ((hb.block _ (Array.getElem?_eq_some_iff.1 HX.out).1).trans HX.out)
      replace HB := Lib.hid (bkeep2 HB.out hb)
      clear hb
      obtain ⟨c0, c1, c2, c3, c4, c5, c6, c7, c8⟩ := c9_q HX.out
      go_wp2_with fail
      with_reducible refine (sLeastInside_no p _ hv).mono ?_
      rintro e w3 ⟨rfl, hb⟩
      clear c0 c1 c2 c3 c4 c5 c6 c7 c8
      replace HX := Lib.hid ((hb.block _ (Array.getElem?_eq_some_iff.1 HX.out).1).trans HX.out)
      replace HB := Lib.hid (bkeep2 HB.out hb)
      clear hb
      obtain ⟨c0, c1, c2, c3, c4, c5, c6, c7, c8⟩ := c9_q HX.out
      go_wp2_with fail
      with_reducible refine (validPlace_t p false _ hv).mono ?_
      rintro e w4 ⟨rfl, hb⟩
      clear c0 c1 c2 c3 c4 c5 c6 c7 c8
      replace HX := Lib.hid ((hb.block _ (Array.getElem?_eq_some_iff.1 HX.out).1).trans HX.out)
      replace HB := Lib.hid (bkeep2 HB.out hb)
      clear hb
      obtain ⟨c0, c1, c2, c3, c4, c5, c6, c7, c8⟩ := c9_q HX.out
      go_wp2_with fail
      with_reducible refine (sLeastInside_no p _ hv).mono ?_
      rintro e w5 ⟨rfl, hb⟩
      clear c0 c1 c2 c3 c4 c5 c6 c7 c8
      replace HB := Lib.hid (bkeep2 HB.out hb)
      clear hb
      go_wp2
      go_ret
      exact ⟨rfl, HB.out⟩
    · obtain ⟨v, hle⟩ := le_ex p
      obtain ⟨h, hv2, hno, hyes⟩ : ∃ h : Int, ((v = -1 ∧ h = 401) ∨ (0 ≤ v ∧ v ≤ 400 ∧ h = v)) ∧ (∀ j : Int, 0 ≤ j → j < h → piB p j j = false) ∧ (0 ≤ v → piB p v v = true) := by
        rcases hle with ⟨a0, a1, a2, a3⟩ | ⟨rfl, a1⟩
        · exact ⟨v, .inr ⟨a0, a1, rfl⟩, a3, fun _ => a2⟩
        · exact ⟨401, .inl ⟨rfl, rfl⟩, fun j j0 j1 => a1 j j0 (by omega), fun h => absurd h (by omega)⟩
      have HL := Lib.hid (loopP p v h hv hv2 hno)
      have HP := Lib.hid hv
      have HY := Lib.hid hyes
      have HLE := Lib.hid hle
      clear hle hno hyes hv
      go_wp2_with fail
      with_reducible refine (LeastInside_yes p v _ HP.out HLE.out).mono ?_
      rintro e w2 ⟨rfl, hb⟩
      replace HX := Lib.hid ((hb.block _ (Array.getElem?_eq_some_iff.1 HX.out).1).trans HX.out)
      replace HB := Lib.hid (bkeep2 HB.out hb)
      clear hb
      obtain ⟨c0, c1, c2, c3, c4, c5, c6, c7, c8⟩ := c9_q HX.out
      go_wp2_with fail
      with_reducible refine (sLeastInside_yes p v _ HP.out HLE.out).mono ?_
      rintro e w3 ⟨rfl, hb⟩
      clear c0 c1 c2 c3 c4 c5 c6 c7 c8
      replace HX := Lib.hid ((hb.block _ (Array.getElem?_eq_some_iff.1 HX.out).1).trans HX.out)
      replace HB := Lib.hid (bkeep2 HB.out hb)
      clear hb
      obtain ⟨c0, c1, c2, c3, c4, c5, c6, c7, c8⟩ := c9_q HX.out
      go_wp2_with fail
      with_reducible refine (validPlace_t p true _ HP.out).mono ?_
      rintro e w4 ⟨rfl, hb⟩
      clear c0 c1 c2 c3 c4 c5 c6 c7 c8
      replace HX := Lib.hid ((hb.block _ (Array.getElem?_eq_some_iff.1 HX.out).1).trans HX.out)
      replace HB := Lib.hid (bkeep2 HB.out hb)
      clear hb
      rcases hv2 with ⟨rfl, rfl⟩ | ⟨hv0, hv1, rfl⟩
      · go_wp2_with fail
        go_loopw [6] (fun i wr => ∃ k : Nat, k ≤ 401 ∧ i = .int .i64 k ∧ wr.heap[w1.heap.size]? = some (.cells #[.int .i64 p.x, .int .i64 p.y, .int .i64 p.rx, .int .i64 p.ry, .int .i64 p.ww, .int .i64 p.hh, .int .i64 p.qw, .int .i64 p.qh, .int .i64 p.an] 24 (0, 0)) ∧ Below w.heap.size w wr) (fun i _ => 401 - (intOf i).toNat)
        case atStart => exact ⟨0, by omega, rfl, HX.out, HB.out⟩
        case round =>
          obtain ⟨k, hk, rfl, hX, hBr⟩ := hrel
          clear HX HB
          have HX := Lib.hid hX
          have HB := Lib.hid hBr
          by_cases hlt : k < 401
          · have hd : decide ((k : Int) < 401) = true := by simp; omega
            obtain ⟨c0, c1, c2, c3, c4, c5, c6, c7, c8⟩ := c9_q hX
            clear hX hBr
            go_wp2_with fail
            with_reducible refine (PlaceInside_t p k k false _ (HL.out k (by omega) (by omega))).mono ?_
            rintro e w5 ⟨rfl, hb⟩
            clear c0 c1 c2 c3 c4 c5 c6 c7 c8
            replace HX := Lib.hid ((hb.block _ (Array.getElem?_eq_some_iff.1 HX.out).1).trans HX.out)
            replace HB := Lib.hid (bkeep2 HB.out hb)
            clear hb
            go_wp2
            go_roundw
            case rel => exact ⟨k + 1, by omega, by go_num, HX.out, HB.out⟩
            case measure => simp [intOf]; omega
          · have hd : decide ((k : Int) < 401) = false := by simp; omega
            clear hX hBr
            go_wp2
            go_ret
            exact ⟨rfl, HB.out⟩
      · obtain ⟨m, rfl⟩ := Int.eq_ofNat_of_zero_le hv0
        have hneg : decide ((m : Int) < 0) = false := by simp
        go_wp2_with fail
        go_loopw [6] (fun i wr => ∃ k : Nat, k ≤ m ∧ i = .int .i64 k ∧ wr.heap[w1.heap.size]? = some (.cells #[.int .i64 p.x, .int .i64 p.y, .int .i64 p.rx, .int .i64 p.ry, .int .i64 p.ww, .int .i64 p.hh, .int .i64 p.qw, .int .i64 p.qh, .int .i64 p.an] 24 (0, 0)) ∧ Below w.heap.size w wr) (fun i _ => m - (intOf i).toNat)
        case atStart => exact ⟨0, by omega, rfl, HX.out, HB.out⟩
        case round =>
          obtain ⟨k, hk, rfl, hX, hBr⟩ := hrel
          clear HX HB
          have HX := Lib.hid hX
          have HB := Lib.hid hBr
          obtain ⟨c0, c1, c2, c3, c4, c5, c6, c7, c8⟩ := c9_q hX
          clear hX hBr
          by_cases hlt : k < m
          · have hd : decide ((k : Int) < (m : Int)) = true := by simp; omega
            go_wp2_with fail
            with_reducible refine (PlaceInside_t p k k false _ (HL.out k (by omega) (by omega))).mono ?_
            rintro e w5 ⟨rfl, hb⟩
            clear c0 c1 c2 c3 c4 c5 c6 c7 c8
            replace HX := Lib.hid ((hb.block _ (Array.getElem?_eq_some_iff.1 HX.out).1).trans HX.out)
            replace HB := Lib.hid (bkeep2 HB.out hb)
            clear hb
            go_wp2
            go_roundw
            case rel => exact ⟨k + 1, by omega, by go_num, HX.out, HB.out⟩
            case measure => simp [intOf]; omega
          · have hd : decide ((k : Int) < (m : Int)) = false := by simp; omega
            have hend : (prB p (m : Int) (m : Int) && piB p (m : Int) (m : Int)) = true := by
              have h1 : rqB (m : Int) (m : Int) = true := rqB_iff.2 (by omega)
              simp [prB, HP.out, h1, HY.out hv0]
            go_wp2_with fail
            with_reducible refine (PlaceInside_t p m m true _ hend).mono ?_
            rintro e w5 ⟨rfl, hb⟩
            clear c0 c1 c2 c3 c4 c5 c6 c7 c8
            replace HB := Lib.hid (bkeep2 HB.out hb)
            clear hb
            go_wp2
            go_ret
            exact ⟨rfl, HB.out⟩
  · have hl1 : (1048576 : Int) < n := by omega
    go_enter Try.func6, Try.ntmps6
    go_wp2
    go_ret
    exact ⟨rfl, Below.refl _ _⟩
set_option maxRecDepth 100000 in
theorem lifted (os : Os) (started : os.Started) (H : Type) (enc : TypeId × Value → H) :
    ReturnsInHanded {} Try.checked os 6 .any (Rows.fnLeastInsideSpec.pre6 enc Try.prog Try.f6 Rows.fnLeastInsideRow.domain false) (Rows.fnLeastInsideSpec.post enc Try.prog Try.f6 false true false false) := by
  refine returnsInHanded_of_change (C := Try.checked) own started (by kernel_rfl) Try.func6
    (ChangeSpec.witness6 (enc := enc) (C := Try.checked) false ⟨#[], #[.slice none 0 0], []⟩ 8 (by kernel_rfl) (by kernel_rfl) (by kernel_rfl) (by kernel_rfl)) ?_
  intro W base args ds gs before hval0 hW hcnd _
  have hval : ∀ (j : Nat) t v, Try.f6.params[j]? = some t → args[j]? = some v → Value.okWide Try.prog W .any base t v := hval0
  have hW' := hW
  obtain ⟨p, q, hA0, hV, rfl, hfz, hnd⟩ := hW
  have hA : DataW.TrodAll enc Try.prog W 0 (fun _ => true) true Try.f6.params.toList args.toList ds p := hA0
  rw [Try.params6] at hA hval
  obtain ⟨v0, vs0, d0, ds0, p0, q0, hargs, rfl, rfl, h0, r0⟩ := trodAll_cons hA
  obtain ⟨rfl, rfl, rfl⟩ := trodAll_nil r0
  obtain rfl : args = #[v0] := by cases args; simp_all
  obtain ⟨rfl, rfl⟩ := trodVars_none hV
  have k0 := h0
  have lt0 : ∀ x ∈ p0, x.block < W.heap.size := by obtain ⟨m, hm⟩ := k0; exact DataW.trod_lt m _ _ _ hm
  obtain ⟨a0, len0, cap0, rfl⟩ := okWide_slice Try.underlying22 (hval 0 22 v0 rfl rfl)
  obtain ⟨z0, wz0⟩ : ∃ zs, IsRow .u8 W a0 len0 cap0 zs := by
    obtain ⟨fuel, hf⟩ := h0
    rcases open_ints Try.underlying22 Try.underlying5 (by kernel_rfl) hf with ⟨hcs, _⟩ | ⟨x, l, c, zs, hcs, _, hl, hm, hz, _, hcell, hwz⟩
    · simp [Value.cells] at hcs
      obtain ⟨rfl, rfl, rfl⟩ := hcs
      exact ⟨[], .inl ⟨rfl, rfl, rfl, rfl⟩⟩
    · simp [Value.cells] at hcs
      obtain ⟨rfl, rfl, rfl⟩ := hcs
      exact ⟨zs, .inr ⟨_, rfl, hl, hm, by simpa using hz, hcell, hwz⟩⟩
  clear hA0 hval0
  refine (walk a0 len0 cap0 z0 W wz0).mono fun e W' ⟨he, bel⟩ => ?_
  subst he
  exact ⟨_, rfl, _, _, _, [], _, [], hW', trodAll_mk1 (shut_bool Try.underlying4 _), (trodAll_cons_mk (Below.trod laidOut (by kernel_rfl) (of_decide_eq_true (by kernel_rfl)) k0 bel lt0) trodAll_mk0), rfl, bel.frame _, fun h => by cases h⟩
theorem over : Rows.fnLeastInsideRow.holds Try.pinned (OpenSpec.ofChange Rows.fnLeastInsideSpec) :=
  OpenClaim.holds_of_wide 6 Try.f6 rfl rfl rfl rfl rfl rfl rfl ⟨rfl, rfl, rfl, rfl, rfl⟩ rfl rfl rfl rfl rfl (by kernel_rfl) Try.func6 (by kernel_rfl)
    (of_decide_eq_true (by kernel_rfl)) (by unfold Func.isWrapper; first | (rw [if_pos (by decide +kernel)]; kernel_rfl) | (rw [if_neg (by decide +kernel)]; exact ⟨rfl, rfl⟩))
    (fun os started H enc _ => lifted os started H enc)
theorem proved : Rows.FnLeastInsideSaid := over
end Go.Proofs.Ytfhjmmajhohkjab.lLeastInside
