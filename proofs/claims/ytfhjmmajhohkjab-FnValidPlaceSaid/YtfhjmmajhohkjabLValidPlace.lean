/- FnValidPlace: for every code the law returns true. No condition. -/
import Derived.Test.YtfhjmmajhohkjabQ03
import Derived.LoopTactic
namespace Go.Proofs.Ytfhjmmajhohkjab.lValidPlace
open Go.ChangeShapes Go.WideShapes Go.ChangeAt Go.RowKit Go.Joins
set_option linter.unusedVariables false
set_option maxHeartbeats 1000000
set_option maxRecDepth 100000 in
theorem walk (A : Option Addr) (n c : Nat) (z : List Int) (w : World) (wz : IsRow .u8 w A n c z) : Calls Try.prog 3 #[.slice A n c] w fun e w' => e = .returned (.bool true) ∧ Below w.heap.size w w' := by
  obtain ⟨hb, hn, hc⟩ := wz.bts
  clear wz
  by_cases hlen : n ≤ 1048576
  · have hl1 : ¬ (1048576 : Int) < n := by omega
    go_enter Try.func3, Try.ntmps3
    go_wp2_with fail
    with_reducible refine (DrawValidPlace_any A n c _ hb hn hc).mono ?_
    rintro e w1 ⟨⟨p, rfl⟩, hB⟩
    have HX := Lib.hid (heap_alloc_new w1 (.cells #[.int .i64 p.x, .int .i64 p.y, .int .i64 p.rx, .int .i64 p.ry, .int .i64 p.ww, .int .i64 p.hh, .int .i64 p.qw, .int .i64 p.qh, .int .i64 p.an] 24))
    have HB := Lib.hid (balloc' (o := .cells #[.int .i64 p.x, .int .i64 p.y, .int .i64 p.rx, .int .i64 p.ry, .int .i64 p.ww, .int .i64 p.hh, .int .i64 p.qw, .int .i64 p.qh, .int .i64 p.an] 24) hB)
    have hw1 := hB.size
    clear hB hb hn hc
    cases hv : plB p
    · skip
      go_wp2_with fail
      with_reducible refine (validPlace_t p false _ hv).mono ?_
      rintro e w2 ⟨rfl, hb2⟩
      replace HX := Lib.hid ((hb2.block _ (lt_of_heap HX.out)).trans HX.out)
      replace HB := Lib.hid (bkeep2 HB.out hb2)
      obtain ⟨c0, c1, c2, c3, c4, c5, c6, c7, c8⟩ := c9_q HX.out
      clear hb2
      go_wp2_with fail
      with_reducible refine (svalidPlace2_t p false _ hv).mono ?_
      rintro e w3 ⟨rfl, hb3⟩
      clear c0 c1 c2 c3 c4 c5 c6 c7 c8
      replace HX := Lib.hid ((hb3.block _ (lt_of_heap HX.out)).trans HX.out)
      replace HB := Lib.hid (bkeep2 HB.out hb3)
      obtain ⟨c0, c1, c2, c3, c4, c5, c6, c7, c8⟩ := c9_q HX.out
      clear hb3
      go_wp2_with fail
      with_reducible refine (svalidPlace2_t p false _ hv).mono ?_
      rintro e w4 ⟨rfl, hb4⟩
      clear c0 c1 c2 c3 c4 c5 c6 c7 c8
      replace HB := Lib.hid (bkeep2 HB.out hb4)
      clear hb4
      go_wp2
      go_ret
      exact ⟨rfl, HB.out⟩
    · skip
      go_wp2_with fail
      with_reducible refine (validPlace_t p true _ hv).mono ?_
      rintro e w2 ⟨rfl, hb2⟩
      replace HX := Lib.hid ((hb2.block _ (lt_of_heap HX.out)).trans HX.out)
      replace HB := Lib.hid (bkeep2 HB.out hb2)
      obtain ⟨c0, c1, c2, c3, c4, c5, c6, c7, c8⟩ := c9_q HX.out
      clear hb2
      go_wp2_with fail
      with_reducible refine (svalidPlace2_t p true _ hv).mono ?_
      rintro e w3 ⟨rfl, hb3⟩
      clear c0 c1 c2 c3 c4 c5 c6 c7 c8
      replace HX := Lib.hid ((hb3.block _ (lt_of_heap HX.out)).trans HX.out)
      replace HB := Lib.hid (bkeep2 HB.out hb3)
      clear hb3
      have hm : ∀ k : Int, 0 ≤ k → k ≤ 8 → plB ⟨p.x, p.y, p.rx, p.ry, p.ww, p.hh, p.qw, p.qh, k⟩ = true := fun k k1 k2 => plB_iff.2 (by have := plB_iff.1 hv; dsimp only; omega)
      have HM := Lib.hid hm
      have HW1 := Lib.hid hw1
      clear hm hv hw1
      go_wp2_with fail
      go_loopw [5] (fun i wr => ∃ k : Nat, k ≤ 9 ∧ i = .int .i64 k ∧ (∃ s' : Int, wr.heap[w1.heap.size]? = some (.cells #[.int .i64 p.x, .int .i64 p.y, .int .i64 p.rx, .int .i64 p.ry, .int .i64 p.ww, .int .i64 p.hh, .int .i64 p.qw, .int .i64 p.qh, .int .i64 s'] 24 (0, 0))) ∧ Below w.heap.size w wr) (fun i _ => 9 - (intOf i).toNat)
      case atStart => exact ⟨0, by omega, rfl, ⟨_, HX.out⟩, HB.out⟩
      case round =>
        obtain ⟨k, hk, rfl, ⟨s', hs'⟩, hBr⟩ := hrel
        have HS := Lib.hid hs'
        have HBr := Lib.hid hBr
        clear HB HX
        by_cases hlt : k < 9
        · skip
          have hd : decide ((k : Int) ≤ 8) = true := by simp; omega
          obtain ⟨c0, c1, c2, c3, c4, c5, c6, c7, c8⟩ := c9_q hs'
          have f2 := frozen_of_heap hs' 8
          have hS2 := put1h (i := 8) hs' (.int .i64 k)
          simp only [List.setIfInBounds_toArray, List.set_cons_succ, List.set_cons_zero] at hS2
          replace HS := Lib.hid hS2
          replace HBr := Lib.hid (HBr.out.setCell (p := ⟨w1.heap.size, 8, none⟩) HW1.out (.int .i64 k))
          have hvk := HM.out k (by omega) (by omega)
          clear hs' hS2 hBr
          go_wp2_with fail
          with_reducible refine (validPlace_t ⟨p.x, p.y, p.rx, p.ry, p.ww, p.hh, p.qw, p.qh, k⟩ true _ hvk).mono ?_
          rintro e w4 ⟨rfl, hb4⟩
          clear c0 c1 c2 c3 c4 c5 c6 c7 c8 f2 hvk
          replace HS := Lib.hid ((hb4.block _ (lt_of_heap HS.out)).trans HS.out)
          replace HBr := Lib.hid (HBr.out.trans (hb4.mono HBr.out.size))
          clear hb4
          go_wp2
          go_roundw
          case rel => exact ⟨k + 1, by omega, by go_num, ⟨_, HS.out⟩, HBr.out⟩
          case measure => simp [intOf]; omega
        · skip
          have hd : decide ((k : Int) ≤ 8) = false := by simp; omega
          clear hs' hBr
          go_wp2
          go_ret
          exact ⟨rfl, HBr.out⟩
  · have hl1 : (1048576 : Int) < n := by omega
    go_enter Try.func3, Try.ntmps3
    go_wp2
    go_ret
    exact ⟨rfl, Below.refl _ _⟩
set_option maxRecDepth 100000 in
theorem lifted (os : Os) (started : os.Started) (H : Type) (enc : TypeId × Value → H) :
    ReturnsInHanded {} Try.checked os 3 .any (Rows.fnValidPlaceSpec.pre6 enc Try.prog Try.f3 Rows.fnValidPlaceRow.domain false) (Rows.fnValidPlaceSpec.post enc Try.prog Try.f3 false true false false) := by
  refine returnsInHanded_of_change (C := Try.checked) own started (by kernel_rfl) Try.func3
    (ChangeSpec.witness6 (enc := enc) (C := Try.checked) false ⟨#[], #[.slice none 0 0], []⟩ 8 (by kernel_rfl) (by kernel_rfl) (by kernel_rfl) (by kernel_rfl)) ?_
  intro W base args ds gs before hval0 hW hcnd _
  have hval : ∀ (j : Nat) t v, Try.f3.params[j]? = some t → args[j]? = some v → Value.okWide Try.prog W .any base t v := hval0
  have hW' := hW
  obtain ⟨p, q, hA0, hV, rfl, hfz, hnd⟩ := hW
  have hA : DataW.TrodAll enc Try.prog W 0 (fun _ => true) true Try.f3.params.toList args.toList ds p := hA0
  rw [Try.params3] at hA hval
  obtain ⟨v0, vs0, d0, ds0, p0, q0, hargs, rfl, rfl, h0, r0⟩ := trodAll_cons hA
  obtain ⟨rfl, rfl, rfl⟩ := trodAll_nil r0
  obtain rfl : args = #[v0] := by cases args; simp_all
  obtain ⟨rfl, rfl⟩ := trodVars_none hV
  have k0 := h0
  have lt0 : ∀ x ∈ p0, x.block < W.heap.size := by obtain ⟨m, hm⟩ := k0; exact DataW.trod_lt m _ _ _ hm
  obtain ⟨a0, len0, cap0, rfl⟩ := okWide_slice Try.underlying22 (hval 0 22 v0 rfl rfl)
  obtain ⟨z0, wz0⟩ : ∃ zs, IsRow .u8 W a0 len0 cap0 zs := by
    obtain ⟨fuel, hf⟩ := h0
    rcases open_ints Try.underlying22 Try.underlying5 (by kernel_rfl) hf with ⟨hcs, _⟩ | ⟨x, l, c, zs, hcs, _, hl, hm, hz, _, hcell, hwz⟩
    · simp [Value.cells] at hcs
      obtain ⟨rfl, rfl, rfl⟩ := hcs
      exact ⟨[], .inl ⟨rfl, rfl, rfl, rfl⟩⟩
    · simp [Value.cells] at hcs
      obtain ⟨rfl, rfl, rfl⟩ := hcs
      exact ⟨zs, .inr ⟨_, rfl, hl, hm, by simpa using hz, hcell, hwz⟩⟩
  clear hA0 hval0
  refine (walk a0 len0 cap0 z0 W wz0).mono fun e W' ⟨he, bel⟩ => ?_
  subst he
  exact ⟨_, rfl, _, _, _, [], _, [], hW', trodAll_mk1 (shut_bool Try.underlying4 _), (trodAll_cons_mk (Below.trod laidOut (by kernel_rfl) (of_decide_eq_true (by kernel_rfl)) k0 bel lt0) trodAll_mk0), rfl, bel.frame _, fun h => by cases h⟩
theorem over : Rows.fnValidPlaceRow.holds Try.pinned (OpenSpec.ofChange Rows.fnValidPlaceSpec) :=
  OpenClaim.holds_of_wide 3 Try.f3 rfl rfl rfl rfl rfl rfl rfl ⟨rfl, rfl, rfl, rfl, rfl⟩ rfl rfl rfl rfl rfl (by kernel_rfl) Try.func3 (by kernel_rfl)
    (of_decide_eq_true (by kernel_rfl)) (by unfold Func.isWrapper; first | (rw [if_pos (by decide +kernel)]; kernel_rfl) | (rw [if_neg (by decide +kernel)]; exact ⟨rfl, rfl⟩))
    (fun os started H enc _ => lifted os started H enc)
theorem proved : Rows.FnValidPlaceSaid := over
end Go.Proofs.Ytfhjmmajhohkjab.lValidPlace
