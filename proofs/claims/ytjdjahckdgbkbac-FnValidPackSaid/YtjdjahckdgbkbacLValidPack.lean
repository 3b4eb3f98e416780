/- FnValidPack: for every code the law returns true. No condition. -/
import Derived.Test.YtjdjahckdgbkbacQ03
import Derived.LoopTactic
namespace Go.Proofs.Ytjdjahckdgbkbac.lValidPack
open Go.ChangeShapes Go.WideShapes Go.ChangeAt Go.RowKit Go.Joins
set_option linter.unusedVariables false
set_option maxHeartbeats 1000000
theorem vp_b (v0 v1 v2 : Int) (v3 v4 v5 : Bool) (v6 v7 v8 : Int) (b : Bool) (h : vpB v0 v1 v2 v6 v7 v8 = b) (w : World) : Calls Try.prog 10 #[.agg #[.int .i64 v0, .int .i64 v1, .int .i64 v2, .bool v3, .bool v4, .bool v5, .int .i64 v6, .int .i64 v7, .int .i64 v8]] w fun e w' => e = .returned (.bool b) ∧ Below w.heap.size w w' := by
  rw [← h]; exact validPack_any _ _ _ _ _ _ _ _ _ _
theorem svp_b (v0 v1 v2 : Int) (v3 v4 v5 : Bool) (v6 v7 v8 : Int) (b : Bool) (h : vpB v0 v1 v2 v6 v7 v8 = b) (w : World) : Calls Try.prog 11 #[.agg #[.int .i64 v0, .int .i64 v1, .int .i64 v2, .bool v3, .bool v4, .bool v5, .int .i64 v6, .int .i64 v7, .int .i64 v8]] w fun e w' => e = .returned (.bool b) ∧ Below w.heap.size w w' := by
  rw [← h]; exact specValidPack2_any _ _ _ _ _ _ _ _ _ _
set_option maxRecDepth 100000 in
theorem walk (A : Option Addr) (n c : Nat) (z : List Int) (w : World) (wz : IsRow .u8 w A n c z) : Calls Try.prog 3 #[.slice A n c] w fun e w' => e = .returned (.bool true) ∧ Below w.heap.size w w' := by
  obtain ⟨hb, hn, hc⟩ := wz.bts
  clear wz
  by_cases hlen : n ≤ 1048576
  · have hl1 : ¬ (1048576 : Int) < n := by omega
    go_enter Try.func3, Try.ntmps3
    go_wp2_with fail
    with_reducible refine (DrawValidPack_any A n c _ hb hn hc).mono ?_
    rintro e w1 ⟨⟨v0, v1, v2, v3, v4, v5, v6, v7, v8, rfl⟩, hB⟩
    have hX := heap_alloc_new w1 (.cells #[.int .i64 v0, .int .i64 v1, .int .i64 v2, .bool v3, .bool v4, .bool v5, .int .i64 v6, .int .i64 v7, .int .i64 v8] 24)
    have HX := Lib.hid hX
    have HB := Lib.hid (balloc' hB (o := (.cells #[.int .i64 v0, .int .i64 v1, .int .i64 v2, .bool v3, .bool v4, .bool v5, .int .i64 v6, .int .i64 v7, .int .i64 v8] 24)))
    clear hX hB hb hn hc
    cases hv : vpB v0 v1 v2 v6 v7 v8
    · skip
      go_wp2_with fail
      with_reducible refine (vp_b v0 v1 v2 v3 v4 v5 v6 v7 v8 false hv _).mono ?_
      rintro e w2 ⟨rfl, hb2⟩
      replace HX := Lib.hid ((hb2.block _ (lt_of_heap HX.out)).trans HX.out)
      replace HB := Lib.hid (bkeep2 HB.out hb2)
      obtain ⟨c0, c1, c2, c3, c4, c5, c6, c7, c8⟩ := b9c HX.out
      clear hb2
      go_wp2_with fail
      with_reducible refine (svp_b v0 v1 v2 v3 v4 v5 v6 v7 v8 false hv _).mono ?_
      rintro e w3 ⟨rfl, hb3⟩
      clear c0 c1 c2 c3 c4 c5 c6 c7 c8
      replace HX := Lib.hid ((hb3.block _ (lt_of_heap HX.out)).trans HX.out)
      replace HB := Lib.hid (bkeep2 HB.out hb3)
      obtain ⟨c0, c1, c2, c3, c4, c5, c6, c7, c8⟩ := b9c HX.out
      clear hb3
      go_wp2_with fail
      with_reducible refine (svp_b v0 v1 v2 v3 v4 v5 v6 v7 v8 false hv _).mono ?_
      rintro e w4 ⟨rfl, hb4⟩
      clear c0 c1 c2 c3 c4 c5 c6 c7 c8
      replace HX := Lib.hid ((hb4.block _ (lt_of_heap HX.out)).trans HX.out)
      replace HB := Lib.hid (bkeep2 HB.out hb4)
      obtain ⟨c0, c1, c2, c3, c4, c5, c6, c7, c8⟩ := b9c HX.out
      clear hb4
      go_wp2
      go_ret
      exact ⟨rfl, HB.out⟩
    · skip
      go_wp2_with fail
      with_reducible refine (vp_b v0 v1 v2 v3 v4 v5 v6 v7 v8 true hv _).mono ?_
      rintro e w2 ⟨rfl, hb2⟩
      replace HX := Lib.hid ((hb2.block _ (lt_of_heap HX.out)).trans HX.out)
      replace HB := Lib.hid (bkeep2 HB.out hb2)
      obtain ⟨c0, c1, c2, c3, c4, c5, c6, c7, c8⟩ := b9c HX.out
      clear hb2
      go_wp2_with fail
      with_reducible refine (svp_b v0 v1 v2 v3 v4 v5 v6 v7 v8 true hv _).mono ?_
      rintro e w3 ⟨rfl, hb3⟩
      clear c0 c1 c2 c3 c4 c5 c6 c7 c8
      replace HX := Lib.hid ((hb3.block _ (lt_of_heap HX.out)).trans HX.out)
      replace HB := Lib.hid (bkeep2 HB.out hb3)
      obtain ⟨c0, c1, c2, c3, c4, c5, c6, c7, c8⟩ := b9c HX.out
      clear hb3
      have hw3 := HB.out.size
      obtain ⟨z1, z2, z3, z4, z5, z6⟩ := vpB_iff.1 hv
      have hm : ∀ k : Int, 0 ≤ k → k ≤ 3 → vpB 0 0 k v6 v7 v8 = true := fun k k1 k2 => vpB_iff.2 (by omega)
      have HM := Lib.hid hm
      clear HX hm z1 z2 z3 z4 z5 z6 hv
      go_wp2_with fail
      clear c0 c1 c2 c3 c4 c5 c6 c7 c8
      go_loopw [6] (fun i wr => ∃ k : Nat, k ≤ 4 ∧ i = .int .i64 k ∧ (∃ s' : Int, wr.heap[w3.heap.size]? = some (.cells #[.int .i64 0, .int .i64 0, .int .i64 s', .bool v3, .bool v4, .bool v5, .int .i64 v6, .int .i64 v7, .int .i64 v8] 24 (0, 0))) ∧ Below w.heap.size w wr) (fun i _ => 4 - (intOf i).toNat)
      case atStart => exact ⟨0, by omega, rfl, ⟨_, heap_alloc_new _ _⟩, balloc' HB.out⟩
      case round =>
        obtain ⟨k, hk, rfl, ⟨s', hs'⟩, hBr⟩ := hrel
        have HS := Lib.hid hs'
        have HBr := Lib.hid hBr
        clear HB
        by_cases hlt : k < 4
        · skip
          have hd : decide ((k : Int) ≤ 3) = true := by simp; omega
          obtain ⟨c0, c1, c2, c3, c4, c5, c6, c7, c8⟩ := b9c hs'
          have f2 := frozen_of_heap hs' 2
          have hS2 := put1h (i := 2) hs' (.int .i64 k)
          simp only [List.setIfInBounds_toArray, List.set_cons_succ, List.set_cons_zero] at hS2
          replace HS := Lib.hid hS2
          replace HBr := Lib.hid (HBr.out.setCell (p := ⟨w3.heap.size, 2, none⟩) hw3 (.int .i64 k))
          have hvk := HM.out k (by omega) (by omega)
          clear hs' hS2 hBr
          go_wp2_with fail
          with_reducible refine (vp_b 0 0 k v3 v4 v5 v6 v7 v8 true hvk _).mono ?_
          rintro e w4 ⟨rfl, hb4⟩
          clear c0 c1 c2 c3 c4 c5 c6 c7 c8 f2 hvk
          replace HS := Lib.hid ((hb4.block _ (lt_of_heap HS.out)).trans HS.out)
          replace HBr := Lib.hid (HBr.out.trans (hb4.mono HBr.out.size))
          clear hb4
          go_wp2
          go_roundw
          case rel => exact ⟨k + 1, by omega, by go_num, ⟨_, HS.out⟩, HBr.out⟩
          case measure => simp [intOf]; omega
        · skip
          have hd : decide ((k : Int) ≤ 3) = false := by simp; omega
          clear hs' hBr
          go_wp2
          go_ret
          exact ⟨rfl, HBr.out⟩
  · have hl1 : (1048576 : Int) < n := by omega
    go_enter Try.func3, Try.ntmps3
    go_wp2
    go_ret
    exact ⟨rfl, Below.refl _ _⟩
set_option maxRecDepth 100000 in
theorem lifted (os : Os) (started : os.Started) (H : Type) (enc : TypeId × Value → H) :
    ReturnsInHanded {} Try.checked os 3 .any (Rows.fnValidPackSpec.pre6 enc Try.prog Try.f3 Rows.fnValidPackRow.domain false) (Rows.fnValidPackSpec.post enc Try.prog Try.f3 false true false false) := by
  refine returnsInHanded_of_change (C := Try.checked) own started (by kernel_rfl) Try.func3
    (ChangeSpec.witness6 (enc := enc) (C := Try.checked) false ⟨#[], #[.slice none 0 0], []⟩ 8 (by kernel_rfl) (by kernel_rfl) (by kernel_rfl) (by kernel_rfl)) ?_
  intro W base args ds gs before hval0 hW hcnd _
  have hval : ∀ (j : Nat) t v, Try.f3.params[j]? = some t → args[j]? = some v → Value.okWide Try.prog W .any base t v := hval0
  have hW' := hW
  obtain ⟨p, q, hA0, hV, rfl, hfz, hnd⟩ := hW
  have hA : DataW.TrodAll enc Try.prog W 0 (fun _ => true) true Try.f3.params.toList args.toList ds p := hA0
  rw [Try.params3] at hA hval
  obtain ⟨v0, vs0, d0, ds0, p0, q0, hargs, rfl, rfl, h0, r0⟩ := trodAll_cons hA
  obtain ⟨rfl, rfl, rfl⟩ := trodAll_nil r0
  obtain rfl : args = #[v0] := by cases args; simp_all
  obtain ⟨rfl, rfl⟩ := trodVars_none hV
  have k0 := h0
  have lt0 : ∀ x ∈ p0, x.block < W.heap.size := by obtain ⟨m, hm⟩ := k0; exact DataW.trod_lt m _ _ _ hm
  obtain ⟨a0, len0, cap0, rfl⟩ := okWide_slice Try.underlying22 (hval 0 22 v0 rfl rfl)
  obtain ⟨z0, wz0⟩ : ∃ zs, IsRow .u8 W a0 len0 cap0 zs := by
    obtain ⟨fuel, hf⟩ := h0
    rcases open_ints Try.underlying22 Try.underlying5 (by kernel_rfl) hf with ⟨hcs, _⟩ | ⟨x, l, c, zs, hcs, _, hl, hm, hz, _, hcell, hwz⟩
    · simp [Value.cells] at hcs
      obtain ⟨rfl, rfl, rfl⟩ := hcs
      exact ⟨[], .inl ⟨rfl, rfl, rfl, rfl⟩⟩
    · simp [Value.cells] at hcs
      obtain ⟨rfl, rfl, rfl⟩ := hcs
      exact ⟨zs, .inr ⟨_, rfl, hl, hm, by simpa using hz, hcell, hwz⟩⟩
  clear hA0 hval0
  refine (walk a0 len0 cap0 z0 W wz0).mono fun e W' ⟨he, bel⟩ => ?_
  subst he
  exact ⟨_, rfl, _, _, _, [], _, [], hW', trodAll_mk1 (shut_bool Try.underlying4 _), (trodAll_cons_mk (Below.trod laidOut (by kernel_rfl) (of_decide_eq_true (by kernel_rfl)) k0 bel lt0) trodAll_mk0), rfl, bel.frame _, fun h => by cases h⟩
theorem over : Rows.fnValidPackRow.holds Try.pinned (OpenSpec.ofChange Rows.fnValidPackSpec) :=
  OpenClaim.holds_of_wide 3 Try.f3 rfl rfl rfl rfl rfl rfl rfl ⟨rfl, rfl, rfl, rfl, rfl⟩ rfl rfl rfl rfl rfl (by kernel_rfl) Try.func3 (by kernel_rfl)
    (of_decide_eq_true (by kernel_rfl)) (by unfold Func.isWrapper; first | (rw [if_pos (by decide +kernel)]; kernel_rfl) | (rw [if_neg (by decide +kernel)]; exact ⟨rfl, rfl⟩))
    (fun os started H enc _ => lifted os started H enc)
theorem proved : Rows.FnValidPackSaid := over
end Go.Proofs.Ytjdjahckdgbkbac.lValidPack
