/- FnValidView: for every code the law returns true. No condition. -/
import Derived.Test.YtpbfbcdidkbjiacQ03
namespace Go.Proofs.Ytpbfbcdidkbjiac.lValidView
open Go.ChangeShapes Go.WideShapes Go.ChangeAt Go.RowKit Go.Joins
set_option linter.unusedVariables false
set_option maxHeartbeats 2000000
attribute [local go_sem 5000] run_mx run_mn
attribute [local go_sem] growUpon_value growUpon_skip growUpon_enter
theorem eqlV_same (a b d : Int) (w : World) : (binOp .eql 37 (.agg #[.int .i64 (a), .int .i64 (b), .int .i64 (d)]) (.agg #[.int .i64 (a), .int .i64 (b), .int .i64 (d)])).run Try.prog w = .ok (.bool true) w := by go_simp
theorem equalView_same (a b d : Int) (w : World) : Calls Try.prog 23 #[.agg #[.int .i64 (a), .int .i64 (b), .int .i64 (d)], .agg #[.int .i64 (a), .int .i64 (b), .int .i64 (d)]] w fun e w' => e = .returned (.bool true) ∧ Below w.heap.size w w' := by
  have hq := eqlV_same
  go_enter Try.func23, Try.ntmps23
  go_wp2
  go_ret
  exact ⟨ret_bool rfl, (by repeat (first | with_reducible exact Below.refl _ _ | with_reducible assumption | with_reducible refine balloc ?_ | (with_reducible refine bset ?_ ?_; rotate_left; ((try dsimp only); omega)) | refine bkeep2 ?_ (by assumption) | with_reducible refine Below.drew ?_))⟩
set_option maxRecDepth 100000 in
theorem walk (A : Option Addr) (n c : Nat) (z : List Int) (w : World) (wz : IsRow .u8 w A n c z) : Calls Try.prog 6 #[.slice A n c] w fun e w' => e = .returned (.bool true) ∧ Below w.heap.size w w' := by
  obtain ⟨hb, hn, hc⟩ := wz.bts
  clear wz
  by_cases hlen : n ≤ 1048576
  · have hl1 : ¬ (1048576 : Int) < n := by omega
    go_enter Try.func6, Try.ntmps6
    go_wp2_with fail
    with_reducible refine (DrawValidView_any A n c _ hb hn hc).mono ?_
    rintro e w1 ⟨⟨a, b, d, rfl⟩, hB⟩
    have HX := Lib.hid (newV w1 (.cells #[.int .i64 (a), .int .i64 (b), .int .i64 (d)] 37))
    have HB := Lib.hid (balloc (o := (.cells #[.int .i64 (a), .int .i64 (b), .int .i64 (d)] 37)) hB)
    clear hB hb hn hc
    cases hv : vwB a b d
    · go_wp2_with fail
      with_reducible refine (ValidView_v a b d false _ hv).mono ?_
      rintro e w2 ⟨rfl, hb⟩
      replace HX := Lib.hid ((hb.block _ (Array.getElem?_eq_some_iff.1 HX.out).1).trans HX.out)
      replace HB := Lib.hid (bkeep2 HB.out hb)
      clear hb
      obtain ⟨c0, c1, c2⟩ := c3V HX.out
      go_wp2_with fail
      with_reducible refine (sValidView_v a b d false _ hv).mono ?_
      rintro e w3 ⟨rfl, hb⟩
      clear c0 c1 c2
      replace HX := Lib.hid ((hb.block _ (Array.getElem?_eq_some_iff.1 HX.out).1).trans HX.out)
      replace HB := Lib.hid (bkeep2 HB.out hb)
      clear hb
      obtain ⟨c0, c1, c2⟩ := c3V HX.out
      go_wp2_with fail
      with_reducible refine (sValidView_v a b d false _ hv).mono ?_
      rintro e w4 ⟨rfl, hb⟩
      clear c0 c1 c2
      replace HX := Lib.hid ((hb.block _ (Array.getElem?_eq_some_iff.1 HX.out).1).trans HX.out)
      replace HB := Lib.hid (bkeep2 HB.out hb)
      clear hb
      go_wp2
      go_ret
      exact ⟨rfl, HB.out⟩
    · have hv2 := vwB_iff.1 hv
      have hen := enV_spec a b
      have hv0 : vwB a b 0 = true := vwB_iff.2 (by omega)
      have e1 : frV a b (d + 0) = d := by rw [Int.add_zero]; exact frV_self (by omega) (by omega)
      have e2 : frV a b (d + -500) = 0 := frV_uniq (by omega) (by omega) (.inr (.inl ⟨rfl, by omega⟩))
      have HS1 : Hid (∀ w, Calls Try.prog 21 #[.agg #[.int .i64 (a), .int .i64 (b), .int .i64 (d)], .int .i64 0] w fun e w' => e = .returned (.agg #[.int .i64 (a), .int .i64 (b), .int .i64 (d)]) ∧ Gr w w') := Lib.hid (fun w => by have h := ScrollBy_yes a b d 0 w hv (by decide); rw [e1] at h; exact h)
      have HS2 : Hid (∀ w, Calls Try.prog 21 #[.agg #[.int .i64 (a), .int .i64 (b), .int .i64 (d)], .int .i64 (-500)] w fun e w' => e = .returned (.agg #[.int .i64 (a), .int .i64 (b), .int .i64 (0)]) ∧ Gr w w') := Lib.hid (fun w => by have h := ScrollBy_yes a b d (-500) w hv (by decide); rw [e2] at h; exact h)
      have hq := eqlV_same
      clear hv2 hen e1 e2
      go_wp2_with fail
      with_reducible refine (ValidView_v a b d true _ hv).mono ?_
      rintro e w2 ⟨rfl, hb⟩
      replace HX := Lib.hid ((hb.block _ (Array.getElem?_eq_some_iff.1 HX.out).1).trans HX.out)
      replace HB := Lib.hid (bkeep2 HB.out hb)
      clear hb
      obtain ⟨c0, c1, c2⟩ := c3V HX.out
      go_wp2_with fail
      with_reducible refine (sValidView_v a b d true _ hv).mono ?_
      rintro e w3 ⟨rfl, hb⟩
      clear c0 c1 c2
      replace HX := Lib.hid ((hb.block _ (Array.getElem?_eq_some_iff.1 HX.out).1).trans HX.out)
      replace HB := Lib.hid (bkeep2 HB.out hb)
      clear hb
      obtain ⟨c0, c1, c2⟩ := c3V HX.out
      have hlx := ltV HX.out
      have hny : ¬ w1.heap.size = w3.heap.size := by omega
      have HB3 := Lib.hid HB.out
      go_upto_region 8 with (fail)
      refine wp_V (fun W => W.heap[w1.heap.size]? = some (.cells #[.int .i64 (a), .int .i64 (b), .int .i64 (d)] 37 (0, 0)) ∧ W.heap[w3.heap.size]? = some (.cells #[.int .i64 (a), .int .i64 (b), .int .i64 (d)] 37 (0, 0)) ∧ Below w.heap.size w W ∧ w3.heap.size < W.heap.size) ⟨(Below.heap_alloc _ _ _ hlx).trans HX.out, newV _ _, balloc HB.out, by simp⟩ ?_
      clear HX HB c0 c1 c2
      rintro wa ⟨k0, k1, k2, k3⟩
      have HX := Lib.hid k0
      have HY := Lib.hid k1
      have HB := Lib.hid k2
      obtain ⟨c0, c1, c2⟩ := c3V k1
      obtain ⟨f0, f1, f2⟩ := f3V k1
      clear k0 k1 k2
      go_upto_region 9 with (fail)
      refine wp_V (fun W => W.heap[w1.heap.size]? = some (.cells #[.int .i64 (a), .int .i64 (b), .int .i64 (d)] 37 (0, 0)) ∧ W.heap[w3.heap.size]? = some (.cells #[.int .i64 (a), .int .i64 (b), .int .i64 (0)] 37 (0, 0)) ∧ Below w.heap.size w W) ⟨(Below.heap_setCell _ ⟨w3.heap.size, 2, none⟩ _ _ hny).trans HX.out, (putV HY.out _).trans rfl, HB.out.setCell (p := ⟨w3.heap.size, 2, none⟩) (by have := HB3.out.size; omega) _⟩ ?_
      clear HX HY HB c0 c1 c2 f0 f1 f2
      rintro wb ⟨k0, k1, k2⟩
      have HB := Lib.hid k2
      have hl0 := ltV k0
      have hl1' := ltV k1
      obtain ⟨c0, c1, c2⟩ := c3V k0
      obtain ⟨d0, d1, d2⟩ := c3V k1
      clear k0 k1 k2
      go_wp2_with fail
      refine wp_region_grow 15 0 (· < 15) (by kernel_rfl) (by kernel_rfl) rfl ?_
      iterate 15 (refine wpG_step (fun K hK => ?_); first | (refine grow_skip rfl ?_; go_simp; refine hK _ ?_; clear hK K) | (apply Exists.intro; refine ⟨.inl ⟨rfl, fun w' hw' => ?_⟩, ?_⟩; (focus ((obtain ⟨hc, hf⟩ := bcell hw'.out); (have hcS := bcellS hw'.out); go_simp <;> first | rfl | (go_at_call 19; exact ValidView_v a b 0 true _ hv0) | (go_at_call 21; first | (with_reducible exact HS1.out _) | (with_reducible exact HS2.out _)))); (go_simp; refine hK _ ?_; clear hK K)))
      refine wpG_nil ?_
      refine wpK_tail (by kernel_rfl) (fun w9 hg9 => ?_)
      have hb9 := bdrewn hg9.out
      refine wpAny_end (by kernel_rfl) ?_
      refine NoPan.thn ?_
      clear hg9
      replace HB := Lib.hid (bkeep2 HB.out hb9)
      clear hb9
      go_wp2
      go_ret
      exact ⟨rfl, HB.out⟩
  · have hl1 : (1048576 : Int) < n := by omega
    go_enter Try.func6, Try.ntmps6
    go_wp2
    go_ret
    exact ⟨rfl, Below.refl _ _⟩
set_option maxRecDepth 100000 in
theorem lifted (os : Os) (started : os.Started) (H : Type) (enc : TypeId × Value → H) :
    ReturnsInHanded {} Try.checked os 6 .any (Rows.fnValidViewSpec.pre6 enc Try.prog Try.f6 Rows.fnValidViewRow.domain false) (Rows.fnValidViewSpec.post enc Try.prog Try.f6 false true false false) := by
  refine returnsInHanded_of_change (C := Try.checked) own started (by kernel_rfl) Try.func6
    (ChangeSpec.witness6 (enc := enc) (C := Try.checked) false ⟨#[], #[.slice none 0 0], []⟩ 8 (by kernel_rfl) (by kernel_rfl) (by kernel_rfl) (by kernel_rfl)) ?_
  intro W base args ds gs before hval0 hW hcnd _
  have hval : ∀ (j : Nat) t v, Try.f6.params[j]? = some t → args[j]? = some v → Value.okWide Try.prog W .any base t v := hval0
  have hW' := hW
  obtain ⟨p, q, hA0, hV, rfl, hfz, hnd⟩ := hW
  have hA : DataW.TrodAll enc Try.prog W 0 (fun _ => true) true Try.f6.params.toList args.toList ds p := hA0
  rw [Try.params6] at hA hval
  obtain ⟨v0, vs0, d0, ds0, p0, q0, hargs, rfl, rfl, h0, r0⟩ := trodAll_cons hA
  obtain ⟨rfl, rfl, rfl⟩ := trodAll_nil r0
  obtain rfl : args = #[v0] := by cases args; simp_all
  obtain ⟨rfl, rfl⟩ := trodVars_none hV
  have k0 := h0
  have lt0 : ∀ x ∈ p0, x.block < W.heap.size := by obtain ⟨m, hm⟩ := k0; exact DataW.trod_lt m _ _ _ hm
  obtain ⟨a0, len0, cap0, rfl⟩ := okWide_slice Try.underlying22 (hval 0 22 v0 rfl rfl)
  obtain ⟨z0, wz0⟩ : ∃ zs, IsRow .u8 W a0 len0 cap0 zs := by
    obtain ⟨fuel, hf⟩ := h0
    rcases open_ints Try.underlying22 Try.underlying5 (by kernel_rfl) hf with ⟨hcs, _⟩ | ⟨x, l, c, zs, hcs, _, hl, hm, hz, _, hcell, hwz⟩
    · simp [Value.cells] at hcs
      obtain ⟨rfl, rfl, rfl⟩ := hcs
      exact ⟨[], .inl ⟨rfl, rfl, rfl, rfl⟩⟩
    · simp [Value.cells] at hcs
      obtain ⟨rfl, rfl, rfl⟩ := hcs
      exact ⟨zs, .inr ⟨_, rfl, hl, hm, by simpa using hz, hcell, hwz⟩⟩
  clear hA0 hval0
  refine (walk a0 len0 cap0 z0 W wz0).mono fun e W' ⟨he, bel⟩ => ?_
  subst he
  exact ⟨_, rfl, _, _, _, [], _, [], hW', trodAll_mk1 (shut_bool Try.underlying4 _), (trodAll_cons_mk (Below.trod laidOut (by kernel_rfl) (of_decide_eq_true (by kernel_rfl)) k0 bel lt0) trodAll_mk0), rfl, bel.frame _, fun h => by cases h⟩
theorem over : Rows.fnValidViewRow.holds Try.pinned (OpenSpec.ofChange Rows.fnValidViewSpec) :=
  OpenClaim.holds_of_wide 6 Try.f6 rfl rfl rfl rfl rfl rfl rfl ⟨rfl, rfl, rfl, rfl, rfl⟩ rfl rfl rfl rfl rfl (by kernel_rfl) Try.func6 (by kernel_rfl)
    (of_decide_eq_true (by kernel_rfl)) (by unfold Func.isWrapper; first | (rw [if_pos (by decide +kernel)]; kernel_rfl) | (rw [if_neg (by decide +kernel)]; exact ⟨rfl, rfl⟩))
    (fun os started H enc _ => lifted os started H enc)
theorem proved : Rows.FnValidViewSaid := over
end Go.Proofs.Ytpbfbcdidkbjiac.lValidView
