/- FnThumbOf: for every code the law returns true. No condition. -/
import Derived.Test.YtpbfbcdidkbjiadQ04
namespace Go.Proofs.Ytpbfbcdidkbjiad.lThumbOf
open Go.ChangeShapes Go.WideShapes Go.ChangeAt Go.RowKit Go.Joins
set_option linter.unusedVariables false
set_option maxHeartbeats 2000000
attribute [local go_sem 5000] run_mx run_mn
attribute [local go_sem] growUpon_value growUpon_skip growUpon_enter
theorem eqlV_same (a b d : Int) (w : World) : (binOp .eql 24 (.agg #[.int .i64 (a), .int .i64 (b), .int .i64 (d)]) (.agg #[.int .i64 (a), .int .i64 (b), .int .i64 (d)])).run Try.prog w = .ok (.bool true) w := by go_simp
theorem equalView_same (a b d : Int) (w : World) : Calls Try.prog 8 #[.agg #[.int .i64 (a), .int .i64 (b), .int .i64 (d)], .agg #[.int .i64 (a), .int .i64 (b), .int .i64 (d)]] w fun e w' => e = .returned (.bool true) ∧ Below w.heap.size w w' := by
  have hq := eqlV_same
  go_enter Try.func8, Try.ntmps8
  go_wp2
  go_ret
  exact ⟨ret_bool rfl, (by repeat (first | with_reducible exact Below.refl _ _ | with_reducible assumption | with_reducible refine balloc ?_ | (with_reducible refine bset ?_ ?_; rotate_left; ((try dsimp only); omega)) | refine bkeep2 ?_ (by assumption) | with_reducible refine Below.drew ?_))⟩
theorem both (a b d : Int) : ∃ P Q : Int, (∀ w, Calls Try.prog 15 #[.agg #[.int .i64 (a), .int .i64 (b), .int .i64 (d)]] w fun e w' => e = .returned (.tuple #[.int .i64 P, .int .i64 Q]) ∧ Below w.heap.size w w') ∧ (∀ w, Calls Try.prog 16 #[.agg #[.int .i64 (a), .int .i64 (b), .int .i64 (d)]] w fun e w' => e = .returned (.tuple #[.int .i64 P, .int .i64 Q]) ∧ Below w.heap.size w w') ∧ (P < 0 ∨ (0 ≤ P ∧ P ≤ Q ∧ Q ≤ 1000 ∧ (d > 0 ∨ P = 0) ∧ (d + b < a ∨ Q = 1000) ∧ (0 ≤ d ∧ d ≤ 500) ∧ 1 ≤ b ∧ b ≤ 500)) := by
  cases h : vwB a b d
  · exact ⟨-1, -1, fun w => ThumbOf_no a b d w h, fun w => sThumbOf_no a b d w h, .inl (by omega)⟩
  have hv := vwB_iff.1 h
  have he := enV_spec a b
  by_cases h0 : a = 0
  · exact ⟨0, 1000, fun w => ThumbOf_zero a b d w h h0, fun w => sThumbOf_zero a b d w h h0, .inr ⟨by omega, by omega, by omega, .inr rfl, .inr rfl, by omega, by omega⟩⟩
  have h1 : 1 ≤ a := by omega
  have hm := mn_spec (d + b) a
  have b1 := th_bd (t := a) (x := d) h1 (by omega) (by omega)
  have b2 := th_bd (t := a) (x := mn (d + b) a) h1 (by omega) (by omega)
  refine ⟨thA a d, thB a b d, fun w => ThumbOf_yes a b d w h h1, fun w => sThumbOf_yes a b d w h h1, .inr ⟨b1.1, th_le h1 (by omega) (by omega), b2.2, ?_, ?_, by omega, by omega⟩⟩
  · by_cases hd : d > 0
    · exact .inl hd
    · obtain rfl : d = 0 := by omega
      exact .inr th_zero
  · by_cases hd : d + b < a
    · exact .inl hd
    · right
      have e : mn (d + b) a = a := by omega
      rw [thB, e]
      exact th_all h1
set_option maxRecDepth 100000 in
theorem walk (A : Option Addr) (n c : Nat) (z : List Int) (w : World) (wz : IsRow .u8 w A n c z) : Calls Try.prog 5 #[.slice A n c] w fun e w' => e = .returned (.bool true) ∧ Below w.heap.size w w' := by
  obtain ⟨hb, hn, hc⟩ := wz.bts
  clear wz
  by_cases hlen : n ≤ 1048576
  · have hl1 : ¬ (1048576 : Int) < n := by omega
    go_enter Try.func5, Try.ntmps5
    go_wp2_with fail
    with_reducible refine (DrawThumbOf_any A n c _ hb hn hc).mono ?_
    rintro e w1 ⟨⟨a, b, d, rfl⟩, hB⟩
    have HX := Lib.hid (newV w1 (.cells #[.int .i64 (a), .int .i64 (b), .int .i64 (d)] 24))
    have HB := Lib.hid (balloc (o := (.cells #[.int .i64 (a), .int .i64 (b), .int .i64 (d)] 24)) hB)
    clear hB hb hn hc
    obtain ⟨P, Q, hI, hS, hw⟩ := both a b d
    have HI := Lib.hid hI
    have HS := Lib.hid hS
    clear hI hS
    obtain ⟨c0, c1, c2⟩ := c3V HX.out
    go_wp2_with fail
    with_reducible refine (HI.out _).mono ?_
    rintro e w2 ⟨rfl, hb⟩
    clear c0 c1 c2
    replace HX := Lib.hid ((hb.block _ (Array.getElem?_eq_some_iff.1 HX.out).1).trans HX.out)
    replace HB := Lib.hid (bkeep2 HB.out hb)
    clear hb
    obtain ⟨c0, c1, c2⟩ := c3V HX.out
    go_wp2_with fail
    with_reducible refine (HS.out _).mono ?_
    rintro e w3 ⟨rfl, hb⟩
    clear c0 c1 c2
    replace HX := Lib.hid ((hb.block _ (Array.getElem?_eq_some_iff.1 HX.out).1).trans HX.out)
    replace HB := Lib.hid (bkeep2 HB.out hb)
    clear hb
    obtain ⟨c0, c1, c2⟩ := c3V HX.out
    rcases hw with hw | ⟨h1, h2, h3, h4, h5, h6⟩
    · have hd1 : decide (P < 0) = true := by simpa using hw
      go_wp2
      go_ret
      exact ⟨rfl, HB.out⟩
    · have hd1 : decide (P < 0) = false := by simp; omega
      have hd2 : decide (P ≤ Q) = true := by simpa using h2
      have hd3 : decide (Q ≤ 1000) = true := by simpa using h3
      have H4 := Lib.hid h4
      have H5 := Lib.hid h5
      obtain ⟨⟨g1, g2⟩, g3, g4⟩ := h6
      have hwa : IntKind.i64.wrap (d + b) = d + b := IntWalk.i64_in _ (by omega)
      clear h4 h5
      by_cases p1 : d > 0
      · have q1 : decide (d > 0) = true := by simpa using p1
        by_cases p2 : d + b < a
        · have q2 : decide (d + b < a) = true := by simpa using p2
          go_wp2
          go_ret
          exact ⟨rfl, HB.out⟩
        · have q2 : decide (d + b < a) = false := by simpa using p2
          have q3 : (Q == 1000) = true := by have := H5.out; simp; omega
          go_wp2
          go_ret
          exact ⟨rfl, HB.out⟩
      · have q1 : decide (d > 0) = false := by simpa using p1
        have q4 : (P == 0) = true := by have := H4.out; simp; omega
        by_cases p2 : d + b < a
        · have q2 : decide (d + b < a) = true := by simpa using p2
          go_wp2
          go_ret
          exact ⟨rfl, HB.out⟩
        · have q2 : decide (d + b < a) = false := by simpa using p2
          have q3 : (Q == 1000) = true := by have := H5.out; simp; omega
          go_wp2
          go_ret
          exact ⟨rfl, HB.out⟩
  · have hl1 : (1048576 : Int) < n := by omega
    go_enter Try.func5, Try.ntmps5
    go_wp2
    go_ret
    exact ⟨rfl, Below.refl _ _⟩
set_option maxRecDepth 100000 in
theorem lifted (os : Os) (started : os.Started) (H : Type) (enc : TypeId × Value → H) :
    ReturnsInHanded {} Try.checked os 5 .any (Rows.fnThumbOfSpec.pre6 enc Try.prog Try.f5 Rows.fnThumbOfRow.domain false) (Rows.fnThumbOfSpec.post enc Try.prog Try.f5 false true false false) := by
  refine returnsInHanded_of_change (C := Try.checked) own started (by kernel_rfl) Try.func5
    (ChangeSpec.witness6 (enc := enc) (C := Try.checked) false ⟨#[], #[.slice none 0 0], []⟩ 8 (by kernel_rfl) (by kernel_rfl) (by kernel_rfl) (by kernel_rfl)) ?_
  intro W base args ds gs before hval0 hW hcnd _
  have hval : ∀ (j : Nat) t v, Try.f5.params[j]? = some t → args[j]? = some v → Value.okWide Try.prog W .any base t v := hval0
  have hW' := hW
  obtain ⟨p, q, hA0, hV, rfl, hfz, hnd⟩ := hW
  have hA : DataW.TrodAll enc Try.prog W 0 (fun _ => true) true Try.f5.params.toList args.toList ds p := hA0
  rw [Try.params5] at hA hval
  obtain ⟨v0, vs0, d0, ds0, p0, q0, hargs, rfl, rfl, h0, r0⟩ := trodAll_cons hA
  obtain ⟨rfl, rfl, rfl⟩ := trodAll_nil r0
  obtain rfl : args = #[v0] := by cases args; simp_all
  obtain ⟨rfl, rfl⟩ := trodVars_none hV
  have k0 := h0
  have lt0 : ∀ x ∈ p0, x.block < W.heap.size := by obtain ⟨m, hm⟩ := k0; exact DataW.trod_lt m _ _ _ hm
  obtain ⟨a0, len0, cap0, rfl⟩ := okWide_slice Try.underlying22 (hval 0 22 v0 rfl rfl)
  obtain ⟨z0, wz0⟩ : ∃ zs, IsRow .u8 W a0 len0 cap0 zs := by
    obtain ⟨fuel, hf⟩ := h0
    rcases open_ints Try.underlying22 Try.underlying5 (by kernel_rfl) hf with ⟨hcs, _⟩ | ⟨x, l, c, zs, hcs, _, hl, hm, hz, _, hcell, hwz⟩
    · simp [Value.cells] at hcs
      obtain ⟨rfl, rfl, rfl⟩ := hcs
      exact ⟨[], .inl ⟨rfl, rfl, rfl, rfl⟩⟩
    · simp [Value.cells] at hcs
      obtain ⟨rfl, rfl, rfl⟩ := hcs
      exact ⟨zs, .inr ⟨_, rfl, hl, hm, by simpa using hz, hcell, hwz⟩⟩
  clear hA0 hval0
  refine (walk a0 len0 cap0 z0 W wz0).mono fun e W' ⟨he, bel⟩ => ?_
  subst he
  exact ⟨_, rfl, _, _, _, [], _, [], hW', trodAll_mk1 (shut_bool Try.underlying4 _), (trodAll_cons_mk (Below.trod laidOut (by kernel_rfl) (of_decide_eq_true (by kernel_rfl)) k0 bel lt0) trodAll_mk0), rfl, bel.frame _, fun h => by cases h⟩
theorem over : Rows.fnThumbOfRow.holds Try.pinned (OpenSpec.ofChange Rows.fnThumbOfSpec) :=
  OpenClaim.holds_of_wide 5 Try.f5 rfl rfl rfl rfl rfl rfl rfl ⟨rfl, rfl, rfl, rfl, rfl⟩ rfl rfl rfl rfl rfl (by kernel_rfl) Try.func5 (by kernel_rfl)
    (of_decide_eq_true (by kernel_rfl)) (by unfold Func.isWrapper; first | (rw [if_pos (by decide +kernel)]; kernel_rfl) | (rw [if_neg (by decide +kernel)]; exact ⟨rfl, rfl⟩))
    (fun os started H enc _ => lifted os started H enc)
theorem proved : Rows.FnThumbOfSaid := over
end Go.Proofs.Ytpbfbcdidkbjiad.lThumbOf
