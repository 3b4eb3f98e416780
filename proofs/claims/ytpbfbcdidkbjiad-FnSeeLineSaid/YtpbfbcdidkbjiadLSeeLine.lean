/- FnSeeLine: for every code the law returns true. No condition. -/
import Derived.Test.YtpbfbcdidkbjiadQ04
namespace Go.Proofs.Ytpbfbcdidkbjiad.lSeeLine
open Go.ChangeShapes Go.WideShapes Go.ChangeAt Go.RowKit Go.Joins
set_option linter.unusedVariables false
set_option maxHeartbeats 2000000
attribute [local go_sem 5000] run_mx run_mn
attribute [local go_sem] growUpon_value growUpon_skip growUpon_enter
theorem eqlV_same (a b d : Int) (w : World) : (binOp .eql 24 (.agg #[.int .i64 (a), .int .i64 (b), .int .i64 (d)]) (.agg #[.int .i64 (a), .int .i64 (b), .int .i64 (d)])).run Try.prog w = .ok (.bool true) w := by go_simp
theorem equalView_same (a b d : Int) (w : World) : Calls Try.prog 8 #[.agg #[.int .i64 (a), .int .i64 (b), .int .i64 (d)], .agg #[.int .i64 (a), .int .i64 (b), .int .i64 (d)]] w fun e w' => e = .returned (.bool true) ∧ Below w.heap.size w w' := by
  have hq := eqlV_same
  go_enter Try.func8, Try.ntmps8
  go_wp2
  go_ret
  exact ⟨ret_bool rfl, (by repeat (first | with_reducible exact Below.refl _ _ | with_reducible assumption | with_reducible refine balloc ?_ | (with_reducible refine bset ?_ ?_; rotate_left; ((try dsimp only); omega)) | refine bkeep2 ?_ (by assumption) | with_reducible refine Below.drew ?_))⟩
structure SW (a b d r P Q F : Int) : Prop where
  p : a = P
  q : b = Q
  f : seV a b d r = F
theorem SW.vf {a b r P Q F d : Int} (h : SW a b d r P Q F) (hv : vwB a b d = true) (h0 : 0 ≤ r) (h1 : r ≤ a - 1) : vwB P Q F = true := by rw [← h.f, ← h.p, ← h.q]; exact vwB_fr hv _
theorem SW.spec {a b r P Q F d : Int} (h : SW a b d r P Q F) (hv : vwB a b d = true) (h0 : 0 ≤ r) (h1 : r ≤ a - 1) : F ≤ r ∧ r < F + b ∧ (d ≤ r ∧ r < d + b → F = d) ∧ (¬ (d ≤ r ∧ r < d + b) → r = F ∨ r = F + b - 1) := by
  have hf := h.f
  have hv' := vwB_iff.1 hv
  have he := enV_spec a b
  rw [seV] at hf
  obtain ⟨n1, n2, n3⟩ := neV_spec (n := d) (a := r - b + 1) (b := r) (by omega)
  by_cases c1 : d < r - b + 1
  · rw [n1 c1, frV_self (by omega) (by omega)] at hf
    omega
  · by_cases c2 : r < d
    · rw [n2 c2, frV_self (by omega) (by omega)] at hf
      omega
    · rw [n3 (by omega) (by omega), frV_self (by omega) (by omega)] at hf
      omega
theorem both (a b d r : Int) : ∃ P Q F : Int, (∀ w, Calls Try.prog 12 #[.agg #[.int .i64 (a), .int .i64 (b), .int .i64 (d)], .int .i64 r] w fun e w' => e = .returned (.agg #[.int .i64 (P), .int .i64 (Q), .int .i64 (F)]) ∧ Below w.heap.size w w') ∧ (∀ w, Calls Try.prog 13 #[.agg #[.int .i64 (a), .int .i64 (b), .int .i64 (d)], .int .i64 r] w fun e w' => e = .returned (.agg #[.int .i64 (P), .int .i64 (Q), .int .i64 (F)]) ∧ Below w.heap.size w w') ∧ ((vwB a b d = false ∨ (vwB a b d = true ∧ r < 0) ∨ (vwB a b d = true ∧ ¬ r < 0 ∧ r ≥ a)) ∨ (vwB a b d = true ∧ rng r 0 (a - 1) = true ∧ SW a b d r P Q F)) := by
  cases h : vwB a b d
  · exact ⟨0, 0, 0, fun w => SeeLine_no a b d r w (.inl h), fun w => sSeeLine_no a b d r w (.inl h), .inl (.inl rfl)⟩
  cases h2 : rng r 0 (a - 1)
  · refine ⟨0, 0, 0, fun w => SeeLine_no a b d r w (.inr ⟨h, h2⟩), fun w => sSeeLine_no a b d r w (.inr ⟨h, h2⟩), .inl (.inr ?_)⟩
    rw [rng_not] at h2
    by_cases h3 : r < 0
    · exact .inl ⟨rfl, h3⟩
    · exact .inr ⟨rfl, h3, by omega⟩
  exact ⟨_, _, _, fun w => SeeLine_yes a b d r w h h2, fun w => sSeeLine_yes a b d r w h h2, .inr ⟨rfl, rfl, rfl, rfl, rfl⟩⟩
set_option maxRecDepth 100000 in
theorem walk (A : Option Addr) (n c : Nat) (z : List Int) (w : World) (wz : IsRow .u8 w A n c z) : Calls Try.prog 4 #[.slice A n c] w fun e w' => e = .returned (.bool true) ∧ Below w.heap.size w w' := by
  obtain ⟨hb, hn, hc⟩ := wz.bts
  clear wz
  by_cases hlen : n ≤ 1048576
  · have hl1 : ¬ (1048576 : Int) < n := by omega
    go_enter Try.func4, Try.ntmps4
    go_wp2_with fail
    with_reducible refine (DrawSeeLine_any A n c _ hb hn hc).mono ?_
    rintro e w1 ⟨⟨a, b, d, r, rfl⟩, hB⟩
    have HX := Lib.hid (newV w1 (.cells #[.int .i64 (a), .int .i64 (b), .int .i64 (d)] 24))
    have HB := Lib.hid (balloc (o := (.cells #[.int .i64 (a), .int .i64 (b), .int .i64 (d)] 24)) hB)
    clear hB hb hn hc
    obtain ⟨P, Q, F, hI, hS, hw⟩ := both a b d r
    have HI := Lib.hid hI
    have HS := Lib.hid hS
    clear hI hS
    obtain ⟨c0, c1, c2⟩ := c3V HX.out
    go_wp2_with fail
    with_reducible refine (HI.out _).mono ?_
    rintro e w2 ⟨rfl, hb⟩
    clear c0 c1 c2
    replace HX := Lib.hid ((hb.block _ (Array.getElem?_eq_some_iff.1 HX.out).1).trans HX.out)
    replace HB := Lib.hid (bkeep2 HB.out hb)
    clear hb
    have HY := Lib.hid (newV w2 (.cells #[.int .i64 (P), .int .i64 (Q), .int .i64 (F)] 24))
    have hb : Below w2.heap.size w2 (w2.alloc (.cells #[.int .i64 (P), .int .i64 (Q), .int .i64 (F)] 24)) := balloc (Below.refl _ _)
    replace HX := Lib.hid ((hb.block _ (Array.getElem?_eq_some_iff.1 HX.out).1).trans HX.out)
    replace HB := Lib.hid (bkeep2 HB.out hb)
    clear hb
    obtain ⟨c0, c1, c2⟩ := c3V HX.out
    obtain ⟨d0, d1, d2⟩ := c3V HY.out
    have hla := ltV HX.out
    have hlb := ltV HY.out
    rcases hw with hww | ⟨hv, hr, hPQ⟩
    · rcases hww with hv | ⟨hv, hr⟩ | ⟨hv, hr1, hr2⟩
      · go_wp2_with fail
        refine wp_region_grow 21 0 (· < 21) (by kernel_rfl) (by kernel_rfl) rfl ?_
        iterate 21 (refine wpG_step (fun K hK => ?_); first | (refine grow_skip rfl ?_; go_simp; refine hK _ ?_; clear hK K) | (apply Exists.intro; refine ⟨.inl ⟨rfl, fun w' hw' => ?_⟩, ?_⟩; (focus ((obtain ⟨hc, hf⟩ := bcell hw'.out); (have hcS := bcellS hw'.out); go_simp <;> first | rfl | (go_at_call 13; exact HS.out _) | (go_at_call 8; exact equalView_same _ _ _ _) | (go_at_call 10; exact ValidView_v a b d false _ hv))); (go_simp; refine hK _ ?_; clear hK K)))
        refine wpG_nil ?_
        refine wpK_tail (by kernel_rfl) (fun w8 hg8 => ?_)
        have hb8 := bdrewn hg8.out
        refine wpAny_end (by kernel_rfl) ?_
        refine NoPan.thn ?_
        clear hg8
        have hb := hb8
        clear hb8 c0 c1 c2 d0 d1 d2 hla hlb
        replace HX := Lib.hid ((hb.block _ (Array.getElem?_eq_some_iff.1 HX.out).1).trans HX.out)
        replace HY := Lib.hid ((hb.block _ (Array.getElem?_eq_some_iff.1 HY.out).1).trans HY.out)
        replace HB := Lib.hid (bkeep2 HB.out hb)
        clear hb
        obtain ⟨c0, c1, c2⟩ := c3V HX.out
        obtain ⟨d0, d1, d2⟩ := c3V HY.out
        have hla := ltV HX.out
        have hlb := ltV HY.out
        go_wp2_with fail
        refine wp_region_grow 6 0 (· < 6) (by kernel_rfl) (by kernel_rfl) rfl ?_
        iterate 6 (refine wpG_step (fun K hK => ?_); first | (refine grow_skip rfl ?_; go_simp; refine hK _ ?_; clear hK K) | (apply Exists.intro; refine ⟨.inl ⟨rfl, fun w' hw' => ?_⟩, ?_⟩; (focus ((obtain ⟨hc, hf⟩ := bcell hw'.out); (have hcS := bcellS hw'.out); go_simp <;> first | rfl | (go_at_call 13; exact HS.out _) | (go_at_call 8; exact equalView_same _ _ _ _))); (go_simp; refine hK _ ?_; clear hK K)))
        refine wpG_nil ?_
        refine wpK_tail (by kernel_rfl) (fun w9 hg9 => ?_)
        have hb9 := bdrewn hg9.out
        refine wpAny_end (by kernel_rfl) ?_
        refine NoPan.thn ?_
        clear hg9
        replace HB := Lib.hid (bkeep2 HB.out hb9)
        clear hb9
        go_wp2
        go_ret
        exact ⟨rfl, HB.out⟩
      · have hd1 : decide (r < 0) = true := by simpa using hr
        go_wp2_with fail
        refine wp_region_grow 21 0 (· < 21) (by kernel_rfl) (by kernel_rfl) rfl ?_
        iterate 21 (refine wpG_step (fun K hK => ?_); first | (refine grow_skip rfl ?_; go_simp; refine hK _ ?_; clear hK K) | (apply Exists.intro; refine ⟨.inl ⟨rfl, fun w' hw' => ?_⟩, ?_⟩; (focus ((obtain ⟨hc, hf⟩ := bcell hw'.out); (have hcS := bcellS hw'.out); go_simp <;> first | rfl | (go_at_call 13; exact HS.out _) | (go_at_call 8; exact equalView_same _ _ _ _) | (go_at_call 10; exact ValidView_v a b d true _ hv))); (go_simp; refine hK _ ?_; clear hK K)))
        refine wpG_nil ?_
        refine wpK_tail (by kernel_rfl) (fun w8 hg8 => ?_)
        have hb8 := bdrewn hg8.out
        refine wpAny_end (by kernel_rfl) ?_
        refine NoPan.thn ?_
        clear hg8
        have hb := hb8
        clear hb8 c0 c1 c2 d0 d1 d2 hla hlb
        replace HX := Lib.hid ((hb.block _ (Array.getElem?_eq_some_iff.1 HX.out).1).trans HX.out)
        replace HY := Lib.hid ((hb.block _ (Array.getElem?_eq_some_iff.1 HY.out).1).trans HY.out)
        replace HB := Lib.hid (bkeep2 HB.out hb)
        clear hb
        obtain ⟨c0, c1, c2⟩ := c3V HX.out
        obtain ⟨d0, d1, d2⟩ := c3V HY.out
        have hla := ltV HX.out
        have hlb := ltV HY.out
        go_wp2_with fail
        refine wp_region_grow 6 0 (· < 6) (by kernel_rfl) (by kernel_rfl) rfl ?_
        iterate 6 (refine wpG_step (fun K hK => ?_); first | (refine grow_skip rfl ?_; go_simp; refine hK _ ?_; clear hK K) | (apply Exists.intro; refine ⟨.inl ⟨rfl, fun w' hw' => ?_⟩, ?_⟩; (focus ((obtain ⟨hc, hf⟩ := bcell hw'.out); (have hcS := bcellS hw'.out); go_simp <;> first | rfl | (go_at_call 13; exact HS.out _) | (go_at_call 8; exact equalView_same _ _ _ _))); (go_simp; refine hK _ ?_; clear hK K)))
        refine wpG_nil ?_
        refine wpK_tail (by kernel_rfl) (fun w9 hg9 => ?_)
        have hb9 := bdrewn hg9.out
        refine wpAny_end (by kernel_rfl) ?_
        refine NoPan.thn ?_
        clear hg9
        replace HB := Lib.hid (bkeep2 HB.out hb9)
        clear hb9
        go_wp2
        go_ret
        exact ⟨rfl, HB.out⟩
      · have hd1 : decide (r < 0) = false := by simpa using hr1
        have hd2 : decide (r ≥ a) = true := by simpa using hr2
        go_wp2_with fail
        refine wp_region_grow 21 0 (· < 21) (by kernel_rfl) (by kernel_rfl) rfl ?_
        iterate 21 (refine wpG_step (fun K hK => ?_); first | (refine grow_skip rfl ?_; go_simp; refine hK _ ?_; clear hK K) | (apply Exists.intro; refine ⟨.inl ⟨rfl, fun w' hw' => ?_⟩, ?_⟩; (focus ((obtain ⟨hc, hf⟩ := bcell hw'.out); (have hcS := bcellS hw'.out); go_simp <;> first | rfl | (go_at_call 13; exact HS.out _) | (go_at_call 8; exact equalView_same _ _ _ _) | (go_at_call 10; exact ValidView_v a b d true _ hv))); (go_simp; refine hK _ ?_; clear hK K)))
        refine wpG_nil ?_
        refine wpK_tail (by kernel_rfl) (fun w8 hg8 => ?_)
        have hb8 := bdrewn hg8.out
        refine wpAny_end (by kernel_rfl) ?_
        refine NoPan.thn ?_
        clear hg8
        have hb := hb8
        clear hb8 c0 c1 c2 d0 d1 d2 hla hlb
        replace HX := Lib.hid ((hb.block _ (Array.getElem?_eq_some_iff.1 HX.out).1).trans HX.out)
        replace HY := Lib.hid ((hb.block _ (Array.getElem?_eq_some_iff.1 HY.out).1).trans HY.out)
        replace HB := Lib.hid (bkeep2 HB.out hb)
        clear hb
        obtain ⟨c0, c1, c2⟩ := c3V HX.out
        obtain ⟨d0, d1, d2⟩ := c3V HY.out
        have hla := ltV HX.out
        have hlb := ltV HY.out
        go_wp2_with fail
        refine wp_region_grow 6 0 (· < 6) (by kernel_rfl) (by kernel_rfl) rfl ?_
        iterate 6 (refine wpG_step (fun K hK => ?_); first | (refine grow_skip rfl ?_; go_simp; refine hK _ ?_; clear hK K) | (apply Exists.intro; refine ⟨.inl ⟨rfl, fun w' hw' => ?_⟩, ?_⟩; (focus ((obtain ⟨hc, hf⟩ := bcell hw'.out); (have hcS := bcellS hw'.out); go_simp <;> first | rfl | (go_at_call 13; exact HS.out _) | (go_at_call 8; exact equalView_same _ _ _ _))); (go_simp; refine hK _ ?_; clear hK K)))
        refine wpG_nil ?_
        refine wpK_tail (by kernel_rfl) (fun w9 hg9 => ?_)
        have hb9 := bdrewn hg9.out
        refine wpAny_end (by kernel_rfl) ?_
        refine NoPan.thn ?_
        clear hg9
        replace HB := Lib.hid (bkeep2 HB.out hb9)
        clear hb9
        go_wp2
        go_ret
        exact ⟨rfl, HB.out⟩
    · obtain ⟨hr1, hr2⟩ := rng_iff.1 hr
      have hvf := hPQ.vf hv hr1 hr2
      obtain ⟨hs1, hs2, hs3, hs4⟩ := hPQ.spec hv hr1 hr2
      obtain rfl := hPQ.p
      obtain rfl := hPQ.q
      have g1 := vwB_iff.1 hv
      have g2 := vwB_iff.1 hvf
      have hen := enV_spec a b
      obtain ⟨⟨g11, g12⟩, ⟨g13, g14⟩, g15, g16⟩ := g1
      obtain ⟨-, -, g25, g26⟩ := g2
      have gd : d ≤ 500 := by omega
      have gf : F ≤ 500 := by omega
      have hr3 : ¬ r < 0 := by omega
      have hr4 : ¬ r ≥ a := by omega
      have hd1 : decide (r < 0) = false := by simpa using hr3
      have hd2 : decide (r ≥ a) = false := by simpa using hr4
      have hd3 : decide (r < F) = false := by simp; omega
      have hd4 : decide (r ≥ F + b) = false := by simp; omega
      have wf : IntKind.i64.wrap (F + b) = F + b := IntWalk.i64_in _ (by omega)
      have wd : IntKind.i64.wrap (d + b) = d + b := IntWalk.i64_in _ (by omega)
      have H3 := Lib.hid hs3
      have H4 := Lib.hid hs4
      clear hPQ hs3 hs4 hen g16 g26
      go_wp2_with fail
      refine wp_region_grow 21 0 (· < 21) (by kernel_rfl) (by kernel_rfl) rfl ?_
      iterate 21 (refine wpG_step (fun K hK => ?_); first | (refine grow_skip rfl ?_; go_simp; refine hK _ ?_; clear hK K) | (apply Exists.intro; refine ⟨.inl ⟨rfl, fun w' hw' => ?_⟩, ?_⟩; (focus ((obtain ⟨hc, hf⟩ := bcell hw'.out); (have hcS := bcellS hw'.out); go_simp <;> first | rfl | (go_at_call 13; exact HS.out _) | (go_at_call 8; exact equalView_same _ _ _ _) | (go_at_call 10; exact ValidView_v a b d true _ hv))); (go_simp; refine hK _ ?_; clear hK K)))
      refine wpG_nil ?_
      refine wpK_tail (by kernel_rfl) (fun w8 hg8 => ?_)
      have hb8 := bdrewn hg8.out
      refine wpAny_end (by kernel_rfl) ?_
      refine NoPan.thn ?_
      clear hg8
      have hb := hb8
      clear hb8 c0 c1 c2 d0 d1 d2 hla hlb
      replace HX := Lib.hid ((hb.block _ (Array.getElem?_eq_some_iff.1 HX.out).1).trans HX.out)
      replace HY := Lib.hid ((hb.block _ (Array.getElem?_eq_some_iff.1 HY.out).1).trans HY.out)
      replace HB := Lib.hid (bkeep2 HB.out hb)
      clear hb
      obtain ⟨d0, d1, d2⟩ := c3V HY.out
      go_wp2_with fail
      with_reducible refine (ValidView_v a b F true _ hvf).mono ?_
      rintro e w9 ⟨rfl, hb⟩
      clear d0 d1 d2
      replace HX := Lib.hid ((hb.block _ (Array.getElem?_eq_some_iff.1 HX.out).1).trans HX.out)
      replace HY := Lib.hid ((hb.block _ (Array.getElem?_eq_some_iff.1 HY.out).1).trans HY.out)
      replace HB := Lib.hid (bkeep2 HB.out hb)
      clear hb
      obtain ⟨c0, c1, c2⟩ := c3V HX.out
      obtain ⟨d0, d1, d2⟩ := c3V HY.out
      by_cases q1 : r ≥ d
      · have p1 : decide (r ≥ d) = true := by simpa using q1
        by_cases q2 : r < d + b
        · have p2 : decide (r < d + b) = true := by simpa using q2
          obtain rfl : F = d := H3.out ⟨q1, q2⟩
          have hq := eqlV_same
          go_wp2
          go_ret
          exact ⟨ret_bool rfl, HB.out⟩
        · have p2 : decide (r < d + b) = false := by simpa using q2
          by_cases q3 : r = F
          · have p3 : (r == F) = true := by simpa using q3
            clear q3
            go_wp2
            go_ret
            exact ⟨ret_bool rfl, HB.out⟩
          · have p3 : (r == F) = false := by simpa using q3
            have p4 : (r == F + b - 1) = true := by have := H4.out (by omega); simp; omega
            go_wp2
            go_ret
            exact ⟨ret_bool rfl, HB.out⟩
      · have p1 : decide (r ≥ d) = false := by simpa using q1
        have q2 : ¬ (d ≤ r ∧ r < d + b) := by omega
        by_cases q3 : r = F
        · have p3 : (r == F) = true := by simpa using q3
          clear q3
          go_wp2
          go_ret
          exact ⟨ret_bool rfl, HB.out⟩
        · have p3 : (r == F) = false := by simpa using q3
          have p4 : (r == F + b - 1) = true := by have := H4.out (by omega); simp; omega
          go_wp2
          go_ret
          exact ⟨ret_bool rfl, HB.out⟩
  · have hl1 : (1048576 : Int) < n := by omega
    go_enter Try.func4, Try.ntmps4
    go_wp2
    go_ret
    exact ⟨rfl, Below.refl _ _⟩
set_option maxRecDepth 100000 in
theorem lifted (os : Os) (started : os.Started) (H : Type) (enc : TypeId × Value → H) :
    ReturnsInHanded {} Try.checked os 4 .any (Rows.fnSeeLineSpec.pre6 enc Try.prog Try.f4 Rows.fnSeeLineRow.domain false) (Rows.fnSeeLineSpec.post enc Try.prog Try.f4 false true false false) := by
  refine returnsInHanded_of_change (C := Try.checked) own started (by kernel_rfl) Try.func4
    (ChangeSpec.witness6 (enc := enc) (C := Try.checked) false ⟨#[], #[.slice none 0 0], []⟩ 8 (by kernel_rfl) (by kernel_rfl) (by kernel_rfl) (by kernel_rfl)) ?_
  intro W base args ds gs before hval0 hW hcnd _
  have hval : ∀ (j : Nat) t v, Try.f4.params[j]? = some t → args[j]? = some v → Value.okWide Try.prog W .any base t v := hval0
  have hW' := hW
  obtain ⟨p, q, hA0, hV, rfl, hfz, hnd⟩ := hW
  have hA : DataW.TrodAll enc Try.prog W 0 (fun _ => true) true Try.f4.params.toList args.toList ds p := hA0
  rw [Try.params4] at hA hval
  obtain ⟨v0, vs0, d0, ds0, p0, q0, hargs, rfl, rfl, h0, r0⟩ := trodAll_cons hA
  obtain ⟨rfl, rfl, rfl⟩ := trodAll_nil r0
  obtain rfl : args = #[v0] := by cases args; simp_all
  obtain ⟨rfl, rfl⟩ := trodVars_none hV
  have k0 := h0
  have lt0 : ∀ x ∈ p0, x.block < W.heap.size := by obtain ⟨m, hm⟩ := k0; exact DataW.trod_lt m _ _ _ hm
  obtain ⟨a0, len0, cap0, rfl⟩ := okWide_slice Try.underlying22 (hval 0 22 v0 rfl rfl)
  obtain ⟨z0, wz0⟩ : ∃ zs, IsRow .u8 W a0 len0 cap0 zs := by
    obtain ⟨fuel, hf⟩ := h0
    rcases open_ints Try.underlying22 Try.underlying5 (by kernel_rfl) hf with ⟨hcs, _⟩ | ⟨x, l, c, zs, hcs, _, hl, hm, hz, _, hcell, hwz⟩
    · simp [Value.cells] at hcs
      obtain ⟨rfl, rfl, rfl⟩ := hcs
      exact ⟨[], .inl ⟨rfl, rfl, rfl, rfl⟩⟩
    · simp [Value.cells] at hcs
      obtain ⟨rfl, rfl, rfl⟩ := hcs
      exact ⟨zs, .inr ⟨_, rfl, hl, hm, by simpa using hz, hcell, hwz⟩⟩
  clear hA0 hval0
  refine (walk a0 len0 cap0 z0 W wz0).mono fun e W' ⟨he, bel⟩ => ?_
  subst he
  exact ⟨_, rfl, _, _, _, [], _, [], hW', trodAll_mk1 (shut_bool Try.underlying4 _), (trodAll_cons_mk (Below.trod laidOut (by kernel_rfl) (of_decide_eq_true (by kernel_rfl)) k0 bel lt0) trodAll_mk0), rfl, bel.frame _, fun h => by cases h⟩
theorem over : Rows.fnSeeLineRow.holds Try.pinned (OpenSpec.ofChange Rows.fnSeeLineSpec) :=
  OpenClaim.holds_of_wide 4 Try.f4 rfl rfl rfl rfl rfl rfl rfl ⟨rfl, rfl, rfl, rfl, rfl⟩ rfl rfl rfl rfl rfl (by kernel_rfl) Try.func4 (by kernel_rfl)
    (of_decide_eq_true (by kernel_rfl)) (by unfold Func.isWrapper; first | (rw [if_pos (by decide +kernel)]; kernel_rfl) | (rw [if_neg (by decide +kernel)]; exact ⟨rfl, rfl⟩))
    (fun os started H enc _ => lifted os started H enc)
theorem proved : Rows.FnSeeLineSaid := over
end Go.Proofs.Ytpbfbcdidkbjiad.lSeeLine
