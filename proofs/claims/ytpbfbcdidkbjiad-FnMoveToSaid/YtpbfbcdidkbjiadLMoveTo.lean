/- FnMoveTo: for every code the law returns true. No condition. -/
import Derived.Test.YtpbfbcdidkbjiadQ04
namespace Go.Proofs.Ytpbfbcdidkbjiad.lMoveTo
open Go.ChangeShapes Go.WideShapes Go.ChangeAt Go.RowKit Go.Joins
set_option linter.unusedVariables false
set_option maxHeartbeats 2000000
attribute [local go_sem 5000] run_mx run_mn
attribute [local go_sem] growUpon_value growUpon_skip growUpon_enter
theorem eqlV_same (a b d : Int) (w : World) : (binOp .eql 24 (.agg #[.int .i64 (a), .int .i64 (b), .int .i64 (d)]) (.agg #[.int .i64 (a), .int .i64 (b), .int .i64 (d)])).run Try.prog w = .ok (.bool true) w := by go_simp
theorem equalView_same (a b d : Int) (w : World) : Calls Try.prog 8 #[.agg #[.int .i64 (a), .int .i64 (b), .int .i64 (d)], .agg #[.int .i64 (a), .int .i64 (b), .int .i64 (d)]] w fun e w' => e = .returned (.bool true) ∧ Below w.heap.size w w' := by
  have hq := eqlV_same
  go_enter Try.func8, Try.ntmps8
  go_wp2
  go_ret
  exact ⟨ret_bool rfl, (by repeat (first | with_reducible exact Below.refl _ _ | with_reducible assumption | with_reducible refine balloc ?_ | (with_reducible refine bset ?_ ?_; rotate_left; ((try dsimp only); omega)) | refine bkeep2 ?_ (by assumption) | with_reducible refine Below.drew ?_))⟩
structure MW (a b r P Q F : Int) : Prop where
  p : a = P
  q : b = Q
  f : frV a b (thV r a) = F
theorem MW.lo {a b r P Q F : Int} (h : MW a b r P Q F) : 0 ≤ F := by rw [← h.f]; exact (frV_spec a b (thV r a)).1
theorem MW.hi {a b r P Q F : Int} (h : MW a b r P Q F) : F ≤ enV P Q := by rw [← h.f, ← h.p, ← h.q]; exact (frV_spec a b (thV r a)).2.1
theorem MW.vf {a b r P Q F d : Int} (h : MW a b r P Q F) (hv : vwB a b d = true) : vwB P Q F = true := by rw [← h.f, ← h.p, ← h.q]; exact vwB_fr hv _
theorem both (a b d r : Int) : ∃ P Q F : Int, (∀ w, Calls Try.prog 7 #[.agg #[.int .i64 (a), .int .i64 (b), .int .i64 (d)], .int .i64 r] w fun e w' => e = .returned (.agg #[.int .i64 (P), .int .i64 (Q), .int .i64 (F)]) ∧ Below w.heap.size w w') ∧ (∀ w, Calls Try.prog 9 #[.agg #[.int .i64 (a), .int .i64 (b), .int .i64 (d)], .int .i64 r] w fun e w' => e = .returned (.agg #[.int .i64 (P), .int .i64 (Q), .int .i64 (F)]) ∧ Below w.heap.size w w') ∧ ((vwB a b d = false ∨ (vwB a b d = true ∧ r < 0) ∨ (vwB a b d = true ∧ ¬ r < 0 ∧ r > 1000)) ∨ (vwB a b d = true ∧ rng r 0 1000 = true ∧ MW a b r P Q F)) := by
  cases h : vwB a b d
  · exact ⟨0, 0, 0, fun w => MoveTo_no a b d r w (.inl h), fun w => sMoveTo_no a b d r w (.inl h), .inl (.inl rfl)⟩
  cases h2 : rng r 0 1000
  · refine ⟨0, 0, 0, fun w => MoveTo_no a b d r w (.inr ⟨h, h2⟩), fun w => sMoveTo_no a b d r w (.inr ⟨h, h2⟩), .inl (.inr ?_)⟩
    rw [rng_not] at h2
    by_cases h3 : r < 0
    · exact .inl ⟨rfl, h3⟩
    · exact .inr ⟨rfl, h3, by omega⟩
  exact ⟨_, _, _, fun w => MoveTo_yes a b d r w h h2, fun w => sMoveTo_yes a b d r w h h2, .inr ⟨rfl, rfl, rfl, rfl, rfl⟩⟩
theorem low (a b d : Int) (w : World) (hv : vwB a b d = true) : Calls Try.prog 7 #[.agg #[.int .i64 (a), .int .i64 (b), .int .i64 (d)], .int .i64 0] w fun e w' => e = .returned (.agg #[.int .i64 (a), .int .i64 (b), .int .i64 (0)]) ∧ Below w.heap.size w w' := by
  have h := MoveTo_yes a b d 0 w hv (by decide)
  have e1 : frV a b (thV 0 a) = 0 := by
    have he := enV_spec a b
    exact frV_uniq (Int.le_refl _) (by omega) (.inl (by simp [thV]))
  rw [e1] at h
  exact h
theorem high (a b d : Int) (w : World) (hv : vwB a b d = true) : Calls Try.prog 7 #[.agg #[.int .i64 (a), .int .i64 (b), .int .i64 (d)], .int .i64 1000] w fun e w' => e = .returned (.agg #[.int .i64 (a), .int .i64 (b), .int .i64 (enV a b)]) ∧ Below w.heap.size w w' := by
  have h := MoveTo_yes a b d 1000 w hv (by decide)
  have e0 : thV 1000 a = a := by rw [thV]; exact Int.mul_ediv_cancel_left _ (by omega)
  have e1 : frV a b (thV 1000 a) = enV a b := by
    have he := enV_spec a b
    have hv' := vwB_iff.1 hv
    rw [e0]
    exact frV_uniq (by omega) (Int.le_refl _) (.inr (.inr ⟨rfl, by omega⟩))
  rw [e1] at h
  exact h
set_option maxRecDepth 100000 in
theorem walk (A : Option Addr) (n c : Nat) (z : List Int) (w : World) (wz : IsRow .u8 w A n c z) : Calls Try.prog 3 #[.slice A n c] w fun e w' => e = .returned (.bool true) ∧ Below w.heap.size w w' := by
  obtain ⟨hb, hn, hc⟩ := wz.bts
  clear wz
  by_cases hlen : n ≤ 1048576
  · have hl1 : ¬ (1048576 : Int) < n := by omega
    go_enter Try.func3, Try.ntmps3
    go_wp2_with fail
    with_reducible refine (DrawMoveTo_any A n c _ hb hn hc).mono ?_
    rintro e w1 ⟨⟨a, b, d, r, rfl⟩, hB⟩
    have HX := Lib.hid (newV w1 (.cells #[.int .i64 (a), .int .i64 (b), .int .i64 (d)] 24))
    have HB := Lib.hid (balloc (o := (.cells #[.int .i64 (a), .int .i64 (b), .int .i64 (d)] 24)) hB)
    clear hB hb hn hc
    obtain ⟨P, Q, F, hI, hS, hw⟩ := both a b d r
    have HI := Lib.hid hI
    have HS := Lib.hid hS
    clear hI hS
    obtain ⟨c0, c1, c2⟩ := c3V HX.out
    go_wp2_with fail
    with_reducible refine (HI.out _).mono ?_
    rintro e w2 ⟨rfl, hb⟩
    clear c0 c1 c2
    replace HX := Lib.hid ((hb.block _ (Array.getElem?_eq_some_iff.1 HX.out).1).trans HX.out)
    replace HB := Lib.hid (bkeep2 HB.out hb)
    clear hb
    have HY := Lib.hid (newV w2 (.cells #[.int .i64 (P), .int .i64 (Q), .int .i64 (F)] 24))
    have hb : Below w2.heap.size w2 (w2.alloc (.cells #[.int .i64 (P), .int .i64 (Q), .int .i64 (F)] 24)) := balloc (Below.refl _ _)
    replace HX := Lib.hid ((hb.block _ (Array.getElem?_eq_some_iff.1 HX.out).1).trans HX.out)
    replace HB := Lib.hid (bkeep2 HB.out hb)
    clear hb
    obtain ⟨c0, c1, c2⟩ := c3V HX.out
    obtain ⟨d0, d1, d2⟩ := c3V HY.out
    have hla := ltV HX.out
    have hlb := ltV HY.out
    rcases hw with hww | ⟨hv, hr, hPQ⟩
    · rcases hww with hv | ⟨hv, hr⟩ | ⟨hv, hr1, hr2⟩
      · go_wp2_with fail
        refine wp_region_grow 19 0 (· < 19) (by kernel_rfl) (by kernel_rfl) rfl ?_
        iterate 19 (refine wpG_step (fun K hK => ?_); first | (refine grow_skip rfl ?_; go_simp; refine hK _ ?_; clear hK K) | (apply Exists.intro; refine ⟨.inl ⟨rfl, fun w' hw' => ?_⟩, ?_⟩; (focus ((obtain ⟨hc, hf⟩ := bcell hw'.out); (have hcS := bcellS hw'.out); go_simp <;> first | rfl | (go_at_call 9; exact HS.out _) | (go_at_call 8; exact equalView_same _ _ _ _) | (go_at_call 10; exact ValidView_v a b d false _ hv))); (go_simp; refine hK _ ?_; clear hK K)))
        refine wpG_nil ?_
        refine wpK_tail (by kernel_rfl) (fun w8 hg8 => ?_)
        have hb8 := bdrewn hg8.out
        refine wpAny_end (by kernel_rfl) ?_
        refine NoPan.thn ?_
        clear hg8
        have hb := hb8
        clear hb8 c0 c1 c2 d0 d1 d2 hla hlb
        replace HX := Lib.hid ((hb.block _ (Array.getElem?_eq_some_iff.1 HX.out).1).trans HX.out)
        replace HY := Lib.hid ((hb.block _ (Array.getElem?_eq_some_iff.1 HY.out).1).trans HY.out)
        replace HB := Lib.hid (bkeep2 HB.out hb)
        clear hb
        obtain ⟨c0, c1, c2⟩ := c3V HX.out
        obtain ⟨d0, d1, d2⟩ := c3V HY.out
        have hla := ltV HX.out
        have hlb := ltV HY.out
        go_wp2_with fail
        refine wp_region_grow 6 0 (· < 6) (by kernel_rfl) (by kernel_rfl) rfl ?_
        iterate 6 (refine wpG_step (fun K hK => ?_); first | (refine grow_skip rfl ?_; go_simp; refine hK _ ?_; clear hK K) | (apply Exists.intro; refine ⟨.inl ⟨rfl, fun w' hw' => ?_⟩, ?_⟩; (focus ((obtain ⟨hc, hf⟩ := bcell hw'.out); (have hcS := bcellS hw'.out); go_simp <;> first | rfl | (go_at_call 9; exact HS.out _) | (go_at_call 8; exact equalView_same _ _ _ _))); (go_simp; refine hK _ ?_; clear hK K)))
        refine wpG_nil ?_
        refine wpK_tail (by kernel_rfl) (fun w9 hg9 => ?_)
        have hb9 := bdrewn hg9.out
        refine wpAny_end (by kernel_rfl) ?_
        refine NoPan.thn ?_
        clear hg9
        replace HB := Lib.hid (bkeep2 HB.out hb9)
        clear hb9
        go_wp2
        go_ret
        exact ⟨rfl, HB.out⟩
      · have hd1 : decide (r < 0) = true := by simpa using hr
        go_wp2_with fail
        refine wp_region_grow 19 0 (· < 19) (by kernel_rfl) (by kernel_rfl) rfl ?_
        iterate 19 (refine wpG_step (fun K hK => ?_); first | (refine grow_skip rfl ?_; go_simp; refine hK _ ?_; clear hK K) | (apply Exists.intro; refine ⟨.inl ⟨rfl, fun w' hw' => ?_⟩, ?_⟩; (focus ((obtain ⟨hc, hf⟩ := bcell hw'.out); (have hcS := bcellS hw'.out); go_simp <;> first | rfl | (go_at_call 9; exact HS.out _) | (go_at_call 8; exact equalView_same _ _ _ _) | (go_at_call 10; exact ValidView_v a b d true _ hv))); (go_simp; refine hK _ ?_; clear hK K)))
        refine wpG_nil ?_
        refine wpK_tail (by kernel_rfl) (fun w8 hg8 => ?_)
        have hb8 := bdrewn hg8.out
        refine wpAny_end (by kernel_rfl) ?_
        refine NoPan.thn ?_
        clear hg8
        have hb := hb8
        clear hb8 c0 c1 c2 d0 d1 d2 hla hlb
        replace HX := Lib.hid ((hb.block _ (Array.getElem?_eq_some_iff.1 HX.out).1).trans HX.out)
        replace HY := Lib.hid ((hb.block _ (Array.getElem?_eq_some_iff.1 HY.out).1).trans HY.out)
        replace HB := Lib.hid (bkeep2 HB.out hb)
        clear hb
        obtain ⟨c0, c1, c2⟩ := c3V HX.out
        obtain ⟨d0, d1, d2⟩ := c3V HY.out
        have hla := ltV HX.out
        have hlb := ltV HY.out
        go_wp2_with fail
        refine wp_region_grow 6 0 (· < 6) (by kernel_rfl) (by kernel_rfl) rfl ?_
        iterate 6 (refine wpG_step (fun K hK => ?_); first | (refine grow_skip rfl ?_; go_simp; refine hK _ ?_; clear hK K) | (apply Exists.intro; refine ⟨.inl ⟨rfl, fun w' hw' => ?_⟩, ?_⟩; (focus ((obtain ⟨hc, hf⟩ := bcell hw'.out); (have hcS := bcellS hw'.out); go_simp <;> first | rfl | (go_at_call 9; exact HS.out _) | (go_at_call 8; exact equalView_same _ _ _ _))); (go_simp; refine hK _ ?_; clear hK K)))
        refine wpG_nil ?_
        refine wpK_tail (by kernel_rfl) (fun w9 hg9 => ?_)
        have hb9 := bdrewn hg9.out
        refine wpAny_end (by kernel_rfl) ?_
        refine NoPan.thn ?_
        clear hg9
        replace HB := Lib.hid (bkeep2 HB.out hb9)
        clear hb9
        go_wp2
        go_ret
        exact ⟨rfl, HB.out⟩
      · have hd1 : decide (r < 0) = false := by simpa using hr1
        have hd2 : decide (r > 1000) = true := by simpa using hr2
        go_wp2_with fail
        refine wp_region_grow 19 0 (· < 19) (by kernel_rfl) (by kernel_rfl) rfl ?_
        iterate 19 (refine wpG_step (fun K hK => ?_); first | (refine grow_skip rfl ?_; go_simp; refine hK _ ?_; clear hK K) | (apply Exists.intro; refine ⟨.inl ⟨rfl, fun w' hw' => ?_⟩, ?_⟩; (focus ((obtain ⟨hc, hf⟩ := bcell hw'.out); (have hcS := bcellS hw'.out); go_simp <;> first | rfl | (go_at_call 9; exact HS.out _) | (go_at_call 8; exact equalView_same _ _ _ _) | (go_at_call 10; exact ValidView_v a b d true _ hv))); (go_simp; refine hK _ ?_; clear hK K)))
        refine wpG_nil ?_
        refine wpK_tail (by kernel_rfl) (fun w8 hg8 => ?_)
        have hb8 := bdrewn hg8.out
        refine wpAny_end (by kernel_rfl) ?_
        refine NoPan.thn ?_
        clear hg8
        have hb := hb8
        clear hb8 c0 c1 c2 d0 d1 d2 hla hlb
        replace HX := Lib.hid ((hb.block _ (Array.getElem?_eq_some_iff.1 HX.out).1).trans HX.out)
        replace HY := Lib.hid ((hb.block _ (Array.getElem?_eq_some_iff.1 HY.out).1).trans HY.out)
        replace HB := Lib.hid (bkeep2 HB.out hb)
        clear hb
        obtain ⟨c0, c1, c2⟩ := c3V HX.out
        obtain ⟨d0, d1, d2⟩ := c3V HY.out
        have hla := ltV HX.out
        have hlb := ltV HY.out
        go_wp2_with fail
        refine wp_region_grow 6 0 (· < 6) (by kernel_rfl) (by kernel_rfl) rfl ?_
        iterate 6 (refine wpG_step (fun K hK => ?_); first | (refine grow_skip rfl ?_; go_simp; refine hK _ ?_; clear hK K) | (apply Exists.intro; refine ⟨.inl ⟨rfl, fun w' hw' => ?_⟩, ?_⟩; (focus ((obtain ⟨hc, hf⟩ := bcell hw'.out); (have hcS := bcellS hw'.out); go_simp <;> first | rfl | (go_at_call 9; exact HS.out _) | (go_at_call 8; exact equalView_same _ _ _ _))); (go_simp; refine hK _ ?_; clear hK K)))
        refine wpG_nil ?_
        refine wpK_tail (by kernel_rfl) (fun w9 hg9 => ?_)
        have hb9 := bdrewn hg9.out
        refine wpAny_end (by kernel_rfl) ?_
        refine NoPan.thn ?_
        clear hg9
        replace HB := Lib.hid (bkeep2 HB.out hb9)
        clear hb9
        go_wp2
        go_ret
        exact ⟨rfl, HB.out⟩
    · obtain ⟨hr1, hr2⟩ := rng_iff.1 hr
      have hvf := hPQ.vf hv
      have HL := Lib.hid (fun w => low a b d w hv)
      have HH := Lib.hid (fun w => high a b d w hv)
      have hF1 := hPQ.lo
      have hF2 := hPQ.hi
      obtain rfl := hPQ.p
      obtain rfl := hPQ.q
      clear hPQ
      have g1 := vwB_iff.1 hv
      obtain ⟨⟨g11, g12⟩, ⟨g13, g14⟩, g15, g16⟩ := g1
      have hen2 : mx 0 (a - b) = enV a b := mx_comm _ _
      obtain ⟨E, hE⟩ : ∃ E, enV a b = E := ⟨_, rfl⟩
      rw [hE] at hen2 hF2 HH
      have hr3 : ¬ r < 0 := by omega
      have hr4 : ¬ r > 1000 := by omega
      have hd1 : decide (r < 0) = false := by simpa using hr3
      have hd2 : decide (r > 1000) = false := by simpa using hr4
      have hd3 : decide (0 ≤ F) = true := by simpa using hF1
      have hd4 : decide (F ≤ E) = true := by simpa using hF2
      clear hE g15 g16
      go_wp2_with fail
      refine wp_region_grow 19 0 (· < 19) (by kernel_rfl) (by kernel_rfl) rfl ?_
      iterate 19 (refine wpG_step (fun K hK => ?_); first | (refine grow_skip rfl ?_; go_simp; refine hK _ ?_; clear hK K) | (apply Exists.intro; refine ⟨.inl ⟨rfl, fun w' hw' => ?_⟩, ?_⟩; (focus ((obtain ⟨hc, hf⟩ := bcell hw'.out); (have hcS := bcellS hw'.out); go_simp <;> first | rfl | (go_at_call 9; exact HS.out _) | (go_at_call 8; exact equalView_same _ _ _ _) | (go_at_call 10; exact ValidView_v a b d true _ hv))); (go_simp; refine hK _ ?_; clear hK K)))
      refine wpG_nil ?_
      refine wpK_tail (by kernel_rfl) (fun w8 hg8 => ?_)
      have hb8 := bdrewn hg8.out
      refine wpAny_end (by kernel_rfl) ?_
      refine NoPan.thn ?_
      clear hg8
      have hb := hb8
      clear hb8 c0 c1 c2 d0 d1 d2 hla hlb
      replace HX := Lib.hid ((hb.block _ (Array.getElem?_eq_some_iff.1 HX.out).1).trans HX.out)
      replace HY := Lib.hid ((hb.block _ (Array.getElem?_eq_some_iff.1 HY.out).1).trans HY.out)
      replace HB := Lib.hid (bkeep2 HB.out hb)
      clear hb
      obtain ⟨c0, c1, c2⟩ := c3V HX.out
      go_wp2_with fail
      with_reducible refine (HL.out _).mono ?_
      rintro e w5 ⟨rfl, hb⟩
      clear c0 c1 c2
      replace HX := Lib.hid ((hb.block _ (Array.getElem?_eq_some_iff.1 HX.out).1).trans HX.out)
      replace HY := Lib.hid ((hb.block _ (Array.getElem?_eq_some_iff.1 HY.out).1).trans HY.out)
      replace HB := Lib.hid (bkeep2 HB.out hb)
      clear hb
      have HZ := Lib.hid (newV w5 (.cells #[.int .i64 (a), .int .i64 (b), .int .i64 (0)] 24))
      have hb : Below w5.heap.size w5 (w5.alloc (.cells #[.int .i64 (a), .int .i64 (b), .int .i64 (0)] 24)) := balloc (Below.refl _ _)
      replace HX := Lib.hid ((hb.block _ (Array.getElem?_eq_some_iff.1 HX.out).1).trans HX.out)
      replace HY := Lib.hid ((hb.block _ (Array.getElem?_eq_some_iff.1 HY.out).1).trans HY.out)
      replace HB := Lib.hid (bkeep2 HB.out hb)
      clear hb
      obtain ⟨c0, c1, c2⟩ := c3V HX.out
      go_wp2_with fail
      with_reducible refine (HH.out _).mono ?_
      rintro e w6 ⟨rfl, hb⟩
      clear c0 c1 c2
      replace HX := Lib.hid ((hb.block _ (Array.getElem?_eq_some_iff.1 HX.out).1).trans HX.out)
      replace HY := Lib.hid ((hb.block _ (Array.getElem?_eq_some_iff.1 HY.out).1).trans HY.out)
      replace HZ := Lib.hid ((hb.block _ (Array.getElem?_eq_some_iff.1 HZ.out).1).trans HZ.out)
      replace HB := Lib.hid (bkeep2 HB.out hb)
      clear hb
      have HU := Lib.hid (newV w6 (.cells #[.int .i64 (a), .int .i64 (b), .int .i64 (E)] 24))
      have hb : Below w6.heap.size w6 (w6.alloc (.cells #[.int .i64 (a), .int .i64 (b), .int .i64 (E)] 24)) := balloc (Below.refl _ _)
      replace HX := Lib.hid ((hb.block _ (Array.getElem?_eq_some_iff.1 HX.out).1).trans HX.out)
      replace HY := Lib.hid ((hb.block _ (Array.getElem?_eq_some_iff.1 HY.out).1).trans HY.out)
      replace HZ := Lib.hid ((hb.block _ (Array.getElem?_eq_some_iff.1 HZ.out).1).trans HZ.out)
      replace HB := Lib.hid (bkeep2 HB.out hb)
      clear hb
      obtain ⟨d0, d1, d2⟩ := c3V HY.out
      go_wp2_with fail
      with_reducible refine (ValidView_v a b F true _ hvf).mono ?_
      rintro e w7 ⟨rfl, hb⟩
      clear d0 d1 d2
      replace HX := Lib.hid ((hb.block _ (Array.getElem?_eq_some_iff.1 HX.out).1).trans HX.out)
      replace HY := Lib.hid ((hb.block _ (Array.getElem?_eq_some_iff.1 HY.out).1).trans HY.out)
      replace HZ := Lib.hid ((hb.block _ (Array.getElem?_eq_some_iff.1 HZ.out).1).trans HZ.out)
      replace HU := Lib.hid ((hb.block _ (Array.getElem?_eq_some_iff.1 HU.out).1).trans HU.out)
      replace HB := Lib.hid (bkeep2 HB.out hb)
      clear hb
      obtain ⟨c0, c1, c2⟩ := c3V HX.out
      obtain ⟨d0, d1, d2⟩ := c3V HY.out
      obtain ⟨e0, e1, e2⟩ := c3V HZ.out
      obtain ⟨f0, f1, f2⟩ := c3V HU.out
      go_wp2
      go_ret
      exact ⟨rfl, HB.out⟩
  · have hl1 : (1048576 : Int) < n := by omega
    go_enter Try.func3, Try.ntmps3
    go_wp2
    go_ret
    exact ⟨rfl, Below.refl _ _⟩
set_option maxRecDepth 100000 in
theorem lifted (os : Os) (started : os.Started) (H : Type) (enc : TypeId × Value → H) :
    ReturnsInHanded {} Try.checked os 3 .any (Rows.fnMoveToSpec.pre6 enc Try.prog Try.f3 Rows.fnMoveToRow.domain false) (Rows.fnMoveToSpec.post enc Try.prog Try.f3 false true false false) := by
  refine returnsInHanded_of_change (C := Try.checked) own started (by kernel_rfl) Try.func3
    (ChangeSpec.witness6 (enc := enc) (C := Try.checked) false ⟨#[], #[.slice none 0 0], []⟩ 8 (by kernel_rfl) (by kernel_rfl) (by kernel_rfl) (by kernel_rfl)) ?_
  intro W base args ds gs before hval0 hW hcnd _
  have hval : ∀ (j : Nat) t v, Try.f3.params[j]? = some t → args[j]? = some v → Value.okWide Try.prog W .any base t v := hval0
  have hW' := hW
  obtain ⟨p, q, hA0, hV, rfl, hfz, hnd⟩ := hW
  have hA : DataW.TrodAll enc Try.prog W 0 (fun _ => true) true Try.f3.params.toList args.toList ds p := hA0
  rw [Try.params3] at hA hval
  obtain ⟨v0, vs0, d0, ds0, p0, q0, hargs, rfl, rfl, h0, r0⟩ := trodAll_cons hA
  obtain ⟨rfl, rfl, rfl⟩ := trodAll_nil r0
  obtain rfl : args = #[v0] := by cases args; simp_all
  obtain ⟨rfl, rfl⟩ := trodVars_none hV
  have k0 := h0
  have lt0 : ∀ x ∈ p0, x.block < W.heap.size := by obtain ⟨m, hm⟩ := k0; exact DataW.trod_lt m _ _ _ hm
  obtain ⟨a0, len0, cap0, rfl⟩ := okWide_slice Try.underlying22 (hval 0 22 v0 rfl rfl)
  obtain ⟨z0, wz0⟩ : ∃ zs, IsRow .u8 W a0 len0 cap0 zs := by
    obtain ⟨fuel, hf⟩ := h0
    rcases open_ints Try.underlying22 Try.underlying5 (by kernel_rfl) hf with ⟨hcs, _⟩ | ⟨x, l, c, zs, hcs, _, hl, hm, hz, _, hcell, hwz⟩
    · simp [Value.cells] at hcs
      obtain ⟨rfl, rfl, rfl⟩ := hcs
      exact ⟨[], .inl ⟨rfl, rfl, rfl, rfl⟩⟩
    · simp [Value.cells] at hcs
      obtain ⟨rfl, rfl, rfl⟩ := hcs
      exact ⟨zs, .inr ⟨_, rfl, hl, hm, by simpa using hz, hcell, hwz⟩⟩
  clear hA0 hval0
  refine (walk a0 len0 cap0 z0 W wz0).mono fun e W' ⟨he, bel⟩ => ?_
  subst he
  exact ⟨_, rfl, _, _, _, [], _, [], hW', trodAll_mk1 (shut_bool Try.underlying4 _), (trodAll_cons_mk (Below.trod laidOut (by kernel_rfl) (of_decide_eq_true (by kernel_rfl)) k0 bel lt0) trodAll_mk0), rfl, bel.frame _, fun h => by cases h⟩
theorem over : Rows.fnMoveToRow.holds Try.pinned (OpenSpec.ofChange Rows.fnMoveToSpec) :=
  OpenClaim.holds_of_wide 3 Try.f3 rfl rfl rfl rfl rfl rfl rfl ⟨rfl, rfl, rfl, rfl, rfl⟩ rfl rfl rfl rfl rfl (by kernel_rfl) Try.func3 (by kernel_rfl)
    (of_decide_eq_true (by kernel_rfl)) (by unfold Func.isWrapper; first | (rw [if_pos (by decide +kernel)]; kernel_rfl) | (rw [if_neg (by decide +kernel)]; exact ⟨rfl, rfl⟩))
    (fun os started H enc _ => lifted os started H enc)
theorem proved : Rows.FnMoveToSaid := over
end Go.Proofs.Ytpbfbcdidkbjiad.lMoveTo
