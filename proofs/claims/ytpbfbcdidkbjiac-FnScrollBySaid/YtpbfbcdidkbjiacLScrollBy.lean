/- FnScrollBy: for every code the law returns true. No condition. -/
import Derived.Test.YtpbfbcdidkbjiacQ03
namespace Go.Proofs.Ytpbfbcdidkbjiac.lScrollBy
open Go.ChangeShapes Go.WideShapes Go.ChangeAt Go.RowKit Go.Joins
set_option linter.unusedVariables false
set_option maxHeartbeats 2000000
attribute [local go_sem 5000] run_mx run_mn
attribute [local go_sem] growUpon_value growUpon_skip growUpon_enter
theorem eqlV_same (a b d : Int) (w : World) : (binOp .eql 37 (.agg #[.int .i64 (a), .int .i64 (b), .int .i64 (d)]) (.agg #[.int .i64 (a), .int .i64 (b), .int .i64 (d)])).run Try.prog w = .ok (.bool true) w := by go_simp
theorem equalView_same (a b d : Int) (w : World) : Calls Try.prog 23 #[.agg #[.int .i64 (a), .int .i64 (b), .int .i64 (d)], .agg #[.int .i64 (a), .int .i64 (b), .int .i64 (d)]] w fun e w' => e = .returned (.bool true) ∧ Below w.heap.size w w' := by
  have hq := eqlV_same
  go_enter Try.func23, Try.ntmps23
  go_wp2
  go_ret
  exact ⟨ret_bool rfl, (by repeat (first | with_reducible exact Below.refl _ _ | with_reducible assumption | with_reducible refine balloc ?_ | (with_reducible refine bset ?_ ?_; rotate_left; ((try dsimp only); omega)) | refine bkeep2 ?_ (by assumption) | with_reducible refine Below.drew ?_))⟩
theorem both (a b d r : Int) : ∃ P Q F : Int, (∀ w, Calls Try.prog 21 #[.agg #[.int .i64 (a), .int .i64 (b), .int .i64 (d)], .int .i64 r] w fun e w' => e = .returned (.agg #[.int .i64 (P), .int .i64 (Q), .int .i64 (F)]) ∧ Below w.heap.size w w') ∧ (∀ w, Calls Try.prog 24 #[.agg #[.int .i64 (a), .int .i64 (b), .int .i64 (d)], .int .i64 r] w fun e w' => e = .returned (.agg #[.int .i64 (P), .int .i64 (Q), .int .i64 (F)]) ∧ Below w.heap.size w w') ∧
    ((True ∧ (vwB a b d = false ∨ (vwB a b d = true ∧ r < -500) ∨ (vwB a b d = true ∧ ¬ r < -500 ∧ r > 500))) ∨ (vwB a b d = true ∧ rng r (-500) 500 = true ∧ a = P ∧ b = Q ∧ frV a b (d + r) = F)) := by
  cases h : vwB a b d
  · exact ⟨0, 0, 0, fun w => ScrollBy_no a b d r w (.inl h), fun w => sScrollBy_no a b d r w (.inl h), .inl ⟨trivial, .inl rfl⟩⟩
  cases h2 : rng r (-500) 500
  · refine ⟨0, 0, 0, fun w => ScrollBy_no a b d r w (.inr ⟨h, h2⟩), fun w => sScrollBy_no a b d r w (.inr ⟨h, h2⟩), .inl ⟨trivial, .inr ?_⟩⟩
    rw [rng_not] at h2
    by_cases h3 : r < -500
    · exact .inl ⟨rfl, h3⟩
    · exact .inr ⟨rfl, h3, by omega⟩
  exact ⟨_, _, _, fun w => ScrollBy_yes a b d r w h h2, fun w => sScrollBy_yes a b d r w h h2, .inr ⟨rfl, rfl, rfl, rfl, rfl⟩⟩
set_option maxRecDepth 100000 in
theorem walk (A : Option Addr) (n c : Nat) (z : List Int) (w : World) (wz : IsRow .u8 w A n c z) : Calls Try.prog 7 #[.slice A n c] w fun e w' => e = .returned (.bool true) ∧ Below w.heap.size w w' := by
  obtain ⟨hb, hn, hc⟩ := wz.bts
  clear wz
  by_cases hlen : n ≤ 1048576
  · have hl1 : ¬ (1048576 : Int) < n := by omega
    go_enter Try.func7, Try.ntmps7
    go_wp2_with fail
    with_reducible refine (DrawScrollBy_any A n c _ hb hn hc).mono ?_
    rintro e w1 ⟨⟨a, b, d, r, rfl⟩, hB⟩
    have HX := Lib.hid (newV w1 (.cells #[.int .i64 (a), .int .i64 (b), .int .i64 (d)] 37))
    have HB := Lib.hid (balloc (o := (.cells #[.int .i64 (a), .int .i64 (b), .int .i64 (d)] 37)) hB)
    clear hB hb hn hc
    obtain ⟨P, Q, F, hI, hS, hw⟩ := both a b d r
    have HI := Lib.hid hI
    have HS := Lib.hid hS
    clear hI hS
    obtain ⟨c0, c1, c2⟩ := c3V HX.out
    go_wp2_with fail
    with_reducible refine (HI.out _).mono ?_
    rintro e w2 ⟨rfl, hb⟩
    clear c0 c1 c2
    replace HX := Lib.hid ((hb.block _ (Array.getElem?_eq_some_iff.1 HX.out).1).trans HX.out)
    replace HB := Lib.hid (bkeep2 HB.out hb)
    clear hb
    have HY := Lib.hid (newV w2 (.cells #[.int .i64 (P), .int .i64 (Q), .int .i64 (F)] 37))
    have hb : Below w2.heap.size w2 (w2.alloc (.cells #[.int .i64 (P), .int .i64 (Q), .int .i64 (F)] 37)) := balloc (Below.refl _ _)
    replace HX := Lib.hid ((hb.block _ (Array.getElem?_eq_some_iff.1 HX.out).1).trans HX.out)
    replace HB := Lib.hid (bkeep2 HB.out hb)
    clear hb
    obtain ⟨c0, c1, c2⟩ := c3V HX.out
    obtain ⟨d0, d1, d2⟩ := c3V HY.out
    have hla := ltV HX.out
    have hlb := ltV HY.out
    rcases hw with ⟨hw, hww⟩ | ⟨hv, hr, rfl, rfl, rfl⟩
    · rcases hww with hv | ⟨hv, hr⟩ | ⟨hv, hr1, hr2⟩
      · go_wp2_with fail
        refine wp_region_grow 19 0 (· < 19) (by kernel_rfl) (by kernel_rfl) rfl ?_
        iterate 19 (refine wpG_step (fun K hK => ?_); first | (refine grow_skip rfl ?_; go_simp; refine hK _ ?_; clear hK K) | (apply Exists.intro; refine ⟨.inl ⟨rfl, fun w' hw' => ?_⟩, ?_⟩; (focus ((obtain ⟨hc, hf⟩ := bcell hw'.out); (have hcS := bcellS hw'.out); go_simp <;> first | rfl | (go_at_call 24; exact HS.out _) | (go_at_call 23; exact equalView_same _ _ _ _) | (go_at_call 19; exact ValidView_v a b d false _ hv))); (go_simp; refine hK _ ?_; clear hK K)))
        refine wpG_nil ?_
        refine wpK_tail (by kernel_rfl) (fun w8 hg8 => ?_)
        have hb8 := bdrewn hg8.out
        refine wpAny_end (by kernel_rfl) ?_
        refine NoPan.thn ?_
        clear hg8
        have hb := hb8
        clear hb8 c0 c1 c2 d0 d1 d2 hla hlb
        replace HX := Lib.hid ((hb.block _ (Array.getElem?_eq_some_iff.1 HX.out).1).trans HX.out)
        replace HY := Lib.hid ((hb.block _ (Array.getElem?_eq_some_iff.1 HY.out).1).trans HY.out)
        replace HB := Lib.hid (bkeep2 HB.out hb)
        clear hb
        obtain ⟨c0, c1, c2⟩ := c3V HX.out
        obtain ⟨d0, d1, d2⟩ := c3V HY.out
        have hla := ltV HX.out
        have hlb := ltV HY.out
        go_wp2_with fail
        refine wp_region_grow 6 0 (· < 6) (by kernel_rfl) (by kernel_rfl) rfl ?_
        iterate 6 (refine wpG_step (fun K hK => ?_); first | (refine grow_skip rfl ?_; go_simp; refine hK _ ?_; clear hK K) | (apply Exists.intro; refine ⟨.inl ⟨rfl, fun w' hw' => ?_⟩, ?_⟩; (focus ((obtain ⟨hc, hf⟩ := bcell hw'.out); (have hcS := bcellS hw'.out); go_simp <;> first | rfl | (go_at_call 24; exact HS.out _) | (go_at_call 23; exact equalView_same _ _ _ _))); (go_simp; refine hK _ ?_; clear hK K)))
        refine wpG_nil ?_
        refine wpK_tail (by kernel_rfl) (fun w9 hg9 => ?_)
        have hb9 := bdrewn hg9.out
        refine wpAny_end (by kernel_rfl) ?_
        refine NoPan.thn ?_
        clear hg9
        replace HB := Lib.hid (bkeep2 HB.out hb9)
        clear hb9
        go_wp2
        go_ret
        exact ⟨rfl, HB.out⟩
      · have hd1 : decide (r < -500) = true := by simpa using hr
        go_wp2_with fail
        refine wp_region_grow 19 0 (· < 19) (by kernel_rfl) (by kernel_rfl) rfl ?_
        iterate 19 (refine wpG_step (fun K hK => ?_); first | (refine grow_skip rfl ?_; go_simp; refine hK _ ?_; clear hK K) | (apply Exists.intro; refine ⟨.inl ⟨rfl, fun w' hw' => ?_⟩, ?_⟩; (focus ((obtain ⟨hc, hf⟩ := bcell hw'.out); (have hcS := bcellS hw'.out); go_simp <;> first | rfl | (go_at_call 24; exact HS.out _) | (go_at_call 23; exact equalView_same _ _ _ _) | (go_at_call 19; exact ValidView_v a b d true _ hv))); (go_simp; refine hK _ ?_; clear hK K)))
        refine wpG_nil ?_
        refine wpK_tail (by kernel_rfl) (fun w8 hg8 => ?_)
        have hb8 := bdrewn hg8.out
        refine wpAny_end (by kernel_rfl) ?_
        refine NoPan.thn ?_
        clear hg8
        have hb := hb8
        clear hb8 c0 c1 c2 d0 d1 d2 hla hlb
        replace HX := Lib.hid ((hb.block _ (Array.getElem?_eq_some_iff.1 HX.out).1).trans HX.out)
        replace HY := Lib.hid ((hb.block _ (Array.getElem?_eq_some_iff.1 HY.out).1).trans HY.out)
        replace HB := Lib.hid (bkeep2 HB.out hb)
        clear hb
        obtain ⟨c0, c1, c2⟩ := c3V HX.out
        obtain ⟨d0, d1, d2⟩ := c3V HY.out
        have hla := ltV HX.out
        have hlb := ltV HY.out
        go_wp2_with fail
        refine wp_region_grow 6 0 (· < 6) (by kernel_rfl) (by kernel_rfl) rfl ?_
        iterate 6 (refine wpG_step (fun K hK => ?_); first | (refine grow_skip rfl ?_; go_simp; refine hK _ ?_; clear hK K) | (apply Exists.intro; refine ⟨.inl ⟨rfl, fun w' hw' => ?_⟩, ?_⟩; (focus ((obtain ⟨hc, hf⟩ := bcell hw'.out); (have hcS := bcellS hw'.out); go_simp <;> first | rfl | (go_at_call 24; exact HS.out _) | (go_at_call 23; exact equalView_same _ _ _ _))); (go_simp; refine hK _ ?_; clear hK K)))
        refine wpG_nil ?_
        refine wpK_tail (by kernel_rfl) (fun w9 hg9 => ?_)
        have hb9 := bdrewn hg9.out
        refine wpAny_end (by kernel_rfl) ?_
        refine NoPan.thn ?_
        clear hg9
        replace HB := Lib.hid (bkeep2 HB.out hb9)
        clear hb9
        go_wp2
        go_ret
        exact ⟨rfl, HB.out⟩
      · have hd1 : decide (r < -500) = false := by simpa using hr1
        have hd2 : decide (r > 500) = true := by simpa using hr2
        go_wp2_with fail
        refine wp_region_grow 19 0 (· < 19) (by kernel_rfl) (by kernel_rfl) rfl ?_
        iterate 19 (refine wpG_step (fun K hK => ?_); first | (refine grow_skip rfl ?_; go_simp; refine hK _ ?_; clear hK K) | (apply Exists.intro; refine ⟨.inl ⟨rfl, fun w' hw' => ?_⟩, ?_⟩; (focus ((obtain ⟨hc, hf⟩ := bcell hw'.out); (have hcS := bcellS hw'.out); go_simp <;> first | rfl | (go_at_call 24; exact HS.out _) | (go_at_call 23; exact equalView_same _ _ _ _) | (go_at_call 19; exact ValidView_v a b d true _ hv))); (go_simp; refine hK _ ?_; clear hK K)))
        refine wpG_nil ?_
        refine wpK_tail (by kernel_rfl) (fun w8 hg8 => ?_)
        have hb8 := bdrewn hg8.out
        refine wpAny_end (by kernel_rfl) ?_
        refine NoPan.thn ?_
        clear hg8
        have hb := hb8
        clear hb8 c0 c1 c2 d0 d1 d2 hla hlb
        replace HX := Lib.hid ((hb.block _ (Array.getElem?_eq_some_iff.1 HX.out).1).trans HX.out)
        replace HY := Lib.hid ((hb.block _ (Array.getElem?_eq_some_iff.1 HY.out).1).trans HY.out)
        replace HB := Lib.hid (bkeep2 HB.out hb)
        clear hb
        obtain ⟨c0, c1, c2⟩ := c3V HX.out
        obtain ⟨d0, d1, d2⟩ := c3V HY.out
        have hla := ltV HX.out
        have hlb := ltV HY.out
        go_wp2_with fail
        refine wp_region_grow 6 0 (· < 6) (by kernel_rfl) (by kernel_rfl) rfl ?_
        iterate 6 (refine wpG_step (fun K hK => ?_); first | (refine grow_skip rfl ?_; go_simp; refine hK _ ?_; clear hK K) | (apply Exists.intro; refine ⟨.inl ⟨rfl, fun w' hw' => ?_⟩, ?_⟩; (focus ((obtain ⟨hc, hf⟩ := bcell hw'.out); (have hcS := bcellS hw'.out); go_simp <;> first | rfl | (go_at_call 24; exact HS.out _) | (go_at_call 23; exact equalView_same _ _ _ _))); (go_simp; refine hK _ ?_; clear hK K)))
        refine wpG_nil ?_
        refine wpK_tail (by kernel_rfl) (fun w9 hg9 => ?_)
        have hb9 := bdrewn hg9.out
        refine wpAny_end (by kernel_rfl) ?_
        refine NoPan.thn ?_
        clear hg9
        replace HB := Lib.hid (bkeep2 HB.out hb9)
        clear hb9
        go_wp2
        go_ret
        exact ⟨rfl, HB.out⟩
    · obtain ⟨hr1, hr2⟩ := rng_iff.1 hr
      have g1 := vwB_iff.1 hv
      have hen := enV_spec a b
      have hsp := frV_spec a b (d + r)
      have hvf := vwB_fr hv (d + r)
      have hen2 : mx 0 (a - b) = enV a b := mx_comm _ _
      have hr3 : ¬ r < -500 := by omega
      have hr4 : ¬ r > 500 := by omega
      have hd1 : decide (r < -500) = false := by simpa using hr3
      have hd2 : decide (r > 500) = false := by simpa using hr4
      obtain ⟨E, hE⟩ : ∃ E, enV a b = E := ⟨_, rfl⟩
      rw [hE] at hen hen2 hsp g1
      obtain ⟨⟨g11, g12⟩, ⟨g13, g14⟩, g15, g16⟩ := g1
      have G16 := Lib.hid g16
      have g17 : d ≤ 500 := by omega
      have HSP := Lib.hid hsp
      have HEN := Lib.hid hen
      clear hE hsp hen g16
      go_wp2_with fail
      refine wp_region_grow 19 0 (· < 19) (by kernel_rfl) (by kernel_rfl) rfl ?_
      iterate 19 (refine wpG_step (fun K hK => ?_); first | (refine grow_skip rfl ?_; go_simp; refine hK _ ?_; clear hK K) | (apply Exists.intro; refine ⟨.inl ⟨rfl, fun w' hw' => ?_⟩, ?_⟩; (focus ((obtain ⟨hc, hf⟩ := bcell hw'.out); (have hcS := bcellS hw'.out); go_simp <;> first | rfl | (go_at_call 24; exact HS.out _) | (go_at_call 23; exact equalView_same _ _ _ _) | (go_at_call 19; exact ValidView_v a b d true _ hv))); (go_simp; refine hK _ ?_; clear hK K)))
      refine wpG_nil ?_
      refine wpK_tail (by kernel_rfl) (fun w8 hg8 => ?_)
      have hb8 := bdrewn hg8.out
      refine wpAny_end (by kernel_rfl) ?_
      refine NoPan.thn ?_
      clear hg8
      have hb := hb8
      clear hb8 c0 c1 c2 d0 d1 d2 hla hlb
      replace HX := Lib.hid ((hb.block _ (Array.getElem?_eq_some_iff.1 HX.out).1).trans HX.out)
      replace HY := Lib.hid ((hb.block _ (Array.getElem?_eq_some_iff.1 HY.out).1).trans HY.out)
      replace HB := Lib.hid (bkeep2 HB.out hb)
      clear hb
      obtain ⟨c0, c1, c2⟩ := c3V HX.out
      obtain ⟨d0, d1, d2⟩ := c3V HY.out
      have hEn : ∀ (s : Int), a - b = s → mx 0 s = E := fun s e => by rw [← e]; exact hen2
      by_cases p1 : frV a b (d + r) = 0
      · have q1 : (frV a b (d + r) == 0) = true := by simpa using p1
        have P1 := Lib.hid p1
        clear p1
        by_cases p2 : r ≤ 0
        · by_cases p5 : frV a b (d + r) = d + r
          · have q5 : (frV a b (d + r) == d + r) = true := by simpa using p5
            clear p5
            go_wp2_with fail
            with_reducible refine (ValidView_v a b (frV a b (d + r)) true _ hvf).mono ?_
            rintro e w9 ⟨rfl, hb⟩
            clear c0 c1 c2 d0 d1 d2
            replace HX := Lib.hid ((hb.block _ (Array.getElem?_eq_some_iff.1 HX.out).1).trans HX.out)
            replace HY := Lib.hid ((hb.block _ (Array.getElem?_eq_some_iff.1 HY.out).1).trans HY.out)
            replace HB := Lib.hid (bkeep2 HB.out hb)
            clear hb
            obtain ⟨c0, c1, c2⟩ := c3V HX.out
            obtain ⟨d0, d1, d2⟩ := c3V HY.out
            go_wp2
            go_ret
            exact ⟨rfl, HB.out⟩
          · have q5 : (frV a b (d + r) == d + r) = false := by simpa using p5
            clear p5
            go_wp2_with fail
            with_reducible refine (ValidView_v a b (frV a b (d + r)) true _ hvf).mono ?_
            rintro e w9 ⟨rfl, hb⟩
            clear c0 c1 c2 d0 d1 d2
            replace HX := Lib.hid ((hb.block _ (Array.getElem?_eq_some_iff.1 HX.out).1).trans HX.out)
            replace HY := Lib.hid ((hb.block _ (Array.getElem?_eq_some_iff.1 HY.out).1).trans HY.out)
            replace HB := Lib.hid (bkeep2 HB.out hb)
            clear hb
            obtain ⟨c0, c1, c2⟩ := c3V HX.out
            obtain ⟨d0, d1, d2⟩ := c3V HY.out
            go_wp2
            go_ret
            exact ⟨rfl, HB.out⟩
        · by_cases p5 : frV a b (d + r) = d + r
          · have p4 : r ≥ 0 := by omega
            have q3 : (frV a b (d + r) == E) = true := by have := HSP.out; have := HEN.out; have := G16.out; have := P1.out; simp; omega
            have q5 : (frV a b (d + r) == d + r) = true := by simpa using p5
            clear p5
            go_wp2_with fail
            with_reducible refine (ValidView_v a b (frV a b (d + r)) true _ hvf).mono ?_
            rintro e w9 ⟨rfl, hb⟩
            clear c0 c1 c2 d0 d1 d2
            replace HX := Lib.hid ((hb.block _ (Array.getElem?_eq_some_iff.1 HX.out).1).trans HX.out)
            replace HY := Lib.hid ((hb.block _ (Array.getElem?_eq_some_iff.1 HY.out).1).trans HY.out)
            replace HB := Lib.hid (bkeep2 HB.out hb)
            clear hb
            obtain ⟨c0, c1, c2⟩ := c3V HX.out
            obtain ⟨d0, d1, d2⟩ := c3V HY.out
            go_wp2
            go_ret
            exact ⟨rfl, HB.out⟩
          · have p4 : r ≥ 0 := by omega
            have q3 : (frV a b (d + r) == E) = true := by have := HSP.out; have := HEN.out; have := G16.out; have := P1.out; simp; omega
            have q5 : (frV a b (d + r) == d + r) = false := by simpa using p5
            clear p5
            go_wp2_with fail
            with_reducible refine (ValidView_v a b (frV a b (d + r)) true _ hvf).mono ?_
            rintro e w9 ⟨rfl, hb⟩
            clear c0 c1 c2 d0 d1 d2
            replace HX := Lib.hid ((hb.block _ (Array.getElem?_eq_some_iff.1 HX.out).1).trans HX.out)
            replace HY := Lib.hid ((hb.block _ (Array.getElem?_eq_some_iff.1 HY.out).1).trans HY.out)
            replace HB := Lib.hid (bkeep2 HB.out hb)
            clear hb
            obtain ⟨c0, c1, c2⟩ := c3V HX.out
            obtain ⟨d0, d1, d2⟩ := c3V HY.out
            go_wp2
            go_ret
            exact ⟨rfl, HB.out⟩
      · have q1 : (frV a b (d + r) == 0) = false := by simpa using p1
        have P1 := Lib.hid p1
        clear p1
        by_cases p3 : frV a b (d + r) = E
        · have q3 : (frV a b (d + r) == E) = true := by simpa using p3
          have P3 := Lib.hid p3
          clear p3
          by_cases p4 : r ≥ 0
          · by_cases p5 : frV a b (d + r) = d + r
            · have q5 : (frV a b (d + r) == d + r) = true := by simpa using p5
              clear p5
              go_wp2_with fail
              with_reducible refine (ValidView_v a b (frV a b (d + r)) true _ hvf).mono ?_
              rintro e w9 ⟨rfl, hb⟩
              clear c0 c1 c2 d0 d1 d2
              replace HX := Lib.hid ((hb.block _ (Array.getElem?_eq_some_iff.1 HX.out).1).trans HX.out)
              replace HY := Lib.hid ((hb.block _ (Array.getElem?_eq_some_iff.1 HY.out).1).trans HY.out)
              replace HB := Lib.hid (bkeep2 HB.out hb)
              clear hb
              obtain ⟨c0, c1, c2⟩ := c3V HX.out
              obtain ⟨d0, d1, d2⟩ := c3V HY.out
              go_wp2
              go_ret
              exact ⟨rfl, HB.out⟩
            · have q5 : (frV a b (d + r) == d + r) = false := by simpa using p5
              clear p5
              go_wp2_with fail
              with_reducible refine (ValidView_v a b (frV a b (d + r)) true _ hvf).mono ?_
              rintro e w9 ⟨rfl, hb⟩
              clear c0 c1 c2 d0 d1 d2
              replace HX := Lib.hid ((hb.block _ (Array.getElem?_eq_some_iff.1 HX.out).1).trans HX.out)
              replace HY := Lib.hid ((hb.block _ (Array.getElem?_eq_some_iff.1 HY.out).1).trans HY.out)
              replace HB := Lib.hid (bkeep2 HB.out hb)
              clear hb
              obtain ⟨c0, c1, c2⟩ := c3V HX.out
              obtain ⟨d0, d1, d2⟩ := c3V HY.out
              go_wp2
              go_ret
              exact ⟨rfl, HB.out⟩
          · have q5 : (frV a b (d + r) == d + r) = true := by
              have := HSP.out
              have := HEN.out
              have := G16.out
              have := P1.out
              have := P3.out
              simp; omega
            go_wp2_with fail
            with_reducible refine (ValidView_v a b (frV a b (d + r)) true _ hvf).mono ?_
            rintro e w9 ⟨rfl, hb⟩
            clear c0 c1 c2 d0 d1 d2
            replace HX := Lib.hid ((hb.block _ (Array.getElem?_eq_some_iff.1 HX.out).1).trans HX.out)
            replace HY := Lib.hid ((hb.block _ (Array.getElem?_eq_some_iff.1 HY.out).1).trans HY.out)
            replace HB := Lib.hid (bkeep2 HB.out hb)
            clear hb
            obtain ⟨c0, c1, c2⟩ := c3V HX.out
            obtain ⟨d0, d1, d2⟩ := c3V HY.out
            go_wp2
            go_ret
            exact ⟨rfl, HB.out⟩
        · have q3 : (frV a b (d + r) == E) = false := by simpa using p3
          have P3 := Lib.hid p3
          clear p3
          have q5 : (frV a b (d + r) == d + r) = true := by
            have := HSP.out
            have := HEN.out
            have := G16.out
            have := P1.out
            have := P3.out
            simp; omega
          go_wp2_with fail
          with_reducible refine (ValidView_v a b (frV a b (d + r)) true _ hvf).mono ?_
          rintro e w9 ⟨rfl, hb⟩
          clear c0 c1 c2 d0 d1 d2
          replace HX := Lib.hid ((hb.block _ (Array.getElem?_eq_some_iff.1 HX.out).1).trans HX.out)
          replace HY := Lib.hid ((hb.block _ (Array.getElem?_eq_some_iff.1 HY.out).1).trans HY.out)
          replace HB := Lib.hid (bkeep2 HB.out hb)
          clear hb
          obtain ⟨c0, c1, c2⟩ := c3V HX.out
          obtain ⟨d0, d1, d2⟩ := c3V HY.out
          go_wp2
          go_ret
          exact ⟨rfl, HB.out⟩
  · have hl1 : (1048576 : Int) < n := by omega
    go_enter Try.func7, Try.ntmps7
    go_wp2
    go_ret
    exact ⟨rfl, Below.refl _ _⟩
set_option maxRecDepth 100000 in
theorem lifted (os : Os) (started : os.Started) (H : Type) (enc : TypeId × Value → H) :
    ReturnsInHanded {} Try.checked os 7 .any (Rows.fnScrollBySpec.pre6 enc Try.prog Try.f7 Rows.fnScrollByRow.domain false) (Rows.fnScrollBySpec.post enc Try.prog Try.f7 false true false false) := by
  refine returnsInHanded_of_change (C := Try.checked) own started (by kernel_rfl) Try.func7
    (ChangeSpec.witness6 (enc := enc) (C := Try.checked) false ⟨#[], #[.slice none 0 0], []⟩ 8 (by kernel_rfl) (by kernel_rfl) (by kernel_rfl) (by kernel_rfl)) ?_
  intro W base args ds gs before hval0 hW hcnd _
  have hval : ∀ (j : Nat) t v, Try.f7.params[j]? = some t → args[j]? = some v → Value.okWide Try.prog W .any base t v := hval0
  have hW' := hW
  obtain ⟨p, q, hA0, hV, rfl, hfz, hnd⟩ := hW
  have hA : DataW.TrodAll enc Try.prog W 0 (fun _ => true) true Try.f7.params.toList args.toList ds p := hA0
  rw [Try.params7] at hA hval
  obtain ⟨v0, vs0, d0, ds0, p0, q0, hargs, rfl, rfl, h0, r0⟩ := trodAll_cons hA
  obtain ⟨rfl, rfl, rfl⟩ := trodAll_nil r0
  obtain rfl : args = #[v0] := by cases args; simp_all
  obtain ⟨rfl, rfl⟩ := trodVars_none hV
  have k0 := h0
  have lt0 : ∀ x ∈ p0, x.block < W.heap.size := by obtain ⟨m, hm⟩ := k0; exact DataW.trod_lt m _ _ _ hm
  obtain ⟨a0, len0, cap0, rfl⟩ := okWide_slice Try.underlying22 (hval 0 22 v0 rfl rfl)
  obtain ⟨z0, wz0⟩ : ∃ zs, IsRow .u8 W a0 len0 cap0 zs := by
    obtain ⟨fuel, hf⟩ := h0
    rcases open_ints Try.underlying22 Try.underlying5 (by kernel_rfl) hf with ⟨hcs, _⟩ | ⟨x, l, c, zs, hcs, _, hl, hm, hz, _, hcell, hwz⟩
    · simp [Value.cells] at hcs
      obtain ⟨rfl, rfl, rfl⟩ := hcs
      exact ⟨[], .inl ⟨rfl, rfl, rfl, rfl⟩⟩
    · simp [Value.cells] at hcs
      obtain ⟨rfl, rfl, rfl⟩ := hcs
      exact ⟨zs, .inr ⟨_, rfl, hl, hm, by simpa using hz, hcell, hwz⟩⟩
  clear hA0 hval0
  refine (walk a0 len0 cap0 z0 W wz0).mono fun e W' ⟨he, bel⟩ => ?_
  subst he
  exact ⟨_, rfl, _, _, _, [], _, [], hW', trodAll_mk1 (shut_bool Try.underlying4 _), (trodAll_cons_mk (Below.trod laidOut (by kernel_rfl) (of_decide_eq_true (by kernel_rfl)) k0 bel lt0) trodAll_mk0), rfl, bel.frame _, fun h => by cases h⟩
theorem over : Rows.fnScrollByRow.holds Try.pinned (OpenSpec.ofChange Rows.fnScrollBySpec) :=
  OpenClaim.holds_of_wide 7 Try.f7 rfl rfl rfl rfl rfl rfl rfl ⟨rfl, rfl, rfl, rfl, rfl⟩ rfl rfl rfl rfl rfl (by kernel_rfl) Try.func7 (by kernel_rfl)
    (of_decide_eq_true (by kernel_rfl)) (by unfold Func.isWrapper; first | (rw [if_pos (by decide +kernel)]; kernel_rfl) | (rw [if_neg (by decide +kernel)]; exact ⟨rfl, rfl⟩))
    (fun os started H enc _ => lifted os started H enc)
theorem proved : Rows.FnScrollBySaid := over
end Go.Proofs.Ytpbfbcdidkbjiac.lScrollBy
