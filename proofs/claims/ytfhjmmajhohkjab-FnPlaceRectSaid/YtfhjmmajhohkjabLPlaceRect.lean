/- FnPlaceRect: for every code the law returns true. No condition. -/
import Derived.Test.YtfhjmmajhohkjabQ05
namespace Go.Proofs.Ytfhjmmajhohkjab.lPlaceRect
open Go.ChangeShapes Go.WideShapes Go.ChangeAt Go.RowKit Go.Joins
set_option linter.unusedVariables false
set_option maxHeartbeats 1000000
attribute [local go_sem 5000] run_mx run_mn run_eqlR run_neqR
attribute [local go_sem] growUpon_value growUpon_skip growUpon_enter
set_option maxRecDepth 100000 in
theorem walk (A : Option Addr) (n c : Nat) (z : List Int) (w : World) (wz : IsRow .u8 w A n c z) : Calls Try.prog 4 #[.slice A n c] w fun e w' => e = .returned (.bool true) ∧ Below w.heap.size w w' := by
  obtain ⟨hb, hn, hc⟩ := wz.bts
  clear wz
  by_cases hlen : n ≤ 1048576
  · have hl1 : ¬ (1048576 : Int) < n := by omega
    go_enter Try.func4, Try.ntmps4
    go_wp2_with fail
    with_reducible refine (DrawPlaceRect_any A n c _ hb hn hc).mono ?_
    rintro e w1 ⟨⟨p, a, b, rfl, ⟨ha1, ha2⟩, ⟨hb1, hb2⟩⟩, hB⟩
    have HX := Lib.hid (heap_alloc_new w1 (.cells #[.int .i64 p.x, .int .i64 p.y, .int .i64 p.rx, .int .i64 p.ry, .int .i64 p.ww, .int .i64 p.hh, .int .i64 p.qw, .int .i64 p.qh, .int .i64 p.an] 24))
    have HB := Lib.hid (balloc' (o := .cells #[.int .i64 p.x, .int .i64 p.y, .int .i64 p.rx, .int .i64 p.ry, .int .i64 p.ww, .int .i64 p.hh, .int .i64 p.qw, .int .i64 p.qh, .int .i64 p.an] 24) hB)
    clear hB hb hn hc
    cases hv : prB p a b
    · skip
      go_wp2_with fail
      with_reducible refine (PlaceRect_no p a b _ hv).mono ?_
      rintro e w2 ⟨rfl, hb⟩
      replace HX := Lib.hid ((hb.block _ (Array.getElem?_eq_some_iff.1 HX.out).1).trans HX.out)
      replace HB := Lib.hid (bkeep2 HB.out hb)
      clear hb
      have hb : Below w2.heap.size w2 (w2.alloc (.cells #[.int .i64 (0), .int .i64 (0), .int .i64 (0), .int .i64 (0)] 31)) := balloc (Below.refl _ _)
      replace HX := Lib.hid ((hb.block _ (Array.getElem?_eq_some_iff.1 HX.out).1).trans HX.out)
      replace HB := Lib.hid (bkeep2 HB.out hb)
      clear hb
      have HR := Lib.hid (heap_alloc_new w2 (.cells #[.int .i64 (0), .int .i64 (0), .int .i64 (0), .int .i64 (0)] 31))
      have lx := lt_q HX.out
      have lr := lt_q HR.out
      obtain ⟨c0, c1, c2, c3, c4, c5, c6, c7, c8⟩ := c9_q HX.out
      have r0 := cl_q HR.out 0
      have r1 := cl_q HR.out 1
      have r2 := cl_q HR.out 2
      have r3 := cl_q HR.out 3
      rcases prB_cases hv with h1 | ⟨h1, h2⟩
      · skip
        go_wp2_with fail
        refine wp_region_grow 28 0 (· < 28) (by kernel_rfl) (by kernel_rfl) rfl ?_
        iterate 28 (refine wpG_step (fun K hK => ?_); first | (refine grow_skip rfl ?_; go_simp; refine hK _ ?_; clear hK K) | (apply Exists.intro; refine ⟨.inl ⟨rfl, fun w' hw' => ?_⟩, ?_⟩; (focus ((obtain ⟨hc, hf⟩ := bcell hw'.out); (have hcS := bcellS hw'.out); go_simp <;> first | rfl | (go_at_call 15; exact sPlaceRect_no p a b _ hv) | (go_at_call 14; exact equalRect_q _ _ _ _ _) | (go_at_call 10; exact validPlace_t p false _ h1))); (go_simp; refine hK _ ?_; clear hK K)))
        refine wpG_nil ?_
        refine wpK_tail (by kernel_rfl) (fun w7 hg7 => ?_)
        have hb7 := bdrewn hg7.out
        refine wpAny_end (by kernel_rfl) ?_
        refine NoPan.thn ?_
        clear hg7
        clear c0 c1 c2 c3 c4 c5 c6 c7 c8 r0 r1 r2 r3 lx lr
        replace HX := Lib.hid ((hb7.block _ (Array.getElem?_eq_some_iff.1 HX.out).1).trans HX.out)
        replace HR := Lib.hid ((hb7.block _ (Array.getElem?_eq_some_iff.1 HR.out).1).trans HR.out)
        replace HB := Lib.hid (bkeep2 HB.out hb7)
        clear hb7
        have lx := lt_q HX.out
        have lr := lt_q HR.out
        obtain ⟨c0, c1, c2, c3, c4, c5, c6, c7, c8⟩ := c9_q HX.out
        have r0 := cl_q HR.out 0
        have r1 := cl_q HR.out 1
        have r2 := cl_q HR.out 2
        have r3 := cl_q HR.out 3
        go_wp2_with fail
        refine wp_region_grow 6 1 (· < 6) (by kernel_rfl) (by kernel_rfl) rfl ?_
        iterate 6 (refine wpG_step (fun K hK => ?_); first | (refine grow_skip rfl ?_; go_simp; refine hK _ ?_; clear hK K) | (apply Exists.intro; refine ⟨.inl ⟨rfl, fun w' hw' => ?_⟩, ?_⟩; (focus ((obtain ⟨hc, hf⟩ := bcell hw'.out); (have hcS := bcellS hw'.out); go_simp <;> first | rfl | (go_at_call 15; exact sPlaceRect_no p a b _ hv) | (go_at_call 14; exact equalRect_q _ _ _ _ _))); (go_simp; refine hK _ ?_; clear hK K)))
        refine wpG_nil ?_
        refine wpK_tail (by kernel_rfl) (fun w8 hg8 => ?_)
        have hb8 := bdrewn hg8.out
        obtain ⟨hc8, hf8⟩ := bcell hb8
        refine wpAny_one (i := 6) (by kernel_rfl) rfl rfl ?_
        go_simp
        refine wpAny_end (by kernel_rfl) ?_
        refine NoPan.thn ?_
        clear hc8 hf8
        clear hg8
        clear c0 c1 c2 c3 c4 c5 c6 c7 c8 r0 r1 r2 r3 lx lr
        replace HB := Lib.hid (bkeep2 HB.out hb8)
        clear hb8
        go_wp2
        go_ret
        exact ⟨rfl, HB.out⟩
      · rcases h2 with h2 | ⟨h2, h3⟩ | ⟨h2, h3, h4⟩ | ⟨h2, h3, h4, h5⟩
        · skip
          have dA_0 : decide (a < 0) = true := by simp; omega
          go_wp2_with fail
          refine wp_region_grow 28 0 (· < 28) (by kernel_rfl) (by kernel_rfl) rfl ?_
          iterate 28 (refine wpG_step (fun K hK => ?_); first | (refine grow_skip rfl ?_; go_simp; refine hK _ ?_; clear hK K) | (apply Exists.intro; refine ⟨.inl ⟨rfl, fun w' hw' => ?_⟩, ?_⟩; (focus ((obtain ⟨hc, hf⟩ := bcell hw'.out); (have hcS := bcellS hw'.out); go_simp <;> first | rfl | (go_at_call 15; exact sPlaceRect_no p a b _ hv) | (go_at_call 14; exact equalRect_q _ _ _ _ _) | (go_at_call 10; exact validPlace_t p true _ h1))); (go_simp; refine hK _ ?_; clear hK K)))
          refine wpG_nil ?_
          refine wpK_tail (by kernel_rfl) (fun w7 hg7 => ?_)
          have hb7 := bdrewn hg7.out
          refine wpAny_end (by kernel_rfl) ?_
          refine NoPan.thn ?_
          clear hg7
          clear c0 c1 c2 c3 c4 c5 c6 c7 c8 r0 r1 r2 r3 lx lr
          replace HX := Lib.hid ((hb7.block _ (Array.getElem?_eq_some_iff.1 HX.out).1).trans HX.out)
          replace HR := Lib.hid ((hb7.block _ (Array.getElem?_eq_some_iff.1 HR.out).1).trans HR.out)
          replace HB := Lib.hid (bkeep2 HB.out hb7)
          clear hb7
          have lx := lt_q HX.out
          have lr := lt_q HR.out
          obtain ⟨c0, c1, c2, c3, c4, c5, c6, c7, c8⟩ := c9_q HX.out
          have r0 := cl_q HR.out 0
          have r1 := cl_q HR.out 1
          have r2 := cl_q HR.out 2
          have r3 := cl_q HR.out 3
          go_wp2_with fail
          refine wp_region_grow 6 1 (· < 6) (by kernel_rfl) (by kernel_rfl) rfl ?_
          iterate 6 (refine wpG_step (fun K hK => ?_); first | (refine grow_skip rfl ?_; go_simp; refine hK _ ?_; clear hK K) | (apply Exists.intro; refine ⟨.inl ⟨rfl, fun w' hw' => ?_⟩, ?_⟩; (focus ((obtain ⟨hc, hf⟩ := bcell hw'.out); (have hcS := bcellS hw'.out); go_simp <;> first | rfl | (go_at_call 15; exact sPlaceRect_no p a b _ hv) | (go_at_call 14; exact equalRect_q _ _ _ _ _))); (go_simp; refine hK _ ?_; clear hK K)))
          refine wpG_nil ?_
          refine wpK_tail (by kernel_rfl) (fun w8 hg8 => ?_)
          have hb8 := bdrewn hg8.out
          obtain ⟨hc8, hf8⟩ := bcell hb8
          refine wpAny_one (i := 6) (by kernel_rfl) rfl rfl ?_
          go_simp
          refine wpAny_end (by kernel_rfl) ?_
          refine NoPan.thn ?_
          clear hc8 hf8
          clear hg8
          clear c0 c1 c2 c3 c4 c5 c6 c7 c8 r0 r1 r2 r3 lx lr
          replace HB := Lib.hid (bkeep2 HB.out hb8)
          clear hb8
          go_wp2
          go_ret
          exact ⟨rfl, HB.out⟩
        · skip
          have dA_0 : decide (a < 0) = false := by simp; omega
          have dA1_0 : decide (a > 400) = true := by simp; omega
          have dA1_1 : decide (400 < a) = true := by simp; omega
          go_wp2_with fail
          refine wp_region_grow 28 0 (· < 28) (by kernel_rfl) (by kernel_rfl) rfl ?_
          iterate 28 (refine wpG_step (fun K hK => ?_); first | (refine grow_skip rfl ?_; go_simp; refine hK _ ?_; clear hK K) | (apply Exists.intro; refine ⟨.inl ⟨rfl, fun w' hw' => ?_⟩, ?_⟩; (focus ((obtain ⟨hc, hf⟩ := bcell hw'.out); (have hcS := bcellS hw'.out); go_simp <;> first | rfl | (go_at_call 15; exact sPlaceRect_no p a b _ hv) | (go_at_call 14; exact equalRect_q _ _ _ _ _) | (go_at_call 10; exact validPlace_t p true _ h1))); (go_simp; refine hK _ ?_; clear hK K)))
          refine wpG_nil ?_
          refine wpK_tail (by kernel_rfl) (fun w7 hg7 => ?_)
          have hb7 := bdrewn hg7.out
          refine wpAny_end (by kernel_rfl) ?_
          refine NoPan.thn ?_
          clear hg7
          clear c0 c1 c2 c3 c4 c5 c6 c7 c8 r0 r1 r2 r3 lx lr
          replace HX := Lib.hid ((hb7.block _ (Array.getElem?_eq_some_iff.1 HX.out).1).trans HX.out)
          replace HR := Lib.hid ((hb7.block _ (Array.getElem?_eq_some_iff.1 HR.out).1).trans HR.out)
          replace HB := Lib.hid (bkeep2 HB.out hb7)
          clear hb7
          have lx := lt_q HX.out
          have lr := lt_q HR.out
          obtain ⟨c0, c1, c2, c3, c4, c5, c6, c7, c8⟩ := c9_q HX.out
          have r0 := cl_q HR.out 0
          have r1 := cl_q HR.out 1
          have r2 := cl_q HR.out 2
          have r3 := cl_q HR.out 3
          go_wp2_with fail
          refine wp_region_grow 6 1 (· < 6) (by kernel_rfl) (by kernel_rfl) rfl ?_
          iterate 6 (refine wpG_step (fun K hK => ?_); first | (refine grow_skip rfl ?_; go_simp; refine hK _ ?_; clear hK K) | (apply Exists.intro; refine ⟨.inl ⟨rfl, fun w' hw' => ?_⟩, ?_⟩; (focus ((obtain ⟨hc, hf⟩ := bcell hw'.out); (have hcS := bcellS hw'.out); go_simp <;> first | rfl | (go_at_call 15; exact sPlaceRect_no p a b _ hv) | (go_at_call 14; exact equalRect_q _ _ _ _ _))); (go_simp; refine hK _ ?_; clear hK K)))
          refine wpG_nil ?_
          refine wpK_tail (by kernel_rfl) (fun w8 hg8 => ?_)
          have hb8 := bdrewn hg8.out
          obtain ⟨hc8, hf8⟩ := bcell hb8
          refine wpAny_one (i := 6) (by kernel_rfl) rfl rfl ?_
          go_simp
          refine wpAny_end (by kernel_rfl) ?_
          refine NoPan.thn ?_
          clear hc8 hf8
          clear hg8
          clear c0 c1 c2 c3 c4 c5 c6 c7 c8 r0 r1 r2 r3 lx lr
          replace HB := Lib.hid (bkeep2 HB.out hb8)
          clear hb8
          go_wp2
          go_ret
          exact ⟨rfl, HB.out⟩
        · skip
          have dA_0 : decide (a < 0) = false := by simp; omega
          have dA1_0 : decide (a > 400) = false := by simp; omega
          have dA1_1 : decide (400 < a) = false := by simp; omega
          have dB_0 : decide (b < 0) = true := by simp; omega
          go_wp2_with fail
          refine wp_region_grow 28 0 (· < 28) (by kernel_rfl) (by kernel_rfl) rfl ?_
          iterate 28 (refine wpG_step (fun K hK => ?_); first | (refine grow_skip rfl ?_; go_simp; refine hK _ ?_; clear hK K) | (apply Exists.intro; refine ⟨.inl ⟨rfl, fun w' hw' => ?_⟩, ?_⟩; (focus ((obtain ⟨hc, hf⟩ := bcell hw'.out); (have hcS := bcellS hw'.out); go_simp <;> first | rfl | (go_at_call 15; exact sPlaceRect_no p a b _ hv) | (go_at_call 14; exact equalRect_q _ _ _ _ _) | (go_at_call 10; exact validPlace_t p true _ h1))); (go_simp; refine hK _ ?_; clear hK K)))
          refine wpG_nil ?_
          refine wpK_tail (by kernel_rfl) (fun w7 hg7 => ?_)
          have hb7 := bdrewn hg7.out
          refine wpAny_end (by kernel_rfl) ?_
          refine NoPan.thn ?_
          clear hg7
          clear c0 c1 c2 c3 c4 c5 c6 c7 c8 r0 r1 r2 r3 lx lr
          replace HX := Lib.hid ((hb7.block _ (Array.getElem?_eq_some_iff.1 HX.out).1).trans HX.out)
          replace HR := Lib.hid ((hb7.block _ (Array.getElem?_eq_some_iff.1 HR.out).1).trans HR.out)
          replace HB := Lib.hid (bkeep2 HB.out hb7)
          clear hb7
          have lx := lt_q HX.out
          have lr := lt_q HR.out
          obtain ⟨c0, c1, c2, c3, c4, c5, c6, c7, c8⟩ := c9_q HX.out
          have r0 := cl_q HR.out 0
          have r1 := cl_q HR.out 1
          have r2 := cl_q HR.out 2
          have r3 := cl_q HR.out 3
          go_wp2_with fail
          refine wp_region_grow 6 1 (· < 6) (by kernel_rfl) (by kernel_rfl) rfl ?_
          iterate 6 (refine wpG_step (fun K hK => ?_); first | (refine grow_skip rfl ?_; go_simp; refine hK _ ?_; clear hK K) | (apply Exists.intro; refine ⟨.inl ⟨rfl, fun w' hw' => ?_⟩, ?_⟩; (focus ((obtain ⟨hc, hf⟩ := bcell hw'.out); (have hcS := bcellS hw'.out); go_simp <;> first | rfl | (go_at_call 15; exact sPlaceRect_no p a b _ hv) | (go_at_call 14; exact equalRect_q _ _ _ _ _))); (go_simp; refine hK _ ?_; clear hK K)))
          refine wpG_nil ?_
          refine wpK_tail (by kernel_rfl) (fun w8 hg8 => ?_)
          have hb8 := bdrewn hg8.out
          obtain ⟨hc8, hf8⟩ := bcell hb8
          refine wpAny_one (i := 6) (by kernel_rfl) rfl rfl ?_
          go_simp
          refine wpAny_end (by kernel_rfl) ?_
          refine NoPan.thn ?_
          clear hc8 hf8
          clear hg8
          clear c0 c1 c2 c3 c4 c5 c6 c7 c8 r0 r1 r2 r3 lx lr
          replace HB := Lib.hid (bkeep2 HB.out hb8)
          clear hb8
          go_wp2
          go_ret
          exact ⟨rfl, HB.out⟩
        · skip
          have dA_0 : decide (a < 0) = false := by simp; omega
          have dA1_0 : decide (a > 400) = false := by simp; omega
          have dA1_1 : decide (400 < a) = false := by simp; omega
          have dB_0 : decide (b < 0) = false := by simp; omega
          have dB1_0 : decide (b > 400) = true := by simp; omega
          have dB1_1 : decide (400 < b) = true := by simp; omega
          go_wp2_with fail
          refine wp_region_grow 28 0 (· < 28) (by kernel_rfl) (by kernel_rfl) rfl ?_
          iterate 28 (refine wpG_step (fun K hK => ?_); first | (refine grow_skip rfl ?_; go_simp; refine hK _ ?_; clear hK K) | (apply Exists.intro; refine ⟨.inl ⟨rfl, fun w' hw' => ?_⟩, ?_⟩; (focus ((obtain ⟨hc, hf⟩ := bcell hw'.out); (have hcS := bcellS hw'.out); go_simp <;> first | rfl | (go_at_call 15; exact sPlaceRect_no p a b _ hv) | (go_at_call 14; exact equalRect_q _ _ _ _ _) | (go_at_call 10; exact validPlace_t p true _ h1))); (go_simp; refine hK _ ?_; clear hK K)))
          refine wpG_nil ?_
          refine wpK_tail (by kernel_rfl) (fun w7 hg7 => ?_)
          have hb7 := bdrewn hg7.out
          refine wpAny_end (by kernel_rfl) ?_
          refine NoPan.thn ?_
          clear hg7
          clear c0 c1 c2 c3 c4 c5 c6 c7 c8 r0 r1 r2 r3 lx lr
          replace HX := Lib.hid ((hb7.block _ (Array.getElem?_eq_some_iff.1 HX.out).1).trans HX.out)
          replace HR := Lib.hid ((hb7.block _ (Array.getElem?_eq_some_iff.1 HR.out).1).trans HR.out)
          replace HB := Lib.hid (bkeep2 HB.out hb7)
          clear hb7
          have lx := lt_q HX.out
          have lr := lt_q HR.out
          obtain ⟨c0, c1, c2, c3, c4, c5, c6, c7, c8⟩ := c9_q HX.out
          have r0 := cl_q HR.out 0
          have r1 := cl_q HR.out 1
          have r2 := cl_q HR.out 2
          have r3 := cl_q HR.out 3
          go_wp2_with fail
          refine wp_region_grow 6 1 (· < 6) (by kernel_rfl) (by kernel_rfl) rfl ?_
          iterate 6 (refine wpG_step (fun K hK => ?_); first | (refine grow_skip rfl ?_; go_simp; refine hK _ ?_; clear hK K) | (apply Exists.intro; refine ⟨.inl ⟨rfl, fun w' hw' => ?_⟩, ?_⟩; (focus ((obtain ⟨hc, hf⟩ := bcell hw'.out); (have hcS := bcellS hw'.out); go_simp <;> first | rfl | (go_at_call 15; exact sPlaceRect_no p a b _ hv) | (go_at_call 14; exact equalRect_q _ _ _ _ _))); (go_simp; refine hK _ ?_; clear hK K)))
          refine wpG_nil ?_
          refine wpK_tail (by kernel_rfl) (fun w8 hg8 => ?_)
          have hb8 := bdrewn hg8.out
          obtain ⟨hc8, hf8⟩ := bcell hb8
          refine wpAny_one (i := 6) (by kernel_rfl) rfl rfl ?_
          go_simp
          refine wpAny_end (by kernel_rfl) ?_
          refine NoPan.thn ?_
          clear hc8 hf8
          clear hg8
          clear c0 c1 c2 c3 c4 c5 c6 c7 c8 r0 r1 r2 r3 lx lr
          replace HB := Lib.hid (bkeep2 HB.out hb8)
          clear hb8
          go_wp2
          go_ret
          exact ⟨rfl, HB.out⟩
    · obtain ⟨h1, h2⟩ := prB_yes hv
      obtain ⟨⟨r1, r2⟩, ⟨r3, r4⟩⟩ := rqB_iff.1 h2
      obtain ⟨X, Y, U, V, X0, Y0, X8, Y8, ⟨eX, eY, eU, eV⟩, ⟨eX0, eY0, eU0, eV0⟩, ⟨eX8, eY8, eU8, eV8⟩, ⟨bx1, bx2⟩, ⟨by1, by2⟩, ⟨bu1, bu2⟩, ⟨bv1, bv2⟩, s1, s2, s3, s4⟩ := anch3 h1 h2
      have hv0 : prB (qA p 0) a b = true := by simp only [prB, qA_ok h1 (by omega : (0 : Int) ≤ 0) (by omega), h2, Bool.and_self]
      have hv8 : prB (qA p 8) a b = true := by simp only [prB, qA_ok h1 (by omega : (0 : Int) ≤ 8) (by omega), h2, Bool.and_self]
      have C := Lib.hid (fun w => PlaceRect_c p a b X Y U V w hv eX eY eU eV)
      have S := Lib.hid (fun w => sPlaceRect_c p a b X Y U V w hv eX eY eU eV)
      have C0 := Lib.hid (fun w => PlaceRect_c (qA p 0) a b X0 Y0 U V w hv0 eX0 eY0 eU0 eV0)
      have C8 := Lib.hid (fun w => PlaceRect_c (qA p 8) a b X8 Y8 U V w hv8 eX8 eY8 eU8 eV8)
      have HP := Lib.hid h1
      have g1 : (X8 + U == X0) = true := by simpa using s1
      have g2 : (Y8 + V == Y0) = true := by simpa using s2
      have dA_0 : decide (a < 0) = false := by simp; omega
      have dA1_0 : decide (a > 400) = false := by simp; omega
      have dA1_1 : decide (400 < a) = false := by simp; omega
      have dB_0 : decide (b < 0) = false := by simp; omega
      have dB1_0 : decide (b > 400) = false := by simp; omega
      have dB1_1 : decide (400 < b) = false := by simp; omega
      clear eX eY eU eV eX0 eY0 eU0 eV0 eX8 eY8 eU8 eV8 hv hv0 hv8 h1 h2
      go_wp2_with fail
      with_reducible refine (C.out _).mono ?_
      rintro e w2 ⟨rfl, hb⟩
      replace HX := Lib.hid ((hb.block _ (Array.getElem?_eq_some_iff.1 HX.out).1).trans HX.out)
      replace HB := Lib.hid (bkeep2 HB.out hb)
      clear hb
      have hb : Below w2.heap.size w2 (w2.alloc (.cells #[.int .i64 (X), .int .i64 (Y), .int .i64 (U), .int .i64 (V)] 31)) := balloc (Below.refl _ _)
      replace HX := Lib.hid ((hb.block _ (Array.getElem?_eq_some_iff.1 HX.out).1).trans HX.out)
      replace HB := Lib.hid (bkeep2 HB.out hb)
      clear hb
      have HR := Lib.hid (heap_alloc_new w2 (.cells #[.int .i64 (X), .int .i64 (Y), .int .i64 (U), .int .i64 (V)] 31))
      have lx := lt_q HX.out
      have lr := lt_q HR.out
      have c := C.out
      have s := S.out
      have hp := HP.out
      obtain ⟨c0, c1, c2, c3, c4, c5, c6, c7, c8⟩ := c9_q HX.out
      have r0 := cl_q HR.out 0
      have r1' := cl_q HR.out 1
      have r2' := cl_q HR.out 2
      have r3' := cl_q HR.out 3
      go_wp2_with fail
      refine wp_region_grow 28 0 (· < 28) (by kernel_rfl) (by kernel_rfl) rfl ?_
      iterate 28 (refine wpG_step (fun K hK => ?_); first | (refine grow_skip rfl ?_; go_simp; refine hK _ ?_; clear hK K) | (apply Exists.intro; refine ⟨.inl ⟨rfl, fun w' hw' => ?_⟩, ?_⟩; (focus ((obtain ⟨hc, hf⟩ := bcell hw'.out); (have hcS := bcellS hw'.out); go_simp <;> first | rfl | (go_at_call 15; exact s _) | (go_at_call 14; exact equalRect_q _ _ _ _ _) | (go_at_call 10; exact validPlace_t p true _ hp))); (go_simp; refine hK _ ?_; clear hK K)))
      refine wpG_nil ?_
      refine wpK_tail (by kernel_rfl) (fun w7 hg7 => ?_)
      have hb7 := bdrewn hg7.out
      refine wpAny_end (by kernel_rfl) ?_
      refine NoPan.thn ?_
      clear hg7
      clear c0 c1 c2 c3 c4 c5 c6 c7 c8 r0 r1' r2' r3' lx lr c s hp
      replace HX := Lib.hid ((hb7.block _ (Array.getElem?_eq_some_iff.1 HX.out).1).trans HX.out)
      replace HR := Lib.hid ((hb7.block _ (Array.getElem?_eq_some_iff.1 HR.out).1).trans HR.out)
      replace HB := Lib.hid (bkeep2 HB.out hb7)
      clear hb7
      obtain ⟨c0, c1, c2, c3, c4, c5, c6, c7, c8⟩ := c9_q HX.out
      go_upto_region 8 with (fail)
      refine wp_genG (fun W => W.heap[w7.heap.size]? = some (.cells #[.int .i64 p.x, .int .i64 p.y, .int .i64 p.rx, .int .i64 p.ry, .int .i64 p.ww, .int .i64 p.hh, .int .i64 p.qw, .int .i64 p.qh, .int .i64 p.an] 24) ∧ W.heap[w2.heap.size]? = some (.cells #[.int .i64 X, .int .i64 Y, .int .i64 U, .int .i64 V] 31) ∧ Below w.heap.size w W) ⟨heap_alloc_new _ _, (Below.heap_alloc _ _ _ (lt_q HR.out)).trans HR.out, balloc' HB.out⟩ (fun w8 h8 => ?_)
      have hq0 := lt_q HR.out
      have hw7 := HB.out.size
      clear HX HR HB c0 c1 c2 c3 c4 c5 c6 c7 c8
      obtain ⟨hx, hr, hb⟩ := h8
      have HX := Lib.hid hx
      have HR := Lib.hid hr
      have HB := Lib.hid hb
      have hq7 := lt_q hx
      clear hx hr hb
      obtain ⟨c0, c1, c2, c3, c4, c5, c6, c7, c8⟩ := c9_q HX.out
      obtain ⟨f0, f1, f2, f3, f4, f5, f6, f7, f8⟩ := f9_q HX.out
      have q := put1h (i := 8) HX.out (.int .i64 0)
      simp only [List.setIfInBounds_toArray, List.set_cons_succ, List.set_cons_zero] at q
      have HQ := Lib.hid q
      clear q
      have hw : w.heap.size ≤ w7.heap.size := hw7
      go_upto_region 9 with (fail)
      refine wp_genG (fun W => W.heap[w7.heap.size]? = some (.cells #[.int .i64 (qA p 0).x, .int .i64 (qA p 0).y, .int .i64 (qA p 0).rx, .int .i64 (qA p 0).ry, .int .i64 (qA p 0).ww, .int .i64 (qA p 0).hh, .int .i64 (qA p 0).qw, .int .i64 (qA p 0).qh, .int .i64 (qA p 0).an] 24) ∧ W.heap[w2.heap.size]? = some (.cells #[.int .i64 X, .int .i64 Y, .int .i64 U, .int .i64 V] 31) ∧ Below w.heap.size w W) ⟨HQ.out, (Below.heap_setCell _ _ _ w2.heap.size (Nat.ne_of_lt hq0)).trans HR.out, HB.out.setCell (p := ⟨w7.heap.size, 8, none⟩) hw _⟩ (fun w9 h9 => ?_)
      clear HX HR HB HQ c0 c1 c2 c3 c4 c5 c6 c7 c8 f0 f1 f2 f3 f4 f5 f6 f7 f8
      obtain ⟨hx, hr, hb⟩ := h9
      have HX := Lib.hid hx
      have HR := Lib.hid hr
      have HB := Lib.hid hb
      clear hx hr hb
      obtain ⟨c0, c1, c2, c3, c4, c5, c6, c7, c8⟩ := c9_q HX.out
      go_wp2_with fail
      with_reducible refine (C0.out _).mono ?_
      rintro e w10 ⟨rfl, hb⟩
      clear c0 c1 c2 c3 c4 c5 c6 c7 c8
      replace HX := Lib.hid ((hb.block _ (Array.getElem?_eq_some_iff.1 HX.out).1).trans HX.out)
      replace HR := Lib.hid ((hb.block _ (Array.getElem?_eq_some_iff.1 HR.out).1).trans HR.out)
      replace HB := Lib.hid (bkeep2 HB.out hb)
      clear hb
      have hq10 := lt_q HX.out
      have hq11 := lt_q HR.out
      go_upto_region 10 with (fail)
      refine wp_genG (fun W => W.heap[w7.heap.size]? = some (.cells #[.int .i64 (qA p 0).x, .int .i64 (qA p 0).y, .int .i64 (qA p 0).rx, .int .i64 (qA p 0).ry, .int .i64 (qA p 0).ww, .int .i64 (qA p 0).hh, .int .i64 (qA p 0).qw, .int .i64 (qA p 0).qh, .int .i64 (qA p 0).an] 24) ∧ W.heap[w2.heap.size]? = some (.cells #[.int .i64 X, .int .i64 Y, .int .i64 U, .int .i64 V] 31) ∧ W.heap[w10.heap.size]? = some (.cells #[.int .i64 X0, .int .i64 Y0, .int .i64 U, .int .i64 V] 31) ∧ Below w.heap.size w W) ⟨(Below.heap_alloc _ _ _ hq10).trans HX.out, (Below.heap_alloc _ _ _ hq11).trans HR.out, heap_alloc_new _ _, balloc' HB.out⟩ (fun w11 h11 => ?_)
      clear HX HR HB
      obtain ⟨hx, hr, ha, hb⟩ := h11
      have HX := Lib.hid hx
      have HR := Lib.hid hr
      have HA := Lib.hid ha
      have HB := Lib.hid hb
      clear hx hr ha hb
      obtain ⟨c0, c1, c2, c3, c4, c5, c6, c7, c8⟩ := c9_q HX.out
      obtain ⟨f0, f1, f2, f3, f4, f5, f6, f7, f8⟩ := f9_q HX.out
      have q := put1h (i := 8) HX.out (.int .i64 8)
      simp only [List.setIfInBounds_toArray, List.set_cons_succ, List.set_cons_zero] at q
      have HQ := Lib.hid q
      clear q
      go_upto_region 11 with (fail)
      refine wp_genG (fun W => W.heap[w7.heap.size]? = some (.cells #[.int .i64 (qA p 8).x, .int .i64 (qA p 8).y, .int .i64 (qA p 8).rx, .int .i64 (qA p 8).ry, .int .i64 (qA p 8).ww, .int .i64 (qA p 8).hh, .int .i64 (qA p 8).qw, .int .i64 (qA p 8).qh, .int .i64 (qA p 8).an] 24) ∧ W.heap[w2.heap.size]? = some (.cells #[.int .i64 X, .int .i64 Y, .int .i64 U, .int .i64 V] 31) ∧ W.heap[w10.heap.size]? = some (.cells #[.int .i64 X0, .int .i64 Y0, .int .i64 U, .int .i64 V] 31) ∧ Below w.heap.size w W) ⟨HQ.out, (Below.heap_setCell _ _ _ w2.heap.size (Nat.ne_of_lt hq0)).trans HR.out, (Below.heap_setCell _ _ _ w10.heap.size (Nat.ne_of_gt hq10)).trans HA.out, HB.out.setCell (p := ⟨w7.heap.size, 8, none⟩) hw _⟩ (fun w12 h12 => ?_)
      clear HX HR HA HB HQ c0 c1 c2 c3 c4 c5 c6 c7 c8 f0 f1 f2 f3 f4 f5 f6 f7 f8
      obtain ⟨hx, hr, ha, hb⟩ := h12
      have HX := Lib.hid hx
      have HR := Lib.hid hr
      have HA := Lib.hid ha
      have HB := Lib.hid hb
      clear hx hr ha hb
      obtain ⟨c0, c1, c2, c3, c4, c5, c6, c7, c8⟩ := c9_q HX.out
      go_wp2_with fail
      with_reducible refine (C8.out _).mono ?_
      rintro e w13 ⟨rfl, hb⟩
      clear c0 c1 c2 c3 c4 c5 c6 c7 c8
      replace HX := Lib.hid ((hb.block _ (Array.getElem?_eq_some_iff.1 HX.out).1).trans HX.out)
      replace HR := Lib.hid ((hb.block _ (Array.getElem?_eq_some_iff.1 HR.out).1).trans HR.out)
      replace HA := Lib.hid ((hb.block _ (Array.getElem?_eq_some_iff.1 HA.out).1).trans HA.out)
      replace HB := Lib.hid (bkeep2 HB.out hb)
      clear hb
      have hq13 := lt_q HA.out
      have hq14 := lt_q HR.out
      go_upto_region 12 with (fail)
      refine wp_genG (fun W => W.heap[w2.heap.size]? = some (.cells #[.int .i64 X, .int .i64 Y, .int .i64 U, .int .i64 V] 31) ∧ W.heap[w10.heap.size]? = some (.cells #[.int .i64 X0, .int .i64 Y0, .int .i64 U, .int .i64 V] 31) ∧ W.heap[w13.heap.size]? = some (.cells #[.int .i64 X8, .int .i64 Y8, .int .i64 U, .int .i64 V] 31) ∧ Below w.heap.size w W) ⟨(Below.heap_alloc _ _ _ hq14).trans HR.out, (Below.heap_alloc _ _ _ hq13).trans HA.out, heap_alloc_new _ _, balloc' HB.out⟩ (fun w14 h14 => ?_)
      clear HX HR HA HB
      obtain ⟨hr, ha, hb', hb⟩ := h14
      have HB := Lib.hid hb
      have i0 := cl_q hr 0
      have i1 := cl_q hr 1
      have i2 := cl_q hr 2
      have i3 := cl_q hr 3
      have j0 := cl_q ha 0
      have j1 := cl_q ha 1
      have j2 := cl_q ha 2
      have j3 := cl_q ha 3
      have k0 := cl_q hb' 0
      have k1 := cl_q hb' 1
      have k2 := cl_q hb' 2
      have k3 := cl_q hb' 3
      clear hr ha hb' hb
      have t1 : decide (U ≥ 0) = true := by simpa using bu1
      have t2 : decide (V ≥ 0) = true := by simpa using bv1
      have t3 : decide (0 ≤ U) = true := by simpa using bu1
      have t4 : decide (0 ≤ V) = true := by simpa using bv1
      have t5 : decide (X ≤ X0) = true := by simpa using s3
      have t6 : decide (X ≥ X8) = true := by simpa using s4
      have t7 : decide (X8 ≤ X) = true := by simpa using s4
      go_wp2
      go_ret
      exact ⟨rfl, HB.out⟩
  · have hl1 : (1048576 : Int) < n := by omega
    go_enter Try.func4, Try.ntmps4
    go_wp2
    go_ret
    exact ⟨rfl, Below.refl _ _⟩
set_option maxRecDepth 100000 in
theorem lifted (os : Os) (started : os.Started) (H : Type) (enc : TypeId × Value → H) :
    ReturnsInHanded {} Try.checked os 4 .any (Rows.fnPlaceRectSpec.pre6 enc Try.prog Try.f4 Rows.fnPlaceRectRow.domain false) (Rows.fnPlaceRectSpec.post enc Try.prog Try.f4 false true false false) := by
  refine returnsInHanded_of_change (C := Try.checked) own started (by kernel_rfl) Try.func4
    (ChangeSpec.witness6 (enc := enc) (C := Try.checked) false ⟨#[], #[.slice none 0 0], []⟩ 8 (by kernel_rfl) (by kernel_rfl) (by kernel_rfl) (by kernel_rfl)) ?_
  intro W base args ds gs before hval0 hW hcnd _
  have hval : ∀ (j : Nat) t v, Try.f4.params[j]? = some t → args[j]? = some v → Value.okWide Try.prog W .any base t v := hval0
  have hW' := hW
  obtain ⟨p, q, hA0, hV, rfl, hfz, hnd⟩ := hW
  have hA : DataW.TrodAll enc Try.prog W 0 (fun _ => true) true Try.f4.params.toList args.toList ds p := hA0
  rw [Try.params4] at hA hval
  obtain ⟨v0, vs0, d0, ds0, p0, q0, hargs, rfl, rfl, h0, r0⟩ := trodAll_cons hA
  obtain ⟨rfl, rfl, rfl⟩ := trodAll_nil r0
  obtain rfl : args = #[v0] := by cases args; simp_all
  obtain ⟨rfl, rfl⟩ := trodVars_none hV
  have k0 := h0
  have lt0 : ∀ x ∈ p0, x.block < W.heap.size := by obtain ⟨m, hm⟩ := k0; exact DataW.trod_lt m _ _ _ hm
  obtain ⟨a0, len0, cap0, rfl⟩ := okWide_slice Try.underlying22 (hval 0 22 v0 rfl rfl)
  obtain ⟨z0, wz0⟩ : ∃ zs, IsRow .u8 W a0 len0 cap0 zs := by
    obtain ⟨fuel, hf⟩ := h0
    rcases open_ints Try.underlying22 Try.underlying5 (by kernel_rfl) hf with ⟨hcs, _⟩ | ⟨x, l, c, zs, hcs, _, hl, hm, hz, _, hcell, hwz⟩
    · simp [Value.cells] at hcs
      obtain ⟨rfl, rfl, rfl⟩ := hcs
      exact ⟨[], .inl ⟨rfl, rfl, rfl, rfl⟩⟩
    · simp [Value.cells] at hcs
      obtain ⟨rfl, rfl, rfl⟩ := hcs
      exact ⟨zs, .inr ⟨_, rfl, hl, hm, by simpa using hz, hcell, hwz⟩⟩
  clear hA0 hval0
  refine (walk a0 len0 cap0 z0 W wz0).mono fun e W' ⟨he, bel⟩ => ?_
  subst he
  exact ⟨_, rfl, _, _, _, [], _, [], hW', trodAll_mk1 (shut_bool Try.underlying4 _), (trodAll_cons_mk (Below.trod laidOut (by kernel_rfl) (of_decide_eq_true (by kernel_rfl)) k0 bel lt0) trodAll_mk0), rfl, bel.frame _, fun h => by cases h⟩
theorem over : Rows.fnPlaceRectRow.holds Try.pinned (OpenSpec.ofChange Rows.fnPlaceRectSpec) :=
  OpenClaim.holds_of_wide 4 Try.f4 rfl rfl rfl rfl rfl rfl rfl ⟨rfl, rfl, rfl, rfl, rfl⟩ rfl rfl rfl rfl rfl (by kernel_rfl) Try.func4 (by kernel_rfl)
    (of_decide_eq_true (by kernel_rfl)) (by unfold Func.isWrapper; first | (rw [if_pos (by decide +kernel)]; kernel_rfl) | (rw [if_neg (by decide +kernel)]; exact ⟨rfl, rfl⟩))
    (fun os started H enc _ => lifted os started H enc)
theorem proved : Rows.FnPlaceRectSaid := over
end Go.Proofs.Ytfhjmmajhohkjab.lPlaceRect
