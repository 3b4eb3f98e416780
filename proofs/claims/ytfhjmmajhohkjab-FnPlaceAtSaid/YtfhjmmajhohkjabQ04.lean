import Derived.Test.YtfhjmmajhohkjabQ03
section
namespace Go.Proofs.Ytfhjmmajhohkjab
open Go.RowKit
set_option linter.unusedVariables false
set_option maxHeartbeats 1000000
attribute [local go_sem 5000] run_mx run_mn
attribute [local go_sem] growUpon_value growUpon_skip growUpon_enter
theorem bp_genQ {P : Program} {f : Func} {R : Ending → World → Prop} {e : Exit} {a : Act} {W : World} (F : World → Prop) (hF : F W) (h : ∀ W0, F W0 → bodyPost P f R e a W0) : bodyPost P f R e a W := h W hF
set_option maxRecDepth 100000 in
theorem placeRect_v (p : Plc) (w0 h0 : Int) (w : World) (hp : plB p = true) (hr : rqB w0 h0 = true) :
    Calls Try.prog 40 #[.agg #[.int .i64 p.x, .int .i64 p.y, .int .i64 p.rx, .int .i64 p.ry, .int .i64 p.ww, .int .i64 p.hh, .int .i64 p.qw, .int .i64 p.qh, .int .i64 p.an], .int .i64 w0, .int .i64 h0] w fun e w' => e = .returned (.agg #[.int .i64 (xM p w0), .int .i64 (yM p h0), .int .i64 (wM p w0), .int .i64 (hM p h0)]) ∧ Below w.heap.size w w' := by
  have HBD := Lib.hid (pl_bd hp hr)
  have HP := Lib.hid hp
  have hx0 := (Below.heap_alloc (w.alloc (.cells #[.int .i64 p.x, .int .i64 p.y, .int .i64 p.rx, .int .i64 p.ry, .int .i64 p.ww, .int .i64 p.hh, .int .i64 p.qw, .int .i64 p.qh, .int .i64 p.an] 24 (0, 0))) (.cells #[.int .i64 0, .int .i64 0, .int .i64 0, .int .i64 0] 31 (0, 0)) w.heap.size (by simp)).trans (new_q w (.cells #[.int .i64 p.x, .int .i64 p.y, .int .i64 p.rx, .int .i64 p.ry, .int .i64 p.ww, .int .i64 p.hh, .int .i64 p.qw, .int .i64 p.qh, .int .i64 p.an] 24 (0, 0)))
  have hy0 := newq1 w (.cells #[.int .i64 p.x, .int .i64 p.y, .int .i64 p.rx, .int .i64 p.ry, .int .i64 p.ww, .int .i64 p.hh, .int .i64 p.qw, .int .i64 p.qh, .int .i64 p.an] 24 (0, 0)) (.cells #[.int .i64 0, .int .i64 0, .int .i64 0, .int .i64 0] 31 (0, 0))
  have HX := Lib.hid hx0
  have HY := Lib.hid hy0
  have HB := Lib.hid (balloc (o := .cells #[.int .i64 0, .int .i64 0, .int .i64 0, .int .i64 0] 31 (0, 0)) (balloc (o := .cells #[.int .i64 p.x, .int .i64 p.y, .int .i64 p.rx, .int .i64 p.ry, .int .i64 p.ww, .int .i64 p.hh, .int .i64 p.qw, .int .i64 p.qh, .int .i64 p.an] 24 (0, 0)) (Below.refl w.heap.size w)))
  clear hx0 hy0
  go_enter Try.func40, Try.ntmps40
  go_wp2_with fail
  refine (fix_v w.heap.size p w0 h0 _ HX.out hp hr).mono ?_
  rintro e w2 ⟨⟨v, rfl⟩, hx, hg⟩
  replace HY := Lib.hid ((hg.block (w.heap.size + 1) (lt_q HY.out) (by simp)).trans HY.out)
  replace HB := Lib.hid (gnew_q HB.out hg (Nat.le_refl _))
  obtain ⟨⟨t1, t1'⟩, ⟨t2, t2'⟩, -, -, ⟨u1, u1'⟩, ⟨u2, u2'⟩, ⟨a1, a1'⟩, ⟨a2, a2'⟩, ⟨p1, p1', p1a, p1b⟩, ⟨p2, p2', p2a, p2b⟩⟩ := HBD.out
  obtain ⟨⟨b1, b1'⟩, ⟨b2, b2'⟩, -, -, -, -, -, -, ⟨b9, b9'⟩⟩ := plB_iff.1 HP.out
  obtain ⟨c0, c1, c2, c3, c4, c5, c6, c7, c8⟩ := c9_q hx
  have d0 := cl_q HY.out 0
  have d1 := cl_q HY.out 1
  have d2 := cl_q HY.out 2
  have d3 := cl_q HY.out 3
  have f0 := fz_q HY.out 0
  have f1 := fz_q HY.out 1
  have f2 := fz_q HY.out 2
  have f3 := fz_q HY.out 3
  have q := put_q (i := 3) (put_q (i := 2) (put_q (i := 1) (put_q (i := 0) HY.out (.int .i64 (xM p w0))) (.int .i64 (yM p h0))) (.int .i64 (wM p w0))) (.int .i64 (hM p h0))
  simp only [List.setIfInBounds_toArray, List.set_cons_succ, List.set_cons_zero] at q
  have HQ := Lib.hid q
  have HB2 := Lib.hid (bset (a := ⟨w.heap.size + 1, 3, none⟩) (u := .int .i64 (hM p h0)) (bset (a := ⟨w.heap.size + 1, 2, none⟩) (u := .int .i64 (wM p w0)) (bset (a := ⟨w.heap.size + 1, 1, none⟩) (u := .int .i64 (yM p h0)) (bset (a := ⟨w.heap.size + 1, 0, none⟩) (u := .int .i64 (xM p w0)) HB.out (by simp)) (by simp)) (by simp)) (by simp))
  clear hx hg HX hp hr q
  go_wp2_with fail
  refine bp_genQ (fun W => W.heap[w.heap.size + 1]? = some (.cells #[.int .i64 (xM p w0), .int .i64 (yM p h0), .int .i64 (wM p w0), .int .i64 (hM p h0)] 31 (0, 0)) ∧ Below w.heap.size w W) ⟨HQ.out, HB2.out⟩ ?_
  clear HQ HB2 HB HY c0 c1 c2 c3 c4 c5 c6 c7 c8 d0 d1 d2 d3 f0 f1 f2 f3
  rintro W ⟨hq, hb⟩
  have d0 := cl_q hq 0
  have d1 := cl_q hq 1
  have d2 := cl_q hq 2
  have d3 := cl_q hq 3
  exact bodyPost_ret (v := .agg #[.int .i64 (xM p w0), .int .i64 (yM p h0), .int .i64 (wM p w0), .int .i64 (hM p h0)]) (by simp only [results, Try.results40]; go_simp) rfl ⟨rfl, hb⟩
set_option maxRecDepth 100000 in
theorem placed_v (p : Plc) (w0 h0 : Int) (w : World) (hp : plB p = true) (hr : rqB w0 h0 = true) :
    Calls Try.prog 42 #[.agg #[.int .i64 p.x, .int .i64 p.y, .int .i64 p.rx, .int .i64 p.ry, .int .i64 p.ww, .int .i64 p.hh, .int .i64 p.qw, .int .i64 p.qh, .int .i64 p.an], .agg #[.int .i64 (0), .int .i64 (0), .int .i64 (w0), .int .i64 (h0)]] w fun e w' => e = .returned (.agg #[.int .i64 (xM p w0), .int .i64 (yM p h0), .int .i64 (wM p w0), .int .i64 (hM p h0)]) ∧ Below w.heap.size w w' := by
  have HBD := Lib.hid (pl_bd hp hr)
  obtain ⟨⟨b1, b1'⟩, ⟨b2, b2'⟩, ⟨b3, b3'⟩, ⟨b4, b4'⟩, ⟨b5, b5'⟩, ⟨b6, b6'⟩, ⟨b7, b7'⟩, ⟨b8, b8'⟩, ⟨b9, b9'⟩⟩ := plB_iff.1 hp
  obtain ⟨⟨r1, r1'⟩, ⟨r2, r2'⟩⟩ := rqB_iff.1 hr
  obtain ⟨⟨t1, t1'⟩, ⟨t2, t2'⟩, ⟨t3, t3'⟩, ⟨t4, t4'⟩, ⟨u1, u1'⟩, ⟨u2, u2'⟩, ⟨a1, a1'⟩, ⟨a2, a2'⟩, ⟨p1, p1', p1a, p1b⟩, ⟨p2, p2', p2a, p2b⟩⟩ := HBD.out
  have e1 : IntKind.i64.wrap (p.ww + thM p.qw w0) = p.ww + thM p.qw w0 := wr_q (by omega) (by omega)
  have e2 : IntKind.i64.wrap (p.hh + thM p.qh h0) = p.hh + thM p.qh h0 := wr_q (by omega) (by omega)
  have e3 : IntKind.i64.wrap (p.x + thM p.rx w0) = p.x + thM p.rx w0 := wr_q (by omega) (by omega)
  have e4 : IntKind.i64.wrap (p.y + thM p.ry h0) = p.y + thM p.ry h0 := wr_q (by omega) (by omega)
  have e5 : IntKind.i64.wrap (wM p w0 * (p.an % 3)) = wM p w0 * (p.an % 3) := wr_q (by omega) (by omega)
  have e6 : IntKind.i64.wrap (hM p h0 * (p.an / 3)) = hM p h0 * (p.an / 3) := wr_q (by omega) (by omega)
  have e7 : IntKind.i64.wrap (p.x + thM p.rx w0 - wM p w0 * (p.an % 3) / 2) = p.x + thM p.rx w0 - wM p w0 * (p.an % 3) / 2 := wr_q (by omega) (by omega)
  have e8 : IntKind.i64.wrap (p.y + thM p.ry h0 - hM p h0 * (p.an / 3) / 2) = p.y + thM p.ry h0 - hM p h0 * (p.an / 3) / 2 := wr_q (by omega) (by omega)
  have m1 : mx 0 (p.ww + thM p.qw w0) = wM p w0 := mx_comm _ _
  have m2 : mx 0 (p.hh + thM p.qh h0) = hM p h0 := mx_comm _ _
  have hx0 := ((Below.heap_alloc _ (.cells #[.int .i64 0, .int .i64 0, .int .i64 0, .int .i64 0] 31 (0, 0)) w.heap.size (by simp; omega)).trans ((Below.heap_alloc (w.alloc (.cells #[.int .i64 p.x, .int .i64 p.y, .int .i64 p.rx, .int .i64 p.ry, .int .i64 p.ww, .int .i64 p.hh, .int .i64 p.qw, .int .i64 p.qh, .int .i64 p.an] 24 (0, 0))) (.cells #[.int .i64 0, .int .i64 0, .int .i64 w0, .int .i64 h0] 31 (0, 0)) w.heap.size (by simp)).trans (new_q w (.cells #[.int .i64 p.x, .int .i64 p.y, .int .i64 p.rx, .int .i64 p.ry, .int .i64 p.ww, .int .i64 p.hh, .int .i64 p.qw, .int .i64 p.qh, .int .i64 p.an] 24 (0, 0)))))
  have hy0 := (Below.heap_alloc _ (.cells #[.int .i64 0, .int .i64 0, .int .i64 0, .int .i64 0] 31 (0, 0)) (w.heap.size + 1) (by simp)).trans (newq1 w (.cells #[.int .i64 p.x, .int .i64 p.y, .int .i64 p.rx, .int .i64 p.ry, .int .i64 p.ww, .int .i64 p.hh, .int .i64 p.qw, .int .i64 p.qh, .int .i64 p.an] 24 (0, 0)) (.cells #[.int .i64 0, .int .i64 0, .int .i64 w0, .int .i64 h0] 31 (0, 0)))
  have hz0 := newq2 w (.cells #[.int .i64 p.x, .int .i64 p.y, .int .i64 p.rx, .int .i64 p.ry, .int .i64 p.ww, .int .i64 p.hh, .int .i64 p.qw, .int .i64 p.qh, .int .i64 p.an] 24 (0, 0)) (.cells #[.int .i64 0, .int .i64 0, .int .i64 w0, .int .i64 h0] 31 (0, 0)) (.cells #[.int .i64 0, .int .i64 0, .int .i64 0, .int .i64 0] 31 (0, 0))
  have hB0 := balloc (o := .cells #[.int .i64 0, .int .i64 0, .int .i64 0, .int .i64 0] 31 (0, 0)) (balloc (o := .cells #[.int .i64 0, .int .i64 0, .int .i64 w0, .int .i64 h0] 31 (0, 0)) (balloc (o := .cells #[.int .i64 p.x, .int .i64 p.y, .int .i64 p.rx, .int .i64 p.ry, .int .i64 p.ww, .int .i64 p.hh, .int .i64 p.qw, .int .i64 p.qh, .int .i64 p.an] 24 (0, 0)) (Below.refl w.heap.size w)))
  have HX0 := Lib.hid hx0
  have HY0 := Lib.hid hy0
  have HZ0 := Lib.hid hz0
  have HB0 := Lib.hid hB0
  clear hp hr hx0 hy0 hz0 hB0
  go_enter Try.func42, Try.ntmps42
  go_wp2_with fail
  refine wp_genG3 (fun W => W.heap[w.heap.size]? = some (.cells #[.int .i64 p.x, .int .i64 p.y, .int .i64 p.rx, .int .i64 p.ry, .int .i64 p.ww, .int .i64 p.hh, .int .i64 p.qw, .int .i64 p.qh, .int .i64 p.an] 24 (0, 0)) ∧ W.heap[w.heap.size + 1]? = some (.cells #[.int .i64 0, .int .i64 0, .int .i64 w0, .int .i64 h0] 31 (0, 0)) ∧ W.heap[w.heap.size + 1 + 1]? = some (.cells #[.int .i64 0, .int .i64 0, .int .i64 0, .int .i64 0] 31 (0, 0)) ∧ Below w.heap.size w W) ⟨HX0.out, HY0.out, HZ0.out, HB0.out⟩ (fun w1 h1 => ?_)
  clear HX0 HY0 HZ0 HB0
  obtain ⟨hx, hy, hz, hb⟩ := h1
  have HX := Lib.hid hx
  have HY := Lib.hid hy
  have HZ := Lib.hid hz
  have HB := Lib.hid hb
  clear hx hy hz hb
  obtain ⟨c0, c1, c2, c3, c4, c5, c6, c7, c8⟩ := c9_q HX.out
  have d0 := cl_q HY.out 0
  have d1 := cl_q HY.out 1
  have d2 := cl_q HY.out 2
  have d3 := cl_q HY.out 3
  have lx := lt_q HX.out
  have ly := lt_q HY.out
  refine wp_region_grow 9 1 (· < 9) (by kernel_rfl) (by kernel_rfl) rfl ?_
  iterate 9 (refine wpG_step (fun K hK => ?_); first | (refine grow_skip rfl ?_; go_simp; refine hK _ ?_; clear hK K) | (apply Exists.intro; refine ⟨.inl ⟨rfl, fun w' hw' => ?_⟩, ?_⟩; (focus ((obtain ⟨hc, hf⟩ := bcell hw'.out); (have hcS := bcellS hw'.out); go_simp <;> first | rfl | (go_at_call 50; exact part_v _ _ _ (by assumption) (by assumption) (by assumption) (by assumption)))); (go_simp; refine hK _ ?_; clear hK K)))
  refine wpG_nil ?_
  refine wpK_tail (by kernel_rfl) (fun w2 hg2 => ?_)
  have hb2 := bdrewn hg2.out
  obtain ⟨hc2, hf2⟩ := bcell hb2
  refine wpAny_one (i := 9) (by kernel_rfl) rfl rfl ?_
  go_simp
  refine wpAny_end (by kernel_rfl) ?_
  refine NoPan.thn ?_
  clear hc2 hf2
  clear hg2
  clear c0 c1 c2 c3 c4 c5 c6 c7 c8 d0 d1 d2 d3 lx ly
  replace HX := Lib.hid ((hb2.block _ (Array.getElem?_eq_some_iff.1 HX.out).1).trans HX.out)
  replace HY := Lib.hid ((hb2.block _ (Array.getElem?_eq_some_iff.1 HY.out).1).trans HY.out)
  replace HZ := Lib.hid ((hb2.block _ (Array.getElem?_eq_some_iff.1 HZ.out).1).trans HZ.out)
  replace HB := Lib.hid (bkeep2 HB.out hb2)
  clear hb2
  obtain ⟨c0, c1, c2, c3, c4, c5, c6, c7, c8⟩ := c9_q HX.out
  have d0 := cl_q HY.out 0
  have d1 := cl_q HY.out 1
  have d2 := cl_q HY.out 2
  have d3 := cl_q HY.out 3
  have lx := lt_q HX.out
  have ly := lt_q HY.out
  go_wp2_with fail
  refine wp_region_grow 9 1 (· < 9) (by kernel_rfl) (by kernel_rfl) rfl ?_
  iterate 9 (refine wpG_step (fun K hK => ?_); first | (refine grow_skip rfl ?_; go_simp; refine hK _ ?_; clear hK K) | (apply Exists.intro; refine ⟨.inl ⟨rfl, fun w' hw' => ?_⟩, ?_⟩; (focus ((obtain ⟨hc, hf⟩ := bcell hw'.out); (have hcS := bcellS hw'.out); go_simp <;> first | rfl | (go_at_call 50; exact part_v _ _ _ (by assumption) (by assumption) (by assumption) (by assumption)))); (go_simp; refine hK _ ?_; clear hK K)))
  refine wpG_nil ?_
  refine wpK_tail (by kernel_rfl) (fun w3 hg3 => ?_)
  have hb3 := bdrewn hg3.out
  obtain ⟨hc3, hf3⟩ := bcell hb3
  refine wpAny_one (i := 9) (by kernel_rfl) rfl rfl ?_
  go_simp
  refine wpAny_end (by kernel_rfl) ?_
  refine NoPan.thn ?_
  clear hc3 hf3
  clear hg3
  clear c0 c1 c2 c3 c4 c5 c6 c7 c8 d0 d1 d2 d3 lx ly
  replace HX := Lib.hid ((hb3.block _ (Array.getElem?_eq_some_iff.1 HX.out).1).trans HX.out)
  replace HY := Lib.hid ((hb3.block _ (Array.getElem?_eq_some_iff.1 HY.out).1).trans HY.out)
  replace HZ := Lib.hid ((hb3.block _ (Array.getElem?_eq_some_iff.1 HZ.out).1).trans HZ.out)
  replace HB := Lib.hid (bkeep2 HB.out hb3)
  clear hb3
  obtain ⟨c0, c1, c2, c3, c4, c5, c6, c7, c8⟩ := c9_q HX.out
  have d0 := cl_q HY.out 0
  have d1 := cl_q HY.out 1
  have d2 := cl_q HY.out 2
  have d3 := cl_q HY.out 3
  have lx := lt_q HX.out
  have ly := lt_q HY.out
  go_wp2_with fail
  refine wp_region_grow 15 1 (· < 15) (by kernel_rfl) (by kernel_rfl) rfl ?_
  iterate 15 (refine wpG_step (fun K hK => ?_); first | (refine grow_skip rfl ?_; go_simp; refine hK _ ?_; clear hK K) | (apply Exists.intro; refine ⟨.inl ⟨rfl, fun w' hw' => ?_⟩, ?_⟩; (focus ((obtain ⟨hc, hf⟩ := bcell hw'.out); (have hcS := bcellS hw'.out); go_simp <;> first | rfl | (go_at_call 50; exact part_v _ _ _ (by assumption) (by assumption) (by assumption) (by assumption)))); (go_simp; refine hK _ ?_; clear hK K)))
  refine wpG_nil ?_
  refine wpK_tail (by kernel_rfl) (fun w4 hg4 => ?_)
  have hb4 := bdrewn hg4.out
  obtain ⟨hc4, hf4⟩ := bcell hb4
  refine wpAny_one (i := 15) (by kernel_rfl) rfl rfl ?_
  go_simp
  refine wpAny_end (by kernel_rfl) ?_
  refine NoPan.thn ?_
  clear hc4 hf4
  clear hg4
  clear c0 c1 c2 c3 c4 c5 c6 c7 c8 d0 d1 d2 d3 lx ly
  replace HX := Lib.hid ((hb4.block _ (Array.getElem?_eq_some_iff.1 HX.out).1).trans HX.out)
  replace HY := Lib.hid ((hb4.block _ (Array.getElem?_eq_some_iff.1 HY.out).1).trans HY.out)
  replace HZ := Lib.hid ((hb4.block _ (Array.getElem?_eq_some_iff.1 HZ.out).1).trans HZ.out)
  replace HB := Lib.hid (bkeep2 HB.out hb4)
  clear hb4
  obtain ⟨c0, c1, c2, c3, c4, c5, c6, c7, c8⟩ := c9_q HX.out
  have d0 := cl_q HY.out 0
  have d1 := cl_q HY.out 1
  have d2 := cl_q HY.out 2
  have d3 := cl_q HY.out 3
  have lx := lt_q HX.out
  have ly := lt_q HY.out
  go_wp2_with fail
  refine wp_region_grow 15 1 (· < 15) (by kernel_rfl) (by kernel_rfl) rfl ?_
  iterate 15 (refine wpG_step (fun K hK => ?_); first | (refine grow_skip rfl ?_; go_simp; refine hK _ ?_; clear hK K) | (apply Exists.intro; refine ⟨.inl ⟨rfl, fun w' hw' => ?_⟩, ?_⟩; (focus ((obtain ⟨hc, hf⟩ := bcell hw'.out); (have hcS := bcellS hw'.out); go_simp <;> first | rfl | (go_at_call 50; exact part_v _ _ _ (by assumption) (by assumption) (by assumption) (by assumption)))); (go_simp; refine hK _ ?_; clear hK K)))
  refine wpG_nil ?_
  refine wpK_tail (by kernel_rfl) (fun w5 hg5 => ?_)
  have hb5 := bdrewn hg5.out
  obtain ⟨hc5, hf5⟩ := bcell hb5
  refine wpAny_one (i := 15) (by kernel_rfl) rfl rfl ?_
  go_simp
  refine wpAny_end (by kernel_rfl) ?_
  refine NoPan.thn ?_
  clear hc5 hf5
  clear hg5
  clear c0 c1 c2 c3 c4 c5 c6 c7 c8 d0 d1 d2 d3 lx ly
  replace HX := Lib.hid ((hb5.block _ (Array.getElem?_eq_some_iff.1 HX.out).1).trans HX.out)
  replace HY := Lib.hid ((hb5.block _ (Array.getElem?_eq_some_iff.1 HY.out).1).trans HY.out)
  replace HZ := Lib.hid ((hb5.block _ (Array.getElem?_eq_some_iff.1 HZ.out).1).trans HZ.out)
  replace HB := Lib.hid (bkeep2 HB.out hb5)
  clear hb5
  obtain ⟨c0, c1, c2, c3, c4, c5, c6, c7, c8⟩ := c9_q HX.out
  have d0 := cl_q HY.out 0
  have d1 := cl_q HY.out 1
  have d2 := cl_q HY.out 2
  have d3 := cl_q HY.out 3
  have lx := lt_q HX.out
  have ly := lt_q HY.out
  have z0 := cl_q HZ.out 0
  have z1 := cl_q HZ.out 1
  have z2 := cl_q HZ.out 2
  have z3 := cl_q HZ.out 3
  have f0 := fz_q HZ.out 0
  have f1 := fz_q HZ.out 1
  have f2 := fz_q HZ.out 2
  have f3 := fz_q HZ.out 3
  have q := put_q (i := 3) (put_q (i := 2) (put_q (i := 1) (put_q (i := 0) HZ.out (.int .i64 (xM p w0))) (.int .i64 (yM p h0))) (.int .i64 (wM p w0))) (.int .i64 (hM p h0))
  simp only [List.setIfInBounds_toArray, List.set_cons_succ, List.set_cons_zero] at q
  have HQ := Lib.hid q
  have HB2 := Lib.hid (bset (a := ⟨w.heap.size + 1 + 1, 3, none⟩) (u := .int .i64 (hM p h0)) (bset (a := ⟨w.heap.size + 1 + 1, 2, none⟩) (u := .int .i64 (wM p w0)) (bset (a := ⟨w.heap.size + 1 + 1, 1, none⟩) (u := .int .i64 (yM p h0)) (bset (a := ⟨w.heap.size + 1 + 1, 0, none⟩) (u := .int .i64 (xM p w0)) HB.out (by simp; omega)) (by simp; omega)) (by simp; omega)) (by simp; omega))
  clear q
  go_wp2_with fail
  refine bp_genQ (fun W => W.heap[w.heap.size + 1 + 1]? = some (.cells #[.int .i64 (xM p w0), .int .i64 (yM p h0), .int .i64 (wM p w0), .int .i64 (hM p h0)] 31 (0, 0)) ∧ Below w.heap.size w W) ⟨HQ.out, HB2.out⟩ ?_
  clear HQ HB2 HB HY HX HZ z0 z1 z2 z3 f0 f1 f2 f3
  clear c0 c1 c2 c3 c4 c5 c6 c7 c8 d0 d1 d2 d3 lx ly
  rintro W ⟨hq, hb⟩
  have d0 := cl_q hq 0
  have d1 := cl_q hq 1
  have d2 := cl_q hq 2
  have d3 := cl_q hq 3
  exact bodyPost_ret (v := .agg #[.int .i64 (xM p w0), .int .i64 (yM p h0), .int .i64 (wM p w0), .int .i64 (hM p h0)]) (by simp only [results, Try.results42]; go_simp) rfl ⟨rfl, hb⟩
end Go.Proofs.Ytfhjmmajhohkjab
end
section
namespace Go.Proofs.Ytfhjmmajhohkjab
open Go.RowKit
set_option linter.unusedVariables false
attribute [local go_sem 5000] run_mx run_mn
attribute [local go_sem] growUpon_value growUpon_skip growUpon_enter
set_option maxHeartbeats 1000000
end Go.Proofs.Ytfhjmmajhohkjab
end
section
namespace Go.Proofs.Ytfhjmmajhohkjab
open Go.RowKit
set_option linter.unusedVariables false
set_option maxHeartbeats 1000000
attribute [local go_sem 5000] run_mx run_mn run_eqlR run_neqR
attribute [local go_sem] growUpon_value growUpon_skip growUpon_enter
theorem validRoom_q (u v : Int) (b : Bool) (w : World) (hb : rqB u v = b) : Calls Try.prog 39 #[.int .i64 u, .int .i64 v] w fun e w' => e = .returned (.bool b) ∧ w = w' := by
  cases h1 : rng u 0 400
  · have hbf : false = b := by rw [← hb]; simp [rqB, h1]
    subst hbf
    go_enter Try.func39, Try.ntmps39
    go_wp2_with fail
    with_reducible refine (within_q _ _ _ false _ h1).mono ?_
    rintro e w2 ⟨rfl, rfl⟩
    go_wp2
    go_ret
    exact ⟨rfl, rfl⟩
  · have h2 : rng v 0 400 = b := by rw [← hb]; simp [rqB, h1]
    cases b
    all_goals
      go_enter Try.func39, Try.ntmps39
      go_wp2_with fail
      with_reducible refine (within_q _ _ _ true _ h1).mono ?_
      rintro e w2 ⟨rfl, rfl⟩
      go_wp2_with fail
      with_reducible refine (within_q _ _ _ _ _ h2).mono ?_
      rintro e w2 ⟨rfl, rfl⟩
      go_wp2
      go_ret
      exact ⟨rfl, rfl⟩
theorem goodRoom_q (u v : Int) (b : Bool) (w : World) (hb : rqB u v = b) : Calls Try.prog 41 #[.int .i64 u, .int .i64 v] w fun e w' => e = .returned (.bool b) ∧ w = w' := by
  cases h1 : rng u 0 400
  · have hbf : false = b := by rw [← hb]; simp [rqB, h1]
    subst hbf
    go_enter Try.func41, Try.ntmps41
    go_wp2_with fail
    with_reducible refine (inRange_q _ _ _ false _ h1).mono ?_
    rintro e w2 ⟨rfl, rfl⟩
    go_wp2
    go_ret
    exact ⟨rfl, rfl⟩
  · have h2 : rng v 0 400 = b := by rw [← hb]; simp [rqB, h1]
    cases b
    all_goals
      go_enter Try.func41, Try.ntmps41
      go_wp2_with fail
      with_reducible refine (inRange_q _ _ _ true _ h1).mono ?_
      rintro e w2 ⟨rfl, rfl⟩
      go_wp2_with fail
      with_reducible refine (inRange_q _ _ _ _ _ h2).mono ?_
      rintro e w2 ⟨rfl, rfl⟩
      go_wp2
      go_ret
      exact ⟨rfl, rfl⟩
set_option maxRecDepth 100000 in
theorem cover_s (x y u v x' y' u' v' : Int) (w : World) (h1 : Sq x y u v) (h2 : Sq x' y' u' v') :
    Calls Try.prog 57 #[.agg #[.int .i64 (x), .int .i64 (y), .int .i64 (u), .int .i64 (v)], .agg #[.int .i64 (x'), .int .i64 (y'), .int .i64 (u'), .int .i64 (v')]] w fun e w' => e = .returned (.agg #[.int .i64 (mn x x'), .int .i64 (mn y y'), .int .i64 (mx (x + u) (x' + u') - mn x x'), .int .i64 (mx (y + v) (y' + v') - mn y y')]) ∧ Below w.heap.size w w' := by
  obtain ⟨S3, -⟩ := h1.cover h2
  have S1 := h1.sm
  have S2 := h2.sm
  clear h1 h2
  go_enter Try.func57, Try.ntmps57
  go_wp2_with fail
  refine wp_region_grow 21 1 (· < 21) (by kernel_rfl) (by kernel_rfl) rfl ?_
  iterate 21 (refine wpG_step (fun K hK => ?_); apply Exists.intro; refine ⟨.inl ⟨rfl, fun w' hw' => ?_⟩, ?_⟩; (focus ((obtain ⟨hc, hf⟩ := bcell hw'.out); (have hcS := bcellS hw'.out); go_simp <;> first | rfl | (go_at_call 59; exact right_any _ _ _ _ _ (by assumption)) | (go_at_call 60; exact bottom_any _ _ _ _ _ (by assumption)) | (go_at_call 58; exact corners_any _ _ _ _ _ (by assumption)))); (go_simp; refine hK _ ?_; clear hK K))
  refine wpG_nil ?_
  refine wpK_tail (by kernel_rfl) (fun wt1 ht1 => ?_)
  obtain ⟨hct1, hft1⟩ := bcell ht1.out
  refine wpAny_one (i := 21) (by kernel_rfl) rfl rfl ?_
  go_simp
  refine wpAny_end (by kernel_rfl) ?_
  refine NoPan.thn ?_
  go_wp2
  exact bodyPost_ret (v := .agg #[.int .i64 (mn x x'), .int .i64 (mn y y'), .int .i64 (mx (x + u) (x' + u') - mn x x'), .int .i64 (mx (y + v) (y' + v') - mn y y')]) (by simp only [results, Try.results57]; go_simp) rfl ⟨rfl, (by repeat (first | with_reducible exact Below.refl _ _ | with_reducible assumption | with_reducible refine balloc ?_ | (with_reducible refine bset ?_ ?_; rotate_left; ((try dsimp only); omega)) | refine bkeep2 ?_ (by assumption) | with_reducible refine Below.drew ?_))⟩
set_option maxRecDepth 100000 in
theorem holds_s (x y u v x' y' u' v' : Int) (t : Bool) (w : World) (h1 : Sq x y u v) (h2 : Sq x' y' u' v') (ht : insB x y u v x' y' u' v' = t) :
    Calls Try.prog 55 #[.agg #[.int .i64 (x), .int .i64 (y), .int .i64 (u), .int .i64 (v)], .agg #[.int .i64 (x'), .int .i64 (y'), .int .i64 (u'), .int .i64 (v')]] w fun e w' => e = .returned (.bool t) ∧ Below w.heap.size w w' := by
  subst ht
  go_enter Try.func55, Try.ntmps55
  go_wp2_with fail
  refine wp_region_grow 5 1 (· < 5) (by kernel_rfl) (by kernel_rfl) rfl ?_
  iterate 5 (refine wpG_step (fun K hK => ?_); apply Exists.intro; refine ⟨.inl ⟨rfl, fun w' hw' => ?_⟩, ?_⟩; (focus ((obtain ⟨hc, hf⟩ := bcell hw'.out); (have hcS := bcellS hw'.out); go_simp <;> first | rfl | (go_at_call 57; exact cover_s _ _ _ _ _ _ _ _ _ h1 h2))); (go_simp; refine hK _ ?_; clear hK K))
  refine wpG_nil ?_
  refine wpK_tail (by kernel_rfl) (fun wt1 ht1 => ?_)
  obtain ⟨hct1, hft1⟩ := bcell ht1.out
  refine wpAny_one (i := 5) (by kernel_rfl) rfl rfl ?_
  go_simp
  refine wpAny_end (by kernel_rfl) ?_
  refine NoPan.thn ?_
  go_wp2
  go_ret
  exact ⟨ret_bool (by rw [Bool.eq_iff_iff, eqR_iff, insB_iff]; exact holds_all), (by repeat (first | with_reducible exact Below.refl _ _ | with_reducible assumption | with_reducible refine balloc ?_ | (with_reducible refine bset ?_ ?_; rotate_left; ((try dsimp only); omega)) | refine bkeep2 ?_ (by assumption) | with_reducible refine Below.drew ?_))⟩
set_option maxRecDepth 100000 in
theorem sinside_s (x y u v x' y' u' v' : Int) (t : Bool) (w : World) (h1 : Sq x y u v) (h2 : Sq x' y' u' v') (ht : insB x y u v x' y' u' v' = t) : Calls Try.prog 44 #[.agg #[.int .i64 (x), .int .i64 (y), .int .i64 (u), .int .i64 (v)], .agg #[.int .i64 (x'), .int .i64 (y'), .int .i64 (u'), .int .i64 (v')]] w fun e w' => e = .returned (.bool t) ∧ Below w.heap.size w w' := by
  subst ht
  obtain ⟨⟨a1, a2⟩, ⟨a3, a4⟩, ⟨a5, a6⟩, ⟨a7, a8⟩⟩ := h1
  obtain ⟨⟨b1, b2⟩, ⟨b3, b4⟩, ⟨b5, b6⟩, ⟨b7, b8⟩⟩ := h2
  by_cases g1 : x ≤ x' <;> by_cases g2 : y ≤ y' <;> by_cases g3 : x' + u' ≤ x + u <;> by_cases g4 : y' + v' ≤ y + v
  all_goals
    go_enter Try.func44, Try.ntmps44
    go_wp2
    go_ret
    exact ⟨ret_bool (by (first | (refine Eq.symm (insB_not.2 ?_); omega) | (refine Eq.symm (insB_iff.2 ?_); omega) | (rw [Bool.eq_iff_iff, insB_iff]; simp only [decide_eq_true_eq]; omega))), (by repeat (first | with_reducible exact Below.refl _ _ | with_reducible assumption | with_reducible refine balloc ?_ | (with_reducible refine bset ?_ ?_; rotate_left; ((try dsimp only); omega)) | refine bkeep2 ?_ (by assumption) | with_reducible refine Below.drew ?_))⟩
set_option maxRecDepth 100000 in
theorem PlaceRect_no (p : Plc) (w0 h0 : Int) (w : World) (h : prB p w0 h0 = false) : Calls Try.prog 13 #[.agg #[.int .i64 p.x, .int .i64 p.y, .int .i64 p.rx, .int .i64 p.ry, .int .i64 p.ww, .int .i64 p.hh, .int .i64 p.qw, .int .i64 p.qh, .int .i64 p.an], .int .i64 w0, .int .i64 h0] w fun e w' => e = .returned (.agg #[.int .i64 (0), .int .i64 (0), .int .i64 (0), .int .i64 (0)]) ∧ Below w.heap.size w w' := by
  cases h1 : plB p
  · go_enter Try.func13, Try.ntmps13
    go_wp2_with fail
    with_reducible refine (validPlace_t p false _ h1).mono ?_
    rintro e w1 ⟨rfl, hb⟩
    obtain ⟨hc, hf⟩ := bcell hb; (first | (replace hB := bkeep2 hB hb) | (replace hB := bkeep2 (balloc hB) hb) | (replace hB := bkeep2 (balloc (balloc hB)) hb) | have hB := hb); obtain ⟨hC, hF, hZ, hN⟩ := bcell4 hB; (try (have hlt := Nat.lt_of_lt_of_le hlt hb.size; have hne := Nat.ne_of_lt hlt)); (have hs0 := hb.size); (try simp only [World.size_alloc] at hs0); (try (have hlt := Nat.lt_of_succ_le hs0; have hne := Nat.ne_of_lt hlt))
    go_wp2
    exact bodyPost_ret (v := .agg #[.int .i64 (0), .int .i64 (0), .int .i64 (0), .int .i64 (0)]) (by simp only [results, Try.results13]; go_simp) rfl ⟨rfl, (by repeat (first | with_reducible exact Below.refl _ _ | with_reducible assumption | with_reducible refine balloc ?_ | (with_reducible refine bset ?_ ?_; rotate_left; ((try dsimp only); omega)) | refine bkeep2 ?_ (by assumption) | with_reducible refine Below.drew ?_))⟩
  · have h2 : rqB w0 h0 = false := by simpa [prB, h1] using h
    go_enter Try.func13, Try.ntmps13
    go_wp2_with fail
    with_reducible refine (validPlace_t p true _ h1).mono ?_
    rintro e w1 ⟨rfl, hb⟩
    obtain ⟨hc, hf⟩ := bcell hb; (first | (replace hB := bkeep2 hB hb) | (replace hB := bkeep2 (balloc hB) hb) | (replace hB := bkeep2 (balloc (balloc hB)) hb) | have hB := hb); obtain ⟨hC, hF, hZ, hN⟩ := bcell4 hB; (try (have hlt := Nat.lt_of_lt_of_le hlt hb.size; have hne := Nat.ne_of_lt hlt)); (have hs0 := hb.size); (try simp only [World.size_alloc] at hs0); (try (have hlt := Nat.lt_of_succ_le hs0; have hne := Nat.ne_of_lt hlt))
    go_wp2_with fail
    with_reducible refine (validRoom_q _ _ false _ h2).mono ?_
    rintro e w2 ⟨rfl, rfl⟩
    go_wp2
    exact bodyPost_ret (v := .agg #[.int .i64 (0), .int .i64 (0), .int .i64 (0), .int .i64 (0)]) (by simp only [results, Try.results13]; go_simp) rfl ⟨rfl, (by repeat (first | with_reducible exact Below.refl _ _ | with_reducible assumption | with_reducible refine balloc ?_ | (with_reducible refine bset ?_ ?_; rotate_left; ((try dsimp only); omega)) | refine bkeep2 ?_ (by assumption) | with_reducible refine Below.drew ?_))⟩
set_option maxRecDepth 100000 in
theorem PlaceRect_yes (p : Plc) (w0 h0 : Int) (w : World) (h : prB p w0 h0 = true) : Calls Try.prog 13 #[.agg #[.int .i64 p.x, .int .i64 p.y, .int .i64 p.rx, .int .i64 p.ry, .int .i64 p.ww, .int .i64 p.hh, .int .i64 p.qw, .int .i64 p.qh, .int .i64 p.an], .int .i64 w0, .int .i64 h0] w fun e w' => e = .returned (.agg #[.int .i64 (xM p w0), .int .i64 (yM p h0), .int .i64 (wM p w0), .int .i64 (hM p h0)]) ∧ Below w.heap.size w w' := by
  obtain ⟨h1, h2⟩ := prB_yes h
  have HX := Lib.hid (oldq1 w (.cells #[.int .i64 p.x, .int .i64 p.y, .int .i64 p.rx, .int .i64 p.ry, .int .i64 p.ww, .int .i64 p.hh, .int .i64 p.qw, .int .i64 p.qh, .int .i64 p.an] 24) (.cells #[.int .i64 0, .int .i64 0, .int .i64 0, .int .i64 0] 31))
  have HY := Lib.hid (newq1 w (.cells #[.int .i64 p.x, .int .i64 p.y, .int .i64 p.rx, .int .i64 p.ry, .int .i64 p.ww, .int .i64 p.hh, .int .i64 p.qw, .int .i64 p.qh, .int .i64 p.an] 24) (.cells #[.int .i64 0, .int .i64 0, .int .i64 0, .int .i64 0] 31))
  have HB := Lib.hid (balloc (o := .cells #[.int .i64 0, .int .i64 0, .int .i64 0, .int .i64 0] 31) (balloc (o := .cells #[.int .i64 p.x, .int .i64 p.y, .int .i64 p.rx, .int .i64 p.ry, .int .i64 p.ww, .int .i64 p.hh, .int .i64 p.qw, .int .i64 p.qh, .int .i64 p.an] 24) (Below.refl w.heap.size w)))
  go_enter Try.func13, Try.ntmps13
  go_wp2_with fail
  with_reducible refine (validPlace_t p true _ h1).mono ?_
  rintro e w1 ⟨rfl, hb⟩
  replace HX := Lib.hid ((hb.block _ (Array.getElem?_eq_some_iff.1 HX.out).1).trans HX.out)
  replace HY := Lib.hid ((hb.block _ (Array.getElem?_eq_some_iff.1 HY.out).1).trans HY.out)
  replace HB := Lib.hid (bkeep2 HB.out hb)
  clear hb
  obtain ⟨c0, c1, c2, c3, c4, c5, c6, c7, c8⟩ := c9_q HX.out
  go_wp2_with fail
  with_reducible refine (validRoom_q _ _ true _ h2).mono ?_
  rintro e w2 ⟨rfl, rfl⟩
  go_wp2_with fail
  with_reducible refine (placeRect_v p w0 h0 _ h1 h2).mono ?_
  rintro e w3 ⟨rfl, hb⟩
  replace HY := Lib.hid ((hb.block _ (Array.getElem?_eq_some_iff.1 HY.out).1).trans HY.out)
  replace HB := Lib.hid (bkeep2 HB.out hb)
  clear hb
  have d0 := cl_q HY.out 0
  have d1 := cl_q HY.out 1
  have d2 := cl_q HY.out 2
  have d3 := cl_q HY.out 3
  have f0 := fz_q HY.out 0
  have f1 := fz_q HY.out 1
  have f2 := fz_q HY.out 2
  have f3 := fz_q HY.out 3
  have q := put_q (i := 3) (put_q (i := 2) (put_q (i := 1) (put_q (i := 0) HY.out (.int .i64 (xM p w0))) (.int .i64 (yM p h0))) (.int .i64 (wM p w0))) (.int .i64 (hM p h0))
  simp only [List.setIfInBounds_toArray, List.set_cons_succ, List.set_cons_zero] at q
  have HQ := Lib.hid q
  have HB2 := Lib.hid (bset (a := ⟨w.heap.size + 1, 3, none⟩) (u := .int .i64 (hM p h0)) (bset (a := ⟨w.heap.size + 1, 2, none⟩) (u := .int .i64 (wM p w0)) (bset (a := ⟨w.heap.size + 1, 1, none⟩) (u := .int .i64 (yM p h0)) (bset (a := ⟨w.heap.size + 1, 0, none⟩) (u := .int .i64 (xM p w0)) HB.out (by simp)) (by simp)) (by simp)) (by simp))
  clear q
  go_wp2_with fail
  refine bp_genQ (fun W => W.heap[w.heap.size + 1]? = some (.cells #[.int .i64 (xM p w0), .int .i64 (yM p h0), .int .i64 (wM p w0), .int .i64 (hM p h0)] 31 (0, 0)) ∧ Below w.heap.size w W) ⟨HQ.out, HB2.out⟩ ?_
  clear HQ HB2 HB HY HX d0 d1 d2 d3 f0 f1 f2 f3 c0 c1 c2 c3 c4 c5 c6 c7 c8
  rintro W ⟨hq, hb⟩
  have d0 := cl_q hq 0
  have d1 := cl_q hq 1
  have d2 := cl_q hq 2
  have d3 := cl_q hq 3
  exact bodyPost_ret (v := .agg #[.int .i64 (xM p w0), .int .i64 (yM p h0), .int .i64 (wM p w0), .int .i64 (hM p h0)]) (by simp only [results, Try.results13]; go_simp) rfl ⟨rfl, hb⟩
set_option maxRecDepth 100000 in
theorem sPlaceRect_no (p : Plc) (w0 h0 : Int) (w : World) (h : prB p w0 h0 = false) : Calls Try.prog 15 #[.agg #[.int .i64 p.x, .int .i64 p.y, .int .i64 p.rx, .int .i64 p.ry, .int .i64 p.ww, .int .i64 p.hh, .int .i64 p.qw, .int .i64 p.qh, .int .i64 p.an], .int .i64 w0, .int .i64 h0] w fun e w' => e = .returned (.agg #[.int .i64 (0), .int .i64 (0), .int .i64 (0), .int .i64 (0)]) ∧ Below w.heap.size w w' := by
  cases h1 : plB p
  · go_enter Try.func15, Try.ntmps15
    go_wp2_with fail
    with_reducible refine (svalidPlace_t p false _ h1).mono ?_
    rintro e w1 ⟨rfl, hb⟩
    obtain ⟨hc, hf⟩ := bcell hb; (first | (replace hB := bkeep2 hB hb) | (replace hB := bkeep2 (balloc hB) hb) | (replace hB := bkeep2 (balloc (balloc hB)) hb) | have hB := hb); obtain ⟨hC, hF, hZ, hN⟩ := bcell4 hB; (try (have hlt := Nat.lt_of_lt_of_le hlt hb.size; have hne := Nat.ne_of_lt hlt)); (have hs0 := hb.size); (try simp only [World.size_alloc] at hs0); (try (have hlt := Nat.lt_of_succ_le hs0; have hne := Nat.ne_of_lt hlt))
    go_wp2
    exact bodyPost_ret (v := .agg #[.int .i64 (0), .int .i64 (0), .int .i64 (0), .int .i64 (0)]) (by simp only [results, Try.results15]; go_simp) rfl ⟨rfl, (by repeat (first | with_reducible exact Below.refl _ _ | with_reducible assumption | with_reducible refine balloc ?_ | (with_reducible refine bset ?_ ?_; rotate_left; ((try dsimp only); omega)) | refine bkeep2 ?_ (by assumption) | with_reducible refine Below.drew ?_))⟩
  · have h2 : rqB w0 h0 = false := by simpa [prB, h1] using h
    go_enter Try.func15, Try.ntmps15
    go_wp2_with fail
    with_reducible refine (svalidPlace_t p true _ h1).mono ?_
    rintro e w1 ⟨rfl, hb⟩
    obtain ⟨hc, hf⟩ := bcell hb; (first | (replace hB := bkeep2 hB hb) | (replace hB := bkeep2 (balloc hB) hb) | (replace hB := bkeep2 (balloc (balloc hB)) hb) | have hB := hb); obtain ⟨hC, hF, hZ, hN⟩ := bcell4 hB; (try (have hlt := Nat.lt_of_lt_of_le hlt hb.size; have hne := Nat.ne_of_lt hlt)); (have hs0 := hb.size); (try simp only [World.size_alloc] at hs0); (try (have hlt := Nat.lt_of_succ_le hs0; have hne := Nat.ne_of_lt hlt))
    go_wp2_with fail
    with_reducible refine (goodRoom_q _ _ false _ h2).mono ?_
    rintro e w2 ⟨rfl, rfl⟩
    go_wp2
    exact bodyPost_ret (v := .agg #[.int .i64 (0), .int .i64 (0), .int .i64 (0), .int .i64 (0)]) (by simp only [results, Try.results15]; go_simp) rfl ⟨rfl, (by repeat (first | with_reducible exact Below.refl _ _ | with_reducible assumption | with_reducible refine balloc ?_ | (with_reducible refine bset ?_ ?_; rotate_left; ((try dsimp only); omega)) | refine bkeep2 ?_ (by assumption) | with_reducible refine Below.drew ?_))⟩
set_option maxRecDepth 100000 in
theorem sPlaceRect_yes (p : Plc) (w0 h0 : Int) (w : World) (h : prB p w0 h0 = true) : Calls Try.prog 15 #[.agg #[.int .i64 p.x, .int .i64 p.y, .int .i64 p.rx, .int .i64 p.ry, .int .i64 p.ww, .int .i64 p.hh, .int .i64 p.qw, .int .i64 p.qh, .int .i64 p.an], .int .i64 w0, .int .i64 h0] w fun e w' => e = .returned (.agg #[.int .i64 (xM p w0), .int .i64 (yM p h0), .int .i64 (wM p w0), .int .i64 (hM p h0)]) ∧ Below w.heap.size w w' := by
  obtain ⟨h1, h2⟩ := prB_yes h
  have HX := Lib.hid (oldq1 w (.cells #[.int .i64 p.x, .int .i64 p.y, .int .i64 p.rx, .int .i64 p.ry, .int .i64 p.ww, .int .i64 p.hh, .int .i64 p.qw, .int .i64 p.qh, .int .i64 p.an] 24) (.cells #[.int .i64 0, .int .i64 0, .int .i64 0, .int .i64 0] 31))
  have HY := Lib.hid (newq1 w (.cells #[.int .i64 p.x, .int .i64 p.y, .int .i64 p.rx, .int .i64 p.ry, .int .i64 p.ww, .int .i64 p.hh, .int .i64 p.qw, .int .i64 p.qh, .int .i64 p.an] 24) (.cells #[.int .i64 0, .int .i64 0, .int .i64 0, .int .i64 0] 31))
  have HB := Lib.hid (balloc (o := .cells #[.int .i64 0, .int .i64 0, .int .i64 0, .int .i64 0] 31) (balloc (o := .cells #[.int .i64 p.x, .int .i64 p.y, .int .i64 p.rx, .int .i64 p.ry, .int .i64 p.ww, .int .i64 p.hh, .int .i64 p.qw, .int .i64 p.qh, .int .i64 p.an] 24) (Below.refl w.heap.size w)))
  go_enter Try.func15, Try.ntmps15
  go_wp2_with fail
  with_reducible refine (svalidPlace_t p true _ h1).mono ?_
  rintro e w1 ⟨rfl, hb⟩
  replace HX := Lib.hid ((hb.block _ (Array.getElem?_eq_some_iff.1 HX.out).1).trans HX.out)
  replace HY := Lib.hid ((hb.block _ (Array.getElem?_eq_some_iff.1 HY.out).1).trans HY.out)
  replace HB := Lib.hid (bkeep2 HB.out hb)
  clear hb
  obtain ⟨c0, c1, c2, c3, c4, c5, c6, c7, c8⟩ := c9_q HX.out
  go_wp2_with fail
  with_reducible refine (goodRoom_q _ _ true _ h2).mono ?_
  rintro e w2 ⟨rfl, rfl⟩
  go_wp2_with fail
  with_reducible refine (placed_v p w0 h0 _ h1 h2).mono ?_
  rintro e w3 ⟨rfl, hb⟩
  replace HY := Lib.hid ((hb.block _ (Array.getElem?_eq_some_iff.1 HY.out).1).trans HY.out)
  replace HB := Lib.hid (bkeep2 HB.out hb)
  clear hb
  have d0 := cl_q HY.out 0
  have d1 := cl_q HY.out 1
  have d2 := cl_q HY.out 2
  have d3 := cl_q HY.out 3
  have f0 := fz_q HY.out 0
  have f1 := fz_q HY.out 1
  have f2 := fz_q HY.out 2
  have f3 := fz_q HY.out 3
  have q := put_q (i := 3) (put_q (i := 2) (put_q (i := 1) (put_q (i := 0) HY.out (.int .i64 (xM p w0))) (.int .i64 (yM p h0))) (.int .i64 (wM p w0))) (.int .i64 (hM p h0))
  simp only [List.setIfInBounds_toArray, List.set_cons_succ, List.set_cons_zero] at q
  have HQ := Lib.hid q
  have HB2 := Lib.hid (bset (a := ⟨w.heap.size + 1, 3, none⟩) (u := .int .i64 (hM p h0)) (bset (a := ⟨w.heap.size + 1, 2, none⟩) (u := .int .i64 (wM p w0)) (bset (a := ⟨w.heap.size + 1, 1, none⟩) (u := .int .i64 (yM p h0)) (bset (a := ⟨w.heap.size + 1, 0, none⟩) (u := .int .i64 (xM p w0)) HB.out (by simp)) (by simp)) (by simp)) (by simp))
  clear q
  go_wp2_with fail
  refine bp_genQ (fun W => W.heap[w.heap.size + 1]? = some (.cells #[.int .i64 (xM p w0), .int .i64 (yM p h0), .int .i64 (wM p w0), .int .i64 (hM p h0)] 31 (0, 0)) ∧ Below w.heap.size w W) ⟨HQ.out, HB2.out⟩ ?_
  clear HQ HB2 HB HY HX d0 d1 d2 d3 f0 f1 f2 f3 c0 c1 c2 c3 c4 c5 c6 c7 c8
  rintro W ⟨hq, hb⟩
  have d0 := cl_q hq 0
  have d1 := cl_q hq 1
  have d2 := cl_q hq 2
  have d3 := cl_q hq 3
  exact bodyPost_ret (v := .agg #[.int .i64 (xM p w0), .int .i64 (yM p h0), .int .i64 (wM p w0), .int .i64 (hM p h0)]) (by simp only [results, Try.results15]; go_simp) rfl ⟨rfl, hb⟩
end Go.Proofs.Ytfhjmmajhohkjab
end
section
set_option linter.unusedVariables false
namespace Go.Proofs.Ytfhjmmajhohkjab
/-- an item that is packed -/
structure Pk where
  w : Int
  h : Int
  s : Int
  fx : Bool
  fy : Bool
  ex : Bool
  an : Int
  px : Int
  py : Int
/-- it is valid -/
def vpB (w h s an px py : Int) : Bool := rng w 0 30 && (rng h 0 30 && (rng s 0 3 && (rng an 0 8 && (rng px 0 10 && rng py 0 10))))
theorem vpB_iff {w h s an px py : Int} : vpB w h s an px py = true ↔ ((0 ≤ w ∧ w ≤ 30) ∧ (0 ≤ h ∧ h ≤ 30) ∧ (0 ≤ s ∧ s ≤ 3) ∧ (0 ≤ an ∧ an ≤ 8) ∧ (0 ≤ px ∧ px ≤ 10) ∧ (0 ≤ py ∧ py ≤ 10)) := by
  simp only [vpB, Bool.and_eq_true, rng_iff]
theorem vp_n1 {w h s an px py : Int} (h1 : rng w 0 30 = false) : vpB w h s an px py = false := by simp [vpB, h1]
theorem vp_n2 {w h s an px py : Int} (h1 : rng h 0 30 = false) : vpB w h s an px py = false := by simp [vpB, h1]
theorem vp_n3 {w h s an px py : Int} (h1 : rng s 0 3 = false) : vpB w h s an px py = false := by simp [vpB, h1]
theorem vp_n4 {w h s an px py : Int} (h1 : rng an 0 8 = false) : vpB w h s an px py = false := by simp [vpB, h1]
theorem vp_n5 {w h s an px py : Int} (h1 : rng px 0 10 = false) : vpB w h s an px py = false := by simp [vpB, h1]
theorem vp_n6 {w h s an px py : Int} (h1 : rng w 0 30 = true) (h2 : rng h 0 30 = true) (h3 : rng s 0 3 = true) (h4 : rng an 0 8 = true) (h5 : rng px 0 10 = true) : vpB w h s an px py = rng py 0 10 := by simp [vpB, h1, h2, h3, h4, h5]
end Go.Proofs.Ytfhjmmajhohkjab
end
section
namespace Go.Proofs.Ytfhjmmajhohkjab
open Go.RowKit
set_option linter.unusedVariables false
set_option maxHeartbeats 1000000
theorem pvalidAnchor_any (k : Int) (w : World) : Calls Try.prog 36 #[.int .i64 k] w fun e w' => e = .returned (.bool (rng k 0 8)) ∧ w = w' := by
  go_enter Try.func36, Try.ntmps36
  go_wp2_with (go_at_call 53; refine (within_any _ _ _ _).mono ?_; rintro e w' ⟨rfl, rfl⟩)
  go_ret
  exact ⟨ret_bool rfl, rfl⟩
theorem psvalidAnchor_any (k : Int) (w : World) : Calls Try.prog 54 #[.int .i64 k] w fun e w' => e = .returned (.bool (rng k 0 8)) ∧ w = w' := by
  go_enter Try.func54, Try.ntmps54
  go_wp2_with (go_at_call 48; refine (inRange_any _ _ _ _).mono ?_; rintro e w' ⟨rfl, rfl⟩)
  go_ret
  exact ⟨ret_bool rfl, rfl⟩
end Go.Proofs.Ytfhjmmajhohkjab
end
section
namespace Go.Proofs.Ytfhjmmajhohkjab
open Go.RowKit
set_option linter.unusedVariables false
set_option maxHeartbeats 1000000
theorem cellH {w : World} {b : Nat} {cs : Array Value} {T : TypeId} {fz : Nat × Nat} (h : w.heap[b]? = some (.cells cs T fz)) (i : Nat) : w.cell? ⟨b, i, none⟩ = cs[i]? := by simp [World.cell?, h]
theorem heap_new (w : World) (o : Obj) : (w.alloc o).heap[w.heap.size]? = some o := by
  show (w.heap.push o)[w.heap.size]? = some o
  simp
theorem b9c {w : World} {b : Nat} {a0 a1 a2 a3 a4 a5 a6 a7 a8 : Value} {T : TypeId} {fz : Nat × Nat} (h : w.heap[b]? = some (.cells #[a0, a1, a2, a3, a4, a5, a6, a7, a8] T fz)) :
    w.cell? ⟨b, 0, none⟩ = some a0 ∧ w.cell? ⟨b, 1, none⟩ = some a1 ∧ w.cell? ⟨b, 2, none⟩ = some a2 ∧ w.cell? ⟨b, 3, none⟩ = some a3 ∧ w.cell? ⟨b, 4, none⟩ = some a4 ∧ w.cell? ⟨b, 5, none⟩ = some a5 ∧ w.cell? ⟨b, 6, none⟩ = some a6 ∧ w.cell? ⟨b, 7, none⟩ = some a7 ∧ w.cell? ⟨b, 8, none⟩ = some a8 :=
  ⟨cellH h 0, cellH h 1, cellH h 2, cellH h 3, cellH h 4, cellH h 5, cellH h 6, cellH h 7, cellH h 8⟩
end Go.Proofs.Ytfhjmmajhohkjab
end
section
namespace Go.Proofs.Ytfhjmmajhohkjab
open Go.RowKit
set_option linter.unusedVariables false
set_option maxHeartbeats 2000000
theorem Bts.alloc' {w : World} {A : Option Addr} {n : Nat} (h : Bts w A n) (o : Obj) : Bts (w.alloc o) A n := h.alloc o
theorem put9h {w : World} {b : Nat} {a0 a1 a2 a3 a4 a5 a6 a7 a8 : Value} {T : TypeId} {fz : Nat × Nat} (h : w.heap[b]? = some (.cells #[a0, a1, a2, a3, a4, a5, a6, a7, a8] T fz)) (x0 x1 x2 x3 x4 x5 x6 x7 x8 : Value) :
    (((((((((w.setCell ⟨b, 0, none⟩ x0).setCell ⟨b, 1, none⟩ x1).setCell ⟨b, 2, none⟩ x2).setCell ⟨b, 3, none⟩ x3).setCell ⟨b, 4, none⟩ x4).setCell ⟨b, 5, none⟩ x5).setCell ⟨b, 6, none⟩ x6).setCell ⟨b, 7, none⟩ x7).setCell ⟨b, 8, none⟩ x8).heap[b]? = some (.cells #[x0, x1, x2, x3, x4, x5, x6, x7, x8] T fz) := by
  replace h := put1h (i := 0) h x0
  simp only [List.setIfInBounds_toArray, List.set_cons_zero] at h
  replace h := put1h (i := 1) h x1
  simp only [List.setIfInBounds_toArray, List.set_cons_succ, List.set_cons_zero] at h
  replace h := put1h (i := 2) h x2
  simp only [List.setIfInBounds_toArray, List.set_cons_succ, List.set_cons_zero] at h
  replace h := put1h (i := 3) h x3
  simp only [List.setIfInBounds_toArray, List.set_cons_succ, List.set_cons_zero] at h
  replace h := put1h (i := 4) h x4
  simp only [List.setIfInBounds_toArray, List.set_cons_succ, List.set_cons_zero] at h
  replace h := put1h (i := 5) h x5
  simp only [List.setIfInBounds_toArray, List.set_cons_succ, List.set_cons_zero] at h
  replace h := put1h (i := 6) h x6
  simp only [List.setIfInBounds_toArray, List.set_cons_succ, List.set_cons_zero] at h
  replace h := put1h (i := 7) h x7
  simp only [List.setIfInBounds_toArray, List.set_cons_succ, List.set_cons_zero] at h
  replace h := put1h (i := 8) h x8
  simp only [List.setIfInBounds_toArray, List.set_cons_succ, List.set_cons_zero] at h
  exact h
theorem put9c {S : List Nat} {a w : World} {b : Nat} (h : Chg S a w) (hb : b ∈ S ∨ a.heap.size ≤ b) (x0 x1 x2 x3 x4 x5 x6 x7 x8 : Value) : Chg S a (((((((((w.setCell ⟨b, 0, none⟩ x0).setCell ⟨b, 1, none⟩ x1).setCell ⟨b, 2, none⟩ x2).setCell ⟨b, 3, none⟩ x3).setCell ⟨b, 4, none⟩ x4).setCell ⟨b, 5, none⟩ x5).setCell ⟨b, 6, none⟩ x6).setCell ⟨b, 7, none⟩ x7).setCell ⟨b, 8, none⟩ x8) :=
  ((((((((h.setCell hb _).setCell hb _).setCell hb _).setCell hb _).setCell hb _).setCell hb _).setCell hb _).setCell hb _).setCell hb _
theorem put9r {B rb b : Nat} {A : Option Addr} {n c m : Nat} {w : World} (h : Rd B rb A n c m w) (h1 : B ≤ b) (h2 : b ≠ rb) (x0 x1 x2 x3 x4 x5 x6 x7 x8 : Value) : Rd B rb A n c m (((((((((w.setCell ⟨b, 0, none⟩ x0).setCell ⟨b, 1, none⟩ x1).setCell ⟨b, 2, none⟩ x2).setCell ⟨b, 3, none⟩ x3).setCell ⟨b, 4, none⟩ x4).setCell ⟨b, 5, none⟩ x5).setCell ⟨b, 6, none⟩ x6).setCell ⟨b, 7, none⟩ x7).setCell ⟨b, 8, none⟩ x8) :=
  ((((((((h.setCell h1 h2 _).setCell h1 h2 _).setCell h1 h2 _).setCell h1 h2 _).setCell h1 h2 _).setCell h1 h2 _).setCell h1 h2 _).setCell h1 h2 _).setCell h1 h2 _
theorem b9f {w : World} {b : Nat} {cs : Array Value} {T : TypeId} (h : w.heap[b]? = some (.cells cs T (0, 0))) : w.frozen? ⟨b, 0, none⟩ = false ∧ w.frozen? ⟨b, 1, none⟩ = false ∧ w.frozen? ⟨b, 2, none⟩ = false ∧ w.frozen? ⟨b, 3, none⟩ = false ∧ w.frozen? ⟨b, 4, none⟩ = false ∧ w.frozen? ⟨b, 5, none⟩ = false ∧ w.frozen? ⟨b, 6, none⟩ = false ∧ w.frozen? ⟨b, 7, none⟩ = false ∧ w.frozen? ⟨b, 8, none⟩ = false :=
  ⟨frozen_of_heap h 0, frozen_of_heap h 1, frozen_of_heap h 2, frozen_of_heap h 3, frozen_of_heap h 4, frozen_of_heap h 5, frozen_of_heap h 6, frozen_of_heap h 7, frozen_of_heap h 8⟩
end Go.Proofs.Ytfhjmmajhohkjab
end
