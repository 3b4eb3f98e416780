import Derived.Test.YtfhjmmajhohkjaaQ02
import Derived.LoopTactic
section
namespace Go.Proofs.Ytfhjmmajhohkjaa
open Go.RowKit
set_option linter.unusedVariables false
set_option maxHeartbeats 1000000
attribute [local go_sem 5000] run_mx run_mn
attribute [local go_sem] growUpon_value growUpon_skip growUpon_enter
theorem bp_genQ {P : Program} {f : Func} {R : Ending → World → Prop} {e : Exit} {a : Act} {W : World} (F : World → Prop) (hF : F W) (h : ∀ W0, F W0 → bodyPost P f R e a W0) : bodyPost P f R e a W := h W hF
set_option maxRecDepth 100000 in
theorem placeRect_v (p : Plc) (w0 h0 : Int) (w : World) (hp : plB p = true) (hr : rqB w0 h0 = true) :
    Calls Try.prog 32 #[.agg #[.int .i64 p.x, .int .i64 p.y, .int .i64 p.rx, .int .i64 p.ry, .int .i64 p.ww, .int .i64 p.hh, .int .i64 p.qw, .int .i64 p.qh, .int .i64 p.an], .int .i64 w0, .int .i64 h0] w fun e w' => e = .returned (.agg #[.int .i64 (xM p w0), .int .i64 (yM p h0), .int .i64 (wM p w0), .int .i64 (hM p h0)]) ∧ Below w.heap.size w w' := by
  have HBD := Lib.hid (pl_bd hp hr)
  have HP := Lib.hid hp
  have hx0 := (Below.heap_alloc (w.alloc (.cells #[.int .i64 p.x, .int .i64 p.y, .int .i64 p.rx, .int .i64 p.ry, .int .i64 p.ww, .int .i64 p.hh, .int .i64 p.qw, .int .i64 p.qh, .int .i64 p.an] 25 (0, 0))) (.cells #[.int .i64 0, .int .i64 0, .int .i64 0, .int .i64 0] 29 (0, 0)) w.heap.size (by simp)).trans (new_q w (.cells #[.int .i64 p.x, .int .i64 p.y, .int .i64 p.rx, .int .i64 p.ry, .int .i64 p.ww, .int .i64 p.hh, .int .i64 p.qw, .int .i64 p.qh, .int .i64 p.an] 25 (0, 0)))
  have hy0 := newq1 w (.cells #[.int .i64 p.x, .int .i64 p.y, .int .i64 p.rx, .int .i64 p.ry, .int .i64 p.ww, .int .i64 p.hh, .int .i64 p.qw, .int .i64 p.qh, .int .i64 p.an] 25 (0, 0)) (.cells #[.int .i64 0, .int .i64 0, .int .i64 0, .int .i64 0] 29 (0, 0))
  have HX := Lib.hid hx0
  have HY := Lib.hid hy0
  have HB := Lib.hid (balloc (o := .cells #[.int .i64 0, .int .i64 0, .int .i64 0, .int .i64 0] 29 (0, 0)) (balloc (o := .cells #[.int .i64 p.x, .int .i64 p.y, .int .i64 p.rx, .int .i64 p.ry, .int .i64 p.ww, .int .i64 p.hh, .int .i64 p.qw, .int .i64 p.qh, .int .i64 p.an] 25 (0, 0)) (Below.refl w.heap.size w)))
  clear hx0 hy0
  go_enter Try.func32, Try.ntmps32
  go_wp2_with fail
  refine (fix_v w.heap.size p w0 h0 _ HX.out hp hr).mono ?_
  rintro e w2 ⟨⟨v, rfl⟩, hx, hg⟩
  replace HY := Lib.hid ((hg.block (w.heap.size + 1) (lt_q HY.out) (by simp)).trans HY.out)
  replace HB := Lib.hid (gnew_q HB.out hg (Nat.le_refl _))
  obtain ⟨⟨t1, t1'⟩, ⟨t2, t2'⟩, -, -, ⟨u1, u1'⟩, ⟨u2, u2'⟩, ⟨a1, a1'⟩, ⟨a2, a2'⟩, ⟨p1, p1', p1a, p1b⟩, ⟨p2, p2', p2a, p2b⟩⟩ := HBD.out
  obtain ⟨⟨b1, b1'⟩, ⟨b2, b2'⟩, -, -, -, -, -, -, ⟨b9, b9'⟩⟩ := plB_iff.1 HP.out
  obtain ⟨c0, c1, c2, c3, c4, c5, c6, c7, c8⟩ := c9_q hx
  have d0 := cl_q HY.out 0
  have d1 := cl_q HY.out 1
  have d2 := cl_q HY.out 2
  have d3 := cl_q HY.out 3
  have f0 := fz_q HY.out 0
  have f1 := fz_q HY.out 1
  have f2 := fz_q HY.out 2
  have f3 := fz_q HY.out 3
  have q := put_q (i := 3) (put_q (i := 2) (put_q (i := 1) (put_q (i := 0) HY.out (.int .i64 (xM p w0))) (.int .i64 (yM p h0))) (.int .i64 (wM p w0))) (.int .i64 (hM p h0))
  simp only [List.setIfInBounds_toArray, List.set_cons_succ, List.set_cons_zero] at q
  have HQ := Lib.hid q
  have HB2 := Lib.hid (bset (a := ⟨w.heap.size + 1, 3, none⟩) (u := .int .i64 (hM p h0)) (bset (a := ⟨w.heap.size + 1, 2, none⟩) (u := .int .i64 (wM p w0)) (bset (a := ⟨w.heap.size + 1, 1, none⟩) (u := .int .i64 (yM p h0)) (bset (a := ⟨w.heap.size + 1, 0, none⟩) (u := .int .i64 (xM p w0)) HB.out (by simp)) (by simp)) (by simp)) (by simp))
  clear hx hg HX hp hr q
  go_wp2_with fail
  refine bp_genQ (fun W => W.heap[w.heap.size + 1]? = some (.cells #[.int .i64 (xM p w0), .int .i64 (yM p h0), .int .i64 (wM p w0), .int .i64 (hM p h0)] 29 (0, 0)) ∧ Below w.heap.size w W) ⟨HQ.out, HB2.out⟩ ?_
  clear HQ HB2 HB HY c0 c1 c2 c3 c4 c5 c6 c7 c8 d0 d1 d2 d3 f0 f1 f2 f3
  rintro W ⟨hq, hb⟩
  have d0 := cl_q hq 0
  have d1 := cl_q hq 1
  have d2 := cl_q hq 2
  have d3 := cl_q hq 3
  exact bodyPost_ret (v := .agg #[.int .i64 (xM p w0), .int .i64 (yM p h0), .int .i64 (wM p w0), .int .i64 (hM p h0)]) (by simp only [results, Try.results32]; go_simp) rfl ⟨rfl, hb⟩
set_option maxRecDepth 100000 in
theorem placed_v (p : Plc) (w0 h0 : Int) (w : World) (hp : plB p = true) (hr : rqB w0 h0 = true) :
    Calls Try.prog 30 #[.agg #[.int .i64 p.x, .int .i64 p.y, .int .i64 p.rx, .int .i64 p.ry, .int .i64 p.ww, .int .i64 p.hh, .int .i64 p.qw, .int .i64 p.qh, .int .i64 p.an], .agg #[.int .i64 (0), .int .i64 (0), .int .i64 (w0), .int .i64 (h0)]] w fun e w' => e = .returned (.agg #[.int .i64 (xM p w0), .int .i64 (yM p h0), .int .i64 (wM p w0), .int .i64 (hM p h0)]) ∧ Below w.heap.size w w' := by
  have HBD := Lib.hid (pl_bd hp hr)
  obtain ⟨⟨b1, b1'⟩, ⟨b2, b2'⟩, ⟨b3, b3'⟩, ⟨b4, b4'⟩, ⟨b5, b5'⟩, ⟨b6, b6'⟩, ⟨b7, b7'⟩, ⟨b8, b8'⟩, ⟨b9, b9'⟩⟩ := plB_iff.1 hp
  obtain ⟨⟨r1, r1'⟩, ⟨r2, r2'⟩⟩ := rqB_iff.1 hr
  obtain ⟨⟨t1, t1'⟩, ⟨t2, t2'⟩, ⟨t3, t3'⟩, ⟨t4, t4'⟩, ⟨u1, u1'⟩, ⟨u2, u2'⟩, ⟨a1, a1'⟩, ⟨a2, a2'⟩, ⟨p1, p1', p1a, p1b⟩, ⟨p2, p2', p2a, p2b⟩⟩ := HBD.out
  have e1 : IntKind.i64.wrap (p.ww + thM p.qw w0) = p.ww + thM p.qw w0 := wr_q (by omega) (by omega)
  have e2 : IntKind.i64.wrap (p.hh + thM p.qh h0) = p.hh + thM p.qh h0 := wr_q (by omega) (by omega)
  have e3 : IntKind.i64.wrap (p.x + thM p.rx w0) = p.x + thM p.rx w0 := wr_q (by omega) (by omega)
  have e4 : IntKind.i64.wrap (p.y + thM p.ry h0) = p.y + thM p.ry h0 := wr_q (by omega) (by omega)
  have e5 : IntKind.i64.wrap (wM p w0 * (p.an % 3)) = wM p w0 * (p.an % 3) := wr_q (by omega) (by omega)
  have e6 : IntKind.i64.wrap (hM p h0 * (p.an / 3)) = hM p h0 * (p.an / 3) := wr_q (by omega) (by omega)
  have e7 : IntKind.i64.wrap (p.x + thM p.rx w0 - wM p w0 * (p.an % 3) / 2) = p.x + thM p.rx w0 - wM p w0 * (p.an % 3) / 2 := wr_q (by omega) (by omega)
  have e8 : IntKind.i64.wrap (p.y + thM p.ry h0 - hM p h0 * (p.an / 3) / 2) = p.y + thM p.ry h0 - hM p h0 * (p.an / 3) / 2 := wr_q (by omega) (by omega)
  have m1 : mx 0 (p.ww + thM p.qw w0) = wM p w0 := mx_comm _ _
  have m2 : mx 0 (p.hh + thM p.qh h0) = hM p h0 := mx_comm _ _
  have hx0 := ((Below.heap_alloc _ (.cells #[.int .i64 0, .int .i64 0, .int .i64 0, .int .i64 0] 29 (0, 0)) w.heap.size (by simp; omega)).trans ((Below.heap_alloc (w.alloc (.cells #[.int .i64 p.x, .int .i64 p.y, .int .i64 p.rx, .int .i64 p.ry, .int .i64 p.ww, .int .i64 p.hh, .int .i64 p.qw, .int .i64 p.qh, .int .i64 p.an] 25 (0, 0))) (.cells #[.int .i64 0, .int .i64 0, .int .i64 w0, .int .i64 h0] 29 (0, 0)) w.heap.size (by simp)).trans (new_q w (.cells #[.int .i64 p.x, .int .i64 p.y, .int .i64 p.rx, .int .i64 p.ry, .int .i64 p.ww, .int .i64 p.hh, .int .i64 p.qw, .int .i64 p.qh, .int .i64 p.an] 25 (0, 0)))))
  have hy0 := (Below.heap_alloc _ (.cells #[.int .i64 0, .int .i64 0, .int .i64 0, .int .i64 0] 29 (0, 0)) (w.heap.size + 1) (by simp)).trans (newq1 w (.cells #[.int .i64 p.x, .int .i64 p.y, .int .i64 p.rx, .int .i64 p.ry, .int .i64 p.ww, .int .i64 p.hh, .int .i64 p.qw, .int .i64 p.qh, .int .i64 p.an] 25 (0, 0)) (.cells #[.int .i64 0, .int .i64 0, .int .i64 w0, .int .i64 h0] 29 (0, 0)))
  have hz0 := newq2 w (.cells #[.int .i64 p.x, .int .i64 p.y, .int .i64 p.rx, .int .i64 p.ry, .int .i64 p.ww, .int .i64 p.hh, .int .i64 p.qw, .int .i64 p.qh, .int .i64 p.an] 25 (0, 0)) (.cells #[.int .i64 0, .int .i64 0, .int .i64 w0, .int .i64 h0] 29 (0, 0)) (.cells #[.int .i64 0, .int .i64 0, .int .i64 0, .int .i64 0] 29 (0, 0))
  have hB0 := balloc (o := .cells #[.int .i64 0, .int .i64 0, .int .i64 0, .int .i64 0] 29 (0, 0)) (balloc (o := .cells #[.int .i64 0, .int .i64 0, .int .i64 w0, .int .i64 h0] 29 (0, 0)) (balloc (o := .cells #[.int .i64 p.x, .int .i64 p.y, .int .i64 p.rx, .int .i64 p.ry, .int .i64 p.ww, .int .i64 p.hh, .int .i64 p.qw, .int .i64 p.qh, .int .i64 p.an] 25 (0, 0)) (Below.refl w.heap.size w)))
  have HX0 := Lib.hid hx0
  have HY0 := Lib.hid hy0
  have HZ0 := Lib.hid hz0
  have HB0 := Lib.hid hB0
  clear hp hr hx0 hy0 hz0 hB0
  go_enter Try.func30, Try.ntmps30
  go_wp2_with fail
  refine wp_genG3 (fun W => W.heap[w.heap.size]? = some (.cells #[.int .i64 p.x, .int .i64 p.y, .int .i64 p.rx, .int .i64 p.ry, .int .i64 p.ww, .int .i64 p.hh, .int .i64 p.qw, .int .i64 p.qh, .int .i64 p.an] 25 (0, 0)) ∧ W.heap[w.heap.size + 1]? = some (.cells #[.int .i64 0, .int .i64 0, .int .i64 w0, .int .i64 h0] 29 (0, 0)) ∧ W.heap[w.heap.size + 1 + 1]? = some (.cells #[.int .i64 0, .int .i64 0, .int .i64 0, .int .i64 0] 29 (0, 0)) ∧ Below w.heap.size w W) ⟨HX0.out, HY0.out, HZ0.out, HB0.out⟩ (fun w1 h1 => ?_)
  clear HX0 HY0 HZ0 HB0
  obtain ⟨hx, hy, hz, hb⟩ := h1
  have HX := Lib.hid hx
  have HY := Lib.hid hy
  have HZ := Lib.hid hz
  have HB := Lib.hid hb
  clear hx hy hz hb
  obtain ⟨c0, c1, c2, c3, c4, c5, c6, c7, c8⟩ := c9_q HX.out
  have d0 := cl_q HY.out 0
  have d1 := cl_q HY.out 1
  have d2 := cl_q HY.out 2
  have d3 := cl_q HY.out 3
  have lx := lt_q HX.out
  have ly := lt_q HY.out
  refine wp_region_grow 9 1 (· < 9) (by kernel_rfl) (by kernel_rfl) rfl ?_
  iterate 9 (refine wpG_step (fun K hK => ?_); first | (refine grow_skip rfl ?_; go_simp; refine hK _ ?_; clear hK K) | (apply Exists.intro; refine ⟨.inl ⟨rfl, fun w' hw' => ?_⟩, ?_⟩; (focus ((obtain ⟨hc, hf⟩ := bcell hw'.out); (have hcS := bcellS hw'.out); go_simp <;> first | rfl | (go_at_call 38; exact part_v _ _ _ (by assumption) (by assumption) (by assumption) (by assumption)))); (go_simp; refine hK _ ?_; clear hK K)))
  refine wpG_nil ?_
  refine wpK_tail (by kernel_rfl) (fun w2 hg2 => ?_)
  have hb2 := bdrewn hg2.out
  obtain ⟨hc2, hf2⟩ := bcell hb2
  refine wpAny_one (i := 9) (by kernel_rfl) rfl rfl ?_
  go_simp
  refine wpAny_end (by kernel_rfl) ?_
  refine NoPan.thn ?_
  clear hc2 hf2
  clear hg2
  clear c0 c1 c2 c3 c4 c5 c6 c7 c8 d0 d1 d2 d3 lx ly
  replace HX := Lib.hid ((hb2.block _ (Array.getElem?_eq_some_iff.1 HX.out).1).trans HX.out)
  replace HY := Lib.hid ((hb2.block _ (Array.getElem?_eq_some_iff.1 HY.out).1).trans HY.out)
  replace HZ := Lib.hid ((hb2.block _ (Array.getElem?_eq_some_iff.1 HZ.out).1).trans HZ.out)
  replace HB := Lib.hid (bkeep2 HB.out hb2)
  clear hb2
  obtain ⟨c0, c1, c2, c3, c4, c5, c6, c7, c8⟩ := c9_q HX.out
  have d0 := cl_q HY.out 0
  have d1 := cl_q HY.out 1
  have d2 := cl_q HY.out 2
  have d3 := cl_q HY.out 3
  have lx := lt_q HX.out
  have ly := lt_q HY.out
  go_wp2_with fail
  refine wp_region_grow 9 1 (· < 9) (by kernel_rfl) (by kernel_rfl) rfl ?_
  iterate 9 (refine wpG_step (fun K hK => ?_); first | (refine grow_skip rfl ?_; go_simp; refine hK _ ?_; clear hK K) | (apply Exists.intro; refine ⟨.inl ⟨rfl, fun w' hw' => ?_⟩, ?_⟩; (focus ((obtain ⟨hc, hf⟩ := bcell hw'.out); (have hcS := bcellS hw'.out); go_simp <;> first | rfl | (go_at_call 38; exact part_v _ _ _ (by assumption) (by assumption) (by assumption) (by assumption)))); (go_simp; refine hK _ ?_; clear hK K)))
  refine wpG_nil ?_
  refine wpK_tail (by kernel_rfl) (fun w3 hg3 => ?_)
  have hb3 := bdrewn hg3.out
  obtain ⟨hc3, hf3⟩ := bcell hb3
  refine wpAny_one (i := 9) (by kernel_rfl) rfl rfl ?_
  go_simp
  refine wpAny_end (by kernel_rfl) ?_
  refine NoPan.thn ?_
  clear hc3 hf3
  clear hg3
  clear c0 c1 c2 c3 c4 c5 c6 c7 c8 d0 d1 d2 d3 lx ly
  replace HX := Lib.hid ((hb3.block _ (Array.getElem?_eq_some_iff.1 HX.out).1).trans HX.out)
  replace HY := Lib.hid ((hb3.block _ (Array.getElem?_eq_some_iff.1 HY.out).1).trans HY.out)
  replace HZ := Lib.hid ((hb3.block _ (Array.getElem?_eq_some_iff.1 HZ.out).1).trans HZ.out)
  replace HB := Lib.hid (bkeep2 HB.out hb3)
  clear hb3
  obtain ⟨c0, c1, c2, c3, c4, c5, c6, c7, c8⟩ := c9_q HX.out
  have d0 := cl_q HY.out 0
  have d1 := cl_q HY.out 1
  have d2 := cl_q HY.out 2
  have d3 := cl_q HY.out 3
  have lx := lt_q HX.out
  have ly := lt_q HY.out
  go_wp2_with fail
  refine wp_region_grow 15 1 (· < 15) (by kernel_rfl) (by kernel_rfl) rfl ?_
  iterate 15 (refine wpG_step (fun K hK => ?_); first | (refine grow_skip rfl ?_; go_simp; refine hK _ ?_; clear hK K) | (apply Exists.intro; refine ⟨.inl ⟨rfl, fun w' hw' => ?_⟩, ?_⟩; (focus ((obtain ⟨hc, hf⟩ := bcell hw'.out); (have hcS := bcellS hw'.out); go_simp <;> first | rfl | (go_at_call 38; exact part_v _ _ _ (by assumption) (by assumption) (by assumption) (by assumption)))); (go_simp; refine hK _ ?_; clear hK K)))
  refine wpG_nil ?_
  refine wpK_tail (by kernel_rfl) (fun w4 hg4 => ?_)
  have hb4 := bdrewn hg4.out
  obtain ⟨hc4, hf4⟩ := bcell hb4
  refine wpAny_one (i := 15) (by kernel_rfl) rfl rfl ?_
  go_simp
  refine wpAny_end (by kernel_rfl) ?_
  refine NoPan.thn ?_
  clear hc4 hf4
  clear hg4
  clear c0 c1 c2 c3 c4 c5 c6 c7 c8 d0 d1 d2 d3 lx ly
  replace HX := Lib.hid ((hb4.block _ (Array.getElem?_eq_some_iff.1 HX.out).1).trans HX.out)
  replace HY := Lib.hid ((hb4.block _ (Array.getElem?_eq_some_iff.1 HY.out).1).trans HY.out)
  replace HZ := Lib.hid ((hb4.block _ (Array.getElem?_eq_some_iff.1 HZ.out).1).trans HZ.out)
  replace HB := Lib.hid (bkeep2 HB.out hb4)
  clear hb4
  obtain ⟨c0, c1, c2, c3, c4, c5, c6, c7, c8⟩ := c9_q HX.out
  have d0 := cl_q HY.out 0
  have d1 := cl_q HY.out 1
  have d2 := cl_q HY.out 2
  have d3 := cl_q HY.out 3
  have lx := lt_q HX.out
  have ly := lt_q HY.out
  go_wp2_with fail
  refine wp_region_grow 15 1 (· < 15) (by kernel_rfl) (by kernel_rfl) rfl ?_
  iterate 15 (refine wpG_step (fun K hK => ?_); first | (refine grow_skip rfl ?_; go_simp; refine hK _ ?_; clear hK K) | (apply Exists.intro; refine ⟨.inl ⟨rfl, fun w' hw' => ?_⟩, ?_⟩; (focus ((obtain ⟨hc, hf⟩ := bcell hw'.out); (have hcS := bcellS hw'.out); go_simp <;> first | rfl | (go_at_call 38; exact part_v _ _ _ (by assumption) (by assumption) (by assumption) (by assumption)))); (go_simp; refine hK _ ?_; clear hK K)))
  refine wpG_nil ?_
  refine wpK_tail (by kernel_rfl) (fun w5 hg5 => ?_)
  have hb5 := bdrewn hg5.out
  obtain ⟨hc5, hf5⟩ := bcell hb5
  refine wpAny_one (i := 15) (by kernel_rfl) rfl rfl ?_
  go_simp
  refine wpAny_end (by kernel_rfl) ?_
  refine NoPan.thn ?_
  clear hc5 hf5
  clear hg5
  clear c0 c1 c2 c3 c4 c5 c6 c7 c8 d0 d1 d2 d3 lx ly
  replace HX := Lib.hid ((hb5.block _ (Array.getElem?_eq_some_iff.1 HX.out).1).trans HX.out)
  replace HY := Lib.hid ((hb5.block _ (Array.getElem?_eq_some_iff.1 HY.out).1).trans HY.out)
  replace HZ := Lib.hid ((hb5.block _ (Array.getElem?_eq_some_iff.1 HZ.out).1).trans HZ.out)
  replace HB := Lib.hid (bkeep2 HB.out hb5)
  clear hb5
  obtain ⟨c0, c1, c2, c3, c4, c5, c6, c7, c8⟩ := c9_q HX.out
  have d0 := cl_q HY.out 0
  have d1 := cl_q HY.out 1
  have d2 := cl_q HY.out 2
  have d3 := cl_q HY.out 3
  have lx := lt_q HX.out
  have ly := lt_q HY.out
  have z0 := cl_q HZ.out 0
  have z1 := cl_q HZ.out 1
  have z2 := cl_q HZ.out 2
  have z3 := cl_q HZ.out 3
  have f0 := fz_q HZ.out 0
  have f1 := fz_q HZ.out 1
  have f2 := fz_q HZ.out 2
  have f3 := fz_q HZ.out 3
  have q := put_q (i := 3) (put_q (i := 2) (put_q (i := 1) (put_q (i := 0) HZ.out (.int .i64 (xM p w0))) (.int .i64 (yM p h0))) (.int .i64 (wM p w0))) (.int .i64 (hM p h0))
  simp only [List.setIfInBounds_toArray, List.set_cons_succ, List.set_cons_zero] at q
  have HQ := Lib.hid q
  have HB2 := Lib.hid (bset (a := ⟨w.heap.size + 1 + 1, 3, none⟩) (u := .int .i64 (hM p h0)) (bset (a := ⟨w.heap.size + 1 + 1, 2, none⟩) (u := .int .i64 (wM p w0)) (bset (a := ⟨w.heap.size + 1 + 1, 1, none⟩) (u := .int .i64 (yM p h0)) (bset (a := ⟨w.heap.size + 1 + 1, 0, none⟩) (u := .int .i64 (xM p w0)) HB.out (by simp; omega)) (by simp; omega)) (by simp; omega)) (by simp; omega))
  clear q
  go_wp2_with fail
  refine bp_genQ (fun W => W.heap[w.heap.size + 1 + 1]? = some (.cells #[.int .i64 (xM p w0), .int .i64 (yM p h0), .int .i64 (wM p w0), .int .i64 (hM p h0)] 29 (0, 0)) ∧ Below w.heap.size w W) ⟨HQ.out, HB2.out⟩ ?_
  clear HQ HB2 HB HY HX HZ z0 z1 z2 z3 f0 f1 f2 f3
  clear c0 c1 c2 c3 c4 c5 c6 c7 c8 d0 d1 d2 d3 lx ly
  rintro W ⟨hq, hb⟩
  have d0 := cl_q hq 0
  have d1 := cl_q hq 1
  have d2 := cl_q hq 2
  have d3 := cl_q hq 3
  exact bodyPost_ret (v := .agg #[.int .i64 (xM p w0), .int .i64 (yM p h0), .int .i64 (wM p w0), .int .i64 (hM p h0)]) (by simp only [results, Try.results30]; go_simp) rfl ⟨rfl, hb⟩
end Go.Proofs.Ytfhjmmajhohkjaa
end
section
namespace Go.Proofs.Ytfhjmmajhohkjaa
open Go.RowKit
set_option linter.unusedVariables false
attribute [local go_sem 5000] run_mx run_mn
attribute [local go_sem] growUpon_value growUpon_skip growUpon_enter
set_option maxHeartbeats 1000000
end Go.Proofs.Ytfhjmmajhohkjaa
end
section
namespace Go.Proofs.Ytfhjmmajhohkjaa
open Go.RowKit
set_option linter.unusedVariables false
set_option maxHeartbeats 1000000
attribute [local go_sem 5000] run_mx run_mn run_eqlR run_neqR
attribute [local go_sem] growUpon_value growUpon_skip growUpon_enter
theorem validRoom_q (u v : Int) (b : Bool) (w : World) (hb : rqB u v = b) : Calls Try.prog 31 #[.int .i64 u, .int .i64 v] w fun e w' => e = .returned (.bool b) ∧ w = w' := by
  cases h1 : rng u 0 400
  · have hbf : false = b := by rw [← hb]; simp [rqB, h1]
    subst hbf
    go_enter Try.func31, Try.ntmps31
    go_wp2_with fail
    with_reducible refine (within_q _ _ _ false _ h1).mono ?_
    rintro e w2 ⟨rfl, rfl⟩
    go_wp2
    go_ret
    exact ⟨rfl, rfl⟩
  · have h2 : rng v 0 400 = b := by rw [← hb]; simp [rqB, h1]
    cases b
    all_goals
      go_enter Try.func31, Try.ntmps31
      go_wp2_with fail
      with_reducible refine (within_q _ _ _ true _ h1).mono ?_
      rintro e w2 ⟨rfl, rfl⟩
      go_wp2_with fail
      with_reducible refine (within_q _ _ _ _ _ h2).mono ?_
      rintro e w2 ⟨rfl, rfl⟩
      go_wp2
      go_ret
      exact ⟨rfl, rfl⟩
theorem goodRoom_q (u v : Int) (b : Bool) (w : World) (hb : rqB u v = b) : Calls Try.prog 29 #[.int .i64 u, .int .i64 v] w fun e w' => e = .returned (.bool b) ∧ w = w' := by
  cases h1 : rng u 0 400
  · have hbf : false = b := by rw [← hb]; simp [rqB, h1]
    subst hbf
    go_enter Try.func29, Try.ntmps29
    go_wp2_with fail
    with_reducible refine (inRange_q _ _ _ false _ h1).mono ?_
    rintro e w2 ⟨rfl, rfl⟩
    go_wp2
    go_ret
    exact ⟨rfl, rfl⟩
  · have h2 : rng v 0 400 = b := by rw [← hb]; simp [rqB, h1]
    cases b
    all_goals
      go_enter Try.func29, Try.ntmps29
      go_wp2_with fail
      with_reducible refine (inRange_q _ _ _ true _ h1).mono ?_
      rintro e w2 ⟨rfl, rfl⟩
      go_wp2_with fail
      with_reducible refine (inRange_q _ _ _ _ _ h2).mono ?_
      rintro e w2 ⟨rfl, rfl⟩
      go_wp2
      go_ret
      exact ⟨rfl, rfl⟩
set_option maxRecDepth 100000 in
theorem cover_s (x y u v x' y' u' v' : Int) (w : World) (h1 : Sq x y u v) (h2 : Sq x' y' u' v') :
    Calls Try.prog 44 #[.agg #[.int .i64 (x), .int .i64 (y), .int .i64 (u), .int .i64 (v)], .agg #[.int .i64 (x'), .int .i64 (y'), .int .i64 (u'), .int .i64 (v')]] w fun e w' => e = .returned (.agg #[.int .i64 (mn x x'), .int .i64 (mn y y'), .int .i64 (mx (x + u) (x' + u') - mn x x'), .int .i64 (mx (y + v) (y' + v') - mn y y')]) ∧ Below w.heap.size w w' := by
  obtain ⟨S3, -⟩ := h1.cover h2
  have S1 := h1.sm
  have S2 := h2.sm
  clear h1 h2
  go_enter Try.func44, Try.ntmps44
  go_wp2_with fail
  refine wp_region_grow 21 1 (· < 21) (by kernel_rfl) (by kernel_rfl) rfl ?_
  iterate 21 (refine wpG_step (fun K hK => ?_); apply Exists.intro; refine ⟨.inl ⟨rfl, fun w' hw' => ?_⟩, ?_⟩; (focus ((obtain ⟨hc, hf⟩ := bcell hw'.out); (have hcS := bcellS hw'.out); go_simp <;> first | rfl | (go_at_call 46; exact right_any _ _ _ _ _ (by assumption)) | (go_at_call 47; exact bottom_any _ _ _ _ _ (by assumption)) | (go_at_call 45; exact corners_any _ _ _ _ _ (by assumption)))); (go_simp; refine hK _ ?_; clear hK K))
  refine wpG_nil ?_
  refine wpK_tail (by kernel_rfl) (fun wt1 ht1 => ?_)
  obtain ⟨hct1, hft1⟩ := bcell ht1.out
  refine wpAny_one (i := 21) (by kernel_rfl) rfl rfl ?_
  go_simp
  refine wpAny_end (by kernel_rfl) ?_
  refine NoPan.thn ?_
  go_wp2
  exact bodyPost_ret (v := .agg #[.int .i64 (mn x x'), .int .i64 (mn y y'), .int .i64 (mx (x + u) (x' + u') - mn x x'), .int .i64 (mx (y + v) (y' + v') - mn y y')]) (by simp only [results, Try.results44]; go_simp) rfl ⟨rfl, (by repeat (first | with_reducible exact Below.refl _ _ | with_reducible assumption | with_reducible refine balloc ?_ | (with_reducible refine bset ?_ ?_; rotate_left; ((try dsimp only); omega)) | refine bkeep2 ?_ (by assumption) | with_reducible refine Below.drew ?_))⟩
set_option maxRecDepth 100000 in
theorem holds_s (x y u v x' y' u' v' : Int) (t : Bool) (w : World) (h1 : Sq x y u v) (h2 : Sq x' y' u' v') (ht : insB x y u v x' y' u' v' = t) :
    Calls Try.prog 42 #[.agg #[.int .i64 (x), .int .i64 (y), .int .i64 (u), .int .i64 (v)], .agg #[.int .i64 (x'), .int .i64 (y'), .int .i64 (u'), .int .i64 (v')]] w fun e w' => e = .returned (.bool t) ∧ Below w.heap.size w w' := by
  subst ht
  go_enter Try.func42, Try.ntmps42
  go_wp2_with fail
  refine wp_region_grow 5 1 (· < 5) (by kernel_rfl) (by kernel_rfl) rfl ?_
  iterate 5 (refine wpG_step (fun K hK => ?_); apply Exists.intro; refine ⟨.inl ⟨rfl, fun w' hw' => ?_⟩, ?_⟩; (focus ((obtain ⟨hc, hf⟩ := bcell hw'.out); (have hcS := bcellS hw'.out); go_simp <;> first | rfl | (go_at_call 44; exact cover_s _ _ _ _ _ _ _ _ _ h1 h2))); (go_simp; refine hK _ ?_; clear hK K))
  refine wpG_nil ?_
  refine wpK_tail (by kernel_rfl) (fun wt1 ht1 => ?_)
  obtain ⟨hct1, hft1⟩ := bcell ht1.out
  refine wpAny_one (i := 5) (by kernel_rfl) rfl rfl ?_
  go_simp
  refine wpAny_end (by kernel_rfl) ?_
  refine NoPan.thn ?_
  go_wp2
  go_ret
  exact ⟨ret_bool (by rw [Bool.eq_iff_iff, eqR_iff, insB_iff]; exact holds_all), (by repeat (first | with_reducible exact Below.refl _ _ | with_reducible assumption | with_reducible refine balloc ?_ | (with_reducible refine bset ?_ ?_; rotate_left; ((try dsimp only); omega)) | refine bkeep2 ?_ (by assumption) | with_reducible refine Below.drew ?_))⟩
set_option maxRecDepth 100000 in
theorem sinside_s (x y u v x' y' u' v' : Int) (t : Bool) (w : World) (h1 : Sq x y u v) (h2 : Sq x' y' u' v') (ht : insB x y u v x' y' u' v' = t) : Calls Try.prog 33 #[.agg #[.int .i64 (x), .int .i64 (y), .int .i64 (u), .int .i64 (v)], .agg #[.int .i64 (x'), .int .i64 (y'), .int .i64 (u'), .int .i64 (v')]] w fun e w' => e = .returned (.bool t) ∧ Below w.heap.size w w' := by
  subst ht
  obtain ⟨⟨a1, a2⟩, ⟨a3, a4⟩, ⟨a5, a6⟩, ⟨a7, a8⟩⟩ := h1
  obtain ⟨⟨b1, b2⟩, ⟨b3, b4⟩, ⟨b5, b6⟩, ⟨b7, b8⟩⟩ := h2
  by_cases g1 : x ≤ x' <;> by_cases g2 : y ≤ y' <;> by_cases g3 : x' + u' ≤ x + u <;> by_cases g4 : y' + v' ≤ y + v
  all_goals
    go_enter Try.func33, Try.ntmps33
    go_wp2
    go_ret
    exact ⟨ret_bool (by (first | (refine Eq.symm (insB_not.2 ?_); omega) | (refine Eq.symm (insB_iff.2 ?_); omega) | (rw [Bool.eq_iff_iff, insB_iff]; simp only [decide_eq_true_eq]; omega))), (by repeat (first | with_reducible exact Below.refl _ _ | with_reducible assumption | with_reducible refine balloc ?_ | (with_reducible refine bset ?_ ?_; rotate_left; ((try dsimp only); omega)) | refine bkeep2 ?_ (by assumption) | with_reducible refine Below.drew ?_))⟩
set_option maxRecDepth 100000 in
theorem PlaceRect_no (p : Plc) (w0 h0 : Int) (w : World) (h : prB p w0 h0 = false) : Calls Try.prog 13 #[.agg #[.int .i64 p.x, .int .i64 p.y, .int .i64 p.rx, .int .i64 p.ry, .int .i64 p.ww, .int .i64 p.hh, .int .i64 p.qw, .int .i64 p.qh, .int .i64 p.an], .int .i64 w0, .int .i64 h0] w fun e w' => e = .returned (.agg #[.int .i64 (0), .int .i64 (0), .int .i64 (0), .int .i64 (0)]) ∧ Below w.heap.size w w' := by
  cases h1 : plB p
  · go_enter Try.func13, Try.ntmps13
    go_wp2_with fail
    with_reducible refine (validPlace_t p false _ h1).mono ?_
    rintro e w1 ⟨rfl, hb⟩
    obtain ⟨hc, hf⟩ := bcell hb; (first | (replace hB := bkeep2 hB hb) | (replace hB := bkeep2 (balloc hB) hb) | (replace hB := bkeep2 (balloc (balloc hB)) hb) | have hB := hb); obtain ⟨hC, hF, hZ, hN⟩ := bcell4 hB; (try (have hlt := Nat.lt_of_lt_of_le hlt hb.size; have hne := Nat.ne_of_lt hlt)); (have hs0 := hb.size); (try simp only [World.size_alloc] at hs0); (try (have hlt := Nat.lt_of_succ_le hs0; have hne := Nat.ne_of_lt hlt))
    go_wp2
    exact bodyPost_ret (v := .agg #[.int .i64 (0), .int .i64 (0), .int .i64 (0), .int .i64 (0)]) (by simp only [results, Try.results13]; go_simp) rfl ⟨rfl, (by repeat (first | with_reducible exact Below.refl _ _ | with_reducible assumption | with_reducible refine balloc ?_ | (with_reducible refine bset ?_ ?_; rotate_left; ((try dsimp only); omega)) | refine bkeep2 ?_ (by assumption) | with_reducible refine Below.drew ?_))⟩
  · have h2 : rqB w0 h0 = false := by simpa [prB, h1] using h
    go_enter Try.func13, Try.ntmps13
    go_wp2_with fail
    with_reducible refine (validPlace_t p true _ h1).mono ?_
    rintro e w1 ⟨rfl, hb⟩
    obtain ⟨hc, hf⟩ := bcell hb; (first | (replace hB := bkeep2 hB hb) | (replace hB := bkeep2 (balloc hB) hb) | (replace hB := bkeep2 (balloc (balloc hB)) hb) | have hB := hb); obtain ⟨hC, hF, hZ, hN⟩ := bcell4 hB; (try (have hlt := Nat.lt_of_lt_of_le hlt hb.size; have hne := Nat.ne_of_lt hlt)); (have hs0 := hb.size); (try simp only [World.size_alloc] at hs0); (try (have hlt := Nat.lt_of_succ_le hs0; have hne := Nat.ne_of_lt hlt))
    go_wp2_with fail
    with_reducible refine (validRoom_q _ _ false _ h2).mono ?_
    rintro e w2 ⟨rfl, rfl⟩
    go_wp2
    exact bodyPost_ret (v := .agg #[.int .i64 (0), .int .i64 (0), .int .i64 (0), .int .i64 (0)]) (by simp only [results, Try.results13]; go_simp) rfl ⟨rfl, (by repeat (first | with_reducible exact Below.refl _ _ | with_reducible assumption | with_reducible refine balloc ?_ | (with_reducible refine bset ?_ ?_; rotate_left; ((try dsimp only); omega)) | refine bkeep2 ?_ (by assumption) | with_reducible refine Below.drew ?_))⟩
set_option maxRecDepth 100000 in
theorem PlaceRect_yes (p : Plc) (w0 h0 : Int) (w : World) (h : prB p w0 h0 = true) : Calls Try.prog 13 #[.agg #[.int .i64 p.x, .int .i64 p.y, .int .i64 p.rx, .int .i64 p.ry, .int .i64 p.ww, .int .i64 p.hh, .int .i64 p.qw, .int .i64 p.qh, .int .i64 p.an], .int .i64 w0, .int .i64 h0] w fun e w' => e = .returned (.agg #[.int .i64 (xM p w0), .int .i64 (yM p h0), .int .i64 (wM p w0), .int .i64 (hM p h0)]) ∧ Below w.heap.size w w' := by
  obtain ⟨h1, h2⟩ := prB_yes h
  have HX := Lib.hid (oldq1 w (.cells #[.int .i64 p.x, .int .i64 p.y, .int .i64 p.rx, .int .i64 p.ry, .int .i64 p.ww, .int .i64 p.hh, .int .i64 p.qw, .int .i64 p.qh, .int .i64 p.an] 25) (.cells #[.int .i64 0, .int .i64 0, .int .i64 0, .int .i64 0] 29))
  have HY := Lib.hid (newq1 w (.cells #[.int .i64 p.x, .int .i64 p.y, .int .i64 p.rx, .int .i64 p.ry, .int .i64 p.ww, .int .i64 p.hh, .int .i64 p.qw, .int .i64 p.qh, .int .i64 p.an] 25) (.cells #[.int .i64 0, .int .i64 0, .int .i64 0, .int .i64 0] 29))
  have HB := Lib.hid (balloc (o := .cells #[.int .i64 0, .int .i64 0, .int .i64 0, .int .i64 0] 29) (balloc (o := .cells #[.int .i64 p.x, .int .i64 p.y, .int .i64 p.rx, .int .i64 p.ry, .int .i64 p.ww, .int .i64 p.hh, .int .i64 p.qw, .int .i64 p.qh, .int .i64 p.an] 25) (Below.refl w.heap.size w)))
  go_enter Try.func13, Try.ntmps13
  go_wp2_with fail
  with_reducible refine (validPlace_t p true _ h1).mono ?_
  rintro e w1 ⟨rfl, hb⟩
  replace HX := Lib.hid ((hb.block _ (Array.getElem?_eq_some_iff.1 HX.out).1).trans HX.out)
  replace HY := Lib.hid ((hb.block _ (Array.getElem?_eq_some_iff.1 HY.out).1).trans HY.out)
  replace HB := Lib.hid (bkeep2 HB.out hb)
  clear hb
  obtain ⟨c0, c1, c2, c3, c4, c5, c6, c7, c8⟩ := c9_q HX.out
  go_wp2_with fail
  with_reducible refine (validRoom_q _ _ true _ h2).mono ?_
  rintro e w2 ⟨rfl, rfl⟩
  go_wp2_with fail
  with_reducible refine (placeRect_v p w0 h0 _ h1 h2).mono ?_
  rintro e w3 ⟨rfl, hb⟩
  replace HY := Lib.hid ((hb.block _ (Array.getElem?_eq_some_iff.1 HY.out).1).trans HY.out)
  replace HB := Lib.hid (bkeep2 HB.out hb)
  clear hb
  have d0 := cl_q HY.out 0
  have d1 := cl_q HY.out 1
  have d2 := cl_q HY.out 2
  have d3 := cl_q HY.out 3
  have f0 := fz_q HY.out 0
  have f1 := fz_q HY.out 1
  have f2 := fz_q HY.out 2
  have f3 := fz_q HY.out 3
  have q := put_q (i := 3) (put_q (i := 2) (put_q (i := 1) (put_q (i := 0) HY.out (.int .i64 (xM p w0))) (.int .i64 (yM p h0))) (.int .i64 (wM p w0))) (.int .i64 (hM p h0))
  simp only [List.setIfInBounds_toArray, List.set_cons_succ, List.set_cons_zero] at q
  have HQ := Lib.hid q
  have HB2 := Lib.hid (bset (a := ⟨w.heap.size + 1, 3, none⟩) (u := .int .i64 (hM p h0)) (bset (a := ⟨w.heap.size + 1, 2, none⟩) (u := .int .i64 (wM p w0)) (bset (a := ⟨w.heap.size + 1, 1, none⟩) (u := .int .i64 (yM p h0)) (bset (a := ⟨w.heap.size + 1, 0, none⟩) (u := .int .i64 (xM p w0)) HB.out (by simp)) (by simp)) (by simp)) (by simp))
  clear q
  go_wp2_with fail
  refine bp_genQ (fun W => W.heap[w.heap.size + 1]? = some (.cells #[.int .i64 (xM p w0), .int .i64 (yM p h0), .int .i64 (wM p w0), .int .i64 (hM p h0)] 29 (0, 0)) ∧ Below w.heap.size w W) ⟨HQ.out, HB2.out⟩ ?_
  clear HQ HB2 HB HY HX d0 d1 d2 d3 f0 f1 f2 f3 c0 c1 c2 c3 c4 c5 c6 c7 c8
  rintro W ⟨hq, hb⟩
  have d0 := cl_q hq 0
  have d1 := cl_q hq 1
  have d2 := cl_q hq 2
  have d3 := cl_q hq 3
  exact bodyPost_ret (v := .agg #[.int .i64 (xM p w0), .int .i64 (yM p h0), .int .i64 (wM p w0), .int .i64 (hM p h0)]) (by simp only [results, Try.results13]; go_simp) rfl ⟨rfl, hb⟩
set_option maxRecDepth 100000 in
theorem sPlaceRect_no (p : Plc) (w0 h0 : Int) (w : World) (h : prB p w0 h0 = false) : Calls Try.prog 12 #[.agg #[.int .i64 p.x, .int .i64 p.y, .int .i64 p.rx, .int .i64 p.ry, .int .i64 p.ww, .int .i64 p.hh, .int .i64 p.qw, .int .i64 p.qh, .int .i64 p.an], .int .i64 w0, .int .i64 h0] w fun e w' => e = .returned (.agg #[.int .i64 (0), .int .i64 (0), .int .i64 (0), .int .i64 (0)]) ∧ Below w.heap.size w w' := by
  cases h1 : plB p
  · go_enter Try.func12, Try.ntmps12
    go_wp2_with fail
    with_reducible refine (svalidPlace_t p false _ h1).mono ?_
    rintro e w1 ⟨rfl, hb⟩
    obtain ⟨hc, hf⟩ := bcell hb; (first | (replace hB := bkeep2 hB hb) | (replace hB := bkeep2 (balloc hB) hb) | (replace hB := bkeep2 (balloc (balloc hB)) hb) | have hB := hb); obtain ⟨hC, hF, hZ, hN⟩ := bcell4 hB; (try (have hlt := Nat.lt_of_lt_of_le hlt hb.size; have hne := Nat.ne_of_lt hlt)); (have hs0 := hb.size); (try simp only [World.size_alloc] at hs0); (try (have hlt := Nat.lt_of_succ_le hs0; have hne := Nat.ne_of_lt hlt))
    go_wp2
    exact bodyPost_ret (v := .agg #[.int .i64 (0), .int .i64 (0), .int .i64 (0), .int .i64 (0)]) (by simp only [results, Try.results12]; go_simp) rfl ⟨rfl, (by repeat (first | with_reducible exact Below.refl _ _ | with_reducible assumption | with_reducible refine balloc ?_ | (with_reducible refine bset ?_ ?_; rotate_left; ((try dsimp only); omega)) | refine bkeep2 ?_ (by assumption) | with_reducible refine Below.drew ?_))⟩
  · have h2 : rqB w0 h0 = false := by simpa [prB, h1] using h
    go_enter Try.func12, Try.ntmps12
    go_wp2_with fail
    with_reducible refine (svalidPlace_t p true _ h1).mono ?_
    rintro e w1 ⟨rfl, hb⟩
    obtain ⟨hc, hf⟩ := bcell hb; (first | (replace hB := bkeep2 hB hb) | (replace hB := bkeep2 (balloc hB) hb) | (replace hB := bkeep2 (balloc (balloc hB)) hb) | have hB := hb); obtain ⟨hC, hF, hZ, hN⟩ := bcell4 hB; (try (have hlt := Nat.lt_of_lt_of_le hlt hb.size; have hne := Nat.ne_of_lt hlt)); (have hs0 := hb.size); (try simp only [World.size_alloc] at hs0); (try (have hlt := Nat.lt_of_succ_le hs0; have hne := Nat.ne_of_lt hlt))
    go_wp2_with fail
    with_reducible refine (goodRoom_q _ _ false _ h2).mono ?_
    rintro e w2 ⟨rfl, rfl⟩
    go_wp2
    exact bodyPost_ret (v := .agg #[.int .i64 (0), .int .i64 (0), .int .i64 (0), .int .i64 (0)]) (by simp only [results, Try.results12]; go_simp) rfl ⟨rfl, (by repeat (first | with_reducible exact Below.refl _ _ | with_reducible assumption | with_reducible refine balloc ?_ | (with_reducible refine bset ?_ ?_; rotate_left; ((try dsimp only); omega)) | refine bkeep2 ?_ (by assumption) | with_reducible refine Below.drew ?_))⟩
set_option maxRecDepth 100000 in
theorem sPlaceRect_yes (p : Plc) (w0 h0 : Int) (w : World) (h : prB p w0 h0 = true) : Calls Try.prog 12 #[.agg #[.int .i64 p.x, .int .i64 p.y, .int .i64 p.rx, .int .i64 p.ry, .int .i64 p.ww, .int .i64 p.hh, .int .i64 p.qw, .int .i64 p.qh, .int .i64 p.an], .int .i64 w0, .int .i64 h0] w fun e w' => e = .returned (.agg #[.int .i64 (xM p w0), .int .i64 (yM p h0), .int .i64 (wM p w0), .int .i64 (hM p h0)]) ∧ Below w.heap.size w w' := by
  obtain ⟨h1, h2⟩ := prB_yes h
  have HX := Lib.hid (oldq1 w (.cells #[.int .i64 p.x, .int .i64 p.y, .int .i64 p.rx, .int .i64 p.ry, .int .i64 p.ww, .int .i64 p.hh, .int .i64 p.qw, .int .i64 p.qh, .int .i64 p.an] 25) (.cells #[.int .i64 0, .int .i64 0, .int .i64 0, .int .i64 0] 29))
  have HY := Lib.hid (newq1 w (.cells #[.int .i64 p.x, .int .i64 p.y, .int .i64 p.rx, .int .i64 p.ry, .int .i64 p.ww, .int .i64 p.hh, .int .i64 p.qw, .int .i64 p.qh, .int .i64 p.an] 25) (.cells #[.int .i64 0, .int .i64 0, .int .i64 0, .int .i64 0] 29))
  have HB := Lib.hid (balloc (o := .cells #[.int .i64 0, .int .i64 0, .int .i64 0, .int .i64 0] 29) (balloc (o := .cells #[.int .i64 p.x, .int .i64 p.y, .int .i64 p.rx, .int .i64 p.ry, .int .i64 p.ww, .int .i64 p.hh, .int .i64 p.qw, .int .i64 p.qh, .int .i64 p.an] 25) (Below.refl w.heap.size w)))
  go_enter Try.func12, Try.ntmps12
  go_wp2_with fail
  with_reducible refine (svalidPlace_t p true _ h1).mono ?_
  rintro e w1 ⟨rfl, hb⟩
  replace HX := Lib.hid ((hb.block _ (Array.getElem?_eq_some_iff.1 HX.out).1).trans HX.out)
  replace HY := Lib.hid ((hb.block _ (Array.getElem?_eq_some_iff.1 HY.out).1).trans HY.out)
  replace HB := Lib.hid (bkeep2 HB.out hb)
  clear hb
  obtain ⟨c0, c1, c2, c3, c4, c5, c6, c7, c8⟩ := c9_q HX.out
  go_wp2_with fail
  with_reducible refine (goodRoom_q _ _ true _ h2).mono ?_
  rintro e w2 ⟨rfl, rfl⟩
  go_wp2_with fail
  with_reducible refine (placed_v p w0 h0 _ h1 h2).mono ?_
  rintro e w3 ⟨rfl, hb⟩
  replace HY := Lib.hid ((hb.block _ (Array.getElem?_eq_some_iff.1 HY.out).1).trans HY.out)
  replace HB := Lib.hid (bkeep2 HB.out hb)
  clear hb
  have d0 := cl_q HY.out 0
  have d1 := cl_q HY.out 1
  have d2 := cl_q HY.out 2
  have d3 := cl_q HY.out 3
  have f0 := fz_q HY.out 0
  have f1 := fz_q HY.out 1
  have f2 := fz_q HY.out 2
  have f3 := fz_q HY.out 3
  have q := put_q (i := 3) (put_q (i := 2) (put_q (i := 1) (put_q (i := 0) HY.out (.int .i64 (xM p w0))) (.int .i64 (yM p h0))) (.int .i64 (wM p w0))) (.int .i64 (hM p h0))
  simp only [List.setIfInBounds_toArray, List.set_cons_succ, List.set_cons_zero] at q
  have HQ := Lib.hid q
  have HB2 := Lib.hid (bset (a := ⟨w.heap.size + 1, 3, none⟩) (u := .int .i64 (hM p h0)) (bset (a := ⟨w.heap.size + 1, 2, none⟩) (u := .int .i64 (wM p w0)) (bset (a := ⟨w.heap.size + 1, 1, none⟩) (u := .int .i64 (yM p h0)) (bset (a := ⟨w.heap.size + 1, 0, none⟩) (u := .int .i64 (xM p w0)) HB.out (by simp)) (by simp)) (by simp)) (by simp))
  clear q
  go_wp2_with fail
  refine bp_genQ (fun W => W.heap[w.heap.size + 1]? = some (.cells #[.int .i64 (xM p w0), .int .i64 (yM p h0), .int .i64 (wM p w0), .int .i64 (hM p h0)] 29 (0, 0)) ∧ Below w.heap.size w W) ⟨HQ.out, HB2.out⟩ ?_
  clear HQ HB2 HB HY HX d0 d1 d2 d3 f0 f1 f2 f3 c0 c1 c2 c3 c4 c5 c6 c7 c8
  rintro W ⟨hq, hb⟩
  have d0 := cl_q hq 0
  have d1 := cl_q hq 1
  have d2 := cl_q hq 2
  have d3 := cl_q hq 3
  exact bodyPost_ret (v := .agg #[.int .i64 (xM p w0), .int .i64 (yM p h0), .int .i64 (wM p w0), .int .i64 (hM p h0)]) (by simp only [results, Try.results12]; go_simp) rfl ⟨rfl, hb⟩
end Go.Proofs.Ytfhjmmajhohkjaa
end
section
namespace Go.Proofs.Ytfhjmmajhohkjaa
open Go.RowKit
set_option linter.unusedVariables false
set_option maxHeartbeats 1000000
attribute [local go_sem] growUpon_value growUpon_skip growUpon_enter
theorem ret_i64q {a b : Int} (h : a = b) : Ending.returned (.int .i64 a) = .returned (.int .i64 b) := by rw [h]
theorem holds_p (p : Plc) (w0 h0 : Int) (t : Bool) (w : World) (h1 : plB p = true) (h2 : rqB w0 h0 = true) (ht : piB p w0 h0 = t) : Calls Try.prog 42 #[.agg #[.int .i64 (0), .int .i64 (0), .int .i64 (w0), .int .i64 (h0)], .agg #[.int .i64 (xM p w0), .int .i64 (yM p h0), .int .i64 (wM p w0), .int .i64 (hM p h0)]] w fun e w' => e = .returned (.bool t) ∧ Below w.heap.size w w' := holds_s 0 0 w0 h0 _ _ _ _ t w (rm_sq h2) (pl_sq h1 h2) ht
theorem sinside_p (p : Plc) (w0 h0 : Int) (t : Bool) (w : World) (h1 : plB p = true) (h2 : rqB w0 h0 = true) (ht : piB p w0 h0 = t) : Calls Try.prog 33 #[.agg #[.int .i64 (0), .int .i64 (0), .int .i64 (w0), .int .i64 (h0)], .agg #[.int .i64 (xM p w0), .int .i64 (yM p h0), .int .i64 (wM p w0), .int .i64 (hM p h0)]] w fun e w' => e = .returned (.bool t) ∧ Below w.heap.size w w' := sinside_s 0 0 w0 h0 _ _ _ _ t w (rm_sq h2) (pl_sq h1 h2) ht
set_option maxRecDepth 100000 in
theorem placeInside_v (p : Plc) (w0 h0 : Int) (t : Bool) (w : World) (h1 : plB p = true) (h2 : rqB w0 h0 = true) (ht : piB p w0 h0 = t) : Calls Try.prog 34 #[.agg #[.int .i64 p.x, .int .i64 p.y, .int .i64 p.rx, .int .i64 p.ry, .int .i64 p.ww, .int .i64 p.hh, .int .i64 p.qw, .int .i64 p.qh, .int .i64 p.an], .int .i64 w0, .int .i64 h0] w fun e w' => e = .returned (.bool t) ∧ Below w.heap.size w w' := by
  have HX := Lib.hid (new_q w (.cells #[.int .i64 p.x, .int .i64 p.y, .int .i64 p.rx, .int .i64 p.ry, .int .i64 p.ww, .int .i64 p.hh, .int .i64 p.qw, .int .i64 p.qh, .int .i64 p.an] 25))
  have HB := Lib.hid (balloc (o := .cells #[.int .i64 p.x, .int .i64 p.y, .int .i64 p.rx, .int .i64 p.ry, .int .i64 p.ww, .int .i64 p.hh, .int .i64 p.qw, .int .i64 p.qh, .int .i64 p.an] 25) (Below.refl w.heap.size w))
  go_enter Try.func34, Try.ntmps34
  go_wp2_with fail
  with_reducible refine (placeRect_v p w0 h0 _ h1 h2).mono ?_
  rintro e w1 ⟨rfl, hb⟩
  replace HX := Lib.hid ((hb.block _ (Array.getElem?_eq_some_iff.1 HX.out).1).trans HX.out)
  replace HB := Lib.hid (bkeep2 HB.out hb)
  clear hb
  go_wp2_with fail
  with_reducible refine (holds_p p w0 h0 t _ h1 h2 ht).mono ?_
  rintro e w2 ⟨rfl, hb⟩
  replace HB := Lib.hid (bkeep2 HB.out hb)
  clear hb
  go_wp2
  go_ret
  exact ⟨rfl, HB.out⟩
set_option maxRecDepth 100000 in
theorem PlaceInside_t (p : Plc) (w0 h0 : Int) (t : Bool) (w : World) (ht : (prB p w0 h0 && piB p w0 h0) = t) : Calls Try.prog 16 #[.agg #[.int .i64 p.x, .int .i64 p.y, .int .i64 p.rx, .int .i64 p.ry, .int .i64 p.ww, .int .i64 p.hh, .int .i64 p.qw, .int .i64 p.qh, .int .i64 p.an], .int .i64 w0, .int .i64 h0] w fun e w' => e = .returned (.bool t) ∧ Below w.heap.size w w' := by
  have HX := Lib.hid (new_q w (.cells #[.int .i64 p.x, .int .i64 p.y, .int .i64 p.rx, .int .i64 p.ry, .int .i64 p.ww, .int .i64 p.hh, .int .i64 p.qw, .int .i64 p.qh, .int .i64 p.an] 25))
  have HB := Lib.hid (balloc (o := .cells #[.int .i64 p.x, .int .i64 p.y, .int .i64 p.rx, .int .i64 p.ry, .int .i64 p.ww, .int .i64 p.hh, .int .i64 p.qw, .int .i64 p.qh, .int .i64 p.an] 25) (Below.refl w.heap.size w))
  cases h1 : plB p
  · have hbf : false = t := by rw [← ht]; simp [prB, h1]
    subst hbf
    go_enter Try.func16, Try.ntmps16
    go_wp2_with fail
    with_reducible refine (validPlace_t p false _ h1).mono ?_
    rintro e w1 ⟨rfl, hb⟩
    replace HB := Lib.hid (bkeep2 HB.out hb)
    clear hb
    go_wp2
    go_ret
    exact ⟨rfl, HB.out⟩
  cases h2 : rqB w0 h0
  · have hbf : false = t := by rw [← ht]; simp [prB, h1, h2]
    subst hbf
    go_enter Try.func16, Try.ntmps16
    go_wp2_with fail
    with_reducible refine (validPlace_t p true _ h1).mono ?_
    rintro e w1 ⟨rfl, hb⟩
    replace HB := Lib.hid (bkeep2 HB.out hb)
    clear hb
    go_wp2_with fail
    with_reducible refine (validRoom_q _ _ false _ h2).mono ?_
    rintro e w2 ⟨rfl, rfl⟩
    go_wp2
    go_ret
    exact ⟨rfl, HB.out⟩
  have h3 : piB p w0 h0 = t := by rw [← ht]; simp [prB, h1, h2]
  go_enter Try.func16, Try.ntmps16
  go_wp2_with fail
  with_reducible refine (validPlace_t p true _ h1).mono ?_
  rintro e w1 ⟨rfl, hb⟩
  replace HX := Lib.hid ((hb.block _ (lt_q HX.out)).trans HX.out)
  replace HB := Lib.hid (bkeep2 HB.out hb)
  clear hb
  obtain ⟨c0, c1, c2, c3, c4, c5, c6, c7, c8⟩ := c9_q HX.out
  go_wp2_with fail
  with_reducible refine (validRoom_q _ _ true _ h2).mono ?_
  rintro e w2 ⟨rfl, rfl⟩
  go_wp2_with fail
  with_reducible refine (placeInside_v p w0 h0 t _ h1 h2 h3).mono ?_
  rintro e w3 ⟨rfl, hb⟩
  replace HB := Lib.hid (bkeep2 HB.out hb)
  clear hb
  go_wp2
  go_ret
  exact ⟨rfl, HB.out⟩
set_option maxRecDepth 100000 in
theorem sPlaceInside_t (p : Plc) (w0 h0 : Int) (t : Bool) (w : World) (ht : (prB p w0 h0 && piB p w0 h0) = t) : Calls Try.prog 15 #[.agg #[.int .i64 p.x, .int .i64 p.y, .int .i64 p.rx, .int .i64 p.ry, .int .i64 p.ww, .int .i64 p.hh, .int .i64 p.qw, .int .i64 p.qh, .int .i64 p.an], .int .i64 w0, .int .i64 h0] w fun e w' => e = .returned (.bool t) ∧ Below w.heap.size w w' := by
  have HX := Lib.hid (new_q w (.cells #[.int .i64 p.x, .int .i64 p.y, .int .i64 p.rx, .int .i64 p.ry, .int .i64 p.ww, .int .i64 p.hh, .int .i64 p.qw, .int .i64 p.qh, .int .i64 p.an] 25))
  have HB := Lib.hid (balloc (o := .cells #[.int .i64 p.x, .int .i64 p.y, .int .i64 p.rx, .int .i64 p.ry, .int .i64 p.ww, .int .i64 p.hh, .int .i64 p.qw, .int .i64 p.qh, .int .i64 p.an] 25) (Below.refl w.heap.size w))
  cases h1 : plB p
  · have hbf : false = t := by rw [← ht]; simp [prB, h1]
    subst hbf
    go_enter Try.func15, Try.ntmps15
    go_wp2_with fail
    with_reducible refine (svalidPlace_t p false _ h1).mono ?_
    rintro e w1 ⟨rfl, hb⟩
    replace HB := Lib.hid (bkeep2 HB.out hb)
    clear hb
    go_wp2
    go_ret
    exact ⟨rfl, HB.out⟩
  cases h2 : rqB w0 h0
  · have hbf : false = t := by rw [← ht]; simp [prB, h1, h2]
    subst hbf
    go_enter Try.func15, Try.ntmps15
    go_wp2_with fail
    with_reducible refine (svalidPlace_t p true _ h1).mono ?_
    rintro e w1 ⟨rfl, hb⟩
    replace HB := Lib.hid (bkeep2 HB.out hb)
    clear hb
    go_wp2_with fail
    with_reducible refine (goodRoom_q _ _ false _ h2).mono ?_
    rintro e w2 ⟨rfl, rfl⟩
    go_wp2
    go_ret
    exact ⟨rfl, HB.out⟩
  have h3 : piB p w0 h0 = t := by rw [← ht]; simp [prB, h1, h2]
  go_enter Try.func15, Try.ntmps15
  go_wp2_with fail
  with_reducible refine (svalidPlace_t p true _ h1).mono ?_
  rintro e w1 ⟨rfl, hb⟩
  replace HX := Lib.hid ((hb.block _ (lt_q HX.out)).trans HX.out)
  replace HB := Lib.hid (bkeep2 HB.out hb)
  clear hb
  obtain ⟨c0, c1, c2, c3, c4, c5, c6, c7, c8⟩ := c9_q HX.out
  go_wp2_with fail
  with_reducible refine (goodRoom_q _ _ true _ h2).mono ?_
  rintro e w2 ⟨rfl, rfl⟩
  go_wp2_with fail
  with_reducible refine (placed_v p w0 h0 _ h1 h2).mono ?_
  rintro e w3 ⟨rfl, hb⟩
  clear c0 c1 c2 c3 c4 c5 c6 c7 c8
  replace HB := Lib.hid (bkeep2 HB.out hb)
  clear hb
  go_wp2_with fail
  with_reducible refine (sinside_p p w0 h0 t _ h1 h2 h3).mono ?_
  rintro e w4 ⟨rfl, hb⟩
  replace HB := Lib.hid (bkeep2 HB.out hb)
  clear hb
  go_wp2
  go_ret
  exact ⟨rfl, HB.out⟩
theorem rq_k {k : Nat} (h : k ≤ 400) : rqB (k : Int) (k : Int) = true := rqB_iff.2 (by omega)
set_option maxRecDepth 100000 in
theorem LeastInside_no (p : Plc) (w : World) (h : plB p = false) : Calls Try.prog 18 #[.agg #[.int .i64 p.x, .int .i64 p.y, .int .i64 p.rx, .int .i64 p.ry, .int .i64 p.ww, .int .i64 p.hh, .int .i64 p.qw, .int .i64 p.qh, .int .i64 p.an]] w fun e w' => e = .returned (.int .i64 (-1)) ∧ Below w.heap.size w w' := by
  have HB := Lib.hid (balloc (o := .cells #[.int .i64 p.x, .int .i64 p.y, .int .i64 p.rx, .int .i64 p.ry, .int .i64 p.ww, .int .i64 p.hh, .int .i64 p.qw, .int .i64 p.qh, .int .i64 p.an] 25) (Below.refl w.heap.size w))
  go_enter Try.func18, Try.ntmps18
  go_wp2_with fail
  with_reducible refine (validPlace_t p false _ h).mono ?_
  rintro e w1 ⟨rfl, hb⟩
  replace HB := Lib.hid (bkeep2 HB.out hb)
  clear hb
  go_wp2
  go_ret
  exact ⟨rfl, HB.out⟩
set_option maxRecDepth 100000 in
theorem sLeastInside_no (p : Plc) (w : World) (h : plB p = false) : Calls Try.prog 17 #[.agg #[.int .i64 p.x, .int .i64 p.y, .int .i64 p.rx, .int .i64 p.ry, .int .i64 p.ww, .int .i64 p.hh, .int .i64 p.qw, .int .i64 p.qh, .int .i64 p.an]] w fun e w' => e = .returned (.int .i64 (-1)) ∧ Below w.heap.size w w' := by
  have HB := Lib.hid (balloc (o := .cells #[.int .i64 p.x, .int .i64 p.y, .int .i64 p.rx, .int .i64 p.ry, .int .i64 p.ww, .int .i64 p.hh, .int .i64 p.qw, .int .i64 p.qh, .int .i64 p.an] 25) (Below.refl w.heap.size w))
  go_enter Try.func17, Try.ntmps17
  go_wp2_with fail
  with_reducible refine (svalidPlace_t p false _ h).mono ?_
  rintro e w1 ⟨rfl, hb⟩
  replace HB := Lib.hid (bkeep2 HB.out hb)
  clear hb
  go_wp2
  go_ret
  exact ⟨rfl, HB.out⟩
set_option maxRecDepth 100000 in
theorem LeastInside_yes (p : Plc) (v : Int) (w : World) (h : plB p = true) (hv : LeM p v) : Calls Try.prog 18 #[.agg #[.int .i64 p.x, .int .i64 p.y, .int .i64 p.rx, .int .i64 p.ry, .int .i64 p.ww, .int .i64 p.hh, .int .i64 p.qw, .int .i64 p.qh, .int .i64 p.an]] w fun e w' => e = .returned (.int .i64 v) ∧ Below w.heap.size w w' := by
  have HX := Lib.hid (new_q w (.cells #[.int .i64 p.x, .int .i64 p.y, .int .i64 p.rx, .int .i64 p.ry, .int .i64 p.ww, .int .i64 p.hh, .int .i64 p.qw, .int .i64 p.qh, .int .i64 p.an] 25))
  have HB := Lib.hid (balloc (o := .cells #[.int .i64 p.x, .int .i64 p.y, .int .i64 p.rx, .int .i64 p.ry, .int .i64 p.ww, .int .i64 p.hh, .int .i64 p.qw, .int .i64 p.qh, .int .i64 p.an] 25) (Below.refl w.heap.size w))
  have HP := Lib.hid h
  have HV := Lib.hid hv
  clear h hv
  go_enter Try.func18, Try.ntmps18
  go_wp2_with fail
  with_reducible refine (validPlace_t p true _ HP.out).mono ?_
  rintro e w1 ⟨rfl, hb⟩
  replace HX := Lib.hid ((hb.block _ (Array.getElem?_eq_some_iff.1 HX.out).1).trans HX.out)
  replace HB := Lib.hid (bkeep2 HB.out hb)
  clear hb
  go_wp2_with fail
  go_loopw [7] (fun i wr => ∃ k : Nat, k ≤ 401 ∧ i = .int .i64 k ∧ (∀ j : Int, 0 ≤ j → j < k → piB p j j = false) ∧ wr.heap[w.heap.size]? = some (.cells #[.int .i64 p.x, .int .i64 p.y, .int .i64 p.rx, .int .i64 p.ry, .int .i64 p.ww, .int .i64 p.hh, .int .i64 p.qw, .int .i64 p.qh, .int .i64 p.an] 25 (0, 0)) ∧ Below w.heap.size w wr) (fun i _ => 401 - (intOf i).toNat)
  case atStart => exact ⟨0, by omega, rfl, fun j h0 h1 => by omega, HX.out, HB.out⟩
  case round =>
    obtain ⟨k, hk, rfl, hj, hX, hBr⟩ := hrel
    clear HX HB
    have HX := Lib.hid hX
    have HB := Lib.hid hBr
    have HJ := Lib.hid hj
    clear hX hBr hj
    by_cases hlt : k < 401
    · have hd : decide ((k : Int) < 401) = true := by simp; omega
      obtain ⟨c0, c1, c2, c3, c4, c5, c6, c7, c8⟩ := c9_q HX.out
      obtain ⟨t, ht⟩ : ∃ t, piB p (k : Int) (k : Int) = t := ⟨_, rfl⟩
      have HT := Lib.hid ht
      clear ht
      cases t
      all_goals
        go_wp2_with fail
        with_reducible refine (placeInside_v p k k _ _ HP.out (rq_k (by omega)) HT.out).mono ?_
        rintro e w2 ⟨rfl, hb⟩
        clear c0 c1 c2 c3 c4 c5 c6 c7 c8
        replace HX := Lib.hid ((hb.block _ (Array.getElem?_eq_some_iff.1 HX.out).1).trans HX.out)
        replace HB := Lib.hid (bkeep2 HB.out hb)
        clear hb
        go_wp2
      · go_roundw
        case rel => exact ⟨k + 1, by omega, by go_num, le_step HJ.out HT.out, HX.out, HB.out⟩
        case measure => simp [intOf]; omega
      · go_ret
        exact ⟨ret_i64q (LeM_uniq (.inl ⟨by omega, by omega, HT.out, HJ.out⟩) HV.out), HB.out⟩
    · have hd : decide ((k : Int) < 401) = false := by simp; omega
      go_wp2
      go_ret
      exact ⟨ret_i64q (LeM_uniq (.inr ⟨rfl, fun j h0 h1 => HJ.out j h0 (by omega)⟩) HV.out), HB.out⟩
set_option maxRecDepth 100000 in
theorem sLeastInside_yes (p : Plc) (v : Int) (w : World) (h : plB p = true) (hv : LeM p v) : Calls Try.prog 17 #[.agg #[.int .i64 p.x, .int .i64 p.y, .int .i64 p.rx, .int .i64 p.ry, .int .i64 p.ww, .int .i64 p.hh, .int .i64 p.qw, .int .i64 p.qh, .int .i64 p.an]] w fun e w' => e = .returned (.int .i64 v) ∧ Below w.heap.size w w' := by
  have HX := Lib.hid (new_q w (.cells #[.int .i64 p.x, .int .i64 p.y, .int .i64 p.rx, .int .i64 p.ry, .int .i64 p.ww, .int .i64 p.hh, .int .i64 p.qw, .int .i64 p.qh, .int .i64 p.an] 25))
  have HB := Lib.hid (balloc (o := .cells #[.int .i64 p.x, .int .i64 p.y, .int .i64 p.rx, .int .i64 p.ry, .int .i64 p.ww, .int .i64 p.hh, .int .i64 p.qw, .int .i64 p.qh, .int .i64 p.an] 25) (Below.refl w.heap.size w))
  have HP := Lib.hid h
  have HV := Lib.hid hv
  clear h hv
  go_enter Try.func17, Try.ntmps17
  go_wp2_with fail
  with_reducible refine (svalidPlace_t p true _ HP.out).mono ?_
  rintro e w1 ⟨rfl, hb⟩
  replace HX := Lib.hid ((hb.block _ (Array.getElem?_eq_some_iff.1 HX.out).1).trans HX.out)
  replace HB := Lib.hid (bkeep2 HB.out hb)
  clear hb
  go_wp2_with fail
  go_loopw [3] (fun i wr => ∃ k : Nat, k ≤ 401 ∧ i = .int .i64 k ∧ (∀ j : Int, 0 ≤ j → j < k → piB p j j = false) ∧ wr.heap[w.heap.size]? = some (.cells #[.int .i64 p.x, .int .i64 p.y, .int .i64 p.rx, .int .i64 p.ry, .int .i64 p.ww, .int .i64 p.hh, .int .i64 p.qw, .int .i64 p.qh, .int .i64 p.an] 25 (0, 0)) ∧ Below w.heap.size w wr) (fun i _ => 401 - (intOf i).toNat)
  case atStart => exact ⟨0, by omega, rfl, fun j h0 h1 => by omega, HX.out, HB.out⟩
  case round =>
    obtain ⟨k, hk, rfl, hj, hX, hBr⟩ := hrel
    clear HX HB
    have HX := Lib.hid hX
    have HB := Lib.hid hBr
    have HJ := Lib.hid hj
    clear hX hBr hj
    by_cases hlt : k < 401
    · have hd : decide ((k : Int) ≤ 400) = true := by simp; omega
      obtain ⟨c0, c1, c2, c3, c4, c5, c6, c7, c8⟩ := c9_q HX.out
      obtain ⟨t, ht⟩ : ∃ t, piB p (k : Int) (k : Int) = t := ⟨_, rfl⟩
      have HT := Lib.hid ht
      clear ht
      cases t
      all_goals
        go_wp2_with fail
        with_reducible refine (placed_v p k k _ HP.out (rq_k (by omega))).mono ?_
        rintro e w2 ⟨rfl, hb⟩
        clear c0 c1 c2 c3 c4 c5 c6 c7 c8
        replace HX := Lib.hid ((hb.block _ (Array.getElem?_eq_some_iff.1 HX.out).1).trans HX.out)
        replace HB := Lib.hid (bkeep2 HB.out hb)
        clear hb
        go_wp2_with fail
        with_reducible refine (sinside_p p k k _ _ HP.out (rq_k (by omega)) HT.out).mono ?_
        rintro e w3 ⟨rfl, hb⟩
        replace HX := Lib.hid ((hb.block _ (Array.getElem?_eq_some_iff.1 HX.out).1).trans HX.out)
        replace HB := Lib.hid (bkeep2 HB.out hb)
        clear hb
        go_wp2
      · go_roundw
        case rel => exact ⟨k + 1, by omega, by go_num, le_step HJ.out HT.out, HX.out, HB.out⟩
        case measure => simp [intOf]; omega
      · go_ret
        exact ⟨ret_i64q (LeM_uniq (.inl ⟨by omega, by omega, HT.out, HJ.out⟩) HV.out), HB.out⟩
    · have hd : decide ((k : Int) ≤ 400) = false := by simp; omega
      go_wp2
      go_ret
      exact ⟨ret_i64q (LeM_uniq (.inr ⟨rfl, fun j h0 h1 => HJ.out j h0 (by omega)⟩) HV.out), HB.out⟩
end Go.Proofs.Ytfhjmmajhohkjaa
end
