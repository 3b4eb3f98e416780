import Derived.Test.YtfhjmmajhohkjabQ05
section
namespace Go.Proofs.Ytfhjmmajhohkjab
open Go.RowKit
set_option linter.unusedVariables false
set_option maxHeartbeats 1000000
attribute [local go_sem 5000] run_mx run_mn
attribute [local go_sem] growUpon_value growUpon_skip growUpon_enter
theorem shB_iff {n : Int} : shB n = true ↔ (-300 ≤ n ∧ n ≤ 300) := by simp only [shB, rng_iff]
theorem inRange_sh (n : Int) (t : Bool) (w : World) (h : shB n = t) : Calls Try.prog 48 #[.int .i64 n, .int .i64 (-300), .int .i64 300] w fun e w' => e = .returned (.bool t) ∧ w = w' := inRange_q n (-300) 300 t w h
set_option maxRecDepth 100000 in
theorem PlaceAt_yes (p : Plc) (w0 h0 x0 y0 : Int) (w : World) (h : paB p w0 h0 x0 y0 = true) : Calls Try.prog 25 #[.agg #[.int .i64 p.x, .int .i64 p.y, .int .i64 p.rx, .int .i64 p.ry, .int .i64 p.ww, .int .i64 p.hh, .int .i64 p.qw, .int .i64 p.qh, .int .i64 p.an], .int .i64 w0, .int .i64 h0, .int .i64 x0, .int .i64 y0] w fun e w' => e = .returned (.tuple #[.agg #[.int .i64 (atM p w0 h0 x0 y0).x, .int .i64 (atM p w0 h0 x0 y0).y, .int .i64 (atM p w0 h0 x0 y0).rx, .int .i64 (atM p w0 h0 x0 y0).ry, .int .i64 (atM p w0 h0 x0 y0).ww, .int .i64 (atM p w0 h0 x0 y0).hh, .int .i64 (atM p w0 h0 x0 y0).qw, .int .i64 (atM p w0 h0 x0 y0).qh, .int .i64 (atM p w0 h0 x0 y0).an], .bool true]) ∧ Below w.heap.size w w' := by
  obtain ⟨h1, h2, h3, h4, h5⟩ := atM_bd h
  have HX := Lib.hid (oldq1 w (.cells #[.int .i64 p.x, .int .i64 p.y, .int .i64 p.rx, .int .i64 p.ry, .int .i64 p.ww, .int .i64 p.hh, .int .i64 p.qw, .int .i64 p.qh, .int .i64 p.an] 24) (.cells #[.int .i64 0, .int .i64 0, .int .i64 0, .int .i64 0, .int .i64 0, .int .i64 0, .int .i64 0, .int .i64 0, .int .i64 0] 24))
  have HY := Lib.hid (newq1 w (.cells #[.int .i64 p.x, .int .i64 p.y, .int .i64 p.rx, .int .i64 p.ry, .int .i64 p.ww, .int .i64 p.hh, .int .i64 p.qw, .int .i64 p.qh, .int .i64 p.an] 24) (.cells #[.int .i64 0, .int .i64 0, .int .i64 0, .int .i64 0, .int .i64 0, .int .i64 0, .int .i64 0, .int .i64 0, .int .i64 0] 24))
  have HB := Lib.hid (balloc (o := .cells #[.int .i64 0, .int .i64 0, .int .i64 0, .int .i64 0, .int .i64 0, .int .i64 0, .int .i64 0, .int .i64 0, .int .i64 0] 24) (balloc (o := .cells #[.int .i64 p.x, .int .i64 p.y, .int .i64 p.rx, .int .i64 p.ry, .int .i64 p.ww, .int .i64 p.hh, .int .i64 p.qw, .int .i64 p.qh, .int .i64 p.an] 24) (Below.refl w.heap.size w)))
  go_enter Try.func25, Try.ntmps25
  go_wp2_with fail
  with_reducible refine (validPlace_t p true _ h1).mono ?_
  rintro e w1 ⟨rfl, hb⟩
  replace HX := Lib.hid ((hb.block _ (Array.getElem?_eq_some_iff.1 HX.out).1).trans HX.out)
  replace HY := Lib.hid ((hb.block _ (Array.getElem?_eq_some_iff.1 HY.out).1).trans HY.out)
  replace HB := Lib.hid (bkeep2 HB.out hb)
  clear hb
  go_wp2_with fail
  with_reducible refine (validRoom_q _ _ true _ h2).mono ?_
  rintro e w2 ⟨rfl, rfl⟩
  go_wp2_with fail
  with_reducible refine (shift_t _ true _ h3).mono ?_
  rintro e w3 ⟨rfl, rfl⟩
  go_wp2_with fail
  with_reducible refine (shift_t _ true _ h4).mono ?_
  rintro e w4 ⟨rfl, rfl⟩
  obtain ⟨⟨b1, b1'⟩, ⟨b2, b2'⟩, -, -, -, -, -, -, -⟩ := plB_iff.1 h1
  obtain ⟨x1, x1'⟩ := (pl_bd h1 h2).x1 h1
  obtain ⟨y1, y1'⟩ := (pl_bd h1 h2).y1 h1
  obtain ⟨s1, s1'⟩ := shB_iff.1 h3
  obtain ⟨s2, s2'⟩ := shB_iff.1 h4
  obtain ⟨c0, c1, c2, c3, c4, c5, c6, c7, c8⟩ := c9_q HX.out
  go_wp2_with fail
  with_reducible refine (placeRect_v p w0 h0 _ h1 h2).mono ?_
  rintro e w5 ⟨rfl, hb⟩
  replace HX := Lib.hid ((hb.block _ (Array.getElem?_eq_some_iff.1 HX.out).1).trans HX.out)
  replace HY := Lib.hid ((hb.block _ (Array.getElem?_eq_some_iff.1 HY.out).1).trans HY.out)
  replace HB := Lib.hid (bkeep2 HB.out hb)
  clear hb
  clear c0 c1 c2 c3 c4 c5 c6 c7 c8
  have hb : Below w5.heap.size w5 (w5.alloc (.cells #[.int .i64 (xM p w0), .int .i64 (yM p h0), .int .i64 (wM p w0), .int .i64 (hM p h0)] 31)) := balloc (Below.refl _ _)
  replace HX := Lib.hid ((hb.block _ (Array.getElem?_eq_some_iff.1 HX.out).1).trans HX.out)
  replace HY := Lib.hid ((hb.block _ (Array.getElem?_eq_some_iff.1 HY.out).1).trans HY.out)
  replace HB := Lib.hid (bkeep2 HB.out hb)
  clear hb
  have HN := Lib.hid (new_q w5 (.cells #[.int .i64 (xM p w0), .int .i64 (yM p h0), .int .i64 (wM p w0), .int .i64 (hM p h0)] 31))
  go_wp2_with fail
  refine (shift_v w.heap.size p (x0 - xM p w0) (y0 - yM p h0) _ HX.out (by omega) (by omega) (by omega) (by omega)).mono ?_
  rintro e w6 ⟨⟨v, rfl⟩, hx, hg⟩
  replace HY := Lib.hid ((hg.block (w.heap.size + 1) (lt_q HY.out) (by simp)).trans HY.out)
  replace HB := Lib.hid (gnew_q HB.out hg (Nat.le_refl _))
  replace HX := Lib.hid (show w6.heap[w.heap.size]? = some (.cells #[.int .i64 (atM p w0 h0 x0 y0).x, .int .i64 (atM p w0 h0 x0 y0).y, .int .i64 (atM p w0 h0 x0 y0).rx, .int .i64 (atM p w0 h0 x0 y0).ry, .int .i64 (atM p w0 h0 x0 y0).ww, .int .i64 (atM p w0 h0 x0 y0).hh, .int .i64 (atM p w0 h0 x0 y0).qw, .int .i64 (atM p w0 h0 x0 y0).qh, .int .i64 (atM p w0 h0 x0 y0).an] 24 (0, 0)) from hx)
  clear hx hg HN
  obtain ⟨c0, c1, c2, c3, c4, c5, c6, c7, c8⟩ := c9_q HX.out
  go_wp2_with fail
  refine (ifPlace_true (atM p w0 h0 x0 y0) _ h5).mono ?_
  rintro e w7 ⟨rfl, hb⟩
  replace HX := Lib.hid ((hb.block _ (Array.getElem?_eq_some_iff.1 HX.out).1).trans HX.out)
  replace HY := Lib.hid ((hb.block _ (Array.getElem?_eq_some_iff.1 HY.out).1).trans HY.out)
  replace HB := Lib.hid (bkeep2 HB.out hb)
  clear hb
  clear c0 c1 c2 c3 c4 c5 c6 c7 c8
  obtain ⟨d0, d1, d2, d3, d4, d5, d6, d7, d8⟩ := c9_q HY.out
  obtain ⟨f0, f1, f2, f3, f4, f5, f6, f7, f8⟩ := f9_q HY.out
  have ly := lt_q HY.out
  have ln := Nat.ne_of_lt ly
  go_wp2_with fail
  refine bp_genQ (fun W => W.heap[w.heap.size + 1]? = some (.cells #[.int .i64 (atM p w0 h0 x0 y0).x, .int .i64 (atM p w0 h0 x0 y0).y, .int .i64 (atM p w0 h0 x0 y0).rx, .int .i64 (atM p w0 h0 x0 y0).ry, .int .i64 (atM p w0 h0 x0 y0).ww, .int .i64 (atM p w0 h0 x0 y0).hh, .int .i64 (atM p w0 h0 x0 y0).qw, .int .i64 (atM p w0 h0 x0 y0).qh, .int .i64 (atM p w0 h0 x0 y0).an] 24 (0, 0)) ∧ Below w.heap.size w W) ⟨put9_q HY.out (.int .i64 (atM p w0 h0 x0 y0).x) (.int .i64 (atM p w0 h0 x0 y0).y) (.int .i64 (atM p w0 h0 x0 y0).rx) (.int .i64 (atM p w0 h0 x0 y0).ry) (.int .i64 (atM p w0 h0 x0 y0).ww) (.int .i64 (atM p w0 h0 x0 y0).hh) (.int .i64 (atM p w0 h0 x0 y0).qw) (.int .i64 (atM p w0 h0 x0 y0).qh) (.int .i64 (atM p w0 h0 x0 y0).an), bset9_q HB.out (by simp) (.int .i64 (atM p w0 h0 x0 y0).x) (.int .i64 (atM p w0 h0 x0 y0).y) (.int .i64 (atM p w0 h0 x0 y0).rx) (.int .i64 (atM p w0 h0 x0 y0).ry) (.int .i64 (atM p w0 h0 x0 y0).ww) (.int .i64 (atM p w0 h0 x0 y0).hh) (.int .i64 (atM p w0 h0 x0 y0).qw) (.int .i64 (atM p w0 h0 x0 y0).qh) (.int .i64 (atM p w0 h0 x0 y0).an)⟩ ?_
  clear HX HY HB d0 d1 d2 d3 d4 d5 d6 d7 d8 f0 f1 f2 f3 f4 f5 f6 f7 f8
  rintro W ⟨hq, hb⟩
  obtain ⟨d0, d1, d2, d3, d4, d5, d6, d7, d8⟩ := c9_q hq
  exact bodyPost_ret (v := .tuple #[.agg #[.int .i64 (atM p w0 h0 x0 y0).x, .int .i64 (atM p w0 h0 x0 y0).y, .int .i64 (atM p w0 h0 x0 y0).rx, .int .i64 (atM p w0 h0 x0 y0).ry, .int .i64 (atM p w0 h0 x0 y0).ww, .int .i64 (atM p w0 h0 x0 y0).hh, .int .i64 (atM p w0 h0 x0 y0).qw, .int .i64 (atM p w0 h0 x0 y0).qh, .int .i64 (atM p w0 h0 x0 y0).an], .bool true]) (by simp only [results, Try.results25]; go_simp) rfl ⟨rfl, hb⟩
set_option maxRecDepth 100000 in
theorem PlaceAt_no (p : Plc) (w0 h0 x0 y0 : Int) (w : World) (h : paB p w0 h0 x0 y0 = false) : Calls Try.prog 25 #[.agg #[.int .i64 p.x, .int .i64 p.y, .int .i64 p.rx, .int .i64 p.ry, .int .i64 p.ww, .int .i64 p.hh, .int .i64 p.qw, .int .i64 p.qh, .int .i64 p.an], .int .i64 w0, .int .i64 h0, .int .i64 x0, .int .i64 y0] w fun e w' => e = .returned (.tuple #[.agg #[.int .i64 0, .int .i64 0, .int .i64 0, .int .i64 0, .int .i64 0, .int .i64 0, .int .i64 0, .int .i64 0, .int .i64 0], .bool false]) ∧ Below w.heap.size w w' := by
  cases h1 : plB p
  · skip
    have HX := Lib.hid (oldq1 w (.cells #[.int .i64 p.x, .int .i64 p.y, .int .i64 p.rx, .int .i64 p.ry, .int .i64 p.ww, .int .i64 p.hh, .int .i64 p.qw, .int .i64 p.qh, .int .i64 p.an] 24) (.cells #[.int .i64 0, .int .i64 0, .int .i64 0, .int .i64 0, .int .i64 0, .int .i64 0, .int .i64 0, .int .i64 0, .int .i64 0] 24))
    have HY := Lib.hid (newq1 w (.cells #[.int .i64 p.x, .int .i64 p.y, .int .i64 p.rx, .int .i64 p.ry, .int .i64 p.ww, .int .i64 p.hh, .int .i64 p.qw, .int .i64 p.qh, .int .i64 p.an] 24) (.cells #[.int .i64 0, .int .i64 0, .int .i64 0, .int .i64 0, .int .i64 0, .int .i64 0, .int .i64 0, .int .i64 0, .int .i64 0] 24))
    have HB := Lib.hid (balloc (o := .cells #[.int .i64 0, .int .i64 0, .int .i64 0, .int .i64 0, .int .i64 0, .int .i64 0, .int .i64 0, .int .i64 0, .int .i64 0] 24) (balloc (o := .cells #[.int .i64 p.x, .int .i64 p.y, .int .i64 p.rx, .int .i64 p.ry, .int .i64 p.ww, .int .i64 p.hh, .int .i64 p.qw, .int .i64 p.qh, .int .i64 p.an] 24) (Below.refl w.heap.size w)))
    go_enter Try.func25, Try.ntmps25
    go_wp2_with fail
    with_reducible refine (validPlace_t p false _ h1).mono ?_
    rintro e w1 ⟨rfl, hb⟩
    replace HX := Lib.hid ((hb.block _ (Array.getElem?_eq_some_iff.1 HX.out).1).trans HX.out)
    replace HY := Lib.hid ((hb.block _ (Array.getElem?_eq_some_iff.1 HY.out).1).trans HY.out)
    replace HB := Lib.hid (bkeep2 HB.out hb)
    clear hb
    obtain ⟨d0, d1, d2, d3, d4, d5, d6, d7, d8⟩ := c9_q HY.out
    obtain ⟨f0, f1, f2, f3, f4, f5, f6, f7, f8⟩ := f9_q HY.out
    have ly := lt_q HY.out
    have ln := Nat.ne_of_lt ly
    go_wp2_with fail
    refine bp_genQ (fun W => W.heap[w.heap.size + 1]? = some (.cells #[.int .i64 0, .int .i64 0, .int .i64 0, .int .i64 0, .int .i64 0, .int .i64 0, .int .i64 0, .int .i64 0, .int .i64 0] 24 (0, 0)) ∧ Below w.heap.size w W) ⟨put9_q HY.out (.int .i64 0) (.int .i64 0) (.int .i64 0) (.int .i64 0) (.int .i64 0) (.int .i64 0) (.int .i64 0) (.int .i64 0) (.int .i64 0), bset9_q HB.out (by simp) (.int .i64 0) (.int .i64 0) (.int .i64 0) (.int .i64 0) (.int .i64 0) (.int .i64 0) (.int .i64 0) (.int .i64 0) (.int .i64 0)⟩ ?_
    clear HX HY HB d0 d1 d2 d3 d4 d5 d6 d7 d8 f0 f1 f2 f3 f4 f5 f6 f7 f8
    rintro W ⟨hq, hb⟩
    obtain ⟨d0, d1, d2, d3, d4, d5, d6, d7, d8⟩ := c9_q hq
    exact bodyPost_ret (v := .tuple #[.agg #[.int .i64 0, .int .i64 0, .int .i64 0, .int .i64 0, .int .i64 0, .int .i64 0, .int .i64 0, .int .i64 0, .int .i64 0], .bool false]) (by simp only [results, Try.results25]; go_simp) rfl ⟨rfl, hb⟩
  cases h2 : rqB w0 h0
  · skip
    have HX := Lib.hid (oldq1 w (.cells #[.int .i64 p.x, .int .i64 p.y, .int .i64 p.rx, .int .i64 p.ry, .int .i64 p.ww, .int .i64 p.hh, .int .i64 p.qw, .int .i64 p.qh, .int .i64 p.an] 24) (.cells #[.int .i64 0, .int .i64 0, .int .i64 0, .int .i64 0, .int .i64 0, .int .i64 0, .int .i64 0, .int .i64 0, .int .i64 0] 24))
    have HY := Lib.hid (newq1 w (.cells #[.int .i64 p.x, .int .i64 p.y, .int .i64 p.rx, .int .i64 p.ry, .int .i64 p.ww, .int .i64 p.hh, .int .i64 p.qw, .int .i64 p.qh, .int .i64 p.an] 24) (.cells #[.int .i64 0, .int .i64 0, .int .i64 0, .int .i64 0, .int .i64 0, .int .i64 0, .int .i64 0, .int .i64 0, .int .i64 0] 24))
    have HB := Lib.hid (balloc (o := .cells #[.int .i64 0, .int .i64 0, .int .i64 0, .int .i64 0, .int .i64 0, .int .i64 0, .int .i64 0, .int .i64 0, .int .i64 0] 24) (balloc (o := .cells #[.int .i64 p.x, .int .i64 p.y, .int .i64 p.rx, .int .i64 p.ry, .int .i64 p.ww, .int .i64 p.hh, .int .i64 p.qw, .int .i64 p.qh, .int .i64 p.an] 24) (Below.refl w.heap.size w)))
    go_enter Try.func25, Try.ntmps25
    go_wp2_with fail
    with_reducible refine (validPlace_t p true _ h1).mono ?_
    rintro e w1 ⟨rfl, hb⟩
    replace HX := Lib.hid ((hb.block _ (Array.getElem?_eq_some_iff.1 HX.out).1).trans HX.out)
    replace HY := Lib.hid ((hb.block _ (Array.getElem?_eq_some_iff.1 HY.out).1).trans HY.out)
    replace HB := Lib.hid (bkeep2 HB.out hb)
    clear hb
    go_wp2_with fail
    with_reducible refine (validRoom_q _ _ false _ h2).mono ?_
    rintro e w2 ⟨rfl, rfl⟩
    obtain ⟨d0, d1, d2, d3, d4, d5, d6, d7, d8⟩ := c9_q HY.out
    obtain ⟨f0, f1, f2, f3, f4, f5, f6, f7, f8⟩ := f9_q HY.out
    have ly := lt_q HY.out
    have ln := Nat.ne_of_lt ly
    go_wp2_with fail
    refine bp_genQ (fun W => W.heap[w.heap.size + 1]? = some (.cells #[.int .i64 0, .int .i64 0, .int .i64 0, .int .i64 0, .int .i64 0, .int .i64 0, .int .i64 0, .int .i64 0, .int .i64 0] 24 (0, 0)) ∧ Below w.heap.size w W) ⟨put9_q HY.out (.int .i64 0) (.int .i64 0) (.int .i64 0) (.int .i64 0) (.int .i64 0) (.int .i64 0) (.int .i64 0) (.int .i64 0) (.int .i64 0), bset9_q HB.out (by simp) (.int .i64 0) (.int .i64 0) (.int .i64 0) (.int .i64 0) (.int .i64 0) (.int .i64 0) (.int .i64 0) (.int .i64 0) (.int .i64 0)⟩ ?_
    clear HX HY HB d0 d1 d2 d3 d4 d5 d6 d7 d8 f0 f1 f2 f3 f4 f5 f6 f7 f8
    rintro W ⟨hq, hb⟩
    obtain ⟨d0, d1, d2, d3, d4, d5, d6, d7, d8⟩ := c9_q hq
    exact bodyPost_ret (v := .tuple #[.agg #[.int .i64 0, .int .i64 0, .int .i64 0, .int .i64 0, .int .i64 0, .int .i64 0, .int .i64 0, .int .i64 0, .int .i64 0], .bool false]) (by simp only [results, Try.results25]; go_simp) rfl ⟨rfl, hb⟩
  cases h3 : shB x0
  · skip
    have HX := Lib.hid (oldq1 w (.cells #[.int .i64 p.x, .int .i64 p.y, .int .i64 p.rx, .int .i64 p.ry, .int .i64 p.ww, .int .i64 p.hh, .int .i64 p.qw, .int .i64 p.qh, .int .i64 p.an] 24) (.cells #[.int .i64 0, .int .i64 0, .int .i64 0, .int .i64 0, .int .i64 0, .int .i64 0, .int .i64 0, .int .i64 0, .int .i64 0] 24))
    have HY := Lib.hid (newq1 w (.cells #[.int .i64 p.x, .int .i64 p.y, .int .i64 p.rx, .int .i64 p.ry, .int .i64 p.ww, .int .i64 p.hh, .int .i64 p.qw, .int .i64 p.qh, .int .i64 p.an] 24) (.cells #[.int .i64 0, .int .i64 0, .int .i64 0, .int .i64 0, .int .i64 0, .int .i64 0, .int .i64 0, .int .i64 0, .int .i64 0] 24))
    have HB := Lib.hid (balloc (o := .cells #[.int .i64 0, .int .i64 0, .int .i64 0, .int .i64 0, .int .i64 0, .int .i64 0, .int .i64 0, .int .i64 0, .int .i64 0] 24) (balloc (o := .cells #[.int .i64 p.x, .int .i64 p.y, .int .i64 p.rx, .int .i64 p.ry, .int .i64 p.ww, .int .i64 p.hh, .int .i64 p.qw, .int .i64 p.qh, .int .i64 p.an] 24) (Below.refl w.heap.size w)))
    go_enter Try.func25, Try.ntmps25
    go_wp2_with fail
    with_reducible refine (validPlace_t p true _ h1).mono ?_
    rintro e w1 ⟨rfl, hb⟩
    replace HX := Lib.hid ((hb.block _ (Array.getElem?_eq_some_iff.1 HX.out).1).trans HX.out)
    replace HY := Lib.hid ((hb.block _ (Array.getElem?_eq_some_iff.1 HY.out).1).trans HY.out)
    replace HB := Lib.hid (bkeep2 HB.out hb)
    clear hb
    go_wp2_with fail
    with_reducible refine (validRoom_q _ _ true _ h2).mono ?_
    rintro e w2 ⟨rfl, rfl⟩
    go_wp2_with fail
    with_reducible refine (shift_t _ false _ h3).mono ?_
    rintro e w3 ⟨rfl, rfl⟩
    obtain ⟨d0, d1, d2, d3, d4, d5, d6, d7, d8⟩ := c9_q HY.out
    obtain ⟨f0, f1, f2, f3, f4, f5, f6, f7, f8⟩ := f9_q HY.out
    have ly := lt_q HY.out
    have ln := Nat.ne_of_lt ly
    go_wp2_with fail
    refine bp_genQ (fun W => W.heap[w.heap.size + 1]? = some (.cells #[.int .i64 0, .int .i64 0, .int .i64 0, .int .i64 0, .int .i64 0, .int .i64 0, .int .i64 0, .int .i64 0, .int .i64 0] 24 (0, 0)) ∧ Below w.heap.size w W) ⟨put9_q HY.out (.int .i64 0) (.int .i64 0) (.int .i64 0) (.int .i64 0) (.int .i64 0) (.int .i64 0) (.int .i64 0) (.int .i64 0) (.int .i64 0), bset9_q HB.out (by simp) (.int .i64 0) (.int .i64 0) (.int .i64 0) (.int .i64 0) (.int .i64 0) (.int .i64 0) (.int .i64 0) (.int .i64 0) (.int .i64 0)⟩ ?_
    clear HX HY HB d0 d1 d2 d3 d4 d5 d6 d7 d8 f0 f1 f2 f3 f4 f5 f6 f7 f8
    rintro W ⟨hq, hb⟩
    obtain ⟨d0, d1, d2, d3, d4, d5, d6, d7, d8⟩ := c9_q hq
    exact bodyPost_ret (v := .tuple #[.agg #[.int .i64 0, .int .i64 0, .int .i64 0, .int .i64 0, .int .i64 0, .int .i64 0, .int .i64 0, .int .i64 0, .int .i64 0], .bool false]) (by simp only [results, Try.results25]; go_simp) rfl ⟨rfl, hb⟩
  cases h4 : shB y0
  · skip
    have HX := Lib.hid (oldq1 w (.cells #[.int .i64 p.x, .int .i64 p.y, .int .i64 p.rx, .int .i64 p.ry, .int .i64 p.ww, .int .i64 p.hh, .int .i64 p.qw, .int .i64 p.qh, .int .i64 p.an] 24) (.cells #[.int .i64 0, .int .i64 0, .int .i64 0, .int .i64 0, .int .i64 0, .int .i64 0, .int .i64 0, .int .i64 0, .int .i64 0] 24))
    have HY := Lib.hid (newq1 w (.cells #[.int .i64 p.x, .int .i64 p.y, .int .i64 p.rx, .int .i64 p.ry, .int .i64 p.ww, .int .i64 p.hh, .int .i64 p.qw, .int .i64 p.qh, .int .i64 p.an] 24) (.cells #[.int .i64 0, .int .i64 0, .int .i64 0, .int .i64 0, .int .i64 0, .int .i64 0, .int .i64 0, .int .i64 0, .int .i64 0] 24))
    have HB := Lib.hid (balloc (o := .cells #[.int .i64 0, .int .i64 0, .int .i64 0, .int .i64 0, .int .i64 0, .int .i64 0, .int .i64 0, .int .i64 0, .int .i64 0] 24) (balloc (o := .cells #[.int .i64 p.x, .int .i64 p.y, .int .i64 p.rx, .int .i64 p.ry, .int .i64 p.ww, .int .i64 p.hh, .int .i64 p.qw, .int .i64 p.qh, .int .i64 p.an] 24) (Below.refl w.heap.size w)))
    go_enter Try.func25, Try.ntmps25
    go_wp2_with fail
    with_reducible refine (validPlace_t p true _ h1).mono ?_
    rintro e w1 ⟨rfl, hb⟩
    replace HX := Lib.hid ((hb.block _ (Array.getElem?_eq_some_iff.1 HX.out).1).trans HX.out)
    replace HY := Lib.hid ((hb.block _ (Array.getElem?_eq_some_iff.1 HY.out).1).trans HY.out)
    replace HB := Lib.hid (bkeep2 HB.out hb)
    clear hb
    go_wp2_with fail
    with_reducible refine (validRoom_q _ _ true _ h2).mono ?_
    rintro e w2 ⟨rfl, rfl⟩
    go_wp2_with fail
    with_reducible refine (shift_t _ true _ h3).mono ?_
    rintro e w3 ⟨rfl, rfl⟩
    go_wp2_with fail
    with_reducible refine (shift_t _ false _ h4).mono ?_
    rintro e w4 ⟨rfl, rfl⟩
    obtain ⟨d0, d1, d2, d3, d4, d5, d6, d7, d8⟩ := c9_q HY.out
    obtain ⟨f0, f1, f2, f3, f4, f5, f6, f7, f8⟩ := f9_q HY.out
    have ly := lt_q HY.out
    have ln := Nat.ne_of_lt ly
    go_wp2_with fail
    refine bp_genQ (fun W => W.heap[w.heap.size + 1]? = some (.cells #[.int .i64 0, .int .i64 0, .int .i64 0, .int .i64 0, .int .i64 0, .int .i64 0, .int .i64 0, .int .i64 0, .int .i64 0] 24 (0, 0)) ∧ Below w.heap.size w W) ⟨put9_q HY.out (.int .i64 0) (.int .i64 0) (.int .i64 0) (.int .i64 0) (.int .i64 0) (.int .i64 0) (.int .i64 0) (.int .i64 0) (.int .i64 0), bset9_q HB.out (by simp) (.int .i64 0) (.int .i64 0) (.int .i64 0) (.int .i64 0) (.int .i64 0) (.int .i64 0) (.int .i64 0) (.int .i64 0) (.int .i64 0)⟩ ?_
    clear HX HY HB d0 d1 d2 d3 d4 d5 d6 d7 d8 f0 f1 f2 f3 f4 f5 f6 f7 f8
    rintro W ⟨hq, hb⟩
    obtain ⟨d0, d1, d2, d3, d4, d5, d6, d7, d8⟩ := c9_q hq
    exact bodyPost_ret (v := .tuple #[.agg #[.int .i64 0, .int .i64 0, .int .i64 0, .int .i64 0, .int .i64 0, .int .i64 0, .int .i64 0, .int .i64 0, .int .i64 0], .bool false]) (by simp only [results, Try.results25]; go_simp) rfl ⟨rfl, hb⟩
  have h5 : plB (atM p w0 h0 x0 y0) = false := by simpa [paB, prB, h1, h2, h3, h4] using h
  have HX := Lib.hid (oldq1 w (.cells #[.int .i64 p.x, .int .i64 p.y, .int .i64 p.rx, .int .i64 p.ry, .int .i64 p.ww, .int .i64 p.hh, .int .i64 p.qw, .int .i64 p.qh, .int .i64 p.an] 24) (.cells #[.int .i64 0, .int .i64 0, .int .i64 0, .int .i64 0, .int .i64 0, .int .i64 0, .int .i64 0, .int .i64 0, .int .i64 0] 24))
  have HY := Lib.hid (newq1 w (.cells #[.int .i64 p.x, .int .i64 p.y, .int .i64 p.rx, .int .i64 p.ry, .int .i64 p.ww, .int .i64 p.hh, .int .i64 p.qw, .int .i64 p.qh, .int .i64 p.an] 24) (.cells #[.int .i64 0, .int .i64 0, .int .i64 0, .int .i64 0, .int .i64 0, .int .i64 0, .int .i64 0, .int .i64 0, .int .i64 0] 24))
  have HB := Lib.hid (balloc (o := .cells #[.int .i64 0, .int .i64 0, .int .i64 0, .int .i64 0, .int .i64 0, .int .i64 0, .int .i64 0, .int .i64 0, .int .i64 0] 24) (balloc (o := .cells #[.int .i64 p.x, .int .i64 p.y, .int .i64 p.rx, .int .i64 p.ry, .int .i64 p.ww, .int .i64 p.hh, .int .i64 p.qw, .int .i64 p.qh, .int .i64 p.an] 24) (Below.refl w.heap.size w)))
  go_enter Try.func25, Try.ntmps25
  go_wp2_with fail
  with_reducible refine (validPlace_t p true _ h1).mono ?_
  rintro e w1 ⟨rfl, hb⟩
  replace HX := Lib.hid ((hb.block _ (Array.getElem?_eq_some_iff.1 HX.out).1).trans HX.out)
  replace HY := Lib.hid ((hb.block _ (Array.getElem?_eq_some_iff.1 HY.out).1).trans HY.out)
  replace HB := Lib.hid (bkeep2 HB.out hb)
  clear hb
  go_wp2_with fail
  with_reducible refine (validRoom_q _ _ true _ h2).mono ?_
  rintro e w2 ⟨rfl, rfl⟩
  go_wp2_with fail
  with_reducible refine (shift_t _ true _ h3).mono ?_
  rintro e w3 ⟨rfl, rfl⟩
  go_wp2_with fail
  with_reducible refine (shift_t _ true _ h4).mono ?_
  rintro e w4 ⟨rfl, rfl⟩
  obtain ⟨⟨b1, b1'⟩, ⟨b2, b2'⟩, -, -, -, -, -, -, -⟩ := plB_iff.1 h1
  obtain ⟨x1, x1'⟩ := (pl_bd h1 h2).x1 h1
  obtain ⟨y1, y1'⟩ := (pl_bd h1 h2).y1 h1
  obtain ⟨s1, s1'⟩ := shB_iff.1 h3
  obtain ⟨s2, s2'⟩ := shB_iff.1 h4
  obtain ⟨c0, c1, c2, c3, c4, c5, c6, c7, c8⟩ := c9_q HX.out
  go_wp2_with fail
  with_reducible refine (placeRect_v p w0 h0 _ h1 h2).mono ?_
  rintro e w5 ⟨rfl, hb⟩
  replace HX := Lib.hid ((hb.block _ (Array.getElem?_eq_some_iff.1 HX.out).1).trans HX.out)
  replace HY := Lib.hid ((hb.block _ (Array.getElem?_eq_some_iff.1 HY.out).1).trans HY.out)
  replace HB := Lib.hid (bkeep2 HB.out hb)
  clear hb
  clear c0 c1 c2 c3 c4 c5 c6 c7 c8
  have hb : Below w5.heap.size w5 (w5.alloc (.cells #[.int .i64 (xM p w0), .int .i64 (yM p h0), .int .i64 (wM p w0), .int .i64 (hM p h0)] 31)) := balloc (Below.refl _ _)
  replace HX := Lib.hid ((hb.block _ (Array.getElem?_eq_some_iff.1 HX.out).1).trans HX.out)
  replace HY := Lib.hid ((hb.block _ (Array.getElem?_eq_some_iff.1 HY.out).1).trans HY.out)
  replace HB := Lib.hid (bkeep2 HB.out hb)
  clear hb
  have HN := Lib.hid (new_q w5 (.cells #[.int .i64 (xM p w0), .int .i64 (yM p h0), .int .i64 (wM p w0), .int .i64 (hM p h0)] 31))
  go_wp2_with fail
  refine (shift_v w.heap.size p (x0 - xM p w0) (y0 - yM p h0) _ HX.out (by omega) (by omega) (by omega) (by omega)).mono ?_
  rintro e w6 ⟨⟨v, rfl⟩, hx, hg⟩
  replace HY := Lib.hid ((hg.block (w.heap.size + 1) (lt_q HY.out) (by simp)).trans HY.out)
  replace HB := Lib.hid (gnew_q HB.out hg (Nat.le_refl _))
  replace HX := Lib.hid (show w6.heap[w.heap.size]? = some (.cells #[.int .i64 (atM p w0 h0 x0 y0).x, .int .i64 (atM p w0 h0 x0 y0).y, .int .i64 (atM p w0 h0 x0 y0).rx, .int .i64 (atM p w0 h0 x0 y0).ry, .int .i64 (atM p w0 h0 x0 y0).ww, .int .i64 (atM p w0 h0 x0 y0).hh, .int .i64 (atM p w0 h0 x0 y0).qw, .int .i64 (atM p w0 h0 x0 y0).qh, .int .i64 (atM p w0 h0 x0 y0).an] 24 (0, 0)) from hx)
  clear hx hg HN
  obtain ⟨c0, c1, c2, c3, c4, c5, c6, c7, c8⟩ := c9_q HX.out
  go_wp2_with fail
  refine (ifPlace_false (atM p w0 h0 x0 y0) _ h5).mono ?_
  rintro e w7 ⟨rfl, hb⟩
  replace HX := Lib.hid ((hb.block _ (Array.getElem?_eq_some_iff.1 HX.out).1).trans HX.out)
  replace HY := Lib.hid ((hb.block _ (Array.getElem?_eq_some_iff.1 HY.out).1).trans HY.out)
  replace HB := Lib.hid (bkeep2 HB.out hb)
  clear hb
  clear c0 c1 c2 c3 c4 c5 c6 c7 c8
  obtain ⟨d0, d1, d2, d3, d4, d5, d6, d7, d8⟩ := c9_q HY.out
  obtain ⟨f0, f1, f2, f3, f4, f5, f6, f7, f8⟩ := f9_q HY.out
  have ly := lt_q HY.out
  have ln := Nat.ne_of_lt ly
  go_wp2_with fail
  refine bp_genQ (fun W => W.heap[w.heap.size + 1]? = some (.cells #[.int .i64 0, .int .i64 0, .int .i64 0, .int .i64 0, .int .i64 0, .int .i64 0, .int .i64 0, .int .i64 0, .int .i64 0] 24 (0, 0)) ∧ Below w.heap.size w W) ⟨put9_q HY.out (.int .i64 0) (.int .i64 0) (.int .i64 0) (.int .i64 0) (.int .i64 0) (.int .i64 0) (.int .i64 0) (.int .i64 0) (.int .i64 0), bset9_q HB.out (by simp) (.int .i64 0) (.int .i64 0) (.int .i64 0) (.int .i64 0) (.int .i64 0) (.int .i64 0) (.int .i64 0) (.int .i64 0) (.int .i64 0)⟩ ?_
  clear HX HY HB d0 d1 d2 d3 d4 d5 d6 d7 d8 f0 f1 f2 f3 f4 f5 f6 f7 f8
  rintro W ⟨hq, hb⟩
  obtain ⟨d0, d1, d2, d3, d4, d5, d6, d7, d8⟩ := c9_q hq
  exact bodyPost_ret (v := .tuple #[.agg #[.int .i64 0, .int .i64 0, .int .i64 0, .int .i64 0, .int .i64 0, .int .i64 0, .int .i64 0, .int .i64 0, .int .i64 0], .bool false]) (by simp only [results, Try.results25]; go_simp) rfl ⟨rfl, hb⟩
set_option maxRecDepth 100000 in
theorem sPlaceAt_yes (p : Plc) (w0 h0 x0 y0 : Int) (w : World) (h : paB p w0 h0 x0 y0 = true) : Calls Try.prog 26 #[.agg #[.int .i64 p.x, .int .i64 p.y, .int .i64 p.rx, .int .i64 p.ry, .int .i64 p.ww, .int .i64 p.hh, .int .i64 p.qw, .int .i64 p.qh, .int .i64 p.an], .int .i64 w0, .int .i64 h0, .int .i64 x0, .int .i64 y0] w fun e w' => e = .returned (.tuple #[.agg #[.int .i64 (atM p w0 h0 x0 y0).x, .int .i64 (atM p w0 h0 x0 y0).y, .int .i64 (atM p w0 h0 x0 y0).rx, .int .i64 (atM p w0 h0 x0 y0).ry, .int .i64 (atM p w0 h0 x0 y0).ww, .int .i64 (atM p w0 h0 x0 y0).hh, .int .i64 (atM p w0 h0 x0 y0).qw, .int .i64 (atM p w0 h0 x0 y0).qh, .int .i64 (atM p w0 h0 x0 y0).an], .bool true]) ∧ Below w.heap.size w w' := by
  obtain ⟨h1, h2, h3, h4, h5⟩ := atM_bd h
  have HX := Lib.hid (oldq1 w (.cells #[.int .i64 p.x, .int .i64 p.y, .int .i64 p.rx, .int .i64 p.ry, .int .i64 p.ww, .int .i64 p.hh, .int .i64 p.qw, .int .i64 p.qh, .int .i64 p.an] 24) (.cells #[.int .i64 0, .int .i64 0, .int .i64 0, .int .i64 0, .int .i64 0, .int .i64 0, .int .i64 0, .int .i64 0, .int .i64 0] 24))
  have HY := Lib.hid (newq1 w (.cells #[.int .i64 p.x, .int .i64 p.y, .int .i64 p.rx, .int .i64 p.ry, .int .i64 p.ww, .int .i64 p.hh, .int .i64 p.qw, .int .i64 p.qh, .int .i64 p.an] 24) (.cells #[.int .i64 0, .int .i64 0, .int .i64 0, .int .i64 0, .int .i64 0, .int .i64 0, .int .i64 0, .int .i64 0, .int .i64 0] 24))
  have HB := Lib.hid (balloc (o := .cells #[.int .i64 0, .int .i64 0, .int .i64 0, .int .i64 0, .int .i64 0, .int .i64 0, .int .i64 0, .int .i64 0, .int .i64 0] 24) (balloc (o := .cells #[.int .i64 p.x, .int .i64 p.y, .int .i64 p.rx, .int .i64 p.ry, .int .i64 p.ww, .int .i64 p.hh, .int .i64 p.qw, .int .i64 p.qh, .int .i64 p.an] 24) (Below.refl w.heap.size w)))
  go_enter Try.func26, Try.ntmps26
  go_wp2_with fail
  with_reducible refine (svalidPlace_t p true _ h1).mono ?_
  rintro e w1 ⟨rfl, hb⟩
  replace HX := Lib.hid ((hb.block _ (Array.getElem?_eq_some_iff.1 HX.out).1).trans HX.out)
  replace HY := Lib.hid ((hb.block _ (Array.getElem?_eq_some_iff.1 HY.out).1).trans HY.out)
  replace HB := Lib.hid (bkeep2 HB.out hb)
  clear hb
  go_wp2_with fail
  with_reducible refine (goodRoom_q _ _ true _ h2).mono ?_
  rintro e w2 ⟨rfl, rfl⟩
  go_wp2_with fail
  with_reducible refine (inRange_sh _ true _ h3).mono ?_
  rintro e w3 ⟨rfl, rfl⟩
  go_wp2_with fail
  with_reducible refine (inRange_sh _ true _ h4).mono ?_
  rintro e w4 ⟨rfl, rfl⟩
  obtain ⟨⟨b1, b1'⟩, ⟨b2, b2'⟩, -, -, -, -, -, -, -⟩ := plB_iff.1 h1
  obtain ⟨x1, x1'⟩ := (pl_bd h1 h2).x1 h1
  obtain ⟨y1, y1'⟩ := (pl_bd h1 h2).y1 h1
  obtain ⟨s1, s1'⟩ := shB_iff.1 h3
  obtain ⟨s2, s2'⟩ := shB_iff.1 h4
  obtain ⟨c0, c1, c2, c3, c4, c5, c6, c7, c8⟩ := c9_q HX.out
  go_wp2_with fail
  with_reducible refine (placed_v p w0 h0 _ h1 h2).mono ?_
  rintro e w5 ⟨rfl, hb⟩
  replace HX := Lib.hid ((hb.block _ (Array.getElem?_eq_some_iff.1 HX.out).1).trans HX.out)
  replace HY := Lib.hid ((hb.block _ (Array.getElem?_eq_some_iff.1 HY.out).1).trans HY.out)
  replace HB := Lib.hid (bkeep2 HB.out hb)
  clear hb
  clear c0 c1 c2 c3 c4 c5 c6 c7 c8
  have hb : Below w5.heap.size w5 (w5.alloc (.cells #[.int .i64 (xM p w0), .int .i64 (yM p h0), .int .i64 (wM p w0), .int .i64 (hM p h0)] 31)) := balloc (Below.refl _ _)
  replace HX := Lib.hid ((hb.block _ (Array.getElem?_eq_some_iff.1 HX.out).1).trans HX.out)
  replace HY := Lib.hid ((hb.block _ (Array.getElem?_eq_some_iff.1 HY.out).1).trans HY.out)
  replace HB := Lib.hid (bkeep2 HB.out hb)
  clear hb
  have HN := Lib.hid (new_q w5 (.cells #[.int .i64 (xM p w0), .int .i64 (yM p h0), .int .i64 (wM p w0), .int .i64 (hM p h0)] 31))
  have n0 := cl_q HN.out 0
  have n1 := cl_q HN.out 1
  obtain ⟨c0, c1, c2, c3, c4, c5, c6, c7, c8⟩ := c9_q HX.out
  obtain ⟨g0, g1, -⟩ := f9_q HX.out
  have lx := lt_q HX.out
  have e1 : p.x + x0 - xM p w0 = p.x + (x0 - xM p w0) := by omega
  have e2 : p.y + y0 - yM p h0 = p.y + (y0 - yM p h0) := by omega
  have q := put_q (i := 1) (put_q (i := 0) HX.out (.int .i64 (p.x + x0 - xM p w0))) (.int .i64 (p.y + y0 - yM p h0))
  simp only [List.setIfInBounds_toArray, List.set_cons_succ, List.set_cons_zero] at q
  have hy2 := (Below.heap_setCell _ ⟨w.heap.size, 1, none⟩ (.int .i64 (p.y + y0 - yM p h0)) (w.heap.size + 1) (by simp)).trans ((Below.heap_setCell _ ⟨w.heap.size, 0, none⟩ (.int .i64 (p.x + x0 - xM p w0)) (w.heap.size + 1) (by simp)).trans HY.out)
  have hB2 := bset (a := ⟨w.heap.size, 1, none⟩) (u := .int .i64 (p.y + y0 - yM p h0)) (bset (a := ⟨w.heap.size, 0, none⟩) (u := .int .i64 (p.x + x0 - xM p w0)) HB.out (Nat.le_refl _)) (Nat.le_refl _)
  rw [e1, e2] at q
  have HQ := Lib.hid q
  have HY2 := Lib.hid hy2
  have HB2 := Lib.hid hB2
  have E1 := Lib.hid e1
  have E2 := Lib.hid e2
  clear q hy2 hB2 e1 e2
  go_upto_region 6 with (fail)
  refine wp_genG3 (fun W => W.heap[w.heap.size]? = some (.cells #[.int .i64 (atM p w0 h0 x0 y0).x, .int .i64 (atM p w0 h0 x0 y0).y, .int .i64 (atM p w0 h0 x0 y0).rx, .int .i64 (atM p w0 h0 x0 y0).ry, .int .i64 (atM p w0 h0 x0 y0).ww, .int .i64 (atM p w0 h0 x0 y0).hh, .int .i64 (atM p w0 h0 x0 y0).qw, .int .i64 (atM p w0 h0 x0 y0).qh, .int .i64 (atM p w0 h0 x0 y0).an] 24 (0, 0)) ∧ W.heap[w.heap.size + 1]? = some (.cells #[.int .i64 0, .int .i64 0, .int .i64 0, .int .i64 0, .int .i64 0, .int .i64 0, .int .i64 0, .int .i64 0, .int .i64 0] 24 (0, 0)) ∧ Below w.heap.size w W) ⟨by rw [E1.out, E2.out]; exact HQ.out, by rw [E1.out, E2.out]; rw [E1.out, E2.out] at HY2; exact HY2.out, by rw [E1.out, E2.out]; rw [E1.out, E2.out] at HB2; exact HB2.out⟩ (fun w6 h6 => ?_)
  clear HQ HY2 HB2 HX HY HB HN n0 n1 g0 g1 lx c0 c1 c2 c3 c4 c5 c6 c7 c8
  obtain ⟨hx, hy, hb⟩ := h6
  have HX := Lib.hid hx
  have HY := Lib.hid hy
  have HB := Lib.hid hb
  clear hx hy hb
  obtain ⟨c0, c1, c2, c3, c4, c5, c6, c7, c8⟩ := c9_q HX.out
  go_wp2_with fail
  refine (svalidPlace_t (atM p w0 h0 x0 y0) true _ h5).mono ?_
  rintro e w7 ⟨rfl, hb⟩
  clear c0 c1 c2 c3 c4 c5 c6 c7 c8
  replace HX := Lib.hid ((hb.block _ (Array.getElem?_eq_some_iff.1 HX.out).1).trans HX.out)
  replace HY := Lib.hid ((hb.block _ (Array.getElem?_eq_some_iff.1 HY.out).1).trans HY.out)
  replace HB := Lib.hid (bkeep2 HB.out hb)
  clear hb
  obtain ⟨c0, c1, c2, c3, c4, c5, c6, c7, c8⟩ := c9_q HX.out
  obtain ⟨d0, d1, d2, d3, d4, d5, d6, d7, d8⟩ := c9_q HY.out
  obtain ⟨f0, f1, f2, f3, f4, f5, f6, f7, f8⟩ := f9_q HY.out
  have ly := lt_q HY.out
  have ln := Nat.ne_of_lt ly
  go_wp2_with fail
  refine bp_genQ (fun W => W.heap[w.heap.size + 1]? = some (.cells #[.int .i64 (atM p w0 h0 x0 y0).x, .int .i64 (atM p w0 h0 x0 y0).y, .int .i64 (atM p w0 h0 x0 y0).rx, .int .i64 (atM p w0 h0 x0 y0).ry, .int .i64 (atM p w0 h0 x0 y0).ww, .int .i64 (atM p w0 h0 x0 y0).hh, .int .i64 (atM p w0 h0 x0 y0).qw, .int .i64 (atM p w0 h0 x0 y0).qh, .int .i64 (atM p w0 h0 x0 y0).an] 24 (0, 0)) ∧ Below w.heap.size w W) ⟨put9_q HY.out (.int .i64 (atM p w0 h0 x0 y0).x) (.int .i64 (atM p w0 h0 x0 y0).y) (.int .i64 (atM p w0 h0 x0 y0).rx) (.int .i64 (atM p w0 h0 x0 y0).ry) (.int .i64 (atM p w0 h0 x0 y0).ww) (.int .i64 (atM p w0 h0 x0 y0).hh) (.int .i64 (atM p w0 h0 x0 y0).qw) (.int .i64 (atM p w0 h0 x0 y0).qh) (.int .i64 (atM p w0 h0 x0 y0).an), bset9_q HB.out (by simp) (.int .i64 (atM p w0 h0 x0 y0).x) (.int .i64 (atM p w0 h0 x0 y0).y) (.int .i64 (atM p w0 h0 x0 y0).rx) (.int .i64 (atM p w0 h0 x0 y0).ry) (.int .i64 (atM p w0 h0 x0 y0).ww) (.int .i64 (atM p w0 h0 x0 y0).hh) (.int .i64 (atM p w0 h0 x0 y0).qw) (.int .i64 (atM p w0 h0 x0 y0).qh) (.int .i64 (atM p w0 h0 x0 y0).an)⟩ ?_
  clear HX HY HB c0 c1 c2 c3 c4 c5 c6 c7 c8 d0 d1 d2 d3 d4 d5 d6 d7 d8 f0 f1 f2 f3 f4 f5 f6 f7 f8
  rintro W ⟨hq, hb⟩
  obtain ⟨d0, d1, d2, d3, d4, d5, d6, d7, d8⟩ := c9_q hq
  exact bodyPost_ret (v := .tuple #[.agg #[.int .i64 (atM p w0 h0 x0 y0).x, .int .i64 (atM p w0 h0 x0 y0).y, .int .i64 (atM p w0 h0 x0 y0).rx, .int .i64 (atM p w0 h0 x0 y0).ry, .int .i64 (atM p w0 h0 x0 y0).ww, .int .i64 (atM p w0 h0 x0 y0).hh, .int .i64 (atM p w0 h0 x0 y0).qw, .int .i64 (atM p w0 h0 x0 y0).qh, .int .i64 (atM p w0 h0 x0 y0).an], .bool true]) (by simp only [results, Try.results26]; go_simp) rfl ⟨rfl, hb⟩
set_option maxRecDepth 100000 in
theorem sPlaceAt_no (p : Plc) (w0 h0 x0 y0 : Int) (w : World) (h : paB p w0 h0 x0 y0 = false) : Calls Try.prog 26 #[.agg #[.int .i64 p.x, .int .i64 p.y, .int .i64 p.rx, .int .i64 p.ry, .int .i64 p.ww, .int .i64 p.hh, .int .i64 p.qw, .int .i64 p.qh, .int .i64 p.an], .int .i64 w0, .int .i64 h0, .int .i64 x0, .int .i64 y0] w fun e w' => e = .returned (.tuple #[.agg #[.int .i64 0, .int .i64 0, .int .i64 0, .int .i64 0, .int .i64 0, .int .i64 0, .int .i64 0, .int .i64 0, .int .i64 0], .bool false]) ∧ Below w.heap.size w w' := by
  cases h1 : plB p
  · skip
    have HX := Lib.hid (oldq1 w (.cells #[.int .i64 p.x, .int .i64 p.y, .int .i64 p.rx, .int .i64 p.ry, .int .i64 p.ww, .int .i64 p.hh, .int .i64 p.qw, .int .i64 p.qh, .int .i64 p.an] 24) (.cells #[.int .i64 0, .int .i64 0, .int .i64 0, .int .i64 0, .int .i64 0, .int .i64 0, .int .i64 0, .int .i64 0, .int .i64 0] 24))
    have HY := Lib.hid (newq1 w (.cells #[.int .i64 p.x, .int .i64 p.y, .int .i64 p.rx, .int .i64 p.ry, .int .i64 p.ww, .int .i64 p.hh, .int .i64 p.qw, .int .i64 p.qh, .int .i64 p.an] 24) (.cells #[.int .i64 0, .int .i64 0, .int .i64 0, .int .i64 0, .int .i64 0, .int .i64 0, .int .i64 0, .int .i64 0, .int .i64 0] 24))
    have HB := Lib.hid (balloc (o := .cells #[.int .i64 0, .int .i64 0, .int .i64 0, .int .i64 0, .int .i64 0, .int .i64 0, .int .i64 0, .int .i64 0, .int .i64 0] 24) (balloc (o := .cells #[.int .i64 p.x, .int .i64 p.y, .int .i64 p.rx, .int .i64 p.ry, .int .i64 p.ww, .int .i64 p.hh, .int .i64 p.qw, .int .i64 p.qh, .int .i64 p.an] 24) (Below.refl w.heap.size w)))
    go_enter Try.func26, Try.ntmps26
    go_wp2_with fail
    with_reducible refine (svalidPlace_t p false _ h1).mono ?_
    rintro e w1 ⟨rfl, hb⟩
    replace HX := Lib.hid ((hb.block _ (Array.getElem?_eq_some_iff.1 HX.out).1).trans HX.out)
    replace HY := Lib.hid ((hb.block _ (Array.getElem?_eq_some_iff.1 HY.out).1).trans HY.out)
    replace HB := Lib.hid (bkeep2 HB.out hb)
    clear hb
    obtain ⟨d0, d1, d2, d3, d4, d5, d6, d7, d8⟩ := c9_q HY.out
    obtain ⟨f0, f1, f2, f3, f4, f5, f6, f7, f8⟩ := f9_q HY.out
    have ly := lt_q HY.out
    have ln := Nat.ne_of_lt ly
    go_wp2_with fail
    refine bp_genQ (fun W => W.heap[w.heap.size + 1]? = some (.cells #[.int .i64 0, .int .i64 0, .int .i64 0, .int .i64 0, .int .i64 0, .int .i64 0, .int .i64 0, .int .i64 0, .int .i64 0] 24 (0, 0)) ∧ Below w.heap.size w W) ⟨put9_q HY.out (.int .i64 0) (.int .i64 0) (.int .i64 0) (.int .i64 0) (.int .i64 0) (.int .i64 0) (.int .i64 0) (.int .i64 0) (.int .i64 0), bset9_q HB.out (by simp) (.int .i64 0) (.int .i64 0) (.int .i64 0) (.int .i64 0) (.int .i64 0) (.int .i64 0) (.int .i64 0) (.int .i64 0) (.int .i64 0)⟩ ?_
    clear HX HY HB d0 d1 d2 d3 d4 d5 d6 d7 d8 f0 f1 f2 f3 f4 f5 f6 f7 f8
    rintro W ⟨hq, hb⟩
    obtain ⟨d0, d1, d2, d3, d4, d5, d6, d7, d8⟩ := c9_q hq
    exact bodyPost_ret (v := .tuple #[.agg #[.int .i64 0, .int .i64 0, .int .i64 0, .int .i64 0, .int .i64 0, .int .i64 0, .int .i64 0, .int .i64 0, .int .i64 0], .bool false]) (by simp only [results, Try.results26]; go_simp) rfl ⟨rfl, hb⟩
  cases h2 : rqB w0 h0
  · skip
    have HX := Lib.hid (oldq1 w (.cells #[.int .i64 p.x, .int .i64 p.y, .int .i64 p.rx, .int .i64 p.ry, .int .i64 p.ww, .int .i64 p.hh, .int .i64 p.qw, .int .i64 p.qh, .int .i64 p.an] 24) (.cells #[.int .i64 0, .int .i64 0, .int .i64 0, .int .i64 0, .int .i64 0, .int .i64 0, .int .i64 0, .int .i64 0, .int .i64 0] 24))
    have HY := Lib.hid (newq1 w (.cells #[.int .i64 p.x, .int .i64 p.y, .int .i64 p.rx, .int .i64 p.ry, .int .i64 p.ww, .int .i64 p.hh, .int .i64 p.qw, .int .i64 p.qh, .int .i64 p.an] 24) (.cells #[.int .i64 0, .int .i64 0, .int .i64 0, .int .i64 0, .int .i64 0, .int .i64 0, .int .i64 0, .int .i64 0, .int .i64 0] 24))
    have HB := Lib.hid (balloc (o := .cells #[.int .i64 0, .int .i64 0, .int .i64 0, .int .i64 0, .int .i64 0, .int .i64 0, .int .i64 0, .int .i64 0, .int .i64 0] 24) (balloc (o := .cells #[.int .i64 p.x, .int .i64 p.y, .int .i64 p.rx, .int .i64 p.ry, .int .i64 p.ww, .int .i64 p.hh, .int .i64 p.qw, .int .i64 p.qh, .int .i64 p.an] 24) (Below.refl w.heap.size w)))
    go_enter Try.func26, Try.ntmps26
    go_wp2_with fail
    with_reducible refine (svalidPlace_t p true _ h1).mono ?_
    rintro e w1 ⟨rfl, hb⟩
    replace HX := Lib.hid ((hb.block _ (Array.getElem?_eq_some_iff.1 HX.out).1).trans HX.out)
    replace HY := Lib.hid ((hb.block _ (Array.getElem?_eq_some_iff.1 HY.out).1).trans HY.out)
    replace HB := Lib.hid (bkeep2 HB.out hb)
    clear hb
    go_wp2_with fail
    with_reducible refine (goodRoom_q _ _ false _ h2).mono ?_
    rintro e w2 ⟨rfl, rfl⟩
    obtain ⟨d0, d1, d2, d3, d4, d5, d6, d7, d8⟩ := c9_q HY.out
    obtain ⟨f0, f1, f2, f3, f4, f5, f6, f7, f8⟩ := f9_q HY.out
    have ly := lt_q HY.out
    have ln := Nat.ne_of_lt ly
    go_wp2_with fail
    refine bp_genQ (fun W => W.heap[w.heap.size + 1]? = some (.cells #[.int .i64 0, .int .i64 0, .int .i64 0, .int .i64 0, .int .i64 0, .int .i64 0, .int .i64 0, .int .i64 0, .int .i64 0] 24 (0, 0)) ∧ Below w.heap.size w W) ⟨put9_q HY.out (.int .i64 0) (.int .i64 0) (.int .i64 0) (.int .i64 0) (.int .i64 0) (.int .i64 0) (.int .i64 0) (.int .i64 0) (.int .i64 0), bset9_q HB.out (by simp) (.int .i64 0) (.int .i64 0) (.int .i64 0) (.int .i64 0) (.int .i64 0) (.int .i64 0) (.int .i64 0) (.int .i64 0) (.int .i64 0)⟩ ?_
    clear HX HY HB d0 d1 d2 d3 d4 d5 d6 d7 d8 f0 f1 f2 f3 f4 f5 f6 f7 f8
    rintro W ⟨hq, hb⟩
    obtain ⟨d0, d1, d2, d3, d4, d5, d6, d7, d8⟩ := c9_q hq
    exact bodyPost_ret (v := .tuple #[.agg #[.int .i64 0, .int .i64 0, .int .i64 0, .int .i64 0, .int .i64 0, .int .i64 0, .int .i64 0, .int .i64 0, .int .i64 0], .bool false]) (by simp only [results, Try.results26]; go_simp) rfl ⟨rfl, hb⟩
  cases h3 : shB x0
  · skip
    have HX := Lib.hid (oldq1 w (.cells #[.int .i64 p.x, .int .i64 p.y, .int .i64 p.rx, .int .i64 p.ry, .int .i64 p.ww, .int .i64 p.hh, .int .i64 p.qw, .int .i64 p.qh, .int .i64 p.an] 24) (.cells #[.int .i64 0, .int .i64 0, .int .i64 0, .int .i64 0, .int .i64 0, .int .i64 0, .int .i64 0, .int .i64 0, .int .i64 0] 24))
    have HY := Lib.hid (newq1 w (.cells #[.int .i64 p.x, .int .i64 p.y, .int .i64 p.rx, .int .i64 p.ry, .int .i64 p.ww, .int .i64 p.hh, .int .i64 p.qw, .int .i64 p.qh, .int .i64 p.an] 24) (.cells #[.int .i64 0, .int .i64 0, .int .i64 0, .int .i64 0, .int .i64 0, .int .i64 0, .int .i64 0, .int .i64 0, .int .i64 0] 24))
    have HB := Lib.hid (balloc (o := .cells #[.int .i64 0, .int .i64 0, .int .i64 0, .int .i64 0, .int .i64 0, .int .i64 0, .int .i64 0, .int .i64 0, .int .i64 0] 24) (balloc (o := .cells #[.int .i64 p.x, .int .i64 p.y, .int .i64 p.rx, .int .i64 p.ry, .int .i64 p.ww, .int .i64 p.hh, .int .i64 p.qw, .int .i64 p.qh, .int .i64 p.an] 24) (Below.refl w.heap.size w)))
    go_enter Try.func26, Try.ntmps26
    go_wp2_with fail
    with_reducible refine (svalidPlace_t p true _ h1).mono ?_
    rintro e w1 ⟨rfl, hb⟩
    replace HX := Lib.hid ((hb.block _ (Array.getElem?_eq_some_iff.1 HX.out).1).trans HX.out)
    replace HY := Lib.hid ((hb.block _ (Array.getElem?_eq_some_iff.1 HY.out).1).trans HY.out)
    replace HB := Lib.hid (bkeep2 HB.out hb)
    clear hb
    go_wp2_with fail
    with_reducible refine (goodRoom_q _ _ true _ h2).mono ?_
    rintro e w2 ⟨rfl, rfl⟩
    go_wp2_with fail
    with_reducible refine (inRange_sh _ false _ h3).mono ?_
    rintro e w3 ⟨rfl, rfl⟩
    obtain ⟨d0, d1, d2, d3, d4, d5, d6, d7, d8⟩ := c9_q HY.out
    obtain ⟨f0, f1, f2, f3, f4, f5, f6, f7, f8⟩ := f9_q HY.out
    have ly := lt_q HY.out
    have ln := Nat.ne_of_lt ly
    go_wp2_with fail
    refine bp_genQ (fun W => W.heap[w.heap.size + 1]? = some (.cells #[.int .i64 0, .int .i64 0, .int .i64 0, .int .i64 0, .int .i64 0, .int .i64 0, .int .i64 0, .int .i64 0, .int .i64 0] 24 (0, 0)) ∧ Below w.heap.size w W) ⟨put9_q HY.out (.int .i64 0) (.int .i64 0) (.int .i64 0) (.int .i64 0) (.int .i64 0) (.int .i64 0) (.int .i64 0) (.int .i64 0) (.int .i64 0), bset9_q HB.out (by simp) (.int .i64 0) (.int .i64 0) (.int .i64 0) (.int .i64 0) (.int .i64 0) (.int .i64 0) (.int .i64 0) (.int .i64 0) (.int .i64 0)⟩ ?_
    clear HX HY HB d0 d1 d2 d3 d4 d5 d6 d7 d8 f0 f1 f2 f3 f4 f5 f6 f7 f8
    rintro W ⟨hq, hb⟩
    obtain ⟨d0, d1, d2, d3, d4, d5, d6, d7, d8⟩ := c9_q hq
    exact bodyPost_ret (v := .tuple #[.agg #[.int .i64 0, .int .i64 0, .int .i64 0, .int .i64 0, .int .i64 0, .int .i64 0, .int .i64 0, .int .i64 0, .int .i64 0], .bool false]) (by simp only [results, Try.results26]; go_simp) rfl ⟨rfl, hb⟩
  cases h4 : shB y0
  · skip
    have HX := Lib.hid (oldq1 w (.cells #[.int .i64 p.x, .int .i64 p.y, .int .i64 p.rx, .int .i64 p.ry, .int .i64 p.ww, .int .i64 p.hh, .int .i64 p.qw, .int .i64 p.qh, .int .i64 p.an] 24) (.cells #[.int .i64 0, .int .i64 0, .int .i64 0, .int .i64 0, .int .i64 0, .int .i64 0, .int .i64 0, .int .i64 0, .int .i64 0] 24))
    have HY := Lib.hid (newq1 w (.cells #[.int .i64 p.x, .int .i64 p.y, .int .i64 p.rx, .int .i64 p.ry, .int .i64 p.ww, .int .i64 p.hh, .int .i64 p.qw, .int .i64 p.qh, .int .i64 p.an] 24) (.cells #[.int .i64 0, .int .i64 0, .int .i64 0, .int .i64 0, .int .i64 0, .int .i64 0, .int .i64 0, .int .i64 0, .int .i64 0] 24))
    have HB := Lib.hid (balloc (o := .cells #[.int .i64 0, .int .i64 0, .int .i64 0, .int .i64 0, .int .i64 0, .int .i64 0, .int .i64 0, .int .i64 0, .int .i64 0] 24) (balloc (o := .cells #[.int .i64 p.x, .int .i64 p.y, .int .i64 p.rx, .int .i64 p.ry, .int .i64 p.ww, .int .i64 p.hh, .int .i64 p.qw, .int .i64 p.qh, .int .i64 p.an] 24) (Below.refl w.heap.size w)))
    go_enter Try.func26, Try.ntmps26
    go_wp2_with fail
    with_reducible refine (svalidPlace_t p true _ h1).mono ?_
    rintro e w1 ⟨rfl, hb⟩
    replace HX := Lib.hid ((hb.block _ (Array.getElem?_eq_some_iff.1 HX.out).1).trans HX.out)
    replace HY := Lib.hid ((hb.block _ (Array.getElem?_eq_some_iff.1 HY.out).1).trans HY.out)
    replace HB := Lib.hid (bkeep2 HB.out hb)
    clear hb
    go_wp2_with fail
    with_reducible refine (goodRoom_q _ _ true _ h2).mono ?_
    rintro e w2 ⟨rfl, rfl⟩
    go_wp2_with fail
    with_reducible refine (inRange_sh _ true _ h3).mono ?_
    rintro e w3 ⟨rfl, rfl⟩
    go_wp2_with fail
    with_reducible refine (inRange_sh _ false _ h4).mono ?_
    rintro e w4 ⟨rfl, rfl⟩
    obtain ⟨d0, d1, d2, d3, d4, d5, d6, d7, d8⟩ := c9_q HY.out
    obtain ⟨f0, f1, f2, f3, f4, f5, f6, f7, f8⟩ := f9_q HY.out
    have ly := lt_q HY.out
    have ln := Nat.ne_of_lt ly
    go_wp2_with fail
    refine bp_genQ (fun W => W.heap[w.heap.size + 1]? = some (.cells #[.int .i64 0, .int .i64 0, .int .i64 0, .int .i64 0, .int .i64 0, .int .i64 0, .int .i64 0, .int .i64 0, .int .i64 0] 24 (0, 0)) ∧ Below w.heap.size w W) ⟨put9_q HY.out (.int .i64 0) (.int .i64 0) (.int .i64 0) (.int .i64 0) (.int .i64 0) (.int .i64 0) (.int .i64 0) (.int .i64 0) (.int .i64 0), bset9_q HB.out (by simp) (.int .i64 0) (.int .i64 0) (.int .i64 0) (.int .i64 0) (.int .i64 0) (.int .i64 0) (.int .i64 0) (.int .i64 0) (.int .i64 0)⟩ ?_
    clear HX HY HB d0 d1 d2 d3 d4 d5 d6 d7 d8 f0 f1 f2 f3 f4 f5 f6 f7 f8
    rintro W ⟨hq, hb⟩
    obtain ⟨d0, d1, d2, d3, d4, d5, d6, d7, d8⟩ := c9_q hq
    exact bodyPost_ret (v := .tuple #[.agg #[.int .i64 0, .int .i64 0, .int .i64 0, .int .i64 0, .int .i64 0, .int .i64 0, .int .i64 0, .int .i64 0, .int .i64 0], .bool false]) (by simp only [results, Try.results26]; go_simp) rfl ⟨rfl, hb⟩
  have h5 : plB (atM p w0 h0 x0 y0) = false := by simpa [paB, prB, h1, h2, h3, h4] using h
  have HX := Lib.hid (oldq1 w (.cells #[.int .i64 p.x, .int .i64 p.y, .int .i64 p.rx, .int .i64 p.ry, .int .i64 p.ww, .int .i64 p.hh, .int .i64 p.qw, .int .i64 p.qh, .int .i64 p.an] 24) (.cells #[.int .i64 0, .int .i64 0, .int .i64 0, .int .i64 0, .int .i64 0, .int .i64 0, .int .i64 0, .int .i64 0, .int .i64 0] 24))
  have HY := Lib.hid (newq1 w (.cells #[.int .i64 p.x, .int .i64 p.y, .int .i64 p.rx, .int .i64 p.ry, .int .i64 p.ww, .int .i64 p.hh, .int .i64 p.qw, .int .i64 p.qh, .int .i64 p.an] 24) (.cells #[.int .i64 0, .int .i64 0, .int .i64 0, .int .i64 0, .int .i64 0, .int .i64 0, .int .i64 0, .int .i64 0, .int .i64 0] 24))
  have HB := Lib.hid (balloc (o := .cells #[.int .i64 0, .int .i64 0, .int .i64 0, .int .i64 0, .int .i64 0, .int .i64 0, .int .i64 0, .int .i64 0, .int .i64 0] 24) (balloc (o := .cells #[.int .i64 p.x, .int .i64 p.y, .int .i64 p.rx, .int .i64 p.ry, .int .i64 p.ww, .int .i64 p.hh, .int .i64 p.qw, .int .i64 p.qh, .int .i64 p.an] 24) (Below.refl w.heap.size w)))
  go_enter Try.func26, Try.ntmps26
  go_wp2_with fail
  with_reducible refine (svalidPlace_t p true _ h1).mono ?_
  rintro e w1 ⟨rfl, hb⟩
  replace HX := Lib.hid ((hb.block _ (Array.getElem?_eq_some_iff.1 HX.out).1).trans HX.out)
  replace HY := Lib.hid ((hb.block _ (Array.getElem?_eq_some_iff.1 HY.out).1).trans HY.out)
  replace HB := Lib.hid (bkeep2 HB.out hb)
  clear hb
  go_wp2_with fail
  with_reducible refine (goodRoom_q _ _ true _ h2).mono ?_
  rintro e w2 ⟨rfl, rfl⟩
  go_wp2_with fail
  with_reducible refine (inRange_sh _ true _ h3).mono ?_
  rintro e w3 ⟨rfl, rfl⟩
  go_wp2_with fail
  with_reducible refine (inRange_sh _ true _ h4).mono ?_
  rintro e w4 ⟨rfl, rfl⟩
  obtain ⟨⟨b1, b1'⟩, ⟨b2, b2'⟩, -, -, -, -, -, -, -⟩ := plB_iff.1 h1
  obtain ⟨x1, x1'⟩ := (pl_bd h1 h2).x1 h1
  obtain ⟨y1, y1'⟩ := (pl_bd h1 h2).y1 h1
  obtain ⟨s1, s1'⟩ := shB_iff.1 h3
  obtain ⟨s2, s2'⟩ := shB_iff.1 h4
  obtain ⟨c0, c1, c2, c3, c4, c5, c6, c7, c8⟩ := c9_q HX.out
  go_wp2_with fail
  with_reducible refine (placed_v p w0 h0 _ h1 h2).mono ?_
  rintro e w5 ⟨rfl, hb⟩
  replace HX := Lib.hid ((hb.block _ (Array.getElem?_eq_some_iff.1 HX.out).1).trans HX.out)
  replace HY := Lib.hid ((hb.block _ (Array.getElem?_eq_some_iff.1 HY.out).1).trans HY.out)
  replace HB := Lib.hid (bkeep2 HB.out hb)
  clear hb
  clear c0 c1 c2 c3 c4 c5 c6 c7 c8
  have hb : Below w5.heap.size w5 (w5.alloc (.cells #[.int .i64 (xM p w0), .int .i64 (yM p h0), .int .i64 (wM p w0), .int .i64 (hM p h0)] 31)) := balloc (Below.refl _ _)
  replace HX := Lib.hid ((hb.block _ (Array.getElem?_eq_some_iff.1 HX.out).1).trans HX.out)
  replace HY := Lib.hid ((hb.block _ (Array.getElem?_eq_some_iff.1 HY.out).1).trans HY.out)
  replace HB := Lib.hid (bkeep2 HB.out hb)
  clear hb
  have HN := Lib.hid (new_q w5 (.cells #[.int .i64 (xM p w0), .int .i64 (yM p h0), .int .i64 (wM p w0), .int .i64 (hM p h0)] 31))
  have n0 := cl_q HN.out 0
  have n1 := cl_q HN.out 1
  obtain ⟨c0, c1, c2, c3, c4, c5, c6, c7, c8⟩ := c9_q HX.out
  obtain ⟨g0, g1, -⟩ := f9_q HX.out
  have lx := lt_q HX.out
  have e1 : p.x + x0 - xM p w0 = p.x + (x0 - xM p w0) := by omega
  have e2 : p.y + y0 - yM p h0 = p.y + (y0 - yM p h0) := by omega
  have q := put_q (i := 1) (put_q (i := 0) HX.out (.int .i64 (p.x + x0 - xM p w0))) (.int .i64 (p.y + y0 - yM p h0))
  simp only [List.setIfInBounds_toArray, List.set_cons_succ, List.set_cons_zero] at q
  have hy2 := (Below.heap_setCell _ ⟨w.heap.size, 1, none⟩ (.int .i64 (p.y + y0 - yM p h0)) (w.heap.size + 1) (by simp)).trans ((Below.heap_setCell _ ⟨w.heap.size, 0, none⟩ (.int .i64 (p.x + x0 - xM p w0)) (w.heap.size + 1) (by simp)).trans HY.out)
  have hB2 := bset (a := ⟨w.heap.size, 1, none⟩) (u := .int .i64 (p.y + y0 - yM p h0)) (bset (a := ⟨w.heap.size, 0, none⟩) (u := .int .i64 (p.x + x0 - xM p w0)) HB.out (Nat.le_refl _)) (Nat.le_refl _)
  rw [e1, e2] at q
  have HQ := Lib.hid q
  have HY2 := Lib.hid hy2
  have HB2 := Lib.hid hB2
  have E1 := Lib.hid e1
  have E2 := Lib.hid e2
  clear q hy2 hB2 e1 e2
  go_upto_region 6 with (fail)
  refine wp_genG3 (fun W => W.heap[w.heap.size]? = some (.cells #[.int .i64 (atM p w0 h0 x0 y0).x, .int .i64 (atM p w0 h0 x0 y0).y, .int .i64 (atM p w0 h0 x0 y0).rx, .int .i64 (atM p w0 h0 x0 y0).ry, .int .i64 (atM p w0 h0 x0 y0).ww, .int .i64 (atM p w0 h0 x0 y0).hh, .int .i64 (atM p w0 h0 x0 y0).qw, .int .i64 (atM p w0 h0 x0 y0).qh, .int .i64 (atM p w0 h0 x0 y0).an] 24 (0, 0)) ∧ W.heap[w.heap.size + 1]? = some (.cells #[.int .i64 0, .int .i64 0, .int .i64 0, .int .i64 0, .int .i64 0, .int .i64 0, .int .i64 0, .int .i64 0, .int .i64 0] 24 (0, 0)) ∧ Below w.heap.size w W) ⟨by rw [E1.out, E2.out]; exact HQ.out, by rw [E1.out, E2.out]; rw [E1.out, E2.out] at HY2; exact HY2.out, by rw [E1.out, E2.out]; rw [E1.out, E2.out] at HB2; exact HB2.out⟩ (fun w6 h6 => ?_)
  clear HQ HY2 HB2 HX HY HB HN n0 n1 g0 g1 lx c0 c1 c2 c3 c4 c5 c6 c7 c8
  obtain ⟨hx, hy, hb⟩ := h6
  have HX := Lib.hid hx
  have HY := Lib.hid hy
  have HB := Lib.hid hb
  clear hx hy hb
  obtain ⟨c0, c1, c2, c3, c4, c5, c6, c7, c8⟩ := c9_q HX.out
  go_wp2_with fail
  refine (svalidPlace_t (atM p w0 h0 x0 y0) false _ h5).mono ?_
  rintro e w7 ⟨rfl, hb⟩
  clear c0 c1 c2 c3 c4 c5 c6 c7 c8
  replace HX := Lib.hid ((hb.block _ (Array.getElem?_eq_some_iff.1 HX.out).1).trans HX.out)
  replace HY := Lib.hid ((hb.block _ (Array.getElem?_eq_some_iff.1 HY.out).1).trans HY.out)
  replace HB := Lib.hid (bkeep2 HB.out hb)
  clear hb
  obtain ⟨d0, d1, d2, d3, d4, d5, d6, d7, d8⟩ := c9_q HY.out
  obtain ⟨f0, f1, f2, f3, f4, f5, f6, f7, f8⟩ := f9_q HY.out
  have ly := lt_q HY.out
  have ln := Nat.ne_of_lt ly
  go_wp2_with fail
  refine bp_genQ (fun W => W.heap[w.heap.size + 1]? = some (.cells #[.int .i64 0, .int .i64 0, .int .i64 0, .int .i64 0, .int .i64 0, .int .i64 0, .int .i64 0, .int .i64 0, .int .i64 0] 24 (0, 0)) ∧ Below w.heap.size w W) ⟨put9_q HY.out (.int .i64 0) (.int .i64 0) (.int .i64 0) (.int .i64 0) (.int .i64 0) (.int .i64 0) (.int .i64 0) (.int .i64 0) (.int .i64 0), bset9_q HB.out (by simp) (.int .i64 0) (.int .i64 0) (.int .i64 0) (.int .i64 0) (.int .i64 0) (.int .i64 0) (.int .i64 0) (.int .i64 0) (.int .i64 0)⟩ ?_
  clear HX HY HB d0 d1 d2 d3 d4 d5 d6 d7 d8 f0 f1 f2 f3 f4 f5 f6 f7 f8
  rintro W ⟨hq, hb⟩
  obtain ⟨d0, d1, d2, d3, d4, d5, d6, d7, d8⟩ := c9_q hq
  exact bodyPost_ret (v := .tuple #[.agg #[.int .i64 0, .int .i64 0, .int .i64 0, .int .i64 0, .int .i64 0, .int .i64 0, .int .i64 0, .int .i64 0, .int .i64 0], .bool false]) (by simp only [results, Try.results26]; go_simp) rfl ⟨rfl, hb⟩
end Go.Proofs.Ytfhjmmajhohkjab
end
section
namespace Go.Proofs.Ytfhjmmajhohkjab
open Go.RowKit
set_option linter.unusedVariables false
set_option maxHeartbeats 1000000
end Go.Proofs.Ytfhjmmajhohkjab
end
section
namespace Go.Proofs.Ytfhjmmajhohkjab
open Go.RowKit
set_option linter.unusedVariables false
set_option maxHeartbeats 2000000
attribute [local go_sem] givesUpon_value givesUpon_skip givesUpon_enter
theorem gives_gen {P : Program} {K : Value → World → Prop} {r : Result Next} (h : ∀ K' : Value → World → Prop, (∀ v w', K v w' → K' v w') → givesUpon P K' r) : givesUpon P K r := h K fun _ _ h => h
theorem TL.sub {B : Nat} {S S' : List Nat} {k : Nat} {v : Value} {w : World} (h : TL B S k v w) (hs : ∀ x ∈ S', x ∈ S) : TL B S' k v w := by
  obtain ⟨g, e, h0, h1, h2, h3⟩ := h
  exact ⟨g, e, h0, fun hx => h1 (hs _ hx), h2, h3⟩
structure HP (B rb bx b0 : Nat) (A : Option Addr) (n c : Nat) (x y u v : Int) (m : Nat) (w : World) : Prop where
  rd : Rd B rb A n c m w
  hx : w.heap[bx]? = some (.cells #[.int .i64 x, .int .i64 y, .int .i64 u, .int .i64 v] 31 (0, 0))
  h0 : ∃ a0 a1 a2 a3 : Int, w.heap[b0]? = some (.cells #[.int .i64 a0, .int .i64 a1, .int .i64 a2, .int .i64 a3] 31 (0, 0))
  n1 : bx ≠ rb
  n2 : b0 ≠ rb
  n3 : bx ≠ b0
  l1 : B ≤ b0
section
variable {B rb bx b0 : Nat} {A : Option Addr} {n c : Nat} {x y u v : Int} {m : Nat} {w w' : World}
theorem HP.base (h : HP B rb bx b0 A n c x y u v m w) : B ≤ w.heap.size := by have := h.rd.lt; have := h.rd.base; omega
theorem HP.lts (h : HP B rb bx b0 A n c x y u v m w) : ∀ k ∈ [rb, b0], k < w.heap.size := by
  obtain ⟨a0, a1, a2, a3, ha⟩ := h.h0
  have h1 := h.rd.lt
  have h2 := lt_of_heap ha
  simp [h1, h2]
theorem HP.next (h : HP B rb bx b0 A n c x y u v m w) : HP B rb bx b0 A n c x y u v (m + 1) w := ⟨h.rd.mono (by omega), h.hx, h.h0, h.n1, h.n2, h.n3, h.l1⟩
theorem HP.drew (h : HP B rb bx b0 A n c x y u v m w) : HP B rb bx b0 A n c x y u v m w.drew := ⟨h.rd.drew, h.hx, h.h0, h.n1, h.n2, h.n3, h.l1⟩
theorem HP.alloc (h : HP B rb bx b0 A n c x y u v m w) (o : Obj) : HP B rb bx b0 A n c x y u v (m + 1) (w.alloc o) :=
  ⟨(h.rd.alloc o).mono (by omega), (Below.heap_alloc _ _ _ (lt_of_heap h.hx)).trans h.hx, let ⟨a0, a1, a2, a3, ha⟩ := h.h0; ⟨a0, a1, a2, a3, (Below.heap_alloc _ _ _ (lt_of_heap ha)).trans ha⟩, h.n1, h.n2, h.n3, h.l1⟩
theorem HP.call {m' : Nat} (h : HP B rb bx b0 A n c x y u v m w) (hr : Rd B rb A n c m' w') (hc : Chg [rb] w w') : HP B rb bx b0 A n c x y u v m' w' :=
  ⟨hr, (hc.block _ (lt_of_heap h.hx) (by simpa using h.n1)).trans h.hx, let ⟨a0, a1, a2, a3, ha⟩ := h.h0; ⟨a0, a1, a2, a3, (hc.block _ (lt_of_heap ha) (by simpa using h.n2)).trans ha⟩, h.n1, h.n2, h.n3, h.l1⟩
theorem HP.store0 (h : HP B rb bx b0 A n c x y u v m w) (z0 z1 z2 z3 : Int) : HP B rb bx b0 A n c x y u v (m + 1) ((((w.setCell ⟨b0, 0, none⟩ (.int .i64 z0)).setCell ⟨b0, 1, none⟩ (.int .i64 z1)).setCell ⟨b0, 2, none⟩ (.int .i64 z2)).setCell ⟨b0, 3, none⟩ (.int .i64 z3)) :=
  ⟨((((h.rd.setCell h.l1 h.n2 _).setCell h.l1 h.n2 _).setCell h.l1 h.n2 _).setCell h.l1 h.n2 _).mono (by omega), (put4o h.n3 _ _ _ _).trans h.hx, let ⟨a0, a1, a2, a3, ha⟩ := h.h0; ⟨_, _, _, _, put4h ha _ _ _ _⟩, h.n1, h.n2, h.n3, h.l1⟩
theorem HP.storeC0 (h : HP B rb bx b0 A n c x y u v m w) {z0 z1 z2 z3 : Value} : Chg [rb, b0] w ((((w.setCell ⟨b0, 0, none⟩ z0).setCell ⟨b0, 1, none⟩ z1).setCell ⟨b0, 2, none⟩ z2).setCell ⟨b0, 3, none⟩ z3) :=
  ((((Chg.refl _ _).setCell (.inl (by simp)) _).setCell (.inl (by simp)) _).setCell (.inl (by simp)) _).setCell (.inl (by simp)) _
end
def StT (S : List Nat) (T : Value → World → Prop) : Prop := ∀ v a b, T v a → Chg S a b → T v b
theorem st_TI (S : List Nat) : StT S TI := fun _ _ _ h _ => h
theorem st_TB (S : List Nat) : StT S TB := fun _ _ _ h _ => h
theorem st_TT0 (S : List Nat) : StT S TT0 := fun _ _ _ h _ => h
theorem st_TV (S : List Nat) (u : Value) : StT S (TV u) := fun _ _ _ h _ => h
theorem st_TRect (S : List Nat) : StT S TRect := fun _ _ _ h _ => h
theorem st_TL (B : Nat) (S : List Nat) (k : Nat) : StT S (TL B S k) := fun _ _ _ h hc => h.keep hc
theorem st_list {S : List Nat} : ∀ {l : List (Value → World → Prop)}, (∀ T ∈ l, StT S T) → ∀ (k : Nat) (v : Value) (a b : World), l.getD k TT0 v a → Chg S a b → l.getD k TT0 v b
  | [], _, k, v, a, b, h, hc => trivial
  | T :: r, hl, 0, v, a, b, h, hc => hl T List.mem_cons_self v a b h hc
  | T :: r, hl, k + 1, v, a, b, h, hc => st_list (l := r) (fun T hT => hl T (List.mem_cons_of_mem _ hT)) k v a b h hc
end Go.Proofs.Ytfhjmmajhohkjab
end
