import Derived.Test.YtfhjmmajhohkjabQ06
section
namespace Go.Proofs.Ytfhjmmajhohkjab
open Go.RowKit
set_option linter.unusedVariables false
set_option maxHeartbeats 1000000
attribute [local go_sem 5000] run_mx run_mn
attribute [local go_sem] growUpon_value growUpon_skip growUpon_enter
theorem fxB_yes {p : Plc} {w h : Int} (e : fxB p w h = true) : plB p = true ∧ rqB w h = true ∧ plB (fixM p w h) = true := by
  simp only [fxB, prB, Bool.and_eq_true] at e
  exact ⟨e.1.1, e.1.2, e.2⟩
set_option maxRecDepth 100000 in
theorem FixPlace_yes (p : Plc) (w0 h0 : Int) (w : World) (h : fxB p w0 h0 = true) : Calls Try.prog 29 #[.agg #[.int .i64 p.x, .int .i64 p.y, .int .i64 p.rx, .int .i64 p.ry, .int .i64 p.ww, .int .i64 p.hh, .int .i64 p.qw, .int .i64 p.qh, .int .i64 p.an], .int .i64 w0, .int .i64 h0] w fun e w' => e = .returned (.tuple #[.agg #[.int .i64 (fixM p w0 h0).x, .int .i64 (fixM p w0 h0).y, .int .i64 (fixM p w0 h0).rx, .int .i64 (fixM p w0 h0).ry, .int .i64 (fixM p w0 h0).ww, .int .i64 (fixM p w0 h0).hh, .int .i64 (fixM p w0 h0).qw, .int .i64 (fixM p w0 h0).qh, .int .i64 (fixM p w0 h0).an], .bool true]) ∧ Below w.heap.size w w' := by
  obtain ⟨h1, h2, h5⟩ := fxB_yes h
  have HX := Lib.hid (oldq1 w (.cells #[.int .i64 p.x, .int .i64 p.y, .int .i64 p.rx, .int .i64 p.ry, .int .i64 p.ww, .int .i64 p.hh, .int .i64 p.qw, .int .i64 p.qh, .int .i64 p.an] 24) (.cells #[.int .i64 0, .int .i64 0, .int .i64 0, .int .i64 0, .int .i64 0, .int .i64 0, .int .i64 0, .int .i64 0, .int .i64 0] 24))
  have HY := Lib.hid (newq1 w (.cells #[.int .i64 p.x, .int .i64 p.y, .int .i64 p.rx, .int .i64 p.ry, .int .i64 p.ww, .int .i64 p.hh, .int .i64 p.qw, .int .i64 p.qh, .int .i64 p.an] 24) (.cells #[.int .i64 0, .int .i64 0, .int .i64 0, .int .i64 0, .int .i64 0, .int .i64 0, .int .i64 0, .int .i64 0, .int .i64 0] 24))
  have HB := Lib.hid (balloc (o := .cells #[.int .i64 0, .int .i64 0, .int .i64 0, .int .i64 0, .int .i64 0, .int .i64 0, .int .i64 0, .int .i64 0, .int .i64 0] 24) (balloc (o := .cells #[.int .i64 p.x, .int .i64 p.y, .int .i64 p.rx, .int .i64 p.ry, .int .i64 p.ww, .int .i64 p.hh, .int .i64 p.qw, .int .i64 p.qh, .int .i64 p.an] 24) (Below.refl w.heap.size w)))
  go_enter Try.func29, Try.ntmps29
  go_wp2_with fail
  with_reducible refine (validPlace_t p true _ h1).mono ?_
  rintro e w1 ⟨rfl, hb⟩
  replace HX := Lib.hid ((hb.block _ (Array.getElem?_eq_some_iff.1 HX.out).1).trans HX.out)
  replace HY := Lib.hid ((hb.block _ (Array.getElem?_eq_some_iff.1 HY.out).1).trans HY.out)
  replace HB := Lib.hid (bkeep2 HB.out hb)
  clear hb
  go_wp2_with fail
  with_reducible refine (validRoom_q _ _ true _ h2).mono ?_
  rintro e w2 ⟨rfl, rfl⟩
  go_wp2_with fail
  refine (fix_v w.heap.size p w0 h0 _ HX.out h1 h2).mono ?_
  rintro e w3 ⟨⟨v, rfl⟩, hx, hg⟩
  replace HY := Lib.hid ((hg.block (w.heap.size + 1) (lt_q HY.out) (by simp)).trans HY.out)
  replace HB := Lib.hid (gnew_q HB.out hg (Nat.le_refl _))
  replace HX := Lib.hid (show w3.heap[w.heap.size]? = some (.cells #[.int .i64 (fixM p w0 h0).x, .int .i64 (fixM p w0 h0).y, .int .i64 (fixM p w0 h0).rx, .int .i64 (fixM p w0 h0).ry, .int .i64 (fixM p w0 h0).ww, .int .i64 (fixM p w0 h0).hh, .int .i64 (fixM p w0 h0).qw, .int .i64 (fixM p w0 h0).qh, .int .i64 (fixM p w0 h0).an] 24 (0, 0)) from hx)
  clear hx hg
  obtain ⟨c0, c1, c2, c3, c4, c5, c6, c7, c8⟩ := c9_q HX.out
  go_wp2_with fail
  refine (ifPlace_true (fixM p w0 h0) _ h5).mono ?_
  rintro e w4 ⟨rfl, hb⟩
  replace HX := Lib.hid ((hb.block _ (Array.getElem?_eq_some_iff.1 HX.out).1).trans HX.out)
  replace HY := Lib.hid ((hb.block _ (Array.getElem?_eq_some_iff.1 HY.out).1).trans HY.out)
  replace HB := Lib.hid (bkeep2 HB.out hb)
  clear hb
  clear c0 c1 c2 c3 c4 c5 c6 c7 c8
  obtain ⟨d0, d1, d2, d3, d4, d5, d6, d7, d8⟩ := c9_q HY.out
  obtain ⟨f0, f1, f2, f3, f4, f5, f6, f7, f8⟩ := f9_q HY.out
  have ly := lt_q HY.out
  have ln := Nat.ne_of_lt ly
  go_wp2_with fail
  refine bp_genQ (fun W => W.heap[w.heap.size + 1]? = some (.cells #[.int .i64 (fixM p w0 h0).x, .int .i64 (fixM p w0 h0).y, .int .i64 (fixM p w0 h0).rx, .int .i64 (fixM p w0 h0).ry, .int .i64 (fixM p w0 h0).ww, .int .i64 (fixM p w0 h0).hh, .int .i64 (fixM p w0 h0).qw, .int .i64 (fixM p w0 h0).qh, .int .i64 (fixM p w0 h0).an] 24 (0, 0)) ∧ Below w.heap.size w W) ⟨put9_q HY.out (.int .i64 (fixM p w0 h0).x) (.int .i64 (fixM p w0 h0).y) (.int .i64 (fixM p w0 h0).rx) (.int .i64 (fixM p w0 h0).ry) (.int .i64 (fixM p w0 h0).ww) (.int .i64 (fixM p w0 h0).hh) (.int .i64 (fixM p w0 h0).qw) (.int .i64 (fixM p w0 h0).qh) (.int .i64 (fixM p w0 h0).an), bset9_q HB.out (by simp) (.int .i64 (fixM p w0 h0).x) (.int .i64 (fixM p w0 h0).y) (.int .i64 (fixM p w0 h0).rx) (.int .i64 (fixM p w0 h0).ry) (.int .i64 (fixM p w0 h0).ww) (.int .i64 (fixM p w0 h0).hh) (.int .i64 (fixM p w0 h0).qw) (.int .i64 (fixM p w0 h0).qh) (.int .i64 (fixM p w0 h0).an)⟩ ?_
  clear HX HY HB d0 d1 d2 d3 d4 d5 d6 d7 d8 f0 f1 f2 f3 f4 f5 f6 f7 f8
  rintro W ⟨hq, hb⟩
  obtain ⟨d0, d1, d2, d3, d4, d5, d6, d7, d8⟩ := c9_q hq
  exact bodyPost_ret (v := .tuple #[.agg #[.int .i64 (fixM p w0 h0).x, .int .i64 (fixM p w0 h0).y, .int .i64 (fixM p w0 h0).rx, .int .i64 (fixM p w0 h0).ry, .int .i64 (fixM p w0 h0).ww, .int .i64 (fixM p w0 h0).hh, .int .i64 (fixM p w0 h0).qw, .int .i64 (fixM p w0 h0).qh, .int .i64 (fixM p w0 h0).an], .bool true]) (by simp only [results, Try.results29]; go_simp) rfl ⟨rfl, hb⟩
set_option maxRecDepth 100000 in
theorem FixPlace_no (p : Plc) (w0 h0 : Int) (w : World) (h : fxB p w0 h0 = false) : Calls Try.prog 29 #[.agg #[.int .i64 p.x, .int .i64 p.y, .int .i64 p.rx, .int .i64 p.ry, .int .i64 p.ww, .int .i64 p.hh, .int .i64 p.qw, .int .i64 p.qh, .int .i64 p.an], .int .i64 w0, .int .i64 h0] w fun e w' => e = .returned (.tuple #[.agg #[.int .i64 0, .int .i64 0, .int .i64 0, .int .i64 0, .int .i64 0, .int .i64 0, .int .i64 0, .int .i64 0, .int .i64 0], .bool false]) ∧ Below w.heap.size w w' := by
  cases h1 : plB p
  · skip
    have HX := Lib.hid (oldq1 w (.cells #[.int .i64 p.x, .int .i64 p.y, .int .i64 p.rx, .int .i64 p.ry, .int .i64 p.ww, .int .i64 p.hh, .int .i64 p.qw, .int .i64 p.qh, .int .i64 p.an] 24) (.cells #[.int .i64 0, .int .i64 0, .int .i64 0, .int .i64 0, .int .i64 0, .int .i64 0, .int .i64 0, .int .i64 0, .int .i64 0] 24))
    have HY := Lib.hid (newq1 w (.cells #[.int .i64 p.x, .int .i64 p.y, .int .i64 p.rx, .int .i64 p.ry, .int .i64 p.ww, .int .i64 p.hh, .int .i64 p.qw, .int .i64 p.qh, .int .i64 p.an] 24) (.cells #[.int .i64 0, .int .i64 0, .int .i64 0, .int .i64 0, .int .i64 0, .int .i64 0, .int .i64 0, .int .i64 0, .int .i64 0] 24))
    have HB := Lib.hid (balloc (o := .cells #[.int .i64 0, .int .i64 0, .int .i64 0, .int .i64 0, .int .i64 0, .int .i64 0, .int .i64 0, .int .i64 0, .int .i64 0] 24) (balloc (o := .cells #[.int .i64 p.x, .int .i64 p.y, .int .i64 p.rx, .int .i64 p.ry, .int .i64 p.ww, .int .i64 p.hh, .int .i64 p.qw, .int .i64 p.qh, .int .i64 p.an] 24) (Below.refl w.heap.size w)))
    go_enter Try.func29, Try.ntmps29
    go_wp2_with fail
    with_reducible refine (validPlace_t p false _ h1).mono ?_
    rintro e w1 ⟨rfl, hb⟩
    replace HX := Lib.hid ((hb.block _ (Array.getElem?_eq_some_iff.1 HX.out).1).trans HX.out)
    replace HY := Lib.hid ((hb.block _ (Array.getElem?_eq_some_iff.1 HY.out).1).trans HY.out)
    replace HB := Lib.hid (bkeep2 HB.out hb)
    clear hb
    obtain ⟨d0, d1, d2, d3, d4, d5, d6, d7, d8⟩ := c9_q HY.out
    obtain ⟨f0, f1, f2, f3, f4, f5, f6, f7, f8⟩ := f9_q HY.out
    have ly := lt_q HY.out
    have ln := Nat.ne_of_lt ly
    go_wp2_with fail
    refine bp_genQ (fun W => W.heap[w.heap.size + 1]? = some (.cells #[.int .i64 0, .int .i64 0, .int .i64 0, .int .i64 0, .int .i64 0, .int .i64 0, .int .i64 0, .int .i64 0, .int .i64 0] 24 (0, 0)) ∧ Below w.heap.size w W) ⟨put9_q HY.out (.int .i64 0) (.int .i64 0) (.int .i64 0) (.int .i64 0) (.int .i64 0) (.int .i64 0) (.int .i64 0) (.int .i64 0) (.int .i64 0), bset9_q HB.out (by simp) (.int .i64 0) (.int .i64 0) (.int .i64 0) (.int .i64 0) (.int .i64 0) (.int .i64 0) (.int .i64 0) (.int .i64 0) (.int .i64 0)⟩ ?_
    clear HX HY HB d0 d1 d2 d3 d4 d5 d6 d7 d8 f0 f1 f2 f3 f4 f5 f6 f7 f8
    rintro W ⟨hq, hb⟩
    obtain ⟨d0, d1, d2, d3, d4, d5, d6, d7, d8⟩ := c9_q hq
    exact bodyPost_ret (v := .tuple #[.agg #[.int .i64 0, .int .i64 0, .int .i64 0, .int .i64 0, .int .i64 0, .int .i64 0, .int .i64 0, .int .i64 0, .int .i64 0], .bool false]) (by simp only [results, Try.results29]; go_simp) rfl ⟨rfl, hb⟩
  cases h2 : rqB w0 h0
  · skip
    have HX := Lib.hid (oldq1 w (.cells #[.int .i64 p.x, .int .i64 p.y, .int .i64 p.rx, .int .i64 p.ry, .int .i64 p.ww, .int .i64 p.hh, .int .i64 p.qw, .int .i64 p.qh, .int .i64 p.an] 24) (.cells #[.int .i64 0, .int .i64 0, .int .i64 0, .int .i64 0, .int .i64 0, .int .i64 0, .int .i64 0, .int .i64 0, .int .i64 0] 24))
    have HY := Lib.hid (newq1 w (.cells #[.int .i64 p.x, .int .i64 p.y, .int .i64 p.rx, .int .i64 p.ry, .int .i64 p.ww, .int .i64 p.hh, .int .i64 p.qw, .int .i64 p.qh, .int .i64 p.an] 24) (.cells #[.int .i64 0, .int .i64 0, .int .i64 0, .int .i64 0, .int .i64 0, .int .i64 0, .int .i64 0, .int .i64 0, .int .i64 0] 24))
    have HB := Lib.hid (balloc (o := .cells #[.int .i64 0, .int .i64 0, .int .i64 0, .int .i64 0, .int .i64 0, .int .i64 0, .int .i64 0, .int .i64 0, .int .i64 0] 24) (balloc (o := .cells #[.int .i64 p.x, .int .i64 p.y, .int .i64 p.rx, .int .i64 p.ry, .int .i64 p.ww, .int .i64 p.hh, .int .i64 p.qw, .int .i64 p.qh, .int .i64 p.an] 24) (Below.refl w.heap.size w)))
    go_enter Try.func29, Try.ntmps29
    go_wp2_with fail
    with_reducible refine (validPlace_t p true _ h1).mono ?_
    rintro e w1 ⟨rfl, hb⟩
    replace HX := Lib.hid ((hb.block _ (Array.getElem?_eq_some_iff.1 HX.out).1).trans HX.out)
    replace HY := Lib.hid ((hb.block _ (Array.getElem?_eq_some_iff.1 HY.out).1).trans HY.out)
    replace HB := Lib.hid (bkeep2 HB.out hb)
    clear hb
    go_wp2_with fail
    with_reducible refine (validRoom_q _ _ false _ h2).mono ?_
    rintro e w2 ⟨rfl, rfl⟩
    obtain ⟨d0, d1, d2, d3, d4, d5, d6, d7, d8⟩ := c9_q HY.out
    obtain ⟨f0, f1, f2, f3, f4, f5, f6, f7, f8⟩ := f9_q HY.out
    have ly := lt_q HY.out
    have ln := Nat.ne_of_lt ly
    go_wp2_with fail
    refine bp_genQ (fun W => W.heap[w.heap.size + 1]? = some (.cells #[.int .i64 0, .int .i64 0, .int .i64 0, .int .i64 0, .int .i64 0, .int .i64 0, .int .i64 0, .int .i64 0, .int .i64 0] 24 (0, 0)) ∧ Below w.heap.size w W) ⟨put9_q HY.out (.int .i64 0) (.int .i64 0) (.int .i64 0) (.int .i64 0) (.int .i64 0) (.int .i64 0) (.int .i64 0) (.int .i64 0) (.int .i64 0), bset9_q HB.out (by simp) (.int .i64 0) (.int .i64 0) (.int .i64 0) (.int .i64 0) (.int .i64 0) (.int .i64 0) (.int .i64 0) (.int .i64 0) (.int .i64 0)⟩ ?_
    clear HX HY HB d0 d1 d2 d3 d4 d5 d6 d7 d8 f0 f1 f2 f3 f4 f5 f6 f7 f8
    rintro W ⟨hq, hb⟩
    obtain ⟨d0, d1, d2, d3, d4, d5, d6, d7, d8⟩ := c9_q hq
    exact bodyPost_ret (v := .tuple #[.agg #[.int .i64 0, .int .i64 0, .int .i64 0, .int .i64 0, .int .i64 0, .int .i64 0, .int .i64 0, .int .i64 0, .int .i64 0], .bool false]) (by simp only [results, Try.results29]; go_simp) rfl ⟨rfl, hb⟩
  have h5 : plB (fixM p w0 h0) = false := by simpa [fxB, prB, h1, h2] using h
  have HX := Lib.hid (oldq1 w (.cells #[.int .i64 p.x, .int .i64 p.y, .int .i64 p.rx, .int .i64 p.ry, .int .i64 p.ww, .int .i64 p.hh, .int .i64 p.qw, .int .i64 p.qh, .int .i64 p.an] 24) (.cells #[.int .i64 0, .int .i64 0, .int .i64 0, .int .i64 0, .int .i64 0, .int .i64 0, .int .i64 0, .int .i64 0, .int .i64 0] 24))
  have HY := Lib.hid (newq1 w (.cells #[.int .i64 p.x, .int .i64 p.y, .int .i64 p.rx, .int .i64 p.ry, .int .i64 p.ww, .int .i64 p.hh, .int .i64 p.qw, .int .i64 p.qh, .int .i64 p.an] 24) (.cells #[.int .i64 0, .int .i64 0, .int .i64 0, .int .i64 0, .int .i64 0, .int .i64 0, .int .i64 0, .int .i64 0, .int .i64 0] 24))
  have HB := Lib.hid (balloc (o := .cells #[.int .i64 0, .int .i64 0, .int .i64 0, .int .i64 0, .int .i64 0, .int .i64 0, .int .i64 0, .int .i64 0, .int .i64 0] 24) (balloc (o := .cells #[.int .i64 p.x, .int .i64 p.y, .int .i64 p.rx, .int .i64 p.ry, .int .i64 p.ww, .int .i64 p.hh, .int .i64 p.qw, .int .i64 p.qh, .int .i64 p.an] 24) (Below.refl w.heap.size w)))
  go_enter Try.func29, Try.ntmps29
  go_wp2_with fail
  with_reducible refine (validPlace_t p true _ h1).mono ?_
  rintro e w1 ⟨rfl, hb⟩
  replace HX := Lib.hid ((hb.block _ (Array.getElem?_eq_some_iff.1 HX.out).1).trans HX.out)
  replace HY := Lib.hid ((hb.block _ (Array.getElem?_eq_some_iff.1 HY.out).1).trans HY.out)
  replace HB := Lib.hid (bkeep2 HB.out hb)
  clear hb
  go_wp2_with fail
  with_reducible refine (validRoom_q _ _ true _ h2).mono ?_
  rintro e w2 ⟨rfl, rfl⟩
  go_wp2_with fail
  refine (fix_v w.heap.size p w0 h0 _ HX.out h1 h2).mono ?_
  rintro e w3 ⟨⟨v, rfl⟩, hx, hg⟩
  replace HY := Lib.hid ((hg.block (w.heap.size + 1) (lt_q HY.out) (by simp)).trans HY.out)
  replace HB := Lib.hid (gnew_q HB.out hg (Nat.le_refl _))
  replace HX := Lib.hid (show w3.heap[w.heap.size]? = some (.cells #[.int .i64 (fixM p w0 h0).x, .int .i64 (fixM p w0 h0).y, .int .i64 (fixM p w0 h0).rx, .int .i64 (fixM p w0 h0).ry, .int .i64 (fixM p w0 h0).ww, .int .i64 (fixM p w0 h0).hh, .int .i64 (fixM p w0 h0).qw, .int .i64 (fixM p w0 h0).qh, .int .i64 (fixM p w0 h0).an] 24 (0, 0)) from hx)
  clear hx hg
  obtain ⟨c0, c1, c2, c3, c4, c5, c6, c7, c8⟩ := c9_q HX.out
  go_wp2_with fail
  refine (ifPlace_false (fixM p w0 h0) _ h5).mono ?_
  rintro e w4 ⟨rfl, hb⟩
  replace HX := Lib.hid ((hb.block _ (Array.getElem?_eq_some_iff.1 HX.out).1).trans HX.out)
  replace HY := Lib.hid ((hb.block _ (Array.getElem?_eq_some_iff.1 HY.out).1).trans HY.out)
  replace HB := Lib.hid (bkeep2 HB.out hb)
  clear hb
  clear c0 c1 c2 c3 c4 c5 c6 c7 c8
  obtain ⟨d0, d1, d2, d3, d4, d5, d6, d7, d8⟩ := c9_q HY.out
  obtain ⟨f0, f1, f2, f3, f4, f5, f6, f7, f8⟩ := f9_q HY.out
  have ly := lt_q HY.out
  have ln := Nat.ne_of_lt ly
  go_wp2_with fail
  refine bp_genQ (fun W => W.heap[w.heap.size + 1]? = some (.cells #[.int .i64 0, .int .i64 0, .int .i64 0, .int .i64 0, .int .i64 0, .int .i64 0, .int .i64 0, .int .i64 0, .int .i64 0] 24 (0, 0)) ∧ Below w.heap.size w W) ⟨put9_q HY.out (.int .i64 0) (.int .i64 0) (.int .i64 0) (.int .i64 0) (.int .i64 0) (.int .i64 0) (.int .i64 0) (.int .i64 0) (.int .i64 0), bset9_q HB.out (by simp) (.int .i64 0) (.int .i64 0) (.int .i64 0) (.int .i64 0) (.int .i64 0) (.int .i64 0) (.int .i64 0) (.int .i64 0) (.int .i64 0)⟩ ?_
  clear HX HY HB d0 d1 d2 d3 d4 d5 d6 d7 d8 f0 f1 f2 f3 f4 f5 f6 f7 f8
  rintro W ⟨hq, hb⟩
  obtain ⟨d0, d1, d2, d3, d4, d5, d6, d7, d8⟩ := c9_q hq
  exact bodyPost_ret (v := .tuple #[.agg #[.int .i64 0, .int .i64 0, .int .i64 0, .int .i64 0, .int .i64 0, .int .i64 0, .int .i64 0, .int .i64 0, .int .i64 0], .bool false]) (by simp only [results, Try.results29]; go_simp) rfl ⟨rfl, hb⟩
end Go.Proofs.Ytfhjmmajhohkjab
end
section
namespace Go.Proofs.Ytfhjmmajhohkjab
open Go.RowKit
set_option linter.unusedVariables false
set_option maxHeartbeats 400000
attribute [local go_sem 5000] run_mx run_mn
attribute [local go_sem] growUpon_value growUpon_skip growUpon_enter
set_option maxRecDepth 100000 in
theorem sFixPlace_yes (p : Plc) (w0 h0 : Int) (w : World) (h : fxB p w0 h0 = true) : Calls Try.prog 30 #[.agg #[.int .i64 p.x, .int .i64 p.y, .int .i64 p.rx, .int .i64 p.ry, .int .i64 p.ww, .int .i64 p.hh, .int .i64 p.qw, .int .i64 p.qh, .int .i64 p.an], .int .i64 w0, .int .i64 h0] w fun e w' => e = .returned (.tuple #[.agg #[.int .i64 (fixM p w0 h0).x, .int .i64 (fixM p w0 h0).y, .int .i64 (fixM p w0 h0).rx, .int .i64 (fixM p w0 h0).ry, .int .i64 (fixM p w0 h0).ww, .int .i64 (fixM p w0 h0).hh, .int .i64 (fixM p w0 h0).qw, .int .i64 (fixM p w0 h0).qh, .int .i64 (fixM p w0 h0).an], .bool true]) ∧ Below w.heap.size w w' := by
  obtain ⟨h1, h2, h5⟩ := fxB_yes h
  have HX := Lib.hid (oldq1 w (.cells #[.int .i64 p.x, .int .i64 p.y, .int .i64 p.rx, .int .i64 p.ry, .int .i64 p.ww, .int .i64 p.hh, .int .i64 p.qw, .int .i64 p.qh, .int .i64 p.an] 24) (.cells #[.int .i64 0, .int .i64 0, .int .i64 0, .int .i64 0, .int .i64 0, .int .i64 0, .int .i64 0, .int .i64 0, .int .i64 0] 24))
  have HY := Lib.hid (newq1 w (.cells #[.int .i64 p.x, .int .i64 p.y, .int .i64 p.rx, .int .i64 p.ry, .int .i64 p.ww, .int .i64 p.hh, .int .i64 p.qw, .int .i64 p.qh, .int .i64 p.an] 24) (.cells #[.int .i64 0, .int .i64 0, .int .i64 0, .int .i64 0, .int .i64 0, .int .i64 0, .int .i64 0, .int .i64 0, .int .i64 0] 24))
  have HB := Lib.hid (balloc (o := .cells #[.int .i64 0, .int .i64 0, .int .i64 0, .int .i64 0, .int .i64 0, .int .i64 0, .int .i64 0, .int .i64 0, .int .i64 0] 24) (balloc (o := .cells #[.int .i64 p.x, .int .i64 p.y, .int .i64 p.rx, .int .i64 p.ry, .int .i64 p.ww, .int .i64 p.hh, .int .i64 p.qw, .int .i64 p.qh, .int .i64 p.an] 24) (Below.refl w.heap.size w)))
  go_enter Try.func30, Try.ntmps30
  go_wp2_with fail
  with_reducible refine (svalidPlace_t p true _ h1).mono ?_
  rintro e w1 ⟨rfl, hb⟩
  replace HX := Lib.hid ((hb.block _ (Array.getElem?_eq_some_iff.1 HX.out).1).trans HX.out)
  replace HY := Lib.hid ((hb.block _ (Array.getElem?_eq_some_iff.1 HY.out).1).trans HY.out)
  replace HB := Lib.hid (bkeep2 HB.out hb)
  clear hb
  go_wp2_with fail
  with_reducible refine (goodRoom_q _ _ true _ h2).mono ?_
  rintro e w2 ⟨rfl, rfl⟩
  obtain ⟨⟨b1, b1'⟩, ⟨b2, b2'⟩, ⟨b3, b3'⟩, ⟨b4, b4'⟩, -, -, -, -, -⟩ := plB_iff.1 h1
  obtain ⟨⟨r1, r1'⟩, ⟨r2, r2'⟩⟩ := rqB_iff.1 h2
  obtain ⟨t1, t1'⟩ := (pl_bd h1 h2).t1
  obtain ⟨t2, t2'⟩ := (pl_bd h1 h2).t2
  have e3 : IntKind.i64.wrap (p.x + thM p.rx w0) = p.x + thM p.rx w0 := wr_q (by omega) (by omega)
  have e4 : IntKind.i64.wrap (p.y + thM p.ry h0) = p.y + thM p.ry h0 := wr_q (by omega) (by omega)
  obtain ⟨c0, c1, c2, c3, c4, c5, c6, c7, c8⟩ := c9_q HX.out
  go_wp2_with fail
  with_reducible refine (placed_v p w0 h0 _ h1 h2).mono ?_
  rintro e w3 ⟨rfl, hb⟩
  replace HX := Lib.hid ((hb.block _ (Array.getElem?_eq_some_iff.1 HX.out).1).trans HX.out)
  replace HY := Lib.hid ((hb.block _ (Array.getElem?_eq_some_iff.1 HY.out).1).trans HY.out)
  replace HB := Lib.hid (bkeep2 HB.out hb)
  clear hb
  clear c0 c1 c2 c3 c4 c5 c6 c7 c8
  go_upto_region 4 with (fail)
  refine wp_genG3 (fun W => W.heap[w.heap.size]? = some (.cells #[.int .i64 p.x, .int .i64 p.y, .int .i64 p.rx, .int .i64 p.ry, .int .i64 p.ww, .int .i64 p.hh, .int .i64 p.qw, .int .i64 p.qh, .int .i64 p.an] 24 (0, 0)) ∧ W.heap[w.heap.size + 1]? = some (.cells #[.int .i64 0, .int .i64 0, .int .i64 0, .int .i64 0, .int .i64 0, .int .i64 0, .int .i64 0, .int .i64 0, .int .i64 0] 24 (0, 0)) ∧ W.heap[w3.heap.size]? = some (.cells #[.int .i64 (xM p w0), .int .i64 (yM p h0), .int .i64 (wM p w0), .int .i64 (hM p h0)] 31) ∧ Below w.heap.size w W) ⟨(Below.heap_alloc _ _ _ (lt_q HX.out)).trans HX.out, (Below.heap_alloc _ _ _ (lt_q HY.out)).trans HY.out, new_q _ _, balloc HB.out⟩ (fun w4 h4 => ?_)
  clear HX HY HB
  obtain ⟨hx, hy, hn, hb⟩ := h4
  have HX := Lib.hid hx
  have HY := Lib.hid hy
  have HN := Lib.hid hn
  have HB := Lib.hid hb
  clear hx hy hn hb
  have n2 := cl_q HN.out 2
  have n3 := cl_q HN.out 3
  have lx := lt_q HX.out
  have ln := lt_q HN.out
  obtain ⟨c0, c1, c2, c3, c4, c5, c6, c7, c8⟩ := c9_q HX.out
  refine wp_region_grow 21 2 (· < 22) (by kernel_rfl) (by kernel_rfl) rfl ?_
  iterate 21 (refine wpG_step (fun K hK => ?_); apply Exists.intro; refine ⟨.inl ⟨rfl, fun w' hw' => ?_⟩, ?_⟩; (focus ((obtain ⟨hc, hf⟩ := bcell hw'.out); (have hcS := bcellS hw'.out); go_simp <;> first | rfl | (go_at_call 50; exact part_v _ _ _ (by assumption) (by assumption) (by assumption) (by assumption)))); (go_simp; refine hK _ ?_; clear hK K))
  refine wpG_nil ?_
  refine wpK_one (i := 21) (by kernel_rfl) rfl rfl (by kernel_rfl) (fun wa ha => ?_)
  go_simp
  refine ⟨Gr.alloc _ _, ?_⟩
  refine wpK_tail (by kernel_rfl) (fun wb hg => ?_)
  have ha0 := bgrow (Below.refl w4.heap.size w4).drew ha
  have sa := ha0.size
  have hb : Below w4.heap.size w4 wb := bgrow (balloc ha0) hg
  have ly4 := lt_q HY.out
  have hz := (hg.out.block wa.heap.size (by simp)).trans (new_q wa _)
  clear c0 c1 c2 c3 c4 c5 c6 c7 c8 n2 n3 lx ln
  replace HX := Lib.hid ((hb.block _ (Array.getElem?_eq_some_iff.1 HX.out).1).trans HX.out)
  replace HY := Lib.hid ((hb.block _ (Array.getElem?_eq_some_iff.1 HY.out).1).trans HY.out)
  replace HB := Lib.hid (bkeep2 HB.out hb)
  clear hb
  have sx := lt_q HX.out
  have HZ := Lib.hid hz
  obtain ⟨d0, d1, d2, d3, d4, d5, d6, d7, d8⟩ := c9_q hz
  obtain ⟨f0, f1, f2, f3, f4, f5, f6, f7, f8⟩ := f9_q hz
  clear hz ha hg
  refine wpAny_one (i := 22) (by kernel_rfl) rfl rfl ?_
  go_simp
  refine wpAny_end (by kernel_rfl) ?_
  refine NoPan.gen (fun W => W.heap[wa.heap.size]? = some (.cells #[.int .i64 (fixM p w0 h0).x, .int .i64 (fixM p w0 h0).y, .int .i64 (fixM p w0 h0).rx, .int .i64 (fixM p w0 h0).ry, .int .i64 (fixM p w0 h0).ww, .int .i64 (fixM p w0 h0).hh, .int .i64 (fixM p w0 h0).qw, .int .i64 (fixM p w0 h0).qh, .int .i64 (fixM p w0 h0).an] 24 (0, 0)) ∧ W.heap[w.heap.size + 1]? = some (.cells #[.int .i64 0, .int .i64 0, .int .i64 0, .int .i64 0, .int .i64 0, .int .i64 0, .int .i64 0, .int .i64 0, .int .i64 0] 24 (0, 0)) ∧ Below w.heap.size w W) ⟨put9_q HZ.out _ _ _ _ _ _ _ _ _, (oth9_q (by omega) _ _ _ _ _ _ _ _ _).trans HY.out, bset9_q HB.out (by omega) _ _ _ _ _ _ _ _ _⟩ (fun w6 h6 => ?_)
  clear HX HY HZ HB HN d0 d1 d2 d3 d4 d5 d6 d7 d8 f0 f1 f2 f3 f4 f5 f6 f7 f8 sx
  obtain ⟨hx, hy, hb⟩ := h6
  have HX := Lib.hid hx
  have HY := Lib.hid hy
  have HB := Lib.hid hb
  clear hx hy hb
  obtain ⟨c0, c1, c2, c3, c4, c5, c6, c7, c8⟩ := c9_q HX.out
  go_wp2_with fail
  refine (svalidPlace_t (fixM p w0 h0) true _ h5).mono ?_
  rintro e w7 ⟨rfl, hb⟩
  clear c0 c1 c2 c3 c4 c5 c6 c7 c8
  replace HX := Lib.hid ((hb.block _ (Array.getElem?_eq_some_iff.1 HX.out).1).trans HX.out)
  replace HY := Lib.hid ((hb.block _ (Array.getElem?_eq_some_iff.1 HY.out).1).trans HY.out)
  replace HB := Lib.hid (bkeep2 HB.out hb)
  clear hb
  obtain ⟨c0, c1, c2, c3, c4, c5, c6, c7, c8⟩ := c9_q HX.out
  obtain ⟨d0, d1, d2, d3, d4, d5, d6, d7, d8⟩ := c9_q HY.out
  obtain ⟨f0, f1, f2, f3, f4, f5, f6, f7, f8⟩ := f9_q HY.out
  have ly := lt_q HY.out
  have ln := Nat.ne_of_lt ly
  go_wp2_with fail
  refine bp_genQ (fun W => W.heap[w.heap.size + 1]? = some (.cells #[.int .i64 (fixM p w0 h0).x, .int .i64 (fixM p w0 h0).y, .int .i64 (fixM p w0 h0).rx, .int .i64 (fixM p w0 h0).ry, .int .i64 (fixM p w0 h0).ww, .int .i64 (fixM p w0 h0).hh, .int .i64 (fixM p w0 h0).qw, .int .i64 (fixM p w0 h0).qh, .int .i64 (fixM p w0 h0).an] 24 (0, 0)) ∧ Below w.heap.size w W) ⟨put9_q HY.out (.int .i64 (fixM p w0 h0).x) (.int .i64 (fixM p w0 h0).y) (.int .i64 (fixM p w0 h0).rx) (.int .i64 (fixM p w0 h0).ry) (.int .i64 (fixM p w0 h0).ww) (.int .i64 (fixM p w0 h0).hh) (.int .i64 (fixM p w0 h0).qw) (.int .i64 (fixM p w0 h0).qh) (.int .i64 (fixM p w0 h0).an), bset9_q HB.out (by simp) (.int .i64 (fixM p w0 h0).x) (.int .i64 (fixM p w0 h0).y) (.int .i64 (fixM p w0 h0).rx) (.int .i64 (fixM p w0 h0).ry) (.int .i64 (fixM p w0 h0).ww) (.int .i64 (fixM p w0 h0).hh) (.int .i64 (fixM p w0 h0).qw) (.int .i64 (fixM p w0 h0).qh) (.int .i64 (fixM p w0 h0).an)⟩ ?_
  clear HX HY HB c0 c1 c2 c3 c4 c5 c6 c7 c8 d0 d1 d2 d3 d4 d5 d6 d7 d8 f0 f1 f2 f3 f4 f5 f6 f7 f8
  rintro W ⟨hq, hb⟩
  obtain ⟨d0, d1, d2, d3, d4, d5, d6, d7, d8⟩ := c9_q hq
  exact bodyPost_ret (v := .tuple #[.agg #[.int .i64 (fixM p w0 h0).x, .int .i64 (fixM p w0 h0).y, .int .i64 (fixM p w0 h0).rx, .int .i64 (fixM p w0 h0).ry, .int .i64 (fixM p w0 h0).ww, .int .i64 (fixM p w0 h0).hh, .int .i64 (fixM p w0 h0).qw, .int .i64 (fixM p w0 h0).qh, .int .i64 (fixM p w0 h0).an], .bool true]) (by simp only [results, Try.results30]; go_simp) rfl ⟨rfl, hb⟩
set_option maxRecDepth 100000 in
theorem sFixPlace_no (p : Plc) (w0 h0 : Int) (w : World) (h : fxB p w0 h0 = false) : Calls Try.prog 30 #[.agg #[.int .i64 p.x, .int .i64 p.y, .int .i64 p.rx, .int .i64 p.ry, .int .i64 p.ww, .int .i64 p.hh, .int .i64 p.qw, .int .i64 p.qh, .int .i64 p.an], .int .i64 w0, .int .i64 h0] w fun e w' => e = .returned (.tuple #[.agg #[.int .i64 0, .int .i64 0, .int .i64 0, .int .i64 0, .int .i64 0, .int .i64 0, .int .i64 0, .int .i64 0, .int .i64 0], .bool false]) ∧ Below w.heap.size w w' := by
  cases h1 : plB p
  · skip
    have HX := Lib.hid (oldq1 w (.cells #[.int .i64 p.x, .int .i64 p.y, .int .i64 p.rx, .int .i64 p.ry, .int .i64 p.ww, .int .i64 p.hh, .int .i64 p.qw, .int .i64 p.qh, .int .i64 p.an] 24) (.cells #[.int .i64 0, .int .i64 0, .int .i64 0, .int .i64 0, .int .i64 0, .int .i64 0, .int .i64 0, .int .i64 0, .int .i64 0] 24))
    have HY := Lib.hid (newq1 w (.cells #[.int .i64 p.x, .int .i64 p.y, .int .i64 p.rx, .int .i64 p.ry, .int .i64 p.ww, .int .i64 p.hh, .int .i64 p.qw, .int .i64 p.qh, .int .i64 p.an] 24) (.cells #[.int .i64 0, .int .i64 0, .int .i64 0, .int .i64 0, .int .i64 0, .int .i64 0, .int .i64 0, .int .i64 0, .int .i64 0] 24))
    have HB := Lib.hid (balloc (o := .cells #[.int .i64 0, .int .i64 0, .int .i64 0, .int .i64 0, .int .i64 0, .int .i64 0, .int .i64 0, .int .i64 0, .int .i64 0] 24) (balloc (o := .cells #[.int .i64 p.x, .int .i64 p.y, .int .i64 p.rx, .int .i64 p.ry, .int .i64 p.ww, .int .i64 p.hh, .int .i64 p.qw, .int .i64 p.qh, .int .i64 p.an] 24) (Below.refl w.heap.size w)))
    go_enter Try.func30, Try.ntmps30
    go_wp2_with fail
    with_reducible refine (svalidPlace_t p false _ h1).mono ?_
    rintro e w1 ⟨rfl, hb⟩
    replace HX := Lib.hid ((hb.block _ (Array.getElem?_eq_some_iff.1 HX.out).1).trans HX.out)
    replace HY := Lib.hid ((hb.block _ (Array.getElem?_eq_some_iff.1 HY.out).1).trans HY.out)
    replace HB := Lib.hid (bkeep2 HB.out hb)
    clear hb
    obtain ⟨d0, d1, d2, d3, d4, d5, d6, d7, d8⟩ := c9_q HY.out
    obtain ⟨f0, f1, f2, f3, f4, f5, f6, f7, f8⟩ := f9_q HY.out
    have ly := lt_q HY.out
    have ln := Nat.ne_of_lt ly
    go_wp2_with fail
    refine bp_genQ (fun W => W.heap[w.heap.size + 1]? = some (.cells #[.int .i64 0, .int .i64 0, .int .i64 0, .int .i64 0, .int .i64 0, .int .i64 0, .int .i64 0, .int .i64 0, .int .i64 0] 24 (0, 0)) ∧ Below w.heap.size w W) ⟨put9_q HY.out (.int .i64 0) (.int .i64 0) (.int .i64 0) (.int .i64 0) (.int .i64 0) (.int .i64 0) (.int .i64 0) (.int .i64 0) (.int .i64 0), bset9_q HB.out (by simp) (.int .i64 0) (.int .i64 0) (.int .i64 0) (.int .i64 0) (.int .i64 0) (.int .i64 0) (.int .i64 0) (.int .i64 0) (.int .i64 0)⟩ ?_
    clear HX HY HB d0 d1 d2 d3 d4 d5 d6 d7 d8 f0 f1 f2 f3 f4 f5 f6 f7 f8
    rintro W ⟨hq, hb⟩
    obtain ⟨d0, d1, d2, d3, d4, d5, d6, d7, d8⟩ := c9_q hq
    exact bodyPost_ret (v := .tuple #[.agg #[.int .i64 0, .int .i64 0, .int .i64 0, .int .i64 0, .int .i64 0, .int .i64 0, .int .i64 0, .int .i64 0, .int .i64 0], .bool false]) (by simp only [results, Try.results30]; go_simp) rfl ⟨rfl, hb⟩
  cases h2 : rqB w0 h0
  · skip
    have HX := Lib.hid (oldq1 w (.cells #[.int .i64 p.x, .int .i64 p.y, .int .i64 p.rx, .int .i64 p.ry, .int .i64 p.ww, .int .i64 p.hh, .int .i64 p.qw, .int .i64 p.qh, .int .i64 p.an] 24) (.cells #[.int .i64 0, .int .i64 0, .int .i64 0, .int .i64 0, .int .i64 0, .int .i64 0, .int .i64 0, .int .i64 0, .int .i64 0] 24))
    have HY := Lib.hid (newq1 w (.cells #[.int .i64 p.x, .int .i64 p.y, .int .i64 p.rx, .int .i64 p.ry, .int .i64 p.ww, .int .i64 p.hh, .int .i64 p.qw, .int .i64 p.qh, .int .i64 p.an] 24) (.cells #[.int .i64 0, .int .i64 0, .int .i64 0, .int .i64 0, .int .i64 0, .int .i64 0, .int .i64 0, .int .i64 0, .int .i64 0] 24))
    have HB := Lib.hid (balloc (o := .cells #[.int .i64 0, .int .i64 0, .int .i64 0, .int .i64 0, .int .i64 0, .int .i64 0, .int .i64 0, .int .i64 0, .int .i64 0] 24) (balloc (o := .cells #[.int .i64 p.x, .int .i64 p.y, .int .i64 p.rx, .int .i64 p.ry, .int .i64 p.ww, .int .i64 p.hh, .int .i64 p.qw, .int .i64 p.qh, .int .i64 p.an] 24) (Below.refl w.heap.size w)))
    go_enter Try.func30, Try.ntmps30
    go_wp2_with fail
    with_reducible refine (svalidPlace_t p true _ h1).mono ?_
    rintro e w1 ⟨rfl, hb⟩
    replace HX := Lib.hid ((hb.block _ (Array.getElem?_eq_some_iff.1 HX.out).1).trans HX.out)
    replace HY := Lib.hid ((hb.block _ (Array.getElem?_eq_some_iff.1 HY.out).1).trans HY.out)
    replace HB := Lib.hid (bkeep2 HB.out hb)
    clear hb
    go_wp2_with fail
    with_reducible refine (goodRoom_q _ _ false _ h2).mono ?_
    rintro e w2 ⟨rfl, rfl⟩
    obtain ⟨d0, d1, d2, d3, d4, d5, d6, d7, d8⟩ := c9_q HY.out
    obtain ⟨f0, f1, f2, f3, f4, f5, f6, f7, f8⟩ := f9_q HY.out
    have ly := lt_q HY.out
    have ln := Nat.ne_of_lt ly
    go_wp2_with fail
    refine bp_genQ (fun W => W.heap[w.heap.size + 1]? = some (.cells #[.int .i64 0, .int .i64 0, .int .i64 0, .int .i64 0, .int .i64 0, .int .i64 0, .int .i64 0, .int .i64 0, .int .i64 0] 24 (0, 0)) ∧ Below w.heap.size w W) ⟨put9_q HY.out (.int .i64 0) (.int .i64 0) (.int .i64 0) (.int .i64 0) (.int .i64 0) (.int .i64 0) (.int .i64 0) (.int .i64 0) (.int .i64 0), bset9_q HB.out (by simp) (.int .i64 0) (.int .i64 0) (.int .i64 0) (.int .i64 0) (.int .i64 0) (.int .i64 0) (.int .i64 0) (.int .i64 0) (.int .i64 0)⟩ ?_
    clear HX HY HB d0 d1 d2 d3 d4 d5 d6 d7 d8 f0 f1 f2 f3 f4 f5 f6 f7 f8
    rintro W ⟨hq, hb⟩
    obtain ⟨d0, d1, d2, d3, d4, d5, d6, d7, d8⟩ := c9_q hq
    exact bodyPost_ret (v := .tuple #[.agg #[.int .i64 0, .int .i64 0, .int .i64 0, .int .i64 0, .int .i64 0, .int .i64 0, .int .i64 0, .int .i64 0, .int .i64 0], .bool false]) (by simp only [results, Try.results30]; go_simp) rfl ⟨rfl, hb⟩
  have h5 : plB (fixM p w0 h0) = false := by simpa [fxB, prB, h1, h2] using h
  have HX := Lib.hid (oldq1 w (.cells #[.int .i64 p.x, .int .i64 p.y, .int .i64 p.rx, .int .i64 p.ry, .int .i64 p.ww, .int .i64 p.hh, .int .i64 p.qw, .int .i64 p.qh, .int .i64 p.an] 24) (.cells #[.int .i64 0, .int .i64 0, .int .i64 0, .int .i64 0, .int .i64 0, .int .i64 0, .int .i64 0, .int .i64 0, .int .i64 0] 24))
  have HY := Lib.hid (newq1 w (.cells #[.int .i64 p.x, .int .i64 p.y, .int .i64 p.rx, .int .i64 p.ry, .int .i64 p.ww, .int .i64 p.hh, .int .i64 p.qw, .int .i64 p.qh, .int .i64 p.an] 24) (.cells #[.int .i64 0, .int .i64 0, .int .i64 0, .int .i64 0, .int .i64 0, .int .i64 0, .int .i64 0, .int .i64 0, .int .i64 0] 24))
  have HB := Lib.hid (balloc (o := .cells #[.int .i64 0, .int .i64 0, .int .i64 0, .int .i64 0, .int .i64 0, .int .i64 0, .int .i64 0, .int .i64 0, .int .i64 0] 24) (balloc (o := .cells #[.int .i64 p.x, .int .i64 p.y, .int .i64 p.rx, .int .i64 p.ry, .int .i64 p.ww, .int .i64 p.hh, .int .i64 p.qw, .int .i64 p.qh, .int .i64 p.an] 24) (Below.refl w.heap.size w)))
  go_enter Try.func30, Try.ntmps30
  go_wp2_with fail
  with_reducible refine (svalidPlace_t p true _ h1).mono ?_
  rintro e w1 ⟨rfl, hb⟩
  replace HX := Lib.hid ((hb.block _ (Array.getElem?_eq_some_iff.1 HX.out).1).trans HX.out)
  replace HY := Lib.hid ((hb.block _ (Array.getElem?_eq_some_iff.1 HY.out).1).trans HY.out)
  replace HB := Lib.hid (bkeep2 HB.out hb)
  clear hb
  go_wp2_with fail
  with_reducible refine (goodRoom_q _ _ true _ h2).mono ?_
  rintro e w2 ⟨rfl, rfl⟩
  obtain ⟨⟨b1, b1'⟩, ⟨b2, b2'⟩, ⟨b3, b3'⟩, ⟨b4, b4'⟩, -, -, -, -, -⟩ := plB_iff.1 h1
  obtain ⟨⟨r1, r1'⟩, ⟨r2, r2'⟩⟩ := rqB_iff.1 h2
  obtain ⟨t1, t1'⟩ := (pl_bd h1 h2).t1
  obtain ⟨t2, t2'⟩ := (pl_bd h1 h2).t2
  have e3 : IntKind.i64.wrap (p.x + thM p.rx w0) = p.x + thM p.rx w0 := wr_q (by omega) (by omega)
  have e4 : IntKind.i64.wrap (p.y + thM p.ry h0) = p.y + thM p.ry h0 := wr_q (by omega) (by omega)
  obtain ⟨c0, c1, c2, c3, c4, c5, c6, c7, c8⟩ := c9_q HX.out
  go_wp2_with fail
  with_reducible refine (placed_v p w0 h0 _ h1 h2).mono ?_
  rintro e w3 ⟨rfl, hb⟩
  replace HX := Lib.hid ((hb.block _ (Array.getElem?_eq_some_iff.1 HX.out).1).trans HX.out)
  replace HY := Lib.hid ((hb.block _ (Array.getElem?_eq_some_iff.1 HY.out).1).trans HY.out)
  replace HB := Lib.hid (bkeep2 HB.out hb)
  clear hb
  clear c0 c1 c2 c3 c4 c5 c6 c7 c8
  go_upto_region 4 with (fail)
  refine wp_genG3 (fun W => W.heap[w.heap.size]? = some (.cells #[.int .i64 p.x, .int .i64 p.y, .int .i64 p.rx, .int .i64 p.ry, .int .i64 p.ww, .int .i64 p.hh, .int .i64 p.qw, .int .i64 p.qh, .int .i64 p.an] 24 (0, 0)) ∧ W.heap[w.heap.size + 1]? = some (.cells #[.int .i64 0, .int .i64 0, .int .i64 0, .int .i64 0, .int .i64 0, .int .i64 0, .int .i64 0, .int .i64 0, .int .i64 0] 24 (0, 0)) ∧ W.heap[w3.heap.size]? = some (.cells #[.int .i64 (xM p w0), .int .i64 (yM p h0), .int .i64 (wM p w0), .int .i64 (hM p h0)] 31) ∧ Below w.heap.size w W) ⟨(Below.heap_alloc _ _ _ (lt_q HX.out)).trans HX.out, (Below.heap_alloc _ _ _ (lt_q HY.out)).trans HY.out, new_q _ _, balloc HB.out⟩ (fun w4 h4 => ?_)
  clear HX HY HB
  obtain ⟨hx, hy, hn, hb⟩ := h4
  have HX := Lib.hid hx
  have HY := Lib.hid hy
  have HN := Lib.hid hn
  have HB := Lib.hid hb
  clear hx hy hn hb
  have n2 := cl_q HN.out 2
  have n3 := cl_q HN.out 3
  have lx := lt_q HX.out
  have ln := lt_q HN.out
  obtain ⟨c0, c1, c2, c3, c4, c5, c6, c7, c8⟩ := c9_q HX.out
  refine wp_region_grow 21 2 (· < 22) (by kernel_rfl) (by kernel_rfl) rfl ?_
  iterate 21 (refine wpG_step (fun K hK => ?_); apply Exists.intro; refine ⟨.inl ⟨rfl, fun w' hw' => ?_⟩, ?_⟩; (focus ((obtain ⟨hc, hf⟩ := bcell hw'.out); (have hcS := bcellS hw'.out); go_simp <;> first | rfl | (go_at_call 50; exact part_v _ _ _ (by assumption) (by assumption) (by assumption) (by assumption)))); (go_simp; refine hK _ ?_; clear hK K))
  refine wpG_nil ?_
  refine wpK_one (i := 21) (by kernel_rfl) rfl rfl (by kernel_rfl) (fun wa ha => ?_)
  go_simp
  refine ⟨Gr.alloc _ _, ?_⟩
  refine wpK_tail (by kernel_rfl) (fun wb hg => ?_)
  have ha0 := bgrow (Below.refl w4.heap.size w4).drew ha
  have sa := ha0.size
  have hb : Below w4.heap.size w4 wb := bgrow (balloc ha0) hg
  have ly4 := lt_q HY.out
  have hz := (hg.out.block wa.heap.size (by simp)).trans (new_q wa _)
  clear c0 c1 c2 c3 c4 c5 c6 c7 c8 n2 n3 lx ln
  replace HX := Lib.hid ((hb.block _ (Array.getElem?_eq_some_iff.1 HX.out).1).trans HX.out)
  replace HY := Lib.hid ((hb.block _ (Array.getElem?_eq_some_iff.1 HY.out).1).trans HY.out)
  replace HB := Lib.hid (bkeep2 HB.out hb)
  clear hb
  have sx := lt_q HX.out
  have HZ := Lib.hid hz
  obtain ⟨d0, d1, d2, d3, d4, d5, d6, d7, d8⟩ := c9_q hz
  obtain ⟨f0, f1, f2, f3, f4, f5, f6, f7, f8⟩ := f9_q hz
  clear hz ha hg
  refine wpAny_one (i := 22) (by kernel_rfl) rfl rfl ?_
  go_simp
  refine wpAny_end (by kernel_rfl) ?_
  refine NoPan.gen (fun W => W.heap[wa.heap.size]? = some (.cells #[.int .i64 (fixM p w0 h0).x, .int .i64 (fixM p w0 h0).y, .int .i64 (fixM p w0 h0).rx, .int .i64 (fixM p w0 h0).ry, .int .i64 (fixM p w0 h0).ww, .int .i64 (fixM p w0 h0).hh, .int .i64 (fixM p w0 h0).qw, .int .i64 (fixM p w0 h0).qh, .int .i64 (fixM p w0 h0).an] 24 (0, 0)) ∧ W.heap[w.heap.size + 1]? = some (.cells #[.int .i64 0, .int .i64 0, .int .i64 0, .int .i64 0, .int .i64 0, .int .i64 0, .int .i64 0, .int .i64 0, .int .i64 0] 24 (0, 0)) ∧ Below w.heap.size w W) ⟨put9_q HZ.out _ _ _ _ _ _ _ _ _, (oth9_q (by omega) _ _ _ _ _ _ _ _ _).trans HY.out, bset9_q HB.out (by omega) _ _ _ _ _ _ _ _ _⟩ (fun w6 h6 => ?_)
  clear HX HY HZ HB HN d0 d1 d2 d3 d4 d5 d6 d7 d8 f0 f1 f2 f3 f4 f5 f6 f7 f8 sx
  obtain ⟨hx, hy, hb⟩ := h6
  have HX := Lib.hid hx
  have HY := Lib.hid hy
  have HB := Lib.hid hb
  clear hx hy hb
  obtain ⟨c0, c1, c2, c3, c4, c5, c6, c7, c8⟩ := c9_q HX.out
  go_wp2_with fail
  refine (svalidPlace_t (fixM p w0 h0) false _ h5).mono ?_
  rintro e w7 ⟨rfl, hb⟩
  clear c0 c1 c2 c3 c4 c5 c6 c7 c8
  replace HX := Lib.hid ((hb.block _ (Array.getElem?_eq_some_iff.1 HX.out).1).trans HX.out)
  replace HY := Lib.hid ((hb.block _ (Array.getElem?_eq_some_iff.1 HY.out).1).trans HY.out)
  replace HB := Lib.hid (bkeep2 HB.out hb)
  clear hb
  obtain ⟨d0, d1, d2, d3, d4, d5, d6, d7, d8⟩ := c9_q HY.out
  obtain ⟨f0, f1, f2, f3, f4, f5, f6, f7, f8⟩ := f9_q HY.out
  have ly := lt_q HY.out
  have ln := Nat.ne_of_lt ly
  go_wp2_with fail
  refine bp_genQ (fun W => W.heap[w.heap.size + 1]? = some (.cells #[.int .i64 0, .int .i64 0, .int .i64 0, .int .i64 0, .int .i64 0, .int .i64 0, .int .i64 0, .int .i64 0, .int .i64 0] 24 (0, 0)) ∧ Below w.heap.size w W) ⟨put9_q HY.out (.int .i64 0) (.int .i64 0) (.int .i64 0) (.int .i64 0) (.int .i64 0) (.int .i64 0) (.int .i64 0) (.int .i64 0) (.int .i64 0), bset9_q HB.out (by simp) (.int .i64 0) (.int .i64 0) (.int .i64 0) (.int .i64 0) (.int .i64 0) (.int .i64 0) (.int .i64 0) (.int .i64 0) (.int .i64 0)⟩ ?_
  clear HX HY HB d0 d1 d2 d3 d4 d5 d6 d7 d8 f0 f1 f2 f3 f4 f5 f6 f7 f8
  rintro W ⟨hq, hb⟩
  obtain ⟨d0, d1, d2, d3, d4, d5, d6, d7, d8⟩ := c9_q hq
  exact bodyPost_ret (v := .tuple #[.agg #[.int .i64 0, .int .i64 0, .int .i64 0, .int .i64 0, .int .i64 0, .int .i64 0, .int .i64 0, .int .i64 0, .int .i64 0], .bool false]) (by simp only [results, Try.results30]; go_simp) rfl ⟨rfl, hb⟩
end Go.Proofs.Ytfhjmmajhohkjab
end
