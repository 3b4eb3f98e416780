/- FnPlaceAt: for every code the law returns true. No condition. -/
import Derived.Test.YtfhjmmajhohkjabQ07
namespace Go.Proofs.Ytfhjmmajhohkjab.lPlaceAt
open Go.ChangeShapes Go.WideShapes Go.ChangeAt Go.RowKit Go.Joins
set_option linter.unusedVariables false
set_option maxHeartbeats 1000000
attribute [local go_sem 5000] run_mx run_mn run_eqlR run_neqR
attribute [local go_sem] growUpon_value growUpon_skip growUpon_enter
set_option maxRecDepth 100000 in
theorem walk (A : Option Addr) (n c : Nat) (z : List Int) (w : World) (wz : IsRow .u8 w A n c z) : Calls Try.prog 7 #[.slice A n c] w fun e w' => e = .returned (.bool true) ∧ Below w.heap.size w w' := by
  obtain ⟨hb, hn, hc⟩ := wz.bts
  clear wz
  by_cases hlen : n ≤ 1048576
  · have hl1 : ¬ (1048576 : Int) < n := by omega
    go_enter Try.func7, Try.ntmps7
    go_wp2_with fail
    with_reducible refine (DrawPlaceAt_any A n c _ hb hn hc).mono ?_
    rintro e w1 ⟨⟨p, a, b, x0, y0, rfl⟩, hB⟩
    have HX := Lib.hid (heap_alloc_new w1 (.cells #[.int .i64 p.x, .int .i64 p.y, .int .i64 p.rx, .int .i64 p.ry, .int .i64 p.ww, .int .i64 p.hh, .int .i64 p.qw, .int .i64 p.qh, .int .i64 p.an] 24))
    have HB := Lib.hid (balloc' (o := .cells #[.int .i64 p.x, .int .i64 p.y, .int .i64 p.rx, .int .i64 p.ry, .int .i64 p.ww, .int .i64 p.hh, .int .i64 p.qw, .int .i64 p.qh, .int .i64 p.an] 24) hB)
    clear hB hb hn hc
    cases hv : paB p a b x0 y0
    · skip
      obtain ⟨q, hC, hS⟩ : ∃ q : Plc, (∀ w, Calls Try.prog 25 #[.agg #[.int .i64 p.x, .int .i64 p.y, .int .i64 p.rx, .int .i64 p.ry, .int .i64 p.ww, .int .i64 p.hh, .int .i64 p.qw, .int .i64 p.qh, .int .i64 p.an], .int .i64 a, .int .i64 b, .int .i64 x0, .int .i64 y0] w fun e w' => e = .returned (.tuple #[.agg #[.int .i64 q.x, .int .i64 q.y, .int .i64 q.rx, .int .i64 q.ry, .int .i64 q.ww, .int .i64 q.hh, .int .i64 q.qw, .int .i64 q.qh, .int .i64 q.an], .bool false]) ∧ Below w.heap.size w w') ∧ (∀ w, Calls Try.prog 26 #[.agg #[.int .i64 p.x, .int .i64 p.y, .int .i64 p.rx, .int .i64 p.ry, .int .i64 p.ww, .int .i64 p.hh, .int .i64 p.qw, .int .i64 p.qh, .int .i64 p.an], .int .i64 a, .int .i64 b, .int .i64 x0, .int .i64 y0] w fun e w' => e = .returned (.tuple #[.agg #[.int .i64 q.x, .int .i64 q.y, .int .i64 q.rx, .int .i64 q.ry, .int .i64 q.ww, .int .i64 q.hh, .int .i64 q.qw, .int .i64 q.qh, .int .i64 q.an], .bool false]) ∧ Below w.heap.size w w') := ⟨⟨0, 0, 0, 0, 0, 0, 0, 0, 0⟩, fun w => PlaceAt_no p a b x0 y0 w hv, fun w => sPlaceAt_no p a b x0 y0 w hv⟩
      have C := Lib.hid hC
      have S := Lib.hid hS
      clear hC hS hv
      go_wp2_with fail
      with_reducible refine (C.out _).mono ?_
      rintro e w2 ⟨rfl, hb⟩
      replace HX := Lib.hid ((hb.block _ (Array.getElem?_eq_some_iff.1 HX.out).1).trans HX.out)
      replace HB := Lib.hid (bkeep2 HB.out hb)
      clear hb
      have lt_HX := lt_q HX.out
      go_upto_region 5 with (fail)
      refine wp_genG (fun W => W.heap[w1.heap.size]? = some (.cells #[.int .i64 p.x, .int .i64 p.y, .int .i64 p.rx, .int .i64 p.ry, .int .i64 p.ww, .int .i64 p.hh, .int .i64 p.qw, .int .i64 p.qh, .int .i64 p.an] 24) ∧ W.heap[w2.heap.size]? = some (.cells #[.int .i64 q.x, .int .i64 q.y, .int .i64 q.rx, .int .i64 q.ry, .int .i64 q.ww, .int .i64 q.hh, .int .i64 q.qw, .int .i64 q.qh, .int .i64 q.an] 24) ∧ Below w.heap.size w W) ⟨(Below.heap_alloc _ _ _ lt_HX).trans HX.out, heap_alloc_new _ _, balloc' HB.out⟩ (fun w3 hh => ?_)
      clear HX HB lt_HX
      obtain ⟨h_HX, h_HO, hb⟩ := hh
      have HX := Lib.hid h_HX
      have HO := Lib.hid h_HO
      have HB := Lib.hid hb
      clear h_HX h_HO hb
      obtain ⟨c0, c1, c2, c3, c4, c5, c6, c7, c8⟩ := c9_q HX.out
      go_wp2_with fail
      with_reducible refine (S.out _).mono ?_
      rintro e w4 ⟨rfl, hb⟩
      clear c0 c1 c2 c3 c4 c5 c6 c7 c8
      replace HX := Lib.hid ((hb.block _ (Array.getElem?_eq_some_iff.1 HX.out).1).trans HX.out)
      replace HO := Lib.hid ((hb.block _ (Array.getElem?_eq_some_iff.1 HO.out).1).trans HO.out)
      replace HB := Lib.hid (bkeep2 HB.out hb)
      clear hb
      have lt_HX := lt_q HX.out
      have lt_HO := lt_q HO.out
      go_upto_region 6 with (fail)
      refine wp_genG (fun W => W.heap[w1.heap.size]? = some (.cells #[.int .i64 p.x, .int .i64 p.y, .int .i64 p.rx, .int .i64 p.ry, .int .i64 p.ww, .int .i64 p.hh, .int .i64 p.qw, .int .i64 p.qh, .int .i64 p.an] 24) ∧ W.heap[w2.heap.size]? = some (.cells #[.int .i64 q.x, .int .i64 q.y, .int .i64 q.rx, .int .i64 q.ry, .int .i64 q.ww, .int .i64 q.hh, .int .i64 q.qw, .int .i64 q.qh, .int .i64 q.an] 24) ∧ W.heap[w4.heap.size]? = some (.cells #[.int .i64 q.x, .int .i64 q.y, .int .i64 q.rx, .int .i64 q.ry, .int .i64 q.ww, .int .i64 q.hh, .int .i64 q.qw, .int .i64 q.qh, .int .i64 q.an] 24) ∧ Below w.heap.size w W) ⟨(Below.heap_alloc _ _ _ lt_HX).trans HX.out, (Below.heap_alloc _ _ _ lt_HO).trans HO.out, heap_alloc_new _ _, balloc' HB.out⟩ (fun w5 hh => ?_)
      clear HX HO HB lt_HX lt_HO
      obtain ⟨h_HX, h_HO, h_HW, hb⟩ := hh
      have HX := Lib.hid h_HX
      have HO := Lib.hid h_HO
      have HW := Lib.hid h_HW
      have HB := Lib.hid hb
      clear h_HX h_HO h_HW hb
      obtain ⟨o0, o1, o2, o3, o4, o5, o6, o7, o8⟩ := c9_q HO.out
      obtain ⟨e0, e1, e2, e3, e4, e5, e6, e7, e8⟩ := c9_q HW.out
      go_wp2_with fail
      with_reducible refine (equalPlace_q q _).mono ?_
      rintro e w6 ⟨rfl, hb⟩
      clear o0 o1 o2 o3 o4 o5 o6 o7 o8 e0 e1 e2 e3 e4 e5 e6 e7 e8
      replace HX := Lib.hid ((hb.block _ (Array.getElem?_eq_some_iff.1 HX.out).1).trans HX.out)
      replace HO := Lib.hid ((hb.block _ (Array.getElem?_eq_some_iff.1 HO.out).1).trans HO.out)
      replace HW := Lib.hid ((hb.block _ (Array.getElem?_eq_some_iff.1 HW.out).1).trans HW.out)
      replace HB := Lib.hid (bkeep2 HB.out hb)
      clear hb
      obtain ⟨o0, o1, o2, o3, o4, o5, o6, o7, o8⟩ := c9_q HO.out
      obtain ⟨e0, e1, e2, e3, e4, e5, e6, e7, e8⟩ := c9_q HW.out
      go_wp2_with fail
      with_reducible refine (equalPlace_q q _).mono ?_
      rintro e w7 ⟨rfl, hb⟩
      clear o0 o1 o2 o3 o4 o5 o6 o7 o8 e0 e1 e2 e3 e4 e5 e6 e7 e8
      replace HB := Lib.hid (bkeep2 HB.out hb)
      clear hb
      go_wp2
      go_ret
      exact ⟨rfl, HB.out⟩
    · skip
      obtain ⟨h1, h2, g3, g4, h3⟩ := atM_bd hv
      have hs : xM (atM p a b x0 y0) a = x0 ∧ yM (atM p a b x0 y0) b = y0 ∧ wM (atM p a b x0 y0) a = wM p a ∧ hM (atM p a b x0 y0) b = hM p b := by
        have w1 : wM (atM p a b x0 y0) a = wM p a := rfl
        have w2 : hM (atM p a b x0 y0) b = hM p b := rfl
        refine ⟨?_, ?_, w1, w2⟩
        · simp only [xM, w1]
          show p.x + (x0 - (p.x + thM p.rx a - wM p a * (p.an % 3) / 2)) + thM p.rx a - wM p a * (p.an % 3) / 2 = x0
          omega
        · simp only [yM, w2]
          show p.y + (y0 - (p.y + thM p.ry b - hM p b * (p.an / 3) / 2)) + thM p.ry b - hM p b * (p.an / 3) / 2 = y0
          omega
      obtain ⟨q, hC, hS, hq, hs⟩ : ∃ q : Plc, (∀ w, Calls Try.prog 25 #[.agg #[.int .i64 p.x, .int .i64 p.y, .int .i64 p.rx, .int .i64 p.ry, .int .i64 p.ww, .int .i64 p.hh, .int .i64 p.qw, .int .i64 p.qh, .int .i64 p.an], .int .i64 a, .int .i64 b, .int .i64 x0, .int .i64 y0] w fun e w' => e = .returned (.tuple #[.agg #[.int .i64 q.x, .int .i64 q.y, .int .i64 q.rx, .int .i64 q.ry, .int .i64 q.ww, .int .i64 q.hh, .int .i64 q.qw, .int .i64 q.qh, .int .i64 q.an], .bool true]) ∧ Below w.heap.size w w') ∧ (∀ w, Calls Try.prog 26 #[.agg #[.int .i64 p.x, .int .i64 p.y, .int .i64 p.rx, .int .i64 p.ry, .int .i64 p.ww, .int .i64 p.hh, .int .i64 p.qw, .int .i64 p.qh, .int .i64 p.an], .int .i64 a, .int .i64 b, .int .i64 x0, .int .i64 y0] w fun e w' => e = .returned (.tuple #[.agg #[.int .i64 q.x, .int .i64 q.y, .int .i64 q.rx, .int .i64 q.ry, .int .i64 q.ww, .int .i64 q.hh, .int .i64 q.qw, .int .i64 q.qh, .int .i64 q.an], .bool true]) ∧ Below w.heap.size w w') ∧ plB q = true ∧ (xM q a = x0 ∧ yM q b = y0 ∧ wM q a = wM p a ∧ hM q b = hM p b) := ⟨atM p a b x0 y0, fun w => PlaceAt_yes p a b x0 y0 w hv, fun w => sPlaceAt_yes p a b x0 y0 w hv, h3, hs⟩
      have hv1 : prB p a b = true := by simp only [prB, h1, h2, Bool.and_self]
      have hv2 : prB q a b = true := by simp only [prB, hq, h2, Bool.and_self]
      obtain ⟨X, eX⟩ : ∃ X, xM p a = X := ⟨_, rfl⟩
      obtain ⟨Y, eY⟩ : ∃ Y, yM p b = Y := ⟨_, rfl⟩
      obtain ⟨U, eU⟩ : ∃ U, wM p a = U := ⟨_, rfl⟩
      obtain ⟨V, eV⟩ : ∃ V, hM p b = V := ⟨_, rfl⟩
      have C := Lib.hid hC
      have S := Lib.hid hS
      have CP := Lib.hid (fun w => PlaceRect_c p a b X Y U V w hv1 eX eY eU eV)
      have CQ := Lib.hid (fun w => PlaceRect_c q a b x0 y0 U V w hv2 hs.1 hs.2.1 (hs.2.2.1.trans eU) (hs.2.2.2.trans eV))
      clear hC hS hq hs hv hv1 hv2 eX eY eU eV h1 h2 h3 g3 g4
      go_wp2_with fail
      with_reducible refine (C.out _).mono ?_
      rintro e w2 ⟨rfl, hb⟩
      replace HX := Lib.hid ((hb.block _ (Array.getElem?_eq_some_iff.1 HX.out).1).trans HX.out)
      replace HB := Lib.hid (bkeep2 HB.out hb)
      clear hb
      have lt_HX := lt_q HX.out
      go_upto_region 5 with (fail)
      refine wp_genG (fun W => W.heap[w1.heap.size]? = some (.cells #[.int .i64 p.x, .int .i64 p.y, .int .i64 p.rx, .int .i64 p.ry, .int .i64 p.ww, .int .i64 p.hh, .int .i64 p.qw, .int .i64 p.qh, .int .i64 p.an] 24) ∧ W.heap[w2.heap.size]? = some (.cells #[.int .i64 q.x, .int .i64 q.y, .int .i64 q.rx, .int .i64 q.ry, .int .i64 q.ww, .int .i64 q.hh, .int .i64 q.qw, .int .i64 q.qh, .int .i64 q.an] 24) ∧ Below w.heap.size w W) ⟨(Below.heap_alloc _ _ _ lt_HX).trans HX.out, heap_alloc_new _ _, balloc' HB.out⟩ (fun w3 hh => ?_)
      clear HX HB lt_HX
      obtain ⟨h_HX, h_HO, hb⟩ := hh
      have HX := Lib.hid h_HX
      have HO := Lib.hid h_HO
      have HB := Lib.hid hb
      clear h_HX h_HO hb
      obtain ⟨c0, c1, c2, c3, c4, c5, c6, c7, c8⟩ := c9_q HX.out
      go_wp2_with fail
      with_reducible refine (S.out _).mono ?_
      rintro e w4 ⟨rfl, hb⟩
      clear c0 c1 c2 c3 c4 c5 c6 c7 c8
      replace HX := Lib.hid ((hb.block _ (Array.getElem?_eq_some_iff.1 HX.out).1).trans HX.out)
      replace HO := Lib.hid ((hb.block _ (Array.getElem?_eq_some_iff.1 HO.out).1).trans HO.out)
      replace HB := Lib.hid (bkeep2 HB.out hb)
      clear hb
      have lt_HX := lt_q HX.out
      have lt_HO := lt_q HO.out
      go_upto_region 6 with (fail)
      refine wp_genG (fun W => W.heap[w1.heap.size]? = some (.cells #[.int .i64 p.x, .int .i64 p.y, .int .i64 p.rx, .int .i64 p.ry, .int .i64 p.ww, .int .i64 p.hh, .int .i64 p.qw, .int .i64 p.qh, .int .i64 p.an] 24) ∧ W.heap[w2.heap.size]? = some (.cells #[.int .i64 q.x, .int .i64 q.y, .int .i64 q.rx, .int .i64 q.ry, .int .i64 q.ww, .int .i64 q.hh, .int .i64 q.qw, .int .i64 q.qh, .int .i64 q.an] 24) ∧ W.heap[w4.heap.size]? = some (.cells #[.int .i64 q.x, .int .i64 q.y, .int .i64 q.rx, .int .i64 q.ry, .int .i64 q.ww, .int .i64 q.hh, .int .i64 q.qw, .int .i64 q.qh, .int .i64 q.an] 24) ∧ Below w.heap.size w W) ⟨(Below.heap_alloc _ _ _ lt_HX).trans HX.out, (Below.heap_alloc _ _ _ lt_HO).trans HO.out, heap_alloc_new _ _, balloc' HB.out⟩ (fun w5 hh => ?_)
      clear HX HO HB lt_HX lt_HO
      obtain ⟨h_HX, h_HO, h_HW, hb⟩ := hh
      have HX := Lib.hid h_HX
      have HO := Lib.hid h_HO
      have HW := Lib.hid h_HW
      have HB := Lib.hid hb
      clear h_HX h_HO h_HW hb
      obtain ⟨o0, o1, o2, o3, o4, o5, o6, o7, o8⟩ := c9_q HO.out
      obtain ⟨e0, e1, e2, e3, e4, e5, e6, e7, e8⟩ := c9_q HW.out
      go_wp2_with fail
      with_reducible refine (equalPlace_q q _).mono ?_
      rintro e w6 ⟨rfl, hb⟩
      clear o0 o1 o2 o3 o4 o5 o6 o7 o8 e0 e1 e2 e3 e4 e5 e6 e7 e8
      replace HX := Lib.hid ((hb.block _ (Array.getElem?_eq_some_iff.1 HX.out).1).trans HX.out)
      replace HO := Lib.hid ((hb.block _ (Array.getElem?_eq_some_iff.1 HO.out).1).trans HO.out)
      replace HW := Lib.hid ((hb.block _ (Array.getElem?_eq_some_iff.1 HW.out).1).trans HW.out)
      replace HB := Lib.hid (bkeep2 HB.out hb)
      clear hb
      obtain ⟨c0, c1, c2, c3, c4, c5, c6, c7, c8⟩ := c9_q HX.out
      go_wp2_with fail
      with_reducible refine (CP.out _).mono ?_
      rintro e w7 ⟨rfl, hb⟩
      clear c0 c1 c2 c3 c4 c5 c6 c7 c8
      replace HX := Lib.hid ((hb.block _ (Array.getElem?_eq_some_iff.1 HX.out).1).trans HX.out)
      replace HO := Lib.hid ((hb.block _ (Array.getElem?_eq_some_iff.1 HO.out).1).trans HO.out)
      replace HW := Lib.hid ((hb.block _ (Array.getElem?_eq_some_iff.1 HW.out).1).trans HW.out)
      replace HB := Lib.hid (bkeep2 HB.out hb)
      clear hb
      clear HX HW
      have lt_HO := lt_q HO.out
      go_upto_region 9 with (fail)
      refine wp_genG (fun W => W.heap[w2.heap.size]? = some (.cells #[.int .i64 q.x, .int .i64 q.y, .int .i64 q.rx, .int .i64 q.ry, .int .i64 q.ww, .int .i64 q.hh, .int .i64 q.qw, .int .i64 q.qh, .int .i64 q.an] 24) ∧ W.heap[w7.heap.size]? = some (.cells #[.int .i64 X, .int .i64 Y, .int .i64 U, .int .i64 V] 31) ∧ Below w.heap.size w W) ⟨(Below.heap_alloc _ _ _ lt_HO).trans HO.out, heap_alloc_new _ _, balloc' HB.out⟩ (fun w8 hh => ?_)
      clear HO HB lt_HO
      obtain ⟨h_HO, h_HA, hb⟩ := hh
      have HO := Lib.hid h_HO
      have HA := Lib.hid h_HA
      have HB := Lib.hid hb
      clear h_HO h_HA hb
      obtain ⟨o0, o1, o2, o3, o4, o5, o6, o7, o8⟩ := c9_q HO.out
      go_wp2_with fail
      with_reducible refine (CQ.out _).mono ?_
      rintro e w9 ⟨rfl, hb⟩
      clear o0 o1 o2 o3 o4 o5 o6 o7 o8
      replace HO := Lib.hid ((hb.block _ (Array.getElem?_eq_some_iff.1 HO.out).1).trans HO.out)
      replace HA := Lib.hid ((hb.block _ (Array.getElem?_eq_some_iff.1 HA.out).1).trans HA.out)
      replace HB := Lib.hid (bkeep2 HB.out hb)
      clear hb
      have lt_HO := lt_q HO.out
      have lt_HA := lt_q HA.out
      go_upto_region 10 with (fail)
      refine wp_genG (fun W => W.heap[w2.heap.size]? = some (.cells #[.int .i64 q.x, .int .i64 q.y, .int .i64 q.rx, .int .i64 q.ry, .int .i64 q.ww, .int .i64 q.hh, .int .i64 q.qw, .int .i64 q.qh, .int .i64 q.an] 24) ∧ W.heap[w7.heap.size]? = some (.cells #[.int .i64 X, .int .i64 Y, .int .i64 U, .int .i64 V] 31) ∧ W.heap[w9.heap.size]? = some (.cells #[.int .i64 x0, .int .i64 y0, .int .i64 U, .int .i64 V] 31) ∧ Below w.heap.size w W) ⟨(Below.heap_alloc _ _ _ lt_HO).trans HO.out, (Below.heap_alloc _ _ _ lt_HA).trans HA.out, heap_alloc_new _ _, balloc' HB.out⟩ (fun w10 hh => ?_)
      clear HO HA HB lt_HO lt_HA
      obtain ⟨h_HO, h_HA, h_HD, hb⟩ := hh
      have HO := Lib.hid h_HO
      have HA := Lib.hid h_HA
      have HD := Lib.hid h_HD
      have HB := Lib.hid hb
      clear h_HO h_HA h_HD hb
      have a0 := cl_q HA.out 0
      have a1 := cl_q HA.out 1
      have a2 := cl_q HA.out 2
      have a3 := cl_q HA.out 3
      have d0 := cl_q HD.out 0
      have d1 := cl_q HD.out 1
      have d2 := cl_q HD.out 2
      have d3 := cl_q HD.out 3
      go_wp2
      go_ret
      exact ⟨rfl, HB.out⟩
  · have hl1 : (1048576 : Int) < n := by omega
    go_enter Try.func7, Try.ntmps7
    go_wp2
    go_ret
    exact ⟨rfl, Below.refl _ _⟩
set_option maxRecDepth 100000 in
theorem lifted (os : Os) (started : os.Started) (H : Type) (enc : TypeId × Value → H) :
    ReturnsInHanded {} Try.checked os 7 .any (Rows.fnPlaceAtSpec.pre6 enc Try.prog Try.f7 Rows.fnPlaceAtRow.domain false) (Rows.fnPlaceAtSpec.post enc Try.prog Try.f7 false true false false) := by
  refine returnsInHanded_of_change (C := Try.checked) own started (by kernel_rfl) Try.func7
    (ChangeSpec.witness6 (enc := enc) (C := Try.checked) false ⟨#[], #[.slice none 0 0], []⟩ 8 (by kernel_rfl) (by kernel_rfl) (by kernel_rfl) (by kernel_rfl)) ?_
  intro W base args ds gs before hval0 hW hcnd _
  have hval : ∀ (j : Nat) t v, Try.f7.params[j]? = some t → args[j]? = some v → Value.okWide Try.prog W .any base t v := hval0
  have hW' := hW
  obtain ⟨p, q, hA0, hV, rfl, hfz, hnd⟩ := hW
  have hA : DataW.TrodAll enc Try.prog W 0 (fun _ => true) true Try.f7.params.toList args.toList ds p := hA0
  rw [Try.params7] at hA hval
  obtain ⟨v0, vs0, d0, ds0, p0, q0, hargs, rfl, rfl, h0, r0⟩ := trodAll_cons hA
  obtain ⟨rfl, rfl, rfl⟩ := trodAll_nil r0
  obtain rfl : args = #[v0] := by cases args; simp_all
  obtain ⟨rfl, rfl⟩ := trodVars_none hV
  have k0 := h0
  have lt0 : ∀ x ∈ p0, x.block < W.heap.size := by obtain ⟨m, hm⟩ := k0; exact DataW.trod_lt m _ _ _ hm
  obtain ⟨a0, len0, cap0, rfl⟩ := okWide_slice Try.underlying22 (hval 0 22 v0 rfl rfl)
  obtain ⟨z0, wz0⟩ : ∃ zs, IsRow .u8 W a0 len0 cap0 zs := by
    obtain ⟨fuel, hf⟩ := h0
    rcases open_ints Try.underlying22 Try.underlying5 (by kernel_rfl) hf with ⟨hcs, _⟩ | ⟨x, l, c, zs, hcs, _, hl, hm, hz, _, hcell, hwz⟩
    · simp [Value.cells] at hcs
      obtain ⟨rfl, rfl, rfl⟩ := hcs
      exact ⟨[], .inl ⟨rfl, rfl, rfl, rfl⟩⟩
    · simp [Value.cells] at hcs
      obtain ⟨rfl, rfl, rfl⟩ := hcs
      exact ⟨zs, .inr ⟨_, rfl, hl, hm, by simpa using hz, hcell, hwz⟩⟩
  clear hA0 hval0
  refine (walk a0 len0 cap0 z0 W wz0).mono fun e W' ⟨he, bel⟩ => ?_
  subst he
  exact ⟨_, rfl, _, _, _, [], _, [], hW', trodAll_mk1 (shut_bool Try.underlying4 _), (trodAll_cons_mk (Below.trod laidOut (by kernel_rfl) (of_decide_eq_true (by kernel_rfl)) k0 bel lt0) trodAll_mk0), rfl, bel.frame _, fun h => by cases h⟩
theorem over : Rows.fnPlaceAtRow.holds Try.pinned (OpenSpec.ofChange Rows.fnPlaceAtSpec) :=
  OpenClaim.holds_of_wide 7 Try.f7 rfl rfl rfl rfl rfl rfl rfl ⟨rfl, rfl, rfl, rfl, rfl⟩ rfl rfl rfl rfl rfl (by kernel_rfl) Try.func7 (by kernel_rfl)
    (of_decide_eq_true (by kernel_rfl)) (by unfold Func.isWrapper; first | (rw [if_pos (by decide +kernel)]; kernel_rfl) | (rw [if_neg (by decide +kernel)]; exact ⟨rfl, rfl⟩))
    (fun os started H enc _ => lifted os started H enc)
theorem proved : Rows.FnPlaceAtSaid := over
end Go.Proofs.Ytfhjmmajhohkjab.lPlaceAt
