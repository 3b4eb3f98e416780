/- FnFixPlace: for every code the law returns true. No condition. -/
import Derived.Test.YtfhjmmajhohkjabQ07
namespace Go.Proofs.Ytfhjmmajhohkjab.lFixPlace
open Go.ChangeShapes Go.WideShapes Go.ChangeAt Go.RowKit Go.Joins
set_option linter.unusedVariables false
set_option maxHeartbeats 1000000
attribute [local go_sem 5000] run_mx run_mn run_eqlR run_neqR
attribute [local go_sem] growUpon_value growUpon_skip growUpon_enter
set_option maxRecDepth 100000 in
theorem walk (A : Option Addr) (n c : Nat) (z : List Int) (w : World) (wz : IsRow .u8 w A n c z) : Calls Try.prog 8 #[.slice A n c] w fun e w' => e = .returned (.bool true) ∧ Below w.heap.size w w' := by
  obtain ⟨hb, hn, hc⟩ := wz.bts
  clear wz
  by_cases hlen : n ≤ 1048576
  · have hl1 : ¬ (1048576 : Int) < n := by omega
    go_enter Try.func8, Try.ntmps8
    go_wp2_with fail
    with_reducible refine (DrawFixPlace_any A n c _ hb hn hc).mono ?_
    rintro e w1 ⟨⟨p, a, b, rfl, ⟨ha1, ha2⟩, ⟨hb1, hb2⟩⟩, hB⟩
    have HX := Lib.hid (heap_alloc_new w1 (.cells #[.int .i64 p.x, .int .i64 p.y, .int .i64 p.rx, .int .i64 p.ry, .int .i64 p.ww, .int .i64 p.hh, .int .i64 p.qw, .int .i64 p.qh, .int .i64 p.an] 24))
    have HB := Lib.hid (balloc' (o := .cells #[.int .i64 p.x, .int .i64 p.y, .int .i64 p.rx, .int .i64 p.ry, .int .i64 p.ww, .int .i64 p.hh, .int .i64 p.qw, .int .i64 p.qh, .int .i64 p.an] 24) hB)
    clear hB hb hn hc
    cases hv : fxB p a b
    · skip
      obtain ⟨q, hC, hS⟩ : ∃ q : Plc, (∀ w, Calls Try.prog 29 #[.agg #[.int .i64 p.x, .int .i64 p.y, .int .i64 p.rx, .int .i64 p.ry, .int .i64 p.ww, .int .i64 p.hh, .int .i64 p.qw, .int .i64 p.qh, .int .i64 p.an], .int .i64 a, .int .i64 b] w fun e w' => e = .returned (.tuple #[.agg #[.int .i64 q.x, .int .i64 q.y, .int .i64 q.rx, .int .i64 q.ry, .int .i64 q.ww, .int .i64 q.hh, .int .i64 q.qw, .int .i64 q.qh, .int .i64 q.an], .bool false]) ∧ Below w.heap.size w w') ∧ (∀ w, Calls Try.prog 30 #[.agg #[.int .i64 p.x, .int .i64 p.y, .int .i64 p.rx, .int .i64 p.ry, .int .i64 p.ww, .int .i64 p.hh, .int .i64 p.qw, .int .i64 p.qh, .int .i64 p.an], .int .i64 a, .int .i64 b] w fun e w' => e = .returned (.tuple #[.agg #[.int .i64 q.x, .int .i64 q.y, .int .i64 q.rx, .int .i64 q.ry, .int .i64 q.ww, .int .i64 q.hh, .int .i64 q.qw, .int .i64 q.qh, .int .i64 q.an], .bool false]) ∧ Below w.heap.size w w') := ⟨⟨0, 0, 0, 0, 0, 0, 0, 0, 0⟩, fun w => FixPlace_no p a b w hv, fun w => sFixPlace_no p a b w hv⟩
      have C := Lib.hid hC
      have S := Lib.hid hS
      clear hC hS hv
      go_wp2_with fail
      with_reducible refine (C.out _).mono ?_
      rintro e w2 ⟨rfl, hb⟩
      replace HX := Lib.hid ((hb.block _ (Array.getElem?_eq_some_iff.1 HX.out).1).trans HX.out)
      replace HB := Lib.hid (bkeep2 HB.out hb)
      clear hb
      have lt_HX := lt_q HX.out
      go_upto_region 5 with (fail)
      refine wp_genG (fun W => W.heap[w1.heap.size]? = some (.cells #[.int .i64 p.x, .int .i64 p.y, .int .i64 p.rx, .int .i64 p.ry, .int .i64 p.ww, .int .i64 p.hh, .int .i64 p.qw, .int .i64 p.qh, .int .i64 p.an] 24) ∧ W.heap[w2.heap.size]? = some (.cells #[.int .i64 q.x, .int .i64 q.y, .int .i64 q.rx, .int .i64 q.ry, .int .i64 q.ww, .int .i64 q.hh, .int .i64 q.qw, .int .i64 q.qh, .int .i64 q.an] 24) ∧ Below w.heap.size w W) ⟨(Below.heap_alloc _ _ _ lt_HX).trans HX.out, heap_alloc_new _ _, balloc' HB.out⟩ (fun w3 hh => ?_)
      clear HX HB lt_HX
      obtain ⟨h_HX, h_HO, hb⟩ := hh
      have HX := Lib.hid h_HX
      have HO := Lib.hid h_HO
      have HB := Lib.hid hb
      clear h_HX h_HO hb
      obtain ⟨c0, c1, c2, c3, c4, c5, c6, c7, c8⟩ := c9_q HX.out
      go_wp2_with fail
      with_reducible refine (S.out _).mono ?_
      rintro e w4 ⟨rfl, hb⟩
      clear c0 c1 c2 c3 c4 c5 c6 c7 c8
      replace HX := Lib.hid ((hb.block _ (Array.getElem?_eq_some_iff.1 HX.out).1).trans HX.out)
      replace HO := Lib.hid ((hb.block _ (Array.getElem?_eq_some_iff.1 HO.out).1).trans HO.out)
      replace HB := Lib.hid (bkeep2 HB.out hb)
      clear hb
      have lt_HX := lt_q HX.out
      have lt_HO := lt_q HO.out
      go_upto_region 6 with (fail)
      refine wp_genG (fun W => W.heap[w1.heap.size]? = some (.cells #[.int .i64 p.x, .int .i64 p.y, .int .i64 p.rx, .int .i64 p.ry, .int .i64 p.ww, .int .i64 p.hh, .int .i64 p.qw, .int .i64 p.qh, .int .i64 p.an] 24) ∧ W.heap[w2.heap.size]? = some (.cells #[.int .i64 q.x, .int .i64 q.y, .int .i64 q.rx, .int .i64 q.ry, .int .i64 q.ww, .int .i64 q.hh, .int .i64 q.qw, .int .i64 q.qh, .int .i64 q.an] 24) ∧ W.heap[w4.heap.size]? = some (.cells #[.int .i64 q.x, .int .i64 q.y, .int .i64 q.rx, .int .i64 q.ry, .int .i64 q.ww, .int .i64 q.hh, .int .i64 q.qw, .int .i64 q.qh, .int .i64 q.an] 24) ∧ Below w.heap.size w W) ⟨(Below.heap_alloc _ _ _ lt_HX).trans HX.out, (Below.heap_alloc _ _ _ lt_HO).trans HO.out, heap_alloc_new _ _, balloc' HB.out⟩ (fun w5 hh => ?_)
      clear HX HO HB lt_HX lt_HO
      obtain ⟨h_HX, h_HO, h_HW, hb⟩ := hh
      have HX := Lib.hid h_HX
      have HO := Lib.hid h_HO
      have HW := Lib.hid h_HW
      have HB := Lib.hid hb
      clear h_HX h_HO h_HW hb
      obtain ⟨o0, o1, o2, o3, o4, o5, o6, o7, o8⟩ := c9_q HO.out
      obtain ⟨e0, e1, e2, e3, e4, e5, e6, e7, e8⟩ := c9_q HW.out
      go_wp2_with fail
      with_reducible refine (equalPlace_q q _).mono ?_
      rintro e w6 ⟨rfl, hb⟩
      clear o0 o1 o2 o3 o4 o5 o6 o7 o8 e0 e1 e2 e3 e4 e5 e6 e7 e8
      replace HX := Lib.hid ((hb.block _ (Array.getElem?_eq_some_iff.1 HX.out).1).trans HX.out)
      replace HO := Lib.hid ((hb.block _ (Array.getElem?_eq_some_iff.1 HO.out).1).trans HO.out)
      replace HW := Lib.hid ((hb.block _ (Array.getElem?_eq_some_iff.1 HW.out).1).trans HW.out)
      replace HB := Lib.hid (bkeep2 HB.out hb)
      clear hb
      obtain ⟨o0, o1, o2, o3, o4, o5, o6, o7, o8⟩ := c9_q HO.out
      obtain ⟨e0, e1, e2, e3, e4, e5, e6, e7, e8⟩ := c9_q HW.out
      go_wp2_with fail
      with_reducible refine (equalPlace_q q _).mono ?_
      rintro e w7 ⟨rfl, hb⟩
      clear o0 o1 o2 o3 o4 o5 o6 o7 o8 e0 e1 e2 e3 e4 e5 e6 e7 e8
      replace HB := Lib.hid (bkeep2 HB.out hb)
      clear hb
      go_wp2
      go_ret
      exact ⟨rfl, HB.out⟩
    · skip
      obtain ⟨h1, h2, h3⟩ := fxB_yes hv
      have hs := fun A B => fix_same h1 h2 A B
      obtain ⟨q, hC, hS, hq, hs, z1, z2, z3, z4⟩ : ∃ q : Plc, (∀ w, Calls Try.prog 29 #[.agg #[.int .i64 p.x, .int .i64 p.y, .int .i64 p.rx, .int .i64 p.ry, .int .i64 p.ww, .int .i64 p.hh, .int .i64 p.qw, .int .i64 p.qh, .int .i64 p.an], .int .i64 a, .int .i64 b] w fun e w' => e = .returned (.tuple #[.agg #[.int .i64 q.x, .int .i64 q.y, .int .i64 q.rx, .int .i64 q.ry, .int .i64 q.ww, .int .i64 q.hh, .int .i64 q.qw, .int .i64 q.qh, .int .i64 q.an], .bool true]) ∧ Below w.heap.size w w') ∧ (∀ w, Calls Try.prog 30 #[.agg #[.int .i64 p.x, .int .i64 p.y, .int .i64 p.rx, .int .i64 p.ry, .int .i64 p.ww, .int .i64 p.hh, .int .i64 p.qw, .int .i64 p.qh, .int .i64 p.an], .int .i64 a, .int .i64 b] w fun e w' => e = .returned (.tuple #[.agg #[.int .i64 q.x, .int .i64 q.y, .int .i64 q.rx, .int .i64 q.ry, .int .i64 q.ww, .int .i64 q.hh, .int .i64 q.qw, .int .i64 q.qh, .int .i64 q.an], .bool true]) ∧ Below w.heap.size w w') ∧ plB q = true ∧ (∀ A B : Int, xM q A = xM p a ∧ yM q B = yM p b ∧ wM q A = wM p a ∧ hM q B = hM p b) ∧ q.rx = 0 ∧ q.ry = 0 ∧ q.qw = 0 ∧ q.qh = 0 := ⟨fixM p a b, fun w => FixPlace_yes p a b w hv, fun w => sFixPlace_yes p a b w hv, h3, hs, rfl, rfl, rfl, rfl⟩
      have hv1 : prB p a b = true := by simp only [prB, h1, h2, Bool.and_self]
      have hv2 : prB q a b = true := by simp only [prB, hq, h2, Bool.and_self]
      have hv3 : prB q 77 99 = true := by simp only [prB, hq, Bool.true_and]; rfl
      obtain ⟨X, eX⟩ : ∃ X, xM p a = X := ⟨_, rfl⟩
      obtain ⟨Y, eY⟩ : ∃ Y, yM p b = Y := ⟨_, rfl⟩
      obtain ⟨U, eU⟩ : ∃ U, wM p a = U := ⟨_, rfl⟩
      obtain ⟨V, eV⟩ : ∃ V, hM p b = V := ⟨_, rfl⟩
      have C := Lib.hid hC
      have S := Lib.hid hS
      have CP := Lib.hid (fun w => PlaceRect_c p a b X Y U V w hv1 eX eY eU eV)
      have CQ := Lib.hid (fun w => PlaceRect_c q a b X Y U V w hv2 ((hs a b).1.trans eX) ((hs a b).2.1.trans eY) ((hs a b).2.2.1.trans eU) ((hs a b).2.2.2.trans eV))
      have CR := Lib.hid (fun w => PlaceRect_c q 77 99 X Y U V w hv3 ((hs 77 99).1.trans eX) ((hs 77 99).2.1.trans eY) ((hs 77 99).2.2.1.trans eU) ((hs 77 99).2.2.2.trans eV))
      have Z := Lib.hid (And.intro z1 (And.intro z2 (And.intro z3 z4)))
      clear hC hS hq hs hv hv1 hv2 hv3 eX eY eU eV h1 h2 h3 z1 z2 z3 z4
      go_wp2_with fail
      with_reducible refine (C.out _).mono ?_
      rintro e w2 ⟨rfl, hb⟩
      replace HX := Lib.hid ((hb.block _ (Array.getElem?_eq_some_iff.1 HX.out).1).trans HX.out)
      replace HB := Lib.hid (bkeep2 HB.out hb)
      clear hb
      have lt_HX := lt_q HX.out
      go_upto_region 5 with (fail)
      refine wp_genG (fun W => W.heap[w1.heap.size]? = some (.cells #[.int .i64 p.x, .int .i64 p.y, .int .i64 p.rx, .int .i64 p.ry, .int .i64 p.ww, .int .i64 p.hh, .int .i64 p.qw, .int .i64 p.qh, .int .i64 p.an] 24) ∧ W.heap[w2.heap.size]? = some (.cells #[.int .i64 q.x, .int .i64 q.y, .int .i64 q.rx, .int .i64 q.ry, .int .i64 q.ww, .int .i64 q.hh, .int .i64 q.qw, .int .i64 q.qh, .int .i64 q.an] 24) ∧ Below w.heap.size w W) ⟨(Below.heap_alloc _ _ _ lt_HX).trans HX.out, heap_alloc_new _ _, balloc' HB.out⟩ (fun w3 hh => ?_)
      clear HX HB lt_HX
      obtain ⟨h_HX, h_HO, hb⟩ := hh
      have HX := Lib.hid h_HX
      have HO := Lib.hid h_HO
      have HB := Lib.hid hb
      clear h_HX h_HO hb
      obtain ⟨c0, c1, c2, c3, c4, c5, c6, c7, c8⟩ := c9_q HX.out
      go_wp2_with fail
      with_reducible refine (S.out _).mono ?_
      rintro e w4 ⟨rfl, hb⟩
      clear c0 c1 c2 c3 c4 c5 c6 c7 c8
      replace HX := Lib.hid ((hb.block _ (Array.getElem?_eq_some_iff.1 HX.out).1).trans HX.out)
      replace HO := Lib.hid ((hb.block _ (Array.getElem?_eq_some_iff.1 HO.out).1).trans HO.out)
      replace HB := Lib.hid (bkeep2 HB.out hb)
      clear hb
      have lt_HX := lt_q HX.out
      have lt_HO := lt_q HO.out
      go_upto_region 6 with (fail)
      refine wp_genG (fun W => W.heap[w1.heap.size]? = some (.cells #[.int .i64 p.x, .int .i64 p.y, .int .i64 p.rx, .int .i64 p.ry, .int .i64 p.ww, .int .i64 p.hh, .int .i64 p.qw, .int .i64 p.qh, .int .i64 p.an] 24) ∧ W.heap[w2.heap.size]? = some (.cells #[.int .i64 q.x, .int .i64 q.y, .int .i64 q.rx, .int .i64 q.ry, .int .i64 q.ww, .int .i64 q.hh, .int .i64 q.qw, .int .i64 q.qh, .int .i64 q.an] 24) ∧ W.heap[w4.heap.size]? = some (.cells #[.int .i64 q.x, .int .i64 q.y, .int .i64 q.rx, .int .i64 q.ry, .int .i64 q.ww, .int .i64 q.hh, .int .i64 q.qw, .int .i64 q.qh, .int .i64 q.an] 24) ∧ Below w.heap.size w W) ⟨(Below.heap_alloc _ _ _ lt_HX).trans HX.out, (Below.heap_alloc _ _ _ lt_HO).trans HO.out, heap_alloc_new _ _, balloc' HB.out⟩ (fun w5 hh => ?_)
      clear HX HO HB lt_HX lt_HO
      obtain ⟨h_HX, h_HO, h_HW, hb⟩ := hh
      have HX := Lib.hid h_HX
      have HO := Lib.hid h_HO
      have HW := Lib.hid h_HW
      have HB := Lib.hid hb
      clear h_HX h_HO h_HW hb
      obtain ⟨o0, o1, o2, o3, o4, o5, o6, o7, o8⟩ := c9_q HO.out
      obtain ⟨e0, e1, e2, e3, e4, e5, e6, e7, e8⟩ := c9_q HW.out
      go_wp2_with fail
      with_reducible refine (equalPlace_q q _).mono ?_
      rintro e w6 ⟨rfl, hb⟩
      clear o0 o1 o2 o3 o4 o5 o6 o7 o8 e0 e1 e2 e3 e4 e5 e6 e7 e8
      replace HX := Lib.hid ((hb.block _ (Array.getElem?_eq_some_iff.1 HX.out).1).trans HX.out)
      replace HO := Lib.hid ((hb.block _ (Array.getElem?_eq_some_iff.1 HO.out).1).trans HO.out)
      replace HW := Lib.hid ((hb.block _ (Array.getElem?_eq_some_iff.1 HW.out).1).trans HW.out)
      replace HB := Lib.hid (bkeep2 HB.out hb)
      clear hb
      obtain ⟨c0, c1, c2, c3, c4, c5, c6, c7, c8⟩ := c9_q HX.out
      go_wp2_with fail
      with_reducible refine (CP.out _).mono ?_
      rintro e w7 ⟨rfl, hb⟩
      clear c0 c1 c2 c3 c4 c5 c6 c7 c8
      replace HX := Lib.hid ((hb.block _ (Array.getElem?_eq_some_iff.1 HX.out).1).trans HX.out)
      replace HO := Lib.hid ((hb.block _ (Array.getElem?_eq_some_iff.1 HO.out).1).trans HO.out)
      replace HW := Lib.hid ((hb.block _ (Array.getElem?_eq_some_iff.1 HW.out).1).trans HW.out)
      replace HB := Lib.hid (bkeep2 HB.out hb)
      clear hb
      clear HX HW
      have lt_HO := lt_q HO.out
      go_upto_region 9 with (fail)
      refine wp_genG (fun W => W.heap[w2.heap.size]? = some (.cells #[.int .i64 q.x, .int .i64 q.y, .int .i64 q.rx, .int .i64 q.ry, .int .i64 q.ww, .int .i64 q.hh, .int .i64 q.qw, .int .i64 q.qh, .int .i64 q.an] 24) ∧ W.heap[w7.heap.size]? = some (.cells #[.int .i64 X, .int .i64 Y, .int .i64 U, .int .i64 V] 31) ∧ Below w.heap.size w W) ⟨(Below.heap_alloc _ _ _ lt_HO).trans HO.out, heap_alloc_new _ _, balloc' HB.out⟩ (fun w8 hh => ?_)
      clear HO HB lt_HO
      obtain ⟨h_HO, h_HA, hb⟩ := hh
      have HO := Lib.hid h_HO
      have HA := Lib.hid h_HA
      have HB := Lib.hid hb
      clear h_HO h_HA hb
      obtain ⟨o0, o1, o2, o3, o4, o5, o6, o7, o8⟩ := c9_q HO.out
      go_wp2_with fail
      with_reducible refine (CQ.out _).mono ?_
      rintro e w9 ⟨rfl, hb⟩
      clear o0 o1 o2 o3 o4 o5 o6 o7 o8
      replace HO := Lib.hid ((hb.block _ (Array.getElem?_eq_some_iff.1 HO.out).1).trans HO.out)
      replace HA := Lib.hid ((hb.block _ (Array.getElem?_eq_some_iff.1 HA.out).1).trans HA.out)
      replace HB := Lib.hid (bkeep2 HB.out hb)
      clear hb
      have lt_HO := lt_q HO.out
      have lt_HA := lt_q HA.out
      go_upto_region 10 with (fail)
      refine wp_genG (fun W => W.heap[w2.heap.size]? = some (.cells #[.int .i64 q.x, .int .i64 q.y, .int .i64 q.rx, .int .i64 q.ry, .int .i64 q.ww, .int .i64 q.hh, .int .i64 q.qw, .int .i64 q.qh, .int .i64 q.an] 24) ∧ W.heap[w7.heap.size]? = some (.cells #[.int .i64 X, .int .i64 Y, .int .i64 U, .int .i64 V] 31) ∧ W.heap[w9.heap.size]? = some (.cells #[.int .i64 X, .int .i64 Y, .int .i64 U, .int .i64 V] 31) ∧ Below w.heap.size w W) ⟨(Below.heap_alloc _ _ _ lt_HO).trans HO.out, (Below.heap_alloc _ _ _ lt_HA).trans HA.out, heap_alloc_new _ _, balloc' HB.out⟩ (fun w10 hh => ?_)
      clear HO HA HB lt_HO lt_HA
      obtain ⟨h_HO, h_HA, h_HD, hb⟩ := hh
      have HO := Lib.hid h_HO
      have HA := Lib.hid h_HA
      have HD := Lib.hid h_HD
      have HB := Lib.hid hb
      clear h_HO h_HA h_HD hb
      obtain ⟨o0, o1, o2, o3, o4, o5, o6, o7, o8⟩ := c9_q HO.out
      go_wp2_with fail
      with_reducible refine (CR.out _).mono ?_
      rintro e w11 ⟨rfl, hb⟩
      clear o0 o1 o2 o3 o4 o5 o6 o7 o8
      replace HO := Lib.hid ((hb.block _ (Array.getElem?_eq_some_iff.1 HO.out).1).trans HO.out)
      replace HA := Lib.hid ((hb.block _ (Array.getElem?_eq_some_iff.1 HA.out).1).trans HA.out)
      replace HD := Lib.hid ((hb.block _ (Array.getElem?_eq_some_iff.1 HD.out).1).trans HD.out)
      replace HB := Lib.hid (bkeep2 HB.out hb)
      clear hb
      have lt_HO := lt_q HO.out
      have lt_HA := lt_q HA.out
      have lt_HD := lt_q HD.out
      go_upto_region 11 with (fail)
      refine wp_genG (fun W => W.heap[w2.heap.size]? = some (.cells #[.int .i64 q.x, .int .i64 q.y, .int .i64 q.rx, .int .i64 q.ry, .int .i64 q.ww, .int .i64 q.hh, .int .i64 q.qw, .int .i64 q.qh, .int .i64 q.an] 24) ∧ W.heap[w7.heap.size]? = some (.cells #[.int .i64 X, .int .i64 Y, .int .i64 U, .int .i64 V] 31) ∧ W.heap[w9.heap.size]? = some (.cells #[.int .i64 X, .int .i64 Y, .int .i64 U, .int .i64 V] 31) ∧ W.heap[w11.heap.size]? = some (.cells #[.int .i64 X, .int .i64 Y, .int .i64 U, .int .i64 V] 31) ∧ Below w.heap.size w W) ⟨(Below.heap_alloc _ _ _ lt_HO).trans HO.out, (Below.heap_alloc _ _ _ lt_HA).trans HA.out, (Below.heap_alloc _ _ _ lt_HD).trans HD.out, heap_alloc_new _ _, balloc' HB.out⟩ (fun w12 hh => ?_)
      clear HO HA HD HB lt_HO lt_HA lt_HD
      obtain ⟨h_HO, h_HA, h_HD, h_HE, hb⟩ := hh
      have HO := Lib.hid h_HO
      have HA := Lib.hid h_HA
      have HD := Lib.hid h_HD
      have HE := Lib.hid h_HE
      have HB := Lib.hid hb
      clear h_HO h_HA h_HD h_HE hb
      obtain ⟨o0, o1, o2, o3, o4, o5, o6, o7, o8⟩ := c9_q HO.out
      obtain ⟨z1, z2, z3, z4⟩ := Z.out
      rw [z1] at o2
      rw [z2] at o3
      rw [z3] at o6
      rw [z4] at o7
      have a0 := cl_q HA.out 0
      have a1 := cl_q HA.out 1
      have a2 := cl_q HA.out 2
      have a3 := cl_q HA.out 3
      have d0 := cl_q HD.out 0
      have d1 := cl_q HD.out 1
      have d2 := cl_q HD.out 2
      have d3 := cl_q HD.out 3
      have e0 := cl_q HE.out 0
      have e1 := cl_q HE.out 1
      have e2 := cl_q HE.out 2
      have e3 := cl_q HE.out 3
      have es : eqR X Y U V X Y U V = true := eqR_self
      go_wp2
      go_ret
      exact ⟨rfl, HB.out⟩
  · have hl1 : (1048576 : Int) < n := by omega
    go_enter Try.func8, Try.ntmps8
    go_wp2
    go_ret
    exact ⟨rfl, Below.refl _ _⟩
set_option maxRecDepth 100000 in
theorem lifted (os : Os) (started : os.Started) (H : Type) (enc : TypeId × Value → H) :
    ReturnsInHanded {} Try.checked os 8 .any (Rows.fnFixPlaceSpec.pre6 enc Try.prog Try.f8 Rows.fnFixPlaceRow.domain false) (Rows.fnFixPlaceSpec.post enc Try.prog Try.f8 false true false false) := by
  refine returnsInHanded_of_change (C := Try.checked) own started (by kernel_rfl) Try.func8
    (ChangeSpec.witness6 (enc := enc) (C := Try.checked) false ⟨#[], #[.slice none 0 0], []⟩ 8 (by kernel_rfl) (by kernel_rfl) (by kernel_rfl) (by kernel_rfl)) ?_
  intro W base args ds gs before hval0 hW hcnd _
  have hval : ∀ (j : Nat) t v, Try.f8.params[j]? = some t → args[j]? = some v → Value.okWide Try.prog W .any base t v := hval0
  have hW' := hW
  obtain ⟨p, q, hA0, hV, rfl, hfz, hnd⟩ := hW
  have hA : DataW.TrodAll enc Try.prog W 0 (fun _ => true) true Try.f8.params.toList args.toList ds p := hA0
  rw [Try.params8] at hA hval
  obtain ⟨v0, vs0, d0, ds0, p0, q0, hargs, rfl, rfl, h0, r0⟩ := trodAll_cons hA
  obtain ⟨rfl, rfl, rfl⟩ := trodAll_nil r0
  obtain rfl : args = #[v0] := by cases args; simp_all
  obtain ⟨rfl, rfl⟩ := trodVars_none hV
  have k0 := h0
  have lt0 : ∀ x ∈ p0, x.block < W.heap.size := by obtain ⟨m, hm⟩ := k0; exact DataW.trod_lt m _ _ _ hm
  obtain ⟨a0, len0, cap0, rfl⟩ := okWide_slice Try.underlying22 (hval 0 22 v0 rfl rfl)
  obtain ⟨z0, wz0⟩ : ∃ zs, IsRow .u8 W a0 len0 cap0 zs := by
    obtain ⟨fuel, hf⟩ := h0
    rcases open_ints Try.underlying22 Try.underlying5 (by kernel_rfl) hf with ⟨hcs, _⟩ | ⟨x, l, c, zs, hcs, _, hl, hm, hz, _, hcell, hwz⟩
    · simp [Value.cells] at hcs
      obtain ⟨rfl, rfl, rfl⟩ := hcs
      exact ⟨[], .inl ⟨rfl, rfl, rfl, rfl⟩⟩
    · simp [Value.cells] at hcs
      obtain ⟨rfl, rfl, rfl⟩ := hcs
      exact ⟨zs, .inr ⟨_, rfl, hl, hm, by simpa using hz, hcell, hwz⟩⟩
  clear hA0 hval0
  refine (walk a0 len0 cap0 z0 W wz0).mono fun e W' ⟨he, bel⟩ => ?_
  subst he
  exact ⟨_, rfl, _, _, _, [], _, [], hW', trodAll_mk1 (shut_bool Try.underlying4 _), (trodAll_cons_mk (Below.trod laidOut (by kernel_rfl) (of_decide_eq_true (by kernel_rfl)) k0 bel lt0) trodAll_mk0), rfl, bel.frame _, fun h => by cases h⟩
theorem over : Rows.fnFixPlaceRow.holds Try.pinned (OpenSpec.ofChange Rows.fnFixPlaceSpec) :=
  OpenClaim.holds_of_wide 8 Try.f8 rfl rfl rfl rfl rfl rfl rfl ⟨rfl, rfl, rfl, rfl, rfl⟩ rfl rfl rfl rfl rfl (by kernel_rfl) Try.func8 (by kernel_rfl)
    (of_decide_eq_true (by kernel_rfl)) (by unfold Func.isWrapper; first | (rw [if_pos (by decide +kernel)]; kernel_rfl) | (rw [if_neg (by decide +kernel)]; exact ⟨rfl, rfl⟩))
    (fun os started H enc _ => lifted os started H enc)
theorem proved : Rows.FnFixPlaceSaid := over
end Go.Proofs.Ytfhjmmajhohkjab.lFixPlace
