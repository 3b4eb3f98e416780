/- FnResizePanes: for every code the law returns true. No condition. -/
import Derived.Test.YtjdjahckdgbkbaeDoorQ10
namespace Go.Proofs.YtjdjahckdgbkbaeDoor.lResizePanes
open Go.ChangeShapes Go.WideShapes Go.ChangeAt Go.RowKit Go.Joins
set_option linter.unusedVariables false
set_option maxHeartbeats 2000000
attribute [local go_sem 5000] run_mx run_mn
attribute [local go_sem] growUpon_value growUpon_skip growUpon_enter
set_option linter.unusedSimpArgs false
attribute [local go_sem] givesUpon_value givesUpon_skip givesUpon_enter
theorem prOf {w : World} {B1 B2 : Option Addr} (e1 e2 : Nat) {R Q : List Int} (h1 : NV w B1 R) (h2 : NV w B2 Q) : PR w (.agg #[.slice B1 R.length e1, .slice B2 Q.length e2]) R Q := ⟨_, _, rfl, nrOf e1 h1, nrOf e2 h2⟩
/-- what both answer -/
structure Both (A1 A2 : Option Addr) (c1 c2 : Nat) (S M : List Int) (y : Int) (a0 : Addr) (R Q : List Int) (t : Bool) : Prop where
  impl : ∀ w, NV w A1 S → NV w A2 M → w.cell? ⟨0, 0, none⟩ = some (.iface 106 (.pointer (some a0))) → Calls Tryd.prog 13 #[.agg #[.slice A1 S.length c1, .slice A2 M.length c2], .int .i64 y] w fun e w' => (∃ B1 e1 B2 e2, e = .returned (.tuple #[.agg #[.slice B1 R.length e1, .slice B2 Q.length e2], .bool t]) ∧ NV w' B1 R ∧ NV w' B2 Q) ∧ Below w.heap.size w w'
  spec : ∀ w, NV w A1 S → NV w A2 M → Calls Tryd.prog 14 #[.agg #[.slice A1 S.length c1, .slice A2 M.length c2], .int .i64 y] w fun e w' => (∃ B1 e1 B2 e2, e = .returned (.tuple #[.agg #[.slice B1 R.length e1, .slice B2 Q.length e2], .bool t]) ∧ NV w' B1 R ∧ NV w' B2 Q) ∧ Below w.heap.size w w'
theorem both_no (A1 A2 : Option Addr) (c1 c2 : Nat) (S M : List Int) (y : Int) (a0 : Addr) (hm : M.length ≤ 1048576) (hL : S.length ≤ 1048576) (hv : ¬ pnP S M ∨ (pnP S M ∧ rng y 0 400 = false)) : Both A1 A2 c1 c2 S M y a0 [] [] false :=
  ⟨fun w h h' _ => (ResizePanes_no A1 A2 c1 c2 S M y w h h' hm hL hv).mono fun e w' ⟨e1, hb⟩ => ⟨⟨none, 0, none, 0, e1, NV.nil _ _, NV.nil _ _⟩, hb⟩,
   fun w h h' => (sResizePanes_no A1 A2 c1 c2 S M y w h h' hm hL hv).mono fun e w' ⟨e1, hb⟩ => ⟨⟨none, 0, none, 0, e1, NV.nil _ _, NV.nil _ _⟩, hb⟩⟩
theorem both_full (A1 A2 : Option Addr) (c1 c2 : Nat) (S M : List Int) (y : Int) (a0 : Addr) (hm : M.length ≤ 1048576) (hL : S.length ≤ 1048576) (hv : pnP S M) (hy : rng y 0 400 = true) (ht : resB S M y = false) : Both A1 A2 c1 c2 S M y a0 [] [] false :=
  ⟨fun w h h' h0 => (ResizePanes_full A1 A2 c1 c2 S M y w h h' hm hL hv hy ht a0 h0).mono fun e w' ⟨e1, hb⟩ => ⟨⟨none, 0, none, 0, e1, NV.nil _ _, NV.nil _ _⟩, hb⟩,
   fun w h h' => (sResizePanes_full A1 A2 c1 c2 S M y w h h' hm hL hv hy ht).mono fun e w' ⟨e1, hb⟩ => ⟨⟨none, 0, none, 0, e1, NV.nil _ _, NV.nil _ _⟩, hb⟩⟩
theorem both_yes (A1 A2 : Option Addr) (c1 c2 : Nat) (S M : List Int) (y : Int) (a0 : Addr) (hm : M.length ≤ 1048576) (hL : S.length ≤ 1048576) (hv : pnP S M) (hy : rng y 0 400 = true) (ht : resB S M y = true) : Both A1 A2 c1 c2 S M y a0 (resM S M y) M true := by
  have hlen := (res_spec hv (rng_iff.1 hy)).len
  have h1 := hv.one
  refine ⟨fun w h h' h0 => (ResizePanes_yes A1 A2 c1 c2 S M y w h h' hm hL hv hy ht a0 h0).mono ?_, fun w h h' => (sResizePanes_yes A1 A2 c1 c2 S M y w h h' hm hL hv hy ht).mono ?_⟩
  · rintro e w' ⟨⟨v, rfl, hp⟩, hb⟩
    rcases hp with ⟨_, e0, _⟩ | ⟨g1, e1, g2, e2, rfl, _, _, _, _, _, o1, o2⟩
    · rw [e0] at hlen; simp at hlen; omega
    · exact ⟨⟨_, _, _, _, rfl, o1.nv, o2.nv⟩, hb⟩
  · rintro e w' ⟨⟨v1, v2, rfl, ⟨b1, q1, rfl, _, p1⟩, ⟨b2, q2, rfl, _, p2⟩⟩, hb⟩
    exact ⟨⟨_, _, _, _, by rw [hlen], p1.nv, p2.nv⟩, hb⟩
set_option maxRecDepth 100000 in
theorem walk (A : Option Addr) (n c : Nat) (z : List Int) (w : World) (wz : IsRow .u8 w A n c z) (a0 : Addr) (h0 : w.cell? ⟨0, 0, none⟩ = some (.iface 106 (.pointer (some a0)))) : Calls Tryd.prog 5 #[.slice A n c] w fun e w' => e = .returned (.bool true) ∧ Below w.heap.size w w' := by
  obtain ⟨hb, hn, hc⟩ := wz.bts
  clear wz
  have hzs : 0 < w.heap.size := World.block_lt_of_cell? _ _ h0
  have H0 := Lib.hid h0
  clear h0
  by_cases hlen : n ≤ 1048576
  · have hl1 : ¬ (1048576 : Int) < n := by omega
    go_enter Tryd.func5, Tryd.ntmps5
    go_wp2_with fail
    with_reducible refine (DrawResizePanes_any A n c _ hb hn hc).mono ?_
    rintro e w1 ⟨⟨A1, c1, L1, A2, c2, L2, y, rfl, v1, v2, l1, l2, l3, l4⟩, hB⟩
    have HX := Lib.hid (newS w1 (.cells #[.slice A1 L1.length c1, .slice A2 L2.length c2] 35))
    have hbb : Below w1.heap.size w1 (w1.alloc (.cells #[.slice A1 L1.length c1, .slice A2 L2.length c2] 35)) := balloc (Below.refl _ _)
    have HV1 := Lib.hid (v1.keep hbb)
    have HV2 := Lib.hid (v2.keep hbb)
    have HB := Lib.hid (balloc (o := (.cells #[.slice A1 L1.length c1, .slice A2 L2.length c2] 35)) hB)
    have k1 : L1.length ≤ 1048576 := by omega
    have k2 : L2.length ≤ 1048576 := by omega
    clear hB hb hn hc v1 v2 hbb
    by_cases hv : pnP L1 L2
    · cases hy : rng y 0 400
      · have hno : ¬ pnP L1 L2 ∨ (pnP L1 L2 ∧ rng y 0 400 = false) := .inr ⟨hv, hy⟩
        have HI := Lib.hid (both_no A1 A2 c1 c2 L1 L2 y a0 k2 k1 hno)
        have hR : ([] : List Int).length ≤ 1048576 := by simp
        have hQ : ([] : List Int).length ≤ 1048576 := by simp
        obtain ⟨R, hRe⟩ : ∃ R : List Int, ([] : List Int) = R := ⟨_, rfl⟩
        rw [hRe] at HI hR
        obtain ⟨Q, hQe⟩ : ∃ Q, R = Q := ⟨_, rfl⟩
        replace HI := Lib.hid (show Both A1 A2 c1 c2 L1 L2 y a0 R Q false from hQe ▸ HI.out)
        replace hQ : Q.length ≤ 1048576 := by rw [← hQe, ← hRe]; exact hQ
        clear hRe hQe hno
        have HP := Lib.hid hv
        have hyy : (decide (y < 0) = true) ∨ (decide (y < 0) = false ∧ decide (y > 400) = true) := by
          have := rng_not.1 hy
          by_cases h : y < 0
          · exact .inl (by simpa using h)
          · exact .inr ⟨by simpa using h, by simp; omega⟩
        clear hv hy
        rcases hyy with hy0 | ⟨hy0, hy4⟩
        · obtain ⟨c0, c1'⟩ := c2L HX.out
          go_wp2_with fail
          with_reducible refine (HI.out.impl _ HV1.out HV2.out ((World.cell?_of_block (HB.out.block 0 hzs)).trans H0.out)).mono ?_
          rintro e w2 ⟨⟨B1, e1, B2, e2, rfl, n1, n2⟩, hb⟩
          clear c0 c1'
          replace HX := Lib.hid ((hb.block _ (Array.getElem?_eq_some_iff.1 HX.out).1).trans HX.out)
          replace HV1 := Lib.hid (HV1.out.keep hb)
          replace HV2 := Lib.hid (HV2.out.keep hb)
          replace HB := Lib.hid (bkeep2 HB.out hb)
          clear hb
          have HY := Lib.hid (newS w2 (.cells #[.slice B1 R.length e1, .slice B2 Q.length e2] 35))
          have hb : Below w2.heap.size w2 (w2.alloc (.cells #[.slice B1 R.length e1, .slice B2 Q.length e2] 35)) := balloc (Below.refl _ _)
          have HN1 := Lib.hid (n1.keep hb)
          have HN2 := Lib.hid (n2.keep hb)
          clear n1 n2
          replace HX := Lib.hid ((hb.block _ (Array.getElem?_eq_some_iff.1 HX.out).1).trans HX.out)
          replace HV1 := Lib.hid (HV1.out.keep hb)
          replace HV2 := Lib.hid (HV2.out.keep hb)
          replace HB := Lib.hid (bkeep2 HB.out hb)
          clear hb
          obtain ⟨c0, c1'⟩ := c2L HX.out
          go_wp2_with fail
          with_reducible refine (HI.out.spec _ HV1.out HV2.out).mono ?_
          rintro e w3 ⟨⟨D1, f1, D2, f2, rfl, n3, n4⟩, hb⟩
          clear c0 c1'
          replace HX := Lib.hid ((hb.block _ (Array.getElem?_eq_some_iff.1 HX.out).1).trans HX.out)
          replace HY := Lib.hid ((hb.block _ (Array.getElem?_eq_some_iff.1 HY.out).1).trans HY.out)
          replace HV1 := Lib.hid (HV1.out.keep hb)
          replace HV2 := Lib.hid (HV2.out.keep hb)
          replace HN1 := Lib.hid (HN1.out.keep hb)
          replace HN2 := Lib.hid (HN2.out.keep hb)
          replace HB := Lib.hid (bkeep2 HB.out hb)
          clear hb
          have HZ := Lib.hid (newS w3 (.cells #[.slice D1 R.length f1, .slice D2 Q.length f2] 35))
          have hb : Below w3.heap.size w3 (w3.alloc (.cells #[.slice D1 R.length f1, .slice D2 Q.length f2] 35)) := balloc (Below.refl _ _)
          have HM1 := Lib.hid (n3.keep hb)
          have HM2 := Lib.hid (n4.keep hb)
          clear n3 n4
          replace HX := Lib.hid ((hb.block _ (Array.getElem?_eq_some_iff.1 HX.out).1).trans HX.out)
          replace HY := Lib.hid ((hb.block _ (Array.getElem?_eq_some_iff.1 HY.out).1).trans HY.out)
          replace HV1 := Lib.hid (HV1.out.keep hb)
          replace HV2 := Lib.hid (HV2.out.keep hb)
          replace HN1 := Lib.hid (HN1.out.keep hb)
          replace HN2 := Lib.hid (HN2.out.keep hb)
          replace HB := Lib.hid (bkeep2 HB.out hb)
          clear hb
          obtain ⟨d0, d1⟩ := c2L HY.out
          obtain ⟨p0, p1⟩ := c2L HZ.out
          go_wp2_with fail
          with_reducible refine (equalPanes_same _ _ R Q _ (prOf e1 e2 HN1.out HN2.out) (prOf f1 f2 HM1.out HM2.out) hR hQ).mono ?_
          rintro e w4 ⟨rfl, hb⟩
          clear d0 d1 p0 p1
          replace HX := Lib.hid ((hb.block _ (Array.getElem?_eq_some_iff.1 HX.out).1).trans HX.out)
          replace HY := Lib.hid ((hb.block _ (Array.getElem?_eq_some_iff.1 HY.out).1).trans HY.out)
          replace HZ := Lib.hid ((hb.block _ (Array.getElem?_eq_some_iff.1 HZ.out).1).trans HZ.out)
          replace HV1 := Lib.hid (HV1.out.keep hb)
          replace HV2 := Lib.hid (HV2.out.keep hb)
          replace HN1 := Lib.hid (HN1.out.keep hb)
          replace HN2 := Lib.hid (HN2.out.keep hb)
          replace HM1 := Lib.hid (HM1.out.keep hb)
          replace HM2 := Lib.hid (HM2.out.keep hb)
          replace HB := Lib.hid (bkeep2 HB.out hb)
          clear hb
          obtain ⟨c0, c1'⟩ := c2L HX.out
          go_wp2_with fail
          with_reducible refine (ValidPanes_v A1 A2 _ _ c1 c2 L1 L2 true _ HV1.out HV2.out rfl rfl k1 k2 (by simp [HP.out])).mono ?_
          rintro e w5 ⟨rfl, hb⟩
          clear c0 c1'
          replace HX := Lib.hid ((hb.block _ (Array.getElem?_eq_some_iff.1 HX.out).1).trans HX.out)
          replace HY := Lib.hid ((hb.block _ (Array.getElem?_eq_some_iff.1 HY.out).1).trans HY.out)
          replace HZ := Lib.hid ((hb.block _ (Array.getElem?_eq_some_iff.1 HZ.out).1).trans HZ.out)
          replace HV1 := Lib.hid (HV1.out.keep hb)
          replace HV2 := Lib.hid (HV2.out.keep hb)
          replace HN1 := Lib.hid (HN1.out.keep hb)
          replace HN2 := Lib.hid (HN2.out.keep hb)
          replace HM1 := Lib.hid (HM1.out.keep hb)
          replace HM2 := Lib.hid (HM2.out.keep hb)
          replace HB := Lib.hid (bkeep2 HB.out hb)
          clear hb
          obtain ⟨d0, d1⟩ := c2L HY.out
          obtain ⟨p0, p1⟩ := c2L HZ.out
          go_wp2_with fail
          with_reducible refine (equalPanes_same _ _ R Q _ (prOf e1 e2 HN1.out HN2.out) (prOf f1 f2 HM1.out HM2.out) hR hQ).mono ?_
          rintro e w6 ⟨rfl, hb⟩
          clear d0 d1 p0 p1
          replace HB := Lib.hid (bkeep2 HB.out hb)
          clear hb
          go_wp2
          go_ret
          exact ⟨rfl, HB.out⟩
        · obtain ⟨c0, c1'⟩ := c2L HX.out
          go_wp2_with fail
          with_reducible refine (HI.out.impl _ HV1.out HV2.out ((World.cell?_of_block (HB.out.block 0 hzs)).trans H0.out)).mono ?_
          rintro e w2 ⟨⟨B1, e1, B2, e2, rfl, n1, n2⟩, hb⟩
          clear c0 c1'
          replace HX := Lib.hid ((hb.block _ (Array.getElem?_eq_some_iff.1 HX.out).1).trans HX.out)
          replace HV1 := Lib.hid (HV1.out.keep hb)
          replace HV2 := Lib.hid (HV2.out.keep hb)
          replace HB := Lib.hid (bkeep2 HB.out hb)
          clear hb
          have HY := Lib.hid (newS w2 (.cells #[.slice B1 R.length e1, .slice B2 Q.length e2] 35))
          have hb : Below w2.heap.size w2 (w2.alloc (.cells #[.slice B1 R.length e1, .slice B2 Q.length e2] 35)) := balloc (Below.refl _ _)
          have HN1 := Lib.hid (n1.keep hb)
          have HN2 := Lib.hid (n2.keep hb)
          clear n1 n2
          replace HX := Lib.hid ((hb.block _ (Array.getElem?_eq_some_iff.1 HX.out).1).trans HX.out)
          replace HV1 := Lib.hid (HV1.out.keep hb)
          replace HV2 := Lib.hid (HV2.out.keep hb)
          replace HB := Lib.hid (bkeep2 HB.out hb)
          clear hb
          obtain ⟨c0, c1'⟩ := c2L HX.out
          go_wp2_with fail
          with_reducible refine (HI.out.spec _ HV1.out HV2.out).mono ?_
          rintro e w3 ⟨⟨D1, f1, D2, f2, rfl, n3, n4⟩, hb⟩
          clear c0 c1'
          replace HX := Lib.hid ((hb.block _ (Array.getElem?_eq_some_iff.1 HX.out).1).trans HX.out)
          replace HY := Lib.hid ((hb.block _ (Array.getElem?_eq_some_iff.1 HY.out).1).trans HY.out)
          replace HV1 := Lib.hid (HV1.out.keep hb)
          replace HV2 := Lib.hid (HV2.out.keep hb)
          replace HN1 := Lib.hid (HN1.out.keep hb)
          replace HN2 := Lib.hid (HN2.out.keep hb)
          replace HB := Lib.hid (bkeep2 HB.out hb)
          clear hb
          have HZ := Lib.hid (newS w3 (.cells #[.slice D1 R.length f1, .slice D2 Q.length f2] 35))
          have hb : Below w3.heap.size w3 (w3.alloc (.cells #[.slice D1 R.length f1, .slice D2 Q.length f2] 35)) := balloc (Below.refl _ _)
          have HM1 := Lib.hid (n3.keep hb)
          have HM2 := Lib.hid (n4.keep hb)
          clear n3 n4
          replace HX := Lib.hid ((hb.block _ (Array.getElem?_eq_some_iff.1 HX.out).1).trans HX.out)
          replace HY := Lib.hid ((hb.block _ (Array.getElem?_eq_some_iff.1 HY.out).1).trans HY.out)
          replace HV1 := Lib.hid (HV1.out.keep hb)
          replace HV2 := Lib.hid (HV2.out.keep hb)
          replace HN1 := Lib.hid (HN1.out.keep hb)
          replace HN2 := Lib.hid (HN2.out.keep hb)
          replace HB := Lib.hid (bkeep2 HB.out hb)
          clear hb
          obtain ⟨d0, d1⟩ := c2L HY.out
          obtain ⟨p0, p1⟩ := c2L HZ.out
          go_wp2_with fail
          with_reducible refine (equalPanes_same _ _ R Q _ (prOf e1 e2 HN1.out HN2.out) (prOf f1 f2 HM1.out HM2.out) hR hQ).mono ?_
          rintro e w4 ⟨rfl, hb⟩
          clear d0 d1 p0 p1
          replace HX := Lib.hid ((hb.block _ (Array.getElem?_eq_some_iff.1 HX.out).1).trans HX.out)
          replace HY := Lib.hid ((hb.block _ (Array.getElem?_eq_some_iff.1 HY.out).1).trans HY.out)
          replace HZ := Lib.hid ((hb.block _ (Array.getElem?_eq_some_iff.1 HZ.out).1).trans HZ.out)
          replace HV1 := Lib.hid (HV1.out.keep hb)
          replace HV2 := Lib.hid (HV2.out.keep hb)
          replace HN1 := Lib.hid (HN1.out.keep hb)
          replace HN2 := Lib.hid (HN2.out.keep hb)
          replace HM1 := Lib.hid (HM1.out.keep hb)
          replace HM2 := Lib.hid (HM2.out.keep hb)
          replace HB := Lib.hid (bkeep2 HB.out hb)
          clear hb
          obtain ⟨c0, c1'⟩ := c2L HX.out
          go_wp2_with fail
          with_reducible refine (ValidPanes_v A1 A2 _ _ c1 c2 L1 L2 true _ HV1.out HV2.out rfl rfl k1 k2 (by simp [HP.out])).mono ?_
          rintro e w5 ⟨rfl, hb⟩
          clear c0 c1'
          replace HX := Lib.hid ((hb.block _ (Array.getElem?_eq_some_iff.1 HX.out).1).trans HX.out)
          replace HY := Lib.hid ((hb.block _ (Array.getElem?_eq_some_iff.1 HY.out).1).trans HY.out)
          replace HZ := Lib.hid ((hb.block _ (Array.getElem?_eq_some_iff.1 HZ.out).1).trans HZ.out)
          replace HV1 := Lib.hid (HV1.out.keep hb)
          replace HV2 := Lib.hid (HV2.out.keep hb)
          replace HN1 := Lib.hid (HN1.out.keep hb)
          replace HN2 := Lib.hid (HN2.out.keep hb)
          replace HM1 := Lib.hid (HM1.out.keep hb)
          replace HM2 := Lib.hid (HM2.out.keep hb)
          replace HB := Lib.hid (bkeep2 HB.out hb)
          clear hb
          obtain ⟨d0, d1⟩ := c2L HY.out
          obtain ⟨p0, p1⟩ := c2L HZ.out
          go_wp2_with fail
          with_reducible refine (equalPanes_same _ _ R Q _ (prOf e1 e2 HN1.out HN2.out) (prOf f1 f2 HM1.out HM2.out) hR hQ).mono ?_
          rintro e w6 ⟨rfl, hb⟩
          clear d0 d1 p0 p1
          replace HB := Lib.hid (bkeep2 HB.out hb)
          clear hb
          go_wp2
          go_ret
          exact ⟨rfl, HB.out⟩
      · cases ht : resB L1 L2 y
        · have HI := Lib.hid (both_full A1 A2 c1 c2 L1 L2 y a0 k2 k1 hv hy ht)
          have hsp := res_spec hv (rng_iff.1 hy)
          have hge : ¬ sumI L2 ≤ y := fun h => by have := hsp.iff.2 h; rw [ht] at this; cases this
          have hR : ([] : List Int).length ≤ 1048576 := by simp
          have hQ : ([] : List Int).length ≤ 1048576 := by simp
          have HP := Lib.hid hv
          have HS2 := Lib.hid hv.smal.2
          obtain ⟨R, hRe⟩ : ∃ R : List Int, ([] : List Int) = R := ⟨_, rfl⟩
          rw [hRe] at HI hR
          obtain ⟨Q, hQe⟩ : ∃ Q, R = Q := ⟨_, rfl⟩
          replace HI := Lib.hid (show Both A1 A2 c1 c2 L1 L2 y a0 R Q false from hQe ▸ HI.out)
          replace hQ : Q.length ≤ 1048576 := by rw [← hQe, ← hRe]; exact hQ
          obtain ⟨Z2, hZ2⟩ : ∃ Z2, sumI L2 = Z2 := ⟨_, rfl⟩
          rw [hZ2] at hge
          have hy0 : decide (y < 0) = false := by have := rng_iff.1 hy; simp; omega
          have hy4 : decide (y > 400) = false := by have := rng_iff.1 hy; simp; omega
          have hgd : decide (y ≥ Z2) = false := by simp; omega
          have HZ2 := Lib.hid hZ2
          clear hv hy ht hsp hge hRe hQe
          obtain ⟨c0, c1'⟩ := c2L HX.out
          go_wp2_with fail
          with_reducible refine (HI.out.impl _ HV1.out HV2.out ((World.cell?_of_block (HB.out.block 0 hzs)).trans H0.out)).mono ?_
          rintro e w2 ⟨⟨B1, e1, B2, e2, rfl, n1, n2⟩, hb⟩
          clear c0 c1'
          replace HX := Lib.hid ((hb.block _ (Array.getElem?_eq_some_iff.1 HX.out).1).trans HX.out)
          replace HV1 := Lib.hid (HV1.out.keep hb)
          replace HV2 := Lib.hid (HV2.out.keep hb)
          replace HB := Lib.hid (bkeep2 HB.out hb)
          clear hb
          have HY := Lib.hid (newS w2 (.cells #[.slice B1 R.length e1, .slice B2 Q.length e2] 35))
          have hb : Below w2.heap.size w2 (w2.alloc (.cells #[.slice B1 R.length e1, .slice B2 Q.length e2] 35)) := balloc (Below.refl _ _)
          have HN1 := Lib.hid (n1.keep hb)
          have HN2 := Lib.hid (n2.keep hb)
          clear n1 n2
          replace HX := Lib.hid ((hb.block _ (Array.getElem?_eq_some_iff.1 HX.out).1).trans HX.out)
          replace HV1 := Lib.hid (HV1.out.keep hb)
          replace HV2 := Lib.hid (HV2.out.keep hb)
          replace HB := Lib.hid (bkeep2 HB.out hb)
          clear hb
          obtain ⟨c0, c1'⟩ := c2L HX.out
          go_wp2_with fail
          with_reducible refine (HI.out.spec _ HV1.out HV2.out).mono ?_
          rintro e w3 ⟨⟨D1, f1, D2, f2, rfl, n3, n4⟩, hb⟩
          clear c0 c1'
          replace HX := Lib.hid ((hb.block _ (Array.getElem?_eq_some_iff.1 HX.out).1).trans HX.out)
          replace HY := Lib.hid ((hb.block _ (Array.getElem?_eq_some_iff.1 HY.out).1).trans HY.out)
          replace HV1 := Lib.hid (HV1.out.keep hb)
          replace HV2 := Lib.hid (HV2.out.keep hb)
          replace HN1 := Lib.hid (HN1.out.keep hb)
          replace HN2 := Lib.hid (HN2.out.keep hb)
          replace HB := Lib.hid (bkeep2 HB.out hb)
          clear hb
          have HZ := Lib.hid (newS w3 (.cells #[.slice D1 R.length f1, .slice D2 Q.length f2] 35))
          have hb : Below w3.heap.size w3 (w3.alloc (.cells #[.slice D1 R.length f1, .slice D2 Q.length f2] 35)) := balloc (Below.refl _ _)
          have HM1 := Lib.hid (n3.keep hb)
          have HM2 := Lib.hid (n4.keep hb)
          clear n3 n4
          replace HX := Lib.hid ((hb.block _ (Array.getElem?_eq_some_iff.1 HX.out).1).trans HX.out)
          replace HY := Lib.hid ((hb.block _ (Array.getElem?_eq_some_iff.1 HY.out).1).trans HY.out)
          replace HV1 := Lib.hid (HV1.out.keep hb)
          replace HV2 := Lib.hid (HV2.out.keep hb)
          replace HN1 := Lib.hid (HN1.out.keep hb)
          replace HN2 := Lib.hid (HN2.out.keep hb)
          replace HB := Lib.hid (bkeep2 HB.out hb)
          clear hb
          obtain ⟨d0, d1⟩ := c2L HY.out
          obtain ⟨p0, p1⟩ := c2L HZ.out
          go_wp2_with fail
          with_reducible refine (equalPanes_same _ _ R Q _ (prOf e1 e2 HN1.out HN2.out) (prOf f1 f2 HM1.out HM2.out) hR hQ).mono ?_
          rintro e w4 ⟨rfl, hb⟩
          clear d0 d1 p0 p1
          replace HX := Lib.hid ((hb.block _ (Array.getElem?_eq_some_iff.1 HX.out).1).trans HX.out)
          replace HY := Lib.hid ((hb.block _ (Array.getElem?_eq_some_iff.1 HY.out).1).trans HY.out)
          replace HZ := Lib.hid ((hb.block _ (Array.getElem?_eq_some_iff.1 HZ.out).1).trans HZ.out)
          replace HV1 := Lib.hid (HV1.out.keep hb)
          replace HV2 := Lib.hid (HV2.out.keep hb)
          replace HN1 := Lib.hid (HN1.out.keep hb)
          replace HN2 := Lib.hid (HN2.out.keep hb)
          replace HM1 := Lib.hid (HM1.out.keep hb)
          replace HM2 := Lib.hid (HM2.out.keep hb)
          replace HB := Lib.hid (bkeep2 HB.out hb)
          clear hb
          obtain ⟨c0, c1'⟩ := c2L HX.out
          go_wp2_with fail
          with_reducible refine (ValidPanes_v A1 A2 _ _ c1 c2 L1 L2 true _ HV1.out HV2.out rfl rfl k1 k2 (by simp [HP.out])).mono ?_
          rintro e w5 ⟨rfl, hb⟩
          clear c0 c1'
          replace HX := Lib.hid ((hb.block _ (Array.getElem?_eq_some_iff.1 HX.out).1).trans HX.out)
          replace HY := Lib.hid ((hb.block _ (Array.getElem?_eq_some_iff.1 HY.out).1).trans HY.out)
          replace HZ := Lib.hid ((hb.block _ (Array.getElem?_eq_some_iff.1 HZ.out).1).trans HZ.out)
          replace HV1 := Lib.hid (HV1.out.keep hb)
          replace HV2 := Lib.hid (HV2.out.keep hb)
          replace HN1 := Lib.hid (HN1.out.keep hb)
          replace HN2 := Lib.hid (HN2.out.keep hb)
          replace HM1 := Lib.hid (HM1.out.keep hb)
          replace HM2 := Lib.hid (HM2.out.keep hb)
          replace HB := Lib.hid (bkeep2 HB.out hb)
          clear hb
          obtain ⟨c0, c1'⟩ := c2L HX.out
          go_wp2_with fail
          with_reducible refine (total_B A2 c2 L2 _ HV2.out k2 HS2.out).mono ?_
          rintro e w6 ⟨rfl, hb⟩
          rw [HZ2.out]
          clear c0 c1'
          replace HX := Lib.hid ((hb.block _ (Array.getElem?_eq_some_iff.1 HX.out).1).trans HX.out)
          replace HY := Lib.hid ((hb.block _ (Array.getElem?_eq_some_iff.1 HY.out).1).trans HY.out)
          replace HN1 := Lib.hid (HN1.out.keep hb)
          replace HN2 := Lib.hid (HN2.out.keep hb)
          replace HB := Lib.hid (bkeep2 HB.out hb)
          clear hb
          go_wp2
          go_ret
          exact ⟨rfl, HB.out⟩
        · have HI := Lib.hid (both_yes A1 A2 c1 c2 L1 L2 y a0 k2 k1 hv hy ht)
          have hsp := res_spec hv (rng_iff.1 hy)
          have hpn := hsp.pn ht
          have hsum := hsp.sum ht
          have hge := hsp.iff.1 ht
          have hR : (resM L1 L2 y).length ≤ 1048576 := by rw [hsp.len]; exact k1
          have hQ : L2.length ≤ 1048576 := k2
          have HP := Lib.hid hv
          have HPN := Lib.hid hpn
          have HS2 := Lib.hid hv.smal.2
          have HS3 := Lib.hid hpn.smal.1
          obtain ⟨R, hRe⟩ : ∃ R, resM L1 L2 y = R := ⟨_, rfl⟩
          rw [hRe] at HI HPN hsum hR HS3
          obtain ⟨Q, hQe⟩ : ∃ Q, L2 = Q := ⟨_, rfl⟩
          replace HI := Lib.hid (show Both A1 A2 c1 c2 L1 L2 y a0 R Q true from hQe ▸ HI.out)
          replace HPN := Lib.hid (show pnP R Q from hQe ▸ HPN.out)
          replace hQ : Q.length ≤ 1048576 := hQe ▸ hQ
          obtain ⟨Z2, hZ2⟩ : ∃ Z2, sumI L2 = Z2 := ⟨_, rfl⟩
          rw [hZ2] at hge
          have hy0 : decide (y < 0) = false := by have := rng_iff.1 hy; simp; omega
          have hy4 : decide (y > 400) = false := by have := rng_iff.1 hy; simp; omega
          have hgd : decide (y ≥ Z2) = true := by simpa using hge
          have HSU := Lib.hid hsum
          have HZ2 := Lib.hid hZ2
          clear hv hy ht hsp hpn hge hRe hQe hsum
          obtain ⟨c0, c1'⟩ := c2L HX.out
          go_wp2_with fail
          with_reducible refine (HI.out.impl _ HV1.out HV2.out ((World.cell?_of_block (HB.out.block 0 hzs)).trans H0.out)).mono ?_
          rintro e w2 ⟨⟨B1, e1, B2, e2, rfl, n1, n2⟩, hb⟩
          clear c0 c1'
          replace HX := Lib.hid ((hb.block _ (Array.getElem?_eq_some_iff.1 HX.out).1).trans HX.out)
          replace HV1 := Lib.hid (HV1.out.keep hb)
          replace HV2 := Lib.hid (HV2.out.keep hb)
          replace HB := Lib.hid (bkeep2 HB.out hb)
          clear hb
          have HY := Lib.hid (newS w2 (.cells #[.slice B1 R.length e1, .slice B2 Q.length e2] 35))
          have hb : Below w2.heap.size w2 (w2.alloc (.cells #[.slice B1 R.length e1, .slice B2 Q.length e2] 35)) := balloc (Below.refl _ _)
          have HN1 := Lib.hid (n1.keep hb)
          have HN2 := Lib.hid (n2.keep hb)
          clear n1 n2
          replace HX := Lib.hid ((hb.block _ (Array.getElem?_eq_some_iff.1 HX.out).1).trans HX.out)
          replace HV1 := Lib.hid (HV1.out.keep hb)
          replace HV2 := Lib.hid (HV2.out.keep hb)
          replace HB := Lib.hid (bkeep2 HB.out hb)
          clear hb
          obtain ⟨c0, c1'⟩ := c2L HX.out
          go_wp2_with fail
          with_reducible refine (HI.out.spec _ HV1.out HV2.out).mono ?_
          rintro e w3 ⟨⟨D1, f1, D2, f2, rfl, n3, n4⟩, hb⟩
          clear c0 c1'
          replace HX := Lib.hid ((hb.block _ (Array.getElem?_eq_some_iff.1 HX.out).1).trans HX.out)
          replace HY := Lib.hid ((hb.block _ (Array.getElem?_eq_some_iff.1 HY.out).1).trans HY.out)
          replace HV1 := Lib.hid (HV1.out.keep hb)
          replace HV2 := Lib.hid (HV2.out.keep hb)
          replace HN1 := Lib.hid (HN1.out.keep hb)
          replace HN2 := Lib.hid (HN2.out.keep hb)
          replace HB := Lib.hid (bkeep2 HB.out hb)
          clear hb
          have HZ := Lib.hid (newS w3 (.cells #[.slice D1 R.length f1, .slice D2 Q.length f2] 35))
          have hb : Below w3.heap.size w3 (w3.alloc (.cells #[.slice D1 R.length f1, .slice D2 Q.length f2] 35)) := balloc (Below.refl _ _)
          have HM1 := Lib.hid (n3.keep hb)
          have HM2 := Lib.hid (n4.keep hb)
          clear n3 n4
          replace HX := Lib.hid ((hb.block _ (Array.getElem?_eq_some_iff.1 HX.out).1).trans HX.out)
          replace HY := Lib.hid ((hb.block _ (Array.getElem?_eq_some_iff.1 HY.out).1).trans HY.out)
          replace HV1 := Lib.hid (HV1.out.keep hb)
          replace HV2 := Lib.hid (HV2.out.keep hb)
          replace HN1 := Lib.hid (HN1.out.keep hb)
          replace HN2 := Lib.hid (HN2.out.keep hb)
          replace HB := Lib.hid (bkeep2 HB.out hb)
          clear hb
          obtain ⟨d0, d1⟩ := c2L HY.out
          obtain ⟨p0, p1⟩ := c2L HZ.out
          go_wp2_with fail
          with_reducible refine (equalPanes_same _ _ R Q _ (prOf e1 e2 HN1.out HN2.out) (prOf f1 f2 HM1.out HM2.out) hR hQ).mono ?_
          rintro e w4 ⟨rfl, hb⟩
          clear d0 d1 p0 p1
          replace HX := Lib.hid ((hb.block _ (Array.getElem?_eq_some_iff.1 HX.out).1).trans HX.out)
          replace HY := Lib.hid ((hb.block _ (Array.getElem?_eq_some_iff.1 HY.out).1).trans HY.out)
          replace HZ := Lib.hid ((hb.block _ (Array.getElem?_eq_some_iff.1 HZ.out).1).trans HZ.out)
          replace HV1 := Lib.hid (HV1.out.keep hb)
          replace HV2 := Lib.hid (HV2.out.keep hb)
          replace HN1 := Lib.hid (HN1.out.keep hb)
          replace HN2 := Lib.hid (HN2.out.keep hb)
          replace HM1 := Lib.hid (HM1.out.keep hb)
          replace HM2 := Lib.hid (HM2.out.keep hb)
          replace HB := Lib.hid (bkeep2 HB.out hb)
          clear hb
          obtain ⟨c0, c1'⟩ := c2L HX.out
          go_wp2_with fail
          with_reducible refine (ValidPanes_v A1 A2 _ _ c1 c2 L1 L2 true _ HV1.out HV2.out rfl rfl k1 k2 (by simp [HP.out])).mono ?_
          rintro e w5 ⟨rfl, hb⟩
          clear c0 c1'
          replace HX := Lib.hid ((hb.block _ (Array.getElem?_eq_some_iff.1 HX.out).1).trans HX.out)
          replace HY := Lib.hid ((hb.block _ (Array.getElem?_eq_some_iff.1 HY.out).1).trans HY.out)
          replace HZ := Lib.hid ((hb.block _ (Array.getElem?_eq_some_iff.1 HZ.out).1).trans HZ.out)
          replace HV1 := Lib.hid (HV1.out.keep hb)
          replace HV2 := Lib.hid (HV2.out.keep hb)
          replace HN1 := Lib.hid (HN1.out.keep hb)
          replace HN2 := Lib.hid (HN2.out.keep hb)
          replace HM1 := Lib.hid (HM1.out.keep hb)
          replace HM2 := Lib.hid (HM2.out.keep hb)
          replace HB := Lib.hid (bkeep2 HB.out hb)
          clear hb
          obtain ⟨c0, c1'⟩ := c2L HX.out
          go_wp2_with fail
          with_reducible refine (total_B A2 c2 L2 _ HV2.out k2 HS2.out).mono ?_
          rintro e w6 ⟨rfl, hb⟩
          rw [HZ2.out]
          clear c0 c1'
          replace HX := Lib.hid ((hb.block _ (Array.getElem?_eq_some_iff.1 HX.out).1).trans HX.out)
          replace HY := Lib.hid ((hb.block _ (Array.getElem?_eq_some_iff.1 HY.out).1).trans HY.out)
          replace HN1 := Lib.hid (HN1.out.keep hb)
          replace HN2 := Lib.hid (HN2.out.keep hb)
          replace HB := Lib.hid (bkeep2 HB.out hb)
          clear hb
          obtain ⟨d0, d1⟩ := c2L HY.out
          go_wp2_with fail
          with_reducible refine (ValidPanes_v B1 B2 _ _ e1 e2 R Q true _ HN1.out HN2.out rfl rfl hR hQ (by simp [HPN.out])).mono ?_
          rintro e w7 ⟨rfl, hb⟩
          clear d0 d1
          replace HY := Lib.hid ((hb.block _ (Array.getElem?_eq_some_iff.1 HY.out).1).trans HY.out)
          replace HN1 := Lib.hid (HN1.out.keep hb)
          replace HN2 := Lib.hid (HN2.out.keep hb)
          replace HB := Lib.hid (bkeep2 HB.out hb)
          clear hb
          obtain ⟨d0, d1⟩ := c2L HY.out
          go_wp2_with fail
          with_reducible refine (total_B B1 e1 R _ HN1.out hR HS3.out).mono ?_
          rintro e w8 ⟨rfl, hb⟩
          rw [HSU.out]
          clear d0 d1
          replace HB := Lib.hid (bkeep2 HB.out hb)
          clear hb
          go_wp2
          go_ret
          exact ⟨rfl, HB.out⟩
    · have hno : ¬ pnP L1 L2 ∨ (pnP L1 L2 ∧ rng y 0 400 = false) := .inl hv
      have HP := Lib.hid hv
      clear hv
      have HI := Lib.hid (both_no A1 A2 c1 c2 L1 L2 y a0 k2 k1 hno)
      have hR : ([] : List Int).length ≤ 1048576 := by simp
      have hQ : ([] : List Int).length ≤ 1048576 := by simp
      obtain ⟨R, hRe⟩ : ∃ R : List Int, ([] : List Int) = R := ⟨_, rfl⟩
      rw [hRe] at HI hR
      obtain ⟨Q, hQe⟩ : ∃ Q, R = Q := ⟨_, rfl⟩
      replace HI := Lib.hid (show Both A1 A2 c1 c2 L1 L2 y a0 R Q false from hQe ▸ HI.out)
      replace hQ : Q.length ≤ 1048576 := by rw [← hQe, ← hRe]; exact hQ
      clear hRe hQe hno
      obtain ⟨c0, c1'⟩ := c2L HX.out
      go_wp2_with fail
      with_reducible refine (HI.out.impl _ HV1.out HV2.out ((World.cell?_of_block (HB.out.block 0 hzs)).trans H0.out)).mono ?_
      rintro e w2 ⟨⟨B1, e1, B2, e2, rfl, n1, n2⟩, hb⟩
      clear c0 c1'
      replace HX := Lib.hid ((hb.block _ (Array.getElem?_eq_some_iff.1 HX.out).1).trans HX.out)
      replace HV1 := Lib.hid (HV1.out.keep hb)
      replace HV2 := Lib.hid (HV2.out.keep hb)
      replace HB := Lib.hid (bkeep2 HB.out hb)
      clear hb
      have HY := Lib.hid (newS w2 (.cells #[.slice B1 R.length e1, .slice B2 Q.length e2] 35))
      have hb : Below w2.heap.size w2 (w2.alloc (.cells #[.slice B1 R.length e1, .slice B2 Q.length e2] 35)) := balloc (Below.refl _ _)
      have HN1 := Lib.hid (n1.keep hb)
      have HN2 := Lib.hid (n2.keep hb)
      clear n1 n2
      replace HX := Lib.hid ((hb.block _ (Array.getElem?_eq_some_iff.1 HX.out).1).trans HX.out)
      replace HV1 := Lib.hid (HV1.out.keep hb)
      replace HV2 := Lib.hid (HV2.out.keep hb)
      replace HB := Lib.hid (bkeep2 HB.out hb)
      clear hb
      obtain ⟨c0, c1'⟩ := c2L HX.out
      go_wp2_with fail
      with_reducible refine (HI.out.spec _ HV1.out HV2.out).mono ?_
      rintro e w3 ⟨⟨D1, f1, D2, f2, rfl, n3, n4⟩, hb⟩
      clear c0 c1'
      replace HX := Lib.hid ((hb.block _ (Array.getElem?_eq_some_iff.1 HX.out).1).trans HX.out)
      replace HY := Lib.hid ((hb.block _ (Array.getElem?_eq_some_iff.1 HY.out).1).trans HY.out)
      replace HV1 := Lib.hid (HV1.out.keep hb)
      replace HV2 := Lib.hid (HV2.out.keep hb)
      replace HN1 := Lib.hid (HN1.out.keep hb)
      replace HN2 := Lib.hid (HN2.out.keep hb)
      replace HB := Lib.hid (bkeep2 HB.out hb)
      clear hb
      have HZ := Lib.hid (newS w3 (.cells #[.slice D1 R.length f1, .slice D2 Q.length f2] 35))
      have hb : Below w3.heap.size w3 (w3.alloc (.cells #[.slice D1 R.length f1, .slice D2 Q.length f2] 35)) := balloc (Below.refl _ _)
      have HM1 := Lib.hid (n3.keep hb)
      have HM2 := Lib.hid (n4.keep hb)
      clear n3 n4
      replace HX := Lib.hid ((hb.block _ (Array.getElem?_eq_some_iff.1 HX.out).1).trans HX.out)
      replace HY := Lib.hid ((hb.block _ (Array.getElem?_eq_some_iff.1 HY.out).1).trans HY.out)
      replace HV1 := Lib.hid (HV1.out.keep hb)
      replace HV2 := Lib.hid (HV2.out.keep hb)
      replace HN1 := Lib.hid (HN1.out.keep hb)
      replace HN2 := Lib.hid (HN2.out.keep hb)
      replace HB := Lib.hid (bkeep2 HB.out hb)
      clear hb
      obtain ⟨d0, d1⟩ := c2L HY.out
      obtain ⟨p0, p1⟩ := c2L HZ.out
      go_wp2_with fail
      with_reducible refine (equalPanes_same _ _ R Q _ (prOf e1 e2 HN1.out HN2.out) (prOf f1 f2 HM1.out HM2.out) hR hQ).mono ?_
      rintro e w4 ⟨rfl, hb⟩
      clear d0 d1 p0 p1
      replace HX := Lib.hid ((hb.block _ (Array.getElem?_eq_some_iff.1 HX.out).1).trans HX.out)
      replace HY := Lib.hid ((hb.block _ (Array.getElem?_eq_some_iff.1 HY.out).1).trans HY.out)
      replace HZ := Lib.hid ((hb.block _ (Array.getElem?_eq_some_iff.1 HZ.out).1).trans HZ.out)
      replace HV1 := Lib.hid (HV1.out.keep hb)
      replace HV2 := Lib.hid (HV2.out.keep hb)
      replace HN1 := Lib.hid (HN1.out.keep hb)
      replace HN2 := Lib.hid (HN2.out.keep hb)
      replace HM1 := Lib.hid (HM1.out.keep hb)
      replace HM2 := Lib.hid (HM2.out.keep hb)
      replace HB := Lib.hid (bkeep2 HB.out hb)
      clear hb
      obtain ⟨c0, c1'⟩ := c2L HX.out
      go_wp2_with fail
      with_reducible refine (ValidPanes_v A1 A2 _ _ c1 c2 L1 L2 false _ HV1.out HV2.out rfl rfl k1 k2 (by simp [HP.out])).mono ?_
      rintro e w5 ⟨rfl, hb⟩
      clear c0 c1'
      replace HX := Lib.hid ((hb.block _ (Array.getElem?_eq_some_iff.1 HX.out).1).trans HX.out)
      replace HY := Lib.hid ((hb.block _ (Array.getElem?_eq_some_iff.1 HY.out).1).trans HY.out)
      replace HZ := Lib.hid ((hb.block _ (Array.getElem?_eq_some_iff.1 HZ.out).1).trans HZ.out)
      replace HV1 := Lib.hid (HV1.out.keep hb)
      replace HV2 := Lib.hid (HV2.out.keep hb)
      replace HN1 := Lib.hid (HN1.out.keep hb)
      replace HN2 := Lib.hid (HN2.out.keep hb)
      replace HM1 := Lib.hid (HM1.out.keep hb)
      replace HM2 := Lib.hid (HM2.out.keep hb)
      replace HB := Lib.hid (bkeep2 HB.out hb)
      clear hb
      obtain ⟨d0, d1⟩ := c2L HY.out
      obtain ⟨p0, p1⟩ := c2L HZ.out
      go_wp2_with fail
      with_reducible refine (equalPanes_same _ _ R Q _ (prOf e1 e2 HN1.out HN2.out) (prOf f1 f2 HM1.out HM2.out) hR hQ).mono ?_
      rintro e w6 ⟨rfl, hb⟩
      clear d0 d1 p0 p1
      replace HB := Lib.hid (bkeep2 HB.out hb)
      clear hb
      go_wp2
      go_ret
      exact ⟨rfl, HB.out⟩
  · have hl1 : (1048576 : Int) < n := by omega
    go_enter Tryd.func5, Tryd.ntmps5
    go_wp2
    go_ret
    exact ⟨rfl, by repeat (first | exact Below.refl _ _ | apply Below.drew)⟩
set_option maxRecDepth 100000 in
theorem lifted (os : Os) (started : os.Started) (H : Type) (enc : TypeId × Value → H) :
    ReturnsInHanded {} Tryd.checked os 5 .any (fun w args => (Rows.fnResizePanesSpec.pre enc Tryd.prog Tryd.f5 [] false w args ∧ laidMetH Tryd.prog Rows.fnResizePanesRow.laid w) ∧ sizedMet enc Tryd.prog Tryd.f5 (OpenSpec.ofChange Rows.fnResizePanesSpec) false w args) (Rows.fnResizePanesSpec.post enc Tryd.prog Tryd.f5 false true false false) := by
  refine returnsInHanded_of_change_and (C := Tryd.checked) (X := fun w _ => laidMetH Tryd.prog Rows.fnResizePanesRow.laid w) (fun _ _ _ hh h => h.of_heap hh) own started (by kernel_rfl) Tryd.func5
    (ChangeSpec.witness_at (enc := enc) (C := Tryd.checked) (os := os) (X := fun w _ => laidMetH Tryd.prog Rows.fnResizePanesRow.laid w) false (LD.world os) #[.slice none 0 0] 8 rfl (by kernel_rfl) (by kernel_rfl) (by kernel_rfl) (by kernel_rfl) (by kernel_rfl) (LD.met os _)) ?_
  intro W base args ds gs before hval0 hW hcnd _ hL _
  have hval : ∀ (j : Nat) t v, Tryd.f5.params[j]? = some t → args[j]? = some v → Value.okWide Tryd.prog W .any base t v := hval0
  have hW' := hW
  obtain ⟨p, q, hA0, hV, rfl, hfz, hnd⟩ := hW
  have hA : DataW.TrodAll enc Tryd.prog W 0 (fun _ => true) true Tryd.f5.params.toList args.toList ds p := hA0
  rw [Tryd.params5] at hA hval
  obtain ⟨v0, vs0, d0, ds0, p0, q0, hargs, rfl, rfl, h0, r0⟩ := trodAll_cons hA
  obtain ⟨rfl, rfl, rfl⟩ := trodAll_nil r0
  obtain rfl : args = #[v0] := by cases args; simp_all
  have hV2 : DataW.TrodVars enc Tryd.prog W (fun _ => true) ["loop.example/widgetroom/impl.errNoRoom"] gs q := hV
  obtain ⟨b0, hv0, hg0⟩ := LD.opens hL
  obtain ⟨rfl, rfl⟩ := hV2.unique (vars_read1 enc LD.gE LD.gEType Tryd.underlying59 hv0 trivial _)
  clear hV hV2
  have k0 := h0
  have lt0 : ∀ x ∈ p0, x.block < W.heap.size := by obtain ⟨m, hm⟩ := k0; exact DataW.trod_lt m _ _ _ hm
  obtain ⟨a0, len0, cap0, rfl⟩ := okWide_slice Tryd.underlying28 (hval 0 28 v0 rfl rfl)
  obtain ⟨z0, wz0⟩ : ∃ zs, IsRow .u8 W a0 len0 cap0 zs := by
    obtain ⟨fuel, hf⟩ := h0
    rcases open_ints Tryd.underlying28 Tryd.underlying5 (by kernel_rfl) hf with ⟨hcs, _⟩ | ⟨x, l, c, zs, hcs, _, hl, hm, hz, _, hcell, hwz⟩
    · simp [Value.cells] at hcs
      obtain ⟨rfl, rfl, rfl⟩ := hcs
      exact ⟨[], .inl ⟨rfl, rfl, rfl, rfl⟩⟩
    · simp [Value.cells] at hcs
      obtain ⟨rfl, rfl, rfl⟩ := hcs
      exact ⟨zs, .inr ⟨_, rfl, hl, hm, by simpa using hz, hcell, hwz⟩⟩
  clear hA0 hval0
  refine (walk a0 len0 cap0 z0 W wz0 b0 hg0).mono fun e W' ⟨he, bel⟩ => ?_
  subst he
  exact ⟨_, rfl, _, _, _, [], _, [.cell 0 0], hW', trodAll_mk1 (shut_bool Tryd.underlying4 _), (trodAll_cons_mk (Below.trod laidOut (by kernel_rfl) (of_decide_eq_true (by kernel_rfl)) k0 bel lt0) trodAll_mk0), vars_read1 enc LD.gE LD.gEType Tryd.underlying59 (LD.var_below hv0 bel) trivial _, bel.frame _, fun h => by cases h⟩
theorem over : Rows.fnResizePanesRow.holds Tryd.pinned (OpenSpec.ofChange Rows.fnResizePanesSpec) :=
  OpenClaim.holds_of_wide 5 Tryd.f5 rfl rfl rfl rfl rfl rfl rfl ⟨rfl, rfl, rfl, rfl, rfl⟩ rfl rfl rfl rfl rfl (by kernel_rfl) Tryd.func5 (by kernel_rfl)
    (of_decide_eq_true (by kernel_rfl)) (by unfold Func.isWrapper; first | (rw [if_pos (by decide +kernel)]; kernel_rfl) | (rw [if_neg (by decide +kernel)]; exact ⟨rfl, rfl⟩))
    (fun os started H enc _ => lifted os started H enc)
theorem proved : Rows.FnResizePanesCardSaid :=
  Claim7.holds_tied_plain_at .later [] [.sentinel] true (true, "75e81dd97c9cfb63a1fb11cff37c3892da58c4b35b0c8750450bf23e2f61e971") true over (fun _ h => by cases h) (by kernel_rfl) (fun _ h => by cases h) fnResizePanes_row_tie rfl ⟨rfl, rfl⟩ (by kernel_rfl) rfl
    (fun f fn hf hfn => by
      obtain rfl : f = 5 := Option.some.inj ((show Tryd.prog.funcNamed "loop.example/widgetroom/laws.FnResizePanes" = some 5 by kernel_rfl).symm.trans hf) |>.symm
      obtain rfl : fn = Tryd.f5 := (Option.some.inj (Tryd.func5.symm.trans hfn)).symm
      refine ⟨by kernel_rfl, fun j t ht => ?_⟩
      rw [Tryd.params5] at ht
      rcases j with _ | j
      · exact (Option.some.inj ht) ▸ (show Tryd.prog.wantsStandIn 28 = false by kernel_rfl)
      · simp at ht)
    (by kernel_rfl)
end Go.Proofs.YtjdjahckdgbkbaeDoor.lResizePanes
