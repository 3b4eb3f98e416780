import Derived.Test.YtikndbinlpmgaaaQ12
section
namespace Go.Proofs.Ytikndbinlpmgaaa
open Go.RowKit
set_option linter.unusedVariables false
set_option maxHeartbeats 1000000
attribute [local go_sem 5000] run_mx run_mn
attribute [local go_sem] growUpon_value growUpon_skip growUpon_enter
theorem Chg.cellsH {S : List Nat} {w w' : World} (h : Chg S w w') {b : Nat} {o : Obj} (hb : w.heap[b]? = some o) (hs : b ∉ S) : w'.heap[b]? = some o := (h.block b (ltS hb) hs).trans hb
set_option maxRecDepth 100000 in
theorem gridRoom_any {B rb : Nat} {A : Option Addr} {l c m : Nat} (w : World) (h : Rd B rb A l c m w) (hm : m ≤ 400000) :
    Calls Try.prog 30 #[.pointer (some ⟨rb, 0, none⟩)] w fun e w' => (∃ (A1 : Option Addr) (c1 : Nat) (L1 : List Ln) (A2 : Option Addr) (c2 : Nat) (L2 : List Ln) (A3 : Option Addr) (c3 : Nat) (L3 : List Ce) (u v : Int), e = .returned (.tuple #[.agg #[.slice A1 L1.length c1, .slice A2 L2.length c2, .slice A3 L3.length c3], .int .i64 u, .int .i64 v]) ∧ LnO w.heap.size w' (.slice A1 L1.length c1) L1 ∧ LnO w.heap.size w' (.slice A2 L2.length c2) L2 ∧ CeO w.heap.size w' (.slice A3 L3.length c3) L3 ∧ L1.length ≤ 5 ∧ L2.length ≤ 5 ∧ L3.length ≤ 8 ∧ (-1 ≤ u ∧ u ≤ 3000) ∧ (-1 ≤ v ∧ v ≤ 3000)) ∧ Rd B rb A l c (m + 9000) w' ∧ Chg [rb] w w' := by
  have hlt := h.lt
  have hBrb := h.base
  go_enter Try.func30, Try.ntmps30
  go_upto_region 1 with (fail)
  refine wp_genGS (fun W => W.heap[w.heap.size]? = some (.cells #[.slice none 0 0, .slice none 0 0, .slice none 0 0] 26 (0, 0)) ∧ Rd B rb A l c m W ∧ Chg [rb] w W ∧ w.heap.size < W.heap.size) ⟨newS _ _, h.alloc _, (Chg.refl _ _).alloc _, by simp⟩ (fun W0 h0 => ?_)
  obtain ⟨hz, hr0, hc0, hs0⟩ := h0
  have HZ := Lib.hid hz
  have HC := Lib.hid hc0
  clear hz hc0
  go_wp2_with fail
  with_reducible refine (someGrid_any W0 hr0 (by omega)).mono ?_
  rintro e w1 ⟨⟨A1, c1, L1, A2, c2, L2, A3, c3, L3, rfl, hL1, hL2, hL3, h15, h25, h38⟩, hr1, hc1⟩
  have hs1 := hc1.size
  replace HZ := Lib.hid (hc1.cellsH HZ.out (by simp; omega))
  replace HC := Lib.hid (HC.out.trans hc1)
  obtain ⟨A1', c1', e1, hcap1, hv1, hbl1⟩ := hL1
  obtain ⟨A2', c2', e2, hcap2, hv2, hbl2⟩ := hL2
  obtain ⟨A3', c3', e3, hcap3, hv3, hbl3⟩ := hL3
  cases e1
  cases e2
  cases e3
  have hn1 : ∀ a : Addr, A1 = some a → a.block ≠ rb := fun a ha => by have := hbl1 a ha; omega
  have hn2 : ∀ a : Addr, A2 = some a → a.block ≠ rb := fun a ha => by have := hbl2 a ha; omega
  have hn3 : ∀ a : Addr, A3 = some a → a.block ≠ rb := fun a ha => by have := hbl3 a ha; omega
  have k1 : L1.length ≤ 1048576 := by omega
  have k2 : L2.length ≤ 1048576 := by omega
  have k3 : L3.length ≤ 1048576 := by omega
  have HV1 := Lib.hid hv1
  have HV2 := Lib.hid hv2
  have HV3 := Lib.hid hv3
  have HR := Lib.hid hr1
  clear hr0 hr1 hc1 hv1 hv2 hv3
  go_upto_region 2 with (fail)
  refine wp_genGS (fun W => W.heap[w1.heap.size]? = some (.cells #[.slice A1 L1.length c1, .slice A2 L2.length c2, .slice A3 L3.length c3] 26 (0, 0)) ∧ W.heap[w.heap.size]? = some (.cells #[.slice none 0 0, .slice none 0 0, .slice none 0 0] 26 (0, 0)) ∧ LnV W A1 L1 ∧ LnV W A2 L2 ∧ CeV W A3 L3 ∧ Rd B rb A l c (m + 8000) W ∧ Chg [rb] w W) ⟨newS _ _, (Below.heap_alloc _ _ _ (ltS HZ.out)).trans HZ.out, HV1.out.keep (balloc (Below.refl _ _)), HV2.out.keep (balloc (Below.refl _ _)), HV3.out.keep (balloc (Below.refl _ _)), HR.out.alloc _, HC.out.alloc _⟩ (fun W1 h1 => ?_)
  clear HZ HC HV1 HV2 HV3 HR
  obtain ⟨hx, hz, hv1, hv2, hv3, hr, hc⟩ := h1
  obtain ⟨bx, hbx⟩ : ∃ b, w1.heap.size = b := ⟨_, rfl⟩
  have hbxr : bx ≠ rb := by omega
  have hbx0 : w.heap.size < bx := by omega
  rw [hbx] at hx
  rw [hbx]
  have HX := Lib.hid hx
  have HZ := Lib.hid hz
  have HV1 := Lib.hid hv1
  have HV2 := Lib.hid hv2
  have HV3 := Lib.hid hv3
  have HR := Lib.hid hr
  have HC := Lib.hid hc
  clear hx hz hv1 hv2 hv3 hr hc hbx
  go_wp2_with fail
  with_reducible refine (one_lit_in (0) 401 _ HR.out (by omega) (by simp) (by omega) (by omega) (by simp [isIn])).mono ?_
  rintro e w2 ⟨⟨y, rfl, ya, yb⟩, hr2, hc2⟩
  replace HX := Lib.hid (hc2.cellsH HX.out (by simpa using hbxr))
  replace HZ := Lib.hid (hc2.cellsH HZ.out (by simp; omega))
  replace HV1 := Lib.hid (HV1.out.chgG hc2 hn1)
  replace HV2 := Lib.hid (HV2.out.chgG hc2 hn2)
  replace HV3 := Lib.hid (HV3.out.chgG hc2 hn3)
  replace HC := Lib.hid (HC.out.trans hc2)
  replace HR := Lib.hid hr2
  clear hr2 hc2
  go_wp2_with fail
  with_reducible refine (one_lit_in (-1) 400 _ HR.out (by omega) (by simp) (by omega) (by omega) (by simp [isIn])).mono ?_
  rintro e w3 ⟨⟨z, rfl, za, zb⟩, hr3, hc3⟩
  replace HX := Lib.hid (hc3.cellsH HX.out (by simpa using hbxr))
  replace HZ := Lib.hid (hc3.cellsH HZ.out (by simp; omega))
  replace HV1 := Lib.hid (HV1.out.chgG hc3 hn1)
  replace HV2 := Lib.hid (HV2.out.chgG hc3 hn2)
  replace HV3 := Lib.hid (HV3.out.chgG hc3 hn3)
  replace HC := Lib.hid (HC.out.trans hc3)
  replace HR := Lib.hid hr3
  clear hr3 hc3
  obtain ⟨t, ht⟩ : ∃ t, gridB L1 L2 L3 = t := ⟨_, rfl⟩
  have d0 := cellS HX.out 0
  have d1 := cellS HX.out 1
  have d2 := cellS HX.out 2
  go_wp2_with fail
  with_reducible refine (svalidGrid_v A1 c1 L1 A2 c2 L2 A3 c3 L3 t _ HV1.out HV2.out HV3.out k1 k2 k3 ht).mono ?_
  rintro e w4 ⟨rfl, hb⟩
  clear d0 d1 d2
  replace HX := Lib.hid ((hb.block _ (ltS HX.out)).trans HX.out)
  replace HZ := Lib.hid ((hb.block _ (ltS HZ.out)).trans HZ.out)
  replace HV1 := Lib.hid (HV1.out.keep hb)
  replace HV2 := Lib.hid (HV2.out.keep hb)
  replace HV3 := Lib.hid (HV3.out.keep hb)
  replace HC := Lib.hid (HC.out.of_below hb)
  replace HR := Lib.hid (HR.out.below hb)
  clear hb
  cases t
  · clear ht
    have y0 := cellS HX.out 0
    have y1 := cellS HX.out 1
    have y2 := cellS HX.out 2
    have u0' := cellS HZ.out 0
    have u1' := cellS HZ.out 1
    have u2' := cellS HZ.out 2
    have g0' := frozenS HZ.out 0
    have g1' := frozenS HZ.out 1
    have g2' := frozenS HZ.out 2
    have hzl := ltS HZ.out
    have E1 := Lib.hid (put3s2 (put3s1 (put3s0 HZ.out (.slice A1 L1.length c1)) (.slice A2 L2.length c2)) (.slice A3 L3.length c3))
    have E2 := Lib.hid ((((HR.out.mono (show _ ≤ m + 9000 by omega)).setCell (p := ⟨w.heap.size, 0, none⟩) (by simp; omega) (by simp; omega) (.slice A1 L1.length c1)).setCell (p := ⟨w.heap.size, 1, none⟩) (by simp; omega) (by simp; omega) (.slice A2 L2.length c2)).setCell (p := ⟨w.heap.size, 2, none⟩) (by simp; omega) (by simp; omega) (.slice A3 L3.length c3))
    have E3 := Lib.hid (((HC.out.setCell (p := ⟨w.heap.size, 0, none⟩) (.inr (by simp)) (.slice A1 L1.length c1)).setCell (p := ⟨w.heap.size, 1, none⟩) (.inr (by simp)) (.slice A2 L2.length c2)).setCell (p := ⟨w.heap.size, 2, none⟩) (.inr (by simp)) (.slice A3 L3.length c3))
    have hcz := (((Chg.refl [w.heap.size] w4).setCell (p := ⟨w.heap.size, 0, none⟩) (.inl (by simp)) (.slice A1 L1.length c1)).setCell (p := ⟨w.heap.size, 1, none⟩) (.inl (by simp)) (.slice A2 L2.length c2)).setCell (p := ⟨w.heap.size, 2, none⟩) (.inl (by simp)) (.slice A3 L3.length c3)
    have E4 := Lib.hid (HV1.out.chgS hcz (fun a ha => by have := hbl1 a ha; simp; omega))
    have E5 := Lib.hid (HV2.out.chgS hcz (fun a ha => by have := hbl2 a ha; simp; omega))
    have E6 := Lib.hid (HV3.out.chgS hcz (fun a ha => by have := hbl3 a ha; simp; omega))
    clear hcz
    go_wp2
    refine bp_genGS (fun W => W.heap[w.heap.size]? = some (.cells #[.slice A1 L1.length c1, .slice A2 L2.length c2, .slice A3 L3.length c3] 26 (0, 0)) ∧ Rd B rb A l c (m + 9000) W ∧ Chg [rb] w W ∧ LnV W A1 L1 ∧ LnV W A2 L2 ∧ CeV W A3 L3) ⟨E1.out, E2.out, E3.out, E4.out, E5.out, E6.out⟩ ?_
    clear HX HZ HR HC HV1 HV2 HV3 E1 E2 E3 E4 E5 E6 y0 y1 y2 u0' u1' u2' g0' g1' g2'
    rintro W ⟨hp, hrW, hcW, hw1, hw2, hw3⟩
    have q0 := cellS hp 0
    have q1 := cellS hp 1
    have q2 := cellS hp 2
    exact bodyPost_ret (v := .tuple #[.agg #[.slice A1 L1.length c1, .slice A2 L2.length c2, .slice A3 L3.length c3], .int .i64 (y), .int .i64 (z)]) (by simp only [results, Try.results30]; go_simp) rfl ⟨⟨A1, c1, L1, A2, c2, L2, A3, c3, L3, _, _, rfl, ⟨A1, c1, rfl, hcap1, hw1, fun a ha => by have := hbl1 a ha; omega⟩, ⟨A2, c2, rfl, hcap2, hw2, fun a ha => by have := hbl2 a ha; omega⟩, ⟨A3, c3, rfl, hcap3, hw3, fun a ha => by have := hbl3 a ha; omega⟩, h15, h25, h38, by omega, by omega⟩, hrW, hcW⟩
  · have HT := Lib.hid ht
    clear ht
    go_wp2_with fail
    with_reducible refine (pick_any 2 _ HR.out (by omega)).mono ?_
    rintro e w5 ⟨⟨q, rfl, -⟩, hr5, hc5⟩
    replace HX := Lib.hid (hc5.cellsH HX.out (by simpa using hbxr))
    replace HZ := Lib.hid (hc5.cellsH HZ.out (by simp; omega))
    replace HV1 := Lib.hid (HV1.out.chgG hc5 hn1)
    replace HV2 := Lib.hid (HV2.out.chgG hc5 hn2)
    replace HV3 := Lib.hid (HV3.out.chgG hc5 hn3)
    replace HC := Lib.hid (HC.out.trans hc5)
    replace HR := Lib.hid hr5
    clear hr5 hc5
    by_cases hq : q = 0
    · subst hq
      obtain ⟨gv1, gv2, -, -, gs1, gs2⟩ := gridB_yes HT.out
      have w1b := (wish_ok gv1 gs1).2.2.2
      have w2b := (wish_ok gv2 gs2).2.2.2
      obtain ⟨qa, hqa⟩ : ∃ x, sumI (wishM L1 (L3.map acM)) = x := ⟨_, rfl⟩
      obtain ⟨qb, hqb⟩ : ∃ x, sumI (wishM L2 (L3.map dnM)) = x := ⟨_, rfl⟩
      rw [hqa] at w1b
      rw [hqb] at w2b
      have HQA := Lib.hid hqa
      have HQB := Lib.hid hqb
      clear gv1 gv2 gs1 gs2 hqa hqb
      have d0 := cellS HX.out 0
      have d1 := cellS HX.out 1
      have d2 := cellS HX.out 2
      go_wp2_with fail
      with_reducible refine (sgridRequest_v A1 c1 L1 A2 c2 L2 A3 c3 L3 _ HV1.out HV2.out HV3.out HT.out hcap1 hcap2).mono ?_
      rintro e w6 ⟨rfl, hb⟩
      rw [HQA.out, HQB.out]
      clear d0 d1 d2
      replace HX := Lib.hid ((hb.block _ (ltS HX.out)).trans HX.out)
      replace HZ := Lib.hid ((hb.block _ (ltS HZ.out)).trans HZ.out)
      replace HV1 := Lib.hid (HV1.out.keep hb)
      replace HV2 := Lib.hid (HV2.out.keep hb)
      replace HV3 := Lib.hid (HV3.out.keep hb)
      replace HC := Lib.hid (HC.out.of_below hb)
      replace HR := Lib.hid (HR.out.below hb)
      clear hb
      go_wp2_with fail
      with_reducible refine (one_lit_in (-4) 9 _ HR.out (by omega) (by simp) (by omega) (by omega) (by simp [isIn])).mono ?_
      rintro e w7 ⟨⟨s, rfl, sa, sb⟩, hr7, hc7⟩
      replace HX := Lib.hid (hc7.cellsH HX.out (by simpa using hbxr))
      replace HZ := Lib.hid (hc7.cellsH HZ.out (by simp; omega))
      replace HV1 := Lib.hid (HV1.out.chgG hc7 hn1)
      replace HV2 := Lib.hid (HV2.out.chgG hc7 hn2)
      replace HV3 := Lib.hid (HV3.out.chgG hc7 hn3)
      replace HC := Lib.hid (HC.out.trans hc7)
      replace HR := Lib.hid hr7
      clear hr7 hc7
      obtain ⟨ma, mb⟩ : 0 ≤ mx 0 (qa + s) ∧ mx 0 (qa + s) ≤ 2200 := by have := mx_spec 0 (qa + s); omega
      go_wp2_with fail
      with_reducible refine (one_lit_in (-3) 7 _ HR.out (by omega) (by simp) (by omega) (by omega) (by simp [isIn])).mono ?_
      rintro e w8 ⟨⟨t, rfl, ta, tb⟩, hr8, hc8⟩
      replace HX := Lib.hid (hc8.cellsH HX.out (by simpa using hbxr))
      replace HZ := Lib.hid (hc8.cellsH HZ.out (by simp; omega))
      replace HV1 := Lib.hid (HV1.out.chgG hc8 hn1)
      replace HV2 := Lib.hid (HV2.out.chgG hc8 hn2)
      replace HV3 := Lib.hid (HV3.out.chgG hc8 hn3)
      replace HC := Lib.hid (HC.out.trans hc8)
      replace HR := Lib.hid hr8
      clear hr8 hc8
      obtain ⟨mc, md⟩ : 0 ≤ mx 0 (qb + t) ∧ mx 0 (qb + t) ≤ 2200 := by have := mx_spec 0 (qb + t); omega
      have y0 := cellS HX.out 0
      have y1 := cellS HX.out 1
      have y2 := cellS HX.out 2
      have u0' := cellS HZ.out 0
      have u1' := cellS HZ.out 1
      have u2' := cellS HZ.out 2
      have g0' := frozenS HZ.out 0
      have g1' := frozenS HZ.out 1
      have g2' := frozenS HZ.out 2
      have hzl := ltS HZ.out
      have E1 := Lib.hid (put3s2 (put3s1 (put3s0 HZ.out (.slice A1 L1.length c1)) (.slice A2 L2.length c2)) (.slice A3 L3.length c3))
      have E2 := Lib.hid ((((HR.out.mono (show _ ≤ m + 9000 by omega)).setCell (p := ⟨w.heap.size, 0, none⟩) (by simp; omega) (by simp; omega) (.slice A1 L1.length c1)).setCell (p := ⟨w.heap.size, 1, none⟩) (by simp; omega) (by simp; omega) (.slice A2 L2.length c2)).setCell (p := ⟨w.heap.size, 2, none⟩) (by simp; omega) (by simp; omega) (.slice A3 L3.length c3))
      have E3 := Lib.hid (((HC.out.setCell (p := ⟨w.heap.size, 0, none⟩) (.inr (by simp)) (.slice A1 L1.length c1)).setCell (p := ⟨w.heap.size, 1, none⟩) (.inr (by simp)) (.slice A2 L2.length c2)).setCell (p := ⟨w.heap.size, 2, none⟩) (.inr (by simp)) (.slice A3 L3.length c3))
      have hcz := (((Chg.refl [w.heap.size] w8).setCell (p := ⟨w.heap.size, 0, none⟩) (.inl (by simp)) (.slice A1 L1.length c1)).setCell (p := ⟨w.heap.size, 1, none⟩) (.inl (by simp)) (.slice A2 L2.length c2)).setCell (p := ⟨w.heap.size, 2, none⟩) (.inl (by simp)) (.slice A3 L3.length c3)
      have E4 := Lib.hid (HV1.out.chgS hcz (fun a ha => by have := hbl1 a ha; simp; omega))
      have E5 := Lib.hid (HV2.out.chgS hcz (fun a ha => by have := hbl2 a ha; simp; omega))
      have E6 := Lib.hid (HV3.out.chgS hcz (fun a ha => by have := hbl3 a ha; simp; omega))
      clear hcz
      go_wp2
      refine bp_genGS (fun W => W.heap[w.heap.size]? = some (.cells #[.slice A1 L1.length c1, .slice A2 L2.length c2, .slice A3 L3.length c3] 26 (0, 0)) ∧ Rd B rb A l c (m + 9000) W ∧ Chg [rb] w W ∧ LnV W A1 L1 ∧ LnV W A2 L2 ∧ CeV W A3 L3) ⟨E1.out, E2.out, E3.out, E4.out, E5.out, E6.out⟩ ?_
      clear HX HZ HR HC HV1 HV2 HV3 E1 E2 E3 E4 E5 E6 y0 y1 y2 u0' u1' u2' g0' g1' g2'
      rintro W ⟨hp, hrW, hcW, hw1, hw2, hw3⟩
      have q0 := cellS hp 0
      have q1 := cellS hp 1
      have q2 := cellS hp 2
      exact bodyPost_ret (v := .tuple #[.agg #[.slice A1 L1.length c1, .slice A2 L2.length c2, .slice A3 L3.length c3], .int .i64 (mx 0 (qa + s)), .int .i64 (mx 0 (qb + t))]) (by simp only [results, Try.results30]; go_simp) rfl ⟨⟨A1, c1, L1, A2, c2, L2, A3, c3, L3, _, _, rfl, ⟨A1, c1, rfl, hcap1, hw1, fun a ha => by have := hbl1 a ha; omega⟩, ⟨A2, c2, rfl, hcap2, hw2, fun a ha => by have := hbl2 a ha; omega⟩, ⟨A3, c3, rfl, hcap3, hw3, fun a ha => by have := hbl3 a ha; omega⟩, h15, h25, h38, by omega, by omega⟩, hrW, hcW⟩
    · have e0 : (q == 0) = false := by simpa using hq
      have y0 := cellS HX.out 0
      have y1 := cellS HX.out 1
      have y2 := cellS HX.out 2
      have u0' := cellS HZ.out 0
      have u1' := cellS HZ.out 1
      have u2' := cellS HZ.out 2
      have g0' := frozenS HZ.out 0
      have g1' := frozenS HZ.out 1
      have g2' := frozenS HZ.out 2
      have hzl := ltS HZ.out
      have E1 := Lib.hid (put3s2 (put3s1 (put3s0 HZ.out (.slice A1 L1.length c1)) (.slice A2 L2.length c2)) (.slice A3 L3.length c3))
      have E2 := Lib.hid ((((HR.out.mono (show _ ≤ m + 9000 by omega)).setCell (p := ⟨w.heap.size, 0, none⟩) (by simp; omega) (by simp; omega) (.slice A1 L1.length c1)).setCell (p := ⟨w.heap.size, 1, none⟩) (by simp; omega) (by simp; omega) (.slice A2 L2.length c2)).setCell (p := ⟨w.heap.size, 2, none⟩) (by simp; omega) (by simp; omega) (.slice A3 L3.length c3))
      have E3 := Lib.hid (((HC.out.setCell (p := ⟨w.heap.size, 0, none⟩) (.inr (by simp)) (.slice A1 L1.length c1)).setCell (p := ⟨w.heap.size, 1, none⟩) (.inr (by simp)) (.slice A2 L2.length c2)).setCell (p := ⟨w.heap.size, 2, none⟩) (.inr (by simp)) (.slice A3 L3.length c3))
      have hcz := (((Chg.refl [w.heap.size] w5).setCell (p := ⟨w.heap.size, 0, none⟩) (.inl (by simp)) (.slice A1 L1.length c1)).setCell (p := ⟨w.heap.size, 1, none⟩) (.inl (by simp)) (.slice A2 L2.length c2)).setCell (p := ⟨w.heap.size, 2, none⟩) (.inl (by simp)) (.slice A3 L3.length c3)
      have E4 := Lib.hid (HV1.out.chgS hcz (fun a ha => by have := hbl1 a ha; simp; omega))
      have E5 := Lib.hid (HV2.out.chgS hcz (fun a ha => by have := hbl2 a ha; simp; omega))
      have E6 := Lib.hid (HV3.out.chgS hcz (fun a ha => by have := hbl3 a ha; simp; omega))
      clear hcz
      go_wp2
      refine bp_genGS (fun W => W.heap[w.heap.size]? = some (.cells #[.slice A1 L1.length c1, .slice A2 L2.length c2, .slice A3 L3.length c3] 26 (0, 0)) ∧ Rd B rb A l c (m + 9000) W ∧ Chg [rb] w W ∧ LnV W A1 L1 ∧ LnV W A2 L2 ∧ CeV W A3 L3) ⟨E1.out, E2.out, E3.out, E4.out, E5.out, E6.out⟩ ?_
      clear HX HZ HR HC HV1 HV2 HV3 E1 E2 E3 E4 E5 E6 y0 y1 y2 u0' u1' u2' g0' g1' g2'
      rintro W ⟨hp, hrW, hcW, hw1, hw2, hw3⟩
      have q0 := cellS hp 0
      have q1 := cellS hp 1
      have q2 := cellS hp 2
      exact bodyPost_ret (v := .tuple #[.agg #[.slice A1 L1.length c1, .slice A2 L2.length c2, .slice A3 L3.length c3], .int .i64 (y), .int .i64 (z)]) (by simp only [results, Try.results30]; go_simp) rfl ⟨⟨A1, c1, L1, A2, c2, L2, A3, c3, L3, _, _, rfl, ⟨A1, c1, rfl, hcap1, hw1, fun a ha => by have := hbl1 a ha; omega⟩, ⟨A2, c2, rfl, hcap2, hw2, fun a ha => by have := hbl2 a ha; omega⟩, ⟨A3, c3, rfl, hcap3, hw3, fun a ha => by have := hbl3 a ha; omega⟩, h15, h25, h38, by omega, by omega⟩, hrW, hcW⟩
end Go.Proofs.Ytikndbinlpmgaaa
end
section
namespace Go.Proofs.Ytikndbinlpmgaaa
open Go.RowKit
set_option linter.unusedVariables false
set_option maxHeartbeats 1000000
attribute [local go_sem] growUpon_value growUpon_skip growUpon_enter
set_option maxRecDepth 100000 in
theorem DrawGridRects_any (A : Option Addr) (n c : Nat) (w : World) (h : Bts w A n) (hn : n ≤ c) (hc : c ≤ maxLen) :
    Calls Try.prog 9 #[.slice A n c] w fun e w' => (∃ (A1 : Option Addr) (c1 : Nat) (L1 : List Ln) (A2 : Option Addr) (c2 : Nat) (L2 : List Ln) (A3 : Option Addr) (c3 : Nat) (L3 : List Ce) (u v : Int), e = .returned (.tuple #[.agg #[.slice A1 L1.length c1, .slice A2 L2.length c2, .slice A3 L3.length c3], .int .i64 u, .int .i64 v]) ∧ LnV w' A1 L1 ∧ LnV w' A2 L2 ∧ CeV w' A3 L3 ∧ (L1.length ≤ 5 ∧ L2.length ≤ 5 ∧ L3.length ≤ 8) ∧ L1.length ≤ c1 ∧ L2.length ≤ c2 ∧ L3.length ≤ c3 ∧ (-1 ≤ u ∧ u ≤ 3000) ∧ (-1 ≤ v ∧ v ≤ 3000)) ∧ Below w.heap.size w w' := by
  go_enter Try.func9, Try.ntmps9
  go_upto_region 1 with (fail)
  refine wp_genGS (fun W => W.heap[w.heap.size]? = some (.cells #[.slice none 0 0, .slice none 0 0, .slice none 0 0] 26 (0, 0)) ∧ Bts W A n ∧ Below w.heap.size w W ∧ w.heap.size < W.heap.size) ⟨newS _ _, h.alloc _, balloc (Below.refl _ _), by simp⟩ (fun W0 h0 => ?_)
  obtain ⟨hz, hb0, hB0, hs0⟩ := h0
  have HZ := Lib.hid hz
  have HB := Lib.hid hB0
  clear hz hB0
  go_wp2_with fail
  with_reducible refine (newReader_any A n c _ hb0 hn hc).mono ?_
  rintro e w1 ⟨n', rfl, hr1, hc1⟩
  have hs1 := hc1.size
  replace HZ := Lib.hid ((hc1.block _ hs0 (by simp)).trans HZ.out)
  have HC := Lib.hid (hc1.mono (S' := [W0.heap.size]) (by simp))
  clear hc1 hb0
  go_wp2_with fail
  with_reducible refine (gridRoom_any w1 hr1 (by omega)).mono ?_
  rintro e w2 ⟨⟨A1, c1, L1, A2, c2, L2, A3, c3, L3, u, v, rfl, hL1, hL2, hL3, h15, h25, h38, hu, hv⟩, hr2, hc2⟩
  have hs2 := hc2.size
  replace HZ := Lib.hid ((hc2.block _ (by omega) (by simp; omega)).trans HZ.out)
  replace HC := Lib.hid (HC.out.trans hc2)
  have HBB := Lib.hid (HB.out.trans ((Chg.below HC.out (Nat.le_refl _) (by simp)).mono (by omega)))
  obtain ⟨A1', c1', e1, hcap1, hv1, hbl1⟩ := hL1
  obtain ⟨A2', c2', e2, hcap2, hv2, hbl2⟩ := hL2
  obtain ⟨A3', c3', e3, hcap3, hv3, hbl3⟩ := hL3
  cases e1
  cases e2
  cases e3
  have HV1 := Lib.hid hv1
  have HV2 := Lib.hid hv2
  have HV3 := Lib.hid hv3
  clear hr1 hr2 hc2 HB HC hv1 hv2 hv3
  have u0 := cellS HZ.out 0
  have u1 := cellS HZ.out 1
  have u2 := cellS HZ.out 2
  have g0 := frozenS HZ.out 0
  have g1 := frozenS HZ.out 1
  have g2 := frozenS HZ.out 2
  have hzl := ltS HZ.out
  have E1 := Lib.hid (put3s2 (put3s1 (put3s0 HZ.out (.slice A1 L1.length c1)) (.slice A2 L2.length c2)) (.slice A3 L3.length c3))
  go_wp2
  refine bp_genGS (fun W => W.heap[w.heap.size]? = some (.cells #[.slice A1 L1.length c1, .slice A2 L2.length c2, .slice A3 L3.length c3] 26 (0, 0)) ∧ Below w.heap.size w W ∧ Chg [w.heap.size] w2 W) ⟨E1.out, (((HBB.out.setCell (p := ⟨w.heap.size, 0, none⟩) (by simp) _).setCell (p := ⟨w.heap.size, 1, none⟩) (by simp) _).setCell (p := ⟨w.heap.size, 2, none⟩) (by simp) _), ((((Chg.refl [w.heap.size] _).setCell (p := ⟨w.heap.size, 0, none⟩) (.inl (by simp)) _).setCell (p := ⟨w.heap.size, 1, none⟩) (.inl (by simp)) _).setCell (p := ⟨w.heap.size, 2, none⟩) (.inl (by simp)) _)⟩ ?_
  clear HZ HBB E1 u0 u1 u2 g0 g1 g2
  rintro W ⟨hp, hbW, hcf⟩
  have q0 := cellS hp 0
  have q1 := cellS hp 1
  have q2 := cellS hp 2
  exact bodyPost_ret (v := .tuple #[.agg #[.slice A1 L1.length c1, .slice A2 L2.length c2, .slice A3 L3.length c3], .int .i64 u, .int .i64 v]) (by simp only [results, Try.results9]; go_simp) rfl ⟨⟨A1, c1, L1, A2, c2, L2, A3, c3, L3, u, v, rfl, HV1.out.chgS hcf (fun a ha => by have := hbl1 a ha; simp; omega), HV2.out.chgS hcf (fun a ha => by have := hbl2 a ha; simp; omega), HV3.out.chgS hcf (fun a ha => by have := hbl3 a ha; simp; omega), ⟨h15, h25, h38⟩, hcap1, hcap2, hcap3, hu, hv⟩, hbW⟩
end Go.Proofs.Ytikndbinlpmgaaa
end
section
namespace Go.Proofs.Ytikndbinlpmgaaa
open Go.RowKit
set_option linter.unusedVariables false
set_option maxHeartbeats 2000000
attribute [local go_sem] givesUpon_value givesUpon_skip givesUpon_enter
structure HG (B rb bx b0 : Nat) (A : Option Addr) (n c : Nat) (A1 : Option Addr) (n1 c1 : Nat) (A2 : Option Addr) (n2 c2 : Nat) (A3 : Option Addr) (n3 c3 : Nat) (m : Nat) (w : World) : Prop where
  rd : Rd B rb A n c m w
  hx : w.heap[bx]? = some (.cells #[.slice A1 n1 c1, .slice A2 n2 c2, .slice A3 n3 c3] 26 (0, 0))
  h0 : w.heap[b0]? = some (.cells #[.slice none 0 0, .slice none 0 0, .slice none 0 0] 26 (0, 0)) ∨ w.heap[b0]? = some (.cells #[.slice A1 n1 c1, .slice A2 n2 c2, .slice A3 n3 c3] 26 (0, 0))
  n1 : bx ≠ rb
  n2 : b0 ≠ rb
  n3 : bx ≠ b0
  l1 : B ≤ b0
theorem put3Chg {S : List Nat} {a w : World} {b : Nat} (h : Chg S a w) (hb : b ∈ S) (x0 x1 x2 : Value) : Chg S a (((w.setCell ⟨b, 0, none⟩ x0).setCell ⟨b, 1, none⟩ x1).setCell ⟨b, 2, none⟩ x2) :=
  ((h.setCell (p := ⟨b, 0, none⟩) (.inl hb) _).setCell (p := ⟨b, 1, none⟩) (.inl hb) _).setCell (p := ⟨b, 2, none⟩) (.inl hb) _
section
variable {B rb bx b0 : Nat} {A : Option Addr} {n c : Nat} {A1 : Option Addr} {n1 c1 : Nat} {A2 : Option Addr} {n2 c2 : Nat} {A3 : Option Addr} {n3 c3 : Nat} {m : Nat} {w w' : World}
theorem HG.lt0 (h : HG B rb bx b0 A n c A1 n1 c1 A2 n2 c2 A3 n3 c3 m w) : b0 < w.heap.size := by rcases h.h0 with ha | ha <;> exact ltS ha
theorem HG.at0 (h : HG B rb bx b0 A n c A1 n1 c1 A2 n2 c2 A3 n3 c3 m w) : (∃ v, w.cell? ⟨b0, 0, none⟩ = some v) ∧ (∃ v, w.cell? ⟨b0, 1, none⟩ = some v) ∧ (∃ v, w.cell? ⟨b0, 2, none⟩ = some v) ∧ w.frozen? ⟨b0, 0, none⟩ = false ∧ w.frozen? ⟨b0, 1, none⟩ = false ∧ w.frozen? ⟨b0, 2, none⟩ = false := by
  rcases h.h0 with ha | ha <;> exact ⟨⟨_, cellS ha 0⟩, ⟨_, cellS ha 1⟩, ⟨_, cellS ha 2⟩, frozenS ha 0, frozenS ha 1, frozenS ha 2⟩
theorem HG.base (h : HG B rb bx b0 A n c A1 n1 c1 A2 n2 c2 A3 n3 c3 m w) : B ≤ w.heap.size := by have := h.rd.lt; have := h.rd.base; omega
theorem HG.lts (h : HG B rb bx b0 A n c A1 n1 c1 A2 n2 c2 A3 n3 c3 m w) : ∀ k ∈ [rb, b0], k < w.heap.size := by
  have h1 := h.rd.lt
  have h2 := h.lt0
  simp [h1, h2]
theorem HG.next (h : HG B rb bx b0 A n c A1 n1 c1 A2 n2 c2 A3 n3 c3 m w) : HG B rb bx b0 A n c A1 n1 c1 A2 n2 c2 A3 n3 c3 (m + 1) w := ⟨h.rd.mono (by omega), h.hx, h.h0, h.n1, h.n2, h.n3, h.l1⟩
theorem HG.drew (h : HG B rb bx b0 A n c A1 n1 c1 A2 n2 c2 A3 n3 c3 m w) : HG B rb bx b0 A n c A1 n1 c1 A2 n2 c2 A3 n3 c3 m w.drew := ⟨h.rd.drew, h.hx, h.h0, h.n1, h.n2, h.n3, h.l1⟩
theorem HG.alloc (h : HG B rb bx b0 A n c A1 n1 c1 A2 n2 c2 A3 n3 c3 m w) (o : Obj) : HG B rb bx b0 A n c A1 n1 c1 A2 n2 c2 A3 n3 c3 (m + 1) (w.alloc o) :=
  ⟨(h.rd.alloc o).mono (by omega), (Below.heap_alloc _ _ _ (ltS h.hx)).trans h.hx, h.h0.imp (fun ha => (Below.heap_alloc _ _ _ (ltS ha)).trans ha) (fun ha => (Below.heap_alloc _ _ _ (ltS ha)).trans ha), h.n1, h.n2, h.n3, h.l1⟩
theorem HG.call {m' : Nat} (h : HG B rb bx b0 A n c A1 n1 c1 A2 n2 c2 A3 n3 c3 m w) (hr : Rd B rb A n c m' w') (hc : Chg [rb] w w') : HG B rb bx b0 A n c A1 n1 c1 A2 n2 c2 A3 n3 c3 m' w' :=
  ⟨hr, (hc.block _ (ltS h.hx) (by simpa using h.n1)).trans h.hx, h.h0.imp (fun ha => (hc.block _ (ltS ha) (by simpa using h.n2)).trans ha) (fun ha => (hc.block _ (ltS ha) (by simpa using h.n2)).trans ha), h.n1, h.n2, h.n3, h.l1⟩
theorem HG.store0 (h : HG B rb bx b0 A n c A1 n1 c1 A2 n2 c2 A3 n3 c3 m w) : HG B rb bx b0 A n c A1 n1 c1 A2 n2 c2 A3 n3 c3 (m + 1) (((w.setCell ⟨b0, 0, none⟩ (.slice A1 n1 c1)).setCell ⟨b0, 1, none⟩ (.slice A2 n2 c2)).setCell ⟨b0, 2, none⟩ (.slice A3 n3 c3)) := by
  have hc := put3Chg (b := b0) (Chg.refl [b0] w) (by simp) (.slice A1 n1 c1) (.slice A2 n2 c2) (.slice A3 n3 c3)
  refine ⟨(((h.rd.setCell (p := ⟨b0, 0, none⟩) h.l1 h.n2 _).setCell (p := ⟨b0, 1, none⟩) h.l1 h.n2 _).setCell (p := ⟨b0, 2, none⟩) h.l1 h.n2 _).mono (by omega), (hc.block bx (ltS h.hx) (by simpa using h.n3)).trans h.hx, .inr ?_, h.n1, h.n2, h.n3, h.l1⟩
  rcases h.h0 with ha | ha <;> exact put3s2 (put3s1 (put3s0 ha _) _) _
end
def GAout (e : Ending) (w' : World) : Prop := ∃ (A1 : Option Addr) (c1 : Nat) (L1 : List Ln) (A2 : Option Addr) (c2 : Nat) (L2 : List Ln) (A3 : Option Addr) (c3 : Nat) (L3 : List Ce) (u v x y : Int), e = .returned (.tuple #[.agg #[.slice A1 L1.length c1, .slice A2 L2.length c2, .slice A3 L3.length c3], .int .i64 u, .int .i64 v, .int .i64 x, .int .i64 y]) ∧ LnV w' A1 L1 ∧ LnV w' A2 L2 ∧ CeV w' A3 L3 ∧ (L1.length ≤ 5 ∧ L2.length ≤ 5 ∧ L3.length ≤ 8) ∧ L1.length ≤ c1 ∧ L2.length ≤ c2 ∧ L3.length ≤ c3 ∧ (-1 ≤ u ∧ u ≤ 3000) ∧ (-1 ≤ v ∧ v ≤ 3000)
set_option maxRecDepth 100000 in
theorem DrawGridAt_any (A : Option Addr) (n c : Nat) (w : World) (h : Bts w A n) (hn : n ≤ c) (hc : c ≤ maxLen) :
    Calls Try.prog 17 #[.slice A n c] w fun e w' => GAout e w' ∧ Below w.heap.size w w' := by
  go_enter Try.func17, Try.ntmps17
  go_wp2_with fail
  with_reducible refine (newReader_low A n c _ h (by simp) (h.alloc _) hn hc).mono ?_
  rintro e w1 ⟨n', rfl, hr1, hc1⟩
  simp only [World.size_alloc] at hr1
  go_wp2_with fail
  with_reducible refine (gridRoom_any _ hr1 (by omega)).mono ?_
  rintro e w2 ⟨⟨A1, c1, L1, A2, c2, L2, A3, c3, L3, ia, ib, rfl, hL1, hL2, hL3, h15, h25, h38, hu, hv⟩, hr2, hc2⟩
  have hs := hc1.size
  have hs2 := hc2.size
  simp only [World.size_alloc] at hs
  have Hc : Chg [w.heap.size + 1] _ w2 := (hc1.mono (by simp)).trans hc2
  have hb := (Hc.block w.heap.size (by simp) (by simp)).trans (heap_alloc_new w _)
  have hB : Chg [w.heap.size + 1, w.heap.size] w w2 := (((Chg.refl [w.heap.size + 1] w).alloc _).trans Hc).mono (by simp)
  have hl := hr2.lt
  have hl1 := hr1.lt
  have hlt2 : w.heap.size < w2.heap.size := by omega
  have hlt3 : w2.heap.size ≠ w.heap.size + 1 := by omega
  have hlt4 : w2.heap.size ≠ w.heap.size := by omega
  obtain ⟨A1', c1', e1, hcap1, hv1, hbl1⟩ := hL1
  obtain ⟨A2', c2', e2, hcap2, hv2, hbl2⟩ := hL2
  obtain ⟨A3', c3', e3, hcap3, hv3, hbl3⟩ := hL3
  cases e1
  cases e2
  cases e3
  have hn1 : ∀ a : Addr, A1 = some a → a.block ∉ [w.heap.size + 1, w.heap.size] := fun a ha => by have := hbl1 a ha; simp; omega
  have hn2 : ∀ a : Addr, A2 = some a → a.block ∉ [w.heap.size + 1, w.heap.size] := fun a ha => by have := hbl2 a ha; simp; omega
  have hn3 : ∀ a : Addr, A3 = some a → a.block ∉ [w.heap.size + 1, w.heap.size] := fun a ha => by have := hbl3 a ha; simp; omega
  go_upto_region 3 with (fail)
  obtain ⟨n1, hq1⟩ : ∃ q, L1.length = q := ⟨_, rfl⟩
  obtain ⟨n2, hq2⟩ : ∃ q, L2.length = q := ⟨_, rfl⟩
  obtain ⟨n3, hq3⟩ : ∃ q, L3.length = q := ⟨_, rfl⟩
  rw [hq1, hq2, hq3]
  generalize hW : w2.alloc (.cells #[.slice A1 n1 c1, .slice A2 n2 c2, .slice A3 n3 c3] 26) = W at *
  have HV1 := Lib.hid (show LnV W.drew A1 L1 by subst hW; exact hv1.keep (balloc (Below.refl _ _)).drew)
  have HV2 := Lib.hid (show LnV W.drew A2 L2 by subst hW; exact hv2.keep (balloc (Below.refl _ _)).drew)
  have HV3 := Lib.hid (show CeV W.drew A3 L3 by subst hW; exact hv3.keep (balloc (Below.refl _ _)).drew)
  have HI0 : HG w.heap.size (w.heap.size + 1) w2.heap.size w.heap.size A n' c A1 n1 c1 A2 n2 c2 A3 n3 c3 (9020 + 0) W.drew := by
    subst hW
    exact HG.drew ⟨(hr2.alloc _).mono (by omega), heap_alloc_new _ _, .inl ((Below.heap_alloc _ _ _ hlt2).trans hb), hlt3, by omega, hlt4, Nat.le_refl _⟩
  have HB : Chg [w.heap.size + 1, w.heap.size] w W.drew := by
    subst hW
    exact (hB.alloc _).drew
  generalize hbx : w2.heap.size = bx at *
  generalize hrb : w.heap.size + 1 = rb at *
  generalize hb0 : w.heap.size = b0 at *
  have Hb0 := Lib.hid hb0
  have Hrb := Lib.hid hrb
  have HL := Lib.hid (And.intro hq1 (And.intro hq2 hq3))
  have HN := Lib.hid (And.intro hn1 (And.intro hn2 hn3))
  have HU := Lib.hid (And.intro hu hv)
  have HCAP := Lib.hid (And.intro hcap1 (And.intro hcap2 hcap3))
  have H58 := Lib.hid (And.intro h15 (And.intro h25 h38))
  clear hW hB hb Hc hc1 hc2 hr1 hr2 hs hs2 h hlt2 hlt3 hlt4 hl hl1 hbx hb0 hrb hv1 hv2 hv3 hq1 hq2 hq3 hn1 hn2 hn3 hu hv hcap1 hcap2 hcap3 h15 h25 h38 hbl1 hbl2 hbl3
  refine wp_region_rglc (fun k => (TV (.agg #[.slice A1 n1 c1, .slice A2 n2 c2, .slice A3 n3 c3]) :: TV (.int .i64 ia) :: TV (.int .i64 ib) :: TV (.pointer (some ⟨rb, 0, none⟩)) :: TV (.int .i64 ia) :: TI :: TV (.int .i64 ia) :: TL b0 [rb, b0] 6 :: TI :: TV (.pointer (some ⟨rb, 0, none⟩)) :: TV (.int .i64 ib) :: TI :: TV (.int .i64 ib) :: TL b0 [rb, b0] 6 :: TI :: TT0 :: TV (.int .i64 ia) :: TV (.int .i64 ib) :: TI :: TI :: [] : List (Value → World → Prop)).getD k TT0) (Chg [rb, b0]) (fun m w => HG b0 rb bx b0 A n' c A1 n1 c1 A2 n2 c2 A3 n3 c3 (9020 + m) w) (by kernel_rfl) (by kernel_rfl) (fun a => Chg.refl _ a) (fun _ _ _ h k => h.trans k) ?hTs ?hI0 ?hops ?hfin
  case hI0 => exact HI0
  case hops =>
    refine ⟨opOK_ds [(8, none)] (by kernel_rfl) rfl ?_, ?_⟩
    · intro m a w hm hR hI h1
      have hk : ∀ v, a.eval (.const v) = v := fun _ => rfl
      have hf : ∀ f, a.eval (.func f) = .func (.func f) #[] #[] := fun _ => rfl
      generalize a.eval = ρ at *
      have hm : m < 20 := hm
      have c0 := cellS hI.hx 0
      have c1 := cellS hI.hx 1
      have c2 := cellS hI.hx 2
      replace h1 : ρ (.tmp 8) = .pointer (some ⟨bx, 0, none⟩) := h1
      refine gives_gen (fun K hK => ?_)
      go_simp
      exact hK _ _ ⟨rfl, Chg.refl _ _, hI.next⟩
    refine ⟨opOK_ds [(9, none)] (by kernel_rfl) rfl ?_, ?_⟩
    · intro m a w hm hR hI h1
      have hk : ∀ v, a.eval (.const v) = v := fun _ => rfl
      have hf : ∀ f, a.eval (.func f) = .func (.func f) #[] #[] := fun _ => rfl
      generalize a.eval = ρ at *
      have hm : m < 20 := hm
      replace h1 : ρ (.tmp 9) = .int .i64 ia := h1
      refine gives_gen (fun K hK => ?_)
      go_simp
      exact hK _ _ ⟨rfl, Chg.refl _ _, hI.next⟩
    refine ⟨opOK_ds [(10, none)] (by kernel_rfl) rfl ?_, ?_⟩
    · intro m a w hm hR hI h1
      have hk : ∀ v, a.eval (.const v) = v := fun _ => rfl
      have hf : ∀ f, a.eval (.func f) = .func (.func f) #[] #[] := fun _ => rfl
      generalize a.eval = ρ at *
      have hm : m < 20 := hm
      replace h1 : ρ (.tmp 10) = .int .i64 ib := h1
      refine gives_gen (fun K hK => ?_)
      go_simp
      exact hK _ _ ⟨rfl, Chg.refl _ _, hI.next⟩
    refine ⟨opOK_ds [(7, none)] (by kernel_rfl) rfl ?_, ?_⟩
    · intro m a w hm hR hI h1
      have hk : ∀ v, a.eval (.const v) = v := fun _ => rfl
      have hf : ∀ f, a.eval (.func f) = .func (.func f) #[] #[] := fun _ => rfl
      generalize a.eval = ρ at *
      have hm : m < 20 := hm
      replace h1 : ρ (.tmp 7) = .pointer (some ⟨rb, 0, none⟩) := h1
      refine gives_gen (fun K hK => ?_)
      go_simp
      exact hK _ _ ⟨rfl, Chg.refl _ _, hI.next⟩
    refine ⟨opOK_ds [(9, none)] (by kernel_rfl) rfl ?_, ?_⟩
    · intro m a w hm hR hI h1
      have hk : ∀ v, a.eval (.const v) = v := fun _ => rfl
      have hf : ∀ f, a.eval (.func f) = .func (.func f) #[] #[] := fun _ => rfl
      generalize a.eval = ρ at *
      have hm : m < 20 := hm
      replace h1 : ρ (.tmp 9) = .int .i64 ia := h1
      refine gives_gen (fun K hK => ?_)
      go_simp
      exact hK _ _ ⟨rfl, Chg.refl _ _, hI.next⟩
    refine ⟨opOK_ds [(23, some 4)] (by kernel_rfl) rfl ?_, ?_⟩
    · intro m a w hm hR hI h1
      have hk : ∀ v, a.eval (.const v) = v := fun _ => rfl
      have hf : ∀ f, a.eval (.func f) = .func (.func f) #[] #[] := fun _ => rfl
      generalize a.eval = ρ at *
      have hm : m < 20 := hm
      replace h1 : ρ (.tmp 23) = .int .i64 ia := h1
      refine gives_gen (fun K hK => ?_)
      go_simp
      exact hK _ _ ⟨⟨_, rfl⟩, Chg.refl _ _, hI.next⟩
    refine ⟨opOK_ds [(9, none)] (by kernel_rfl) rfl ?_, ?_⟩
    · intro m a w hm hR hI h1
      have hk : ∀ v, a.eval (.const v) = v := fun _ => rfl
      have hf : ∀ f, a.eval (.func f) = .func (.func f) #[] #[] := fun _ => rfl
      generalize a.eval = ρ at *
      have hm : m < 20 := hm
      replace h1 : ρ (.tmp 9) = .int .i64 ia := h1
      refine gives_gen (fun K hK => ?_)
      go_simp
      exact hK _ _ ⟨rfl, Chg.refl _ _, hI.next⟩
    refine ⟨opOK_ds [(24, some 5), (25, some 6)] (by kernel_rfl) rfl ?_, ?_⟩
    · intro m a w hm hR hI h1 h2
      have hk : ∀ v, a.eval (.const v) = v := fun _ => rfl
      have hf : ∀ f, a.eval (.func f) = .func (.func f) #[] #[] := fun _ => rfl
      generalize a.eval = ρ at *
      have hm : m < 20 := hm
      obtain ⟨z1, h1⟩ : TI (ρ (.tmp 24)) w := h1
      replace h2 : ρ (.tmp 25) = .int .i64 ia := h2
      refine gives_gen (fun K hK => ?_)
      go_simp
      exact hK _ _ ⟨TL.lit hI.base hI.lts (by simp) (by simp [isI]), (Chg.refl _ _).alloc _, hI.alloc _⟩
    refine ⟨opOK_ds [(22, some 3), (26, some 7)] (by kernel_rfl) rfl ?_, ?_⟩
    · intro m a w hm hR hI h1 h2
      have hk : ∀ v, a.eval (.const v) = v := fun _ => rfl
      have hf : ∀ f, a.eval (.func f) = .func (.func f) #[] #[] := fun _ => rfl
      generalize a.eval = ρ at *
      have hm : m < 20 := hm
      replace h1 : ρ (.tmp 22) = .pointer (some ⟨rb, 0, none⟩) := h1
      replace h2 : TL b0 [rb, b0] 6 (ρ (.tmp 26)) w := h2
      refine gives_gen (fun K hK => ?_)
      go_simp
      with_reducible refine (one_any _ hI.rd (by omega) (h2.sub (by simp)) (by omega) (by omega)).mono ?_
      rintro e w1 ⟨⟨z, rfl⟩, hr, hc⟩
      exact ⟨_, rfl, hK _ _ ⟨⟨z, rfl⟩, hc.mono (by simp), hI.call hr hc⟩⟩
    refine ⟨opOK_ds [(7, none)] (by kernel_rfl) rfl ?_, ?_⟩
    · intro m a w hm hR hI h1
      have hk : ∀ v, a.eval (.const v) = v := fun _ => rfl
      have hf : ∀ f, a.eval (.func f) = .func (.func f) #[] #[] := fun _ => rfl
      generalize a.eval = ρ at *
      have hm : m < 20 := hm
      replace h1 : ρ (.tmp 7) = .pointer (some ⟨rb, 0, none⟩) := h1
      refine gives_gen (fun K hK => ?_)
      go_simp
      exact hK _ _ ⟨rfl, Chg.refl _ _, hI.next⟩
    refine ⟨opOK_ds [(10, none)] (by kernel_rfl) rfl ?_, ?_⟩
    · intro m a w hm hR hI h1
      have hk : ∀ v, a.eval (.const v) = v := fun _ => rfl
      have hf : ∀ f, a.eval (.func f) = .func (.func f) #[] #[] := fun _ => rfl
      generalize a.eval = ρ at *
      have hm : m < 20 := hm
      replace h1 : ρ (.tmp 10) = .int .i64 ib := h1
      refine gives_gen (fun K hK => ?_)
      go_simp
      exact hK _ _ ⟨rfl, Chg.refl _ _, hI.next⟩
    refine ⟨opOK_ds [(29, some 10)] (by kernel_rfl) rfl ?_, ?_⟩
    · intro m a w hm hR hI h1
      have hk : ∀ v, a.eval (.const v) = v := fun _ => rfl
      have hf : ∀ f, a.eval (.func f) = .func (.func f) #[] #[] := fun _ => rfl
      generalize a.eval = ρ at *
      have hm : m < 20 := hm
      replace h1 : ρ (.tmp 29) = .int .i64 ib := h1
      refine gives_gen (fun K hK => ?_)
      go_simp
      exact hK _ _ ⟨⟨_, rfl⟩, Chg.refl _ _, hI.next⟩
    refine ⟨opOK_ds [(10, none)] (by kernel_rfl) rfl ?_, ?_⟩
    · intro m a w hm hR hI h1
      have hk : ∀ v, a.eval (.const v) = v := fun _ => rfl
      have hf : ∀ f, a.eval (.func f) = .func (.func f) #[] #[] := fun _ => rfl
      generalize a.eval = ρ at *
      have hm : m < 20 := hm
      replace h1 : ρ (.tmp 10) = .int .i64 ib := h1
      refine gives_gen (fun K hK => ?_)
      go_simp
      exact hK _ _ ⟨rfl, Chg.refl _ _, hI.next⟩
    refine ⟨opOK_ds [(30, some 11), (31, some 12)] (by kernel_rfl) rfl ?_, ?_⟩
    · intro m a w hm hR hI h1 h2
      have hk : ∀ v, a.eval (.const v) = v := fun _ => rfl
      have hf : ∀ f, a.eval (.func f) = .func (.func f) #[] #[] := fun _ => rfl
      generalize a.eval = ρ at *
      have hm : m < 20 := hm
      obtain ⟨z1, h1⟩ : TI (ρ (.tmp 30)) w := h1
      replace h2 : ρ (.tmp 31) = .int .i64 ib := h2
      refine gives_gen (fun K hK => ?_)
      go_simp
      exact hK _ _ ⟨TL.lit hI.base hI.lts (by simp) (by simp [isI]), (Chg.refl _ _).alloc _, hI.alloc _⟩
    refine ⟨opOK_ds [(28, some 9), (32, some 13)] (by kernel_rfl) rfl ?_, ?_⟩
    · intro m a w hm hR hI h1 h2
      have hk : ∀ v, a.eval (.const v) = v := fun _ => rfl
      have hf : ∀ f, a.eval (.func f) = .func (.func f) #[] #[] := fun _ => rfl
      generalize a.eval = ρ at *
      have hm : m < 20 := hm
      replace h1 : ρ (.tmp 28) = .pointer (some ⟨rb, 0, none⟩) := h1
      replace h2 : TL b0 [rb, b0] 6 (ρ (.tmp 32)) w := h2
      refine gives_gen (fun K hK => ?_)
      go_simp
      with_reducible refine (one_any _ hI.rd (by omega) (h2.sub (by simp)) (by omega) (by omega)).mono ?_
      rintro e w1 ⟨⟨z, rfl⟩, hr, hc⟩
      exact ⟨_, rfl, hK _ _ ⟨⟨z, rfl⟩, hc.mono (by simp), hI.call hr hc⟩⟩
    refine ⟨opOK_ds [(2, none), (19, some 0)] (by kernel_rfl) rfl ?_, ?_⟩
    · intro m a w hm hR hI h1 h2
      have hk : ∀ v, a.eval (.const v) = v := fun _ => rfl
      have hf : ∀ f, a.eval (.func f) = .func (.func f) #[] #[] := fun _ => rfl
      generalize a.eval = ρ at *
      have hm : m < 20 := hm
      obtain ⟨s0, s1, s2, f0, f1, f2⟩ := hI.at0
      obtain ⟨x0, s0⟩ := s0
      obtain ⟨x1, s1⟩ := s1
      obtain ⟨x2, s2⟩ := s2
      replace h1 : ρ (.tmp 2) = .pointer (some ⟨b0, 0, none⟩) := h1
      replace h2 : ρ (.tmp 19) = .agg #[.slice A1 n1 c1, .slice A2 n2 c2, .slice A3 n3 c3] := h2
      refine gives_gen (fun K hK => ?_)
      go_simp
      exact hK _ _ ⟨trivial, put3Chg (Chg.refl _ _) (by simp) _ _ _, hI.store0⟩
    refine ⟨opOK_ds [(20, some 1)] (by kernel_rfl) rfl ?_, ?_⟩
    · intro m a w hm hR hI h1
      have hk : ∀ v, a.eval (.const v) = v := fun _ => rfl
      have hf : ∀ f, a.eval (.func f) = .func (.func f) #[] #[] := fun _ => rfl
      generalize a.eval = ρ at *
      have hm : m < 20 := hm
      replace h1 : ρ (.tmp 20) = .int .i64 ia := h1
      refine gives_gen (fun K hK => ?_)
      go_simp
      exact hK _ _ ⟨rfl, Chg.refl _ _, hI.next⟩
    refine ⟨opOK_ds [(21, some 2)] (by kernel_rfl) rfl ?_, ?_⟩
    · intro m a w hm hR hI h1
      have hk : ∀ v, a.eval (.const v) = v := fun _ => rfl
      have hf : ∀ f, a.eval (.func f) = .func (.func f) #[] #[] := fun _ => rfl
      generalize a.eval = ρ at *
      have hm : m < 20 := hm
      replace h1 : ρ (.tmp 21) = .int .i64 ib := h1
      refine gives_gen (fun K hK => ?_)
      go_simp
      exact hK _ _ ⟨rfl, Chg.refl _ _, hI.next⟩
    refine ⟨opOK_ds [(27, some 8)] (by kernel_rfl) rfl ?_, ?_⟩
    · intro m a w hm hR hI h1
      have hk : ∀ v, a.eval (.const v) = v := fun _ => rfl
      have hf : ∀ f, a.eval (.func f) = .func (.func f) #[] #[] := fun _ => rfl
      generalize a.eval = ρ at *
      have hm : m < 20 := hm
      obtain ⟨z1, h1⟩ : TI (ρ (.tmp 27)) w := h1
      refine gives_gen (fun K hK => ?_)
      go_simp
      exact hK _ _ ⟨⟨_, rfl⟩, Chg.refl _ _, hI.next⟩
    refine ⟨opOK_ds [(33, some 14)] (by kernel_rfl) rfl ?_, ?_⟩
    · intro m a w hm hR hI h1
      have hk : ∀ v, a.eval (.const v) = v := fun _ => rfl
      have hf : ∀ f, a.eval (.func f) = .func (.func f) #[] #[] := fun _ => rfl
      generalize a.eval = ρ at *
      have hm : m < 20 := hm
      obtain ⟨z1, h1⟩ : TI (ρ (.tmp 33)) w := h1
      refine gives_gen (fun K hK => ?_)
      go_simp
      exact hK _ _ ⟨⟨_, rfl⟩, Chg.refl _ _, hI.next⟩
    exact trivial
  case hTs => exact st_list (by
    intro T hT
    simp only [List.mem_cons, List.not_mem_nil, or_false] at hT
    rcases hT with rfl | rfl | rfl | rfl | rfl | rfl | rfl | rfl | rfl | rfl | rfl | rfl | rfl | rfl | rfl | rfl | rfl | rfl | rfl | rfl <;> first | exact st_TI _ | exact st_TV _ _ | exact st_TL _ _ _ | exact st_TT0 _)
  case hfin =>
    intro w3 hR hI
    intro v19 t19 v20 t20 v21 t21 v22 t22 v23 t23 v24 t24 v25 t25 v26 t26 v27 t27 v28 t28 v29 t29 v30 t30 v31 t31 v32 t32 v33 t33 v3 t3 v4 t4 v5 t5 v6 t6
    obtain rfl : v3 = .int .i64 ia := t3
    obtain rfl : v4 = .int .i64 ib := t4
    obtain ⟨x, rfl⟩ : ∃ x, v5 = .int .i64 x := t5
    obtain ⟨y, rfl⟩ : ∃ y, v6 = .int .i64 y := t6
    replace HV1 := Lib.hid (HV1.out.chgS hR HN.out.1)
    replace HV2 := Lib.hid (HV2.out.chgS hR HN.out.2.1)
    replace HV3 := Lib.hid (HV3.out.chgS hR HN.out.2.2)
    have HBB := Lib.hid (HB.trans hR)
    obtain ⟨q1, q2, q3⟩ := HL.out
    rcases hI.h0 with ha | ha
    · have c0 := cellS ha 0
      have c1' := cellS ha 1
      have c2' := cellS ha 2
      clear ha hI hR HB
      clear t19 t20 t21 t22 t23 t24 t25 t26 t27 t28 t29 t30 t31 t32 t33
      simp only [finP, Act.put, List.setIfInBounds_toArray, List.set_cons_succ, List.set_cons_zero]
      go_wp2
      exact bodyPost_ret (v := .tuple #[.agg #[.slice none 0 0, .slice none 0 0, .slice none 0 0], .int .i64 ia, .int .i64 ib, .int .i64 x, .int .i64 y]) (by simp only [results, Try.results17]; go_simp) rfl ⟨(show GAout _ _ from ⟨none, 0, [], none, 0, [], none, 0, [], ia, ib, x, y, rfl, ⟨fun h => absurd h (by simp)⟩, ⟨fun h => absurd h (by simp)⟩, ⟨fun h => absurd h (by simp)⟩, by simp, by simp, by simp, by simp, HU.out.1, HU.out.2⟩), HBB.out.below (Nat.le_refl _) (by have := Hrb.out; have := Hb0.out; simp; omega)⟩
    · subst q1 q2 q3
      have c0 := cellS ha 0
      have c1' := cellS ha 1
      have c2' := cellS ha 2
      clear ha hI hR HB
      clear t19 t20 t21 t22 t23 t24 t25 t26 t27 t28 t29 t30 t31 t32 t33
      simp only [finP, Act.put, List.setIfInBounds_toArray, List.set_cons_succ, List.set_cons_zero]
      go_wp2
      exact bodyPost_ret (v := .tuple #[.agg #[.slice A1 L1.length c1, .slice A2 L2.length c2, .slice A3 L3.length c3], .int .i64 ia, .int .i64 ib, .int .i64 x, .int .i64 y]) (by simp only [results, Try.results17]; go_simp) rfl ⟨(show GAout _ _ from ⟨A1, c1, L1, A2, c2, L2, A3, c3, L3, ia, ib, x, y, rfl, HV1.out, HV2.out, HV3.out, H58.out, HCAP.out.1, HCAP.out.2.1, HCAP.out.2.2, HU.out.1, HU.out.2⟩), HBB.out.below (Nat.le_refl _) (by have := Hrb.out; have := Hb0.out; simp; omega)⟩
end Go.Proofs.Ytikndbinlpmgaaa
end
section
namespace Go.Proofs.Ytikndbinlpmgaaa
open Go.RowKit
set_option linter.unusedVariables false
set_option maxHeartbeats 1000000
attribute [local go_sem] growUpon_value growUpon_skip growUpon_enter
structure Re where
  x : Int
  y : Int
  u : Int
  v : Int
def valsRe (p : Re) : List Value := [.int .i64 p.x, .int .i64 p.y, .int .i64 p.u, .int .i64 p.v]
/-- a slice that reads as this list -/
structure ReV (w : World) (A : Option Addr) (L : List Re) : Prop where
  cells : 0 < L.length → ∃ b off, A = some ⟨b, off, none⟩ ∧ b < w.heap.size ∧ ∀ i p, L[i]? = some p → w.cell? ⟨b, off + i * 4, none⟩ = some (.int .i64 p.x) ∧ w.cell? ⟨b, off + i * 4 + 1, none⟩ = some (.int .i64 p.y) ∧ w.cell? ⟨b, off + i * 4 + 2, none⟩ = some (.int .i64 p.u) ∧ w.cell? ⟨b, off + i * 4 + 3, none⟩ = some (.int .i64 p.v)
theorem ReV.keep {w w' : World} {A : Option Addr} {L : List Re} (h : ReV w A L) (hb : Below w.heap.size w w') : ReV w' A L :=
  ⟨fun h0 => let ⟨b, off, e, hl, hp⟩ := h.cells h0; ⟨b, off, e, Nat.lt_of_lt_of_le hl hb.size, fun i p hi => by
    obtain ⟨c0, c1, c2, c3⟩ := hp i p hi
    exact ⟨(hb.cell (p := ⟨b, off + i * 4, none⟩) hl).trans c0, (hb.cell (p := ⟨b, off + i * 4 + 1, none⟩) hl).trans c1, (hb.cell (p := ⟨b, off + i * 4 + 2, none⟩) hl).trans c2, (hb.cell (p := ⟨b, off + i * 4 + 3, none⟩) hl).trans c3⟩⟩⟩
theorem ReV.nil (w : World) (A : Option Addr) : ReV w A [] := ⟨fun h => absurd h (by simp)⟩
/-- what a new block holds -/
def ReB (w : World) (g : Nat) (L : List Re) : Prop := ∃ cs : Array Value, w.heap[g]? = some (.cells cs 35 (0, 0)) ∧ cs.size = L.length * 4 ∧ ∀ i p, L[i]? = some p → InS cs (i * 4) (valsRe p)
theorem ReB.v {w : World} {g : Nat} {L : List Re} (h : ReB w g L) : ReV w (some ⟨g, 0, none⟩) L := by
  obtain ⟨cs, hh, hs, hc⟩ := h
  refine ⟨fun _ => ⟨g, 0, rfl, ltS hh, fun i p hp => ?_⟩⟩
  have hi := hc i p hp
  simp only [Nat.zero_add]
  exact ⟨(cellS hh _).trans (hi 0 _ rfl), (cellS hh _).trans (hi 1 _ rfl), (cellS hh _).trans (hi 2 _ rfl), (cellS hh _).trans (hi 3 _ rfl)⟩
theorem ReB.lt {w : World} {g : Nat} {L : List Re} (h : ReB w g L) : g < w.heap.size := by obtain ⟨cs, hh, _⟩ := h; exact ltS hh
theorem ReB.keep {w w' : World} {g : Nat} {L : List Re} (h : ReB w g L) (hb : Below w.heap.size w w') : ReB w' g L := by
  obtain ⟨cs, hh, hs, hc⟩ := h
  exact ⟨cs, (hb.block g (ltS hh)).trans hh, hs, hc⟩
theorem ReB.but {w w' : World} {g h : Nat} {L : List Re} (hi : ReB w h L) (hg : w.grownBy w' (some g)) (hne : h ≠ g) : ReB w' h L := by
  obtain ⟨cs, hh, hs, hc⟩ := hi
  exact ⟨cs, (hg.block h (ltS hh) (fun e => hne (Option.some.inj e))).trans hh, hs, hc⟩
theorem madeRe : ∃ f : Nat → Array Value, (∀ n, (f n).size = n * 4) ∧ ∀ (n : Nat) (w : World), n ≤ 1048576 → (Instr.makeSlice 29 (.int .i64 (n : Int)) (.int .i64 (n : Int))).run Try.prog w = .ok (.slice (some ⟨w.heap.size, 0, none⟩) n n) (w.alloc (.cells (f n) 35)) := by
  have hinfo : (Try.prog.info? 35).map (fun i => (i.zero, i.size, i.bytes)) = some (some (.agg #[.int .i64 0, .int .i64 0, .int .i64 0, .int .i64 0]), 4, 32) := by kernel_rfl
  obtain ⟨i, hi, h1, h2, h3⟩ := info_parts hinfo
  refine ⟨fun n => madeCells (Value.agg #[.int .i64 0, .int .i64 0, .int .i64 0, .int .i64 0]).cells (n * 4), fun n => size_madeCells _ _, fun n w hn => ?_⟩
  have hr := run_make (P := Try.prog) w 29 35 i _ Try.underlying29 hi h1 .i64 .i64 n n (by omega) (Int.le_refl _) (by rw [h3]; omega) (by omega)
  rw [h2] at hr
  simpa using hr
theorem putRe {w : World} {b : Nat} {cs : Array Value} {T : TypeId} {fz : Nat × Nat} (h : w.heap[b]? = some (.cells cs T fz)) (o : Nat) (p : Re) :
    (((((w.setCell ⟨b, o, none⟩ (.int .i64 p.x)).setCell ⟨b, o + 1, none⟩ (.int .i64 p.y)).setCell ⟨b, o + 2, none⟩ (.int .i64 p.u)).setCell ⟨b, o + 3, none⟩ (.int .i64 p.v))).heap[b]? = some (.cells (wrAt cs o (valsRe p)) T fz) :=
  putS (putS (putS (putS h _) _) _) _
theorem putReb {B b : Nat} {a w : World} (h : Below B a w) (hb : B ≤ b) (o : Nat) (p : Re) : Below B a (((((w.setCell ⟨b, o, none⟩ (.int .i64 p.x)).setCell ⟨b, o + 1, none⟩ (.int .i64 p.y)).setCell ⟨b, o + 2, none⟩ (.int .i64 p.u)).setCell ⟨b, o + 3, none⟩ (.int .i64 p.v))) :=
  ((((h).setCell hb _).setCell hb _).setCell hb _).setCell hb _
set_option maxRecDepth 100000 in
theorem eqRe_same (p : Re) (w : World) : Calls Try.prog 58 #[.agg #[.int .i64 p.x, .int .i64 p.y, .int .i64 p.u, .int .i64 p.v], .agg #[.int .i64 p.x, .int .i64 p.y, .int .i64 p.u, .int .i64 p.v]] w fun e w' => e = .returned (.bool true) ∧ Below w.heap.size w w' := by
  go_enter Try.func58, Try.ntmps58
  go_wp2
  go_ret
  exact ⟨rfl, balloc (balloc (Below.refl _ _))⟩
set_option maxRecDepth 100000 in
theorem eqReS_same (A B : Option Addr) (c c' : Nat) (L : List Re) (w : World) (h : ReV w A L) (h' : ReV w B L) (hL : L.length ≤ 1048576) :
    Calls Try.prog 25 #[.slice A L.length c, .slice B L.length c'] w fun e w' => e = .returned (.bool true) ∧ Below w.heap.size w w' := by
  go_enter Try.func25, Try.ntmps25
  go_wp2_with fail
  go_loopw [5] (fun i wr => ∃ k : Nat, k ≤ L.length ∧ i = .int .i64 k ∧ Below w.heap.size w wr) (fun i _ => L.length - (intOf i).toNat)
  case atStart => exact ⟨0, by omega, rfl, Below.refl _ _⟩
  case round =>
    obtain ⟨k, hk, rfl, hB⟩ := hrel
    by_cases hlt : k < L.length
    · have hd : decide ((k : Int) < (L.length : Int)) = true := by simpa using hlt
      obtain ⟨b, off, rfl, hb, hp⟩ := (h.keep hB).cells (by omega)
      obtain ⟨b', off', rfl, hb', hp'⟩ := (h'.keep hB).cells (by omega)
      obtain ⟨c0, c1, c2, c3⟩ := hp k _ (List.getElem?_eq_getElem hlt)
      obtain ⟨d0, d1, d2, d3⟩ := hp' k _ (List.getElem?_eq_getElem hlt)
      generalize hx : L[k] = p at *
      have HX := Lib.hid hx
      have HBB := Lib.hid hB
      clear hx hp hp' hB
      go_wp2_with fail
      refine wp_region_grow 10 0 (· < 10) (by kernel_rfl) (by kernel_rfl) rfl ?_
      iterate 10 (refine wpG_step (fun K hK => ?_); first | (refine grow_skip rfl ?_; go_simp; refine hK _ ?_; clear hK K) | (apply Exists.intro; refine ⟨.inl ⟨rfl, fun w' hw' => ?_⟩, ?_⟩; (focus ((obtain ⟨hc, hf⟩ := bcell hw'.out); (have hcS := bcellS hw'.out); go_simp <;> first | rfl | (go_at_call 58; exact eqRe_same p _))); (go_simp; refine hK _ ?_; clear hK K)))
      refine wpG_nil ?_
      refine wpK_tail (by kernel_rfl) (fun w1 hg1 => ?_)
      have hb1 := bdrewn hg1.out
      refine wpAny_end (by kernel_rfl) ?_
      refine NoPan.thn ?_
      clear hg1
      replace HBB := Lib.hid (HBB.out.trans (hb1.mono HBB.out.size))
      clear hb1 c0 c1 c2 c3 d0 d1 d2 d3
      go_wp2
      go_roundw
      case rel => exact ⟨k + 1, by omega, by go_num, HBB.out⟩
      case measure => simp [intOf]; omega
    · have hd : decide ((k : Int) < (L.length : Int)) = false := by simp; omega
      have HBB := Lib.hid hB
      clear hB
      go_wp2
      go_ret
      exact ⟨rfl, HBB.out⟩
set_option maxRecDepth 100000 in
theorem markReS_v (g n : Nat) (z : Int) (L : List Re) (w : World) (h : ReB w g L) (hn : n = L.length) (hL : L.length ≤ 1048576) (h0 : 1 ≤ z) (hz : z ≤ 1000000000) :
    Calls Try.prog 27 #[.slice (some ⟨g, 0, none⟩) n n, .int .i64 z] w fun e w' => e = .returned (.int .i64 ((L.length : Int) * 4 + z)) ∧ w.grownBy w' (some g) := by
  subst hn
  obtain ⟨cs0, hh0, hs0, _⟩ := h
  have H0 := Lib.hid (And.intro hh0 hs0)
  clear hh0 hs0
  go_enter Try.func27, Try.ntmps27
  go_wp2_with fail
  go_loopw [1, 5] (fun kk i wr => ∃ k : Nat, k ≤ L.length ∧ i = .int .i64 k ∧ kk = .int .i64 ((k : Int) * 4 + z) ∧ (∃ cs : Array Value, wr.heap[g]? = some (.cells cs 35 (0, 0)) ∧ cs.size = L.length * 4) ∧ w.grownBy wr (some g)) (fun _ i _ => L.length - (intOf i).toNat)
  case atStart => exact ⟨0, by omega, rfl, by simp, ⟨_, H0.out.1, H0.out.2⟩, greflS _ _⟩
  case round =>
    obtain ⟨k, hk, rfl, rfl, ⟨cs, hh, hs⟩, hB⟩ := hrel
    clear H0
    by_cases hlt : k < L.length
    · have hd : decide ((k : Int) < (L.length : Int)) = true := by simpa using hlt
      obtain ⟨y0, d0⟩ := thereS hh (i := k * 4) (by omega)
      obtain ⟨y1, d1⟩ := thereS hh (i := k * 4 + 1) (by omega)
      obtain ⟨y2, d2⟩ := thereS hh (i := k * 4 + 2) (by omega)
      obtain ⟨y3, d3⟩ := thereS hh (i := k * 4 + 3) (by omega)
      have f0 := frozenS hh (k * 4)
      have f1 := frozenS hh (k * 4 + 1)
      have f2 := frozenS hh (k * 4 + 2)
      have f3 := frozenS hh (k * 4 + 3)
      have HH := Lib.hid hh
      have HS := Lib.hid hs
      have HB := Lib.hid hB
      clear hh hs hB
      go_wp2_with fail
      go_roundw
      case rel =>
        refine ⟨k + 1, by omega, by go_num, by go_num, ⟨_, putS (putS (putS (putS (HH.out) _) _) _) _, by simpa using HS.out⟩, ?_⟩
        exact gsetS (gsetS (gsetS (gsetS (HB.out) _ _) _ _) _ _) _ _
      case measure => simp [intOf]; omega
    · have hd : decide ((k : Int) < (L.length : Int)) = false := by simp; omega
      obtain rfl : k = L.length := by omega
      have HB := Lib.hid hB
      clear hh hs hB
      go_wp2
      go_ret
      exact ⟨rfl, HB.out⟩
end Go.Proofs.Ytikndbinlpmgaaa
end
