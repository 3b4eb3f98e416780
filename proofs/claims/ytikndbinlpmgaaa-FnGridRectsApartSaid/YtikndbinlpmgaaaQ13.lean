import Derived.Test.YtikndbinlpmgaaaQ12
section
namespace Go.Proofs.Ytikndbinlpmgaaa
open Go.RowKit
set_option linter.unusedVariables false
set_option maxHeartbeats 1000000
attribute [local go_sem 5000] run_mx run_mn
attribute [local go_sem] growUpon_value growUpon_skip growUpon_enter
theorem Chg.cellsH {S : List Nat} {w w' : World} (h : Chg S w w') {b : Nat} {o : Obj} (hb : w.heap[b]? = some o) (hs : b ∉ S) : w'.heap[b]? = some o := (h.block b (ltS hb) hs).trans hb
set_option maxRecDepth 100000 in
theorem gridRoom_any {B rb : Nat} {A : Option Addr} {l c m : Nat} (w : World) (h : Rd B rb A l c m w) (hm : m ≤ 400000) :
    Calls Try.prog 30 #[.pointer (some ⟨rb, 0, none⟩)] w fun e w' => (∃ (A1 : Option Addr) (c1 : Nat) (L1 : List Ln) (A2 : Option Addr) (c2 : Nat) (L2 : List Ln) (A3 : Option Addr) (c3 : Nat) (L3 : List Ce) (u v : Int), e = .returned (.tuple #[.agg #[.slice A1 L1.length c1, .slice A2 L2.length c2, .slice A3 L3.length c3], .int .i64 u, .int .i64 v]) ∧ LnO w.heap.size w' (.slice A1 L1.length c1) L1 ∧ LnO w.heap.size w' (.slice A2 L2.length c2) L2 ∧ CeO w.heap.size w' (.slice A3 L3.length c3) L3 ∧ L1.length ≤ 5 ∧ L2.length ≤ 5 ∧ L3.length ≤ 8 ∧ (-1 ≤ u ∧ u ≤ 3000) ∧ (-1 ≤ v ∧ v ≤ 3000)) ∧ Rd B rb A l c (m + 9000) w' ∧ Chg [rb] w w' := by
  have hlt := h.lt
  have hBrb := h.base
  go_enter Try.func30, Try.ntmps30
  go_upto_region 1 with (fail)
  refine wp_genGS (fun W => W.heap[w.heap.size]? = some (.cells #[.slice none 0 0, .slice none 0 0, .slice none 0 0] 26 (0, 0)) ∧ Rd B rb A l c m W ∧ Chg [rb] w W ∧ w.heap.size < W.heap.size) ⟨newS _ _, h.alloc _, (Chg.refl _ _).alloc _, by simp⟩ (fun W0 h0 => ?_)
  obtain ⟨hz, hr0, hc0, hs0⟩ := h0
  have HZ := Lib.hid hz
  have HC := Lib.hid hc0
  clear hz hc0
  go_wp2_with fail
  with_reducible refine (someGrid_any W0 hr0 (by omega)).mono ?_
  rintro e w1 ⟨⟨A1, c1, L1, A2, c2, L2, A3, c3, L3, rfl, hL1, hL2, hL3, h15, h25, h38⟩, hr1, hc1⟩
  have hs1 := hc1.size
  replace HZ := Lib.hid (hc1.cellsH HZ.out (by simp; omega))
  replace HC := Lib.hid (HC.out.trans hc1)
  obtain ⟨A1', c1', e1, hcap1, hv1, hbl1⟩ := hL1
  obtain ⟨A2', c2', e2, hcap2, hv2, hbl2⟩ := hL2
  obtain ⟨A3', c3', e3, hcap3, hv3, hbl3⟩ := hL3
  cases e1
  cases e2
  cases e3
  have hn1 : ∀ a : Addr, A1 = some a → a.block ≠ rb := fun a ha => by have := hbl1 a ha; omega
  have hn2 : ∀ a : Addr, A2 = some a → a.block ≠ rb := fun a ha => by have := hbl2 a ha; omega
  have hn3 : ∀ a : Addr, A3 = some a → a.block ≠ rb := fun a ha => by have := hbl3 a ha; omega
  have k1 : L1.length ≤ 1048576 := by omega
  have k2 : L2.length ≤ 1048576 := by omega
  have k3 : L3.length ≤ 1048576 := by omega
  have HV1 := Lib.hid hv1
  have HV2 := Lib.hid hv2
  have HV3 := Lib.hid hv3
  have HR := Lib.hid hr1
  clear hr0 hr1 hc1 hv1 hv2 hv3
  go_upto_region 2 with (fail)
  refine wp_genGS (fun W => W.heap[w1.heap.size]? = some (.cells #[.slice A1 L1.length c1, .slice A2 L2.length c2, .slice A3 L3.length c3] 26 (0, 0)) ∧ W.heap[w.heap.size]? = some (.cells #[.slice none 0 0, .slice none 0 0, .slice none 0 0] 26 (0, 0)) ∧ LnV W A1 L1 ∧ LnV W A2 L2 ∧ CeV W A3 L3 ∧ Rd B rb A l c (m + 8000) W ∧ Chg [rb] w W) ⟨newS _ _, (Below.heap_alloc _ _ _ (ltS HZ.out)).trans HZ.out, HV1.out.keep (balloc (Below.refl _ _)), HV2.out.keep (balloc (Below.refl _ _)), HV3.out.keep (balloc (Below.refl _ _)), HR.out.alloc _, HC.out.alloc _⟩ (fun W1 h1 => ?_)
  clear HZ HC HV1 HV2 HV3 HR
  obtain ⟨hx, hz, hv1, hv2, hv3, hr, hc⟩ := h1
  obtain ⟨bx, hbx⟩ : ∃ b, w1.heap.size = b := ⟨_, rfl⟩
  have hbxr : bx ≠ rb := by omega
  have hbx0 : w.heap.size < bx := by omega
  rw [hbx] at hx
  rw [hbx]
  have HX := Lib.hid hx
  have HZ := Lib.hid hz
  have HV1 := Lib.hid hv1
  have HV2 := Lib.hid hv2
  have HV3 := Lib.hid hv3
  have HR := Lib.hid hr
  have HC := Lib.hid hc
  clear hx hz hv1 hv2 hv3 hr hc hbx
  go_wp2_with fail
  with_reducible refine (one_lit_in (0) 401 _ HR.out (by omega) (by simp) (by omega) (by omega) (by simp [isIn])).mono ?_
  rintro e w2 ⟨⟨y, rfl, ya, yb⟩, hr2, hc2⟩
  replace HX := Lib.hid (hc2.cellsH HX.out (by simpa using hbxr))
  replace HZ := Lib.hid (hc2.cellsH HZ.out (by simp; omega))
  replace HV1 := Lib.hid (HV1.out.chgG hc2 hn1)
  replace HV2 := Lib.hid (HV2.out.chgG hc2 hn2)
  replace HV3 := Lib.hid (HV3.out.chgG hc2 hn3)
  replace HC := Lib.hid (HC.out.trans hc2)
  replace HR := Lib.hid hr2
  clear hr2 hc2
  go_wp2_with fail
  with_reducible refine (one_lit_in (-1) 400 _ HR.out (by omega) (by simp) (by omega) (by omega) (by simp [isIn])).mono ?_
  rintro e w3 ⟨⟨z, rfl, za, zb⟩, hr3, hc3⟩
  replace HX := Lib.hid (hc3.cellsH HX.out (by simpa using hbxr))
  replace HZ := Lib.hid (hc3.cellsH HZ.out (by simp; omega))
  replace HV1 := Lib.hid (HV1.out.chgG hc3 hn1)
  replace HV2 := Lib.hid (HV2.out.chgG hc3 hn2)
  replace HV3 := Lib.hid (HV3.out.chgG hc3 hn3)
  replace HC := Lib.hid (HC.out.trans hc3)
  replace HR := Lib.hid hr3
  clear hr3 hc3
  obtain ⟨t, ht⟩ : ∃ t, gridB L1 L2 L3 = t := ⟨_, rfl⟩
  have d0 := cellS HX.out 0
  have d1 := cellS HX.out 1
  have d2 := cellS HX.out 2
  go_wp2_with fail
  with_reducible refine (svalidGrid_v A1 c1 L1 A2 c2 L2 A3 c3 L3 t _ HV1.out HV2.out HV3.out k1 k2 k3 ht).mono ?_
  rintro e w4 ⟨rfl, hb⟩
  clear d0 d1 d2
  replace HX := Lib.hid ((hb.block _ (ltS HX.out)).trans HX.out)
  replace HZ := Lib.hid ((hb.block _ (ltS HZ.out)).trans HZ.out)
  replace HV1 := Lib.hid (HV1.out.keep hb)
  replace HV2 := Lib.hid (HV2.out.keep hb)
  replace HV3 := Lib.hid (HV3.out.keep hb)
  replace HC := Lib.hid (HC.out.of_below hb)
  replace HR := Lib.hid (HR.out.below hb)
  clear hb
  cases t
  · clear ht
    have y0 := cellS HX.out 0
    have y1 := cellS HX.out 1
    have y2 := cellS HX.out 2
    have u0' := cellS HZ.out 0
    have u1' := cellS HZ.out 1
    have u2' := cellS HZ.out 2
    have g0' := frozenS HZ.out 0
    have g1' := frozenS HZ.out 1
    have g2' := frozenS HZ.out 2
    have hzl := ltS HZ.out
    have E1 := Lib.hid (put3s2 (put3s1 (put3s0 HZ.out (.slice A1 L1.length c1)) (.slice A2 L2.length c2)) (.slice A3 L3.length c3))
    have E2 := Lib.hid ((((HR.out.mono (show _ ≤ m + 9000 by omega)).setCell (p := ⟨w.heap.size, 0, none⟩) (by simp; omega) (by simp; omega) (.slice A1 L1.length c1)).setCell (p := ⟨w.heap.size, 1, none⟩) (by simp; omega) (by simp; omega) (.slice A2 L2.length c2)).setCell (p := ⟨w.heap.size, 2, none⟩) (by simp; omega) (by simp; omega) (.slice A3 L3.length c3))
    have E3 := Lib.hid (((HC.out.setCell (p := ⟨w.heap.size, 0, none⟩) (.inr (by simp)) (.slice A1 L1.length c1)).setCell (p := ⟨w.heap.size, 1, none⟩) (.inr (by simp)) (.slice A2 L2.length c2)).setCell (p := ⟨w.heap.size, 2, none⟩) (.inr (by simp)) (.slice A3 L3.length c3))
    have hcz := (((Chg.refl [w.heap.size] w4).setCell (p := ⟨w.heap.size, 0, none⟩) (.inl (by simp)) (.slice A1 L1.length c1)).setCell (p := ⟨w.heap.size, 1, none⟩) (.inl (by simp)) (.slice A2 L2.length c2)).setCell (p := ⟨w.heap.size, 2, none⟩) (.inl (by simp)) (.slice A3 L3.length c3)
    have E4 := Lib.hid (HV1.out.chgS hcz (fun a ha => by have := hbl1 a ha; simp; omega))
    have E5 := Lib.hid (HV2.out.chgS hcz (fun a ha => by have := hbl2 a ha; simp; omega))
    have E6 := Lib.hid (HV3.out.chgS hcz (fun a ha => by have := hbl3 a ha; simp; omega))
    clear hcz
    go_wp2
    refine bp_genGS (fun W => W.heap[w.heap.size]? = some (.cells #[.slice A1 L1.length c1, .slice A2 L2.length c2, .slice A3 L3.length c3] 26 (0, 0)) ∧ Rd B rb A l c (m + 9000) W ∧ Chg [rb] w W ∧ LnV W A1 L1 ∧ LnV W A2 L2 ∧ CeV W A3 L3) ⟨E1.out, E2.out, E3.out, E4.out, E5.out, E6.out⟩ ?_
    clear HX HZ HR HC HV1 HV2 HV3 E1 E2 E3 E4 E5 E6 y0 y1 y2 u0' u1' u2' g0' g1' g2'
    rintro W ⟨hp, hrW, hcW, hw1, hw2, hw3⟩
    have q0 := cellS hp 0
    have q1 := cellS hp 1
    have q2 := cellS hp 2
    exact bodyPost_ret (v := .tuple #[.agg #[.slice A1 L1.length c1, .slice A2 L2.length c2, .slice A3 L3.length c3], .int .i64 (y), .int .i64 (z)]) (by simp only [results, Try.results30]; go_simp) rfl ⟨⟨A1, c1, L1, A2, c2, L2, A3, c3, L3, _, _, rfl, ⟨A1, c1, rfl, hcap1, hw1, fun a ha => by have := hbl1 a ha; omega⟩, ⟨A2, c2, rfl, hcap2, hw2, fun a ha => by have := hbl2 a ha; omega⟩, ⟨A3, c3, rfl, hcap3, hw3, fun a ha => by have := hbl3 a ha; omega⟩, h15, h25, h38, by omega, by omega⟩, hrW, hcW⟩
  · have HT := Lib.hid ht
    clear ht
    go_wp2_with fail
    with_reducible refine (pick_any 2 _ HR.out (by omega)).mono ?_
    rintro e w5 ⟨⟨q, rfl, -⟩, hr5, hc5⟩
    replace HX := Lib.hid (hc5.cellsH HX.out (by simpa using hbxr))
    replace HZ := Lib.hid (hc5.cellsH HZ.out (by simp; omega))
    replace HV1 := Lib.hid (HV1.out.chgG hc5 hn1)
    replace HV2 := Lib.hid (HV2.out.chgG hc5 hn2)
    replace HV3 := Lib.hid (HV3.out.chgG hc5 hn3)
    replace HC := Lib.hid (HC.out.trans hc5)
    replace HR := Lib.hid hr5
    clear hr5 hc5
    by_cases hq : q = 0
    · subst hq
      obtain ⟨gv1, gv2, -, -, gs1, gs2⟩ := gridB_yes HT.out
      have w1b := (wish_ok gv1 gs1).2.2.2
      have w2b := (wish_ok gv2 gs2).2.2.2
      obtain ⟨qa, hqa⟩ : ∃ x, sumI (wishM L1 (L3.map acM)) = x := ⟨_, rfl⟩
      obtain ⟨qb, hqb⟩ : ∃ x, sumI (wishM L2 (L3.map dnM)) = x := ⟨_, rfl⟩
      rw [hqa] at w1b
      rw [hqb] at w2b
      have HQA := Lib.hid hqa
      have HQB := Lib.hid hqb
      clear gv1 gv2 gs1 gs2 hqa hqb
      have d0 := cellS HX.out 0
      have d1 := cellS HX.out 1
      have d2 := cellS HX.out 2
      go_wp2_with fail
      with_reducible refine (sgridRequest_v A1 c1 L1 A2 c2 L2 A3 c3 L3 _ HV1.out HV2.out HV3.out HT.out hcap1 hcap2).mono ?_
      rintro e w6 ⟨rfl, hb⟩
      rw [HQA.out, HQB.out]
      clear d0 d1 d2
      replace HX := Lib.hid ((hb.block _ (ltS HX.out)).trans HX.out)
      replace HZ := Lib.hid ((hb.block _ (ltS HZ.out)).trans HZ.out)
      replace HV1 := Lib.hid (HV1.out.keep hb)
      replace HV2 := Lib.hid (HV2.out.keep hb)
      replace HV3 := Lib.hid (HV3.out.keep hb)
      replace HC := Lib.hid (HC.out.of_below hb)
      replace HR := Lib.hid (HR.out.below hb)
      clear hb
      go_wp2_with fail
      with_reducible refine (one_lit_in (-4) 9 _ HR.out (by omega) (by simp) (by omega) (by omega) (by simp [isIn])).mono ?_
      rintro e w7 ⟨⟨s, rfl, sa, sb⟩, hr7, hc7⟩
      replace HX := Lib.hid (hc7.cellsH HX.out (by simpa using hbxr))
      replace HZ := Lib.hid (hc7.cellsH HZ.out (by simp; omega))
      replace HV1 := Lib.hid (HV1.out.chgG hc7 hn1)
      replace HV2 := Lib.hid (HV2.out.chgG hc7 hn2)
      replace HV3 := Lib.hid (HV3.out.chgG hc7 hn3)
      replace HC := Lib.hid (HC.out.trans hc7)
      replace HR := Lib.hid hr7
      clear hr7 hc7
      obtain ⟨ma, mb⟩ : 0 ≤ mx 0 (qa + s) ∧ mx 0 (qa + s) ≤ 2200 := by have := mx_spec 0 (qa + s); omega
      go_wp2_with fail
      with_reducible refine (one_lit_in (-3) 7 _ HR.out (by omega) (by simp) (by omega) (by omega) (by simp [isIn])).mono ?_
      rintro e w8 ⟨⟨t, rfl, ta, tb⟩, hr8, hc8⟩
      replace HX := Lib.hid (hc8.cellsH HX.out (by simpa using hbxr))
      replace HZ := Lib.hid (hc8.cellsH HZ.out (by simp; omega))
      replace HV1 := Lib.hid (HV1.out.chgG hc8 hn1)
      replace HV2 := Lib.hid (HV2.out.chgG hc8 hn2)
      replace HV3 := Lib.hid (HV3.out.chgG hc8 hn3)
      replace HC := Lib.hid (HC.out.trans hc8)
      replace HR := Lib.hid hr8
      clear hr8 hc8
      obtain ⟨mc, md⟩ : 0 ≤ mx 0 (qb + t) ∧ mx 0 (qb + t) ≤ 2200 := by have := mx_spec 0 (qb + t); omega
      have y0 := cellS HX.out 0
      have y1 := cellS HX.out 1
      have y2 := cellS HX.out 2
      have u0' := cellS HZ.out 0
      have u1' := cellS HZ.out 1
      have u2' := cellS HZ.out 2
      have g0' := frozenS HZ.out 0
      have g1' := frozenS HZ.out 1
      have g2' := frozenS HZ.out 2
      have hzl := ltS HZ.out
      have E1 := Lib.hid (put3s2 (put3s1 (put3s0 HZ.out (.slice A1 L1.length c1)) (.slice A2 L2.length c2)) (.slice A3 L3.length c3))
      have E2 := Lib.hid ((((HR.out.mono (show _ ≤ m + 9000 by omega)).setCell (p := ⟨w.heap.size, 0, none⟩) (by simp; omega) (by simp; omega) (.slice A1 L1.length c1)).setCell (p := ⟨w.heap.size, 1, none⟩) (by simp; omega) (by simp; omega) (.slice A2 L2.length c2)).setCell (p := ⟨w.heap.size, 2, none⟩) (by simp; omega) (by simp; omega) (.slice A3 L3.length c3))
      have E3 := Lib.hid (((HC.out.setCell (p := ⟨w.heap.size, 0, none⟩) (.inr (by simp)) (.slice A1 L1.length c1)).setCell (p := ⟨w.heap.size, 1, none⟩) (.inr (by simp)) (.slice A2 L2.length c2)).setCell (p := ⟨w.heap.size, 2, none⟩) (.inr (by simp)) (.slice A3 L3.length c3))
      have hcz := (((Chg.refl [w.heap.size] w8).setCell (p := ⟨w.heap.size, 0, none⟩) (.inl (by simp)) (.slice A1 L1.length c1)).setCell (p := ⟨w.heap.size, 1, none⟩) (.inl (by simp)) (.slice A2 L2.length c2)).setCell (p := ⟨w.heap.size, 2, none⟩) (.inl (by simp)) (.slice A3 L3.length c3)
      have E4 := Lib.hid (HV1.out.chgS hcz (fun a ha => by have := hbl1 a ha; simp; omega))
      have E5 := Lib.hid (HV2.out.chgS hcz (fun a ha => by have := hbl2 a ha; simp; omega))
      have E6 := Lib.hid (HV3.out.chgS hcz (fun a ha => by have := hbl3 a ha; simp; omega))
      clear hcz
      go_wp2
      refine bp_genGS (fun W => W.heap[w.heap.size]? = some (.cells #[.slice A1 L1.length c1, .slice A2 L2.length c2, .slice A3 L3.length c3] 26 (0, 0)) ∧ Rd B rb A l c (m + 9000) W ∧ Chg [rb] w W ∧ LnV W A1 L1 ∧ LnV W A2 L2 ∧ CeV W A3 L3) ⟨E1.out, E2.out, E3.out, E4.out, E5.out, E6.out⟩ ?_
      clear HX HZ HR HC HV1 HV2 HV3 E1 E2 E3 E4 E5 E6 y0 y1 y2 u0' u1' u2' g0' g1' g2'
      rintro W ⟨hp, hrW, hcW, hw1, hw2, hw3⟩
      have q0 := cellS hp 0
      have q1 := cellS hp 1
      have q2 := cellS hp 2
      exact bodyPost_ret (v := .tuple #[.agg #[.slice A1 L1.length c1, .slice A2 L2.length c2, .slice A3 L3.length c3], .int .i64 (mx 0 (qa + s)), .int .i64 (mx 0 (qb + t))]) (by simp only [results, Try.results30]; go_simp) rfl ⟨⟨A1, c1, L1, A2, c2, L2, A3, c3, L3, _, _, rfl, ⟨A1, c1, rfl, hcap1, hw1, fun a ha => by have := hbl1 a ha; omega⟩, ⟨A2, c2, rfl, hcap2, hw2, fun a ha => by have := hbl2 a ha; omega⟩, ⟨A3, c3, rfl, hcap3, hw3, fun a ha => by have := hbl3 a ha; omega⟩, h15, h25, h38, by omega, by omega⟩, hrW, hcW⟩
    · have e0 : (q == 0) = false := by simpa using hq
      have y0 := cellS HX.out 0
      have y1 := cellS HX.out 1
      have y2 := cellS HX.out 2
      have u0' := cellS HZ.out 0
      have u1' := cellS HZ.out 1
      have u2' := cellS HZ.out 2
      have g0' := frozenS HZ.out 0
      have g1' := frozenS HZ.out 1
      have g2' := frozenS HZ.out 2
      have hzl := ltS HZ.out
      have E1 := Lib.hid (put3s2 (put3s1 (put3s0 HZ.out (.slice A1 L1.length c1)) (.slice A2 L2.length c2)) (.slice A3 L3.length c3))
      have E2 := Lib.hid ((((HR.out.mono (show _ ≤ m + 9000 by omega)).setCell (p := ⟨w.heap.size, 0, none⟩) (by simp; omega) (by simp; omega) (.slice A1 L1.length c1)).setCell (p := ⟨w.heap.size, 1, none⟩) (by simp; omega) (by simp; omega) (.slice A2 L2.length c2)).setCell (p := ⟨w.heap.size, 2, none⟩) (by simp; omega) (by simp; omega) (.slice A3 L3.length c3))
      have E3 := Lib.hid (((HC.out.setCell (p := ⟨w.heap.size, 0, none⟩) (.inr (by simp)) (.slice A1 L1.length c1)).setCell (p := ⟨w.heap.size, 1, none⟩) (.inr (by simp)) (.slice A2 L2.length c2)).setCell (p := ⟨w.heap.size, 2, none⟩) (.inr (by simp)) (.slice A3 L3.length c3))
      have hcz := (((Chg.refl [w.heap.size] w5).setCell (p := ⟨w.heap.size, 0, none⟩) (.inl (by simp)) (.slice A1 L1.length c1)).setCell (p := ⟨w.heap.size, 1, none⟩) (.inl (by simp)) (.slice A2 L2.length c2)).setCell (p := ⟨w.heap.size, 2, none⟩) (.inl (by simp)) (.slice A3 L3.length c3)
      have E4 := Lib.hid (HV1.out.chgS hcz (fun a ha => by have := hbl1 a ha; simp; omega))
      have E5 := Lib.hid (HV2.out.chgS hcz (fun a ha => by have := hbl2 a ha; simp; omega))
      have E6 := Lib.hid (HV3.out.chgS hcz (fun a ha => by have := hbl3 a ha; simp; omega))
      clear hcz
      go_wp2
      refine bp_genGS (fun W => W.heap[w.heap.size]? = some (.cells #[.slice A1 L1.length c1, .slice A2 L2.length c2, .slice A3 L3.length c3] 26 (0, 0)) ∧ Rd B rb A l c (m + 9000) W ∧ Chg [rb] w W ∧ LnV W A1 L1 ∧ LnV W A2 L2 ∧ CeV W A3 L3) ⟨E1.out, E2.out, E3.out, E4.out, E5.out, E6.out⟩ ?_
      clear HX HZ HR HC HV1 HV2 HV3 E1 E2 E3 E4 E5 E6 y0 y1 y2 u0' u1' u2' g0' g1' g2'
      rintro W ⟨hp, hrW, hcW, hw1, hw2, hw3⟩
      have q0 := cellS hp 0
      have q1 := cellS hp 1
      have q2 := cellS hp 2
      exact bodyPost_ret (v := .tuple #[.agg #[.slice A1 L1.length c1, .slice A2 L2.length c2, .slice A3 L3.length c3], .int .i64 (y), .int .i64 (z)]) (by simp only [results, Try.results30]; go_simp) rfl ⟨⟨A1, c1, L1, A2, c2, L2, A3, c3, L3, _, _, rfl, ⟨A1, c1, rfl, hcap1, hw1, fun a ha => by have := hbl1 a ha; omega⟩, ⟨A2, c2, rfl, hcap2, hw2, fun a ha => by have := hbl2 a ha; omega⟩, ⟨A3, c3, rfl, hcap3, hw3, fun a ha => by have := hbl3 a ha; omega⟩, h15, h25, h38, by omega, by omega⟩, hrW, hcW⟩
end Go.Proofs.Ytikndbinlpmgaaa
end
section
namespace Go.Proofs.Ytikndbinlpmgaaa
open Go.RowKit
set_option linter.unusedVariables false
set_option maxHeartbeats 1000000
attribute [local go_sem] growUpon_value growUpon_skip growUpon_enter
set_option maxRecDepth 100000 in
theorem DrawGridRects_any (A : Option Addr) (n c : Nat) (w : World) (h : Bts w A n) (hn : n ≤ c) (hc : c ≤ maxLen) :
    Calls Try.prog 9 #[.slice A n c] w fun e w' => (∃ (A1 : Option Addr) (c1 : Nat) (L1 : List Ln) (A2 : Option Addr) (c2 : Nat) (L2 : List Ln) (A3 : Option Addr) (c3 : Nat) (L3 : List Ce) (u v : Int), e = .returned (.tuple #[.agg #[.slice A1 L1.length c1, .slice A2 L2.length c2, .slice A3 L3.length c3], .int .i64 u, .int .i64 v]) ∧ LnV w' A1 L1 ∧ LnV w' A2 L2 ∧ CeV w' A3 L3 ∧ (L1.length ≤ 5 ∧ L2.length ≤ 5 ∧ L3.length ≤ 8) ∧ L1.length ≤ c1 ∧ L2.length ≤ c2 ∧ L3.length ≤ c3 ∧ (-1 ≤ u ∧ u ≤ 3000) ∧ (-1 ≤ v ∧ v ≤ 3000)) ∧ Below w.heap.size w w' := by
  go_enter Try.func9, Try.ntmps9
  go_upto_region 1 with (fail)
  refine wp_genGS (fun W => W.heap[w.heap.size]? = some (.cells #[.slice none 0 0, .slice none 0 0, .slice none 0 0] 26 (0, 0)) ∧ Bts W A n ∧ Below w.heap.size w W ∧ w.heap.size < W.heap.size) ⟨newS _ _, h.alloc _, balloc (Below.refl _ _), by simp⟩ (fun W0 h0 => ?_)
  obtain ⟨hz, hb0, hB0, hs0⟩ := h0
  have HZ := Lib.hid hz
  have HB := Lib.hid hB0
  clear hz hB0
  go_wp2_with fail
  with_reducible refine (newReader_any A n c _ hb0 hn hc).mono ?_
  rintro e w1 ⟨n', rfl, hr1, hc1⟩
  have hs1 := hc1.size
  replace HZ := Lib.hid ((hc1.block _ hs0 (by simp)).trans HZ.out)
  have HC := Lib.hid (hc1.mono (S' := [W0.heap.size]) (by simp))
  clear hc1 hb0
  go_wp2_with fail
  with_reducible refine (gridRoom_any w1 hr1 (by omega)).mono ?_
  rintro e w2 ⟨⟨A1, c1, L1, A2, c2, L2, A3, c3, L3, u, v, rfl, hL1, hL2, hL3, h15, h25, h38, hu, hv⟩, hr2, hc2⟩
  have hs2 := hc2.size
  replace HZ := Lib.hid ((hc2.block _ (by omega) (by simp; omega)).trans HZ.out)
  replace HC := Lib.hid (HC.out.trans hc2)
  have HBB := Lib.hid (HB.out.trans ((Chg.below HC.out (Nat.le_refl _) (by simp)).mono (by omega)))
  obtain ⟨A1', c1', e1, hcap1, hv1, hbl1⟩ := hL1
  obtain ⟨A2', c2', e2, hcap2, hv2, hbl2⟩ := hL2
  obtain ⟨A3', c3', e3, hcap3, hv3, hbl3⟩ := hL3
  cases e1
  cases e2
  cases e3
  have HV1 := Lib.hid hv1
  have HV2 := Lib.hid hv2
  have HV3 := Lib.hid hv3
  clear hr1 hr2 hc2 HB HC hv1 hv2 hv3
  have u0 := cellS HZ.out 0
  have u1 := cellS HZ.out 1
  have u2 := cellS HZ.out 2
  have g0 := frozenS HZ.out 0
  have g1 := frozenS HZ.out 1
  have g2 := frozenS HZ.out 2
  have hzl := ltS HZ.out
  have E1 := Lib.hid (put3s2 (put3s1 (put3s0 HZ.out (.slice A1 L1.length c1)) (.slice A2 L2.length c2)) (.slice A3 L3.length c3))
  go_wp2
  refine bp_genGS (fun W => W.heap[w.heap.size]? = some (.cells #[.slice A1 L1.length c1, .slice A2 L2.length c2, .slice A3 L3.length c3] 26 (0, 0)) ∧ Below w.heap.size w W ∧ Chg [w.heap.size] w2 W) ⟨E1.out, (((HBB.out.setCell (p := ⟨w.heap.size, 0, none⟩) (by simp) _).setCell (p := ⟨w.heap.size, 1, none⟩) (by simp) _).setCell (p := ⟨w.heap.size, 2, none⟩) (by simp) _), ((((Chg.refl [w.heap.size] _).setCell (p := ⟨w.heap.size, 0, none⟩) (.inl (by simp)) _).setCell (p := ⟨w.heap.size, 1, none⟩) (.inl (by simp)) _).setCell (p := ⟨w.heap.size, 2, none⟩) (.inl (by simp)) _)⟩ ?_
  clear HZ HBB E1 u0 u1 u2 g0 g1 g2
  rintro W ⟨hp, hbW, hcf⟩
  have q0 := cellS hp 0
  have q1 := cellS hp 1
  have q2 := cellS hp 2
  exact bodyPost_ret (v := .tuple #[.agg #[.slice A1 L1.length c1, .slice A2 L2.length c2, .slice A3 L3.length c3], .int .i64 u, .int .i64 v]) (by simp only [results, Try.results9]; go_simp) rfl ⟨⟨A1, c1, L1, A2, c2, L2, A3, c3, L3, u, v, rfl, HV1.out.chgS hcf (fun a ha => by have := hbl1 a ha; simp; omega), HV2.out.chgS hcf (fun a ha => by have := hbl2 a ha; simp; omega), HV3.out.chgS hcf (fun a ha => by have := hbl3 a ha; simp; omega), ⟨h15, h25, h38⟩, hcap1, hcap2, hcap3, hu, hv⟩, hbW⟩
end Go.Proofs.Ytikndbinlpmgaaa
end
section
namespace Go.Proofs.Ytikndbinlpmgaaa
open Go.RowKit
set_option linter.unusedVariables false
set_option maxHeartbeats 1000000
attribute [local go_sem] growUpon_value growUpon_skip growUpon_enter
structure Re where
  x : Int
  y : Int
  u : Int
  v : Int
def valsRe (p : Re) : List Value := [.int .i64 p.x, .int .i64 p.y, .int .i64 p.u, .int .i64 p.v]
/-- a slice that reads as this list -/
structure ReV (w : World) (A : Option Addr) (L : List Re) : Prop where
  cells : 0 < L.length → ∃ b off, A = some ⟨b, off, none⟩ ∧ b < w.heap.size ∧ ∀ i p, L[i]? = some p → w.cell? ⟨b, off + i * 4, none⟩ = some (.int .i64 p.x) ∧ w.cell? ⟨b, off + i * 4 + 1, none⟩ = some (.int .i64 p.y) ∧ w.cell? ⟨b, off + i * 4 + 2, none⟩ = some (.int .i64 p.u) ∧ w.cell? ⟨b, off + i * 4 + 3, none⟩ = some (.int .i64 p.v)
theorem ReV.keep {w w' : World} {A : Option Addr} {L : List Re} (h : ReV w A L) (hb : Below w.heap.size w w') : ReV w' A L :=
  ⟨fun h0 => let ⟨b, off, e, hl, hp⟩ := h.cells h0; ⟨b, off, e, Nat.lt_of_lt_of_le hl hb.size, fun i p hi => by
    obtain ⟨c0, c1, c2, c3⟩ := hp i p hi
    exact ⟨(hb.cell (p := ⟨b, off + i * 4, none⟩) hl).trans c0, (hb.cell (p := ⟨b, off + i * 4 + 1, none⟩) hl).trans c1, (hb.cell (p := ⟨b, off + i * 4 + 2, none⟩) hl).trans c2, (hb.cell (p := ⟨b, off + i * 4 + 3, none⟩) hl).trans c3⟩⟩⟩
theorem ReV.nil (w : World) (A : Option Addr) : ReV w A [] := ⟨fun h => absurd h (by simp)⟩
/-- what a new block holds -/
def ReB (w : World) (g : Nat) (L : List Re) : Prop := ∃ cs : Array Value, w.heap[g]? = some (.cells cs 35 (0, 0)) ∧ cs.size = L.length * 4 ∧ ∀ i p, L[i]? = some p → InS cs (i * 4) (valsRe p)
theorem ReB.v {w : World} {g : Nat} {L : List Re} (h : ReB w g L) : ReV w (some ⟨g, 0, none⟩) L := by
  obtain ⟨cs, hh, hs, hc⟩ := h
  refine ⟨fun _ => ⟨g, 0, rfl, ltS hh, fun i p hp => ?_⟩⟩
  have hi := hc i p hp
  simp only [Nat.zero_add]
  exact ⟨(cellS hh _).trans (hi 0 _ rfl), (cellS hh _).trans (hi 1 _ rfl), (cellS hh _).trans (hi 2 _ rfl), (cellS hh _).trans (hi 3 _ rfl)⟩
theorem ReB.lt {w : World} {g : Nat} {L : List Re} (h : ReB w g L) : g < w.heap.size := by obtain ⟨cs, hh, _⟩ := h; exact ltS hh
theorem ReB.keep {w w' : World} {g : Nat} {L : List Re} (h : ReB w g L) (hb : Below w.heap.size w w') : ReB w' g L := by
  obtain ⟨cs, hh, hs, hc⟩ := h
  exact ⟨cs, (hb.block g (ltS hh)).trans hh, hs, hc⟩
theorem ReB.but {w w' : World} {g h : Nat} {L : List Re} (hi : ReB w h L) (hg : w.grownBy w' (some g)) (hne : h ≠ g) : ReB w' h L := by
  obtain ⟨cs, hh, hs, hc⟩ := hi
  exact ⟨cs, (hg.block h (ltS hh) (fun e => hne (Option.some.inj e))).trans hh, hs, hc⟩
theorem madeRe : ∃ f : Nat → Array Value, (∀ n, (f n).size = n * 4) ∧ ∀ (n : Nat) (w : World), n ≤ 1048576 → (Instr.makeSlice 29 (.int .i64 (n : Int)) (.int .i64 (n : Int))).run Try.prog w = .ok (.slice (some ⟨w.heap.size, 0, none⟩) n n) (w.alloc (.cells (f n) 35)) := by
  have hinfo : (Try.prog.info? 35).map (fun i => (i.zero, i.size, i.bytes)) = some (some (.agg #[.int .i64 0, .int .i64 0, .int .i64 0, .int .i64 0]), 4, 32) := by kernel_rfl
  obtain ⟨i, hi, h1, h2, h3⟩ := info_parts hinfo
  refine ⟨fun n => madeCells (Value.agg #[.int .i64 0, .int .i64 0, .int .i64 0, .int .i64 0]).cells (n * 4), fun n => size_madeCells _ _, fun n w hn => ?_⟩
  have hr := run_make (P := Try.prog) w 29 35 i _ Try.underlying29 hi h1 .i64 .i64 n n (by omega) (Int.le_refl _) (by rw [h3]; omega) (by omega)
  rw [h2] at hr
  simpa using hr
theorem putRe {w : World} {b : Nat} {cs : Array Value} {T : TypeId} {fz : Nat × Nat} (h : w.heap[b]? = some (.cells cs T fz)) (o : Nat) (p : Re) :
    (((((w.setCell ⟨b, o, none⟩ (.int .i64 p.x)).setCell ⟨b, o + 1, none⟩ (.int .i64 p.y)).setCell ⟨b, o + 2, none⟩ (.int .i64 p.u)).setCell ⟨b, o + 3, none⟩ (.int .i64 p.v))).heap[b]? = some (.cells (wrAt cs o (valsRe p)) T fz) :=
  putS (putS (putS (putS h _) _) _) _
theorem putReb {B b : Nat} {a w : World} (h : Below B a w) (hb : B ≤ b) (o : Nat) (p : Re) : Below B a (((((w.setCell ⟨b, o, none⟩ (.int .i64 p.x)).setCell ⟨b, o + 1, none⟩ (.int .i64 p.y)).setCell ⟨b, o + 2, none⟩ (.int .i64 p.u)).setCell ⟨b, o + 3, none⟩ (.int .i64 p.v))) :=
  ((((h).setCell hb _).setCell hb _).setCell hb _).setCell hb _
set_option maxRecDepth 100000 in
theorem eqRe_same (p : Re) (w : World) : Calls Try.prog 58 #[.agg #[.int .i64 p.x, .int .i64 p.y, .int .i64 p.u, .int .i64 p.v], .agg #[.int .i64 p.x, .int .i64 p.y, .int .i64 p.u, .int .i64 p.v]] w fun e w' => e = .returned (.bool true) ∧ Below w.heap.size w w' := by
  go_enter Try.func58, Try.ntmps58
  go_wp2
  go_ret
  exact ⟨rfl, balloc (balloc (Below.refl _ _))⟩
set_option maxRecDepth 100000 in
theorem eqReS_same (A B : Option Addr) (c c' : Nat) (L : List Re) (w : World) (h : ReV w A L) (h' : ReV w B L) (hL : L.length ≤ 1048576) :
    Calls Try.prog 25 #[.slice A L.length c, .slice B L.length c'] w fun e w' => e = .returned (.bool true) ∧ Below w.heap.size w w' := by
  go_enter Try.func25, Try.ntmps25
  go_wp2_with fail
  go_loopw [5] (fun i wr => ∃ k : Nat, k ≤ L.length ∧ i = .int .i64 k ∧ Below w.heap.size w wr) (fun i _ => L.length - (intOf i).toNat)
  case atStart => exact ⟨0, by omega, rfl, Below.refl _ _⟩
  case round =>
    obtain ⟨k, hk, rfl, hB⟩ := hrel
    by_cases hlt : k < L.length
    · have hd : decide ((k : Int) < (L.length : Int)) = true := by simpa using hlt
      obtain ⟨b, off, rfl, hb, hp⟩ := (h.keep hB).cells (by omega)
      obtain ⟨b', off', rfl, hb', hp'⟩ := (h'.keep hB).cells (by omega)
      obtain ⟨c0, c1, c2, c3⟩ := hp k _ (List.getElem?_eq_getElem hlt)
      obtain ⟨d0, d1, d2, d3⟩ := hp' k _ (List.getElem?_eq_getElem hlt)
      generalize hx : L[k] = p at *
      have HX := Lib.hid hx
      have HBB := Lib.hid hB
      clear hx hp hp' hB
      go_wp2_with fail
      refine wp_region_grow 10 0 (· < 10) (by kernel_rfl) (by kernel_rfl) rfl ?_
      iterate 10 (refine wpG_step (fun K hK => ?_); first | (refine grow_skip rfl ?_; go_simp; refine hK _ ?_; clear hK K) | (apply Exists.intro; refine ⟨.inl ⟨rfl, fun w' hw' => ?_⟩, ?_⟩; (focus ((obtain ⟨hc, hf⟩ := bcell hw'.out); (have hcS := bcellS hw'.out); go_simp <;> first | rfl | (go_at_call 58; exact eqRe_same p _))); (go_simp; refine hK _ ?_; clear hK K)))
      refine wpG_nil ?_
      refine wpK_tail (by kernel_rfl) (fun w1 hg1 => ?_)
      have hb1 := bdrewn hg1.out
      refine wpAny_end (by kernel_rfl) ?_
      refine NoPan.thn ?_
      clear hg1
      replace HBB := Lib.hid (HBB.out.trans (hb1.mono HBB.out.size))
      clear hb1 c0 c1 c2 c3 d0 d1 d2 d3
      go_wp2
      go_roundw
      case rel => exact ⟨k + 1, by omega, by go_num, HBB.out⟩
      case measure => simp [intOf]; omega
    · have hd : decide ((k : Int) < (L.length : Int)) = false := by simp; omega
      have HBB := Lib.hid hB
      clear hB
      go_wp2
      go_ret
      exact ⟨rfl, HBB.out⟩
set_option maxRecDepth 100000 in
theorem markReS_v (g n : Nat) (z : Int) (L : List Re) (w : World) (h : ReB w g L) (hn : n = L.length) (hL : L.length ≤ 1048576) (h0 : 1 ≤ z) (hz : z ≤ 1000000000) :
    Calls Try.prog 27 #[.slice (some ⟨g, 0, none⟩) n n, .int .i64 z] w fun e w' => e = .returned (.int .i64 ((L.length : Int) * 4 + z)) ∧ w.grownBy w' (some g) := by
  subst hn
  obtain ⟨cs0, hh0, hs0, _⟩ := h
  have H0 := Lib.hid (And.intro hh0 hs0)
  clear hh0 hs0
  go_enter Try.func27, Try.ntmps27
  go_wp2_with fail
  go_loopw [1, 5] (fun kk i wr => ∃ k : Nat, k ≤ L.length ∧ i = .int .i64 k ∧ kk = .int .i64 ((k : Int) * 4 + z) ∧ (∃ cs : Array Value, wr.heap[g]? = some (.cells cs 35 (0, 0)) ∧ cs.size = L.length * 4) ∧ w.grownBy wr (some g)) (fun _ i _ => L.length - (intOf i).toNat)
  case atStart => exact ⟨0, by omega, rfl, by simp, ⟨_, H0.out.1, H0.out.2⟩, greflS _ _⟩
  case round =>
    obtain ⟨k, hk, rfl, rfl, ⟨cs, hh, hs⟩, hB⟩ := hrel
    clear H0
    by_cases hlt : k < L.length
    · have hd : decide ((k : Int) < (L.length : Int)) = true := by simpa using hlt
      obtain ⟨y0, d0⟩ := thereS hh (i := k * 4) (by omega)
      obtain ⟨y1, d1⟩ := thereS hh (i := k * 4 + 1) (by omega)
      obtain ⟨y2, d2⟩ := thereS hh (i := k * 4 + 2) (by omega)
      obtain ⟨y3, d3⟩ := thereS hh (i := k * 4 + 3) (by omega)
      have f0 := frozenS hh (k * 4)
      have f1 := frozenS hh (k * 4 + 1)
      have f2 := frozenS hh (k * 4 + 2)
      have f3 := frozenS hh (k * 4 + 3)
      have HH := Lib.hid hh
      have HS := Lib.hid hs
      have HB := Lib.hid hB
      clear hh hs hB
      go_wp2_with fail
      go_roundw
      case rel =>
        refine ⟨k + 1, by omega, by go_num, by go_num, ⟨_, putS (putS (putS (putS (HH.out) _) _) _) _, by simpa using HS.out⟩, ?_⟩
        exact gsetS (gsetS (gsetS (gsetS (HB.out) _ _) _ _) _ _) _ _
      case measure => simp [intOf]; omega
    · have hd : decide ((k : Int) < (L.length : Int)) = false := by simp; omega
      obtain rfl : k = L.length := by omega
      have HB := Lib.hid hB
      clear hh hs hB
      go_wp2
      go_ret
      exact ⟨rfl, HB.out⟩
end Go.Proofs.Ytikndbinlpmgaaa
end
section
namespace Go.Proofs.Ytikndbinlpmgaaa
set_option linter.unusedVariables false
theorem takZ_at : ∀ {L : List Ln} {O P : List Int} {i : Nat} {l : Ln} {o p : Int}, L[i]? = some l → O[i]? = some o → P[i]? = some p → (takZ L O P)[i]? = some (o - mn p (o - l.mi))
  | l' :: L, o' :: O, p' :: P, 0, l, o, p, hl, ho, hp => by
    simp only [List.getElem?_cons_zero, Option.some.injEq] at hl ho hp
    subst hl ho hp
    simp [takZ]
  | l' :: L, o' :: O, p' :: P, i + 1, l, o, p, hl, ho, hp => by
    simp only [List.getElem?_cons_succ] at hl ho hp
    simp only [takZ, List.getElem?_cons_succ]
    exact takZ_at hl ho hp
  | [], _, _, i, l, o, p, hl, _, _ => by simp at hl
  | _ :: _, [], _, i, l, o, p, _, ho, _ => by simp at ho
  | _ :: _, _ :: _, [], i, l, o, p, _, _, hp => by simp at hp
theorem takZ_sum : ∀ (L : List Ln) (O P : List Int), sumI (takZ L O P) = sumI O - tknZ L O P
  | l :: L, o :: O, p :: P => by simp only [takZ, tknZ, sumI, takZ_sum L O P]; omega
  | [], O, P => by simp [takZ, tknZ]
  | l :: L, [], P => by simp [takZ, tknZ]
  | l :: L, o :: O, [] => by simp [takZ, tknZ]
theorem shr_all {L : List Ln} (hL : linesB L = true) : ∀ (f : Nat) (n : Int) (O : List Int), n.toNat ≤ f → 0 ≤ n → SOK L O →
    SOK L (shrZ L n O) ∧ (∀ (i : Nat) (l : Ln) (o r : Int), L[i]? = some l → O[i]? = some o → (shrZ L n O)[i]? = some r → r ≤ o ∧ (l.wt = 0 → r = o)) ∧ sumI (shrZ L n O) ≤ sumI O ∧ sumI O - n ≤ sumI (shrZ L n O) ∧ (sumI (shrZ L n O) = sumI O - n ∨ sumI (wtZ L (shrZ L n O)) = 0)
  | 0, n, O, hf, hn, h => by
    obtain rfl : n = 0 := by omega
    rw [shr_end (.inl (by omega))]
    exact ⟨h, fun i l o r _ h1 h2 => by rw [h1] at h2; obtain rfl := Option.some.inj h2; exact ⟨Int.le_refl _, fun _ => rfl⟩, Int.le_refl _, by omega, .inl (by omega)⟩
  | f + 1, n, O, hf, hn, h => by
    by_cases h0 : 0 < n ∧ sumI (wtZ L O) ≠ 0
    · obtain ⟨hp0, hs⟩ := h0
      obtain ⟨hp, ht0, htn, hk⟩ := round_ok hL h hp0 hs
      rw [shr_go hL h hp0 hs]
      have hw := wtZ_ok hL h
      have hs0 : 0 < sumI (wtZ L O) := by have := hw.sum; omega
      have hsum := takZ_sum L O (spreadM n (wtZ L O))
      obtain ⟨a1, a2, a3, a4, a5⟩ := shr_all hL f (n - tknZ L O (spreadM n (wtZ L O))) (takZ L O (spreadM n (wtZ L O))) (by omega) (by omega) hk
      refine ⟨a1, fun i l o r h1 h2 h3 => ?_, by omega, by omega, ?_⟩
      · obtain ⟨y, e1, y0, y1, e2⟩ := spread_get (n := n) (by omega) hw (wtZ_get h1 h2)
        have := takZ_at h1 h2 e1
        have hr := a2 i l _ r h1 this h3
        have hmi := (h.get h1 h2).1
        have hm := mn_spec y (o - l.mi)
        refine ⟨by omega, fun hw0 => ?_⟩
        have h4 := (e2 hs0).1 (by rw [hw0]; simp)
        have := hr.2 hw0
        subst h4
        omega
      · rcases a5 with a5 | a5
        · exact .inl (by omega)
        · exact .inr a5
    · have he : shrZ L n O = O := shr_end (by omega)
      rw [he]
      refine ⟨h, fun i l o r _ h1 h2 => by rw [h1] at h2; obtain rfl := Option.some.inj h2; exact ⟨Int.le_refl _, fun _ => rfl⟩, Int.le_refl _, by omega, ?_⟩
      by_cases hp0 : 0 < n
      · exact .inr (by omega)
      · exact .inl (by omega)
theorem addP_at : ∀ {O P : List Int} {i : Nat} {o p : Int}, O[i]? = some o → P[i]? = some p → (addP O P)[i]? = some (o + p)
  | o' :: O, p' :: P, 0, o, p, h, hp => by
    simp only [List.getElem?_cons_zero, Option.some.injEq] at h hp
    subst h hp
    simp [addP]
  | o' :: O, p' :: P, i + 1, o, p, h, hp => by
    simp only [List.getElem?_cons_succ] at h hp
    simp only [addP, List.getElem?_cons_succ]
    exact addP_at h hp
  | [], P, i, o, p, h, _ => by simp at h
  | o' :: O, [], i, o, p, _, hp => by simp at hp
theorem addAt0 (O P : List Int) : addAt O 0 P = addP O P := by simp [addAt]
theorem linesB_get {L : List Ln} (hL : linesB L = true) {l : Ln} (hl : l ∈ L) : (0 ≤ l.wt ∧ l.wt ≤ 5) ∧ (0 ≤ l.mi ∧ l.mi ≤ 30) := by
  obtain ⟨h1, h2⟩ := min_bd hL
  refine ⟨h2.1 _ (List.mem_map_of_mem hl), ?_⟩
  simp only [linesB, Bool.and_eq_true, List.all_eq_true] at hL
  have := hL.2 l hl
  simp only [lineB, Bool.and_eq_true, rng_iff] at this
  exact this.2
/-- the sizes of lines in a room -/
theorem sized_ok {L : List Ln} {S : List Sp} {room : Int} (hL : linesB L = true) (hS : spansB L.length S = true) (hr0 : 0 ≤ room) (hr1 : room ≤ 400) :
    SOK L (sizedM L S room) ∧ (sizedM L S room).length = L.length ∧ (∀ x ∈ sizedM L S room, 0 ≤ x ∧ x ≤ 1000000) ∧ sumI (sizedM L S room) ≤ 2150 := by
  obtain ⟨k1, k2, k3, k4, k5⟩ := wish_ok hL hS
  have key : SOK L (sizedM L S room) ∧ sumI (sizedM L S room) ≤ 2150 := by
    unfold sizedM
    split
    · obtain ⟨a1, a2, a3, a4, a5⟩ := shr_all hL _ (-(room - sumI (wishM L S))) (wishM L S) (Nat.le_refl _) (by omega) k1
      exact ⟨a1, by omega⟩
    · split
      · exact ⟨k1, k5⟩
      · obtain ⟨hO, hW⟩ := min_bd hL
        have hn : 0 ≤ room - sumI (wishM L S) := by omega
        have hsum := spread_sum hn hW
        have hnn := spread_nn hn hW
        have hlen : (spreadM (room - sumI (wishM L S)) (L.map Ln.wt)).length = L.length := by rw [spreadM_len, List.length_map]
        have hs := sum_addAt (O := wishM L S) (P := spreadM (room - sumI (wishM L S)) (L.map Ln.wt)) (k := 0) (by omega)
        have hmi : MI L (addAt (wishM L S) 0 (spreadM (room - sumI (wishM L S)) (L.map Ln.wt))) := MI.add (fun i l o h1 h2 => (k1.get h1 h2).1) hnn
        have hx0 := nn_addAt (k := 0) (fun x hx => (k3 x hx).1) hnn
        have hx1 := mem_le_sum hx0
        refine ⟨SOK.of (by rw [addAt_len]; exact k2) hmi (fun x hx => by have := hx1 x hx; omega), by omega⟩
  refine ⟨key.1, key.1.len, fun x hx => ?_, key.2⟩
  obtain ⟨i, hi, e⟩ := List.mem_iff_getElem.1 hx
  have hl : i < L.length := by rw [← key.1.len]; exact hi
  have := key.1.get (List.getElem?_eq_getElem hl) (by rw [List.getElem?_eq_getElem hi, e])
  have := (linesB_get hL (List.getElem_mem hl)).2
  omega
theorem sized_smal {L : List Ln} {S : List Sp} {room : Int} (hL : linesB L = true) (hS : spansB L.length S = true) (hr0 : 0 ≤ room) (hr1 : room ≤ 400) : Smal 1000000000 (sizedM L S room) ∧ (sizedM L S room).length ≤ 5 := by
  obtain ⟨-, hl, hx, -⟩ := sized_ok hL hS hr0 hr1
  have h5 := (linesB_len hL).2
  refine ⟨smal_of (b := 1000000) (fun x h => ⟨by have := (hx x h).1; omega, (hx x h).2⟩) (by omega) ?_, by omega⟩
  rw [hl]; omega
/-- where each line begins, up to one of them -/
def edP (S : List Int) (k : Nat) : List Int := (List.range (S.length + 1)).map fun i => if i ≤ k then sumI (S.take i) else 0
def edL (S : List Int) : List Int := (List.range (S.length + 1)).map fun i => sumI (S.take i)
theorem edP_len (S : List Int) (k : Nat) : (edP S k).length = S.length + 1 := by simp [edP]
theorem edL_len (S : List Int) : (edL S).length = S.length + 1 := by simp [edL]
theorem edP_zero (S : List Int) : List.replicate (S.length + 1) 0 = edP S 0 := by
  apply List.ext_getElem
  · simp [edP]
  · intro i h1 h2
    simp only [edP, List.getElem_map, List.getElem_range, List.getElem_replicate]
    split
    · rename_i h
      obtain rfl : i = 0 := by omega
      simp [sumI]
    · rfl
theorem edP_end (S : List Int) : edP S S.length = edL S := by
  apply List.ext_getElem
  · simp [edP, edL]
  · intro i h1 h2
    simp only [edP, edL, List.getElem_map, List.getElem_range]
    rw [if_pos]
    simp [edP] at h1
    omega
theorem edP_get {S : List Int} {k i : Nat} (hi : i ≤ S.length) : (edP S k)[i]? = some (if i ≤ k then sumI (S.take i) else 0) := by
  rw [List.getElem?_eq_getElem (by rw [edP_len]; omega)]
  simp [edP]
theorem edL_get {S : List Int} {i : Nat} (hi : i ≤ S.length) : (edL S)[i]? = some (sumI (S.take i)) := by
  rw [List.getElem?_eq_getElem (by rw [edL_len]; omega)]
  simp [edL]
theorem edP_set {S : List Int} {k : Nat} (hk : k < S.length) : (edP S k).set (k + 1) (sumI (S.take (k + 1))) = edP S (k + 1) := by
  apply List.ext_getElem
  · simp [edP]
  · intro i h1 h2
    rw [List.getElem_set]
    simp only [edP, List.getElem_map, List.getElem_range]
    split
    · rename_i h
      subst h
      rw [if_pos (Nat.le_refl _)]
    · rename_i h
      by_cases h3 : i ≤ k
      · rw [if_pos h3, if_pos (by omega)]
      · rw [if_neg h3, if_neg (by omega)]
/-- the line in which a place lies, told from the one that begins at a place -/
def lnAt : List Int → Int → Int → Int → Int
  | [], _, _, _ => -1
  | s :: t, a, p, i => if a ≤ p ∧ p < a + s then i else lnAt t (a + s) p (i + 1)
def lineM (S : List Int) (p : Int) : Int := lnAt S 0 p 0
theorem lnAt_bd : ∀ (S : List Int) (a p i : Int), 0 ≤ i → -1 ≤ lnAt S a p i ∧ lnAt S a p i < i + S.length ∨ lnAt S a p i = -1
  | [], a, p, i, h => by simp [lnAt]
  | s :: t, a, p, i, h => by
    unfold lnAt
    split
    · simp only [List.length_cons]; omega
    · rcases lnAt_bd t (a + s) p (i + 1) (by omega) with h1 | h1
      · simp only [List.length_cons]; omega
      · exact .inr h1
theorem lnAt_drop {S : List Int} {k : Nat} {s p R : Int} (hs : S[k]? = some s) (h : lnAt (S.drop k) (sumI (S.take k)) p k = R) :
    (sumI (S.take k) ≤ p ∧ p < sumI (S.take k) + s → R = k) ∧ (¬ (sumI (S.take k) ≤ p ∧ p < sumI (S.take k) + s) → lnAt (S.drop (k + 1)) (sumI (S.take (k + 1))) p ((k + 1 : Nat) : Int) = R) := by
  obtain ⟨hk, e⟩ := List.getElem?_eq_some_iff.1 hs
  rw [List.drop_eq_getElem_cons hk, e, lnAt] at h
  rw [sumI_snoc hs]
  constructor
  · intro hc; rw [if_pos hc] at h; exact h.symm
  · intro hc; rw [if_neg hc] at h; rw [← h]; rfl
theorem lnAt_done {S : List Int} {k : Nat} {p R : Int} (hk : S.length ≤ k) (h : lnAt (S.drop k) (sumI (S.take k)) p k = R) : R = -1 := by
  rw [List.drop_eq_nil_of_le hk, lnAt] at h
  exact h.symm
end Go.Proofs.Ytikndbinlpmgaaa
end
section
namespace Go.Proofs.Ytikndbinlpmgaaa
open Go.RowKit
set_option linter.unusedVariables false
set_option maxHeartbeats 1000000
attribute [local go_sem] growUpon_value growUpon_skip growUpon_enter
attribute [local go_sem] givesUpon_value givesUpon_skip givesUpon_enter
theorem nopan_normal {Q : Exit → Act → World → Prop} {a : Act} {w : World} (h : Q .normal a w) : NoPan Q .normal a w := h
set_option maxRecDepth 100000 in
theorem edgesOf_v (A : Option Addr) (c n : Nat) (S : List Int) (w : World) (h : NV w A S) (hn : n = S.length) (h5 : S.length ≤ 5) (hM : Smal 1000000000 S) :
    Calls Try.prog 84 #[.slice A n c] w fun e w' => e = .returned (.slice (some ⟨w.heap.size, 0, none⟩) (n + 1) (n + 1)) ∧ IB w' w.heap.size (edL S) ∧ Below w.heap.size w w' := by
  have hmk : ∀ w : World, (Instr.makeSlice 68 (.int .i64 ((n : Int) + 1)) (.int .i64 ((n : Int) + 1))).run Try.prog w = .ok (.slice (some ⟨w.heap.size, 0, none⟩) (n + 1) (n + 1)) (w.alloc (.cells (ivals (List.replicate (n + 1) 0)) 3)) := fun w => madeI (n + 1) w (by omega)
  have HM := Lib.hid hM
  subst hn
  have hi0 : IB (w.alloc (.cells (ivals (List.replicate (S.length + 1) 0)) 3)) w.heap.size (edP S 0) := by rw [← edP_zero]; exact makeI_b _ w
  have HI := Lib.hid hi0
  have HB := Lib.hid (balloc (o := (.cells (ivals (List.replicate (S.length + 1) 0)) 3)) (Below.refl w.heap.size w))
  have HH := Lib.hid h
  clear hM hi0 h
  obtain ⟨n, hn⟩ : ∃ n, S.length = n := ⟨_, rfl⟩
  rw [hn] at hmk h5
  have HN := Lib.hid hn
  rw [show S.length = n from hn]
  go_enter Try.func84, Try.ntmps84
  go_wp2_with fail
  go_loopw [11] (fun i wr => ∃ k : Nat, k ≤ n ∧ i = .int .i64 k ∧ IB wr w.heap.size (edP S k) ∧ Below w.heap.size w wr) (fun i _ => n - (intOf i).toNat)
  case atStart => exact ⟨0, by omega, rfl, by rw [← HN.out]; exact HI.out, by rw [← HN.out]; exact HB.out⟩
  case round =>
    obtain ⟨k, hk, rfl, hi, hB⟩ := hrel
    clear HI HB
    by_cases hlt : k < n
    · have hd : decide ((k : Int) < (n : Int)) = true := by simpa using hlt
      have hlS : k < S.length := by omega
      obtain ⟨b, off, rfl, hb, hp⟩ := (HH.out.keep hB).cells (by omega)
      have hget : S[k]? = some S[k] := List.getElem?_eq_getElem hlS
      have c0 := hp k _ hget
      have hs := sumI_snoc hget
      have b1 := HM.out k
      have b2 := HM.out (k + 1)
      rw [hs] at b2
      have hset := hi.set (k + 1) (sumI (S.take (k + 1)))
      rw [edP_set hlS, hs] at hset
      generalize S[k] = x at *
      have d0 := hi.cell (edP_get (S := S) (k := k) (i := k) (by omega))
      rw [if_pos (Nat.le_refl _)] at d0
      have d1 := hi.cell (edP_get (S := S) (k := k) (i := k + 1) (by omega))
      rw [if_neg (by omega)] at d1
      have f1 := hi.frozen (k + 1)
      obtain ⟨t, ht⟩ : ∃ t, sumI (S.take k) = t := ⟨_, rfl⟩
      rw [ht] at d0 b1 b2 hset
      have hlg := hi.lt
      have i1 : (k : Int) < (n : Int) + 1 := by omega
      have i2 : (k : Int) + 1 < (n : Int) + 1 := by omega
      have i3 : (0 : Int) ≤ (k : Int) + 1 := by omega
      have i4 : ((k : Int) + 1).toNat = k + 1 := by omega
      have m1 : IntKind.i64.wrap ((k : Int) + 1) = (k : Int) + 1 := IntWalk.i64_in _ (by omega)
      have m2 : IntKind.i64.wrap (t + x) = t + x := IntWalk.i64_in _ (by omega)
      have HI := Lib.hid hi
      have HB := Lib.hid hB
      have HT := Lib.hid (And.intro ht hs)
      clear hi hB hp hget ht hs hset hn
      go_wp2_with fail
      refine wp_region_grow 13 1 (· < 13) (by kernel_rfl) (by kernel_rfl) rfl ?_
      iterate 13 (refine wpG_step (fun K hK => ?_); first | (refine grow_skip rfl ?_; go_simp; refine hK _ ?_; clear hK K) | (apply Exists.intro; refine ⟨.inl ⟨rfl, fun w' hw' => ?_⟩, ?_⟩; (focus ((obtain ⟨hc, hf⟩ := bcell hw'.out); (have hcS := bcellS hw'.out); go_simp <;> first | rfl | fail)); (go_simp; refine hK _ ?_; clear hK K)))
      refine wpG_nil ?_
      refine wpK_tail (by kernel_rfl) (fun w8 hg8 => ?_)
      have hb8 := bdrewn hg8.out
      obtain ⟨hc8, hf8⟩ := bcell hb8
      refine wpAny_one (i := 13) (by kernel_rfl) rfl rfl ?_
      go_simp
      refine wpAny_end (by kernel_rfl) ?_
      refine nopan_normal ?_
      clear hc8 hf8
      clear hg8
      have hi2 := (HI.out.keep hb8).set (k + 1) (t + x)
      have e2 := edP_set hlS
      rw [HT.out.2, HT.out.1] at e2
      rw [e2] at hi2
      replace HI := Lib.hid hi2
      replace HB := Lib.hid ((bkeep2 HB.out hb8).setCell (p := ⟨w.heap.size, k + 1, none⟩) (Nat.le_refl _) (.int .i64 (t + x)))
      clear hi2 e2 hb8 c0 d0 d1 f1
      go_wp2
      go_roundw
      case rel => exact ⟨k + 1, by omega, by go_num, HI.out, HB.out⟩
      case measure => simp [intOf]; omega
    · have hd : decide ((k : Int) < (n : Int)) = false := decide_eq_false (by omega)
      obtain rfl : k = n := by omega
      rw [← HN.out, edP_end] at hi
      have HI := Lib.hid hi
      have HB := Lib.hid hB
      clear hi hB hn
      go_wp2
      go_ret
      exact ⟨rfl, HI.out, HB.out⟩
set_option maxRecDepth 100000 in
theorem lineAt_v (A : Option Addr) (c n : Nat) (S : List Int) (p : Int) (w : World) (h : NV w A (edL S)) (hn : n = S.length + 1) (h5 : S.length ≤ 5) :
    Calls Try.prog 42 #[.slice A n c, .int .i64 p] w fun e w' => e = .returned (.int .i64 (lineM S p)) ∧ Below w.heap.size w w' := by
  obtain ⟨R, hR⟩ : ∃ R, lineM S p = R := ⟨_, rfl⟩
  rw [hR]
  have HR0 := Lib.hid (show lnAt (S.drop 0) (sumI (S.take 0)) p ((0 : Nat) : Int) = R from hR)
  have HN := Lib.hid hn
  have hn6 : n ≤ 6 := by omega
  have hn1 : 1 ≤ n := by omega
  clear hn hR
  go_enter Try.func42, Try.ntmps42
  go_wp2_with fail
  go_loop [9] (fun i => ∃ k : Nat, k ≤ S.length ∧ i = .int .i64 k ∧ lnAt (S.drop k) (sumI (S.take k)) p k = R) (fun i => S.length - (intOf i).toNat)
  case atStart => exact ⟨0, by omega, rfl, HR0.out⟩
  case round =>
    obtain ⟨k, hk, rfl, hr⟩ := hrel
    clear HR0
    by_cases hlt : k < S.length
    · have hd : decide ((k : Int) < (n : Int) - 1) = true := by have := HN.out; simp; omega
      obtain ⟨b, off, rfl, hb, hp⟩ := h.cells (by rw [edL_len]; omega)
      have hget : S[k]? = some S[k] := List.getElem?_eq_getElem hlt
      obtain ⟨r1, r2⟩ := lnAt_drop hget hr
      have hs := sumI_snoc hget
      have c0 := hp k _ (edL_get (S := S) (i := k) (by omega))
      have c1 := hp (k + 1) _ (edL_get (S := S) (i := k + 1) (by omega))
      rw [hs] at c1
      generalize S[k] = x at *
      have R2 := Lib.hid r2
      have hkn : k + 1 < n := by have := HN.out; omega
      obtain ⟨t, ht⟩ : ∃ t, sumI (S.take k) = t := ⟨_, rfl⟩
      rw [ht] at c0 c1 r1
      have HT := Lib.hid ht
      clear hr hget hs r2 hp ht
      by_cases g1 : t ≤ p
      · by_cases g2 : p < t + x
        · have hrk := r1 ⟨g1, g2⟩
          subst hrk
          clear r1 R2
          go_wp2
          go_ret
          exact ⟨rfl, Below.refl _ _⟩
        · have HR2 := Lib.hid (R2.out (by rw [HT.out]; omega))
          clear r1 R2
          go_wp2
          go_round
          case rel => exact ⟨k + 1, by omega, by go_num, HR2.out⟩
          case measure => simp [intOf]; omega
      · have HR2 := Lib.hid (R2.out (by rw [HT.out]; omega))
        clear r1 R2
        go_wp2
        go_round
        case rel => exact ⟨k + 1, by omega, by go_num, HR2.out⟩
        case measure => simp [intOf]; omega
    · have hd : decide ((k : Int) < (n : Int) - 1) = false := by have := HN.out; simp; omega
      have := lnAt_done (by omega) hr
      subst this
      clear hr
      go_wp2
      go_ret
      exact ⟨rfl, Below.refl _ _⟩
set_option maxRecDepth 100000 in
theorem slineAt_v (A : Option Addr) (c n : Nat) (S : List Int) (p : Int) (w : World) (h : NV w A S) (hn : n = S.length) (h5 : S.length ≤ 5) (hM : Smal 1000000000 S) (hx0 : ∀ x ∈ S, 0 ≤ x) :
    Calls Try.prog 43 #[.slice A n c, .int .i64 p] w fun e w' => e = .returned (.int .i64 (lineM S p)) ∧ Below w.heap.size w w' := by
  obtain ⟨R, hR⟩ : ∃ R, lineM S p = R := ⟨_, rfl⟩
  rw [hR]
  have HR0 := Lib.hid (show lnAt (S.drop 0) (sumI (S.take 0)) p ((0 : Nat) : Int) = R from hR)
  have HN := Lib.hid hn
  have HM := Lib.hid hM
  have hn6 : n ≤ 6 := by omega
  clear hn hR hM
  go_enter Try.func43, Try.ntmps43
  go_wp2_with fail
  go_loop [5, 6] (fun a i => ∃ k : Nat, k ≤ S.length ∧ i = .int .i64 k ∧ a = .int .i64 (sumI (S.take k)) ∧ lnAt (S.drop k) (sumI (S.take k)) p k = R) (fun _ i => S.length - (intOf i).toNat)
  case atStart => exact ⟨0, by omega, rfl, rfl, HR0.out⟩
  case round =>
    obtain ⟨k, hk, rfl, rfl, hr⟩ := hrel
    clear HR0
    by_cases hlt : k < S.length
    · have hkn : k < n := by have := HN.out; omega
      have hd : decide ((k : Int) < (n : Int)) = true := by simpa using hkn
      obtain ⟨b, off, rfl, hb, hp⟩ := h.cells (by omega)
      have hget : S[k]? = some S[k] := List.getElem?_eq_getElem hlt
      obtain ⟨r1, r2⟩ := lnAt_drop hget hr
      have hs := sumI_snoc hget
      have c0 := hp k _ hget
      have b1 := HM.out k
      have b2 := HM.out (k + 1)
      rw [hs] at b2 r2
      generalize S[k] = x at *
      obtain ⟨t, ht⟩ : ∃ t, sumI (S.take k) = t := ⟨_, rfl⟩
      rw [ht] at b1 b2 r1 r2 hs
      rw [ht]
      have R2 := Lib.hid r2
      have HS := Lib.hid hs
      clear hr hget hs r2 hp ht
      by_cases g : t ≤ p ∧ p < t + x
      · have hg : rng p t (t + x - 1) = true := rng_iff.2 (by omega)
        have hrk := r1 g
        subst hrk
        clear r1 R2 g
        go_wp2_with fail
        with_reducible refine (inRange_any _ _ _ _).mono ?_
        rintro e w1 ⟨rfl, rfl⟩
        go_wp2
        go_ret
        exact ⟨rfl, Below.refl _ _⟩
      · have hg : rng p t (t + x - 1) = false := by
          cases hq : rng p t (t + x - 1)
          · rfl
          · exact absurd (rng_iff.1 hq) (by omega)
        have HR2 := Lib.hid (R2.out g)
        clear r1 R2 g
        go_wp2_with fail
        with_reducible refine (inRange_any _ _ _ _).mono ?_
        rintro e w1 ⟨rfl, rfl⟩
        go_wp2
        go_round
        case rel => exact ⟨k + 1, by omega, by go_num, by rw [HS.out], by rw [HS.out]; exact HR2.out⟩
        case measure => simp [intOf]; omega
    · have hkn : ¬ k < n := by have := HN.out; omega
      have hd : decide ((k : Int) < (n : Int)) = false := decide_eq_false (by omega)
      have := lnAt_done (by omega) hr
      subst this
      clear hr
      go_wp2
      go_ret
      exact ⟨rfl, Below.refl _ _⟩
end Go.Proofs.Ytikndbinlpmgaaa
end
