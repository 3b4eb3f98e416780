import Derived.Test.YtikndbinlpmgaaaQ14
section
namespace Go.Proofs.Ytikndbinlpmgaaa
open Go.RowKit
set_option linter.unusedVariables false
set_option maxHeartbeats 1000000
attribute [local go_sem 5000] run_mx run_mn
attribute [local go_sem] growUpon_value growUpon_skip growUpon_enter
attribute [local go_sem] givesUpon_value givesUpon_skip givesUpon_enter
theorem belowNg {B : Nat} {a w : World} (h : Below B a w) (n : Nat) : Below B a (w.drewN n) := ⟨h.os, h.tape, h.output, h.size, h.block⟩
theorem put4g {w : World} {b : Nat} {a0 a1 a2 a3 : Value} {T : TypeId} {fz : Nat × Nat} (h : w.heap[b]? = some (.cells #[a0, a1, a2, a3] T fz)) (x0 x1 x2 x3 : Value) :
    ((((w.setCell ⟨b, 0, none⟩ x0).setCell ⟨b, 1, none⟩ x1).setCell ⟨b, 2, none⟩ x2).setCell ⟨b, 3, none⟩ x3).heap[b]? = some (.cells #[x0, x1, x2, x3] T fz) := by
  replace h := putS (i := 0) h x0
  simp only [List.setIfInBounds_toArray, List.set_cons_zero] at h
  replace h := putS (i := 1) h x1
  simp only [List.setIfInBounds_toArray, List.set_cons_succ, List.set_cons_zero] at h
  replace h := putS (i := 2) h x2
  simp only [List.setIfInBounds_toArray, List.set_cons_succ, List.set_cons_zero] at h
  replace h := putS (i := 3) h x3
  simp only [List.setIfInBounds_toArray, List.set_cons_succ, List.set_cons_zero] at h
  exact h
theorem put4gb {B b : Nat} {a w : World} (h : Below B a w) (hb : B ≤ b) (x0 x1 x2 x3 : Value) :
    Below B a ((((w.setCell ⟨b, 0, none⟩ x0).setCell ⟨b, 1, none⟩ x1).setCell ⟨b, 2, none⟩ x2).setCell ⟨b, 3, none⟩ x3) :=
  (((h.setCell (p := ⟨b, 0, none⟩) hb _).setCell (p := ⟨b, 1, none⟩) hb _).setCell (p := ⟨b, 2, none⟩) hb _).setCell (p := ⟨b, 3, none⟩) hb _
set_option maxRecDepth 100000 in
theorem inset_g (x y u v p q : Int) (w : World) (h : ((0 ≤ x ∧ x ≤ 4000) ∧ (0 ≤ y ∧ y ≤ 4000)) ∧ ((0 ≤ u ∧ u ≤ 4000) ∧ (0 ≤ v ∧ v ≤ 4000))) (hp : 0 ≤ p ∧ p ≤ 10) (hq : 0 ≤ q ∧ q ≤ 10) : Calls Try.prog 99 #[.agg #[.int .i64 (x), .int .i64 (y), .int .i64 (u), .int .i64 (v)], .int .i64 p, .int .i64 q] w fun e w' => e = .returned (.agg #[.int .i64 (x + mn p (u / 2)), .int .i64 (y + mn q (v / 2)), .int .i64 (mx (u - 2 * p) 0), .int .i64 (mx (v - 2 * q) 0)]) ∧ Below w.heap.size w w' := by
  have hbd := ins_bd (a := ⟨x, y, u, v⟩) h hp hq
  dsimp only at hbd
  obtain ⟨⟨⟨m1, m2⟩, m3, m4⟩, ⟨m5, m6⟩, m7, m8⟩ := hbd
  obtain ⟨⟨⟨a1, a2⟩, ⟨a3, a4⟩⟩, ⟨a5, a6⟩, ⟨a7, a8⟩⟩ := h
  obtain ⟨b1, b2⟩ := hp
  obtain ⟨b3, b4⟩ := hq
  go_enter Try.func99, Try.ntmps99
  go_wp2
  exact bodyPost_ret (v := .agg #[.int .i64 (x + mn p (u / 2)), .int .i64 (y + mn q (v / 2)), .int .i64 (mx (u - 2 * p) 0), .int .i64 (mx (v - 2 * q) 0)]) (by simp only [results, Try.results99]; go_simp) rfl ⟨rfl, (by repeat (first | with_reducible exact Below.refl _ _ | with_reducible assumption | with_reducible refine balloc ?_ | (with_reducible refine bset ?_ ?_; rotate_left; ((try dsimp only); omega)) | refine bkeep2 ?_ (by assumption) | with_reducible refine Below.drew ?_))⟩
set_option maxRecDepth 100000 in
theorem anchored_g (x y u v p q k : Int) (w : World) (h : ((0 ≤ x ∧ x ≤ 4010) ∧ (0 ≤ y ∧ y ≤ 4010)) ∧ ((0 ≤ u ∧ u ≤ 4000) ∧ (0 ≤ v ∧ v ≤ 4000))) (hp : 0 ≤ p ∧ p ≤ 4000) (hq : 0 ≤ q ∧ q ≤ 4000) (hk : 0 ≤ k ∧ k ≤ 8) : Calls Try.prog 101 #[.agg #[.int .i64 (x), .int .i64 (y), .int .i64 (u), .int .i64 (v)], .int .i64 p, .int .i64 q, .int .i64 k] w fun e w' => e = .returned (.agg #[.int .i64 (x + (u - mn p u) * (k % 3) / 2), .int .i64 (y + (v - mn q v) * (k / 3) / 2), .int .i64 (mn p u), .int .i64 (mn q v)]) ∧ Below w.heap.size w w' := by
  obtain ⟨m1, m2, m3, m4, m5, m6, m7, m8, m9, m10, m11, m12⟩ := anc_bd h.2.1 h.2.2 hp hq hk
  obtain ⟨⟨⟨a1, a2⟩, ⟨a3, a4⟩⟩, ⟨a5, a6⟩, ⟨a7, a8⟩⟩ := h
  obtain ⟨b5, b6⟩ := hk
  go_enter Try.func101, Try.ntmps101
  go_wp2_with fail
  go_quiet (fail)
  go_wp2
  exact bodyPost_ret (v := .agg #[.int .i64 (x + (u - mn p u) * (k % 3) / 2), .int .i64 (y + (v - mn q v) * (k / 3) / 2), .int .i64 (mn p u), .int .i64 (mn q v)]) (by simp only [results, Try.results101]; go_simp) rfl ⟨rfl, (by repeat (first | with_reducible exact Below.refl _ _ | with_reducible assumption | with_reducible refine balloc ?_ | (with_reducible refine bset ?_ ?_; rotate_left; ((try dsimp only); omega)) | refine bkeep2 ?_ (by assumption) | with_reducible refine Below.drew ?_ | refine belowNg ?_ _))⟩
theorem inset_r (a b : Re) (p q : Int) (w : World) (h : BdR a) (hp : 0 ≤ p ∧ p ≤ 10) (hq : 0 ≤ q ∧ q ≤ 10) (hb : insR a p q = b) : Calls Try.prog 99 #[.agg #[.int .i64 a.x, .int .i64 a.y, .int .i64 a.u, .int .i64 a.v], .int .i64 p, .int .i64 q] w fun e w' => e = .returned (.agg #[.int .i64 b.x, .int .i64 b.y, .int .i64 b.u, .int .i64 b.v]) ∧ Below w.heap.size w w' := by
  subst hb; exact inset_g _ _ _ _ _ _ w h hp hq
theorem anchored_r (a S : Re) (p q k : Int) (w : World) (h : ((0 ≤ a.x ∧ a.x ≤ 4010) ∧ (0 ≤ a.y ∧ a.y ≤ 4010)) ∧ ((0 ≤ a.u ∧ a.u ≤ 4000) ∧ (0 ≤ a.v ∧ a.v ≤ 4000))) (hp : 0 ≤ p ∧ p ≤ 4000) (hq : 0 ≤ q ∧ q ≤ 4000) (hk : 0 ≤ k ∧ k ≤ 8) (hb : ancR a p q k = S) : Calls Try.prog 101 #[.agg #[.int .i64 a.x, .int .i64 a.y, .int .i64 a.u, .int .i64 a.v], .int .i64 p, .int .i64 q, .int .i64 k] w fun e w' => e = .returned (.agg #[.int .i64 S.x, .int .i64 S.y, .int .i64 S.u, .int .i64 S.v]) ∧ Below w.heap.size w w' := by
  subst hb; exact anchored_g _ _ _ _ _ _ _ w h hp hq hk
theorem stuck_v (n room k s t : Int) (w : World) (h : 0 ≤ k ∧ k ≤ 3) (hs : stkI n room k = (s, t)) : Calls Try.prog 100 #[.int .i64 n, .int .i64 room, .int .i64 k] w fun e w' => e = .returned (.tuple #[.int .i64 s, .int .i64 t]) ∧ w = w' := by
  have hk : k = 0 ∨ k = 1 ∨ k = 2 ∨ k = 3 := by omega
  rcases hk with rfl | rfl | rfl | rfl
  all_goals
    simp [stkI] at hs
    obtain ⟨rfl, rfl⟩ := hs
    go_enter Try.func100, Try.ntmps100
    go_wp2
    refine bodyPost_ret (by simp only [results, Try.results100]; go_simp) rfl ⟨rfl, rfl⟩
set_option maxRecDepth 100000 in
theorem inLines_v (p : Ce) (a : Re) (w : World) (hp : smC p) (hs : 0 ≤ p.sk ∧ p.sk ≤ 15) (ha : BdR a) (S : Re) (hS : celI a p = S) :
    Calls Try.prog 67 #[.agg #[.int .i64 p.co, .int .i64 p.ro, .int .i64 p.mc, .int .i64 p.mr, .int .i64 p.cw, .int .i64 p.ch, .int .i64 p.sk, .int .i64 p.px, .int .i64 p.py], .agg #[.int .i64 a.x, .int .i64 a.y, .int .i64 a.u, .int .i64 a.v]] w fun e w' => e = .returned (.agg #[.int .i64 S.x, .int .i64 S.y, .int .i64 S.u, .int .i64 S.v]) ∧ Below w.heap.size w w' := by
  obtain ⟨hw, hh, hpx, hpy⟩ := hp
  have hins := ins_bd ha hpx hpy
  obtain ⟨b, hb⟩ : ∃ b, insR a p.px p.py = b := ⟨_, rfl⟩
  have hbx : b.x = a.x + mn p.px (a.u / 2) ∧ b.y = a.y + mn p.py (a.v / 2) ∧ b.u = mx (a.u - 2 * p.px) 0 ∧ b.v = mx (a.v - 2 * p.py) 0 := by rw [← hb]; exact ⟨rfl, rfl, rfl, rfl⟩
  have hbb : ((0 ≤ b.x ∧ b.x ≤ 4010) ∧ (0 ≤ b.y ∧ b.y ≤ 4010)) ∧ ((0 ≤ b.u ∧ b.u ≤ 4000) ∧ (0 ≤ b.v ∧ b.v ≤ 4000)) := by
    obtain ⟨⟨h1, h2⟩, h3, h4⟩ := ha
    omega
  unfold celI at hS
  rw [hb] at hS
  have q1 := stkI_bd (k := p.sk % 4) hw hbb.2.1
  have q2 := stkI_bd (k := p.sk / 4) hh hbb.2.2
  obtain ⟨⟨s1, t1⟩, hst1⟩ : ∃ z, stkI p.cw b.u (p.sk % 4) = z := ⟨_, rfl⟩
  obtain ⟨⟨s2, t2⟩, hst2⟩ : ∃ z, stkI p.ch b.v (p.sk / 4) = z := ⟨_, rfl⟩
  rw [hst1] at hS q1
  rw [hst2] at hS q2
  obtain ⟨q1a, q1b, q1c⟩ := q1
  obtain ⟨q2a, q2b, q2c⟩ := q2
  dsimp only at hS q1a q1b q1c q2a q2b q2c
  obtain ⟨hs0, hs1⟩ := hs
  have HBB := Lib.hid hbb
  have HAB := Lib.hid ha
  have HP := Lib.hid (And.intro hpx hpy)
  have HQ := Lib.hid (And.intro q1a q2a)
  have HS1 := Lib.hid hst1
  have HS2 := Lib.hid hst2
  have HSS := Lib.hid hS
  have HIN := Lib.hid hb
  clear hins hbx hbb ha hpx hpy hst1 hst2 hS q1a q2a hb hw hh
  go_enter Try.func67, Try.ntmps67
  go_upto_region 1 with (fail)
  refine wp_genGG (fun W => W.heap[w.heap.size]? = some (.cells #[.int .i64 p.co, .int .i64 p.ro, .int .i64 p.mc, .int .i64 p.mr, .int .i64 p.cw, .int .i64 p.ch, .int .i64 p.sk, .int .i64 p.px, .int .i64 p.py] 37 (0, 0)) ∧ W.heap[w.heap.size + 1]? = some (.cells #[.int .i64 a.x, .int .i64 a.y, .int .i64 a.u, .int .i64 a.v] 35 (0, 0)) ∧ W.heap[w.heap.size + 1 + 1]? = some (.cells #[.int .i64 0, .int .i64 0, .int .i64 0, .int .i64 0] 35 (0, 0)) ∧ Below w.heap.size w W) ⟨(Below.heap_alloc _ _ w.heap.size (by simp; omega)).trans ((Below.heap_alloc _ _ w.heap.size (by simp)).trans (newS w _)), (Below.heap_alloc _ _ (w.heap.size + 1) (by simp)).trans (by have := newS (w.alloc (.cells #[.int .i64 p.co, .int .i64 p.ro, .int .i64 p.mc, .int .i64 p.mr, .int .i64 p.cw, .int .i64 p.ch, .int .i64 p.sk, .int .i64 p.px, .int .i64 p.py] 37 (0, 0))) (.cells #[.int .i64 a.x, .int .i64 a.y, .int .i64 a.u, .int .i64 a.v] 35 (0, 0)); rwa [World.size_alloc] at this), by have := newS ((w.alloc (.cells #[.int .i64 p.co, .int .i64 p.ro, .int .i64 p.mc, .int .i64 p.mr, .int .i64 p.cw, .int .i64 p.ch, .int .i64 p.sk, .int .i64 p.px, .int .i64 p.py] 37 (0, 0))).alloc (.cells #[.int .i64 a.x, .int .i64 a.y, .int .i64 a.u, .int .i64 a.v] 35 (0, 0))) (.cells #[.int .i64 0, .int .i64 0, .int .i64 0, .int .i64 0] 35 (0, 0)); rwa [World.size_alloc, World.size_alloc] at this, balloc (balloc (balloc (Below.refl _ _)))⟩ (fun w0 h0 => ?_)
  obtain ⟨hx, hy, hz, hb0⟩ := h0
  have HX := Lib.hid hx
  have HY := Lib.hid hy
  have HZ := Lib.hid hz
  have HB := Lib.hid hb0
  have lz := ltS hz
  have d7 := cellS hx 7
  have d8 := cellS hx 8
  have y0 := cellS hy 0
  have y1 := cellS hy 1
  have y2 := cellS hy 2
  have y3 := cellS hy 3
  clear hx hy hz hb0
  go_wp2_with fail
  with_reducible refine (inset_r a b p.px p.py _ HAB.out HP.out.1 HP.out.2 HIN.out).mono ?_
  rintro e w1 ⟨rfl, hb1⟩
  clear d7 d8 y0 y1 y2 y3 lz
  replace HX := Lib.hid ((hb1.block _ (Array.getElem?_eq_some_iff.1 HX.out).1).trans HX.out)
  replace HY := Lib.hid ((hb1.block _ (Array.getElem?_eq_some_iff.1 HY.out).1).trans HY.out)
  replace HZ := Lib.hid ((hb1.block _ (Array.getElem?_eq_some_iff.1 HZ.out).1).trans HZ.out)
  replace HB := Lib.hid (bkeep2 HB.out hb1)
  clear hb1
  go_upto_region 2 with (fail)
  refine wp_genGG (fun W => W.heap[w.heap.size]? = some (.cells #[.int .i64 p.co, .int .i64 p.ro, .int .i64 p.mc, .int .i64 p.mr, .int .i64 p.cw, .int .i64 p.ch, .int .i64 p.sk, .int .i64 p.px, .int .i64 p.py] 37 (0, 0)) ∧ W.heap[w.heap.size + 1 + 1]? = some (.cells #[.int .i64 0, .int .i64 0, .int .i64 0, .int .i64 0] 35 (0, 0)) ∧ W.heap[w1.heap.size]? = some (.cells #[.int .i64 b.x, .int .i64 b.y, .int .i64 b.u, .int .i64 b.v] 35 (0, 0)) ∧ Below w.heap.size w W) ⟨(Below.heap_alloc _ _ _ (ltS HX.out)).trans HX.out, (Below.heap_alloc _ _ _ (ltS HZ.out)).trans HZ.out, newS _ _, balloc HB.out⟩ (fun w2 h2 => ?_)
  have ne : w.heap.size + 1 + 1 ≠ w1.heap.size := by have := ltS HZ.out; omega
  have HN := Lib.hid ne
  clear HX HY HZ HB ne
  obtain ⟨hx, hz, hy, hb0⟩ := h2
  have HX := Lib.hid hx
  have HY := Lib.hid hy
  have HZ := Lib.hid hz
  have HB := Lib.hid hb0
  have d4 := cellS hx 4
  have d5 := cellS hx 5
  have d6 := cellS hx 6
  have y2 := cellS hy 2
  have y3 := cellS hy 3
  have lx := ltS hx
  have ly := ltS hy
  clear hx hy hz hb0
  go_wp2_with fail
  with_reducible refine (stuck_v p.cw b.u (p.sk % 4) s1 t1 _ (by omega) HS1.out).mono ?_
  rintro e w3 ⟨rfl, rfl⟩
  go_wp2_with fail
  with_reducible refine (stuck_v p.ch b.v (p.sk / 4) s2 t2 _ (by omega) HS2.out).mono ?_
  rintro e w3 ⟨rfl, rfl⟩
  have y0 := cellS HY.out 0
  have y1 := cellS HY.out 1
  go_wp2_with fail
  with_reducible refine (anchored_r b S s1 s2 (t1 + 3 * t2) _ HBB.out HQ.out.1 HQ.out.2 (by omega) HSS.out).mono ?_
  rintro e w4 ⟨rfl, hb4⟩
  clear d4 d5 d6 y0 y1 y2 y3 lx ly
  replace HX := Lib.hid ((hb4.block _ (Array.getElem?_eq_some_iff.1 HX.out).1).trans HX.out)
  replace HZ := Lib.hid ((hb4.block _ (Array.getElem?_eq_some_iff.1 HZ.out).1).trans HZ.out)
  replace HB := Lib.hid (bkeep2 HB.out hb4)
  clear hb4
  have z0 := cellS HZ.out 0
  have z1 := cellS HZ.out 1
  have z2 := cellS HZ.out 2
  have z3 := cellS HZ.out 3
  have f0 := frozenS HZ.out 0
  have f1 := frozenS HZ.out 1
  have f2 := frozenS HZ.out 2
  have f3 := frozenS HZ.out 3
  have lz := ltS HZ.out
  go_wp2
  refine bp_genG (fun W => W.heap[w.heap.size + 1 + 1]? = some (.cells #[.int .i64 S.x, .int .i64 S.y, .int .i64 S.u, .int .i64 S.v] 35 (0, 0)) ∧ Below w.heap.size w W) ⟨put4g HZ.out _ _ _ _, put4gb HB.out (by omega) _ _ _ _⟩ ?_
  clear z0 z1 z2 z3 f0 f1 f2 f3 lz
  rintro W ⟨hp, hbW⟩
  have z0 := cellS hp 0
  have z1 := cellS hp 1
  have z2 := cellS hp 2
  have z3 := cellS hp 3
  exact bodyPost_ret (v := .agg #[.int .i64 S.x, .int .i64 S.y, .int .i64 S.u, .int .i64 S.v]) (by simp only [results, Try.results67]; go_simp) rfl ⟨rfl, hbW⟩
end Go.Proofs.Ytikndbinlpmgaaa
end
section
namespace Go.Proofs.Ytikndbinlpmgaaa
open Go.RowKit
set_option linter.unusedVariables false
set_option maxHeartbeats 1000000
attribute [local go_sem] growUpon_value growUpon_skip growUpon_enter
attribute [local go_sem] givesUpon_value givesUpon_skip givesUpon_enter
set_option maxRecDepth 100000 in
theorem cellK_v (k1 k2 m1 m2 : Nat) (cw ch sk px py : Int) (S1 S2 : List Int) (B1 B2 : Option Addr) (n1 e1 n2 e2 bx1 bx2 : Nat) (S : Re) (w : World)
    (hp : smC ⟨k1, k2, m1, m2, cw, ch, sk, px, py⟩) (hs : 0 ≤ sk ∧ sk ≤ 15) (hk1 : k1 + m1 ≤ S1.length) (hk2 : k2 + m2 ≤ S2.length) (hz1 : SzB S1) (hz2 : SzB S2) (hn1 : n1 = S1.length + 1) (hn2 : n2 = S2.length + 1)
    (hx1 : w.heap[bx1]? = some (.cells #[.slice B1 n1 e1] 68 (0, 0))) (hx2 : w.heap[bx2]? = some (.cells #[.slice B2 n2 e2] 68 (0, 0))) (hv1 : NV w B1 (edL S1)) (hv2 : NV w B2 (edL S2)) (hS : cellR S1 S2 ⟨k1, k2, m1, m2, cw, ch, sk, px, py⟩ = S) :
    Calls Try.prog 66 #[.agg #[.int .i64 k1, .int .i64 k2, .int .i64 m1, .int .i64 m2, .int .i64 cw, .int .i64 ch, .int .i64 sk, .int .i64 px, .int .i64 py], .pointer (some ⟨bx1, 0, none⟩), .pointer (some ⟨bx2, 0, none⟩)] w fun e w' => e = .returned (.agg #[.int .i64 S.x, .int .i64 S.y, .int .i64 S.u, .int .i64 S.v]) ∧ Below w.heap.size w w' := by
  have har := area_bd hz1 hz2 ⟨k1, k2, m1, m2, cw, ch, sk, px, py⟩
  have heq := celI_eq (S1 := S1) (S2 := S2) (c := ⟨k1, k2, m1, m2, cw, ch, sk, px, py⟩) hs hp.1 hp.2.1 hp.2.2.1 hp.2.2.2 har
  rw [hS] at heq
  have t1 := take_seg S1 k1 m1
  have t2 := take_seg S2 k2 m2
  have b1 := hz1.take k1
  have b2 := hz2.take k2
  have b3 := hz1.take (k1 + m1)
  have b4 := hz2.take (k2 + m2)
  have l5 := hz1.2.2
  have l6 := hz2.2.2
  obtain ⟨b1_, off1, rfl, hb1, hp1⟩ := hv1.cells (by rw [edL_len]; omega)
  obtain ⟨b2_, off2, rfl, hb2, hp2⟩ := hv2.cells (by rw [edL_len]; omega)
  have c1 := hp1 k1 _ (edL_get (S := S1) (i := k1) (by omega))
  have c2 := hp1 (k1 + m1) _ (edL_get (S := S1) (i := k1 + m1) (by omega))
  have c3 := hp2 k2 _ (edL_get (S := S2) (i := k2) (by omega))
  have c4 := hp2 (k2 + m2) _ (edL_get (S := S2) (i := k2 + m2) (by omega))
  have g1 := cellS hx1 0
  have g2 := cellS hx2 0
  have lx1 := ltS hx1
  have lx2 := ltS hx2
  have hA : areaR S1 S2 ⟨k1, k2, m1, m2, cw, ch, sk, px, py⟩ = ⟨sumI (S1.take k1), sumI (S2.take k2), sumI (S1.take (k1 + m1)) - sumI (S1.take k1), sumI (S2.take (k2 + m2)) - sumI (S2.take k2)⟩ := by
    unfold areaR
    rw [t1, t2]
    simp only [Int.toNat_natCast]
    rw [Int.add_comm, Int.add_sub_cancel, Int.add_comm (sumI (List.take k2 S2)), Int.add_sub_cancel]
  rw [hA] at heq har
  clear t1 t2 hA hx1 hx2 hp1 hp2 hv1 hv2 hS
  obtain ⟨l, hl⟩ : ∃ z, sumI (S1.take k1) = z := ⟨_, rfl⟩
  obtain ⟨t, ht⟩ : ∃ z, sumI (S2.take k2) = z := ⟨_, rfl⟩
  obtain ⟨r, hr⟩ : ∃ z, sumI (S1.take (k1 + m1)) = z := ⟨_, rfl⟩
  obtain ⟨b, hbb⟩ : ∃ z, sumI (S2.take (k2 + m2)) = z := ⟨_, rfl⟩
  rw [hl] at c1 b1 heq har
  rw [ht] at c3 b2 heq har
  rw [hr] at c2 b3 heq har
  rw [hbb] at c4 b4 heq har
  have hSm : Sm l t r b := Sm_of (by omega)
  have i1 : (k1 : Int) < (n1 : Int) := by omega
  have i2 : (k1 : Int) + (m1 : Int) < (n1 : Int) := by omega
  have i3 : (0 : Int) ≤ (k1 : Int) + (m1 : Int) := by omega
  have i4 : ((k1 : Int) + (m1 : Int)).toNat = k1 + m1 := by omega
  have w1 : IntKind.i64.wrap ((k1 : Int) + (m1 : Int)) = (k1 : Int) + (m1 : Int) := IntWalk.i64_in _ (by omega)
  have j1 : (k2 : Int) < (n2 : Int) := by omega
  have j2 : (k2 : Int) + (m2 : Int) < (n2 : Int) := by omega
  have j3 : (0 : Int) ≤ (k2 : Int) + (m2 : Int) := by omega
  have j4 : ((k2 : Int) + (m2 : Int)).toNat = k2 + m2 := by omega
  have w2 : IntKind.i64.wrap ((k2 : Int) + (m2 : Int)) = (k2 : Int) + (m2 : Int) := IntWalk.i64_in _ (by omega)
  have HQ := Lib.hid (And.intro hp (And.intro hs (And.intro har heq)))
  have HC := Lib.hid (And.intro c1 (And.intro c2 (And.intro c3 (And.intro c4 (And.intro g1 g2)))))
  clear hl ht hr hbb c1 c2 c3 c4 g1 g2 hp hs har heq b1 b2 b3 b4 l5 l6 hn1 hn2 hk1 hk2 hz1 hz2
  go_enter Try.func66, Try.ntmps66
  go_upto_region 1 with (fail)
  refine wp_genGG (fun W => W.heap[w.heap.size]? = some (.cells #[.int .i64 k1, .int .i64 k2, .int .i64 m1, .int .i64 m2, .int .i64 cw, .int .i64 ch, .int .i64 sk, .int .i64 px, .int .i64 py] 37 (0, 0)) ∧ W.heap[w.heap.size + 1]? = some (.cells #[.int .i64 0, .int .i64 0, .int .i64 0, .int .i64 0] 35 (0, 0)) ∧ Below w.heap.size w W) ⟨(Below.heap_alloc _ _ w.heap.size (by simp)).trans (newS w _), by have := newS (w.alloc (.cells #[.int .i64 k1, .int .i64 k2, .int .i64 m1, .int .i64 m2, .int .i64 cw, .int .i64 ch, .int .i64 sk, .int .i64 px, .int .i64 py] 37 (0, 0))) (.cells #[.int .i64 0, .int .i64 0, .int .i64 0, .int .i64 0] 35 (0, 0)); rwa [World.size_alloc] at this, balloc (balloc (Below.refl _ _))⟩ (fun w0 h0 => ?_)
  obtain ⟨hx, hz, hB⟩ := h0
  obtain ⟨c1, c2, c3, c4, g1, g2⟩ := HC.out
  obtain ⟨hcw, -⟩ := bcell hB
  have x0 := cellS hx 0
  have x1 := cellS hx 1
  have x2 := cellS hx 2
  have x3 := cellS hx 3
  have x4 := cellS hx 4
  have x5 := cellS hx 5
  have x6 := cellS hx 6
  have x7 := cellS hx 7
  have x8 := cellS hx 8
  have d1 := (hcw _ _ hb1).trans c1
  have d2 := (hcw _ _ hb1).trans c2
  have d3 := (hcw _ _ hb2).trans c3
  have d4 := (hcw _ _ hb2).trans c4
  have d5 := (hcw _ _ lx1).trans g1
  have d6 := (hcw _ _ lx2).trans g2
  have z0 := cellS hz 0
  have z1 := cellS hz 1
  have z2 := cellS hz 2
  have z3 := cellS hz 3
  have f0 := frozenS hz 0
  have f1 := frozenS hz 1
  have f2 := frozenS hz 2
  have f3 := frozenS hz 3
  have lx := ltS hx
  have lz := ltS hz
  have hsw := hB.size
  have q1 : b1_ < w0.heap.size := by omega
  have q2 : b2_ < w0.heap.size := by omega
  have q3 : bx1 < w0.heap.size := by omega
  have q4 : bx2 < w0.heap.size := by omega
  have HZ := Lib.hid hz
  have HB := Lib.hid hB
  clear hx hz hB c1 c2 c3 c4 g1 g2 hcw HC
  go_wp2_with fail
  refine wp_region_grow 29 1 (· < 29) (by kernel_rfl) (by kernel_rfl) rfl ?_
  iterate 29 (refine wpG_step (fun K hK => ?_); first | (refine grow_skip rfl ?_; go_simp; refine hK _ ?_; clear hK K) | (apply Exists.intro; refine ⟨.inl ⟨rfl, fun w' hw' => ?_⟩, ?_⟩; (focus ((obtain ⟨hc, hf⟩ := bcell hw'.out); (have hcS := bcellS hw'.out); go_simp <;> first | rfl | (go_at_call 68; exact corners_any _ _ _ _ _ hSm) | (go_at_call 67; exact inLines_v ⟨k1, k2, m1, m2, cw, ch, sk, px, py⟩ ⟨l, t, r - l, b - t⟩ _ HQ.out.1 HQ.out.2.1 HQ.out.2.2.1 S HQ.out.2.2.2))); (go_simp; refine hK _ ?_; clear hK K)))
  refine wpG_nil ?_
  refine wpK_tail (by kernel_rfl) (fun w8 hg8 => ?_)
  have hb8 := bdrewn hg8.out
  obtain ⟨hc8, hf8⟩ := bcell hb8
  refine wpAny_one (i := 29) (by kernel_rfl) rfl rfl ?_
  go_simp
  refine wpAny_end (by kernel_rfl) ?_
  refine NoPan.thn ?_
  clear hc8 hf8
  clear hg8
  have hz2 := put4g ((hb8.block _ lz).trans HZ.out) (.int .i64 S.x) (.int .i64 S.y) (.int .i64 S.u) (.int .i64 S.v)
  have hbz := put4gb (bkeep2 HB.out hb8) (b := w.heap.size + 1) (by omega) (.int .i64 S.x) (.int .i64 S.y) (.int .i64 S.u) (.int .i64 S.v)
  go_wp2
  refine bp_genG (fun W => W.heap[w.heap.size + 1]? = some (.cells #[.int .i64 S.x, .int .i64 S.y, .int .i64 S.u, .int .i64 S.v] 35 (0, 0)) ∧ Below w.heap.size w W) ⟨hz2, hbz⟩ ?_
  clear x0 x1 x2 x3 x4 x5 x6 x7 x8 d1 d2 d3 d4 d5 d6 z0 z1 z2 z3 f0 f1 f2 f3 hz2 hbz
  rintro W ⟨hq, hbW⟩
  have z0 := cellS hq 0
  have z1 := cellS hq 1
  have z2 := cellS hq 2
  have z3 := cellS hq 3
  exact bodyPost_ret (v := .agg #[.int .i64 S.x, .int .i64 S.y, .int .i64 S.u, .int .i64 S.v]) (by simp only [results, Try.results66]; go_simp) rfl ⟨rfl, hbW⟩
/-- a cell that fits the sizes of the lines -/
def fitC (S1 S2 : List Int) (p : Ce) : Prop := smC p ∧ (0 ≤ p.sk ∧ p.sk ≤ 15) ∧ (0 ≤ p.co ∧ 0 ≤ p.ro ∧ 1 ≤ p.mc ∧ 1 ≤ p.mr) ∧ p.co + p.mc ≤ S1.length ∧ p.ro + p.mr ≤ S2.length
theorem cellJ_v (p : Ce) (S1 S2 : List Int) (B1 B2 : Option Addr) (n1 e1 n2 e2 bx1 bx2 : Nat) (w : World) (hf : fitC S1 S2 p) (hz1 : SzB S1) (hz2 : SzB S2) (hn1 : n1 = S1.length + 1) (hn2 : n2 = S2.length + 1)
    (hx1 : w.heap[bx1]? = some (.cells #[.slice B1 n1 e1] 68 (0, 0))) (hx2 : w.heap[bx2]? = some (.cells #[.slice B2 n2 e2] 68 (0, 0))) (hv1 : NV w B1 (edL S1)) (hv2 : NV w B2 (edL S2)) :
    Calls Try.prog 66 #[.agg #[.int .i64 p.co, .int .i64 p.ro, .int .i64 p.mc, .int .i64 p.mr, .int .i64 p.cw, .int .i64 p.ch, .int .i64 p.sk, .int .i64 p.px, .int .i64 p.py], .pointer (some ⟨bx1, 0, none⟩), .pointer (some ⟨bx2, 0, none⟩)] w fun e w' => e = .returned (.agg #[.int .i64 (cellR S1 S2 p).x, .int .i64 (cellR S1 S2 p).y, .int .i64 (cellR S1 S2 p).u, .int .i64 (cellR S1 S2 p).v]) ∧ Below w.heap.size w w' := by
  obtain ⟨co, ro, mc, mr, cw, ch, sk, px, py⟩ := p
  obtain ⟨h1, h2, ⟨h3, h4, h5, h6⟩, h7, h8⟩ := hf
  dsimp only at h3 h4 h5 h6 h7 h8
  obtain ⟨k1, rfl⟩ := Int.eq_ofNat_of_zero_le h3
  obtain ⟨k2, rfl⟩ := Int.eq_ofNat_of_zero_le h4
  obtain ⟨m1, rfl⟩ := Int.eq_ofNat_of_zero_le (show 0 ≤ mc by omega)
  obtain ⟨m2, rfl⟩ := Int.eq_ofNat_of_zero_le (show 0 ≤ mr by omega)
  exact cellK_v k1 k2 m1 m2 cw ch sk px py S1 S2 B1 B2 n1 e1 n2 e2 bx1 bx2 _ w h1 h2 (by omega) (by omega) hz1 hz2 hn1 hn2 hx1 hx2 hv1 hv2 rfl
set_option maxRecDepth 100000 in
theorem each_rect (A : Option Addr) (c : Nat) (L : List Ce) (S1 S2 : List Int) (B1 B2 : Option Addr) (n1 e1 n2 e2 bx1 bx2 : Nat) (w : World) (h : CeV w A L) (hL : L.length ≤ 1048576) (hsm : ∀ p ∈ L, fitC S1 S2 p) (hz1 : SzB S1) (hz2 : SzB S2) (hn1 : n1 = S1.length + 1) (hn2 : n2 = S2.length + 1)
    (hx1 : w.heap[bx1]? = some (.cells #[.slice B1 n1 e1] 68 (0, 0))) (hx2 : w.heap[bx2]? = some (.cells #[.slice B2 n2 e2] 68 (0, 0))) (hv1 : NV w B1 (edL S1)) (hv2 : NV w B2 (edL S2)) :
    Calls Try.prog 65 #[.slice A L.length c, .func (.func 66) #[] #[.pointer (some ⟨bx1, 0, none⟩), .pointer (some ⟨bx2, 0, none⟩)]] w fun e w' => e = .returned (.slice (some ⟨w.heap.size, 0, none⟩) L.length L.length) ∧ ReB w' w.heap.size (L.map (cellR S1 S2)) ∧ Below w.heap.size w w' := by
  obtain ⟨f, hf, hmk0⟩ := madeRe
  have hmk : ∀ w : World, (Instr.makeSlice 29 (.int .i64 (L.length : Int)) (.int .i64 (L.length : Int))).run Try.prog w = .ok (.slice (some ⟨w.heap.size, 0, none⟩) L.length L.length) (w.alloc (.cells (f L.length) 35)) := fun w => hmk0 L.length w hL
  have HSM := Lib.hid hsm
  have HZZ := Lib.hid (And.intro hz1 (And.intro hz2 (And.intro hn1 hn2)))
  have HX1 := Lib.hid hx1
  have HX2 := Lib.hid hx2
  have HW1 := Lib.hid hv1
  have HW2 := Lib.hid hv2
  clear hz1 hz2 hn1 hn2 hx1 hx2 hv1 hv2
  go_enter Try.func65, Try.ntmps65
  go_wp2_with fail
  have HWW : Hid (∃ cs : Array Value, (w.alloc (.cells (f L.length) 35)).heap[w.heap.size]? = some (.cells cs 35 (0, 0)) ∧ cs.size = L.length * 4 ∧ ∀ i p, i < 0 → (L.map (cellR S1 S2))[i]? = some p → InS cs (i * 4) (valsRe p)) := Lib.hid ⟨_, newS _ _, hf _, fun i p hi => absurd hi (by omega)⟩
  clear hmk hmk0 hf hsm
  go_loopw [13] (fun i wr => ∃ k : Nat, k ≤ L.length ∧ i = .int .i64 k ∧ (∃ cs : Array Value, wr.heap[w.heap.size]? = some (.cells cs 35 (0, 0)) ∧ cs.size = L.length * 4 ∧ ∀ i p, i < k → (L.map (cellR S1 S2))[i]? = some p → InS cs (i * 4) (valsRe p)) ∧ Below w.heap.size w wr) (fun i _ => L.length - (intOf i).toNat)
  case atStart => exact ⟨0, by omega, rfl, HWW.out, balloc (Below.refl _ _)⟩
  case round =>
    obtain ⟨k, hk, rfl, ⟨cs, hh, hs, hc⟩, hB⟩ := hrel
    clear HWW
    by_cases hlt : k < L.length
    · have hd : decide ((k : Int) < (L.length : Int)) = true := by simpa using hlt
      obtain ⟨b, off, rfl, hb, hp⟩ := (h.keep hB).cells (by omega)
      have hget : L[k]? = some L[k] := List.getElem?_eq_getElem hlt
      obtain ⟨c0, c1, c2, c3, c4, c5, c6, c7, c8⟩ := hp k _ hget
      have hsk : fitC S1 S2 L[k] := HSM.out _ (List.getElem_mem hlt)
      generalize hx : L[k] = p at *
      have HG := Lib.hid (show (L.map (cellR S1 S2))[k]? = some (cellR S1 S2 p) by rw [List.getElem?_map, hget]; rfl)
      have HH := Lib.hid hh
      have HS := Lib.hid hs
      have HC := Lib.hid hc
      have HBB := Lib.hid hB
      have HK := Lib.hid hsk
      clear hget hx hh hs hc hB hp hsk
      go_wp2_with fail
      have hbn : Below w.heap.size w (wr.alloc (.cells #[.int .i64 p.co, .int .i64 p.ro, .int .i64 p.mc, .int .i64 p.mr, .int .i64 p.cw, .int .i64 p.ch, .int .i64 p.sk, .int .i64 p.px, .int .i64 p.py] 37)) := balloc HBB.out
      with_reducible refine (cellJ_v p S1 S2 B1 B2 n1 e1 n2 e2 bx1 bx2 _ HK.out HZZ.out.1 HZZ.out.2.1 HZZ.out.2.2.1 HZZ.out.2.2.2 ((hbn.block _ (ltS HX1.out)).trans HX1.out) ((hbn.block _ (ltS HX2.out)).trans HX2.out) (HW1.out.keep hbn) (HW2.out.keep hbn)).mono ?_
      rintro e w1 ⟨rfl, hb1⟩
      have hlg : w.heap.size < wr.heap.size := ltS HH.out
      have hb01 := bkeep2 (balloc (Below.refl wr.heap.size wr)) hb1
      replace HH := Lib.hid ((hb01.block _ hlg).trans HH.out)
      replace HBB := Lib.hid (HBB.out.trans (hb01.mono HBB.out.size))
      clear hbn hb1 hb01 c0 c1 c2 c3 c4 c5 c6 c7 c8 hlg
      have hsz : k * 4 + 4 ≤ cs.size := by rw [HS.out]; omega
      obtain ⟨y0, d0⟩ := thereS HH.out (i := k * 4) (by omega)
      obtain ⟨y1, d1⟩ := thereS HH.out (i := k * 4 + 1) (by omega)
      obtain ⟨y2, d2⟩ := thereS HH.out (i := k * 4 + 2) (by omega)
      obtain ⟨y3, d3⟩ := thereS HH.out (i := k * 4 + 3) (by omega)
      have f0 := frozenS HH.out (k * 4)
      have f1 := frozenS HH.out (k * 4 + 1)
      have f2 := frozenS HH.out (k * 4 + 2)
      have f3 := frozenS HH.out (k * 4 + 3)
      have E1 := Lib.hid (putRe HH.out (k * 4) (cellR S1 S2 p))
      have E2 := Lib.hid (putReb HBB.out (Nat.le_refl _) (k * 4) (cellR S1 S2 p))
      go_wp2
      go_roundw
      case rel => exact ⟨k + 1, by omega, by go_num, ⟨_, E1.out, (wrAt_size _ _ _).trans HS.out, fun i q hi hq => by
        by_cases e : i = k
        · subst e
          obtain rfl : (cellR S1 S2 p) = q := by have := HG.out; rw [this] at hq; exact Option.some.inj hq
          exact InS.write (by simp only [valsRe, List.length_cons, List.length_nil]; omega)
        · exact (HC.out i q (by omega) hq).keepS (.inl (by simp only [valsRe, List.length_cons, List.length_nil]; omega))⟩, E2.out⟩
      case measure => simp [intOf]; omega
    · have hd : decide ((k : Int) < (L.length : Int)) = false := decide_eq_false (by omega)
      obtain rfl : k = L.length := by omega
      have HR := Lib.hid (show ReB wr w.heap.size (L.map (cellR S1 S2)) from ⟨cs, hh, by rw [List.length_map]; exact hs, fun i p hp => hc i p (by have := (List.getElem?_eq_some_iff.1 hp).1; rwa [List.length_map] at this) hp⟩)
      have HBB := Lib.hid hB
      clear hh hs hc hB
      go_wp2
      go_ret
      exact ⟨rfl, HR.out, HBB.out⟩
theorem fit_of {L1 L2 : List Ln} {L3 : List Ce} {S1 S2 : List Int} (hg : gridB L1 L2 L3 = true) (h1 : S1.length = L1.length) (h2 : S2.length = L2.length) : ∀ p ∈ L3, fitC S1 S2 p := fun p hp => by
  simp only [gridB, Bool.and_eq_true, decide_eq_true_eq] at hg
  have h := List.all_eq_true.1 hg.2.2.2 p hp
  have hsm := cellB_sm h
  simp only [cellB, runB, Bool.and_eq_true, rng_iff] at h
  exact ⟨hsm, by omega, by omega, by omega, by omega⟩
set_option maxRecDepth 100000 in
theorem gridRects_v (A1 : Option Addr) (c1 : Nat) (L1 : List Ln) (A2 : Option Addr) (c2 : Nat) (L2 : List Ln) (A3 : Option Addr) (c3 : Nat) (L3 : List Ce) (u v : Int) (w : World) (h1 : LnV w A1 L1) (h2 : LnV w A2 L2) (h3 : CeV w A3 L3) (hg : gridB L1 L2 L3 = true) (hu : rgG u v = true) :
    Calls Try.prog 33 #[.agg #[.slice A1 L1.length c1, .slice A2 L2.length c2, .slice A3 L3.length c3], .int .i64 u, .int .i64 v] w fun e w' => (∃ g, e = .returned (.slice (some ⟨g, 0, none⟩) L3.length L3.length) ∧ w.heap.size ≤ g ∧ ReB w' g (L3.map (cellR (sizedM L1 (L3.map acM) u) (sizedM L2 (L3.map dnM) v)))) ∧ Below w.heap.size w w' := by
  have gf := GF.of hg
  obtain ⟨⟨u0, u1⟩, ⟨y0, y1⟩⟩ := rgG_yes hu
  have q1 := sizedM_len (room := u) gf.v1 gf.s1
  have q2 := sizedM_len (room := v) gf.v2 gf.s2
  have HFT := Lib.hid (fit_of hg q1 q2)
  have HZ1 := Lib.hid (SzB.of gf.v1 gf.s1 u0 u1)
  have HZ2 := Lib.hid (SzB.of gf.v2 gf.s2 y0 y1)
  have HQ := Lib.hid (And.intro q1 q2)
  have hl8 := gf.hl8
  have HG := Lib.hid (And.intro hg hu)
  have hB0 : Below w.heap.size w (w.alloc (.cells #[.slice A1 L1.length c1, .slice A2 L2.length c2, .slice A3 L3.length c3] 26 (0, 0))) := balloc (Below.refl _ _)
  have HX := Lib.hid (newS w (.cells #[.slice A1 L1.length c1, .slice A2 L2.length c2, .slice A3 L3.length c3] 26 (0, 0)))
  have HV1 := Lib.hid (h1.keep hB0)
  have HV2 := Lib.hid (h2.keep hB0)
  have HV3 := Lib.hid (h3.keep hB0)
  have HB := Lib.hid hB0
  clear hB0 h1 h2 h3 gf hg hu q1 q2
  go_enter Try.func33, Try.ntmps33
  go_wp2_with fail
  with_reducible refine (edges_v A1 c1 L1 A2 c2 L2 A3 c3 L3 u v _ HV1.out HV2.out HV3.out HG.out.1 HG.out.2).mono ?_
  rintro e w1 ⟨⟨B1, e1, B2, e2, rfl, hi1, hi2⟩, hb⟩
  replace HX := Lib.hid ((hb.block _ (Array.getElem?_eq_some_iff.1 HX.out).1).trans HX.out)
  replace HV3 := Lib.hid (HV3.out.keep hb)
  replace HB := Lib.hid (bkeep2 HB.out hb)
  clear hb
  have HI1 := Lib.hid hi1
  have HI2 := Lib.hid hi2
  clear hi1 hi2
  go_upto_region 2 with (fail)
  refine wp_genGG (fun W => W.heap[w1.heap.size]? = some (.cells #[.slice B1 (L1.length + 1) e1] 68 (0, 0)) ∧ W.heap[w1.heap.size + 1]? = some (.cells #[.slice B2 (L2.length + 1) e2] 68 (0, 0)) ∧ Below w1.heap.size w1 W) ?hw (fun w2 h2 => ?_)
  case hw =>
    exact ⟨(Below.heap_alloc _ _ _ (by simp)).trans (newS _ _), by have := newS (w1.alloc (.cells #[.slice B1 (L1.length + 1) e1] 68 (0, 0))) (.cells #[.slice B2 (L2.length + 1) e2] 68 (0, 0)); rwa [World.size_alloc] at this, balloc (balloc (Below.refl _ _))⟩
  obtain ⟨hx1, hx2, hb2⟩ := h2
  replace HX := Lib.hid ((hb2.block _ (Array.getElem?_eq_some_iff.1 HX.out).1).trans HX.out)
  replace HV3 := Lib.hid (HV3.out.keep hb2)
  replace HI1 := Lib.hid (HI1.out.keep hb2)
  replace HI2 := Lib.hid (HI2.out.keep hb2)
  replace HB := Lib.hid (bkeep2 HB.out hb2)
  clear hb2
  have HX1 := Lib.hid hx1
  have HX2 := Lib.hid hx2
  clear hx1 hx2
  have d2 := cellS HX.out 2
  go_wp2_with fail
  with_reducible refine (each_rect A3 c3 L3 _ _ B1 B2 (L1.length + 1) e1 (L2.length + 1) e2 w1.heap.size (w1.heap.size + 1) _ HV3.out (by omega) HFT.out HZ1.out HZ2.out (by rw [HQ.out.1]) (by rw [HQ.out.2]) HX1.out HX2.out HI1.out HI2.out).mono ?_
  rintro e w3 ⟨rfl, hr, hb3⟩
  have hsz := HB.out.size
  clear d2
  replace HX := Lib.hid ((hb3.block _ (Array.getElem?_eq_some_iff.1 HX.out).1).trans HX.out)
  replace HB := Lib.hid (bkeep2 HB.out hb3)
  clear hb3
  have HR := Lib.hid hr
  clear hr
  go_wp2
  go_ret
  exact ⟨⟨_, rfl, hsz, HR.out⟩, HB.out⟩
/-- the rectangles of the cells of a grid -/
def grM (L1 L2 : List Ln) (L3 : List Ce) (u v : Int) : List Re := if (gridB L1 L2 L3 && rgG u v) = true then L3.map (cellR (sizedM L1 (L3.map acM) u) (sizedM L2 (L3.map dnM) v)) else []
def GRB (lo : Nat) (w : World) (x : Value) (M : List Re) : Prop := (x = .slice none 0 0 ∧ M = []) ∨ ∃ g n, x = .slice (some ⟨g, 0, none⟩) n n ∧ n = M.length ∧ lo ≤ g ∧ ReB w g M
/-- the value reads as the list -/
def ReR (w : World) (x : Value) (M : List Re) : Prop := ∃ A c, x = .slice A M.length c ∧ ReV w A M
theorem ReR.keep {w w' : World} {x : Value} {M : List Re} (h : ReR w x M) (hb : Below w.heap.size w w') : ReR w' x M := let ⟨A, c, e, n⟩ := h; ⟨A, c, e, n.keep hb⟩
theorem GRB.rv {lo : Nat} {w : World} {x : Value} {M : List Re} (h : GRB lo w x M) : ReR w x M := by
  rcases h with ⟨rfl, rfl⟩ | ⟨g, n, rfl, rfl, _, hk⟩
  · exact ⟨none, 0, rfl, ReV.nil _ _⟩
  · exact ⟨_, _, rfl, hk.v⟩
theorem GRB.keep {lo : Nat} {w w' : World} {x : Value} {M : List Re} (h : GRB lo w x M) (hb : Below w.heap.size w w') : GRB lo w' x M :=
  h.imp id fun ⟨g, n, h1, h2, h3, hk⟩ => ⟨g, n, h1, h2, h3, hk.keep hb⟩
set_option maxRecDepth 100000 in
theorem GridRects_v (A1 : Option Addr) (c1 : Nat) (L1 : List Ln) (A2 : Option Addr) (c2 : Nat) (L2 : List Ln) (A3 : Option Addr) (c3 : Nat) (L3 : List Ce) (u v : Int) (w : World) (h1 : LnV w A1 L1) (h2 : LnV w A2 L2) (h3 : CeV w A3 L3) (k1 : L1.length ≤ 1048576) (k2 : L2.length ≤ 1048576) (k3 : L3.length ≤ 1048576) :
    Calls Try.prog 10 #[.agg #[.slice A1 L1.length c1, .slice A2 L2.length c2, .slice A3 L3.length c3], .int .i64 u, .int .i64 v] w fun e w' => (∃ x, e = .returned x ∧ GRB w.heap.size w' x (grM L1 L2 L3 u v)) ∧ Below w.heap.size w w' := by
  have hB0 : Below w.heap.size w (w.alloc (.cells #[.slice A1 L1.length c1, .slice A2 L2.length c2, .slice A3 L3.length c3] 26 (0, 0))) := balloc (Below.refl _ _)
  have HX := Lib.hid (newS w (.cells #[.slice A1 L1.length c1, .slice A2 L2.length c2, .slice A3 L3.length c3] 26 (0, 0)))
  have HV1 := Lib.hid (h1.keep hB0)
  have HV2 := Lib.hid (h2.keep hB0)
  have HV3 := Lib.hid (h3.keep hB0)
  have HB := Lib.hid hB0
  clear hB0 h1 h2 h3
  cases ht : gridB L1 L2 L3
  · rw [show grM L1 L2 L3 u v = [] by simp [grM, ht]]
    go_enter Try.func10, Try.ntmps10
    go_wp2_with fail
    with_reducible refine (validGrid_v A1 c1 L1 A2 c2 L2 A3 c3 L3 false _ HV1.out HV2.out HV3.out k1 k2 k3 ht).mono ?_
    rintro e w1 ⟨rfl, hb⟩
    replace HX := Lib.hid ((hb.block _ (Array.getElem?_eq_some_iff.1 HX.out).1).trans HX.out)
    replace HB := Lib.hid (bkeep2 HB.out hb)
    clear hb
    clear ht
    go_wp2
    go_ret
    exact ⟨⟨_, rfl, .inl ⟨rfl, rfl⟩⟩, HB.out⟩
  · cases hr : rgG u v
    · rw [show grM L1 L2 L3 u v = [] by simp [grM, hr]]
      go_enter Try.func10, Try.ntmps10
      go_wp2_with fail
      with_reducible refine (validGrid_v A1 c1 L1 A2 c2 L2 A3 c3 L3 true _ HV1.out HV2.out HV3.out k1 k2 k3 ht).mono ?_
      rintro e w1 ⟨rfl, hb⟩
      replace HX := Lib.hid ((hb.block _ (Array.getElem?_eq_some_iff.1 HX.out).1).trans HX.out)
      replace HB := Lib.hid (bkeep2 HB.out hb)
      clear hb
      clear ht
      go_wp2_with fail
      with_reducible refine (validRoom_g u v _).mono ?_
      rintro e w2 ⟨rfl, rfl⟩
      rw [hr]
      clear hr
      go_wp2
      go_ret
      exact ⟨⟨_, rfl, .inl ⟨rfl, rfl⟩⟩, HB.out⟩
    · rw [show grM L1 L2 L3 u v = L3.map (cellR (sizedM L1 (L3.map acM) u) (sizedM L2 (L3.map dnM) v)) by simp [grM, ht, hr]]
      go_enter Try.func10, Try.ntmps10
      go_wp2_with fail
      with_reducible refine (validGrid_v A1 c1 L1 A2 c2 L2 A3 c3 L3 true _ HV1.out HV2.out HV3.out k1 k2 k3 ht).mono ?_
      rintro e w1 ⟨rfl, hb⟩
      replace HX := Lib.hid ((hb.block _ (Array.getElem?_eq_some_iff.1 HX.out).1).trans HX.out)
      replace HV1 := Lib.hid (HV1.out.keep hb)
      replace HV2 := Lib.hid (HV2.out.keep hb)
      replace HV3 := Lib.hid (HV3.out.keep hb)
      replace HB := Lib.hid (bkeep2 HB.out hb)
      clear hb
      have HT := Lib.hid ht
      clear ht
      go_wp2_with fail
      with_reducible refine (validRoom_g u v _).mono ?_
      rintro e w2 ⟨rfl, rfl⟩
      rw [hr]
      have HR := Lib.hid hr
      clear hr
      have d0 := cellS HX.out 0
      have d1 := cellS HX.out 1
      have d2 := cellS HX.out 2
      have hsz := HB.out.size
      go_wp2_with fail
      with_reducible refine (gridRects_v A1 c1 L1 A2 c2 L2 A3 c3 L3 u v _ HV1.out HV2.out HV3.out HT.out HR.out).mono ?_
      rintro e w3 ⟨⟨g, rfl, hgl, hre⟩, hb⟩
      clear d0 d1 d2
      replace HX := Lib.hid ((hb.block _ (Array.getElem?_eq_some_iff.1 HX.out).1).trans HX.out)
      replace HB := Lib.hid (bkeep2 HB.out hb)
      clear hb
      have HRE := Lib.hid hre
      clear hre
      go_wp2
      go_ret
      exact ⟨⟨_, rfl, .inr ⟨g, _, rfl, by rw [List.length_map], Nat.le_trans hsz hgl, HRE.out⟩⟩, HB.out⟩
end Go.Proofs.Ytikndbinlpmgaaa
end
