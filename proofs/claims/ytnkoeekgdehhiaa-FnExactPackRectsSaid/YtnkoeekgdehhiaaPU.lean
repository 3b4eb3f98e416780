import Derived.Test.YtnkoeekgdehhiaaPO
import Derived.Test.YtnkoeekgdehhiaaD4
import Derived.Test.YtnkoeekgdehhiaaS4
import Derived.Test.YtnkoeekgdehhiaaD3
import Derived.Test.YtnkoeekgdehhiaaS3
namespace Go.Proofs.Ytnkoeekgdehhiaa
open Go.RowKit
set_option linter.unusedVariables false
set_option maxHeartbeats 1000000
attribute [local go_sem 5000] run_mx run_mn
def insP (r : Rc) (p q : Int) : Rc := ⟨r.x + mn p (r.u / 2), r.y + mn q (r.v / 2), mx (r.u - 2 * p) 0, mx (r.v - 2 * q) 0⟩
def ancP (r : Rc) (p q k : Int) : Rc := ⟨r.x + (r.u - mn p r.u) * (k % 3) / 2, r.y + (r.v - mn q r.v) * (k / 3) / 2, mn p r.u, mn q r.v⟩
def wP (p : Pk) (r : Rc) : Int := if p.fx then (insP r p.px p.py).u else p.w
def hP (p : Pk) (r : Rc) : Int := if p.fy then (insP r p.px p.py).v else p.h
def setP (p : Pk) (r : Rc) : Rc := ancP (insP r p.px p.py) (wP p r) (hP p r) p.an
theorem ok_all {p : Pk} (h : p.ok = true) : rng p.w 0 30 = true ∧ rng p.h 0 30 = true ∧ rng p.s 0 3 = true ∧ rng p.an 0 8 = true ∧ rng p.px 0 10 = true ∧ rng p.py 0 10 = true := by
  unfold Pk.ok vpB at h; simpa using h
theorem ins_inB {p : Pk} {r : Rc} (h : p.ok = true) (hr : r.ok = true) : inB r.x r.y r.u r.v p.px p.py = true := by
  obtain ⟨_, _, _, _, h5, h6⟩ := ok_all h
  unfold inB; unfold Rc.ok at hr; simp [hr, h5, h6]
theorem ins_ok {p : Pk} {r : Rc} (h : p.ok = true) (hr : r.ok = true) : (insP r p.px p.py).ok = true := by
  obtain ⟨_, _, _, _, h5, h6⟩ := ok_all h
  have a5 := rng_iff.1 h5
  have a6 := rng_iff.1 h6
  obtain ⟨a1, a2, a3, a4, b1, b2, b3, b4⟩ := vr_iff.1 hr
  have m1 := mn_spec p.px (r.u / 2)
  have m2 := mn_spec p.py (r.v / 2)
  have m3 := mx_spec (r.u - 2 * p.px) 0
  have m4 := mx_spec (r.v - 2 * p.py) 0
  refine vr_iff.2 ?_
  dsimp only [insP]
  omega
theorem anc_anB {p : Pk} {r : Rc} (h : p.ok = true) (hr : r.ok = true) (a b : Int) (ha : a = p.w ∨ a = (insP r p.px p.py).u) (hb : b = p.h ∨ b = (insP r p.px p.py).v) :
    anB (insP r p.px p.py).x (insP r p.px p.py).y (insP r p.px p.py).u (insP r p.px p.py).v a b p.an = true := by
  obtain ⟨h1, h2, _, h4, _, _⟩ := ok_all h
  have hi := ins_ok h hr
  have a1 := rng_iff.1 h1
  have a2 := rng_iff.1 h2
  obtain ⟨b1, b2, b3, b4, _⟩ := vr_iff.1 hi
  have r1 : rng a 0 400 = true := rng_iff.2 (by rcases ha with rfl | rfl <;> omega)
  have r2 : rng b 0 400 = true := rng_iff.2 (by rcases hb with rfl | rfl <;> omega)
  unfold anB; unfold Rc.ok at hi; simp [hi, h4, r1, r2]
theorem set_ok {p : Pk} {r : Rc} (h : p.ok = true) (hr : r.ok = true) : 0 ≤ (setP p r).u ∧ 0 ≤ (setP p r).v := by
  have ha := anc_anB h hr (wP p r) (hP p r) (by unfold wP; split; exact .inr rfl; exact .inl rfl) (by unfold hP; split; exact .inr rfl; exact .inl rfl)
  have := an_bds ha
  exact ⟨this.1, this.2.2.1⟩
theorem inset_v (p : Pk) (r : Rc) (w : World) (h : p.ok = true) (hr : r.ok = true) : Calls Try.prog 73 #[.agg #[.int .i64 (r.x), .int .i64 (r.y), .int .i64 (r.u), .int .i64 (r.v)], .int .i64 p.px, .int .i64 p.py] w fun e w' => e = .returned (.agg #[.int .i64 ((insP r p.px p.py).x), .int .i64 ((insP r p.px p.py).y), .int .i64 ((insP r p.px p.py).u), .int .i64 ((insP r p.px p.py).v)]) ∧ Below w.heap.size w w' := inset_any _ _ _ _ _ _ _ (ins_inB h hr)
theorem sinset_v (p : Pk) (r : Rc) (w : World) (h : p.ok = true) (hr : r.ok = true) : Calls Try.prog 71 #[.agg #[.int .i64 (r.x), .int .i64 (r.y), .int .i64 (r.u), .int .i64 (r.v)], .int .i64 p.px, .int .i64 p.py] w fun e w' => e = .returned (.agg #[.int .i64 ((insP r p.px p.py).x), .int .i64 ((insP r p.px p.py).y), .int .i64 ((insP r p.px p.py).u), .int .i64 ((insP r p.px p.py).v)]) ∧ Below w.heap.size w w' := sinset_any _ _ _ _ _ _ _ (ins_inB h hr)
theorem anchored_v (p : Pk) (r q : Rc) (a b : Int) (w : World) (h : p.ok = true) (hr : r.ok = true) (hq : q = insP r p.px p.py) (ha : a = p.w ∨ a = (insP r p.px p.py).u) (hb : b = p.h ∨ b = (insP r p.px p.py).v) (S : Rc) (hS : ancP (insP r p.px p.py) a b p.an = S) :
    Calls Try.prog 74 #[.agg #[.int .i64 (q.x), .int .i64 (q.y), .int .i64 (q.u), .int .i64 (q.v)], .int .i64 a, .int .i64 b, .int .i64 p.an] w fun e w' => e = .returned (.agg #[.int .i64 (S.x), .int .i64 (S.y), .int .i64 (S.u), .int .i64 (S.v)]) ∧ Below w.heap.size w w' := by subst hq hS; exact anchored_any _ _ _ _ _ _ _ _ (anc_anB h hr a b ha hb)
theorem sanchored_v (p : Pk) (r q : Rc) (a b : Int) (w : World) (h : p.ok = true) (hr : r.ok = true) (hq : q = insP r p.px p.py) (ha : a = p.w ∨ a = (insP r p.px p.py).u) (hb : b = p.h ∨ b = (insP r p.px p.py).v) (S : Rc) (hS : ancP (insP r p.px p.py) a b p.an = S) :
    Calls Try.prog 72 #[.agg #[.int .i64 (q.x), .int .i64 (q.y), .int .i64 (q.u), .int .i64 (q.v)], .int .i64 a, .int .i64 b, .int .i64 p.an] w fun e w' => e = .returned (.agg #[.int .i64 (S.x), .int .i64 (S.y), .int .i64 (S.u), .int .i64 (S.v)]) ∧ Below w.heap.size w w' := by subst hq hS; exact sanchored_any _ _ _ _ _ _ _ _ (anc_anB h hr a b ha hb)
set_option maxRecDepth 100000 in
theorem inParcel_v (p : Pk) (r : Rc) (w : World) (h : p.ok = true) (hr : r.ok = true) : Calls Try.prog 60 #[.agg #[.int .i64 p.w, .int .i64 p.h, .int .i64 p.s, .bool p.fx, .bool p.fy, .bool p.ex, .int .i64 p.an, .int .i64 p.px, .int .i64 p.py], .agg #[.int .i64 (r.x), .int .i64 (r.y), .int .i64 (r.u), .int .i64 (r.v)]] w fun e w' => e = .returned (.agg #[.int .i64 ((setP p r).x), .int .i64 ((setP p r).y), .int .i64 ((setP p r).u), .int .i64 ((setP p r).v)]) ∧ Below w.heap.size w w' := by
  obtain ⟨S, hS⟩ : ∃ S, setP p r = S := ⟨_, rfl⟩
  rw [hS]
  have HS := Lib.hid hS
  clear hS
  go_enter Try.func60, Try.ntmps60
  go_wp2_with fail
  with_reducible refine (inset_v p r _ h hr).mono ?_
  rintro e w1 ⟨rfl, hb1⟩
  have hP1 := (hb1.block w.heap.size (by simp; omega)).trans ((Below.heap_alloc _ (.cells #[.int .i64 0, .int .i64 0, .int .i64 0, .int .i64 0] 37 (0, 0)) _ (by simp; omega)).trans ((Below.heap_alloc _ (.cells #[.int .i64 r.x, .int .i64 r.y, .int .i64 r.u, .int .i64 r.v] 37 (0, 0)) _ (by simp)).trans (heap_new w (.cells #[.int .i64 p.w, .int .i64 p.h, .int .i64 p.s, .bool p.fx, .bool p.fy, .bool p.ex, .int .i64 p.an, .int .i64 p.px, .int .i64 p.py] 45 (0, 0)))))
  have hI1 := (hb1.block (w.heap.size + 1 + 1) (by simp)).trans (by have e := heap_new ((w.alloc (.cells #[.int .i64 p.w, .int .i64 p.h, .int .i64 p.s, .bool p.fx, .bool p.fy, .bool p.ex, .int .i64 p.an, .int .i64 p.px, .int .i64 p.py] 45 (0, 0))).alloc (.cells #[.int .i64 r.x, .int .i64 r.y, .int .i64 r.u, .int .i64 r.v] 37 (0, 0))) (.cells #[.int .i64 0, .int .i64 0, .int .i64 0, .int .i64 0] 37 (0, 0)); simpa only [World.size_alloc] using e)
  have hB1 : Below w.heap.size w w1 := bkeep2 (balloc (balloc (balloc (Below.refl _ _)))) hb1
  have hls : w.heap.size + 1 + 1 < w1.heap.size := (Array.getElem?_eq_some_iff.1 hI1).1
  obtain ⟨I, hI⟩ : ∃ I, insP r p.px p.py = I := ⟨_, rfl⟩
  rw [hI]
  have c0 := cellH hP1 0
  have c1 := cellH hP1 1
  have c3 := cellH hP1 3
  have c4 := cellH hP1 4
  have c6 := cellH hP1 6
  simp only [List.getElem?_toArray, List.getElem?_cons_zero, List.getElem?_cons_succ] at c0 c1 c3 c4 c6
  have HB := Lib.hid hB1
  have HX := Lib.hid hI1
  have hl0 : w.heap.size < w1.heap.size := by omega
  have hn0 : ¬ w.heap.size = w1.heap.size := by omega
  have HI := Lib.hid hI
  clear hP1 hI1 hb1 hB1 hI
  cases hfx : p.fx <;> cases hfy : p.fy
  · rw [hfx] at c3
    rw [hfy] at c4
    go_wp2_with fail
    go_region
    go_wp2_with fail
    refine (anchored_v p r I p.w p.h _ h hr HI.out.symm (by rw [HI.out]; simp) (by rw [HI.out]; simp) S (by rw [← HS.out]; unfold setP wP hP; simp [hfx, hfy, HI.out])).mono ?_
    rintro e w2 ⟨rfl, hb2⟩
    replace HX := Lib.hid ((hb2.block _ (by simp; omega)).trans ((Below.heap_alloc _ _ _ hls).trans HX.out))
    replace HB := Lib.hid (bkeep2 (Below.drew (balloc HB.out)) hb2)
    clear hb2 c0 c1 c3 c4 c6 hl0 hn0 hls
    obtain ⟨i0, i1, i2, i3⟩ := cells4 HX.out
    have g0 := frozenH HX.out 0
    have g1 := frozenH HX.out 1
    have g2 := frozenH HX.out 2
    have g3 := frozenH HX.out 3
    go_wp2
    refine bp_genP (fun W => W.heap[w.heap.size + 1 + 1]? = some (.cells #[.int .i64 S.x, .int .i64 S.y, .int .i64 S.u, .int .i64 S.v] 37 (0, 0)) ∧ Below w.heap.size w W)
      ⟨pput4z HX.out _ _ _ _, pput4b HB.out (by omega) _ _ _ _ _ _ _ _⟩ ?_
    clear HX HB i0 i1 i2 i3 g0 g1 g2 g3
    rintro W ⟨hW, hB2⟩
    obtain ⟨r0, r1, r2, r3⟩ := cells4 hW
    exact bodyPost_ret (v := .agg #[.int .i64 (S.x), .int .i64 (S.y), .int .i64 (S.u), .int .i64 (S.v)]) (by simp only [results, Try.results60]; go_simp) rfl ⟨rfl, hB2⟩
  · rw [hfx] at c3
    rw [hfy] at c4
    go_wp2_with fail
    go_region
    go_wp2_with fail
    refine (anchored_v p r I p.w I.v _ h hr HI.out.symm (by rw [HI.out]; simp) (by rw [HI.out]; simp) S (by rw [← HS.out]; unfold setP wP hP; simp [hfx, hfy, HI.out])).mono ?_
    rintro e w2 ⟨rfl, hb2⟩
    replace HX := Lib.hid ((hb2.block _ (by simp; omega)).trans ((Below.heap_alloc _ _ _ hls).trans HX.out))
    replace HB := Lib.hid (bkeep2 (Below.drew (balloc HB.out)) hb2)
    clear hb2 c0 c1 c3 c4 c6 hl0 hn0 hls
    obtain ⟨i0, i1, i2, i3⟩ := cells4 HX.out
    have g0 := frozenH HX.out 0
    have g1 := frozenH HX.out 1
    have g2 := frozenH HX.out 2
    have g3 := frozenH HX.out 3
    go_wp2
    refine bp_genP (fun W => W.heap[w.heap.size + 1 + 1]? = some (.cells #[.int .i64 S.x, .int .i64 S.y, .int .i64 S.u, .int .i64 S.v] 37 (0, 0)) ∧ Below w.heap.size w W)
      ⟨pput4z HX.out _ _ _ _, pput4b HB.out (by omega) _ _ _ _ _ _ _ _⟩ ?_
    clear HX HB i0 i1 i2 i3 g0 g1 g2 g3
    rintro W ⟨hW, hB2⟩
    obtain ⟨r0, r1, r2, r3⟩ := cells4 hW
    exact bodyPost_ret (v := .agg #[.int .i64 (S.x), .int .i64 (S.y), .int .i64 (S.u), .int .i64 (S.v)]) (by simp only [results, Try.results60]; go_simp) rfl ⟨rfl, hB2⟩
  · rw [hfx] at c3
    rw [hfy] at c4
    go_wp2_with fail
    go_region
    go_wp2_with fail
    refine (anchored_v p r I I.u p.h _ h hr HI.out.symm (by rw [HI.out]; simp) (by rw [HI.out]; simp) S (by rw [← HS.out]; unfold setP wP hP; simp [hfx, hfy, HI.out])).mono ?_
    rintro e w2 ⟨rfl, hb2⟩
    replace HX := Lib.hid ((hb2.block _ (by simp; omega)).trans ((Below.heap_alloc _ _ _ hls).trans HX.out))
    replace HB := Lib.hid (bkeep2 (Below.drew (balloc HB.out)) hb2)
    clear hb2 c0 c1 c3 c4 c6 hl0 hn0 hls
    obtain ⟨i0, i1, i2, i3⟩ := cells4 HX.out
    have g0 := frozenH HX.out 0
    have g1 := frozenH HX.out 1
    have g2 := frozenH HX.out 2
    have g3 := frozenH HX.out 3
    go_wp2
    refine bp_genP (fun W => W.heap[w.heap.size + 1 + 1]? = some (.cells #[.int .i64 S.x, .int .i64 S.y, .int .i64 S.u, .int .i64 S.v] 37 (0, 0)) ∧ Below w.heap.size w W)
      ⟨pput4z HX.out _ _ _ _, pput4b HB.out (by omega) _ _ _ _ _ _ _ _⟩ ?_
    clear HX HB i0 i1 i2 i3 g0 g1 g2 g3
    rintro W ⟨hW, hB2⟩
    obtain ⟨r0, r1, r2, r3⟩ := cells4 hW
    exact bodyPost_ret (v := .agg #[.int .i64 (S.x), .int .i64 (S.y), .int .i64 (S.u), .int .i64 (S.v)]) (by simp only [results, Try.results60]; go_simp) rfl ⟨rfl, hB2⟩
  · rw [hfx] at c3
    rw [hfy] at c4
    go_wp2_with fail
    go_region
    go_wp2_with fail
    refine (anchored_v p r I I.u I.v _ h hr HI.out.symm (by rw [HI.out]; simp) (by rw [HI.out]; simp) S (by rw [← HS.out]; unfold setP wP hP; simp [hfx, hfy, HI.out])).mono ?_
    rintro e w2 ⟨rfl, hb2⟩
    replace HX := Lib.hid ((hb2.block _ (by simp; omega)).trans ((Below.heap_alloc _ _ _ hls).trans HX.out))
    replace HB := Lib.hid (bkeep2 (Below.drew (balloc HB.out)) hb2)
    clear hb2 c0 c1 c3 c4 c6 hl0 hn0 hls
    obtain ⟨i0, i1, i2, i3⟩ := cells4 HX.out
    have g0 := frozenH HX.out 0
    have g1 := frozenH HX.out 1
    have g2 := frozenH HX.out 2
    have g3 := frozenH HX.out 3
    go_wp2
    refine bp_genP (fun W => W.heap[w.heap.size + 1 + 1]? = some (.cells #[.int .i64 S.x, .int .i64 S.y, .int .i64 S.u, .int .i64 S.v] 37 (0, 0)) ∧ Below w.heap.size w W)
      ⟨pput4z HX.out _ _ _ _, pput4b HB.out (by omega) _ _ _ _ _ _ _ _⟩ ?_
    clear HX HB i0 i1 i2 i3 g0 g1 g2 g3
    rintro W ⟨hW, hB2⟩
    obtain ⟨r0, r1, r2, r3⟩ := cells4 hW
    exact bodyPost_ret (v := .agg #[.int .i64 (S.x), .int .i64 (S.y), .int .i64 (S.u), .int .i64 (S.v)]) (by simp only [results, Try.results60]; go_simp) rfl ⟨rfl, hB2⟩
set_option maxRecDepth 100000 in
theorem settled_v (p : Pk) (r : Rc) (w : World) (h : p.ok = true) (hr : r.ok = true) : Calls Try.prog 59 #[.agg #[.int .i64 p.w, .int .i64 p.h, .int .i64 p.s, .bool p.fx, .bool p.fy, .bool p.ex, .int .i64 p.an, .int .i64 p.px, .int .i64 p.py], .agg #[.int .i64 (r.x), .int .i64 (r.y), .int .i64 (r.u), .int .i64 (r.v)]] w fun e w' => e = .returned (.agg #[.int .i64 ((setP p r).x), .int .i64 ((setP p r).y), .int .i64 ((setP p r).u), .int .i64 ((setP p r).v)]) ∧ Below w.heap.size w w' := by
  obtain ⟨S, hS⟩ : ∃ S, setP p r = S := ⟨_, rfl⟩
  rw [hS]
  have HS := Lib.hid hS
  clear hS
  go_enter Try.func59, Try.ntmps59
  go_wp2_with fail
  with_reducible refine (sinset_v p r _ h hr).mono ?_
  rintro e w1 ⟨rfl, hb1⟩
  have hP1 := (hb1.block w.heap.size (by simp; omega)).trans ((Below.heap_alloc _ (.cells #[.int .i64 0, .int .i64 0, .int .i64 0, .int .i64 0] 37 (0, 0)) _ (by simp; omega)).trans ((Below.heap_alloc _ (.cells #[.int .i64 r.x, .int .i64 r.y, .int .i64 r.u, .int .i64 r.v] 37 (0, 0)) _ (by simp)).trans (heap_new w (.cells #[.int .i64 p.w, .int .i64 p.h, .int .i64 p.s, .bool p.fx, .bool p.fy, .bool p.ex, .int .i64 p.an, .int .i64 p.px, .int .i64 p.py] 45 (0, 0)))))
  have hI1 := (hb1.block (w.heap.size + 1 + 1) (by simp)).trans (by have e := heap_new ((w.alloc (.cells #[.int .i64 p.w, .int .i64 p.h, .int .i64 p.s, .bool p.fx, .bool p.fy, .bool p.ex, .int .i64 p.an, .int .i64 p.px, .int .i64 p.py] 45 (0, 0))).alloc (.cells #[.int .i64 r.x, .int .i64 r.y, .int .i64 r.u, .int .i64 r.v] 37 (0, 0))) (.cells #[.int .i64 0, .int .i64 0, .int .i64 0, .int .i64 0] 37 (0, 0)); simpa only [World.size_alloc] using e)
  have hB1 : Below w.heap.size w w1 := bkeep2 (balloc (balloc (balloc (Below.refl _ _)))) hb1
  have hls : w.heap.size + 1 + 1 < w1.heap.size := (Array.getElem?_eq_some_iff.1 hI1).1
  obtain ⟨I, hI⟩ : ∃ I, insP r p.px p.py = I := ⟨_, rfl⟩
  rw [hI]
  have c0 := cellH hP1 0
  have c1 := cellH hP1 1
  have c3 := cellH hP1 3
  have c4 := cellH hP1 4
  have c6 := cellH hP1 6
  simp only [List.getElem?_toArray, List.getElem?_cons_zero, List.getElem?_cons_succ] at c0 c1 c3 c4 c6
  have HB := Lib.hid hB1
  have HX := Lib.hid hI1
  have hl0 : w.heap.size < w1.heap.size := by omega
  have hn0 : ¬ w.heap.size = w1.heap.size := by omega
  have HI := Lib.hid hI
  clear hP1 hI1 hb1 hB1 hI
  cases hfx : p.fx <;> cases hfy : p.fy
  · rw [hfx] at c3
    rw [hfy] at c4
    go_wp2_with fail
    refine (sanchored_v p r I p.w p.h _ h hr HI.out.symm (by rw [HI.out]; simp) (by rw [HI.out]; simp) S (by rw [← HS.out]; unfold setP wP hP; simp [hfx, hfy, HI.out])).mono ?_
    rintro e w2 ⟨rfl, hb2⟩
    replace HX := Lib.hid ((hb2.block _ (by simp; omega)).trans ((Below.heap_alloc _ _ _ hls).trans HX.out))
    replace HB := Lib.hid (bkeep2 (balloc HB.out) hb2)
    clear hb2 c0 c1 c3 c4 c6 hl0 hn0 hls
    obtain ⟨i0, i1, i2, i3⟩ := cells4 HX.out
    have g0 := frozenH HX.out 0
    have g1 := frozenH HX.out 1
    have g2 := frozenH HX.out 2
    have g3 := frozenH HX.out 3
    go_wp2
    refine bp_genP (fun W => W.heap[w.heap.size + 1 + 1]? = some (.cells #[.int .i64 S.x, .int .i64 S.y, .int .i64 S.u, .int .i64 S.v] 37 (0, 0)) ∧ Below w.heap.size w W)
      ⟨pput4z HX.out _ _ _ _, pput4b HB.out (by omega) _ _ _ _ _ _ _ _⟩ ?_
    clear HX HB i0 i1 i2 i3 g0 g1 g2 g3
    rintro W ⟨hW, hB2⟩
    obtain ⟨r0, r1, r2, r3⟩ := cells4 hW
    exact bodyPost_ret (v := .agg #[.int .i64 (S.x), .int .i64 (S.y), .int .i64 (S.u), .int .i64 (S.v)]) (by simp only [results, Try.results59]; go_simp) rfl ⟨rfl, hB2⟩
  · rw [hfx] at c3
    rw [hfy] at c4
    go_wp2_with fail
    refine (sanchored_v p r I p.w I.v _ h hr HI.out.symm (by rw [HI.out]; simp) (by rw [HI.out]; simp) S (by rw [← HS.out]; unfold setP wP hP; simp [hfx, hfy, HI.out])).mono ?_
    rintro e w2 ⟨rfl, hb2⟩
    replace HX := Lib.hid ((hb2.block _ (by simp; omega)).trans ((Below.heap_alloc _ _ _ hls).trans HX.out))
    replace HB := Lib.hid (bkeep2 (balloc HB.out) hb2)
    clear hb2 c0 c1 c3 c4 c6 hl0 hn0 hls
    obtain ⟨i0, i1, i2, i3⟩ := cells4 HX.out
    have g0 := frozenH HX.out 0
    have g1 := frozenH HX.out 1
    have g2 := frozenH HX.out 2
    have g3 := frozenH HX.out 3
    go_wp2
    refine bp_genP (fun W => W.heap[w.heap.size + 1 + 1]? = some (.cells #[.int .i64 S.x, .int .i64 S.y, .int .i64 S.u, .int .i64 S.v] 37 (0, 0)) ∧ Below w.heap.size w W)
      ⟨pput4z HX.out _ _ _ _, pput4b HB.out (by omega) _ _ _ _ _ _ _ _⟩ ?_
    clear HX HB i0 i1 i2 i3 g0 g1 g2 g3
    rintro W ⟨hW, hB2⟩
    obtain ⟨r0, r1, r2, r3⟩ := cells4 hW
    exact bodyPost_ret (v := .agg #[.int .i64 (S.x), .int .i64 (S.y), .int .i64 (S.u), .int .i64 (S.v)]) (by simp only [results, Try.results59]; go_simp) rfl ⟨rfl, hB2⟩
  · rw [hfx] at c3
    rw [hfy] at c4
    go_wp2_with fail
    refine (sanchored_v p r I I.u p.h _ h hr HI.out.symm (by rw [HI.out]; simp) (by rw [HI.out]; simp) S (by rw [← HS.out]; unfold setP wP hP; simp [hfx, hfy, HI.out])).mono ?_
    rintro e w2 ⟨rfl, hb2⟩
    replace HX := Lib.hid ((hb2.block _ (by simp; omega)).trans ((Below.heap_alloc _ _ _ hls).trans HX.out))
    replace HB := Lib.hid (bkeep2 (balloc HB.out) hb2)
    clear hb2 c0 c1 c3 c4 c6 hl0 hn0 hls
    obtain ⟨i0, i1, i2, i3⟩ := cells4 HX.out
    have g0 := frozenH HX.out 0
    have g1 := frozenH HX.out 1
    have g2 := frozenH HX.out 2
    have g3 := frozenH HX.out 3
    go_wp2
    refine bp_genP (fun W => W.heap[w.heap.size + 1 + 1]? = some (.cells #[.int .i64 S.x, .int .i64 S.y, .int .i64 S.u, .int .i64 S.v] 37 (0, 0)) ∧ Below w.heap.size w W)
      ⟨pput4z HX.out _ _ _ _, pput4b HB.out (by omega) _ _ _ _ _ _ _ _⟩ ?_
    clear HX HB i0 i1 i2 i3 g0 g1 g2 g3
    rintro W ⟨hW, hB2⟩
    obtain ⟨r0, r1, r2, r3⟩ := cells4 hW
    exact bodyPost_ret (v := .agg #[.int .i64 (S.x), .int .i64 (S.y), .int .i64 (S.u), .int .i64 (S.v)]) (by simp only [results, Try.results59]; go_simp) rfl ⟨rfl, hB2⟩
  · rw [hfx] at c3
    rw [hfy] at c4
    go_wp2_with fail
    refine (sanchored_v p r I I.u I.v _ h hr HI.out.symm (by rw [HI.out]; simp) (by rw [HI.out]; simp) S (by rw [← HS.out]; unfold setP wP hP; simp [hfx, hfy, HI.out])).mono ?_
    rintro e w2 ⟨rfl, hb2⟩
    replace HX := Lib.hid ((hb2.block _ (by simp; omega)).trans ((Below.heap_alloc _ _ _ hls).trans HX.out))
    replace HB := Lib.hid (bkeep2 (balloc HB.out) hb2)
    clear hb2 c0 c1 c3 c4 c6 hl0 hn0 hls
    obtain ⟨i0, i1, i2, i3⟩ := cells4 HX.out
    have g0 := frozenH HX.out 0
    have g1 := frozenH HX.out 1
    have g2 := frozenH HX.out 2
    have g3 := frozenH HX.out 3
    go_wp2
    refine bp_genP (fun W => W.heap[w.heap.size + 1 + 1]? = some (.cells #[.int .i64 S.x, .int .i64 S.y, .int .i64 S.u, .int .i64 S.v] 37 (0, 0)) ∧ Below w.heap.size w W)
      ⟨pput4z HX.out _ _ _ _, pput4b HB.out (by omega) _ _ _ _ _ _ _ _⟩ ?_
    clear HX HB i0 i1 i2 i3 g0 g1 g2 g3
    rintro W ⟨hW, hB2⟩
    obtain ⟨r0, r1, r2, r3⟩ := cells4 hW
    exact bodyPost_ret (v := .agg #[.int .i64 (S.x), .int .i64 (S.y), .int .i64 (S.u), .int .i64 (S.v)]) (by simp only [results, Try.results59]; go_simp) rfl ⟨rfl, hB2⟩
end Go.Proofs.Ytnkoeekgdehhiaa
