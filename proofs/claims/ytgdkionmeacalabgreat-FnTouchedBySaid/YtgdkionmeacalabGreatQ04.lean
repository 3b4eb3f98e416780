import Derived.Test.YtgdkionmeacalabGreatQ03
section
namespace Go.Proofs.YtgdkionmeacalabGreat
open Go.RowKit
set_option linter.unusedVariables false
set_option maxHeartbeats 1000000
attribute [local go_sem] growUpon_value growUpon_skip growUpon_enter
structure Ce where
  co : Int
  ro : Int
  mc : Int
  mr : Int
  cw : Int
  ch : Int
  sk : Int
  px : Int
  py : Int
def valsCe (p : Ce) : List Value := [.int .i64 p.co, .int .i64 p.ro, .int .i64 p.mc, .int .i64 p.mr, .int .i64 p.cw, .int .i64 p.ch, .int .i64 p.sk, .int .i64 p.px, .int .i64 p.py]
/-- a slice that reads as this list -/
structure CeV (w : World) (A : Option Addr) (L : List Ce) : Prop where
  cells : 0 < L.length → ∃ b off, A = some ⟨b, off, none⟩ ∧ b < w.heap.size ∧ ∀ i p, L[i]? = some p → w.cell? ⟨b, off + i * 9, none⟩ = some (.int .i64 p.co) ∧ w.cell? ⟨b, off + i * 9 + 1, none⟩ = some (.int .i64 p.ro) ∧ w.cell? ⟨b, off + i * 9 + 2, none⟩ = some (.int .i64 p.mc) ∧ w.cell? ⟨b, off + i * 9 + 3, none⟩ = some (.int .i64 p.mr) ∧ w.cell? ⟨b, off + i * 9 + 4, none⟩ = some (.int .i64 p.cw) ∧ w.cell? ⟨b, off + i * 9 + 5, none⟩ = some (.int .i64 p.ch) ∧ w.cell? ⟨b, off + i * 9 + 6, none⟩ = some (.int .i64 p.sk) ∧ w.cell? ⟨b, off + i * 9 + 7, none⟩ = some (.int .i64 p.px) ∧ w.cell? ⟨b, off + i * 9 + 8, none⟩ = some (.int .i64 p.py)
theorem CeV.keep {w w' : World} {A : Option Addr} {L : List Ce} (h : CeV w A L) (hb : Below w.heap.size w w') : CeV w' A L :=
  ⟨fun h0 => let ⟨b, off, e, hl, hp⟩ := h.cells h0; ⟨b, off, e, Nat.lt_of_lt_of_le hl hb.size, fun i p hi => by
    obtain ⟨c0, c1, c2, c3, c4, c5, c6, c7, c8⟩ := hp i p hi
    exact ⟨(hb.cell (p := ⟨b, off + i * 9, none⟩) hl).trans c0, (hb.cell (p := ⟨b, off + i * 9 + 1, none⟩) hl).trans c1, (hb.cell (p := ⟨b, off + i * 9 + 2, none⟩) hl).trans c2, (hb.cell (p := ⟨b, off + i * 9 + 3, none⟩) hl).trans c3, (hb.cell (p := ⟨b, off + i * 9 + 4, none⟩) hl).trans c4, (hb.cell (p := ⟨b, off + i * 9 + 5, none⟩) hl).trans c5, (hb.cell (p := ⟨b, off + i * 9 + 6, none⟩) hl).trans c6, (hb.cell (p := ⟨b, off + i * 9 + 7, none⟩) hl).trans c7, (hb.cell (p := ⟨b, off + i * 9 + 8, none⟩) hl).trans c8⟩⟩⟩
theorem CeV.nil (w : World) (A : Option Addr) : CeV w A [] := ⟨fun h => absurd h (by simp)⟩
/-- what a new block holds -/
def CeB (w : World) (g : Nat) (L : List Ce) : Prop := ∃ cs : Array Value, w.heap[g]? = some (.cells cs 34 (0, 0)) ∧ cs.size = L.length * 9 ∧ ∀ i p, L[i]? = some p → InS cs (i * 9) (valsCe p)
theorem CeB.v {w : World} {g : Nat} {L : List Ce} (h : CeB w g L) : CeV w (some ⟨g, 0, none⟩) L := by
  obtain ⟨cs, hh, hs, hc⟩ := h
  refine ⟨fun _ => ⟨g, 0, rfl, ltS hh, fun i p hp => ?_⟩⟩
  have hi := hc i p hp
  simp only [Nat.zero_add]
  exact ⟨(cellS hh _).trans (hi 0 _ rfl), (cellS hh _).trans (hi 1 _ rfl), (cellS hh _).trans (hi 2 _ rfl), (cellS hh _).trans (hi 3 _ rfl), (cellS hh _).trans (hi 4 _ rfl), (cellS hh _).trans (hi 5 _ rfl), (cellS hh _).trans (hi 6 _ rfl), (cellS hh _).trans (hi 7 _ rfl), (cellS hh _).trans (hi 8 _ rfl)⟩
theorem CeB.lt {w : World} {g : Nat} {L : List Ce} (h : CeB w g L) : g < w.heap.size := by obtain ⟨cs, hh, _⟩ := h; exact ltS hh
theorem CeB.keep {w w' : World} {g : Nat} {L : List Ce} (h : CeB w g L) (hb : Below w.heap.size w w') : CeB w' g L := by
  obtain ⟨cs, hh, hs, hc⟩ := h
  exact ⟨cs, (hb.block g (ltS hh)).trans hh, hs, hc⟩
theorem CeB.but {w w' : World} {g h : Nat} {L : List Ce} (hi : CeB w h L) (hg : w.grownBy w' (some g)) (hne : h ≠ g) : CeB w' h L := by
  obtain ⟨cs, hh, hs, hc⟩ := hi
  exact ⟨cs, (hg.block h (ltS hh) (fun e => hne (Option.some.inj e))).trans hh, hs, hc⟩
end Go.Proofs.YtgdkionmeacalabGreat
end
section
namespace Go.Proofs.YtgdkionmeacalabGreat
open Go.RowKit
set_option linter.unusedVariables false
set_option maxHeartbeats 1000000
attribute [local go_sem] growUpon_value growUpon_skip growUpon_enter
theorem wp_genGC {P : Program} {c : Code} {Q : Exit → Act → World → Prop} {a : Act} {W : World} (F : World → Prop) (hF : F W) (h : ∀ W0, F W0 → c.wp P Q a W0) : c.wp P Q a W := h W hF
theorem bp_genGC {P : Program} {f : Func} {R : Ending → World → Prop} {e : Exit} {a : Act} {W : World} (F : World → Prop) (hF : F W) (h : ∀ W0, F W0 → bodyPost P f R e a W0) : bodyPost P f R e a W := h W hF
theorem put9gc {w : World} {b : Nat} {a0 a1 a2 a3 a4 a5 a6 a7 a8 : Value} {T : TypeId} {fz : Nat × Nat} (h : w.heap[b]? = some (.cells #[a0, a1, a2, a3, a4, a5, a6, a7, a8] T fz)) (x0 x1 x2 x3 x4 x5 x6 x7 x8 : Value) :
    (((((((((w.setCell ⟨b, 0, none⟩ x0).setCell ⟨b, 1, none⟩ x1).setCell ⟨b, 2, none⟩ x2).setCell ⟨b, 3, none⟩ x3).setCell ⟨b, 4, none⟩ x4).setCell ⟨b, 5, none⟩ x5).setCell ⟨b, 6, none⟩ x6).setCell ⟨b, 7, none⟩ x7).setCell ⟨b, 8, none⟩ x8).heap[b]? = some (.cells #[x0, x1, x2, x3, x4, x5, x6, x7, x8] T fz) := by
  replace h := putS (i := 0) h x0
  simp only [List.setIfInBounds_toArray, List.set_cons_succ, List.set_cons_zero] at h
  replace h := putS (i := 1) h x1
  simp only [List.setIfInBounds_toArray, List.set_cons_succ, List.set_cons_zero] at h
  replace h := putS (i := 2) h x2
  simp only [List.setIfInBounds_toArray, List.set_cons_succ, List.set_cons_zero] at h
  replace h := putS (i := 3) h x3
  simp only [List.setIfInBounds_toArray, List.set_cons_succ, List.set_cons_zero] at h
  replace h := putS (i := 4) h x4
  simp only [List.setIfInBounds_toArray, List.set_cons_succ, List.set_cons_zero] at h
  replace h := putS (i := 5) h x5
  simp only [List.setIfInBounds_toArray, List.set_cons_succ, List.set_cons_zero] at h
  replace h := putS (i := 6) h x6
  simp only [List.setIfInBounds_toArray, List.set_cons_succ, List.set_cons_zero] at h
  replace h := putS (i := 7) h x7
  simp only [List.setIfInBounds_toArray, List.set_cons_succ, List.set_cons_zero] at h
  replace h := putS (i := 8) h x8
  simp only [List.setIfInBounds_toArray, List.set_cons_succ, List.set_cons_zero] at h
  exact h
theorem put9g2 {w : World} {b : Nat} {a0 a1 a2 a3 a4 a5 a6 a7 a8 : Value} {T : TypeId} {fz : Nat × Nat} (h : w.heap[b]? = some (.cells #[a0, a1, a2, a3, a4, a5, a6, a7, a8] T fz)) (u : Value) : (w.setCell ⟨b, 2, none⟩ u).heap[b]? = some (.cells #[a0, a1, u, a3, a4, a5, a6, a7, a8] T fz) := by
  replace h := putS (i := 2) h u
  simpa only [List.setIfInBounds_toArray, List.set_cons_succ, List.set_cons_zero] using h
theorem put9g3 {w : World} {b : Nat} {a0 a1 a2 a3 a4 a5 a6 a7 a8 : Value} {T : TypeId} {fz : Nat × Nat} (h : w.heap[b]? = some (.cells #[a0, a1, a2, a3, a4, a5, a6, a7, a8] T fz)) (u : Value) : (w.setCell ⟨b, 3, none⟩ u).heap[b]? = some (.cells #[a0, a1, a2, u, a4, a5, a6, a7, a8] T fz) := by
  replace h := putS (i := 3) h u
  simpa only [List.setIfInBounds_toArray, List.set_cons_succ, List.set_cons_zero] using h
theorem put9g7 {w : World} {b : Nat} {a0 a1 a2 a3 a4 a5 a6 a7 a8 : Value} {T : TypeId} {fz : Nat × Nat} (h : w.heap[b]? = some (.cells #[a0, a1, a2, a3, a4, a5, a6, a7, a8] T fz)) (u : Value) : (w.setCell ⟨b, 7, none⟩ u).heap[b]? = some (.cells #[a0, a1, a2, a3, a4, a5, a6, u, a8] T fz) := by
  replace h := putS (i := 7) h u
  simpa only [List.setIfInBounds_toArray, List.set_cons_succ, List.set_cons_zero] using h
theorem put9g8 {w : World} {b : Nat} {a0 a1 a2 a3 a4 a5 a6 a7 a8 : Value} {T : TypeId} {fz : Nat × Nat} (h : w.heap[b]? = some (.cells #[a0, a1, a2, a3, a4, a5, a6, a7, a8] T fz)) (u : Value) : (w.setCell ⟨b, 8, none⟩ u).heap[b]? = some (.cells #[a0, a1, a2, a3, a4, a5, a6, a7, u] T fz) := by
  replace h := putS (i := 8) h u
  simpa only [List.setIfInBounds_toArray, List.set_cons_succ, List.set_cons_zero] using h
theorem chg9g {S : List Nat} {a w : World} {b : Nat} (h : Chg S a w) (hb : a.heap.size ≤ b) (x0 x1 x2 x3 x4 x5 x6 x7 x8 : Value) : Chg S a (((((((((w.setCell ⟨b, 0, none⟩ x0).setCell ⟨b, 1, none⟩ x1).setCell ⟨b, 2, none⟩ x2).setCell ⟨b, 3, none⟩ x3).setCell ⟨b, 4, none⟩ x4).setCell ⟨b, 5, none⟩ x5).setCell ⟨b, 6, none⟩ x6).setCell ⟨b, 7, none⟩ x7).setCell ⟨b, 8, none⟩ x8) := (((((((((h.setCell (p := ⟨b, 0, none⟩) (.inr hb) x0).setCell (p := ⟨b, 1, none⟩) (.inr hb) x1).setCell (p := ⟨b, 2, none⟩) (.inr hb) x2).setCell (p := ⟨b, 3, none⟩) (.inr hb) x3).setCell (p := ⟨b, 4, none⟩) (.inr hb) x4).setCell (p := ⟨b, 5, none⟩) (.inr hb) x5).setCell (p := ⟨b, 6, none⟩) (.inr hb) x6).setCell (p := ⟨b, 7, none⟩) (.inr hb) x7).setCell (p := ⟨b, 8, none⟩) (.inr hb) x8)
theorem rd9g {B rb b : Nat} {A : Option Addr} {n c m : Nat} {w : World} (h : Rd B rb A n c m w) (hB : B ≤ b) (hb : b ≠ rb) (x0 x1 x2 x3 x4 x5 x6 x7 x8 : Value) : Rd B rb A n c m (((((((((w.setCell ⟨b, 0, none⟩ x0).setCell ⟨b, 1, none⟩ x1).setCell ⟨b, 2, none⟩ x2).setCell ⟨b, 3, none⟩ x3).setCell ⟨b, 4, none⟩ x4).setCell ⟨b, 5, none⟩ x5).setCell ⟨b, 6, none⟩ x6).setCell ⟨b, 7, none⟩ x7).setCell ⟨b, 8, none⟩ x8) := (((((((((h.setCell (p := ⟨b, 0, none⟩) hB hb x0).setCell (p := ⟨b, 1, none⟩) hB hb x1).setCell (p := ⟨b, 2, none⟩) hB hb x2).setCell (p := ⟨b, 3, none⟩) hB hb x3).setCell (p := ⟨b, 4, none⟩) hB hb x4).setCell (p := ⟨b, 5, none⟩) hB hb x5).setCell (p := ⟨b, 6, none⟩) hB hb x6).setCell (p := ⟨b, 7, none⟩) hB hb x7).setCell (p := ⟨b, 8, none⟩) hB hb x8)
set_option maxRecDepth 100000 in
theorem goodCell_any {B rb : Nat} {A : Option Addr} {l c m : Nat} (n1 n2 : Nat) (w : World) (h : Rd B rb A l c m w) (hm : m ≤ 600000) (h1 : 1 ≤ n1) (h15 : n1 ≤ 5) (h2 : 1 ≤ n2) (h25 : n2 ≤ 5) :
    Calls Tryz.prog 101 #[.pointer (some ⟨rb, 0, none⟩), .int .i64 (n1 : Int), .int .i64 (n2 : Int)] w fun e w' => (∃ p : Ce, e = .returned (.agg #[.int .i64 p.co, .int .i64 p.ro, .int .i64 p.mc, .int .i64 p.mr, .int .i64 p.cw, .int .i64 p.ch, .int .i64 p.sk, .int .i64 p.px, .int .i64 p.py])) ∧ Rd B rb A l c (m + 20) w' ∧ Chg [rb] w w' := by
  have hlt := h.lt
  have hBrb := h.base
  go_enter Tryz.func101, Tryz.ntmps101
  go_upto_region 1 with (fail)
  refine wp_genGC (fun W => W.heap[w.heap.size]? = some (.cells #[.int .i64 0, .int .i64 0, .int .i64 0, .int .i64 0, .int .i64 0, .int .i64 0, .int .i64 0, .int .i64 0, .int .i64 0] 34 (0, 0)) ∧ Rd B rb A l c m W ∧ Chg [rb] w W ∧ w.heap.size < W.heap.size) ⟨newS _ _, h.alloc _, (Chg.refl _ _).alloc _, by simp⟩ (fun W0 h0 => ?_)
  obtain ⟨hz, hr0, hc0, hs0⟩ := h0
  have HZ := Lib.hid hz
  have HC := Lib.hid hc0
  clear hz hc0

  go_wp2_with fail
  with_reducible refine (pick_any (n1 : Int) _ hr0 (by omega)).mono ?_
  rintro e w1 ⟨⟨v1, rfl, hp⟩, hr1, hc1⟩
  obtain ⟨v1a, v1b⟩ := hp (by omega)
  replace HZ := Lib.hid ((hc1.block _ (ltS HZ.out) (by simp; omega)).trans HZ.out)
  have hs1 := hc1.size
  replace HC := Lib.hid (HC.out.trans hc1)
  clear hc1
  clear hp
  go_wp2_with fail
  with_reducible refine (pick_any (n2 : Int) _ hr1 (by omega)).mono ?_
  rintro e w2 ⟨⟨v2, rfl, hp⟩, hr2, hc2⟩
  obtain ⟨v2a, v2b⟩ := hp (by omega)
  replace HZ := Lib.hid ((hc2.block _ (ltS HZ.out) (by simp; omega)).trans HZ.out)
  have hs2 := hc2.size
  replace HC := Lib.hid (HC.out.trans hc2)
  clear hc2
  clear hp
  go_wp2_with fail
  with_reducible refine (one_lit_in (0) 30 _ hr2 (by omega) (by simp) (by omega) (by omega) (by simp [isIn])).mono ?_
  rintro e w3 ⟨⟨z3, rfl, z3a, z3b⟩, hr3, hc3⟩
  replace HZ := Lib.hid ((hc3.block _ (ltS HZ.out) (by simp; omega)).trans HZ.out)
  have hs3 := hc3.size
  replace HC := Lib.hid (HC.out.trans hc3)
  clear hc3
  go_wp2_with fail
  with_reducible refine (one_lit_in (0) 30 _ hr3 (by omega) (by simp) (by omega) (by omega) (by simp [isIn])).mono ?_
  rintro e w4 ⟨⟨z4, rfl, z4a, z4b⟩, hr4, hc4⟩
  replace HZ := Lib.hid ((hc4.block _ (ltS HZ.out) (by simp; omega)).trans HZ.out)
  have hs4 := hc4.size
  replace HC := Lib.hid (HC.out.trans hc4)
  clear hc4
  go_wp2_with fail
  with_reducible refine (pick_any 16 _ hr4 (by omega)).mono ?_
  rintro e w5 ⟨⟨v5, rfl, hp⟩, hr5, hc5⟩
  obtain ⟨v5a, v5b⟩ := hp (by omega)
  replace HZ := Lib.hid ((hc5.block _ (ltS HZ.out) (by simp; omega)).trans HZ.out)
  have hs5 := hc5.size
  replace HC := Lib.hid (HC.out.trans hc5)
  clear hc5
  clear hp
  go_wp2_with fail
  with_reducible refine (one_lit_in (0) 15 _ hr5 (by omega) (by simp) (by omega) (by omega) (by simp [isIn]; omega)).mono ?_
  rintro e w6 ⟨⟨z6, rfl, z6a, z6b⟩, hr6, hc6⟩
  replace HZ := Lib.hid ((hc6.block _ (ltS HZ.out) (by simp; omega)).trans HZ.out)
  have hs6 := hc6.size
  replace HC := Lib.hid (HC.out.trans hc6)
  clear hc6
  have HR := Lib.hid hr6
  clear hr0 hr1 hr2 hr3 hr4 hr5 hr6
  have hB6 : B ≤ w6.heap.size := by omega
  have hn6 : w6.heap.size ≠ rb := by omega
  have hn60 : w.heap.size ≠ w6.heap.size := by omega
  go_upto_region 2 with (fail)
  refine wp_genGC (fun W => W.heap[w6.heap.size]? = some (.cells #[.int .i64 v1, .int .i64 v2, .int .i64 0, .int .i64 0, .int .i64 z3, .int .i64 z4, .int .i64 z6, .int .i64 0, .int .i64 0] 34 (0, 0)) ∧ W.heap[w.heap.size]? = some (.cells #[.int .i64 0, .int .i64 0, .int .i64 0, .int .i64 0, .int .i64 0, .int .i64 0, .int .i64 0, .int .i64 0, .int .i64 0] 34 (0, 0)) ∧ Rd B rb A l c (m + 6) W ∧ Chg [rb] w W) ⟨newS _ _, (Below.heap_alloc _ _ _ (ltS HZ.out)).trans HZ.out, HR.out.alloc _, HC.out.alloc _⟩ (fun W1 h1 => ?_)
  clear HZ HR HC
  obtain ⟨hx, hz, hr, hc⟩ := h1
  have HX := Lib.hid hx
  have HZ := Lib.hid hz
  have HR := Lib.hid hr
  have HC := Lib.hid hc
  clear hx hz hr hc
  have hsw := HC.out.size
  have x2 := cellS HX.out 2
  have f2 := frozenS HX.out 2
  replace HX := Lib.hid (put9g2 HX.out (.int .i64 1))
  replace HZ := Lib.hid ((Below.heap_setCell _ ⟨w6.heap.size, 2, none⟩ (.int .i64 1) w.heap.size (by simp; omega)).trans HZ.out)
  replace HR := Lib.hid (HR.out.setCell (p := ⟨w6.heap.size, 2, none⟩) (by simp; omega) (by simp; omega) (.int .i64 1))
  replace HC := Lib.hid (HC.out.setCell (p := ⟨w6.heap.size, 2, none⟩) (.inr (by simp; omega)) (.int .i64 1))
  have x3 := cellS HX.out 3
  have f3 := frozenS HX.out 3
  replace HX := Lib.hid (put9g3 HX.out (.int .i64 1))
  replace HZ := Lib.hid ((Below.heap_setCell _ ⟨w6.heap.size, 3, none⟩ (.int .i64 1) w.heap.size (by simp; omega)).trans HZ.out)
  replace HR := Lib.hid (HR.out.setCell (p := ⟨w6.heap.size, 3, none⟩) (by simp; omega) (by simp; omega) (.int .i64 1))
  replace HC := Lib.hid (HC.out.setCell (p := ⟨w6.heap.size, 3, none⟩) (.inr (by simp; omega)) (.int .i64 1))
  go_upto_region 4 with (fail)
  refine wp_genGC (fun W => W.heap[w6.heap.size]? = some (.cells #[.int .i64 v1, .int .i64 v2, .int .i64 1, .int .i64 1, .int .i64 z3, .int .i64 z4, .int .i64 z6, .int .i64 0, .int .i64 0] 34 (0, 0)) ∧ W.heap[w.heap.size]? = some (.cells #[.int .i64 0, .int .i64 0, .int .i64 0, .int .i64 0, .int .i64 0, .int .i64 0, .int .i64 0, .int .i64 0, .int .i64 0] 34 (0, 0)) ∧ Rd B rb A l c (m + 6) W ∧ Chg [rb] w W) ⟨HX.out, HZ.out, HR.out, HC.out⟩ (fun W2 h2' => ?_)
  clear HX HZ HR HC x2 x3 f2 f3
  obtain ⟨hx, hz, hr, hc⟩ := h2'
  have HX := Lib.hid hx
  have HZ := Lib.hid hz
  have HR := Lib.hid hr
  have HC := Lib.hid hc
  clear hx hz hr hc
  go_wp2_with fail
  with_reducible refine (pick_any 3 _ HR.out (by omega)).mono ?_
  rintro e w7 ⟨⟨v7, rfl, -⟩, hr7, hc7⟩
  replace HX := Lib.hid ((hc7.block _ (ltS HX.out) (by simp; omega)).trans HX.out)
  replace HZ := Lib.hid ((hc7.block _ (ltS HZ.out) (by simp; omega)).trans HZ.out)
  replace HC := Lib.hid (HC.out.trans hc7)
  replace HR := Lib.hid hr7
  clear hr7 hc7
  by_cases hv7 : v7 = 0
  · subst hv7
    have y0 := cellS HX.out 0
    have hdn : 0 ≤ (n1 : Int) - v1 ∧ (n1 : Int) - v1 ≤ 5 := by omega
    obtain ⟨hdn0, hdn1⟩ := hdn
    go_wp2_with fail
    with_reducible refine (pick_any2 ((n1 : Int) - v1) _ HR.out (by omega)).mono ?_
    rintro e w12 ⟨⟨v12, rfl, hp, hq⟩, hr12, hc12⟩
    have hv12 : 0 ≤ v12 ∧ v12 ≤ 5 := by
      by_cases hh : 1 ≤ (n1 : Int) - v1
      · have := hp hh; omega
      · have := hq (by omega); omega
    obtain ⟨hv12a, hv12b⟩ := hv12
    replace HX := Lib.hid ((hc12.block _ (ltS HX.out) (by simp; omega)).trans HX.out)
    replace HZ := Lib.hid ((hc12.block _ (ltS HZ.out) (by simp; omega)).trans HZ.out)
    replace HC := Lib.hid (HC.out.trans hc12)
    replace HR := Lib.hid hr12
    clear hr12 hc12 hp hq y0 hdn0 hdn1
    have x2 := cellS HX.out 2
    have f2 := frozenS HX.out 2
    replace HX := Lib.hid (put9g2 HX.out (.int .i64 (1 + v12)))
    replace HZ := Lib.hid ((Below.heap_setCell _ ⟨w6.heap.size, 2, none⟩ (.int .i64 (1 + v12)) w.heap.size (by simp; omega)).trans HZ.out)
    replace HR := Lib.hid (HR.out.setCell (p := ⟨w6.heap.size, 2, none⟩) (by simp; omega) (by simp; omega) (.int .i64 (1 + v12)))
    replace HC := Lib.hid (HC.out.setCell (p := ⟨w6.heap.size, 2, none⟩) (.inr (by simp; omega)) (.int .i64 (1 + v12)))
    go_upto_region 6 with (fail)
    refine wp_genGC (fun W => W.heap[w6.heap.size]? = some (.cells #[.int .i64 v1, .int .i64 v2, .int .i64 (1 + v12), .int .i64 1, .int .i64 z3, .int .i64 z4, .int .i64 z6, .int .i64 0, .int .i64 0] 34 (0, 0)) ∧ W.heap[w.heap.size]? = some (.cells #[.int .i64 0, .int .i64 0, .int .i64 0, .int .i64 0, .int .i64 0, .int .i64 0, .int .i64 0, .int .i64 0, .int .i64 0] 34 (0, 0)) ∧ Rd B rb A l c (m + 8) W ∧ Chg [rb] w W) ⟨HX.out, HZ.out, HR.out.mono (by omega), HC.out⟩ (fun W12 h9 => ?_)
    clear HX HZ HR HC x2 f2
    obtain ⟨hx, hz, hr, hc⟩ := h9
    have HX := Lib.hid hx
    have HZ := Lib.hid hz
    have HR := Lib.hid hr
    have HC := Lib.hid hc
    clear hx hz hr hc
    have y1 := cellS HX.out 1
    have hdn : 0 ≤ (n2 : Int) - v2 ∧ (n2 : Int) - v2 ≤ 5 := by omega
    obtain ⟨hdn0, hdn1⟩ := hdn
    go_wp2_with fail
    with_reducible refine (pick_any2 ((n2 : Int) - v2) _ HR.out (by omega)).mono ?_
    rintro e w13 ⟨⟨v13, rfl, hp, hq⟩, hr13, hc13⟩
    have hv13 : 0 ≤ v13 ∧ v13 ≤ 5 := by
      by_cases hh : 1 ≤ (n2 : Int) - v2
      · have := hp hh; omega
      · have := hq (by omega); omega
    obtain ⟨hv13a, hv13b⟩ := hv13
    replace HX := Lib.hid ((hc13.block _ (ltS HX.out) (by simp; omega)).trans HX.out)
    replace HZ := Lib.hid ((hc13.block _ (ltS HZ.out) (by simp; omega)).trans HZ.out)
    replace HC := Lib.hid (HC.out.trans hc13)
    replace HR := Lib.hid hr13
    clear hr13 hc13 hp hq y1 hdn0 hdn1
    have x3 := cellS HX.out 3
    have f3 := frozenS HX.out 3
    replace HX := Lib.hid (put9g3 HX.out (.int .i64 (1 + v13)))
    replace HZ := Lib.hid ((Below.heap_setCell _ ⟨w6.heap.size, 3, none⟩ (.int .i64 (1 + v13)) w.heap.size (by simp; omega)).trans HZ.out)
    replace HR := Lib.hid (HR.out.setCell (p := ⟨w6.heap.size, 3, none⟩) (by simp; omega) (by simp; omega) (.int .i64 (1 + v13)))
    replace HC := Lib.hid (HC.out.setCell (p := ⟨w6.heap.size, 3, none⟩) (.inr (by simp; omega)) (.int .i64 (1 + v13)))
    go_upto_region 7 with (fail)
    refine wp_genGC (fun W => W.heap[w6.heap.size]? = some (.cells #[.int .i64 v1, .int .i64 v2, .int .i64 (1 + v12), .int .i64 (1 + v13), .int .i64 z3, .int .i64 z4, .int .i64 z6, .int .i64 0, .int .i64 0] 34 (0, 0)) ∧ W.heap[w.heap.size]? = some (.cells #[.int .i64 0, .int .i64 0, .int .i64 0, .int .i64 0, .int .i64 0, .int .i64 0, .int .i64 0, .int .i64 0, .int .i64 0] 34 (0, 0)) ∧ Rd B rb A l c (m + 9) W ∧ Chg [rb] w W) ⟨HX.out, HZ.out, HR.out.mono (by omega), HC.out⟩ (fun W13 h9 => ?_)
    clear HX HZ HR HC x3 f3
    obtain ⟨hx, hz, hr, hc⟩ := h9
    have HX := Lib.hid hx
    have HZ := Lib.hid hz
    have HR := Lib.hid hr
    have HC := Lib.hid hc
    clear hx hz hr hc
    go_wp2_with fail
    with_reducible refine (pick_any 3 _ HR.out (by omega)).mono ?_
    rintro e w8 ⟨⟨v8, rfl, -⟩, hr8, hc8⟩
    replace HX := Lib.hid ((hc8.block _ (ltS HX.out) (by simp; omega)).trans HX.out)
    replace HZ := Lib.hid ((hc8.block _ (ltS HZ.out) (by simp; omega)).trans HZ.out)
    replace HC := Lib.hid (HC.out.trans hc8)
    replace HR := Lib.hid hr8
    clear hr8 hc8
    by_cases hv8 : v8 = 0
    · subst hv8
      go_wp2_with fail
      with_reducible refine (pick_any 4 _ HR.out (by omega)).mono ?_
      rintro e w10 ⟨⟨v10, rfl, -⟩, hr10, hc10⟩
      replace HX := Lib.hid ((hc10.block _ (ltS HX.out) (by simp; omega)).trans HX.out)
      replace HZ := Lib.hid ((hc10.block _ (ltS HZ.out) (by simp; omega)).trans HZ.out)
      replace HC := Lib.hid (HC.out.trans hc10)
      replace HR := Lib.hid hr10
      clear hr10 hc10
      have x7 := cellS HX.out 7
      have f7 := frozenS HX.out 7
      replace HX := Lib.hid (put9g7 HX.out (.int .i64 v10))
      replace HZ := Lib.hid ((Below.heap_setCell _ ⟨w6.heap.size, 7, none⟩ (.int .i64 v10) w.heap.size (by simp; omega)).trans HZ.out)
      replace HR := Lib.hid (HR.out.setCell (p := ⟨w6.heap.size, 7, none⟩) (by simp; omega) (by simp; omega) (.int .i64 v10))
      replace HC := Lib.hid (HC.out.setCell (p := ⟨w6.heap.size, 7, none⟩) (.inr (by simp; omega)) (.int .i64 v10))
      go_upto_region 9 with (fail)
      refine wp_genGC (fun W => W.heap[w6.heap.size]? = some (.cells #[.int .i64 v1, .int .i64 v2, .int .i64 (1 + v12), .int .i64 (1 + v13), .int .i64 z3, .int .i64 z4, .int .i64 z6, .int .i64 v10, .int .i64 0] 34 (0, 0)) ∧ W.heap[w.heap.size]? = some (.cells #[.int .i64 0, .int .i64 0, .int .i64 0, .int .i64 0, .int .i64 0, .int .i64 0, .int .i64 0, .int .i64 0, .int .i64 0] 34 (0, 0)) ∧ Rd B rb A l c (m + 12) W ∧ Chg [rb] w W) ⟨HX.out, HZ.out, HR.out.mono (by omega), HC.out⟩ (fun W10 h9 => ?_)
      clear HX HZ HR HC x7 f7
      obtain ⟨hx, hz, hr, hc⟩ := h9
      have HX := Lib.hid hx
      have HZ := Lib.hid hz
      have HR := Lib.hid hr
      have HC := Lib.hid hc
      clear hx hz hr hc
      go_wp2_with fail
      with_reducible refine (pick_any 4 _ HR.out (by omega)).mono ?_
      rintro e w11 ⟨⟨v11, rfl, -⟩, hr11, hc11⟩
      replace HX := Lib.hid ((hc11.block _ (ltS HX.out) (by simp; omega)).trans HX.out)
      replace HZ := Lib.hid ((hc11.block _ (ltS HZ.out) (by simp; omega)).trans HZ.out)
      replace HC := Lib.hid (HC.out.trans hc11)
      replace HR := Lib.hid hr11
      clear hr11 hc11
      have x8 := cellS HX.out 8
      have f8 := frozenS HX.out 8
      replace HX := Lib.hid (put9g8 HX.out (.int .i64 v11))
      replace HZ := Lib.hid ((Below.heap_setCell _ ⟨w6.heap.size, 8, none⟩ (.int .i64 v11) w.heap.size (by simp; omega)).trans HZ.out)
      replace HR := Lib.hid (HR.out.setCell (p := ⟨w6.heap.size, 8, none⟩) (by simp; omega) (by simp; omega) (.int .i64 v11))
      replace HC := Lib.hid (HC.out.setCell (p := ⟨w6.heap.size, 8, none⟩) (.inr (by simp; omega)) (.int .i64 v11))
      go_upto_region 10 with (fail)
      refine wp_genGC (fun W => W.heap[w6.heap.size]? = some (.cells #[.int .i64 v1, .int .i64 v2, .int .i64 (1 + v12), .int .i64 (1 + v13), .int .i64 z3, .int .i64 z4, .int .i64 z6, .int .i64 v10, .int .i64 v11] 34 (0, 0)) ∧ W.heap[w.heap.size]? = some (.cells #[.int .i64 0, .int .i64 0, .int .i64 0, .int .i64 0, .int .i64 0, .int .i64 0, .int .i64 0, .int .i64 0, .int .i64 0] 34 (0, 0)) ∧ Rd B rb A l c (m + 13) W ∧ Chg [rb] w W) ⟨HX.out, HZ.out, HR.out.mono (by omega), HC.out⟩ (fun W11 h9 => ?_)
      clear HX HZ HR HC x8 f8
      obtain ⟨hx, hz, hr, hc⟩ := h9
      have HX := Lib.hid hx
      have HZ := Lib.hid hz
      have HR := Lib.hid hr
      have HC := Lib.hid hc
      clear hx hz hr hc
      have y0 := cellS HX.out 0
      have y1 := cellS HX.out 1
      have y2 := cellS HX.out 2
      have y3 := cellS HX.out 3
      have y4 := cellS HX.out 4
      have y5 := cellS HX.out 5
      have y6 := cellS HX.out 6
      have y7 := cellS HX.out 7
      have y8 := cellS HX.out 8
      have u0 := cellS HZ.out 0
      have u1 := cellS HZ.out 1
      have u2 := cellS HZ.out 2
      have u3 := cellS HZ.out 3
      have u4 := cellS HZ.out 4
      have u5 := cellS HZ.out 5
      have u6 := cellS HZ.out 6
      have u7 := cellS HZ.out 7
      have u8 := cellS HZ.out 8
      have g0 := frozenS HZ.out 0
      have g1 := frozenS HZ.out 1
      have g2 := frozenS HZ.out 2
      have g3 := frozenS HZ.out 3
      have g4 := frozenS HZ.out 4
      have g5 := frozenS HZ.out 5
      have g6 := frozenS HZ.out 6
      have g7 := frozenS HZ.out 7
      have g8 := frozenS HZ.out 8
      have hzl := ltS HZ.out
      have E1 := Lib.hid (put9gc HZ.out (.int .i64 v1) (.int .i64 v2) (.int .i64 (1 + v12)) (.int .i64 (1 + v13)) (.int .i64 z3) (.int .i64 z4) (.int .i64 z6) (.int .i64 v10) (.int .i64 v11))
      go_wp2
      refine bp_genGC (fun W => W.heap[w.heap.size]? = some (.cells #[.int .i64 v1, .int .i64 v2, .int .i64 (1 + v12), .int .i64 (1 + v13), .int .i64 z3, .int .i64 z4, .int .i64 z6, .int .i64 v10, .int .i64 v11] 34 (0, 0)) ∧ Rd B rb A l c (m + 20) W ∧ Chg [rb] w W) ⟨E1.out, rd9g (HR.out.mono (by omega)) (by omega) (by omega) _ _ _ _ _ _ _ _ _, chg9g HC.out (Nat.le_refl _) _ _ _ _ _ _ _ _ _⟩ ?_
      clear HX HZ HR HC E1 y0 y1 y2 y3 y4 y5 y6 y7 y8 u0 u1 u2 u3 u4 u5 u6 u7 u8 g0 g1 g2 g3 g4 g5 g6 g7 g8
      rintro W ⟨hp, hrW, hcW⟩
      have q0 := cellS hp 0
      have q1 := cellS hp 1
      have q2 := cellS hp 2
      have q3 := cellS hp 3
      have q4 := cellS hp 4
      have q5 := cellS hp 5
      have q6 := cellS hp 6
      have q7 := cellS hp 7
      have q8 := cellS hp 8
      exact bodyPost_ret (v := .agg #[.int .i64 v1, .int .i64 v2, .int .i64 (1 + v12), .int .i64 (1 + v13), .int .i64 z3, .int .i64 z4, .int .i64 z6, .int .i64 v10, .int .i64 v11]) (by simp only [results, Tryz.results101]; go_simp) rfl ⟨⟨⟨v1, v2, 1 + v12, 1 + v13, z3, z4, z6, v10, v11⟩, rfl⟩, hrW, hcW⟩
    · have e8 : (v8 == 0) = false := by simpa using hv8
      have y0 := cellS HX.out 0
      have y1 := cellS HX.out 1
      have y2 := cellS HX.out 2
      have y3 := cellS HX.out 3
      have y4 := cellS HX.out 4
      have y5 := cellS HX.out 5
      have y6 := cellS HX.out 6
      have y7 := cellS HX.out 7
      have y8 := cellS HX.out 8
      have u0 := cellS HZ.out 0
      have u1 := cellS HZ.out 1
      have u2 := cellS HZ.out 2
      have u3 := cellS HZ.out 3
      have u4 := cellS HZ.out 4
      have u5 := cellS HZ.out 5
      have u6 := cellS HZ.out 6
      have u7 := cellS HZ.out 7
      have u8 := cellS HZ.out 8
      have g0 := frozenS HZ.out 0
      have g1 := frozenS HZ.out 1
      have g2 := frozenS HZ.out 2
      have g3 := frozenS HZ.out 3
      have g4 := frozenS HZ.out 4
      have g5 := frozenS HZ.out 5
      have g6 := frozenS HZ.out 6
      have g7 := frozenS HZ.out 7
      have g8 := frozenS HZ.out 8
      have hzl := ltS HZ.out
      have E1 := Lib.hid (put9gc HZ.out (.int .i64 v1) (.int .i64 v2) (.int .i64 (1 + v12)) (.int .i64 (1 + v13)) (.int .i64 z3) (.int .i64 z4) (.int .i64 z6) (.int .i64 0) (.int .i64 0))
      go_wp2
      refine bp_genGC (fun W => W.heap[w.heap.size]? = some (.cells #[.int .i64 v1, .int .i64 v2, .int .i64 (1 + v12), .int .i64 (1 + v13), .int .i64 z3, .int .i64 z4, .int .i64 z6, .int .i64 0, .int .i64 0] 34 (0, 0)) ∧ Rd B rb A l c (m + 20) W ∧ Chg [rb] w W) ⟨E1.out, rd9g (HR.out.mono (by omega)) (by omega) (by omega) _ _ _ _ _ _ _ _ _, chg9g HC.out (Nat.le_refl _) _ _ _ _ _ _ _ _ _⟩ ?_
      clear HX HZ HR HC E1 y0 y1 y2 y3 y4 y5 y6 y7 y8 u0 u1 u2 u3 u4 u5 u6 u7 u8 g0 g1 g2 g3 g4 g5 g6 g7 g8
      rintro W ⟨hp, hrW, hcW⟩
      have q0 := cellS hp 0
      have q1 := cellS hp 1
      have q2 := cellS hp 2
      have q3 := cellS hp 3
      have q4 := cellS hp 4
      have q5 := cellS hp 5
      have q6 := cellS hp 6
      have q7 := cellS hp 7
      have q8 := cellS hp 8
      exact bodyPost_ret (v := .agg #[.int .i64 v1, .int .i64 v2, .int .i64 (1 + v12), .int .i64 (1 + v13), .int .i64 z3, .int .i64 z4, .int .i64 z6, .int .i64 0, .int .i64 0]) (by simp only [results, Tryz.results101]; go_simp) rfl ⟨⟨⟨v1, v2, 1 + v12, 1 + v13, z3, z4, z6, 0, 0⟩, rfl⟩, hrW, hcW⟩
  · have e7 : (v7 == 0) = false := by simpa using hv7
    go_wp2_with fail
    with_reducible refine (pick_any 3 _ HR.out (by omega)).mono ?_
    rintro e w8 ⟨⟨v8, rfl, -⟩, hr8, hc8⟩
    replace HX := Lib.hid ((hc8.block _ (ltS HX.out) (by simp; omega)).trans HX.out)
    replace HZ := Lib.hid ((hc8.block _ (ltS HZ.out) (by simp; omega)).trans HZ.out)
    replace HC := Lib.hid (HC.out.trans hc8)
    replace HR := Lib.hid hr8
    clear hr8 hc8
    by_cases hv8 : v8 = 0
    · subst hv8
      go_wp2_with fail
      with_reducible refine (pick_any 4 _ HR.out (by omega)).mono ?_
      rintro e w10 ⟨⟨v10, rfl, -⟩, hr10, hc10⟩
      replace HX := Lib.hid ((hc10.block _ (ltS HX.out) (by simp; omega)).trans HX.out)
      replace HZ := Lib.hid ((hc10.block _ (ltS HZ.out) (by simp; omega)).trans HZ.out)
      replace HC := Lib.hid (HC.out.trans hc10)
      replace HR := Lib.hid hr10
      clear hr10 hc10
      have x7 := cellS HX.out 7
      have f7 := frozenS HX.out 7
      replace HX := Lib.hid (put9g7 HX.out (.int .i64 v10))
      replace HZ := Lib.hid ((Below.heap_setCell _ ⟨w6.heap.size, 7, none⟩ (.int .i64 v10) w.heap.size (by simp; omega)).trans HZ.out)
      replace HR := Lib.hid (HR.out.setCell (p := ⟨w6.heap.size, 7, none⟩) (by simp; omega) (by simp; omega) (.int .i64 v10))
      replace HC := Lib.hid (HC.out.setCell (p := ⟨w6.heap.size, 7, none⟩) (.inr (by simp; omega)) (.int .i64 v10))
      go_upto_region 9 with (fail)
      refine wp_genGC (fun W => W.heap[w6.heap.size]? = some (.cells #[.int .i64 v1, .int .i64 v2, .int .i64 1, .int .i64 1, .int .i64 z3, .int .i64 z4, .int .i64 z6, .int .i64 v10, .int .i64 0] 34 (0, 0)) ∧ W.heap[w.heap.size]? = some (.cells #[.int .i64 0, .int .i64 0, .int .i64 0, .int .i64 0, .int .i64 0, .int .i64 0, .int .i64 0, .int .i64 0, .int .i64 0] 34 (0, 0)) ∧ Rd B rb A l c (m + 10) W ∧ Chg [rb] w W) ⟨HX.out, HZ.out, HR.out.mono (by omega), HC.out⟩ (fun W10 h9 => ?_)
      clear HX HZ HR HC x7 f7
      obtain ⟨hx, hz, hr, hc⟩ := h9
      have HX := Lib.hid hx
      have HZ := Lib.hid hz
      have HR := Lib.hid hr
      have HC := Lib.hid hc
      clear hx hz hr hc
      go_wp2_with fail
      with_reducible refine (pick_any 4 _ HR.out (by omega)).mono ?_
      rintro e w11 ⟨⟨v11, rfl, -⟩, hr11, hc11⟩
      replace HX := Lib.hid ((hc11.block _ (ltS HX.out) (by simp; omega)).trans HX.out)
      replace HZ := Lib.hid ((hc11.block _ (ltS HZ.out) (by simp; omega)).trans HZ.out)
      replace HC := Lib.hid (HC.out.trans hc11)
      replace HR := Lib.hid hr11
      clear hr11 hc11
      have x8 := cellS HX.out 8
      have f8 := frozenS HX.out 8
      replace HX := Lib.hid (put9g8 HX.out (.int .i64 v11))
      replace HZ := Lib.hid ((Below.heap_setCell _ ⟨w6.heap.size, 8, none⟩ (.int .i64 v11) w.heap.size (by simp; omega)).trans HZ.out)
      replace HR := Lib.hid (HR.out.setCell (p := ⟨w6.heap.size, 8, none⟩) (by simp; omega) (by simp; omega) (.int .i64 v11))
      replace HC := Lib.hid (HC.out.setCell (p := ⟨w6.heap.size, 8, none⟩) (.inr (by simp; omega)) (.int .i64 v11))
      go_upto_region 10 with (fail)
      refine wp_genGC (fun W => W.heap[w6.heap.size]? = some (.cells #[.int .i64 v1, .int .i64 v2, .int .i64 1, .int .i64 1, .int .i64 z3, .int .i64 z4, .int .i64 z6, .int .i64 v10, .int .i64 v11] 34 (0, 0)) ∧ W.heap[w.heap.size]? = some (.cells #[.int .i64 0, .int .i64 0, .int .i64 0, .int .i64 0, .int .i64 0, .int .i64 0, .int .i64 0, .int .i64 0, .int .i64 0] 34 (0, 0)) ∧ Rd B rb A l c (m + 11) W ∧ Chg [rb] w W) ⟨HX.out, HZ.out, HR.out.mono (by omega), HC.out⟩ (fun W11 h9 => ?_)
      clear HX HZ HR HC x8 f8
      obtain ⟨hx, hz, hr, hc⟩ := h9
      have HX := Lib.hid hx
      have HZ := Lib.hid hz
      have HR := Lib.hid hr
      have HC := Lib.hid hc
      clear hx hz hr hc
      have y0 := cellS HX.out 0
      have y1 := cellS HX.out 1
      have y2 := cellS HX.out 2
      have y3 := cellS HX.out 3
      have y4 := cellS HX.out 4
      have y5 := cellS HX.out 5
      have y6 := cellS HX.out 6
      have y7 := cellS HX.out 7
      have y8 := cellS HX.out 8
      have u0 := cellS HZ.out 0
      have u1 := cellS HZ.out 1
      have u2 := cellS HZ.out 2
      have u3 := cellS HZ.out 3
      have u4 := cellS HZ.out 4
      have u5 := cellS HZ.out 5
      have u6 := cellS HZ.out 6
      have u7 := cellS HZ.out 7
      have u8 := cellS HZ.out 8
      have g0 := frozenS HZ.out 0
      have g1 := frozenS HZ.out 1
      have g2 := frozenS HZ.out 2
      have g3 := frozenS HZ.out 3
      have g4 := frozenS HZ.out 4
      have g5 := frozenS HZ.out 5
      have g6 := frozenS HZ.out 6
      have g7 := frozenS HZ.out 7
      have g8 := frozenS HZ.out 8
      have hzl := ltS HZ.out
      have E1 := Lib.hid (put9gc HZ.out (.int .i64 v1) (.int .i64 v2) (.int .i64 1) (.int .i64 1) (.int .i64 z3) (.int .i64 z4) (.int .i64 z6) (.int .i64 v10) (.int .i64 v11))
      go_wp2
      refine bp_genGC (fun W => W.heap[w.heap.size]? = some (.cells #[.int .i64 v1, .int .i64 v2, .int .i64 1, .int .i64 1, .int .i64 z3, .int .i64 z4, .int .i64 z6, .int .i64 v10, .int .i64 v11] 34 (0, 0)) ∧ Rd B rb A l c (m + 20) W ∧ Chg [rb] w W) ⟨E1.out, rd9g (HR.out.mono (by omega)) (by omega) (by omega) _ _ _ _ _ _ _ _ _, chg9g HC.out (Nat.le_refl _) _ _ _ _ _ _ _ _ _⟩ ?_
      clear HX HZ HR HC E1 y0 y1 y2 y3 y4 y5 y6 y7 y8 u0 u1 u2 u3 u4 u5 u6 u7 u8 g0 g1 g2 g3 g4 g5 g6 g7 g8
      rintro W ⟨hp, hrW, hcW⟩
      have q0 := cellS hp 0
      have q1 := cellS hp 1
      have q2 := cellS hp 2
      have q3 := cellS hp 3
      have q4 := cellS hp 4
      have q5 := cellS hp 5
      have q6 := cellS hp 6
      have q7 := cellS hp 7
      have q8 := cellS hp 8
      exact bodyPost_ret (v := .agg #[.int .i64 v1, .int .i64 v2, .int .i64 1, .int .i64 1, .int .i64 z3, .int .i64 z4, .int .i64 z6, .int .i64 v10, .int .i64 v11]) (by simp only [results, Tryz.results101]; go_simp) rfl ⟨⟨⟨v1, v2, 1, 1, z3, z4, z6, v10, v11⟩, rfl⟩, hrW, hcW⟩
    · have e8 : (v8 == 0) = false := by simpa using hv8
      have y0 := cellS HX.out 0
      have y1 := cellS HX.out 1
      have y2 := cellS HX.out 2
      have y3 := cellS HX.out 3
      have y4 := cellS HX.out 4
      have y5 := cellS HX.out 5
      have y6 := cellS HX.out 6
      have y7 := cellS HX.out 7
      have y8 := cellS HX.out 8
      have u0 := cellS HZ.out 0
      have u1 := cellS HZ.out 1
      have u2 := cellS HZ.out 2
      have u3 := cellS HZ.out 3
      have u4 := cellS HZ.out 4
      have u5 := cellS HZ.out 5
      have u6 := cellS HZ.out 6
      have u7 := cellS HZ.out 7
      have u8 := cellS HZ.out 8
      have g0 := frozenS HZ.out 0
      have g1 := frozenS HZ.out 1
      have g2 := frozenS HZ.out 2
      have g3 := frozenS HZ.out 3
      have g4 := frozenS HZ.out 4
      have g5 := frozenS HZ.out 5
      have g6 := frozenS HZ.out 6
      have g7 := frozenS HZ.out 7
      have g8 := frozenS HZ.out 8
      have hzl := ltS HZ.out
      have E1 := Lib.hid (put9gc HZ.out (.int .i64 v1) (.int .i64 v2) (.int .i64 1) (.int .i64 1) (.int .i64 z3) (.int .i64 z4) (.int .i64 z6) (.int .i64 0) (.int .i64 0))
      go_wp2
      refine bp_genGC (fun W => W.heap[w.heap.size]? = some (.cells #[.int .i64 v1, .int .i64 v2, .int .i64 1, .int .i64 1, .int .i64 z3, .int .i64 z4, .int .i64 z6, .int .i64 0, .int .i64 0] 34 (0, 0)) ∧ Rd B rb A l c (m + 20) W ∧ Chg [rb] w W) ⟨E1.out, rd9g (HR.out.mono (by omega)) (by omega) (by omega) _ _ _ _ _ _ _ _ _, chg9g HC.out (Nat.le_refl _) _ _ _ _ _ _ _ _ _⟩ ?_
      clear HX HZ HR HC E1 y0 y1 y2 y3 y4 y5 y6 y7 y8 u0 u1 u2 u3 u4 u5 u6 u7 u8 g0 g1 g2 g3 g4 g5 g6 g7 g8
      rintro W ⟨hp, hrW, hcW⟩
      have q0 := cellS hp 0
      have q1 := cellS hp 1
      have q2 := cellS hp 2
      have q3 := cellS hp 3
      have q4 := cellS hp 4
      have q5 := cellS hp 5
      have q6 := cellS hp 6
      have q7 := cellS hp 7
      have q8 := cellS hp 8
      exact bodyPost_ret (v := .agg #[.int .i64 v1, .int .i64 v2, .int .i64 1, .int .i64 1, .int .i64 z3, .int .i64 z4, .int .i64 z6, .int .i64 0, .int .i64 0]) (by simp only [results, Tryz.results101]; go_simp) rfl ⟨⟨⟨v1, v2, 1, 1, z3, z4, z6, 0, 0⟩, rfl⟩, hrW, hcW⟩
end Go.Proofs.YtgdkionmeacalabGreat
end
section
set_option linter.unusedVariables false
namespace Go.Proofs.YtgdkionmeacalabGreat
/-- an item that is placed -/
structure Plc where
  x : Int
  y : Int
  rx : Int
  ry : Int
  ww : Int
  hh : Int
  qw : Int
  qh : Int
  an : Int
def shB (n : Int) : Bool := rng n (-300) 300
def reB (n : Int) : Bool := rng n 0 1000
def plB (p : Plc) : Bool := [p.x, p.y, p.ww, p.hh].all shB && ([p.rx, p.ry, p.qw, p.qh].all reB && rng p.an 0 8)
theorem plB_iff {p : Plc} : plB p = true ↔ ((-300 ≤ p.x ∧ p.x ≤ 300) ∧ (-300 ≤ p.y ∧ p.y ≤ 300) ∧ (0 ≤ p.rx ∧ p.rx ≤ 1000) ∧ (0 ≤ p.ry ∧ p.ry ≤ 1000) ∧ (-300 ≤ p.ww ∧ p.ww ≤ 300) ∧ (-300 ≤ p.hh ∧ p.hh ≤ 300) ∧ (0 ≤ p.qw ∧ p.qw ≤ 1000) ∧ (0 ≤ p.qh ∧ p.qh ≤ 1000) ∧ (0 ≤ p.an ∧ p.an ≤ 8)) := by
  simp only [plB, shB, reB, List.all_cons, List.all_nil, Bool.and_true, Bool.and_eq_true, rng_iff]
  omega
/-- so many thousandths -/
def thM (m s : Int) : Int := m * s / 1000
/-- the sizes and the place -/
def wM (p : Plc) (w : Int) : Int := mx (p.ww + thM p.qw w) 0
def hM (p : Plc) (h : Int) : Int := mx (p.hh + thM p.qh h) 0
def xM (p : Plc) (w : Int) : Int := p.x + thM p.rx w - wM p w * (p.an % 3) / 2
def yM (p : Plc) (h : Int) : Int := p.y + thM p.ry h - hM p h * (p.an / 3) / 2
def rqB (w h : Int) : Bool := rng w 0 400 && rng h 0 400
def prB (p : Plc) (w h : Int) : Bool := plB p && rqB w h
/-- all that the walks want to know of sizes -/
structure PlBd (p : Plc) (w h : Int) : Prop where
  t1 : 0 ≤ thM p.rx w ∧ thM p.rx w ≤ 400
  t2 : 0 ≤ thM p.ry h ∧ thM p.ry h ≤ 400
  t3 : 0 ≤ thM p.qw w ∧ thM p.qw w ≤ 400
  t4 : 0 ≤ thM p.qh h ∧ thM p.qh h ≤ 400
  w1 : 0 ≤ wM p w ∧ wM p w ≤ 700
  h1 : 0 ≤ hM p h ∧ hM p h ≤ 700
  a1 : 0 ≤ p.an % 3 ∧ p.an % 3 ≤ 2
  a2 : 0 ≤ p.an / 3 ∧ p.an / 3 ≤ 2
  p1 : 0 ≤ wM p w * (p.an % 3) ∧ wM p w * (p.an % 3) ≤ 1400 ∧ 0 ≤ wM p w * (p.an % 3) / 2 ∧ wM p w * (p.an % 3) / 2 ≤ 700
  p2 : 0 ≤ hM p h * (p.an / 3) ∧ hM p h * (p.an / 3) ≤ 1400 ∧ 0 ≤ hM p h * (p.an / 3) / 2 ∧ hM p h * (p.an / 3) / 2 ≤ 700
theorem PlBd.x1 {p : Plc} {w h : Int} (b : PlBd p w h) (hp : plB p = true) : -1000 ≤ xM p w ∧ xM p w ≤ 700 := by
  obtain ⟨b1, _⟩ := plB_iff.1 hp
  obtain ⟨t1, t2, t3, t4, w1, h1, a1, a2, p1, p2⟩ := b
  unfold xM; omega
theorem PlBd.y1 {p : Plc} {w h : Int} (b : PlBd p w h) (hp : plB p = true) : -1000 ≤ yM p h ∧ yM p h ≤ 700 := by
  obtain ⟨_, b2, _⟩ := plB_iff.1 hp
  obtain ⟨t1, t2, t3, t4, w1, h1, a1, a2, p1, p2⟩ := b
  unfold yM; omega
/-- whether it lies inside -/
def piB (p : Plc) (w h : Int) : Bool := insB 0 0 w h (xM p w) (yM p h) (wM p w) (hM p h)
/-- the least size -/
def LeM (p : Plc) (v : Int) : Prop := (0 ≤ v ∧ v ≤ 400 ∧ piB p v v = true ∧ ∀ j : Int, 0 ≤ j → j < v → piB p j j = false) ∨ (v = -1 ∧ ∀ j : Int, 0 ≤ j → j ≤ 400 → piB p j j = false)
/-- the item that is told another place; what is fixed -/
def atM (p : Plc) (w h x y : Int) : Plc := ⟨p.x + (x - xM p w), p.y + (y - yM p h), p.rx, p.ry, p.ww, p.hh, p.qw, p.qh, p.an⟩
def fixM (p : Plc) (w h : Int) : Plc := ⟨p.x + thM p.rx w, p.y + thM p.ry h, 0, 0, wM p w, hM p h, 0, 0, p.an⟩
def paB (p : Plc) (w h x y : Int) : Bool := prB p w h && (shB x && (shB y && plB (atM p w h x y)))
def fxB (p : Plc) (w h : Int) : Bool := prB p w h && plB (fixM p w h)
end Go.Proofs.YtgdkionmeacalabGreat
namespace Go.Proofs.YtgdkionmeacalabGreat
def Sq (a b c d : Int) : Prop := (-2000 ≤ a ∧ a ≤ 2000) ∧ (-2000 ≤ b ∧ b ≤ 2000) ∧ (-2000 ≤ c ∧ c ≤ 2000) ∧ (-2000 ≤ d ∧ d ≤ 2000)
end Go.Proofs.YtgdkionmeacalabGreat
end
section
namespace Go.Proofs.YtgdkionmeacalabGreat
open Go.RowKit
set_option linter.unusedVariables false
set_option maxHeartbeats 1000000
theorem inRange_q (n a b : Int) (t : Bool) (w : World) (h : rng n a b = t) : Calls Tryz.prog 52 #[.int .i64 n, .int .i64 a, .int .i64 b] w fun e w' => e = .returned (.bool t) ∧ w = w' := by rw [← h]; exact inRange_any n a b w
theorem within_q (n a b : Int) (t : Bool) (w : World) (h : rng n a b = t) : Calls Tryz.prog 45 #[.int .i64 n, .int .i64 a, .int .i64 b] w fun e w' => e = .returned (.bool t) ∧ w = w' := by rw [← h]; exact within_any n a b w
theorem shift_t (n : Int) (t : Bool) (w : World) (h : shB n = t) : Calls Tryz.prog 106 #[.int .i64 n] w fun e w' => e = .returned (.bool t) ∧ w = w' := by
  go_enter Tryz.func106, Tryz.ntmps106
  go_wp2_with (go_at_call 45; refine (within_q _ _ _ t _ h).mono ?_; rintro e w' ⟨rfl, rfl⟩)
  go_ret
  exact ⟨rfl, rfl⟩
theorem rel_t (n : Int) (t : Bool) (w : World) (h : reB n = t) : Calls Tryz.prog 107 #[.int .i64 n] w fun e w' => e = .returned (.bool t) ∧ w = w' := by
  go_enter Tryz.func107, Tryz.ntmps107
  go_wp2_with (go_at_call 45; refine (within_q _ _ _ t _ h).mono ?_; rintro e w' ⟨rfl, rfl⟩)
  go_ret
  exact ⟨rfl, rfl⟩
theorem anch_t (k : Int) (t : Bool) (w : World) (h : rng k 0 8 = t) : Calls Tryz.prog 104 #[.int .i64 k] w fun e w' => e = .returned (.bool t) ∧ w = w' := by
  go_enter Tryz.func104, Tryz.ntmps104
  go_wp2_with (go_at_call 45; refine (within_q _ _ _ t _ h).mono ?_; rintro e w' ⟨rfl, rfl⟩)
  go_ret
  exact ⟨rfl, rfl⟩
theorem sanch_t (k : Int) (t : Bool) (w : World) (h : rng k 0 8 = t) : Calls Tryz.prog 115 #[.int .i64 k] w fun e w' => e = .returned (.bool t) ∧ w = w' := by
  go_enter Tryz.func115, Tryz.ntmps115
  go_wp2_with (go_at_call 52; refine (inRange_q _ _ _ t _ h).mono ?_; rintro e w' ⟨rfl, rfl⟩)
  go_ret
  exact ⟨rfl, rfl⟩
theorem all_snocQ {f : Int → Bool} {L : List Int} {k : Nat} {p : Int} (h : L[k]? = some p) : (L.take (k + 1)).all f = ((L.take k).all f && f p) := by
  have hk : k < L.length := (List.getElem?_eq_some_iff.1 h).1
  have e : L[k] = p := (List.getElem?_eq_some_iff.1 h).2
  rw [List.take_succ_eq_append_getElem hk, e]
  simp
theorem new_q (w : World) (o : Obj) : (w.alloc o).heap[w.heap.size]? = some o := by
  show (w.heap.push o)[w.heap.size]? = some o
  simp
theorem newq1 (w : World) (o o' : Obj) : ((w.alloc o).alloc o').heap[w.heap.size + 1]? = some o' := by
  have := new_q (w.alloc o) o'; rwa [World.size_alloc] at this
theorem newq2 (w : World) (o o' o2 : Obj) : (((w.alloc o).alloc o').alloc o2).heap[w.heap.size + 1 + 1]? = some o2 := by
  have := newq1 (w.alloc o) o' o2; rwa [World.size_alloc] at this
theorem cl_q {w : World} {b : Nat} {cs : Array Value} {T : TypeId} {fz : Nat × Nat} (h : w.heap[b]? = some (.cells cs T fz)) (i : Nat) : w.cell? ⟨b, i, none⟩ = cs[i]? := by simp [World.cell?, h]
theorem nv4 {w : World} {g : Nat} {a b c d : Int} {T : TypeId} {fz : Nat × Nat} (h : w.heap[g]? = some (.cells #[.int .i64 a, .int .i64 b, .int .i64 c, .int .i64 d] T fz)) : NV w (some ⟨g, 0, none⟩) [a, b, c, d] :=
  ⟨fun _ => ⟨g, 0, rfl, (Array.getElem?_eq_some_iff.1 h).1, fun i x hx => by
    rw [Nat.zero_add, cl_q h]
    match i, hx with
    | 0, hx => simpa using hx
    | 1, hx => simpa using hx
    | 2, hx => simpa using hx
    | 3, hx => simpa using hx
    | i + 4, hx => simp at hx⟩⟩
set_option maxRecDepth 100000 in
theorem allSh (A : Option Addr) (c : Nat) (L : List Int) (t : Bool) (w : World) (h : NV w A L) (hL : L.length ≤ 1048576) (ht : L.all shB = t) :
    Calls Tryz.prog 105 #[.slice A L.length c, .func (.func 106) #[] #[]] w fun e w' => e = .returned (.bool t) ∧ w = w' := by
  subst ht
  go_enter Tryz.func105, Tryz.ntmps105
  go_wp2_with fail
  go_loop [9] (fun i => ∃ k : Nat, k ≤ L.length ∧ i = .int .i64 k ∧ (L.take k).all shB = true) (fun i => L.length - (intOf i).toNat)
  case atStart => exact ⟨0, by omega, rfl, rfl⟩
  case round =>
    obtain ⟨k, hk, rfl, hok⟩ := hrel
    by_cases hlt : k < L.length
    · have hd : decide ((k : Int) < (L.length : Int)) = true := by simpa using hlt
      obtain ⟨b, off, rfl, hb, hp⟩ := h.cells (by omega)
      have hget : L[k]? = some L[k] := List.getElem?_eq_getElem hlt
      have c0 := hp k _ hget
      generalize hx : L[k] = p at *
      have HG := Lib.hid hget
      have HX := Lib.hid hx
      have HO := Lib.hid hok
      have HP := Lib.hid hp
      clear hget hx hok hp
      cases hv : shB p
      all_goals
        have Hv := Lib.hid hv
        clear hv
        go_wp2_with fail
        first | (with_reducible refine (shift_t p false _ Hv.out).mono ?_) | (with_reducible refine (shift_t p true _ Hv.out).mono ?_)
        rintro e w1 ⟨rfl, rfl⟩
        go_wp2
      · go_ret
        exact ⟨ret_bool (by
          symm
          rw [Bool.eq_false_iff]
          intro hh
          have h1 := List.all_eq_true.1 hh p (List.mem_of_getElem? HG.out)
          rw [Hv.out] at h1
          cases h1), rfl⟩
      · go_round
        case rel => exact ⟨k + 1, by omega, by go_num, by rw [all_snocQ HG.out, HO.out, Hv.out]; rfl⟩
        case measure => simp [intOf]; omega
    · have hd : decide ((k : Int) < (L.length : Int)) = false := by simp; omega
      have he : L.take k = L := List.take_of_length_le (by omega)
      rw [he] at hok
      have HO := Lib.hid hok
      clear hok he
      go_wp2
      go_ret
      exact ⟨ret_bool HO.out.symm, rfl⟩
set_option maxRecDepth 100000 in
theorem allRe (A : Option Addr) (c : Nat) (L : List Int) (t : Bool) (w : World) (h : NV w A L) (hL : L.length ≤ 1048576) (ht : L.all reB = t) :
    Calls Tryz.prog 105 #[.slice A L.length c, .func (.func 107) #[] #[]] w fun e w' => e = .returned (.bool t) ∧ w = w' := by
  subst ht
  go_enter Tryz.func105, Tryz.ntmps105
  go_wp2_with fail
  go_loop [9] (fun i => ∃ k : Nat, k ≤ L.length ∧ i = .int .i64 k ∧ (L.take k).all reB = true) (fun i => L.length - (intOf i).toNat)
  case atStart => exact ⟨0, by omega, rfl, rfl⟩
  case round =>
    obtain ⟨k, hk, rfl, hok⟩ := hrel
    by_cases hlt : k < L.length
    · have hd : decide ((k : Int) < (L.length : Int)) = true := by simpa using hlt
      obtain ⟨b, off, rfl, hb, hp⟩ := h.cells (by omega)
      have hget : L[k]? = some L[k] := List.getElem?_eq_getElem hlt
      have c0 := hp k _ hget
      generalize hx : L[k] = p at *
      have HG := Lib.hid hget
      have HX := Lib.hid hx
      have HO := Lib.hid hok
      have HP := Lib.hid hp
      clear hget hx hok hp
      cases hv : reB p
      all_goals
        have Hv := Lib.hid hv
        clear hv
        go_wp2_with fail
        first | (with_reducible refine (rel_t p false _ Hv.out).mono ?_) | (with_reducible refine (rel_t p true _ Hv.out).mono ?_)
        rintro e w1 ⟨rfl, rfl⟩
        go_wp2
      · go_ret
        exact ⟨ret_bool (by
          symm
          rw [Bool.eq_false_iff]
          intro hh
          have h1 := List.all_eq_true.1 hh p (List.mem_of_getElem? HG.out)
          rw [Hv.out] at h1
          cases h1), rfl⟩
      · go_round
        case rel => exact ⟨k + 1, by omega, by go_num, by rw [all_snocQ HG.out, HO.out, Hv.out]; rfl⟩
        case measure => simp [intOf]; omega
    · have hd : decide ((k : Int) < (L.length : Int)) = false := by simp; omega
      have he : L.take k = L := List.take_of_length_le (by omega)
      rw [he] at hok
      have HO := Lib.hid hok
      clear hok he
      go_wp2
      go_ret
      exact ⟨ret_bool HO.out.symm, rfl⟩
theorem allSh4 {g : Nat} {x y z u : Int} {T : TypeId} {fz : Nat × Nat} (t : Bool) (w : World) (h : w.heap[g]? = some (.cells #[.int .i64 x, .int .i64 y, .int .i64 z, .int .i64 u] T fz)) (ht : [x, y, z, u].all shB = t) :
    Calls Tryz.prog 105 #[.slice (some ⟨g, 0, none⟩) 4 4, .func (.func 106) #[] #[]] w fun e w' => e = .returned (.bool t) ∧ w = w' := allSh _ 4 [x, y, z, u] t w (nv4 h) (by simp) ht
theorem allRe4 {g : Nat} {x y z u : Int} {T : TypeId} {fz : Nat × Nat} (t : Bool) (w : World) (h : w.heap[g]? = some (.cells #[.int .i64 x, .int .i64 y, .int .i64 z, .int .i64 u] T fz)) (ht : [x, y, z, u].all reB = t) :
    Calls Tryz.prog 105 #[.slice (some ⟨g, 0, none⟩) 4 4, .func (.func 107) #[] #[]] w fun e w' => e = .returned (.bool t) ∧ w = w' := allRe _ 4 [x, y, z, u] t w (nv4 h) (by simp) ht
end Go.Proofs.YtgdkionmeacalabGreat
end
section
namespace Go.Proofs.YtgdkionmeacalabGreat
open Go.RowKit
set_option linter.unusedVariables false
set_option maxHeartbeats 1000000
set_option maxRecDepth 100000 in
theorem validPlace_t (p : Plc) (t : Bool) (w : World) (h : plB p = t) : Calls Tryz.prog 71 #[.agg #[.int .i64 p.x, .int .i64 p.y, .int .i64 p.rx, .int .i64 p.ry, .int .i64 p.ww, .int .i64 p.hh, .int .i64 p.qw, .int .i64 p.qh, .int .i64 p.an]] w fun e w' => e = .returned (.bool t) ∧ Below w.heap.size w w' := by
  cases h1 : [p.x, p.y, p.ww, p.hh].all shB
  · have ht : false = t := by rw [← h]; simp only [plB, h1, Bool.false_and]
    subst ht
    go_enter Tryz.func71, Tryz.ntmps71
    go_wp2_with fail
    with_reducible refine (allSh4 false _ (by first | exact newq1 _ _ _ | exact newq2 _ _ _ _) h1).mono ?_
    rintro e w1 ⟨rfl, rfl⟩
    go_wp2
    go_ret
    exact ⟨rfl, (by repeat (first | with_reducible exact Below.refl _ _ | with_reducible assumption | with_reducible refine balloc ?_ | (with_reducible refine bset ?_ ?_; rotate_left; ((try dsimp only); omega)) | refine bkeep2 ?_ (by assumption) | with_reducible refine Below.drew ?_))⟩
  cases h2 : [p.rx, p.ry, p.qw, p.qh].all reB
  · have ht : false = t := by rw [← h]; simp only [plB, h1, h2, Bool.false_and, Bool.true_and]
    subst ht
    go_enter Tryz.func71, Tryz.ntmps71
    go_wp2_with fail
    with_reducible refine (allSh4 true _ (by first | exact newq1 _ _ _ | exact newq2 _ _ _ _) h1).mono ?_
    rintro e w1 ⟨rfl, rfl⟩
    go_wp2_with fail
    with_reducible refine (allRe4 false _ (by first | exact newq1 _ _ _ | exact newq2 _ _ _ _) h2).mono ?_
    rintro e w1 ⟨rfl, rfl⟩
    go_wp2
    go_ret
    exact ⟨rfl, (by repeat (first | with_reducible exact Below.refl _ _ | with_reducible assumption | with_reducible refine balloc ?_ | (with_reducible refine bset ?_ ?_; rotate_left; ((try dsimp only); omega)) | refine bkeep2 ?_ (by assumption) | with_reducible refine Below.drew ?_))⟩
  have h3 : rng p.an 0 8 = t := by rw [← h]; simp only [plB, h1, h2, Bool.true_and]
  go_enter Tryz.func71, Tryz.ntmps71
  go_wp2_with fail
  with_reducible refine (allSh4 true _ (by first | exact newq1 _ _ _ | exact newq2 _ _ _ _) h1).mono ?_
  rintro e w1 ⟨rfl, rfl⟩
  go_wp2_with fail
  with_reducible refine (allRe4 true _ (by first | exact newq1 _ _ _ | exact newq2 _ _ _ _) h2).mono ?_
  rintro e w1 ⟨rfl, rfl⟩
  go_wp2_with fail
  with_reducible refine (anch_t _ t _ h3).mono ?_
  rintro e w1 ⟨rfl, rfl⟩
  go_wp2
  go_ret
  exact ⟨rfl, (by repeat (first | with_reducible exact Below.refl _ _ | with_reducible assumption | with_reducible refine balloc ?_ | (with_reducible refine bset ?_ ?_; rotate_left; ((try dsimp only); omega)) | refine bkeep2 ?_ (by assumption) | with_reducible refine Below.drew ?_))⟩
end Go.Proofs.YtgdkionmeacalabGreat
end
