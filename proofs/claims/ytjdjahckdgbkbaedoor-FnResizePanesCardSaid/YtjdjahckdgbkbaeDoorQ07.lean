import Derived.Test.YtjdjahckdgbkbaeDoorQ06
import Derived.IntWalk
import Derived.Deep.Cut
section
namespace Go.Proofs.YtjdjahckdgbkbaeDoor
open Go.RowKit
set_option linter.unusedVariables false
set_option maxHeartbeats 1000000
attribute [local go_sem] growUpon_value growUpon_skip growUpon_enter
/-- panes in two blocks of their own, from lo up to hi -/
def PS (lo hi : Nat) (w : World) (v : Value) (S M : List Int) : Prop := (v = .agg #[.slice none 0 0, .slice none 0 0] ∧ S = [] ∧ M = []) ∨
  ∃ g1 c1 g2 c2, v = .agg #[.slice (some ⟨g1, 0, none⟩) S.length c1, .slice (some ⟨g2, 0, none⟩) M.length c2] ∧ lo ≤ g1 ∧ g1 < hi ∧ lo ≤ g2 ∧ g2 < hi ∧ g1 ≠ g2 ∧ OB w g1 c1 S ∧ OB w g2 c2 M
/-- panes that read so -/
def PR (w : World) (v : Value) (S M : List Int) : Prop := ∃ a b, v = .agg #[a, b] ∧ NR w a S ∧ NR w b M
theorem PR.keep {w w' : World} {v : Value} {S M : List Int} (h : PR w v S M) (hb : Below w.heap.size w w') : PR w' v S M := let ⟨a, b, e, h1, h2⟩ := h; ⟨a, b, e, h1.keep hb, h2.keep hb⟩
theorem PS.keep {lo hi : Nat} {w w' : World} {v : Value} {S M : List Int} (h : PS lo hi w v S M) (hb : Below w.heap.size w w') : PS lo hi w' v S M :=
  h.imp id fun ⟨g1, c1, g2, c2, e, a1, a2, a3, a4, a5, o1, o2⟩ => ⟨g1, c1, g2, c2, e, a1, a2, a3, a4, a5, o1.keep hb, o2.keep hb⟩
theorem PS.pr {lo hi : Nat} {w : World} {v : Value} {S M : List Int} (h : PS lo hi w v S M) : PR w v S M := by
  rcases h with ⟨rfl, rfl, rfl⟩ | ⟨g1, c1, g2, c2, rfl, _, _, _, _, _, o1, o2⟩
  · exact ⟨_, _, rfl, ⟨none, 0, rfl, NV.nil _ _⟩, ⟨none, 0, rfl, NV.nil _ _⟩⟩
  · exact ⟨_, _, rfl, o1.nr rfl _, o2.nr rfl _⟩
theorem nrOf {w : World} {A : Option Addr} {L : List Int} (c : Nat) (h : NV w A L) : NR w (.slice A L.length c) L := ⟨A, c, rfl, h⟩
/-- only blocks from lo up to hi are changed -/
structure CB (lo hi : Nat) (w w' : World) : Prop where
  os : w'.os = w.os
  tape : w'.tape = w.tape
  output : w'.output = w.output
  size : w.heap.size ≤ w'.heap.size
  block : ∀ k, k < w.heap.size → (k < lo ∨ hi ≤ k) → w'.heap[k]? = w.heap[k]?
theorem CB.below {lo hi : Nat} {w w' : World} (h : CB lo hi w w') (hl : lo ≤ w.heap.size) : Below lo w w' := ⟨h.os, h.tape, h.output, h.size, fun k hk => h.block k (by omega) (.inl hk)⟩
theorem CB.of {lo hi : Nat} {w w' : World} (h : Below w.heap.size w w') : CB lo hi w w' := ⟨h.os, h.tape, h.output, h.size, fun k hk _ => h.block k hk⟩
theorem CB.ofg {lo hi g : Nat} {w w' : World} (h : w.grownBy w' (some g)) (h1 : lo ≤ g) (h2 : g < hi) : CB lo hi w w' := ⟨h.os, h.tape, h.output, h.size, fun k hk hn => h.block k hk (fun e => by cases e; omega)⟩
theorem CB.trans {lo hi : Nat} {w w' w2 : World} (h : CB lo hi w w') (k : CB lo hi w' w2) : CB lo hi w w2 := ⟨k.os.trans h.os, k.tape.trans h.tape, k.output.trans h.output, Nat.le_trans h.size k.size, fun b hb hn => (k.block b (Nat.lt_of_lt_of_le hb h.size) hn).trans (h.block b hb hn)⟩
theorem PS.but {lo hi lo' hi' : Nat} {w w' : World} {v : Value} {S M : List Int} (h : PS lo hi w v S M) (hc : CB lo' hi' w w') (hd : hi' ≤ lo) : PS lo hi w' v S M :=
  h.imp id fun ⟨g1, c1, g2, c2, e, a1, a2, a3, a4, a5, o1, o2⟩ => ⟨g1, c1, g2, c2, e, a1, a2, a3, a4, a5, o1.sameL (hc.block g1 o1.lt (.inr (by omega))), o2.sameL (hc.block g2 o2.lt (.inr (by omega)))⟩
def PSM (w : World) (v : Value) (n m : Nat) : Prop := (v = .agg #[.slice none 0 0, .slice none 0 0] ∧ n = 0 ∧ m = 0) ∨
  ∃ g1 c1 g2 c2, v = .agg #[.slice (some ⟨g1, 0, none⟩) n c1, .slice (some ⟨g2, 0, none⟩) m c2] ∧ OB w g1 c1 (MKo 1 n) ∧ OB w g2 c2 (MKo (1 + (n : Int)) m)
theorem PSM.keep {w w' : World} {v : Value} {n m : Nat} (h : PSM w v n m) (hb : Below w.heap.size w w') : PSM w' v n m :=
  h.imp id fun ⟨g1, c1, g2, c2, e, o1, o2⟩ => ⟨g1, c1, g2, c2, e, o1.keep hb, o2.keep hb⟩
theorem c2L {w : World} {b : Nat} {a0 a1 : Value} {T : TypeId} {fz : Nat × Nat} (h : w.heap[b]? = some (.cells #[a0, a1] T fz)) : w.cell? ⟨b, 0, none⟩ = some a0 ∧ w.cell? ⟨b, 1, none⟩ = some a1 := ⟨cellS h 0, cellS h 1⟩
theorem f2L {w : World} {b : Nat} {cs : Array Value} {T : TypeId} (h : w.heap[b]? = some (.cells cs T (0, 0))) : w.frozen? ⟨b, 0, none⟩ = false ∧ w.frozen? ⟨b, 1, none⟩ = false := ⟨frozenS h 0, frozenS h 1⟩
theorem put2L {w : World} {b : Nat} {a0 a1 : Value} {T : TypeId} {fz : Nat × Nat} (h : w.heap[b]? = some (.cells #[a0, a1] T fz)) (x0 x1 : Value) :
    ((w.setCell ⟨b, 0, none⟩ x0).setCell ⟨b, 1, none⟩ x1).heap[b]? = some (.cells #[x0, x1] T fz) := by
  rw [putS (putS h x0) x1]; rfl
theorem put2oL {w : World} {b b' : Nat} (h : b' ≠ b) (x0 x1 : Value) : ((w.setCell ⟨b, 0, none⟩ x0).setCell ⟨b, 1, none⟩ x1).heap[b']? = w.heap[b']? := by
  rw [Below.heap_setCell _ _ _ _ h, Below.heap_setCell _ _ _ _ h]
theorem put2BL {B b : Nat} {a w : World} (h : Below B a w) (hb : B ≤ b) (x0 x1 : Value) : Below B a ((w.setCell ⟨b, 0, none⟩ x0).setCell ⟨b, 1, none⟩ x1) := (h.setCell hb _).setCell hb _
theorem bpL {P : Program} {f : Func} {R : Ending → World → Prop} {e : Exit} {a : Act} {W : World} (F : World → Prop) (hF : F W) (h : ∀ W0, F W0 → bodyPost P f R e a W0) : bodyPost P f R e a W := h W hF
theorem wpL2 {P : Program} {c : Code} {Q : Exit → Act → World → Prop} {a : Act} {W : World} (F : World → Prop) (hF : F W) (h : ∀ W0, F W0 → c.wp P Q a W0) : c.wp P Q a W := h W hF
theorem newL1 (w : World) (o o' : Obj) : ((w.alloc o).alloc o').heap[w.heap.size + 1]? = some o' := by
  have := newS (w.alloc o) o'; rwa [World.size_alloc] at this
theorem newL2 (w : World) (o o' o2 : Obj) : (((w.alloc o).alloc o').alloc o2).heap[w.heap.size + 1 + 1]? = some o2 := by
  have := newL1 (w.alloc o) o' o2; rwa [World.size_alloc] at this
theorem oldL1 (w : World) (o o' : Obj) : ((w.alloc o).alloc o').heap[w.heap.size]? = some o := (Below.heap_alloc _ o' w.heap.size (by simp)).trans (newS w o)
set_option maxRecDepth 100000 in
theorem szPanes_yes (A A' : Option Addr) (n c n' c' : Nat) (w : World) (h : n + n' ≤ 1048576) : Calls Tryd.prog 18 #[.agg #[.slice A n c, .slice A' n' c'], .int .i64 1048576] w fun e w' => (∃ z : Int, e = .returned (.int .i64 z) ∧ 0 ≤ z) ∧ Below w.heap.size w w' := by
  have q1 : ¬ (1048576 : Int) - n < 0 := by omega
  have q2 : ¬ (1048576 : Int) - n - n' < 0 := by omega
  have HB := Lib.hid (balloc (o := .cells #[.slice A n c, .slice A' n' c'] 43) (Below.refl w.heap.size w))
  go_enter Tryd.func18, Tryd.ntmps18
  go_wp2_with fail
  with_reducible refine (szIntS_yes A n c _ _ (by omega) (by omega)).mono ?_
  rintro e w1 ⟨rfl, rfl⟩
  go_wp2_with fail
  with_reducible refine (szIntS_yes A' n' c' _ _ (by omega) (by omega)).mono ?_
  rintro e w1 ⟨rfl, rfl⟩
  go_wp2
  go_ret
  exact ⟨⟨_, rfl, by omega⟩, HB.out⟩
set_option maxRecDepth 100000 in
theorem szPanes_no (A A' : Option Addr) (n c n' c' : Nat) (w : World) (h : ¬ n + n' ≤ 1048576) (h1 : n ≤ maxLen) (h2 : n' ≤ maxLen) : Calls Tryd.prog 18 #[.agg #[.slice A n c, .slice A' n' c'], .int .i64 1048576] w fun e w' => e = .returned (.int .i64 (-1)) ∧ Below w.heap.size w w' := by
  have HB := Lib.hid (balloc (o := .cells #[.slice A n c, .slice A' n' c'] 43) (Below.refl w.heap.size w))
  by_cases hn : n ≤ 1048576
  · have q1 : ¬ (1048576 : Int) - n < 0 := by omega
    go_enter Tryd.func18, Tryd.ntmps18
    go_wp2_with fail
    with_reducible refine (szIntS_yes A n c _ _ (by omega) (by omega)).mono ?_
    rintro e w1 ⟨rfl, rfl⟩
    go_wp2_with fail
    with_reducible refine (szIntS_no A' n' c' _ _ (by omega) (by omega) h2).mono ?_
    rintro e w1 ⟨rfl, rfl⟩
    go_wp2
    go_ret
    exact ⟨rfl, HB.out⟩
  · go_enter Tryd.func18, Tryd.ntmps18
    go_wp2_with fail
    with_reducible refine (szIntS_no A n c _ _ (by omega) (by omega) h1).mono ?_
    rintro e w1 ⟨rfl, rfl⟩
    go_wp2
    go_ret
    exact ⟨rfl, HB.out⟩
theorem nvX {w w1 : World} {g j : Nat} {x : Value} {A : Option Addr} {L : List Int} (h0 : NV w A L) (hb : Below w.heap.size w w1) (hg : w.heap.size ≤ g) : NV (w1.setCell ⟨g, j, none⟩ x) A L := h0.keep (hb.setCell hg x)
set_option maxRecDepth 100000 in
theorem toPanes_v (A A' : Option Addr) (c c' : Nat) (S M : List Int) (w : World) (h : NV w A S) (h' : NV w A' M) (hL : S.length ≤ 1048576) (hL' : M.length ≤ 1048576) :
    Calls Tryd.prog 19 #[.agg #[.slice A S.length c, .slice A' M.length c']] w fun e w' => (∃ v, e = .returned v ∧ PS w.heap.size w'.heap.size w' v S M) ∧ Below w.heap.size w w' := by
  go_enter Tryd.func19, Tryd.ntmps19
  go_upto_region 2 with (fail)
  refine wpL2 (fun W => W.heap[w.heap.size]? = some (.cells #[.slice A S.length c, .slice A' M.length c'] 43 (0, 0)) ∧ W.heap[w.heap.size + 1]? = some (.cells #[.slice none 0 0, .slice none 0 0] 35 (0, 0)) ∧ W.heap[w.heap.size + 1 + 1]? = some (.cells #[.slice none 0 0, .slice none 0 0] 35 (0, 0)) ∧ NV W A S ∧ NV W A' M ∧ Below w.heap.size w W) ⟨(Below.heap_alloc _ _ _ (by simp; omega)).trans (oldL1 _ _ _), (Below.heap_alloc _ _ _ (by simp)).trans (newL1 _ _ _), newL2 _ _ _ _, h.keep (balloc (balloc (balloc (Below.refl _ _)))), h'.keep (balloc (balloc (balloc (Below.refl _ _)))), balloc (balloc (balloc (Below.refl _ _)))⟩ ?_
  have H0' := Lib.hid h'
  clear h h'
  rintro w0 ⟨hx, hy, hz, hn, hn', hB⟩
  have HX := Lib.hid hx
  have HY := Lib.hid hy
  have HZ := Lib.hid hz
  have HN' := Lib.hid hn'
  have HB := Lib.hid hB
  have l0 := ltS hz
  obtain ⟨c0, c1⟩ := c2L hx
  clear hx hy hz hn' hB
  go_wp2_with fail
  with_reducible refine (toIntS_any A c S _ hn hL).mono ?_
  rintro e w1 ⟨rfl, hi1, hb⟩
  obtain ⟨g1, hg1⟩ : ∃ g, w0.heap.size = g := ⟨_, rfl⟩
  have l1 := hi1.lt
  rw [hg1] at hi1 l1 ⊢
  replace HX := Lib.hid ((hb.block _ (ltS HX.out)).trans HX.out)
  replace HY := Lib.hid ((hb.block _ (ltS HY.out)).trans HY.out)
  replace HZ := Lib.hid ((hb.block _ (ltS HZ.out)).trans HZ.out)
  replace HN' := Lib.hid (HN'.out.keep hb)
  replace HB := Lib.hid (bkeep2 HB.out hb)
  have HI1 := Lib.hid (hi1.ob rfl)
  clear hb hi1 hn c0 c1
  obtain ⟨c0, c1⟩ := c2L HX.out
  obtain ⟨d0, d1⟩ := c2L HZ.out
  obtain ⟨f0, f1⟩ := f2L HZ.out
  go_upto_region 3 with (fail)
  refine wpL2 (fun W => W.heap[w.heap.size]? = some (.cells #[.slice A S.length c, .slice A' M.length c'] 43 (0, 0)) ∧ W.heap[w.heap.size + 1]? = some (.cells #[.slice none 0 0, .slice none 0 0] 35 (0, 0)) ∧ W.heap[w.heap.size + 1 + 1]? = some (.cells #[.slice (some ⟨g1, 0, none⟩) S.length S.length, .slice none 0 0] 35 (0, 0)) ∧ NV W A' M ∧ OB W g1 S.length S ∧ Below w.heap.size w W) ⟨(Below.heap_setCell _ _ _ _ (by show w.heap.size ≠ w.heap.size + 1 + 1; omega)).trans HX.out, (Below.heap_setCell _ _ _ _ (by show w.heap.size + 1 ≠ w.heap.size + 1 + 1; omega)).trans HY.out, (putS HZ.out _).trans rfl, nvX H0'.out HB.out (by omega), HI1.out.sameL (Below.heap_setCell _ _ _ _ (by show g1 ≠ w.heap.size + 1 + 1; omega)), HB.out.setCell (by show w.heap.size ≤ w.heap.size + 1 + 1; omega) _⟩ ?_
  clear HX HY HZ HN' HI1 HB c0 c1 d0 d1 f0 f1
  rintro w2 ⟨hx, hy, hz, hn', hi1, hB⟩
  have HX := Lib.hid hx
  have HY := Lib.hid hy
  have HZ := Lib.hid hz
  have HB := Lib.hid hB
  have HI1 := Lib.hid hi1
  have l2 := hi1.lt
  obtain ⟨c0, c1⟩ := c2L hx
  clear hx hy hz hi1 hB l1
  go_wp2_with fail
  with_reducible refine (toIntS_any A' c' M _ hn' hL').mono ?_
  rintro e w3 ⟨rfl, hi2, hb⟩
  obtain ⟨g2, hg2⟩ : ∃ g, w2.heap.size = g := ⟨_, rfl⟩
  have l3 := hi2.lt
  rw [hg2] at hi2 l3 ⊢
  replace HX := Lib.hid ((hb.block _ (ltS HX.out)).trans HX.out)
  replace HY := Lib.hid ((hb.block _ (ltS HY.out)).trans HY.out)
  replace HZ := Lib.hid ((hb.block _ (ltS HZ.out)).trans HZ.out)
  replace HI1 := Lib.hid (HI1.out.keep hb)
  replace HB := Lib.hid (bkeep2 HB.out hb)
  have HI2 := Lib.hid (hi2.ob rfl)
  clear hb hi2 hn' c0 c1
  obtain ⟨c0, c1⟩ := c2L HX.out
  obtain ⟨d0, d1⟩ := c2L HZ.out
  obtain ⟨f0, f1⟩ := f2L HZ.out
  go_upto_region 4 with (fail)
  refine wpL2 (fun W => W.heap[w.heap.size + 1]? = some (.cells #[.slice none 0 0, .slice none 0 0] 35 (0, 0)) ∧ W.heap[w.heap.size + 1 + 1]? = some (.cells #[.slice (some ⟨g1, 0, none⟩) S.length S.length, .slice (some ⟨g2, 0, none⟩) M.length M.length] 35 (0, 0)) ∧ OB W g1 S.length S ∧ OB W g2 M.length M ∧ Below w.heap.size w W ∧ W.heap.size = w3.heap.size) ⟨(Below.heap_setCell _ _ _ _ (by show w.heap.size + 1 ≠ w.heap.size + 1 + 1; omega)).trans HY.out, (putS HZ.out _).trans rfl, HI1.out.sameL (Below.heap_setCell _ _ _ _ (by show g1 ≠ w.heap.size + 1 + 1; omega)), HI2.out.sameL (Below.heap_setCell _ _ _ _ (by show g2 ≠ w.heap.size + 1 + 1; omega)), HB.out.setCell (by show w.heap.size ≤ w.heap.size + 1 + 1; omega) _, by simp [World.setCell]⟩ ?_
  clear HX HY HZ HI1 HI2 HB c0 c1 d0 d1 f0 f1
  rintro w4 ⟨hy, hz, hi1, hi2, hB, hs4⟩
  have HY := Lib.hid hy
  have HB := Lib.hid hB
  have HI1 := Lib.hid hi1
  have HI2 := Lib.hid hi2
  obtain ⟨c0, c1⟩ := c2L hz
  obtain ⟨d0, d1⟩ := c2L hy
  obtain ⟨f0, f1⟩ := f2L hy
  clear hy hz hi1 hi2 hB
  go_wp2
  refine bpL (fun W => W.heap[w.heap.size + 1]? = some (.cells #[.slice (some ⟨g1, 0, none⟩) S.length S.length, .slice (some ⟨g2, 0, none⟩) M.length M.length] 35 (0, 0)) ∧ OB W g1 S.length S ∧ OB W g2 M.length M ∧ Below w.heap.size w W ∧ W.heap.size = w3.heap.size) ⟨put2L HY.out _ _, HI1.out.sameL (put2oL (by omega) _ _), HI2.out.sameL (put2oL (by omega) _ _), put2BL HB.out (by omega) _ _, by simp [World.setCell, hs4]⟩ ?_
  clear HY HB HI1 HI2 c0 c1 d0 d1 f0 f1
  rintro W ⟨hy, o1, o2, hB, hs⟩
  obtain ⟨d0, d1⟩ := c2L hy
  exact bodyPost_ret (v := .agg #[.slice (some ⟨g1, 0, none⟩) S.length S.length, .slice (some ⟨g2, 0, none⟩) M.length M.length]) (by simp only [results, Tryd.results19]; go_simp) rfl ⟨⟨_, rfl, .inr ⟨g1, _, g2, _, rfl, by omega, by omega, by omega, by omega, by omega, o1, o2⟩⟩, hB⟩
set_option maxRecDepth 100000 in
theorem eqPanes_same (v v' : Value) (S M : List Int) (w : World) (h : PR w v S M) (h' : PR w v' S M) (hL : S.length ≤ 1048576) (hL' : M.length ≤ 1048576) :
    Calls Tryd.prog 20 #[v, v'] w fun e w' => e = .returned (.bool true) ∧ Below w.heap.size w w' := by
  obtain ⟨a, b, rfl, ⟨A, c, rfl, h1⟩, ⟨A', c', rfl, h2⟩⟩ := h
  obtain ⟨a, b, rfl, ⟨B, d, rfl, h3⟩, ⟨B', d', rfl, h4⟩⟩ := h'
  have hb2 : Below w.heap.size w ((w.alloc (.cells #[.slice A S.length c, .slice A' M.length c'] 35 (0, 0))).alloc (.cells #[.slice B S.length d, .slice B' M.length d'] 35 (0, 0))) := balloc (balloc (Below.refl _ _))
  go_enter Tryd.func20, Tryd.ntmps20
  go_upto_region 1 with (fail)
  refine wpL2 (fun W => W.heap[w.heap.size]? = some (.cells #[.slice A S.length c, .slice A' M.length c'] 35 (0, 0)) ∧ W.heap[w.heap.size + 1]? = some (.cells #[.slice B S.length d, .slice B' M.length d'] 35 (0, 0)) ∧ NV W A S ∧ NV W A' M ∧ NV W B S ∧ NV W B' M ∧ Below w.heap.size w W) ⟨oldL1 _ _ _, newL1 _ _ _, h1.keep hb2, h2.keep hb2, h3.keep hb2, h4.keep hb2, hb2⟩ ?_
  clear h1 h2 h3 h4 hb2
  rintro w0 ⟨hx, hy, n1, n2, n3, n4, hB⟩
  have HX := Lib.hid hx
  have HY := Lib.hid hy
  have HB := Lib.hid hB
  have H2 := Lib.hid n2
  have H4 := Lib.hid n4
  obtain ⟨c0, c1⟩ := c2L hx
  obtain ⟨d0, d1⟩ := c2L hy
  clear hx hy hB n2 n4
  go_wp2_with fail
  with_reducible refine (eqIntS_same _ _ S _ (nrOf c n1) (nrOf d n3) hL).mono ?_
  rintro e w1 ⟨rfl, hb⟩
  clear c0 c1 d0 d1 n1 n3
  replace HX := Lib.hid ((hb.block _ (ltS HX.out)).trans HX.out)
  replace HY := Lib.hid ((hb.block _ (ltS HY.out)).trans HY.out)
  replace H2 := Lib.hid (H2.out.keep hb)
  replace H4 := Lib.hid (H4.out.keep hb)
  replace HB := Lib.hid (bkeep2 HB.out hb)
  clear hb
  obtain ⟨c0, c1⟩ := c2L HX.out
  obtain ⟨d0, d1⟩ := c2L HY.out
  go_wp2_with fail
  with_reducible refine (eqIntS_same _ _ M _ (nrOf c' H2.out) (nrOf d' H4.out) hL').mono ?_
  rintro e w2 ⟨rfl, hb⟩
  replace HB := Lib.hid (bkeep2 HB.out hb)
  clear hb c0 c1 d0 d1
  go_wp2
  go_ret
  exact ⟨rfl, HB.out⟩
set_option maxRecDepth 100000 in
theorem markPanes_v (lo hi : Nat) (v : Value) (S M : List Int) (w : World) (h : PS lo hi w v S M) (hL : S.length ≤ 1048576) (hL' : M.length ≤ 1048576) :
    Calls Tryd.prog 21 #[v, .int .i64 1] w fun e w' => e = .returned (.int .i64 (1 + (S.length : Int) + (M.length : Int))) ∧ PSM w' v S.length M.length ∧ CB lo hi w w' := by
  rcases h with ⟨rfl, rfl, rfl⟩ | ⟨g1, c1, g2, c2, rfl, a1, a2, a3, a4, a5, o1, o2⟩
  · have HB := Lib.hid (CB.of (lo := lo) (hi := hi) (balloc (o := (.cells #[.slice none 0 0, .slice none 0 0] 35 (0, 0))) (Below.refl w.heap.size w)))
    go_enter Tryd.func21, Tryd.ntmps21
    go_wp2_with fail
    with_reducible refine (markO_nil 1 _).mono ?_
    rintro e w1 ⟨rfl, rfl⟩
    go_wp2_with fail
    with_reducible refine (markO_nil 1 _).mono ?_
    rintro e w1 ⟨rfl, rfl⟩
    go_wp2
    go_ret
    exact ⟨rfl, .inl ⟨rfl, rfl, rfl⟩, HB.out⟩
  · have HX := Lib.hid (newS w (.cells #[.slice (some ⟨g1, 0, none⟩) S.length c1, .slice (some ⟨g2, 0, none⟩) M.length c2] 35 (0, 0)))
    have hb0 : Below w.heap.size w (w.alloc (.cells #[.slice (some ⟨g1, 0, none⟩) S.length c1, .slice (some ⟨g2, 0, none⟩) M.length c2] 35 (0, 0))) := balloc (Below.refl _ _)
    have HB := Lib.hid (CB.of (lo := lo) (hi := hi) hb0)
    have l1 := o1.lt
    have l2 := o2.lt
    have HO1 := Lib.hid (o1.keep hb0)
    have HO2 := Lib.hid (o2.keep hb0)
    clear o1 o2 hb0
    go_enter Tryd.func21, Tryd.ntmps21
    go_wp2_with fail
    with_reducible refine (markO g1 c1 S.length 1 S _ HO1.out rfl hL (by omega) (by omega)).mono ?_
    rintro e w1 ⟨rfl, o1, hg⟩
    replace HX := Lib.hid ((hg.block _ (ltS HX.out) (fun e => absurd (Option.some.inj e) (by omega))).trans HX.out)
    replace HO2 := Lib.hid (HO2.out.sameL (hg.block _ HO2.out.lt (fun e => absurd (Option.some.inj e) (by omega))))
    replace HB := Lib.hid (HB.out.trans (CB.ofg hg a1 a2))
    replace HO1 := Lib.hid o1
    clear o1 hg
    obtain ⟨c0, c1⟩ := c2L HX.out
    go_wp2_with fail
    with_reducible refine (markO g2 c2 M.length (1 + (S.length : Int)) M _ HO2.out rfl hL' (by omega) (by omega)).mono ?_
    rintro e w2 ⟨rfl, o2, hg⟩
    replace HO1 := Lib.hid (HO1.out.sameL (hg.block _ HO1.out.lt (fun e => absurd (Option.some.inj e) (by omega))))
    replace HB := Lib.hid (HB.out.trans (CB.ofg hg a3 a4))
    replace HO2 := Lib.hid o2
    clear o2 hg c0 c1 HX
    go_wp2
    go_ret
    exact ⟨rfl, .inr ⟨g1, _, g2, _, rfl, HO1.out, HO2.out⟩, HB.out⟩
set_option maxRecDepth 100000 in
theorem heldPanes_v (v : Value) (n m : Nat) (w : World) (h : PSM w v n m) (hL : n ≤ 1048576) (hL' : m ≤ 1048576) :
    Calls Tryd.prog 22 #[v, .int .i64 1] w fun e w' => e = .returned (.int .i64 (1 + (n : Int) + (m : Int))) ∧ Below w.heap.size w w' := by
  rcases h with ⟨rfl, rfl, rfl⟩ | ⟨g1, c1, g2, c2, rfl, o1, o2⟩
  · have HB := Lib.hid (balloc (o := (.cells #[.slice none 0 0, .slice none 0 0] 35 (0, 0))) (Below.refl w.heap.size w))
    go_enter Tryd.func22, Tryd.ntmps22
    go_wp2_with fail
    with_reducible refine (heldO_nil 1 _).mono ?_
    rintro e w1 ⟨rfl, rfl⟩
    go_wp2_with fail
    with_reducible refine (heldO_nil 1 _).mono ?_
    rintro e w1 ⟨rfl, rfl⟩
    go_wp2
    go_ret
    exact ⟨rfl, HB.out⟩
  · have q1 : ¬ (1 : Int) + n < 0 := by omega
    have q2 : ¬ (1 : Int) + n + m < 0 := by omega
    have hb0 : Below w.heap.size w (w.alloc (.cells #[.slice (some ⟨g1, 0, none⟩) n c1, .slice (some ⟨g2, 0, none⟩) m c2] 35 (0, 0))) := balloc (Below.refl _ _)
    have HB := Lib.hid hb0
    have HO1 := Lib.hid (o1.keep hb0)
    have HO2 := Lib.hid (o2.keep hb0)
    clear o1 o2 hb0
    go_enter Tryd.func22, Tryd.ntmps22
    go_wp2_with fail
    with_reducible refine (heldO g1 c1 n 1 _ HO1.out hL (by omega) (by omega)).mono ?_
    rintro e w1 ⟨rfl, rfl⟩
    go_wp2_with fail
    with_reducible refine (heldO g2 c2 m (1 + (n : Int)) _ HO2.out hL' (by omega) (by omega)).mono ?_
    rintro e w1 ⟨rfl, rfl⟩
    go_wp2
    go_ret
    exact ⟨rfl, HB.out⟩
end Go.Proofs.YtjdjahckdgbkbaeDoor
end
section
namespace Go.Proofs.YtjdjahckdgbkbaeDoor
open Go.RowKit
set_option linter.unusedVariables false
set_option maxHeartbeats 1000000
/-- spec.total of whatever numbers: some number. -/
theorem total_any (A : Option Addr) (c : Nat) (L : List Int) (w : World) (h : NV w A L) (hL : L.length ≤ 1048576) :
    Calls Tryd.prog 35 #[.slice A L.length c] w fun e w' => (∃ z : Int, e = .returned (.int .i64 z)) ∧ w = w' := by
  go_enter Tryd.func35, Tryd.ntmps35
  go_wp2_with fail
  go_loop [3, 4] (fun s i => ∃ (k : Nat) (z : Int), k ≤ L.length ∧ i = .int .i64 k ∧ s = .int .i64 z) (fun _ i => L.length - (intOf i).toNat)
  case atStart => exact ⟨0, 0, by omega, rfl, rfl⟩
  case round =>
    obtain ⟨k, z, hk, rfl, rfl⟩ := hrel
    by_cases hlt : k < L.length
    · have hd : decide ((k : Int) < (L.length : Int)) = true := by simpa using hlt
      obtain ⟨b, off, rfl, hb, hp⟩ := h.cells (by omega)
      have hget : L[k]? = some L[k] := List.getElem?_eq_getElem hlt
      have c0 := hp k _ hget
      generalize hx : L[k] = x at *
      have wk : IntKind.i64.wrap ((k : Int) + 1) = (k : Int) + 1 := IntWalk.i64_in _ (by omega)
      clear hx hget hp
      go_wp2
      go_roundw
      · exact ⟨k + 1, _, by omega, by simp, rfl⟩
      · simp [intOf]; omega
    · have hd : decide ((k : Int) < (L.length : Int)) = false := by simpa using hlt
      go_wp2
      go_ret
      exact ⟨⟨_, rfl⟩, rfl⟩
end Go.Proofs.YtjdjahckdgbkbaeDoor
end
section
namespace Go.Proofs.YtjdjahckdgbkbaeDoor
open Go.RowKit
set_option linter.unusedVariables false
set_option maxHeartbeats 2000000
attribute [local go_sem] growUpon_value growUpon_skip growUpon_enter
attribute [local go_sem] givesUpon_value givesUpon_skip givesUpon_enter
theorem NV.drewR {w : World} {A : Option Addr} {L : List Int} (h : NV w A L) : NV w.drew A L := h.keep (Below.refl _ _).drew
set_option maxRecDepth 100000 in
theorem DrawResizePanes_any (A : Option Addr) (n c : Nat) (w : World) (h : Bts w A n) (hn : n ≤ c) (hc : c ≤ maxLen) :
    Calls Tryd.prog 12 #[.slice A n c] w fun e w' => (∃ (A1 : Option Addr) (c1 : Nat) (L1 : List Int) (A2 : Option Addr) (c2 : Nat) (L2 : List Int) (r0 : Int), e = .returned (.tuple #[.agg #[.slice A1 L1.length c1, .slice A2 L2.length c2], .int .i64 r0]) ∧ NV w' A1 L1 ∧ NV w' A2 L2 ∧ L1.length ≤ 6 ∧ L2.length ≤ 6 ∧ L1.length ≤ c1 ∧ L2.length ≤ c2) ∧ Below w.heap.size w w' := by
  go_enter Tryd.func12, Tryd.ntmps12
  go_wp2_with fail
  with_reducible refine (newReader_low A n c _ h (by simp) (h.alloc _) hn hc).mono ?_
  rintro e w1 ⟨n', rfl, hr1, hc1⟩
  simp only [World.size_alloc] at hr1
  go_wp2_with fail
  with_reducible refine (somePanes_any _ hr1 (by omega)).mono ?_
  rintro e w2 ⟨⟨A1, c1, L1, A2, c2, L2, rfl, q1, q2, l1, l2, l3, l4, b1, b2⟩, hr2, hc2⟩
  have hs := hc1.size
  have hs2 := hc2.size
  simp only [World.size_alloc] at hs
  have Hc : Chg [w.heap.size + 1] _ w2 := (hc1.mono (by simp)).trans hc2
  have hb := (Hc.block w.heap.size (by simp) (by simp)).trans (heap_alloc_new w _)
  have hB : Chg [w.heap.size + 1, w.heap.size] w w2 := (((Chg.refl [w.heap.size + 1] w).alloc _).trans Hc).mono (by simp)
  have hl := hr2.lt
  have hlt2 : w.heap.size < w2.heap.size := by omega
  go_upto_region 3 with (fail)
  obtain ⟨bx, hbx⟩ : ∃ bx, w2.heap.size = bx := ⟨_, rfl⟩
  obtain ⟨rb, hrb⟩ : ∃ rb, w.heap.size + 1 = rb := ⟨_, rfl⟩
  obtain ⟨B, hBe⟩ : ∃ B, w.heap.size = B := ⟨_, rfl⟩
  refine wp_PN (fun W => W.heap[bx]? = some (.cells #[.slice A1 L1.length c1, .slice A2 L2.length c2] 35 (0, 0)) ∧ W.heap[w.heap.size]? = some (.cells #[.slice none 0 0, .slice none 0 0] 35 (0, 0)) ∧ NV W A1 L1 ∧ NV W A2 L2 ∧ Rd B rb A n' c 400 W ∧ Chg [rb, w.heap.size] w W) ⟨by rw [← hbx]; exact newS w2 _, (Below.heap_alloc _ _ _ hlt2).trans (hb.trans rfl), q1.keep (balloc (Below.refl _ _)), q2.keep (balloc (Below.refl _ _)), by rw [← hrb, ← hBe]; exact (hr2.alloc _).mono (by omega), by rw [← hrb]; exact hB.alloc _⟩ ?_
  have hb1 : bx ≠ rb := by omega
  have hb2 : w.heap.size ≠ rb := by omega
  have hrB : B ≤ rb := by omega
  replace b1 : ∀ a, A1 = some a → a.block ≠ w.heap.size ∧ a.block ≠ rb := fun a ha => by have := b1 a ha; omega
  replace b2 : ∀ a, A2 = some a → a.block ≠ w.heap.size ∧ a.block ≠ rb := fun a ha => by have := b2 a ha; omega
  have Hrb := Lib.hid hrb
  rw [hbx, hrb]
  clear hB hb Hc hc1 hc2 hr1 hr2 hs hs2 h hlt2 hl hbx q1 q2 hBe hrb
  rintro wa ⟨hx, hz, q1, q2, hR, hC⟩
  have HX := Lib.hid hx
  have HZ := Lib.hid hz
  have HR := Lib.hid hR
  have HC := Lib.hid hC
  have hbl := ltS hx
  clear hx hz hR hC
  refine wp_region_rgp (fun k => ((fun v _ => v = .agg #[.slice A1 L1.length c1, .slice A2 L2.length c2]) :: (fun v _ => v = .pointer (some ⟨rb, 0, none⟩)) :: (fun v _ => v = .pointer (some ⟨bx, 0, none⟩)) :: (fun v _ => v = .slice A1 L1.length c1) :: (fun v _ => ∃ z : Int, v = .int .i64 z) :: (fun v _ => ∃ z : Int, v = .int .i64 z) :: (fun v _ => v = .pointer (some ⟨bx, 0, none⟩)) :: (fun v _ => v = .slice A1 L1.length c1) :: (fun v _ => ∃ z : Int, v = .int .i64 z) :: (fun v _ => ∃ z : Int, v = .int .i64 z) :: (fun v _ => ∃ z : Int, v = .int .i64 z) :: (fun v _ => v = .pointer (some ⟨bx, 1, none⟩)) :: (fun v _ => v = .slice A2 L2.length c2) :: (fun v _ => ∃ z : Int, v = .int .i64 z) :: (TL B [rb] 7) :: (fun v _ => ∃ z : Int, v = .int .i64 z) :: []).getD k (fun _ _ => True)) (Chg [rb]) (fun mm w => Rd B rb A n' c (400 + mm) w) 16 (by kernel_rfl) (by kernel_rfl) (by kernel_rfl) (fun a => Chg.refl _ a) (fun _ _ _ h k => h.trans k) ?hTs ?hI0 ?hops ?hfin
  case hops =>
    refine ⟨opOK_ds [(5, none)] (by kernel_rfl) rfl ?_, ?_⟩
    · intro mm act w' hm' hR hI h1
      have hk : ∀ v, act.eval (.const v) = v := fun _ => rfl
      have hf : ∀ f, act.eval (.func f) = .func (.func f) #[] #[] := fun _ => rfl
      generalize act.eval = ρ at *
      have hm : mm < 18 := hm'
      replace h1 : ρ (.tmp 5) = .pointer (some ⟨bx, 0, none⟩) := h1
      refine gx_genP (fun K hK => ?_)
      obtain ⟨d0, d1⟩ := c2L ((hR.block bx (by simpa using hbl) (by simpa using hb1)).trans HX.out)
      go_simp
      exact hK _ _ ⟨rfl, Chg.refl _ _, hI.mono (by omega)⟩
    refine ⟨opOK_ds [(4, none)] (by kernel_rfl) rfl ?_, ?_⟩
    · intro mm act w' hm' hR hI h1
      have hk : ∀ v, act.eval (.const v) = v := fun _ => rfl
      have hf : ∀ f, act.eval (.func f) = .func (.func f) #[] #[] := fun _ => rfl
      generalize act.eval = ρ at *
      have hm : mm < 18 := hm'
      replace h1 : ρ (.tmp 4) = .pointer (some ⟨rb, 0, none⟩) := h1
      refine gx_genP (fun K hK => ?_)
      go_simp
      exact hK _ _ ⟨rfl, Chg.refl _ _, hI.mono (by omega)⟩
    refine ⟨opOK_ds [(5, none)] (by kernel_rfl) rfl ?_, ?_⟩
    · intro mm act w' hm' hR hI h1
      have hk : ∀ v, act.eval (.const v) = v := fun _ => rfl
      have hf : ∀ f, act.eval (.func f) = .func (.func f) #[] #[] := fun _ => rfl
      generalize act.eval = ρ at *
      have hm : mm < 18 := hm'
      replace h1 : ρ (.tmp 5) = .pointer (some ⟨bx, 0, none⟩) := h1
      refine gx_genP (fun K hK => ?_)
      go_simp
      exact hK _ _ ⟨rfl, Chg.refl _ _, hI.mono (by omega)⟩
    refine ⟨opOK_ds [(12, some 2)] (by kernel_rfl) rfl ?_, ?_⟩
    · intro mm act w' hm' hR hI h1
      have hk : ∀ v, act.eval (.const v) = v := fun _ => rfl
      have hf : ∀ f, act.eval (.func f) = .func (.func f) #[] #[] := fun _ => rfl
      generalize act.eval = ρ at *
      have hm : mm < 18 := hm'
      replace h1 : ρ (.tmp 12) = .pointer (some ⟨bx, 0, none⟩) := h1
      refine gx_genP (fun K hK => ?_)
      obtain ⟨d0, d1⟩ := c2L ((hR.block bx (by simpa using hbl) (by simpa using hb1)).trans HX.out)
      go_simp
      exact hK _ _ ⟨rfl, Chg.refl _ _, hI.mono (by omega)⟩
    refine ⟨opOK_ds [(13, some 3)] (by kernel_rfl) rfl ?_, ?_⟩
    · intro mm act w' hm' hR hI h1
      have hk : ∀ v, act.eval (.const v) = v := fun _ => rfl
      have hf : ∀ f, act.eval (.func f) = .func (.func f) #[] #[] := fun _ => rfl
      generalize act.eval = ρ at *
      have hm : mm < 18 := hm'
      replace h1 : ρ (.tmp 13) = .slice A1 L1.length c1 := h1
      refine gx_genP (fun K hK => ?_)
      go_simp
      with_reducible refine (total_any A1 c1 L1 _ ((q1.drewR.chg hR (fun a ha => (b1 a ha).2))) (by omega)).mono ?_
      rintro e w1 ⟨⟨z, rfl⟩, rfl⟩
      exact ⟨_, rfl, hK _ _ ⟨⟨z, rfl⟩, Chg.refl _ _, hI.mono (by omega)⟩⟩
    refine ⟨opOK_ds [(14, some 4)] (by kernel_rfl) rfl ?_, ?_⟩
    · intro mm act w' hm' hR hI h1
      have hk : ∀ v, act.eval (.const v) = v := fun _ => rfl
      have hf : ∀ f, act.eval (.func f) = .func (.func f) #[] #[] := fun _ => rfl
      generalize act.eval = ρ at *
      have hm : mm < 18 := hm'
      replace h1 : (fun v _ => ∃ z : Int, v = .int .i64 z) (ρ (.tmp 14)) w' := h1
      refine gx_genP (fun K hK => ?_)
      obtain ⟨z1, h1⟩ := h1
      go_simp
      exact hK _ _ ⟨⟨_, rfl⟩, Chg.refl _ _, hI.mono (by omega)⟩
    refine ⟨opOK_ds [(5, none)] (by kernel_rfl) rfl ?_, ?_⟩
    · intro mm act w' hm' hR hI h1
      have hk : ∀ v, act.eval (.const v) = v := fun _ => rfl
      have hf : ∀ f, act.eval (.func f) = .func (.func f) #[] #[] := fun _ => rfl
      generalize act.eval = ρ at *
      have hm : mm < 18 := hm'
      replace h1 : ρ (.tmp 5) = .pointer (some ⟨bx, 0, none⟩) := h1
      refine gx_genP (fun K hK => ?_)
      go_simp
      exact hK _ _ ⟨rfl, Chg.refl _ _, hI.mono (by omega)⟩
    refine ⟨opOK_ds [(16, some 6)] (by kernel_rfl) rfl ?_, ?_⟩
    · intro mm act w' hm' hR hI h1
      have hk : ∀ v, act.eval (.const v) = v := fun _ => rfl
      have hf : ∀ f, act.eval (.func f) = .func (.func f) #[] #[] := fun _ => rfl
      generalize act.eval = ρ at *
      have hm : mm < 18 := hm'
      replace h1 : ρ (.tmp 16) = .pointer (some ⟨bx, 0, none⟩) := h1
      refine gx_genP (fun K hK => ?_)
      obtain ⟨d0, d1⟩ := c2L ((hR.block bx (by simpa using hbl) (by simpa using hb1)).trans HX.out)
      go_simp
      exact hK _ _ ⟨rfl, Chg.refl _ _, hI.mono (by omega)⟩
    refine ⟨opOK_ds [(17, some 7)] (by kernel_rfl) rfl ?_, ?_⟩
    · intro mm act w' hm' hR hI h1
      have hk : ∀ v, act.eval (.const v) = v := fun _ => rfl
      have hf : ∀ f, act.eval (.func f) = .func (.func f) #[] #[] := fun _ => rfl
      generalize act.eval = ρ at *
      have hm : mm < 18 := hm'
      replace h1 : ρ (.tmp 17) = .slice A1 L1.length c1 := h1
      refine gx_genP (fun K hK => ?_)
      go_simp
      with_reducible refine (total_any A1 c1 L1 _ ((q1.drewR.chg hR (fun a ha => (b1 a ha).2))) (by omega)).mono ?_
      rintro e w1 ⟨⟨z, rfl⟩, rfl⟩
      exact ⟨_, rfl, hK _ _ ⟨⟨z, rfl⟩, Chg.refl _ _, hI.mono (by omega)⟩⟩
    refine ⟨opOK_ds [(18, some 8)] (by kernel_rfl) rfl ?_, ?_⟩
    · intro mm act w' hm' hR hI h1
      have hk : ∀ v, act.eval (.const v) = v := fun _ => rfl
      have hf : ∀ f, act.eval (.func f) = .func (.func f) #[] #[] := fun _ => rfl
      generalize act.eval = ρ at *
      have hm : mm < 18 := hm'
      replace h1 : (fun v _ => ∃ z : Int, v = .int .i64 z) (ρ (.tmp 18)) w' := h1
      refine gx_genP (fun K hK => ?_)
      obtain ⟨z1, h1⟩ := h1
      go_simp
      exact hK _ _ ⟨⟨_, rfl⟩, Chg.refl _ _, hI.mono (by omega)⟩
    refine ⟨opOK_ds [(19, some 9)] (by kernel_rfl) rfl ?_, ?_⟩
    · intro mm act w' hm' hR hI h1
      have hk : ∀ v, act.eval (.const v) = v := fun _ => rfl
      have hf : ∀ f, act.eval (.func f) = .func (.func f) #[] #[] := fun _ => rfl
      generalize act.eval = ρ at *
      have hm : mm < 18 := hm'
      replace h1 : (fun v _ => ∃ z : Int, v = .int .i64 z) (ρ (.tmp 19)) w' := h1
      refine gx_genP (fun K hK => ?_)
      obtain ⟨z1, h1⟩ := h1
      go_simp
      exact hK _ _ ⟨⟨_, rfl⟩, Chg.refl _ _, hI.mono (by omega)⟩
    refine ⟨opOK_ds [(5, none)] (by kernel_rfl) rfl ?_, ?_⟩
    · intro mm act w' hm' hR hI h1
      have hk : ∀ v, act.eval (.const v) = v := fun _ => rfl
      have hf : ∀ f, act.eval (.func f) = .func (.func f) #[] #[] := fun _ => rfl
      generalize act.eval = ρ at *
      have hm : mm < 18 := hm'
      replace h1 : ρ (.tmp 5) = .pointer (some ⟨bx, 0, none⟩) := h1
      refine gx_genP (fun K hK => ?_)
      go_simp
      exact hK _ _ ⟨rfl, Chg.refl _ _, hI.mono (by omega)⟩
    refine ⟨opOK_ds [(21, some 11)] (by kernel_rfl) rfl ?_, ?_⟩
    · intro mm act w' hm' hR hI h1
      have hk : ∀ v, act.eval (.const v) = v := fun _ => rfl
      have hf : ∀ f, act.eval (.func f) = .func (.func f) #[] #[] := fun _ => rfl
      generalize act.eval = ρ at *
      have hm : mm < 18 := hm'
      replace h1 : ρ (.tmp 21) = .pointer (some ⟨bx, 1, none⟩) := h1
      refine gx_genP (fun K hK => ?_)
      obtain ⟨d0, d1⟩ := c2L ((hR.block bx (by simpa using hbl) (by simpa using hb1)).trans HX.out)
      go_simp
      exact hK _ _ ⟨rfl, Chg.refl _ _, hI.mono (by omega)⟩
    refine ⟨opOK_ds [(22, some 12)] (by kernel_rfl) rfl ?_, ?_⟩
    · intro mm act w' hm' hR hI h1
      have hk : ∀ v, act.eval (.const v) = v := fun _ => rfl
      have hf : ∀ f, act.eval (.func f) = .func (.func f) #[] #[] := fun _ => rfl
      generalize act.eval = ρ at *
      have hm : mm < 18 := hm'
      replace h1 : ρ (.tmp 22) = .slice A2 L2.length c2 := h1
      refine gx_genP (fun K hK => ?_)
      go_simp
      with_reducible refine (total_any A2 c2 L2 _ ((q2.drewR.chg hR (fun a ha => (b2 a ha).2))) (by omega)).mono ?_
      rintro e w1 ⟨⟨z, rfl⟩, rfl⟩
      exact ⟨_, rfl, hK _ _ ⟨⟨z, rfl⟩, Chg.refl _ _, hI.mono (by omega)⟩⟩
    refine ⟨opOK_ds [(15, some 5), (20, some 10), (23, some 13)] (by kernel_rfl) rfl ?_, ?_⟩
    · intro mm act w' hm' hR hI h1 h2 h3
      have hk : ∀ v, act.eval (.const v) = v := fun _ => rfl
      have hf : ∀ f, act.eval (.func f) = .func (.func f) #[] #[] := fun _ => rfl
      generalize act.eval = ρ at *
      have hm : mm < 18 := hm'
      replace h1 : (fun v _ => ∃ z : Int, v = .int .i64 z) (ρ (.tmp 15)) w' := h1
      replace h2 : (fun v _ => ∃ z : Int, v = .int .i64 z) (ρ (.tmp 20)) w' := h2
      replace h3 : (fun v _ => ∃ z : Int, v = .int .i64 z) (ρ (.tmp 23)) w' := h3
      refine gx_genP (fun K hK => ?_)
      have hrl := hI.lt
      obtain ⟨z1, h1⟩ := h1
      obtain ⟨z2, h2⟩ := h2
      obtain ⟨z3, h3⟩ := h3
      go_simp
      exact hK _ _ ⟨TL.lit (by omega) (by simp; omega) (by simp) (by simp [isI]), (Chg.refl _ _).alloc _, (hI.alloc _).mono (by omega)⟩
    refine ⟨opOK_ds [(11, some 1), (24, some 14)] (by kernel_rfl) rfl ?_, ?_⟩
    · intro mm act w' hm' hR hI h1 h2
      have hk : ∀ v, act.eval (.const v) = v := fun _ => rfl
      have hf : ∀ f, act.eval (.func f) = .func (.func f) #[] #[] := fun _ => rfl
      generalize act.eval = ρ at *
      have hm : mm < 18 := hm'
      replace h1 : ρ (.tmp 11) = .pointer (some ⟨rb, 0, none⟩) := h1
      replace h2 : (TL B [rb] 7) (ρ (.tmp 24)) w' := h2
      refine gx_genP (fun K hK => ?_)
      go_simp
      with_reducible refine (one_any _ hI (by omega) h2 (by omega) (by omega)).mono ?_
      rintro e w1 ⟨⟨z, rfl⟩, hr, hc⟩
      exact ⟨_, rfl, hK _ _ ⟨⟨z, rfl⟩, hc, hr.mono (by omega)⟩⟩
    exact trivial
  case hTs =>
    intro k v x y hv hc
    exact stab_listP (by
      intro T hT
      simp only [List.mem_cons, List.not_mem_nil, or_false] at hT
      rcases hT with rfl | rfl | rfl | rfl | rfl | rfl | rfl | rfl | rfl | rfl | rfl | rfl | rfl | rfl | rfl | rfl <;> first | exact fun v a b h _ => h | exact stabI _ _ (by omega) | exact fun v a b h hc => TL.keep h hc)
      k v x y hv hc
  case hI0 => exact (HR.out.drew).mono (by omega)
  case hfin =>
    intro w6 hR6 hI6
    intro v10 t10 v11 t11 v12 t12 v13 t13 v14 t14 v15 t15 v16 t16 v17 t17 v18 t18 v19 t19 v20 t20 v21 t21 v22 t22 v23 t23 v24 t24 v25 t25
    obtain ⟨r0, rfl⟩ : ∃ r : Int, v25 = .int .i64 r := t25
    obtain rfl : v10 = .agg #[.slice A1 L1.length c1, .slice A2 L2.length c2] := t10
    simp only [List.take, finP, Act.put, List.setIfInBounds_toArray, List.set_cons_succ, List.set_cons_zero]
    have hz6 := (hR6.block w.heap.size (by simpa using ltS HZ.out) (by simpa using hb2)).trans HZ.out
    have y0 := cellS hz6 0
    have y1 := cellS hz6 1
    have g0 := frozenS hz6 0
    have g1 := frozenS hz6 1
    have HZ6 := Lib.hid (put2L hz6 (.slice A1 L1.length c1) (.slice A2 L2.length c2))
    have HV1 := Lib.hid (nv_setP (nv_setP (q1.drewR.chg hR6 (fun a ha => (b1 a ha).2)) (fun a ha => (b1 a ha).1) 0 (.slice A1 L1.length c1)) (fun a ha => (b1 a ha).1) 1 (.slice A2 L2.length c2))
    have HV2 := Lib.hid (nv_setP (nv_setP (q2.drewR.chg hR6 (fun a ha => (b2 a ha).2)) (fun a ha => (b2 a ha).1) 0 (.slice A1 L1.length c1)) (fun a ha => (b2 a ha).1) 1 (.slice A2 L2.length c2))
    have HC6 := Lib.hid (((HC.out.trans ((Chg.drew (Chg.refl _ wa)).trans (hR6.mono (S' := [rb, w.heap.size]) (by simp)))).setCell (p := ⟨w.heap.size, 0, none⟩) (.inl (by simp)) (.slice A1 L1.length c1)).setCell (p := ⟨w.heap.size, 1, none⟩) (.inl (by simp)) (.slice A2 L2.length c2))
    clear hz6 hI6 hR6 HX HZ HR HC q1 q2 b1 b2
    refine wpAny_one (f := 1) (i := 16) (by kernel_rfl) rfl rfl ?_
    go_simp
    refine wpAny_one (f := 0) (i := 17) (by kernel_rfl) rfl rfl ?_
    go_simp
    refine wpAny_end (by kernel_rfl) ?_
    clear y0 y1 g0 g1 t11 t12 t13 t16 t17 t21 t22
    go_wp2
    refine bpL (fun W => W.heap[w.heap.size]? = some (.cells #[.slice A1 L1.length c1, .slice A2 L2.length c2] 35 (0, 0)) ∧ NV W A1 L1 ∧ NV W A2 L2 ∧ Below w.heap.size w W) ⟨HZ6.out, HV1.out, HV2.out, HC6.out.below (Nat.le_refl _) (by have := Hrb.out; simp; omega)⟩ ?_
    clear HZ6 HV1 HV2 HC6
    rintro W ⟨h0, n1, n2, hBB⟩
    obtain ⟨d0, d1⟩ := c2L h0
    refine bodyPost_ret (v := .tuple #[.agg #[.slice A1 L1.length c1, .slice A2 L2.length c2], .int .i64 r0]) (by simp only [results, Tryd.results12]; go_simp) rfl ?_
    first | exact ⟨⟨_, _, _, _, _, _, _, rfl, n1, n2, l1, l2, l3, l4⟩, hBB⟩ | exact ⟨⟨_, _, _, _, _, _, ⟨_, rfl⟩, n1, n2, l1, l2, l3, l4⟩, hBB⟩
end Go.Proofs.YtjdjahckdgbkbaeDoor
end
section
namespace Go.Proofs.YtjdjahckdgbkbaeDoor
set_option linter.unusedVariables false
/-! Panes have less, one after the other, along the indices of a list. -/
def gapI (M O : List Int) (i : Nat) : Int := O.getD i 0 - M.getD i 0
def goL (M : List Int) : List Nat → List Int → Int → List Int × Int
  | [], O, r => (O, r)
  | i :: t, O, r => goL M t (O.set i (O.getD i 0 - mn r (gapI M O i))) (r - mn r (gapI M O i))
/-- what remains of the way at an index -/
def Rem (n : Nat) (d : Int) : Int → List Nat → Prop
  | i, [] => ¬ (0 ≤ i ∧ i < n)
  | i, k :: t => i = k ∧ k < n ∧ Rem n d (i + d) t
theorem rem_fwd (n : Nat) : ∀ (m j : Nat), j + m = n → Rem n 1 j (List.range' j m)
  | 0, j, h => by show ¬ _; omega
  | m + 1, j, h => by
    rw [List.range'_succ]
    refine ⟨rfl, by omega, ?_⟩
    have := rem_fwd n m (j + 1) (by omega)
    simpa using this
def downs : Nat → List Nat
  | 0 => []
  | k + 1 => k :: downs k
theorem rem_bwd (n : Nat) : ∀ (k : Nat), k ≤ n → Rem n (-1) ((k : Int) - 1) (downs k)
  | 0, h => by show ¬ _; omega
  | k + 1, h => by
    refine ⟨by omega, by omega, ?_⟩
    have := rem_bwd n k (by omega)
    have e : ((k + 1 : Nat) : Int) - 1 + -1 = (k : Int) - 1 := by omega
    rw [e]; exact this
theorem downs_lt : ∀ {k i : Nat}, i ∈ downs k ↔ i < k
  | 0, i => by simp [downs]
  | k + 1, i => by simp only [downs, List.mem_cons, downs_lt (k := k)]; omega
theorem Rem.lt {n : Nat} {d : Int} : ∀ {t : List Nat} {i : Int}, Rem n d i t → ∀ k ∈ t, k < n
  | [], _, _ => by simp
  | k :: t, i, h => fun q hq => by
    rcases List.mem_cons.1 hq with rfl | hq
    · exact h.2.1
    · exact Rem.lt h.2.2 q hq
/-- sizes that are not less than the least ones -/
def GP (M O : List Int) : Prop := O.length = M.length ∧ ∀ (i : Nat) (o m : Int), O[i]? = some o → M[i]? = some m → 0 ≤ m ∧ m ≤ o ∧ o ≤ 400
theorem GP.gap {M O : List Int} (h : GP M O) (i : Nat) : 0 ≤ gapI M O i ∧ 0 ≤ O.getD i 0 ∧ O.getD i 0 ≤ 400 ∧ 0 ≤ M.getD i 0 := by
  unfold gapI
  by_cases hi : i < O.length
  · have e1 : O[i]? = some O[i] := List.getElem?_eq_getElem hi
    have hi' : i < M.length := by have := h.1; omega
    have e2 : M[i]? = some M[i] := List.getElem?_eq_getElem hi'
    have := h.2 i _ _ e1 e2
    rw [List.getD_eq_getElem?_getD, List.getD_eq_getElem?_getD, e1, e2]
    simp only [Option.getD_some]
    omega
  · have hi' : ¬ i < M.length := by have := h.1; omega
    rw [List.getD_eq_getElem?_getD, List.getD_eq_getElem?_getD, List.getElem?_eq_none (by omega), List.getElem?_eq_none (by omega)]
    simp
theorem GP.of {S M : List Int} (h : pnP S M) : GP M S := ⟨h.len.symm, fun i o m h1 h2 => by have := h.at h1 h2; unfold okP at this; omega⟩
theorem GP.step {M O : List Int} (h : GP M O) (i : Nat) {k : Int} (h0 : 0 ≤ k) (h1 : k ≤ gapI M O i) : GP M (O.set i (O.getD i 0 - k)) := by
  refine ⟨by rw [List.length_set]; exact h.1, fun j o m ho hm => ?_⟩
  by_cases e : i = j
  · subst e
    have hj := (List.getElem?_eq_some_iff.1 ho).1
    rw [List.length_set] at hj
    rw [List.getElem?_set_self hj] at ho
    obtain rfl := Option.some.inj ho
    have hg := h.gap i
    have hm' : M.getD i 0 = m := by rw [List.getD_eq_getElem?_getD, hm]; rfl
    unfold gapI at h1 hg
    rw [hm'] at h1 hg
    omega
  · rw [List.getElem?_set_ne e] at ho
    exact h.2 j o m ho hm
theorem set_selfD {O : List Int} {i : Nat} : O.set i (O.getD i 0) = O := by
  apply List.ext_getElem?
  intro j
  by_cases e : i = j
  · subst e
    by_cases hi : i < O.length
    · rw [List.getElem?_set_self hi, List.getD_eq_getElem?_getD, List.getElem?_eq_getElem hi]; rfl
    · rw [List.getElem?_eq_none (by rw [List.length_set]; omega), List.getElem?_eq_none (by omega)]
  · rw [List.getElem?_set_ne e]
theorem goL_zero {M : List Int} : ∀ (t : List Nat) {O : List Int}, GP M O → goL M t O 0 = (O, 0)
  | [], O, _ => rfl
  | i :: t, O, h => by
    have hg := (h.gap i).1
    have hm : mn 0 (gapI M O i) = 0 := by have := mn_spec 0 (gapI M O i); omega
    rw [goL, hm, Int.sub_zero, Int.sub_zero, set_selfD]
    exact goL_zero t h
theorem sumI_set : ∀ {O : List Int} {i : Nat} (x : Int), i < O.length → sumI (O.set i x) = sumI O - O.getD i 0 + x
  | [], i, x, h => by simp at h
  | o :: O, 0, x, h => by simp [sumI]; omega
  | o :: O, i + 1, x, h => by
    have := sumI_set (O := O) (i := i) x (by simpa using h)
    simp only [List.set_cons_succ, sumI, List.getD_cons_succ]
    omega
structure GoS (M O R : List Int) (t : List Nat) (r s : Int) : Prop where
  gp : GP M R
  lo : 0 ≤ s
  hi : s ≤ r
  sum : sumI R = sumI O - (r - s)
  le : ∀ i, R.getD i 0 ≤ O.getD i 0
  out : ∀ i, i ∉ t → R[i]? = O[i]?
  far : 0 < s → ∀ i ∈ t, R.getD i 0 = M.getD i 0
theorem goL_spec {M : List Int} : ∀ (t : List Nat) {O : List Int} {r : Int}, GP M O → 0 ≤ r → (∀ i ∈ t, i < O.length) → GoS M O (goL M t O r).1 t r (goL M t O r).2
  | [], O, r, h, hr, _ => ⟨h, hr, Int.le_refl _, by simp [goL], fun i => Int.le_refl _, fun i _ => rfl, fun _ i hi => by simp at hi⟩
  | i :: t, O, r, h, hr, ht => by
    have hg := h.gap i
    have hm := mn_spec r (gapI M O i)
    obtain ⟨k, hk⟩ : ∃ k, mn r (gapI M O i) = k := ⟨_, rfl⟩
    rw [goL, hk]
    rw [hk] at hm
    have hi : i < O.length := ht i List.mem_cons_self
    have hs := goL_spec t (O := O.set i (O.getD i 0 - k)) (r := r - k) (h.step i (by omega) (by omega)) (by omega) (fun j hj => by rw [List.length_set]; exact ht j (List.mem_cons_of_mem _ hj))
    have hsum := sumI_set (O := O) (i := i) (O.getD i 0 - k) hi
    have hget : (O.set i (O.getD i 0 - k)).getD i 0 = O.getD i 0 - k := by
      rw [List.getD_eq_getElem?_getD, List.getElem?_set_self hi]; rfl
    have hne : ∀ j, j ≠ i → (O.set i (O.getD i 0 - k)).getD j 0 = O.getD j 0 := fun j hj => by
      rw [List.getD_eq_getElem?_getD, List.getElem?_set_ne (Ne.symm hj), ← List.getD_eq_getElem?_getD]
    refine ⟨hs.gp, hs.lo, by have := hs.hi; omega, by have := hs.sum; omega, fun j => ?_, fun j hj => ?_, fun h0 j hj => ?_⟩
    · have := hs.le j
      by_cases e : j = i
      · subst e; rw [hget] at this; omega
      · rw [hne j e] at this; exact this
    · rw [List.mem_cons, not_or] at hj
      rw [hs.out j hj.2, List.getElem?_set_ne (Ne.symm hj.1)]
    · rcases List.mem_cons.1 hj with rfl | hj
      · have h1 := hs.hi
        have h2 := hs.le j
        rw [hget] at h2
        have h3 := (hs.gp.gap j).1
        unfold gapI at h3 hm
        omega
      · exact hs.far h0 j hj
theorem gapD {L : List Int} {i : Nat} {x : Int} (h : L[i]? = some x) : L.getD i 0 = x := by rw [List.getD_eq_getElem?_getD, h]; rfl
end Go.Proofs.YtjdjahckdgbkbaeDoor
end
section
namespace Go.Proofs.YtjdjahckdgbkbaeDoor
open Go.RowKit
set_option linter.unusedVariables false
set_option maxHeartbeats 1000000
attribute [local go_sem 5000] run_mx run_mn
attribute [local go_sem] growUpon_value growUpon_skip growUpon_enter
theorem gkeepP {w w' w2 : World} {g : Nat} (h : w.grownBy w' (some g)) (hb : Below w'.heap.size w' w2) : w.grownBy w2 (some g) :=
  ⟨hb.os.trans h.os, hb.tape.trans h.tape, hb.output.trans h.output, Nat.le_trans h.size hb.size, fun k hk hne => (hb.block k (Nat.lt_of_lt_of_le hk h.size)).trans (h.block k hk hne)⟩
theorem gtransP {w w' w2 : World} {g : Nat} (h : w.grownBy w' (some g)) (hb : w'.grownBy w2 (some g)) : w.grownBy w2 (some g) :=
  ⟨hb.os.trans h.os, hb.tape.trans h.tape, hb.output.trans h.output, Nat.le_trans h.size hb.size, fun k hk hne => (hb.block k (Nat.lt_of_lt_of_le hk h.size) hne).trans (h.block k hk hne)⟩
theorem greflP (w : World) (g : Nat) : w.grownBy w (some g) := ⟨rfl, rfl, rfl, Nat.le_refl _, fun _ _ _ => rfl⟩
theorem OB.other {w w' : World} {g g' cap : Nat} {L : List Int} (h : OB w g cap L) (hg : w.grownBy w' (some g')) (hne : g ≠ g') : OB w' g cap L :=
  h.sameh (hg.block g h.lt (fun e => hne (Option.some.inj e)))
set_option maxRecDepth 100000 in
theorem take_v (p g1 q1 g2 q2 N N' : Nat) (S M : List Int) (n i d : Int) (t : List Nat) (w : World) (hp : w.heap[p]? = some (.cells #[.slice (some ⟨g1, 0, none⟩) N q1, .slice (some ⟨g2, 0, none⟩) N' q2] 35 (0, 0))) (hN : N = S.length) (hN' : N' = M.length)
    (h1 : OB w g1 q1 S) (h2 : OB w g2 q2 M) (hp1 : p ≠ g1) (hp2 : p ≠ g2) (h12 : g1 ≠ g2) (hgp : GP M S) (hl : S.length ≤ 6) (hd : d = 1 ∨ d = -1) (ht : Rem S.length d i t) (hi0 : -1 ≤ i) (hi1 : i ≤ S.length) (hn0 : 0 ≤ n) (hn1 : n ≤ 1000) :
    Calls Tryd.prog 56 #[.pointer (some ⟨p, 0, none⟩), .int .i64 n, .int .i64 i, .int .i64 d] w fun e w' => e = .returned (.int .i64 (n - (goL M t S n).2)) ∧ OB w' g1 q1 (goL M t S n).1 ∧ w.grownBy w' (some g1) := by
  subst hN hN'
  have HP := Lib.hid hp
  have H1 := Lib.hid h1
  have H2 := Lib.hid h2
  have HG := Lib.hid hgp
  have HT := Lib.hid ht
  have HSP := Lib.hid (goL_spec t hgp hn0 ht.lt)
  obtain ⟨F, hF⟩ : ∃ F, goL M t S n = F := ⟨_, rfl⟩
  rw [hF] at HSP ⊢
  have HF := Lib.hid hF
  have hlm : M.length = S.length := hgp.1.symm
  have hd0 : -1 ≤ d := by omega
  have hd1 : d ≤ 1 := by omega
  have HD := Lib.hid hd
  clear hp h1 h2 hgp ht hF hd
  go_enter Tryd.func56, Tryd.ntmps56
  go_wp2_with fail
  go_loopw [9, 10] (fun r i wr => ∃ (r' i' : Int) (t' : List Nat) (O : List Int), r = .int .i64 r' ∧ i = .int .i64 i' ∧ Rem S.length d i' t' ∧ goL M t' O r' = F ∧ GP M O ∧ (0 ≤ r' ∧ r' ≤ 1000) ∧ (-1 ≤ i' ∧ i' ≤ S.length) ∧ OB wr g1 q1 O ∧ w.grownBy wr (some g1)) (fun _ i _ => (if d = 1 then (S.length : Int) - intOf i else intOf i + 1).toNat)
  case atStart => exact ⟨n, i, t, S, rfl, rfl, HT.out, HF.out, HG.out, ⟨hn0, hn1⟩, ⟨hi0, hi1⟩, H1.out, greflP _ _⟩
  case round =>
    obtain ⟨r', i', t', O, rfl, rfl, hrem, hfin, hgp, ⟨hr0, hr1⟩, ⟨hj0, hj1⟩, ho, hgr⟩ := hrel
    have hlO : O.length = S.length := by have := hgp.1; omega
    have hpc := (hgr.block p (ltS HP.out) (fun e => hp1 (Option.some.inj e))).trans HP.out
    have k0 : wr.cell? ⟨p, 0, none⟩ = some (.slice (some ⟨g1, 0, none⟩) S.length q1) := (cellS hpc 0).trans rfl
    have k1 : wr.cell? ⟨p, 1, none⟩ = some (.slice (some ⟨g2, 0, none⟩) M.length q2) := (cellS hpc 1).trans rfl
    have ho2 := H2.out.other hgr (Ne.symm h12)
    have HO := Lib.hid ho
    have HGR := Lib.hid hgr
    have HGP := Lib.hid hgp
    have HFI := Lib.hid hfin
    have HO2 := Lib.hid ho2
    clear hpc ho hgr hgp hfin ho2 H1 HG HT HF
    match t', hrem with
    | [], hrem =>
      have hw : rng i' 0 ((S.length : Int) - 1) = false := by rw [rng_not]; have : ¬ (0 ≤ i' ∧ i' < S.length) := hrem; omega
      have hfe : (O, r') = F := HFI.out
      clear hrem
      go_wp2_with fail
      with_reducible refine (within_P _ _ _ false _ hw).mono ?_
      rintro e w2 ⟨rfl, rfl⟩
      go_wp2
      go_ret
      exact ⟨by rw [← hfe]; rfl, by rw [← hfe]; exact HO.out, HGR.out⟩
    | k :: t2, hrem =>
      obtain ⟨rfl, hk, hrem2⟩ := hrem
      have hw : rng (k : Int) 0 ((S.length : Int) - 1) = true := by rw [rng_iff]; omega
      have hkd : (k : Int) < S.length := by omega
      have hd1' : decide ((k : Int) < (S.length : Int)) = true := by simpa using hk
      have hd2' : decide ((k : Int) < (M.length : Int)) = true := by rw [hlm]; simpa using hk
      have hkO : k < O.length := by omega
      have hkM : k < M.length := by omega
      have e1 : O[k]? = some O[k] := List.getElem?_eq_getElem hkO
      have e2 : M[k]? = some M[k] := List.getElem?_eq_getElem hkM
      have d1 := gapD e1
      have d2 := gapD e2
      obtain ⟨b1, b2, b3⟩ := HGP.out.2 k _ _ e1 e2
      have c1 := HO.out.cell e1
      have c2 := HO2.out.cell e2
      generalize O[k] = o at *
      generalize M[k] = m at *
      have hgap : gapI M O k = o - m := by rw [gapI, d1, d2]
      have hstep : goL M t2 (O.set k (o - mn r' (o - m))) (r' - mn r' (o - m)) = F := by have := HFI.out; rw [goL, hgap, d1] at this; exact this
      have hmn := mn_spec r' (o - m)
      have hgs := HGP.out.step k (k := mn r' (o - m)) (by omega) (by rw [hgap]; omega)
      rw [d1] at hgs
      obtain ⟨x, hx⟩ : ∃ x, mn r' (o - m) = x := ⟨_, rfl⟩
      have hx0 : 0 ≤ x := by omega
      have hx1 : x ≤ r' := by omega
      have hx2 : x ≤ o - m := by omega
      have wo : IntKind.i64.wrap (o - m) = o - m := IntWalk.i64_in _ (by omega)
      rw [hx] at hstep hgs
      have HGS := Lib.hid hgs
      have HST := Lib.hid hstep
      have HRM := Lib.hid hrem2
      have hlm2 : M.length = S.length := hlm
      clear hgs hstep hmn hgap e1 e2 d1 d2 HFI hrem2 HSP hlm
      go_wp2_with fail
      with_reducible refine (within_P _ _ _ true _ hw).mono ?_
      rintro e w2 ⟨rfl, rfl⟩
      go_wp2_with fail
      refine wp_region_grow 18 0 (· < 18) (by kernel_rfl) (by kernel_rfl) rfl ?_
      iterate 18 (refine wpG_step (fun K hK => ?_); first | (refine grow_skip rfl ?_; go_simp; refine hK _ ?_; clear hK K) | (apply Exists.intro; refine ⟨.inl ⟨rfl, fun w' hw' => ?_⟩, ?_⟩; (focus ((obtain ⟨hc, hf⟩ := bcell hw'.out); (have hcS := bcellS hw'.out); go_simp <;> first | rfl | fail)); (go_simp; refine hK _ ?_; clear hK K)))
      refine wpG_nil ?_
      refine wpK_tail (by kernel_rfl) (fun w9 hg9 => ?_)
      have hb9 := bdrewn hg9.out
      refine wpAny_end (by kernel_rfl) ?_
      refine NoPan.thn ?_
      clear hg9
      have HO9 := Lib.hid (HO.out.keep hb9)
      have HG9 := Lib.hid (gkeepP HGR.out hb9)
      obtain ⟨hc9, hf9⟩ := bcell hb9
      have k09 := (hb9.cell (p := ⟨p, 0, none⟩) (Nat.lt_of_lt_of_le (ltS HP.out) HGR.out.size)).trans k0
      have c19 := (hb9.cell (p := ⟨g1, k, none⟩) HO.out.lt).trans c1
      have f9 := HO9.out.frozen k
      have HOS := Lib.hid (HO9.out.set k (o - x) hkO)
      have HGS2 := Lib.hid (gsetP HG9.out k (.int .i64 (o - x)))
      clear hb9 hc9 hf9 k0 k1 c1 c2 HO HO2 HGR HGP
      go_wp2
      go_roundw
      case rel => exact ⟨r' - x, k + d, t2, O.set k (o - x), by go_num, by go_num, HRM.out, HST.out, HGS.out, ⟨by omega, by omega⟩, ⟨by omega, by omega⟩, HOS.out, HGS2.out⟩
      case measure =>
        rcases HD.out with rfl | rfl
        · simp [intOf]; omega
        · simp [intOf]; omega
end Go.Proofs.YtjdjahckdgbkbaeDoor
end
section
namespace Go.Proofs.YtjdjahckdgbkbaeDoor
set_option linter.unusedVariables false
/-- the way of a dragged sash, the pane that has more, and what is asked -/
def wayD (n k : Nat) (y : Int) : List Nat := if y < 0 then downs (k + 1) else List.range' (k + 1) (n - (k + 1))
def hasD (k : Nat) (y : Int) : Nat := if y < 0 then k + 1 else k
def askD (y : Int) : Int := if y < 0 then -y else y
def dragM (S M : List Int) (k : Nat) (y : Int) : List Int :=
  let F := goL M (wayD S.length k y) S (askD y)
  F.1.set (hasD k y) (F.1.getD (hasD k y) 0 + (askD y - F.2))
theorem dragM_neg {S M : List Int} {k : Nat} {y : Int} (h : y < 0) : dragM S M k y = (goL M (downs (k + 1)) S (-y)).1.set (k + 1) ((goL M (downs (k + 1)) S (-y)).1.getD (k + 1) 0 + (-y - (goL M (downs (k + 1)) S (-y)).2)) := by
  simp only [dragM, wayD, hasD, askD, if_pos h]
theorem dragM_pos {S M : List Int} {k : Nat} {y : Int} (h : ¬ y < 0) : dragM S M k y = (goL M (List.range' (k + 1) (S.length - (k + 1))) S y).1.set k ((goL M (List.range' (k + 1) (S.length - (k + 1))) S y).1.getD k 0 + (y - (goL M (List.range' (k + 1) (S.length - (k + 1))) S y).2)) := by
  simp only [dragM, wayD, hasD, askD, if_neg h]
theorem dragM_len {S M : List Int} {k : Nat} {y : Int} (hv : pnP S M) (hk : k + 1 < S.length) : (dragM S M k y).length = S.length := by
  have h1 := (goL_spec (wayD S.length k y) (GP.of hv) (r := askD y) (by unfold askD; split <;> omega) (fun i hi => by
    unfold wayD at hi
    split at hi
    · have := downs_lt.1 hi; omega
    · rw [List.mem_range'_1] at hi; omega)).gp.1
  simp only [dragM, List.length_set]
  rw [h1, hv.len]
end Go.Proofs.YtjdjahckdgbkbaeDoor
end
section
namespace Go.Proofs.YtjdjahckdgbkbaeDoor
open Go.RowKit
set_option linter.unusedVariables false
set_option maxHeartbeats 1000000
attribute [local go_sem 5000] run_mx run_mn
attribute [local go_sem] growUpon_value growUpon_skip growUpon_enter
end Go.Proofs.YtjdjahckdgbkbaeDoor
end
section
namespace Go.Proofs.YtjdjahckdgbkbaeDoor
open Go.RowKit
set_option linter.unusedVariables false
set_option maxHeartbeats 1000000
attribute [local go_sem 5000] run_mx run_mn
attribute [local go_sem] growUpon_value growUpon_skip growUpon_enter
theorem newP (w : World) (o o' : Obj) : ((w.alloc o).alloc o').heap[w.heap.size + 1]? = some o' := by
  have := newS (w.alloc o) o'; rwa [World.size_alloc] at this
theorem oldP (w : World) (o o' : Obj) : ((w.alloc o).alloc o').heap[w.heap.size]? = some o := (Below.heap_alloc _ o' w.heap.size (by simp)).trans (newS w o)
theorem c2P {w : World} {b : Nat} {a0 a1 : Value} {T : TypeId} {fz : Nat × Nat} (h : w.heap[b]? = some (.cells #[a0, a1] T fz)) : w.cell? ⟨b, 0, none⟩ = some a0 ∧ w.cell? ⟨b, 1, none⟩ = some a1 := ⟨cellS h 0, cellS h 1⟩
theorem f2P {w : World} {b : Nat} {cs : Array Value} {T : TypeId} (h : w.heap[b]? = some (.cells cs T (0, 0))) : w.frozen? ⟨b, 0, none⟩ = false ∧ w.frozen? ⟨b, 1, none⟩ = false := ⟨frozenS h 0, frozenS h 1⟩
theorem put2P {w : World} {b : Nat} {a0 a1 : Value} {T : TypeId} {fz : Nat × Nat} (h : w.heap[b]? = some (.cells #[a0, a1] T fz)) (x0 x1 : Value) :
    ((w.setCell ⟨b, 0, none⟩ x0).setCell ⟨b, 1, none⟩ x1).heap[b]? = some (.cells #[x0, x1] T fz) := by
  rw [putS (putS h x0) x1]; rfl
theorem put2o {w : World} {b b' : Nat} (h : b' ≠ b) (x0 x1 : Value) : ((w.setCell ⟨b, 0, none⟩ x0).setCell ⟨b, 1, none⟩ x1).heap[b']? = w.heap[b']? := by
  rw [Below.heap_setCell _ _ _ _ h, Below.heap_setCell _ _ _ _ h]
theorem put2B {B b : Nat} {a w : World} (h : Below B a w) (hb : B ≤ b) (x0 x1 : Value) : Below B a ((w.setCell ⟨b, 0, none⟩ x0).setCell ⟨b, 1, none⟩ x1) := (h.setCell hb _).setCell hb _
theorem bpP {P : Program} {f : Func} {R : Ending → World → Prop} {e : Exit} {a : Act} {W : World} (F : World → Prop) (hF : F W) (h : ∀ W0, F W0 → bodyPost P f R e a W0) : bodyPost P f R e a W := h W hF
theorem below_gP {W w w' : World} {g : Nat} (h : Below W.heap.size W w) (hg : w.grownBy w' (some g)) (hn : W.heap.size ≤ g) : Below W.heap.size W w' :=
  ⟨hg.os.trans h.os, hg.tape.trans h.tape, hg.output.trans h.output, Nat.le_trans h.size hg.size, fun k hk => (hg.block k (Nat.lt_of_lt_of_le hk h.size) (fun e => by cases e; omega)).trans (h.block k hk)⟩
theorem within_PB (n a b : Int) (t : Bool) (w : World) (h : rng n a b = t) : Calls Tryd.prog 30 #[.int .i64 n, .int .i64 a, .int .i64 b] w fun e w' => e = .returned (.bool t) ∧ Below w.heap.size w w' := (within_P n a b t w h).mono (by rintro e w' ⟨rfl, rfl⟩; exact ⟨rfl, Below.refl _ _⟩)
end Go.Proofs.YtjdjahckdgbkbaeDoor
end
