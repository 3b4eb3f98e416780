import Derived.Test.YtpbfbcdidkbjiabQ07
import Derived.IntWalk
import Derived.Deep.Cut
section
namespace Go.Proofs.Ytpbfbcdidkbjiab
open Go.RowKit
set_option linter.unusedVariables false
set_option maxHeartbeats 1000000
attribute [local go_sem] growUpon_value growUpon_skip growUpon_enter
/-- panes in two blocks of their own, from lo up to hi -/
def PS (lo hi : Nat) (w : World) (v : Value) (S M : List Int) : Prop := (v = .agg #[.slice none 0 0, .slice none 0 0] ∧ S = [] ∧ M = []) ∨
  ∃ g1 c1 g2 c2, v = .agg #[.slice (some ⟨g1, 0, none⟩) S.length c1, .slice (some ⟨g2, 0, none⟩) M.length c2] ∧ lo ≤ g1 ∧ g1 < hi ∧ lo ≤ g2 ∧ g2 < hi ∧ g1 ≠ g2 ∧ OB w g1 c1 S ∧ OB w g2 c2 M
/-- panes that read so -/
def PR (w : World) (v : Value) (S M : List Int) : Prop := ∃ a b, v = .agg #[a, b] ∧ NR w a S ∧ NR w b M
theorem PR.keep {w w' : World} {v : Value} {S M : List Int} (h : PR w v S M) (hb : Below w.heap.size w w') : PR w' v S M := let ⟨a, b, e, h1, h2⟩ := h; ⟨a, b, e, h1.keep hb, h2.keep hb⟩
theorem PS.keep {lo hi : Nat} {w w' : World} {v : Value} {S M : List Int} (h : PS lo hi w v S M) (hb : Below w.heap.size w w') : PS lo hi w' v S M :=
  h.imp id fun ⟨g1, c1, g2, c2, e, a1, a2, a3, a4, a5, o1, o2⟩ => ⟨g1, c1, g2, c2, e, a1, a2, a3, a4, a5, o1.keep hb, o2.keep hb⟩
theorem PS.pr {lo hi : Nat} {w : World} {v : Value} {S M : List Int} (h : PS lo hi w v S M) : PR w v S M := by
  rcases h with ⟨rfl, rfl, rfl⟩ | ⟨g1, c1, g2, c2, rfl, _, _, _, _, _, o1, o2⟩
  · exact ⟨_, _, rfl, ⟨none, 0, rfl, NV.nil _ _⟩, ⟨none, 0, rfl, NV.nil _ _⟩⟩
  · exact ⟨_, _, rfl, o1.nr rfl _, o2.nr rfl _⟩
theorem nrOf {w : World} {A : Option Addr} {L : List Int} (c : Nat) (h : NV w A L) : NR w (.slice A L.length c) L := ⟨A, c, rfl, h⟩
/-- only blocks from lo up to hi are changed -/
structure CB (lo hi : Nat) (w w' : World) : Prop where
  os : w'.os = w.os
  tape : w'.tape = w.tape
  output : w'.output = w.output
  size : w.heap.size ≤ w'.heap.size
  block : ∀ k, k < w.heap.size → (k < lo ∨ hi ≤ k) → w'.heap[k]? = w.heap[k]?
theorem CB.below {lo hi : Nat} {w w' : World} (h : CB lo hi w w') (hl : lo ≤ w.heap.size) : Below lo w w' := ⟨h.os, h.tape, h.output, h.size, fun k hk => h.block k (by omega) (.inl hk)⟩
theorem CB.of {lo hi : Nat} {w w' : World} (h : Below w.heap.size w w') : CB lo hi w w' := ⟨h.os, h.tape, h.output, h.size, fun k hk _ => h.block k hk⟩
theorem CB.ofg {lo hi g : Nat} {w w' : World} (h : w.grownBy w' (some g)) (h1 : lo ≤ g) (h2 : g < hi) : CB lo hi w w' := ⟨h.os, h.tape, h.output, h.size, fun k hk hn => h.block k hk (fun e => by cases e; omega)⟩
theorem CB.trans {lo hi : Nat} {w w' w2 : World} (h : CB lo hi w w') (k : CB lo hi w' w2) : CB lo hi w w2 := ⟨k.os.trans h.os, k.tape.trans h.tape, k.output.trans h.output, Nat.le_trans h.size k.size, fun b hb hn => (k.block b (Nat.lt_of_lt_of_le hb h.size) hn).trans (h.block b hb hn)⟩
theorem PS.but {lo hi lo' hi' : Nat} {w w' : World} {v : Value} {S M : List Int} (h : PS lo hi w v S M) (hc : CB lo' hi' w w') (hd : hi' ≤ lo) : PS lo hi w' v S M :=
  h.imp id fun ⟨g1, c1, g2, c2, e, a1, a2, a3, a4, a5, o1, o2⟩ => ⟨g1, c1, g2, c2, e, a1, a2, a3, a4, a5, o1.sameL (hc.block g1 o1.lt (.inr (by omega))), o2.sameL (hc.block g2 o2.lt (.inr (by omega)))⟩
def PSM (w : World) (v : Value) (n m : Nat) : Prop := (v = .agg #[.slice none 0 0, .slice none 0 0] ∧ n = 0 ∧ m = 0) ∨
  ∃ g1 c1 g2 c2, v = .agg #[.slice (some ⟨g1, 0, none⟩) n c1, .slice (some ⟨g2, 0, none⟩) m c2] ∧ OB w g1 c1 (MKo 1 n) ∧ OB w g2 c2 (MKo (1 + (n : Int)) m)
theorem PSM.keep {w w' : World} {v : Value} {n m : Nat} (h : PSM w v n m) (hb : Below w.heap.size w w') : PSM w' v n m :=
  h.imp id fun ⟨g1, c1, g2, c2, e, o1, o2⟩ => ⟨g1, c1, g2, c2, e, o1.keep hb, o2.keep hb⟩
theorem c2L {w : World} {b : Nat} {a0 a1 : Value} {T : TypeId} {fz : Nat × Nat} (h : w.heap[b]? = some (.cells #[a0, a1] T fz)) : w.cell? ⟨b, 0, none⟩ = some a0 ∧ w.cell? ⟨b, 1, none⟩ = some a1 := ⟨cellS h 0, cellS h 1⟩
theorem f2L {w : World} {b : Nat} {cs : Array Value} {T : TypeId} (h : w.heap[b]? = some (.cells cs T (0, 0))) : w.frozen? ⟨b, 0, none⟩ = false ∧ w.frozen? ⟨b, 1, none⟩ = false := ⟨frozenS h 0, frozenS h 1⟩
theorem put2L {w : World} {b : Nat} {a0 a1 : Value} {T : TypeId} {fz : Nat × Nat} (h : w.heap[b]? = some (.cells #[a0, a1] T fz)) (x0 x1 : Value) :
    ((w.setCell ⟨b, 0, none⟩ x0).setCell ⟨b, 1, none⟩ x1).heap[b]? = some (.cells #[x0, x1] T fz) := by
  rw [putS (putS h x0) x1]; rfl
theorem put2oL {w : World} {b b' : Nat} (h : b' ≠ b) (x0 x1 : Value) : ((w.setCell ⟨b, 0, none⟩ x0).setCell ⟨b, 1, none⟩ x1).heap[b']? = w.heap[b']? := by
  rw [Below.heap_setCell _ _ _ _ h, Below.heap_setCell _ _ _ _ h]
theorem put2BL {B b : Nat} {a w : World} (h : Below B a w) (hb : B ≤ b) (x0 x1 : Value) : Below B a ((w.setCell ⟨b, 0, none⟩ x0).setCell ⟨b, 1, none⟩ x1) := (h.setCell hb _).setCell hb _
theorem bpL {P : Program} {f : Func} {R : Ending → World → Prop} {e : Exit} {a : Act} {W : World} (F : World → Prop) (hF : F W) (h : ∀ W0, F W0 → bodyPost P f R e a W0) : bodyPost P f R e a W := h W hF
theorem wpL2 {P : Program} {c : Code} {Q : Exit → Act → World → Prop} {a : Act} {W : World} (F : World → Prop) (hF : F W) (h : ∀ W0, F W0 → c.wp P Q a W0) : c.wp P Q a W := h W hF
theorem newL1 (w : World) (o o' : Obj) : ((w.alloc o).alloc o').heap[w.heap.size + 1]? = some o' := by
  have := newS (w.alloc o) o'; rwa [World.size_alloc] at this
theorem newL2 (w : World) (o o' o2 : Obj) : (((w.alloc o).alloc o').alloc o2).heap[w.heap.size + 1 + 1]? = some o2 := by
  have := newL1 (w.alloc o) o' o2; rwa [World.size_alloc] at this
theorem oldL1 (w : World) (o o' : Obj) : ((w.alloc o).alloc o').heap[w.heap.size]? = some o := (Below.heap_alloc _ o' w.heap.size (by simp)).trans (newS w o)
set_option maxRecDepth 100000 in
theorem szPanes_yes (A A' : Option Addr) (n c n' c' : Nat) (w : World) (h : n + n' ≤ 1048576) : Calls Try.prog 8 #[.agg #[.slice A n c, .slice A' n' c'], .int .i64 1048576] w fun e w' => (∃ z : Int, e = .returned (.int .i64 z) ∧ 0 ≤ z) ∧ Below w.heap.size w w' := by
  have q1 : ¬ (1048576 : Int) - n < 0 := by omega
  have q2 : ¬ (1048576 : Int) - n - n' < 0 := by omega
  have HB := Lib.hid (balloc (o := .cells #[.slice A n c, .slice A' n' c'] 24) (Below.refl w.heap.size w))
  go_enter Try.func8, Try.ntmps8
  go_wp2_with fail
  with_reducible refine (szIntS_yes A n c _ _ (by omega) (by omega)).mono ?_
  rintro e w1 ⟨rfl, rfl⟩
  go_wp2_with fail
  with_reducible refine (szIntS_yes A' n' c' _ _ (by omega) (by omega)).mono ?_
  rintro e w1 ⟨rfl, rfl⟩
  go_wp2
  go_ret
  exact ⟨⟨_, rfl, by omega⟩, HB.out⟩
set_option maxRecDepth 100000 in
theorem szPanes_no (A A' : Option Addr) (n c n' c' : Nat) (w : World) (h : ¬ n + n' ≤ 1048576) (h1 : n ≤ maxLen) (h2 : n' ≤ maxLen) : Calls Try.prog 8 #[.agg #[.slice A n c, .slice A' n' c'], .int .i64 1048576] w fun e w' => e = .returned (.int .i64 (-1)) ∧ Below w.heap.size w w' := by
  have HB := Lib.hid (balloc (o := .cells #[.slice A n c, .slice A' n' c'] 24) (Below.refl w.heap.size w))
  by_cases hn : n ≤ 1048576
  · have q1 : ¬ (1048576 : Int) - n < 0 := by omega
    go_enter Try.func8, Try.ntmps8
    go_wp2_with fail
    with_reducible refine (szIntS_yes A n c _ _ (by omega) (by omega)).mono ?_
    rintro e w1 ⟨rfl, rfl⟩
    go_wp2_with fail
    with_reducible refine (szIntS_no A' n' c' _ _ (by omega) (by omega) h2).mono ?_
    rintro e w1 ⟨rfl, rfl⟩
    go_wp2
    go_ret
    exact ⟨rfl, HB.out⟩
  · go_enter Try.func8, Try.ntmps8
    go_wp2_with fail
    with_reducible refine (szIntS_no A n c _ _ (by omega) (by omega) h1).mono ?_
    rintro e w1 ⟨rfl, rfl⟩
    go_wp2
    go_ret
    exact ⟨rfl, HB.out⟩
theorem nvX {w w1 : World} {g j : Nat} {x : Value} {A : Option Addr} {L : List Int} (h0 : NV w A L) (hb : Below w.heap.size w w1) (hg : w.heap.size ≤ g) : NV (w1.setCell ⟨g, j, none⟩ x) A L := h0.keep (hb.setCell hg x)
set_option maxRecDepth 100000 in
theorem toPanes_v (A A' : Option Addr) (c c' : Nat) (S M : List Int) (w : World) (h : NV w A S) (h' : NV w A' M) (hL : S.length ≤ 1048576) (hL' : M.length ≤ 1048576) :
    Calls Try.prog 10 #[.agg #[.slice A S.length c, .slice A' M.length c']] w fun e w' => (∃ v, e = .returned v ∧ PS w.heap.size w'.heap.size w' v S M) ∧ Below w.heap.size w w' := by
  go_enter Try.func10, Try.ntmps10
  go_upto_region 2 with (fail)
  refine wpL2 (fun W => W.heap[w.heap.size]? = some (.cells #[.slice A S.length c, .slice A' M.length c'] 24 (0, 0)) ∧ W.heap[w.heap.size + 1]? = some (.cells #[.slice none 0 0, .slice none 0 0] 27 (0, 0)) ∧ W.heap[w.heap.size + 1 + 1]? = some (.cells #[.slice none 0 0, .slice none 0 0] 27 (0, 0)) ∧ NV W A S ∧ NV W A' M ∧ Below w.heap.size w W) ⟨(Below.heap_alloc _ _ _ (by simp; omega)).trans (oldL1 _ _ _), (Below.heap_alloc _ _ _ (by simp)).trans (newL1 _ _ _), newL2 _ _ _ _, h.keep (balloc (balloc (balloc (Below.refl _ _)))), h'.keep (balloc (balloc (balloc (Below.refl _ _)))), balloc (balloc (balloc (Below.refl _ _)))⟩ ?_
  have H0' := Lib.hid h'
  clear h h'
  rintro w0 ⟨hx, hy, hz, hn, hn', hB⟩
  have HX := Lib.hid hx
  have HY := Lib.hid hy
  have HZ := Lib.hid hz
  have HN' := Lib.hid hn'
  have HB := Lib.hid hB
  have l0 := ltS hz
  obtain ⟨c0, c1⟩ := c2L hx
  clear hx hy hz hn' hB
  go_wp2_with fail
  with_reducible refine (toIntS_any A c S _ hn hL).mono ?_
  rintro e w1 ⟨rfl, hi1, hb⟩
  obtain ⟨g1, hg1⟩ : ∃ g, w0.heap.size = g := ⟨_, rfl⟩
  have l1 := hi1.lt
  rw [hg1] at hi1 l1 ⊢
  replace HX := Lib.hid ((hb.block _ (ltS HX.out)).trans HX.out)
  replace HY := Lib.hid ((hb.block _ (ltS HY.out)).trans HY.out)
  replace HZ := Lib.hid ((hb.block _ (ltS HZ.out)).trans HZ.out)
  replace HN' := Lib.hid (HN'.out.keep hb)
  replace HB := Lib.hid (bkeep2 HB.out hb)
  have HI1 := Lib.hid (hi1.ob rfl)
  clear hb hi1 hn c0 c1
  obtain ⟨c0, c1⟩ := c2L HX.out
  obtain ⟨d0, d1⟩ := c2L HZ.out
  obtain ⟨f0, f1⟩ := f2L HZ.out
  go_upto_region 3 with (fail)
  refine wpL2 (fun W => W.heap[w.heap.size]? = some (.cells #[.slice A S.length c, .slice A' M.length c'] 24 (0, 0)) ∧ W.heap[w.heap.size + 1]? = some (.cells #[.slice none 0 0, .slice none 0 0] 27 (0, 0)) ∧ W.heap[w.heap.size + 1 + 1]? = some (.cells #[.slice (some ⟨g1, 0, none⟩) S.length S.length, .slice none 0 0] 27 (0, 0)) ∧ NV W A' M ∧ OB W g1 S.length S ∧ Below w.heap.size w W) ⟨(Below.heap_setCell _ _ _ _ (by show w.heap.size ≠ w.heap.size + 1 + 1; omega)).trans HX.out, (Below.heap_setCell _ _ _ _ (by show w.heap.size + 1 ≠ w.heap.size + 1 + 1; omega)).trans HY.out, (putS HZ.out _).trans rfl, nvX H0'.out HB.out (by omega), HI1.out.sameL (Below.heap_setCell _ _ _ _ (by show g1 ≠ w.heap.size + 1 + 1; omega)), HB.out.setCell (by show w.heap.size ≤ w.heap.size + 1 + 1; omega) _⟩ ?_
  clear HX HY HZ HN' HI1 HB c0 c1 d0 d1 f0 f1
  rintro w2 ⟨hx, hy, hz, hn', hi1, hB⟩
  have HX := Lib.hid hx
  have HY := Lib.hid hy
  have HZ := Lib.hid hz
  have HB := Lib.hid hB
  have HI1 := Lib.hid hi1
  have l2 := hi1.lt
  obtain ⟨c0, c1⟩ := c2L hx
  clear hx hy hz hi1 hB l1
  go_wp2_with fail
  with_reducible refine (toIntS_any A' c' M _ hn' hL').mono ?_
  rintro e w3 ⟨rfl, hi2, hb⟩
  obtain ⟨g2, hg2⟩ : ∃ g, w2.heap.size = g := ⟨_, rfl⟩
  have l3 := hi2.lt
  rw [hg2] at hi2 l3 ⊢
  replace HX := Lib.hid ((hb.block _ (ltS HX.out)).trans HX.out)
  replace HY := Lib.hid ((hb.block _ (ltS HY.out)).trans HY.out)
  replace HZ := Lib.hid ((hb.block _ (ltS HZ.out)).trans HZ.out)
  replace HI1 := Lib.hid (HI1.out.keep hb)
  replace HB := Lib.hid (bkeep2 HB.out hb)
  have HI2 := Lib.hid (hi2.ob rfl)
  clear hb hi2 hn' c0 c1
  obtain ⟨c0, c1⟩ := c2L HX.out
  obtain ⟨d0, d1⟩ := c2L HZ.out
  obtain ⟨f0, f1⟩ := f2L HZ.out
  go_upto_region 4 with (fail)
  refine wpL2 (fun W => W.heap[w.heap.size + 1]? = some (.cells #[.slice none 0 0, .slice none 0 0] 27 (0, 0)) ∧ W.heap[w.heap.size + 1 + 1]? = some (.cells #[.slice (some ⟨g1, 0, none⟩) S.length S.length, .slice (some ⟨g2, 0, none⟩) M.length M.length] 27 (0, 0)) ∧ OB W g1 S.length S ∧ OB W g2 M.length M ∧ Below w.heap.size w W ∧ W.heap.size = w3.heap.size) ⟨(Below.heap_setCell _ _ _ _ (by show w.heap.size + 1 ≠ w.heap.size + 1 + 1; omega)).trans HY.out, (putS HZ.out _).trans rfl, HI1.out.sameL (Below.heap_setCell _ _ _ _ (by show g1 ≠ w.heap.size + 1 + 1; omega)), HI2.out.sameL (Below.heap_setCell _ _ _ _ (by show g2 ≠ w.heap.size + 1 + 1; omega)), HB.out.setCell (by show w.heap.size ≤ w.heap.size + 1 + 1; omega) _, by simp [World.setCell]⟩ ?_
  clear HX HY HZ HI1 HI2 HB c0 c1 d0 d1 f0 f1
  rintro w4 ⟨hy, hz, hi1, hi2, hB, hs4⟩
  have HY := Lib.hid hy
  have HB := Lib.hid hB
  have HI1 := Lib.hid hi1
  have HI2 := Lib.hid hi2
  obtain ⟨c0, c1⟩ := c2L hz
  obtain ⟨d0, d1⟩ := c2L hy
  obtain ⟨f0, f1⟩ := f2L hy
  clear hy hz hi1 hi2 hB
  go_wp2
  refine bpL (fun W => W.heap[w.heap.size + 1]? = some (.cells #[.slice (some ⟨g1, 0, none⟩) S.length S.length, .slice (some ⟨g2, 0, none⟩) M.length M.length] 27 (0, 0)) ∧ OB W g1 S.length S ∧ OB W g2 M.length M ∧ Below w.heap.size w W ∧ W.heap.size = w3.heap.size) ⟨put2L HY.out _ _, HI1.out.sameL (put2oL (by omega) _ _), HI2.out.sameL (put2oL (by omega) _ _), put2BL HB.out (by omega) _ _, by simp [World.setCell, hs4]⟩ ?_
  clear HY HB HI1 HI2 c0 c1 d0 d1 f0 f1
  rintro W ⟨hy, o1, o2, hB, hs⟩
  obtain ⟨d0, d1⟩ := c2L hy
  exact bodyPost_ret (v := .agg #[.slice (some ⟨g1, 0, none⟩) S.length S.length, .slice (some ⟨g2, 0, none⟩) M.length M.length]) (by simp only [results, Try.results10]; go_simp) rfl ⟨⟨_, rfl, .inr ⟨g1, _, g2, _, rfl, by omega, by omega, by omega, by omega, by omega, o1, o2⟩⟩, hB⟩
set_option maxRecDepth 100000 in
theorem eqPanes_same (v v' : Value) (S M : List Int) (w : World) (h : PR w v S M) (h' : PR w v' S M) (hL : S.length ≤ 1048576) (hL' : M.length ≤ 1048576) :
    Calls Try.prog 12 #[v, v'] w fun e w' => e = .returned (.bool true) ∧ Below w.heap.size w w' := by
  obtain ⟨a, b, rfl, ⟨A, c, rfl, h1⟩, ⟨A', c', rfl, h2⟩⟩ := h
  obtain ⟨a, b, rfl, ⟨B, d, rfl, h3⟩, ⟨B', d', rfl, h4⟩⟩ := h'
  have hb2 : Below w.heap.size w ((w.alloc (.cells #[.slice A S.length c, .slice A' M.length c'] 27 (0, 0))).alloc (.cells #[.slice B S.length d, .slice B' M.length d'] 27 (0, 0))) := balloc (balloc (Below.refl _ _))
  go_enter Try.func12, Try.ntmps12
  go_upto_region 1 with (fail)
  refine wpL2 (fun W => W.heap[w.heap.size]? = some (.cells #[.slice A S.length c, .slice A' M.length c'] 27 (0, 0)) ∧ W.heap[w.heap.size + 1]? = some (.cells #[.slice B S.length d, .slice B' M.length d'] 27 (0, 0)) ∧ NV W A S ∧ NV W A' M ∧ NV W B S ∧ NV W B' M ∧ Below w.heap.size w W) ⟨oldL1 _ _ _, newL1 _ _ _, h1.keep hb2, h2.keep hb2, h3.keep hb2, h4.keep hb2, hb2⟩ ?_
  clear h1 h2 h3 h4 hb2
  rintro w0 ⟨hx, hy, n1, n2, n3, n4, hB⟩
  have HX := Lib.hid hx
  have HY := Lib.hid hy
  have HB := Lib.hid hB
  have H2 := Lib.hid n2
  have H4 := Lib.hid n4
  obtain ⟨c0, c1⟩ := c2L hx
  obtain ⟨d0, d1⟩ := c2L hy
  clear hx hy hB n2 n4
  go_wp2_with fail
  with_reducible refine (eqIntS_same _ _ S _ (nrOf c n1) (nrOf d n3) hL).mono ?_
  rintro e w1 ⟨rfl, hb⟩
  clear c0 c1 d0 d1 n1 n3
  replace HX := Lib.hid ((hb.block _ (ltS HX.out)).trans HX.out)
  replace HY := Lib.hid ((hb.block _ (ltS HY.out)).trans HY.out)
  replace H2 := Lib.hid (H2.out.keep hb)
  replace H4 := Lib.hid (H4.out.keep hb)
  replace HB := Lib.hid (bkeep2 HB.out hb)
  clear hb
  obtain ⟨c0, c1⟩ := c2L HX.out
  obtain ⟨d0, d1⟩ := c2L HY.out
  go_wp2_with fail
  with_reducible refine (eqIntS_same _ _ M _ (nrOf c' H2.out) (nrOf d' H4.out) hL').mono ?_
  rintro e w2 ⟨rfl, hb⟩
  replace HB := Lib.hid (bkeep2 HB.out hb)
  clear hb c0 c1 d0 d1
  go_wp2
  go_ret
  exact ⟨rfl, HB.out⟩
set_option maxRecDepth 100000 in
theorem markPanes_v (lo hi : Nat) (v : Value) (S M : List Int) (w : World) (h : PS lo hi w v S M) (hL : S.length ≤ 1048576) (hL' : M.length ≤ 1048576) :
    Calls Try.prog 17 #[v, .int .i64 1] w fun e w' => e = .returned (.int .i64 (1 + (S.length : Int) + (M.length : Int))) ∧ PSM w' v S.length M.length ∧ CB lo hi w w' := by
  rcases h with ⟨rfl, rfl, rfl⟩ | ⟨g1, c1, g2, c2, rfl, a1, a2, a3, a4, a5, o1, o2⟩
  · have HB := Lib.hid (CB.of (lo := lo) (hi := hi) (balloc (o := (.cells #[.slice none 0 0, .slice none 0 0] 27 (0, 0))) (Below.refl w.heap.size w)))
    go_enter Try.func17, Try.ntmps17
    go_wp2_with fail
    with_reducible refine (markO_nil 1 _).mono ?_
    rintro e w1 ⟨rfl, rfl⟩
    go_wp2_with fail
    with_reducible refine (markO_nil 1 _).mono ?_
    rintro e w1 ⟨rfl, rfl⟩
    go_wp2
    go_ret
    exact ⟨rfl, .inl ⟨rfl, rfl, rfl⟩, HB.out⟩
  · have HX := Lib.hid (newS w (.cells #[.slice (some ⟨g1, 0, none⟩) S.length c1, .slice (some ⟨g2, 0, none⟩) M.length c2] 27 (0, 0)))
    have hb0 : Below w.heap.size w (w.alloc (.cells #[.slice (some ⟨g1, 0, none⟩) S.length c1, .slice (some ⟨g2, 0, none⟩) M.length c2] 27 (0, 0))) := balloc (Below.refl _ _)
    have HB := Lib.hid (CB.of (lo := lo) (hi := hi) hb0)
    have l1 := o1.lt
    have l2 := o2.lt
    have HO1 := Lib.hid (o1.keep hb0)
    have HO2 := Lib.hid (o2.keep hb0)
    clear o1 o2 hb0
    go_enter Try.func17, Try.ntmps17
    go_wp2_with fail
    with_reducible refine (markO g1 c1 S.length 1 S _ HO1.out rfl hL (by omega) (by omega)).mono ?_
    rintro e w1 ⟨rfl, o1, hg⟩
    replace HX := Lib.hid ((hg.block _ (ltS HX.out) (fun e => absurd (Option.some.inj e) (by omega))).trans HX.out)
    replace HO2 := Lib.hid (HO2.out.sameL (hg.block _ HO2.out.lt (fun e => absurd (Option.some.inj e) (by omega))))
    replace HB := Lib.hid (HB.out.trans (CB.ofg hg a1 a2))
    replace HO1 := Lib.hid o1
    clear o1 hg
    obtain ⟨c0, c1⟩ := c2L HX.out
    go_wp2_with fail
    with_reducible refine (markO g2 c2 M.length (1 + (S.length : Int)) M _ HO2.out rfl hL' (by omega) (by omega)).mono ?_
    rintro e w2 ⟨rfl, o2, hg⟩
    replace HO1 := Lib.hid (HO1.out.sameL (hg.block _ HO1.out.lt (fun e => absurd (Option.some.inj e) (by omega))))
    replace HB := Lib.hid (HB.out.trans (CB.ofg hg a3 a4))
    replace HO2 := Lib.hid o2
    clear o2 hg c0 c1 HX
    go_wp2
    go_ret
    exact ⟨rfl, .inr ⟨g1, _, g2, _, rfl, HO1.out, HO2.out⟩, HB.out⟩
set_option maxRecDepth 100000 in
theorem heldPanes_v (v : Value) (n m : Nat) (w : World) (h : PSM w v n m) (hL : n ≤ 1048576) (hL' : m ≤ 1048576) :
    Calls Try.prog 18 #[v, .int .i64 1] w fun e w' => e = .returned (.int .i64 (1 + (n : Int) + (m : Int))) ∧ Below w.heap.size w w' := by
  rcases h with ⟨rfl, rfl, rfl⟩ | ⟨g1, c1, g2, c2, rfl, o1, o2⟩
  · have HB := Lib.hid (balloc (o := (.cells #[.slice none 0 0, .slice none 0 0] 27 (0, 0))) (Below.refl w.heap.size w))
    go_enter Try.func18, Try.ntmps18
    go_wp2_with fail
    with_reducible refine (heldO_nil 1 _).mono ?_
    rintro e w1 ⟨rfl, rfl⟩
    go_wp2_with fail
    with_reducible refine (heldO_nil 1 _).mono ?_
    rintro e w1 ⟨rfl, rfl⟩
    go_wp2
    go_ret
    exact ⟨rfl, HB.out⟩
  · have q1 : ¬ (1 : Int) + n < 0 := by omega
    have q2 : ¬ (1 : Int) + n + m < 0 := by omega
    have hb0 : Below w.heap.size w (w.alloc (.cells #[.slice (some ⟨g1, 0, none⟩) n c1, .slice (some ⟨g2, 0, none⟩) m c2] 27 (0, 0))) := balloc (Below.refl _ _)
    have HB := Lib.hid hb0
    have HO1 := Lib.hid (o1.keep hb0)
    have HO2 := Lib.hid (o2.keep hb0)
    clear o1 o2 hb0
    go_enter Try.func18, Try.ntmps18
    go_wp2_with fail
    with_reducible refine (heldO g1 c1 n 1 _ HO1.out hL (by omega) (by omega)).mono ?_
    rintro e w1 ⟨rfl, rfl⟩
    go_wp2_with fail
    with_reducible refine (heldO g2 c2 m (1 + (n : Int)) _ HO2.out hL' (by omega) (by omega)).mono ?_
    rintro e w1 ⟨rfl, rfl⟩
    go_wp2
    go_ret
    exact ⟨rfl, HB.out⟩
end Go.Proofs.Ytpbfbcdidkbjiab
end
section
namespace Go.Proofs.Ytpbfbcdidkbjiab
open Go.RowKit
set_option linter.unusedVariables false
set_option maxHeartbeats 2000000
set_option maxRecDepth 100000 in
theorem DrawValidPanes_any (A : Option Addr) (n c : Nat) (w : World) (h : Bts w A n) (hn : n ≤ c) (hc : c ≤ maxLen) :
    Calls Try.prog 19 #[.slice A n c] w fun e w' => (∃ (A1 : Option Addr) (c1 : Nat) (L1 : List Int) (A2 : Option Addr) (c2 : Nat) (L2 : List Int), e = .returned (.agg #[.slice A1 L1.length c1, .slice A2 L2.length c2]) ∧ NV w' A1 L1 ∧ NV w' A2 L2 ∧ L1.length ≤ 6 ∧ L2.length ≤ 6 ∧ L1.length ≤ c1 ∧ L2.length ≤ c2) ∧ Below w.heap.size w w' := by
  go_enter Try.func19, Try.ntmps19
  go_wp2_with fail
  with_reducible refine (newReader_any A n c _ (Bts.alloc h _) hn hc).mono ?_
  rintro e w1 ⟨n', rfl, hr1, hc1⟩
  simp only [World.size_alloc] at hr1
  go_wp2_with fail
  with_reducible refine (somePanes_any _ hr1 (by omega)).mono ?_
  rintro e w2 ⟨⟨A1, c1, L1, A2, c2, L2, rfl, v1, v2, l1, l2, l3, l4, b1, b2⟩, hr2, hc2⟩
  have hb := (hc1.block w.heap.size (by simp) (by simp)).trans (heap_alloc_new w _)
  have hs := hc1.size
  simp only [World.size_alloc] at hs
  replace hb := (hc2.block w.heap.size (by omega) (by simp)).trans hb
  have hB := Lib.hid (((Chg.refl [w.heap.size + 1] w).alloc _).trans ((hc1.mono (by simp)).trans hc2))
  have hk1 : ∀ a, A1 = some a → a.block ≠ w.heap.size := fun a ha => by have := b1 a ha; omega
  have hk2 : ∀ a, A2 = some a → a.block ≠ w.heap.size := fun a ha => by have := b2 a ha; omega
  have HB0 := Lib.hid hb
  have HV1 := Lib.hid v1
  have HV2 := Lib.hid v2
  obtain ⟨d0, d1⟩ := c2L hb
  obtain ⟨f0, f1⟩ := f2L hb
  clear hb hc1 hc2 hr1 hs v1 v2
  go_wp2
  refine bpL (fun W => W.heap[w.heap.size]? = some (.cells #[.slice A1 L1.length c1, .slice A2 L2.length c2] 27 (0, 0)) ∧ NV W A1 L1 ∧ NV W A2 L2 ∧ Below w.heap.size w W) ⟨put2L HB0.out _ _, nv_setP (nv_setP HV1.out hk1 _ _) hk1 _ _, nv_setP (nv_setP HV2.out hk2 _ _) hk2 _ _, Chg.below ((hB.out.setCell (p := ⟨w.heap.size, 0, none⟩) (.inr (Nat.le_refl _)) _).setCell (p := ⟨w.heap.size, 1, none⟩) (.inr (Nat.le_refl _)) _) (Nat.le_refl _) (by simp)⟩ ?_
  clear HB0 HV1 HV2 hB d0 d1 f0 f1
  rintro W ⟨h0, n1, n2, hBB⟩
  obtain ⟨d0, d1⟩ := c2L h0
  exact bodyPost_ret (v := .agg #[.slice A1 L1.length c1, .slice A2 L2.length c2]) (by simp only [results, Try.results19]; go_simp) rfl ⟨⟨_, _, _, _, _, _, rfl, n1, n2, l1, l2, l3, l4⟩, hBB⟩
end Go.Proofs.Ytpbfbcdidkbjiab
end
