import Derived.Test.YtpbfbcdidkbjiacQ08
section
namespace Go.Proofs.Ytpbfbcdidkbjiac
set_option linter.unusedVariables false
theorem sum_split (L : List Int) (n : Nat) : sumI (L.take n) + sumI (L.drop n) = sumI L := by
  rw [← sumI_append, List.take_append_drop]
theorem mem_le_sumP {L : List Int} (h : ∀ x ∈ L, 0 ≤ x) : ∀ x ∈ L, x ≤ sumI L := by
  induction L with
  | nil => simp
  | cons a t ih =>
    intro x hx
    have ha := h a List.mem_cons_self
    have ht := sumI_nn (L := t) (fun y hy => h y (List.mem_cons_of_mem _ hy))
    simp only [sumI]
    rcases List.mem_cons.1 hx with rfl | hx
    · omega
    · have := ih (fun y hy => h y (List.mem_cons_of_mem _ hy)) x hx
      omega
theorem dropEq {A B : List Int} (n : Nat) (h : ∀ i, n ≤ i → A[i]? = B[i]?) : A.drop n = B.drop n := by
  apply List.ext_getElem?
  intro i
  rw [List.getElem?_drop, List.getElem?_drop]
  exact h _ (by omega)
theorem takeEq {A B : List Int} (n : Nat) (h : ∀ i, i < n → A[i]? = B[i]?) : A.take n = B.take n := by
  apply List.ext_getElem?
  intro i
  rw [List.getElem?_take, List.getElem?_take]
  split
  · exact h _ (by assumption)
  · rfl
/-- what a dragged sash is like -/
structure DSp (S M R : List Int) (k : Nat) (y : Int) : Prop where
  pn : pnP R M
  len : R.length = S.length
  sum : sumI R = sumI S
  up : 0 ≤ y → sumI (S.take (k + 1)) ≤ sumI (R.take (k + 1)) ∧ sumI (R.take (k + 1)) ≤ sumI (S.take (k + 1)) + y
  dn : y < 0 → sumI (R.take (k + 1)) ≤ sumI (S.take (k + 1)) ∧ sumI (S.take (k + 1)) + y ≤ sumI (R.take (k + 1))
  far : sumI (R.take (k + 1)) ≠ sumI (S.take (k + 1)) + y → y ≠ 0 ∧ ∀ i, i < R.length → (0 < y ∧ k < i ∨ y < 0 ∧ i ≤ k) → R[i]? = M[i]?
theorem nvD {L : List Int} {i : Nat} (h : i < L.length) : L[i]? = some (L.getD i 0) := by
  rw [List.getD_eq_getElem?_getD, List.getElem?_eq_getElem h]; rfl
theorem drag_gen {S M O R : List Int} {way : List Nat} {ask s : Int} {h : Nat} (hv : pnP S M) (hg : GoS M S O way ask s) (hh : h < S.length) (hn : h ∉ way) (hR : R = O.set h (O.getD h 0 + (ask - s))) :
    pnP R M ∧ R.length = S.length ∧ sumI R = sumI S ∧ O.length = S.length ∧ (∀ i, i ≠ h → R[i]? = O[i]?) := by
  have hol : O.length = S.length := by rw [hg.gp.1, hv.len]
  have hrl : R.length = S.length := by rw [hR, List.length_set]; exact hol
  have hsum : sumI R = sumI S := by
    have e1 := sumI_set (O := O) (i := h) (O.getD h 0 + (ask - s)) (by omega)
    have e2 := hg.sum
    rw [hR]
    omega
  have hne : ∀ i, i ≠ h → R[i]? = O[i]? := fun i hi => by rw [hR, List.getElem?_set_ne (Ne.symm hi)]
  have hat : ∀ (i : Nat) (x m : Int), R[i]? = some x → M[i]? = some m → 0 ≤ m ∧ m ≤ 30 ∧ m ≤ x := fun i x m hx hm => by
    have hmm := hv.mem.2 m (List.mem_of_getElem? hm)
    refine ⟨hmm.1, hmm.2, ?_⟩
    by_cases e : i = h
    · subst e
      have ho : O[i]? = some (O.getD i 0) := nvD (by omega)
      have := hg.gp.2 i _ m ho hm
      rw [hR, List.getElem?_set_self (by omega)] at hx
      have hx := Option.some.inj hx
      have := hg.hi
      omega
    · rw [hne i e] at hx
      have := hg.gp.2 i x m hx hm
      omega
  have hnn : ∀ x ∈ R, 0 ≤ x := fun x hx => by
    obtain ⟨i, hi, rfl⟩ := List.getElem_of_mem hx
    have hm : i < M.length := by have := hv.len; omega
    have := hat i _ M[i] (List.getElem?_eq_getElem hi) (List.getElem?_eq_getElem hm)
    omega
  have hle := mem_le_sumP hnn
  have hs4 := hv.sum
  refine ⟨⟨by have := hv.one; omega, by have := hv.six; omega, by have := hv.len; omega, fun i x m hx hm => ?_, by omega⟩, hrl, hsum, hol, hne⟩
  have h1 := hat i x m hx hm
  have h2 := hle x (List.mem_of_getElem? hx)
  unfold okP
  omega
theorem drag_spec {S M : List Int} (hv : pnP S M) {k : Nat} {y : Int} (hk : k + 1 < S.length) : DSp S M (dragM S M k y) k y := by
  by_cases hy : y < 0
  · have hg := goL_spec (downs (k + 1)) (GP.of hv) (r := -y) (by omega) (fun i hi => by have := downs_lt.1 hi; omega)
    have hR := dragM_neg (S := S) (M := M) (k := k) hy
    obtain ⟨O, hO⟩ : ∃ O, (goL M (downs (k + 1)) S (-y)).1 = O := ⟨_, rfl⟩
    obtain ⟨s, hs⟩ : ∃ s, (goL M (downs (k + 1)) S (-y)).2 = s := ⟨_, rfl⟩
    rw [hO, hs] at hg hR
    obtain ⟨R, hRR⟩ : ∃ R, dragM S M k y = R := ⟨_, rfl⟩
    rw [hRR] at hR ⊢
    clear hO hs hRR
    obtain ⟨g1, g2, g3, g4, g5⟩ := drag_gen hv hg hk (fun h => by have := downs_lt.1 h; omega) hR
    have e1 : R.take (k + 1) = O.take (k + 1) := takeEq _ fun i hi => g5 i (by omega)
    have e2 : O.drop (k + 1) = S.drop (k + 1) := dropEq _ fun i hi => hg.out i (fun h => by have := downs_lt.1 h; omega)
    have e3 := sum_split O (k + 1)
    have e4 := sum_split S (k + 1)
    have e5 := hg.sum
    have e6 := hg.hi
    have e7 := hg.lo
    rw [e2] at e3
    have e8 : sumI (R.take (k + 1)) = sumI (S.take (k + 1)) + y + s := by rw [e1]; omega
    refine ⟨g1, g2, g3, fun h => by omega, fun _ => by omega, fun hne => ⟨by omega, fun i hi hc => ?_⟩⟩
    have hik : i ≤ k := by omega
    have hf := hg.far (by omega) i (downs_lt.2 (by omega))
    have hm : i < M.length := by have := hv.len; omega
    rw [g5 i (by omega), nvD (by omega), nvD hm, hf]
  · have hg := goL_spec (List.range' (k + 1) (S.length - (k + 1))) (GP.of hv) (r := y) (by omega) (fun i hi => by rw [List.mem_range'_1] at hi; omega)
    have hR := dragM_pos (S := S) (M := M) (k := k) hy
    obtain ⟨O, hO⟩ : ∃ O, (goL M (List.range' (k + 1) (S.length - (k + 1))) S y).1 = O := ⟨_, rfl⟩
    obtain ⟨s, hs⟩ : ∃ s, (goL M (List.range' (k + 1) (S.length - (k + 1))) S y).2 = s := ⟨_, rfl⟩
    rw [hO, hs] at hg hR
    obtain ⟨R, hRR⟩ : ∃ R, dragM S M k y = R := ⟨_, rfl⟩
    rw [hRR] at hR ⊢
    clear hO hs hRR
    obtain ⟨g1, g2, g3, g4, g5⟩ := drag_gen hv hg (by omega : k < S.length) (fun h => by rw [List.mem_range'_1] at h; omega) hR
    have e1 : R.drop (k + 1) = O.drop (k + 1) := dropEq _ fun i hi => g5 i (by omega)
    have e2 : O.take (k + 1) = S.take (k + 1) := takeEq _ fun i hi => hg.out i (fun h => by rw [List.mem_range'_1] at h; omega)
    have e3 := sum_split O (k + 1)
    have e4 := sum_split R (k + 1)
    have e5 := hg.sum
    have e6 := hg.hi
    have e7 := hg.lo
    rw [e2] at e3
    rw [e1] at e4
    have e8 : sumI (R.take (k + 1)) = sumI (S.take (k + 1)) + y - s := by omega
    refine ⟨g1, g2, g3, fun _ => by omega, fun h => by omega, fun hne => ⟨by omega, fun i hi hc => ?_⟩⟩
    have hik : k < i := by omega
    have hf := hg.far (by omega) i (by rw [List.mem_range'_1]; omega)
    have hm : i < M.length := by have := hv.len; omega
    rw [g5 i (by omega), nvD (by omega), nvD hm, hf]
end Go.Proofs.Ytpbfbcdidkbjiac
end
section
namespace Go.Proofs.Ytpbfbcdidkbjiac
open Go Go.RowKit
set_option linter.unusedVariables false
set_option maxHeartbeats 1000000
section
variable {P : Program} {md : Region.Mode} {ops : Array Oper} {Q : Exit → Act → World → Prop}
theorem wpAny_oneG {f : Nat} {listed : Array Bool} {a : Act} {w : World} {i : Nat} {o : Oper} (hr : Region.ready md ops listed = [i]) (ho : ops[i]? = some o) (hg : Region.wanted o (yielded ops a.tmps) = true)
    (h : o.wp P a w (wpAny P md ops Q f (listed.setIfInBounds i true)) Q) : wpAny P md ops Q (f + 1) listed a w :=
  ⟨fun h0 => (by rw [hr] at h0; cases h0), fun j hj => by
    rw [hr] at hj
    obtain rfl := List.mem_singleton.1 hj
    unfold wpOp
    simp only [ho]
    rw [if_pos hg]
    exact .inl h⟩
end
theorem prnil (w : World) : PR w (.agg #[.slice none 0 0, .slice none 0 0]) [] [] := ⟨_, _, rfl, ⟨none, 0, rfl, NV.nil _ _⟩, ⟨none, 0, rfl, NV.nil _ _⟩⟩
theorem total_B (A : Option Addr) (c : Nat) (L : List Int) (w : World) (h : NV w A L) (hL : L.length ≤ 1048576) (hM : Smal 1000000000000000 L) :
    Calls Try.prog 12 #[.slice A L.length c] w fun e w' => e = .returned (.int .i64 (sumI L)) ∧ Below w.heap.size w w' := (ltotal_v A c L w h hL hM).mono fun e w' ⟨h1, h2⟩ => ⟨h1, h2 ▸ Below.refl _ _⟩
set_option maxRecDepth 100000 in
theorem equalPanes_same (v v' : Value) (S M : List Int) (w : World) (h : PR w v S M) (h' : PR w v' S M) (hL : S.length ≤ 1048576) (hL' : M.length ≤ 1048576) :
    Calls Try.prog 15 #[v, v'] w fun e w' => e = .returned (.bool true) ∧ Below w.heap.size w w' := by
  obtain ⟨a, b, rfl, ⟨A, c, rfl, h1⟩, ⟨A', c', rfl, h2⟩⟩ := h
  obtain ⟨a, b, rfl, ⟨B, d, rfl, h3⟩, ⟨B', d', rfl, h4⟩⟩ := h'
  have hb2 : Below w.heap.size w ((w.alloc (.cells #[.slice A S.length c, .slice A' M.length c'] 25 (0, 0))).alloc (.cells #[.slice B S.length d, .slice B' M.length d'] 25 (0, 0))) := balloc (balloc (Below.refl _ _))
  go_enter Try.func15, Try.ntmps15
  go_upto_region 1 with (fail)
  refine wpL2 (fun W => W.heap[w.heap.size]? = some (.cells #[.slice A S.length c, .slice A' M.length c'] 25 (0, 0)) ∧ W.heap[w.heap.size + 1]? = some (.cells #[.slice B S.length d, .slice B' M.length d'] 25 (0, 0)) ∧ NV W A S ∧ NV W A' M ∧ NV W B S ∧ NV W B' M ∧ Below w.heap.size w W) ⟨oldL1 _ _ _, newL1 _ _ _, h1.keep hb2, h2.keep hb2, h3.keep hb2, h4.keep hb2, hb2⟩ ?_
  clear h1 h2 h3 h4 hb2
  rintro w0 ⟨hx, hy, n1, n2, n3, n4, hB⟩
  have HX := Lib.hid hx
  have HY := Lib.hid hy
  have HB := Lib.hid hB
  have H2 := Lib.hid n2
  have H4 := Lib.hid n4
  obtain ⟨c0, c1⟩ := c2L hx
  obtain ⟨d0, d1⟩ := c2L hy
  clear hx hy hB n2 n4
  go_wp2_with fail
  with_reducible refine (equalInts_z _ _ S _ (nrOf c n1) (nrOf d n3) hL).mono ?_
  rintro e w1 ⟨rfl, hb⟩
  clear c0 c1 d0 d1 n1 n3
  replace HX := Lib.hid ((hb.block _ (ltS HX.out)).trans HX.out)
  replace HY := Lib.hid ((hb.block _ (ltS HY.out)).trans HY.out)
  replace H2 := Lib.hid (H2.out.keep hb)
  replace H4 := Lib.hid (H4.out.keep hb)
  replace HB := Lib.hid (bkeep2 HB.out hb)
  clear hb
  obtain ⟨c0, c1⟩ := c2L HX.out
  obtain ⟨d0, d1⟩ := c2L HY.out
  go_wp2_with fail
  with_reducible refine (equalInts_z _ _ M _ (nrOf c' H2.out) (nrOf d' H4.out) hL').mono ?_
  rintro e w2 ⟨rfl, hb⟩
  replace HB := Lib.hid (bkeep2 HB.out hb)
  clear hb c0 c1 d0 d1
  go_wp2
  go_ret
  exact ⟨rfl, HB.out⟩
theorem sDragSash_pr (A A' : Option Addr) (c c' : Nat) (S M : List Int) (i y : Int) (w : World) (h : NV w A S) (h' : NV w A' M) (hm : M.length ≤ 1048576) (hL : S.length ≤ 1048576) (hv : pnP S M) (hi : rng i 0 ((S.length : Int) - 2) = true) (hy : rng y (-400) 400 = true) :
    Calls Try.prog 16 #[.agg #[.slice A S.length c, .slice A' M.length c'], .int .i64 i, .int .i64 y] w fun e w' => (∃ x, e = .returned x ∧ PR w' x (dragM S M i.toNat y) M) ∧ Below w.heap.size w w' := by
  refine (sDragSash_yes A A' c c' S M i y w h h' hm hL hv hi hy).mono ?_
  rintro e w' ⟨⟨v1, v2, rfl, ⟨b1, q1, rfl, _, p1⟩, ⟨b2, q2, rfl, _, p2⟩⟩, hb⟩
  exact ⟨⟨_, rfl, _, _, rfl, p1.nr rfl _, p2.nr rfl _⟩, hb⟩
theorem DragSash_nv (A A' : Option Addr) (c c' : Nat) (S M : List Int) (i y : Int) (w : World) (h : NV w A S) (h' : NV w A' M) (hm : M.length ≤ 1048576) (hL : S.length ≤ 1048576) (hv : pnP S M) (hi : rng i 0 ((S.length : Int) - 2) = true) (hy : rng y (-400) 400 = true) (hR : dragM S M i.toNat y ≠ []) :
    Calls Try.prog 14 #[.agg #[.slice A S.length c, .slice A' M.length c'], .int .i64 i, .int .i64 y] w fun e w' => (∃ B1 e1 B2 e2, e = .returned (.agg #[.slice B1 (dragM S M i.toNat y).length e1, .slice B2 M.length e2]) ∧ NV w' B1 (dragM S M i.toNat y) ∧ NV w' B2 M ∧ (dragM S M i.toNat y).length ≤ e1 ∧ M.length ≤ e2) ∧ Below w.heap.size w w' := by
  refine (DragSash_yes A A' c c' S M i y w h h' hm hL hv hi hy).mono ?_
  rintro e w' ⟨⟨v, rfl, hp⟩, hb⟩
  rcases hp with ⟨_, e0, _⟩ | ⟨g1, e1, g2, e2, rfl, _, _, _, _, _, o1, o2⟩
  · exact absurd e0 hR
  · exact ⟨⟨_, _, _, _, rfl, o1.nv, o2.nv, o1.1, o2.1⟩, hb⟩
end Go.Proofs.Ytpbfbcdidkbjiac
end
