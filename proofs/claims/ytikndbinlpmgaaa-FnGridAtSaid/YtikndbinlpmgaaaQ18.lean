import Derived.Test.YtikndbinlpmgaaaQ17
section
namespace Go.Proofs.Ytikndbinlpmgaaa
set_option linter.unusedVariables false
theorem sized_wish {L : List Ln} {S : List Sp} (hL : linesB L = true) (hS : spansB L.length S = true) : sizedM L S (sumI (wishM L S)) = wishM L S := by
  unfold sizedM
  rw [if_neg (by omega)]
  split
  · rfl
  · rw [Int.sub_self]
    exact addAt_zero (spread_zero (min_bd hL).2)
def lstM : List Ln → List Int → Int
  | l :: L, o :: O => (if 0 < l.wt then l.mi else o) + lstM L O
  | _, _ => 0
theorem lstM_snoc : ∀ {L : List Ln} {O : List Int} {k : Nat} {l : Ln} {o : Int}, L[k]? = some l → O[k]? = some o → lstM (L.take (k + 1)) (O.take (k + 1)) = lstM (L.take k) (O.take k) + (if 0 < l.wt then l.mi else o)
  | l' :: L, o' :: O, 0, l, o, h, h' => by
    simp only [List.getElem?_cons_zero, Option.some.injEq] at h h'
    subst h h'
    simp [lstM]
  | l' :: L, o' :: O, k + 1, l, o, h, h' => by
    simp only [List.getElem?_cons_succ] at h h'
    simp only [List.take_succ_cons, lstM]
    rw [lstM_snoc h h']
    omega
  | [], _, k, l, o, h, _ => by simp at h
  | l' :: L, [], k, l, o, _, h => by simp at h
theorem lst_le : ∀ {L : List Ln} {W R : List Int}, W.length = L.length → R.length = L.length → (∀ (i : Nat) (l : Ln) (o r : Int), L[i]? = some l → W[i]? = some o → R[i]? = some r → (if 0 < l.wt then l.mi else o) ≤ r) → lstM L W ≤ sumI R
  | [], [], [], _, _, _ => Int.le_refl _
  | l :: L, o :: W, r :: R, h1, h2, h => by
    have h0 := h 0 l o r rfl rfl rfl
    have := lst_le (L := L) (W := W) (R := R) (by simpa using h1) (by simpa using h2) (fun i l' o' r' a b c => h (i + 1) l' o' r' (by simpa using a) (by simpa using b) (by simpa using c))
    simp only [lstM, sumI]
    omega
  | [], o :: W, _, h, _, _ => by simp at h
  | [], [], r :: R, _, h, _ => by simp at h
  | l :: L, [], _, h, _, _ => by simp at h
  | l :: L, o :: W, [], _, h, _ => by simp at h
theorem lst_eq : ∀ {L : List Ln} {W R : List Int}, W.length = L.length → R.length = L.length → (∀ (i : Nat) (l : Ln) (o r : Int), L[i]? = some l → W[i]? = some o → R[i]? = some r → (if 0 < l.wt then l.mi else o) = r) → lstM L W = sumI R
  | [], [], [], _, _, _ => rfl
  | l :: L, o :: W, r :: R, h1, h2, h => by
    have h0 := h 0 l o r rfl rfl rfl
    have := lst_eq (L := L) (W := W) (R := R) (by simpa using h1) (by simpa using h2) (fun i l' o' r' a b c => h (i + 1) l' o' r' (by simpa using a) (by simpa using b) (by simpa using c))
    simp only [lstM, sumI]
    omega
  | [], o :: W, _, h, _, _ => by simp at h
  | [], [], r :: R, _, h, _ => by simp at h
  | l :: L, [], _, h, _, _ => by simp at h
  | l :: L, o :: W, [], _, h, _ => by simp at h
theorem sum_zero_all {P : List Int} (h : ∀ x ∈ P, 0 ≤ x) (hs : sumI P = 0) : ∀ x ∈ P, x = 0 := fun x hx => by
  have := mem_le_sum h x hx
  have := h x hx
  omega
/-- what the sizes of lines in a room are -/
theorem sized_law {L : List Ln} {S : List Sp} {room : Int} (hL : linesB L = true) (hS : spansB L.length S = true) (hr0 : 0 ≤ room) (hr1 : room ≤ 400) :
    (∀ (i : Nat) (l : Ln) (o r : Int), L[i]? = some l → (wishM L S)[i]? = some o → (sizedM L S room)[i]? = some r → l.mi ≤ r ∧ (l.wt = 0 → r = o)) ∧
    (0 < sumI (L.map Ln.wt) → lstM L (wishM L S) ≤ room → sumI (sizedM L S room) = room) ∧
    (0 < sumI (L.map Ln.wt) → room < lstM L (wishM L S) → sumI (sizedM L S room) = lstM L (wishM L S)) ∧
    (sumI (L.map Ln.wt) = 0 → sumI (sizedM L S room) = lstM L (wishM L S)) := by
  obtain ⟨k1, k2, k3, k4, k5⟩ := wish_ok hL hS
  obtain ⟨s1, s2, -, -⟩ := sized_ok hL hS hr0 hr1
  obtain ⟨hO, hW⟩ := min_bd hL
  have hw0 : 0 ≤ sumI (L.map Ln.wt) := hW.sum.1
  have hwl : ∀ (i : Nat) (l : Ln), L[i]? = some l → 0 ≤ l.wt := fun i l h => (hW.1 l.wt (List.mem_map_of_mem (List.mem_of_getElem? h))).1
  have hwish : lstM L (wishM L S) ≤ sumI (wishM L S) := lst_le k2 k2 (fun i l o r h1 h2 h3 => by
    rw [h2] at h3; obtain rfl := Option.some.inj h3
    have := (k1.get h1 h2).1
    split <;> omega)
  have h0all : sumI (L.map Ln.wt) = 0 → ∀ (i : Nat) (l : Ln), L[i]? = some l → l.wt = 0 := fun h i l hl => sum_zero_all (fun x hx => (hW.1 x hx).1) h _ (List.mem_map_of_mem (List.mem_of_getElem? hl))
  by_cases hc : room - sumI (wishM L S) < 0
  · have e : sizedM L S room = shrZ L (-(room - sumI (wishM L S))) (wishM L S) := by unfold sizedM; rw [if_pos hc]
    obtain ⟨a1, a2, a3, a4, a5⟩ := shr_all hL _ (-(room - sumI (wishM L S))) (wishM L S) (Nat.le_refl _) (by omega) k1
    rw [← e] at a1 a2 a3 a4 a5
    have hpt : ∀ (i : Nat) (l : Ln) (o r : Int), L[i]? = some l → (wishM L S)[i]? = some o → (sizedM L S room)[i]? = some r → (if 0 < l.wt then l.mi else o) ≤ r := fun i l o r h1 h2 h3 => by
      have := (a1.get h1 h3).1
      have := (a2 i l o r h1 h2 h3).2
      have := hwl i l h1
      split
      · omega
      · have : l.wt = 0 := by omega
        omega
    have hle := lst_le k2 s2 hpt
    have hstuck : sumI (wtZ L (sizedM L S room)) = 0 → lstM L (wishM L S) = sumI (sizedM L S room) := fun hz => lst_eq k2 s2 (fun i l o r h1 h2 h3 => by
      have hz' := sum_zero_all (fun x hx => ((wtZ_ok hL a1).1 x hx).1) hz _ (List.mem_of_getElem? (wtZ_get h1 h3))
      have := (a1.get h1 h3).1
      have h4 := (a2 i l o r h1 h2 h3).2
      have := hwl i l h1
      split
      · rename_i hp
        split at hz'
        · omega
        · omega
      · have : l.wt = 0 := by omega
        exact (h4 this).symm)
    refine ⟨fun i l o r h1 h2 h3 => ⟨(a1.get h1 h3).1, (a2 i l o r h1 h2 h3).2⟩, fun _ hl => ?_, fun _ hl => ?_, fun hz => ?_⟩
    · rcases a5 with a5 | a5
      · omega
      · have := hstuck a5; omega
    · rcases a5 with a5 | a5
      · omega
      · exact (hstuck a5).symm
    · refine (lst_eq k2 s2 (fun i l o r h1 h2 h3 => ?_)).symm
      have h4 := h0all hz i l h1
      rw [if_neg (by omega)]
      exact ((a2 i l o r h1 h2 h3).2 h4).symm
  · by_cases hz : sumI (L.map Ln.wt) = 0
    · have e : sizedM L S room = wishM L S := by unfold sizedM; rw [if_neg hc, if_pos hz]
      rw [e]
      refine ⟨fun i l o r h1 h2 h3 => ?_, fun h => by omega, fun h => by omega, fun _ => ?_⟩
      · rw [h2] at h3; obtain rfl := Option.some.inj h3
        exact ⟨(k1.get h1 h2).1, fun _ => rfl⟩
      · refine (lst_eq k2 k2 (fun i l o r h1 h2 h3 => ?_)).symm
        rw [h2] at h3; obtain rfl := Option.some.inj h3
        have := h0all hz i l h1
        rw [if_neg (by omega)]
    · have e : sizedM L S room = addAt (wishM L S) 0 (spreadM (room - sumI (wishM L S)) (L.map Ln.wt)) := by unfold sizedM; rw [if_neg hc, if_neg hz]
      have hn : 0 ≤ room - sumI (wishM L S) := by omega
      have hsum := spread_sum hn hW
      have hlen : (spreadM (room - sumI (wishM L S)) (L.map Ln.wt)).length = L.length := by rw [spreadM_len, List.length_map]
      have hs := sum_addAt (O := wishM L S) (P := spreadM (room - sumI (wishM L S)) (L.map Ln.wt)) (k := 0) (by omega)
      rw [← e] at hs
      refine ⟨fun i l o r h1 h2 h3 => ⟨(s1.get h1 h3).1, fun hw => ?_⟩, fun _ _ => by omega, fun _ hl => by omega, fun h => absurd h hz⟩
      obtain ⟨y, e1, y0, y1, e2⟩ := spread_get (n := room - sumI (wishM L S)) hn hW (show (L.map Ln.wt)[i]? = some l.wt by rw [List.getElem?_map, h1]; rfl)
      rw [e, addAt0, addP_at h2 e1] at h3
      have := (e2 (by omega)).1 hw
      have := Option.some.inj h3
      omega
end Go.Proofs.Ytikndbinlpmgaaa
end
section
namespace Go.Proofs.Ytikndbinlpmgaaa
set_option linter.unusedVariables false
theorem stkS_in {x room wish : Int} {lo hi : Bool} (hr : 0 ≤ room) (hw : 0 ≤ wish) : x ≤ (stkS x room wish lo hi).1 ∧ (stkS x room wish lo hi).1 + (stkS x room wish lo hi).2 ≤ x + room ∧ 0 ≤ (stkS x room wish lo hi).2 ∧ (wish ≤ room → wish ≤ (stkS x room wish lo hi).2) := by
  have hm := mn_spec wish room
  cases lo <;> cases hi <;> simp [stkS] <;> omega
theorem ins_in {a : Re} {p q : Int} (hu : 0 ≤ a.u) (hv : 0 ≤ a.v) (hp : 0 ≤ p) (hq : 0 ≤ q) :
    (a.x ≤ (insR a p q).x ∧ (insR a p q).x + (insR a p q).u ≤ a.x + a.u ∧ 0 ≤ (insR a p q).u ∧ (2 * p ≤ a.u → (insR a p q).u = a.u - 2 * p)) ∧
    (a.y ≤ (insR a p q).y ∧ (insR a p q).y + (insR a p q).v ≤ a.y + a.v ∧ 0 ≤ (insR a p q).v ∧ (2 * q ≤ a.v → (insR a p q).v = a.v - 2 * q)) := by
  have h1 := mn_spec p (a.u / 2); have h2 := mn_spec q (a.v / 2); have h3 := mx_spec (a.u - 2 * p) 0; have h4 := mx_spec (a.v - 2 * q) 0
  simp only [insR]
  omega
/-- the rectangle of a cell lies in that of its lines -/
theorem cell_in {S1 S2 : List Int} {c : Ce} (h1 : ∀ x ∈ S1, 0 ≤ x) (h2 : ∀ x ∈ S2, 0 ≤ x) (hc : smC c) :
    ((areaR S1 S2 c).x ≤ (cellR S1 S2 c).x ∧ (cellR S1 S2 c).x + (cellR S1 S2 c).u ≤ (areaR S1 S2 c).x + (areaR S1 S2 c).u ∧ 0 ≤ (cellR S1 S2 c).u ∧ (c.cw + 2 * c.px ≤ (areaR S1 S2 c).u → c.cw ≤ (cellR S1 S2 c).u)) ∧
    ((areaR S1 S2 c).y ≤ (cellR S1 S2 c).y ∧ (cellR S1 S2 c).y + (cellR S1 S2 c).v ≤ (areaR S1 S2 c).y + (areaR S1 S2 c).v ∧ 0 ≤ (cellR S1 S2 c).v ∧ (c.ch + 2 * c.py ≤ (areaR S1 S2 c).v → c.ch ≤ (cellR S1 S2 c).v)) := by
  obtain ⟨⟨b1, b2⟩, ⟨b3, b4⟩, ⟨b5, b6⟩, ⟨b7, b8⟩⟩ := hc
  have hu : 0 ≤ (areaR S1 S2 c).u := sumI_nonneg (fun x hx => h1 x (segI_mem hx))
  have hv : 0 ≤ (areaR S1 S2 c).v := sumI_nonneg (fun x hx => h2 x (segI_mem hx))
  obtain ⟨⟨i1, i2, i3, i4⟩, j1, j2, j3, j4⟩ := ins_in (p := c.px) (q := c.py) hu hv b5 b7
  have e1 := stkS_in (x := (insR (areaR S1 S2 c) c.px c.py).x) (room := (insR (areaR S1 S2 c) c.px c.py).u) (wish := c.cw) (lo := decide (c.sk % 2 = 1)) (hi := decide (c.sk / 2 % 2 = 1)) i3 b1
  have e2 := stkS_in (x := (insR (areaR S1 S2 c) c.px c.py).y) (room := (insR (areaR S1 S2 c) c.px c.py).v) (wish := c.ch) (lo := decide (c.sk / 4 % 2 = 1)) (hi := decide (c.sk / 8 = 1)) j3 b3
  simp only [cellR]
  omega
/-- sizes in enough room are no less than requests, and no more than the room together -/
theorem sized_ge {L : List Ln} {S : List Sp} {room : Int} (hL : linesB L = true) (hS : spansB L.length S = true) (hr : sumI (wishM L S) ≤ room) : PW (wishM L S) (sizedM L S room) ∧ sumI (sizedM L S room) ≤ room := by
  unfold sizedM
  rw [if_neg (by omega)]
  split
  · exact ⟨PW.refl _, hr⟩
  · obtain ⟨hO, hW⟩ := min_bd hL
    have hn : 0 ≤ room - sumI (wishM L S) := by omega
    have hlen : (spreadM (room - sumI (wishM L S)) (L.map Ln.wt)).length = L.length := by rw [spreadM_len, List.length_map]
    refine ⟨PW.addAt (spread_nn hn hW), ?_⟩
    rw [sum_addAt (by have := (wish_ok hL hS).2.1; omega), spread_sum hn hW]
    omega
/-- cells have what they ask for -/
theorem cells_fit {L1 L2 : List Ln} {L3 : List Ce} {u v : Int} (hg : gridB L1 L2 L3 = true) (hu : 0 ≤ u ∧ u ≤ 400) (hv : 0 ≤ v ∧ v ≤ 400) (h1 : (gqM L1 L2 L3).1 ≤ u) (h2 : (gqM L1 L2 L3).2 ≤ v) : ∀ p ∈ L3,
    (p.cw ≤ (cellR (sizedM L1 (L3.map acM) u) (sizedM L2 (L3.map dnM) v) p).u ∧ 0 ≤ (cellR (sizedM L1 (L3.map acM) u) (sizedM L2 (L3.map dnM) v) p).x ∧ (cellR (sizedM L1 (L3.map acM) u) (sizedM L2 (L3.map dnM) v) p).x + (cellR (sizedM L1 (L3.map acM) u) (sizedM L2 (L3.map dnM) v) p).u ≤ u ∧ 0 ≤ (cellR (sizedM L1 (L3.map acM) u) (sizedM L2 (L3.map dnM) v) p).u) ∧
    (p.ch ≤ (cellR (sizedM L1 (L3.map acM) u) (sizedM L2 (L3.map dnM) v) p).v ∧ 0 ≤ (cellR (sizedM L1 (L3.map acM) u) (sizedM L2 (L3.map dnM) v) p).y ∧ (cellR (sizedM L1 (L3.map acM) u) (sizedM L2 (L3.map dnM) v) p).y + (cellR (sizedM L1 (L3.map acM) u) (sizedM L2 (L3.map dnM) v) p).v ≤ v ∧ 0 ≤ (cellR (sizedM L1 (L3.map acM) u) (sizedM L2 (L3.map dnM) v) p).v) := fun p hp => by
  have gf := GF.of hg
  simp only [gqM, hg, if_true] at h1 h2
  obtain ⟨g1, g2⟩ := sized_ge gf.v1 gf.s1 h1
  obtain ⟨g3, g4⟩ := sized_ge gf.v2 gf.s2 h2
  have z1 := SzB.of gf.v1 gf.s1 hu.1 hu.2
  have z2 := SzB.of gf.v2 gf.s2 hv.1 hv.2
  have hci := cell_in z1.1 z2.1 (gf.hsm p hp)
  have n1 := wish_need gf.v1 gf.s1 (acM p) (List.mem_map_of_mem hp)
  have n2 := wish_need gf.v2 gf.s2 (dnM p) (List.mem_map_of_mem hp)
  have s1 := PW.seg p.co.toNat p.mc.toNat g1
  have s2 := PW.seg p.ro.toNat p.mr.toNat g3
  have t1 := z1.take p.co.toNat
  have t2 := z2.take p.ro.toNat
  have u1 := take_seg (sizedM L1 (L3.map acM) u) p.co.toNat p.mc.toNat
  have u2 := take_seg (sizedM L2 (L3.map dnM) v) p.ro.toNat p.mr.toNat
  have w1 := sum_take_bd z1.1 (p.co.toNat + p.mc.toNat)
  have w2 := sum_take_bd z2.1 (p.ro.toNat + p.mr.toNat)
  simp only [areaR, acM, dnM] at hci n1 n2
  omega
end Go.Proofs.Ytikndbinlpmgaaa
end
section
namespace Go.Proofs.Ytikndbinlpmgaaa
set_option linter.unusedVariables false
theorem lnAt_in : ∀ (S : List Int) (a p i : Int) (c m : Nat), (∀ s ∈ S, 0 ≤ s) → a + sumI (S.take c) ≤ p → p < a + sumI (S.take (c + m)) → i + c ≤ lnAt S a p i ∧ lnAt S a p i < i + c + m
  | [], a, p, i, c, m, _, h1, h2 => by simp [sumI] at h1 h2; omega
  | s :: t, a, p, i, 0, 0, _, h1, h2 => by simp [sumI] at h1 h2; omega
  | s :: t, a, p, i, 0, m + 1, h, h1, h2 => by
    simp only [Nat.zero_add, List.take_succ_cons, List.take_zero, sumI] at h1 h2
    unfold lnAt
    split
    · omega
    · have := lnAt_in t (a + s) p (i + 1) 0 m (fun x hx => h x (List.mem_cons_of_mem _ hx)) (by simp only [List.take_zero, sumI]; omega) (by simp only [Nat.zero_add]; omega)
      omega
  | s :: t, a, p, i, c + 1, m, h, h1, h2 => by
    rw [show c + 1 + m = (c + m) + 1 by omega] at h2
    simp only [List.take_succ_cons, sumI] at h1 h2
    have h0 := sumI_nonneg (L := t.take c) (fun x hx => h x (List.mem_cons_of_mem _ (List.mem_of_mem_take hx)))
    unfold lnAt
    split
    · omega
    · have := lnAt_in t (a + s) p (i + 1) c m (fun x hx => h x (List.mem_cons_of_mem _ hx)) (by omega) (by omega)
      omega
def rnC (c : Ce) : Prop := ((0 ≤ c.co ∧ c.co ≤ 5) ∧ (0 ≤ c.mc ∧ c.mc ≤ 5)) ∧ ((0 ≤ c.ro ∧ c.ro ≤ 5) ∧ (0 ≤ c.mr ∧ c.mr ≤ 5))
theorem rnC_of {L1 L2 : List Ln} {L3 : List Ce} (g : GF L1 L2 L3) {c : Ce} (hc : c ∈ L3) : rnC c := by
  have s1 := g.s1; have s2 := g.s2
  simp only [spansB, Bool.and_eq_true, List.all_eq_true] at s1 s2
  have h1 := s1.2 (acM c) (List.mem_map_of_mem hc)
  have h2 := s2.2 (dnM c) (List.mem_map_of_mem hc)
  simp only [spanB, runB, Bool.and_eq_true, rng_iff, acM, dnM] at h1 h2
  have n1 := g.n1; have n2 := g.n2
  unfold rnC
  omega
/-- the first point of a cell's rectangle lies in its lines -/
theorem at_in {L1 L2 : List Ln} {L3 : List Ce} {u v : Int} {k : Nat} {r : Re} {a b : Int} (hk : (grM L1 L2 L3 u v)[k]? = some r) (hab : gaM L1 L2 L3 u v r.x r.y = (a, b)) :
    ∃ p, L3[k]? = some p ∧ rnC p ∧ ((0 ≤ r.u ∧ r.u ≤ 4000) ∧ (0 ≤ r.v ∧ r.v ≤ 4000)) ∧ (¬ r.u * r.v = 0 → (p.co ≤ a ∧ a < p.co + p.mc) ∧ (p.ro ≤ b ∧ b < p.ro + p.mr)) := by
  unfold grM at hk
  unfold gaM at hab
  split at hk
  · rename_i h
    rw [if_pos h] at hab
    simp only [Bool.and_eq_true] at h
    obtain ⟨hu, hv⟩ := rgG_yes h.2
    have gf := GF.of h.1
    rw [List.getElem?_map] at hk
    cases hp : L3[k]? with
    | none => rw [hp] at hk; cases hk
    | some p =>
      rw [hp] at hk
      have e : cellR (sizedM L1 (L3.map acM) u) (sizedM L2 (L3.map dnM) v) p = r := Option.some.inj hk
      have z1 := SzB.of gf.v1 gf.s1 hu.1 hu.2
      have z2 := SzB.of gf.v2 gf.s2 hv.1 hv.2
      have mp := List.mem_of_getElem? hp
      have rp := rnC_of gf mp
      have hci := cell_in z1.1 z2.1 (gf.hsm p mp)
      have hbd := area_bd z1 z2 p
      rw [e] at hci
      have t1 := take_seg (sizedM L1 (L3.map acM) u) p.co.toNat p.mc.toNat
      have t2 := take_seg (sizedM L2 (L3.map dnM) v) p.ro.toNat p.mr.toNat
      obtain ⟨ea, eb⟩ : lineM (sizedM L1 (L3.map acM) u) r.x = a ∧ lineM (sizedM L2 (L3.map dnM) v) r.y = b := by simpa using hab
      have hb1 := hbd.1.1; have hb2 := hbd.1.2; have hb3 := hbd.2.1; have hb4 := hbd.2.2
      simp only [areaR] at hci hb1 hb2 hb3 hb4
      unfold rnC at rp
      refine ⟨p, rfl, rp, ⟨by omega, by omega⟩, fun hne => ?_⟩
      have h1 : ¬ r.u = 0 := fun h => hne (by rw [h, Int.zero_mul])
      have h2 : ¬ r.v = 0 := fun h => hne (by rw [h, Int.mul_zero])
      have l1 := lnAt_in (sizedM L1 (L3.map acM) u) 0 r.x 0 p.co.toNat p.mc.toNat z1.1 (by omega) (by omega)
      have l2 := lnAt_in (sizedM L2 (L3.map dnM) v) 0 r.y 0 p.ro.toNat p.mr.toNat z2.1 (by omega) (by omega)
      unfold lineM at ea eb
      rw [ea] at l1
      rw [eb] at l2
      omega
  · simp at hk
theorem ga_lt {L1 L2 : List Ln} {L3 : List Ce} {u v x y : Int} {a b : Int} (hab : gaM L1 L2 L3 u v x y = (a, b)) : (-1 ≤ a ∧ a < L1.length) ∧ (-1 ≤ b ∧ b < L2.length) := by
  unfold gaM at hab
  split at hab
  · rename_i h
    simp only [Bool.and_eq_true] at h
    have gf := GF.of h.1
    have q1 := sizedM_len (room := u) gf.v1 gf.s1
    have q2 := sizedM_len (room := v) gf.v2 gf.s2
    have m1 := linesB_len' gf.v1
    have m2 := linesB_len' gf.v2
    obtain ⟨ea, eb⟩ : lineM (sizedM L1 (L3.map acM) u) x = a ∧ lineM (sizedM L2 (L3.map dnM) v) y = b := by simpa using hab
    have l1 := lnAt_bd (sizedM L1 (L3.map acM) u) 0 x 0 (by omega)
    have l2 := lnAt_bd (sizedM L2 (L3.map dnM) v) 0 y 0 (by omega)
    unfold lineM at ea eb
    rw [ea] at l1
    rw [eb] at l2
    omega
  · obtain ⟨rfl, rfl⟩ : -1 = a ∧ -1 = b := by simpa using hab
    omega
end Go.Proofs.Ytikndbinlpmgaaa
end
section
set_option linter.unusedVariables false
namespace Go.Proofs.Ytikndbinlpmgaaa
/-- an item that is placed -/
structure Plc where
  x : Int
  y : Int
  rx : Int
  ry : Int
  ww : Int
  hh : Int
  qw : Int
  qh : Int
  an : Int
def shB (n : Int) : Bool := rng n (-300) 300
def reB (n : Int) : Bool := rng n 0 1000
def plB (p : Plc) : Bool := [p.x, p.y, p.ww, p.hh].all shB && ([p.rx, p.ry, p.qw, p.qh].all reB && rng p.an 0 8)
theorem plB_iff {p : Plc} : plB p = true ↔ ((-300 ≤ p.x ∧ p.x ≤ 300) ∧ (-300 ≤ p.y ∧ p.y ≤ 300) ∧ (0 ≤ p.rx ∧ p.rx ≤ 1000) ∧ (0 ≤ p.ry ∧ p.ry ≤ 1000) ∧ (-300 ≤ p.ww ∧ p.ww ≤ 300) ∧ (-300 ≤ p.hh ∧ p.hh ≤ 300) ∧ (0 ≤ p.qw ∧ p.qw ≤ 1000) ∧ (0 ≤ p.qh ∧ p.qh ≤ 1000) ∧ (0 ≤ p.an ∧ p.an ≤ 8)) := by
  simp only [plB, shB, reB, List.all_cons, List.all_nil, Bool.and_true, Bool.and_eq_true, rng_iff]
  omega
/-- so many thousandths -/
def thM (m s : Int) : Int := m * s / 1000
theorem th_prod {m s : Int} (h1 : 0 ≤ m) (h2 : m ≤ 1000) (h3 : 0 ≤ s) (h4 : s ≤ 400) : 0 ≤ m * s ∧ m * s ≤ 400000 := by
  refine ⟨Int.mul_nonneg h1 h3, ?_⟩
  have e1 : m * s ≤ 1000 * s := Int.mul_le_mul_of_nonneg_right h2 h3
  omega
theorem th_bd {m s : Int} (h1 : 0 ≤ m) (h2 : m ≤ 1000) (h3 : 0 ≤ s) (h4 : s ≤ 400) : 0 ≤ thM m s ∧ thM m s ≤ 400 := by
  have := th_prod h1 h2 h3 h4
  unfold thM; omega
theorem th_zero (s : Int) : thM 0 s = 0 := by simp [thM]
/-- the sizes and the place -/
def wM (p : Plc) (w : Int) : Int := mx (p.ww + thM p.qw w) 0
def hM (p : Plc) (h : Int) : Int := mx (p.hh + thM p.qh h) 0
def xM (p : Plc) (w : Int) : Int := p.x + thM p.rx w - wM p w * (p.an % 3) / 2
def yM (p : Plc) (h : Int) : Int := p.y + thM p.ry h - hM p h * (p.an / 3) / 2
def rqB (w h : Int) : Bool := rng w 0 400 && rng h 0 400
theorem rqB_iff {w h : Int} : rqB w h = true ↔ ((0 ≤ w ∧ w ≤ 400) ∧ (0 ≤ h ∧ h ≤ 400)) := by simp only [rqB, Bool.and_eq_true, rng_iff]
def prB (p : Plc) (w h : Int) : Bool := plB p && rqB w h
theorem half_bd {s k : Int} (h1 : 0 ≤ s) (h2 : s ≤ 700) (h3 : 0 ≤ k) (h4 : k ≤ 2) : 0 ≤ s * k ∧ s * k ≤ 1400 ∧ 0 ≤ s * k / 2 ∧ s * k / 2 ≤ 700 := by
  have e1 : 0 ≤ s * k := Int.mul_nonneg h1 h3
  have e2 : s * k ≤ s * 2 := Int.mul_le_mul_of_nonneg_left h4 h1
  omega
/-- all that the walks want to know of sizes -/
structure PlBd (p : Plc) (w h : Int) : Prop where
  t1 : 0 ≤ thM p.rx w ∧ thM p.rx w ≤ 400
  t2 : 0 ≤ thM p.ry h ∧ thM p.ry h ≤ 400
  t3 : 0 ≤ thM p.qw w ∧ thM p.qw w ≤ 400
  t4 : 0 ≤ thM p.qh h ∧ thM p.qh h ≤ 400
  w1 : 0 ≤ wM p w ∧ wM p w ≤ 700
  h1 : 0 ≤ hM p h ∧ hM p h ≤ 700
  a1 : 0 ≤ p.an % 3 ∧ p.an % 3 ≤ 2
  a2 : 0 ≤ p.an / 3 ∧ p.an / 3 ≤ 2
  p1 : 0 ≤ wM p w * (p.an % 3) ∧ wM p w * (p.an % 3) ≤ 1400 ∧ 0 ≤ wM p w * (p.an % 3) / 2 ∧ wM p w * (p.an % 3) / 2 ≤ 700
  p2 : 0 ≤ hM p h * (p.an / 3) ∧ hM p h * (p.an / 3) ≤ 1400 ∧ 0 ≤ hM p h * (p.an / 3) / 2 ∧ hM p h * (p.an / 3) / 2 ≤ 700
theorem pl_bd {p : Plc} {w h : Int} (hp : plB p = true) (hr : rqB w h = true) : PlBd p w h := by
  obtain ⟨b1, b2, b3, b4, b5, b6, b7, b8, b9⟩ := plB_iff.1 hp
  obtain ⟨r1, r2⟩ := rqB_iff.1 hr
  have t1 := th_bd b3.1 b3.2 r1.1 r1.2
  have t2 := th_bd b4.1 b4.2 r2.1 r2.2
  have t3 := th_bd b7.1 b7.2 r1.1 r1.2
  have t4 := th_bd b8.1 b8.2 r2.1 r2.2
  have w1 : 0 ≤ wM p w ∧ wM p w ≤ 700 := by have := mx_spec (p.ww + thM p.qw w) 0; unfold wM; omega
  have h1 : 0 ≤ hM p h ∧ hM p h ≤ 700 := by have := mx_spec (p.hh + thM p.qh h) 0; unfold hM; omega
  have a1 : 0 ≤ p.an % 3 ∧ p.an % 3 ≤ 2 := by omega
  have a2 : 0 ≤ p.an / 3 ∧ p.an / 3 ≤ 2 := by omega
  exact ⟨t1, t2, t3, t4, w1, h1, a1, a2, half_bd w1.1 w1.2 a1.1 a1.2, half_bd h1.1 h1.2 a2.1 a2.2⟩
theorem PlBd.x1 {p : Plc} {w h : Int} (b : PlBd p w h) (hp : plB p = true) : -1000 ≤ xM p w ∧ xM p w ≤ 700 := by
  obtain ⟨b1, _⟩ := plB_iff.1 hp
  obtain ⟨t1, t2, t3, t4, w1, h1, a1, a2, p1, p2⟩ := b
  unfold xM; omega
theorem PlBd.y1 {p : Plc} {w h : Int} (b : PlBd p w h) (hp : plB p = true) : -1000 ≤ yM p h ∧ yM p h ≤ 700 := by
  obtain ⟨_, b2, _⟩ := plB_iff.1 hp
  obtain ⟨t1, t2, t3, t4, w1, h1, a1, a2, p1, p2⟩ := b
  unfold yM; omega
/-- whether it lies inside -/
def piB (p : Plc) (w h : Int) : Bool := insB 0 0 w h (xM p w) (yM p h) (wM p w) (hM p h)
/-- the least size -/
def LeM (p : Plc) (v : Int) : Prop := (0 ≤ v ∧ v ≤ 400 ∧ piB p v v = true ∧ ∀ j : Int, 0 ≤ j → j < v → piB p j j = false) ∨ (v = -1 ∧ ∀ j : Int, 0 ≤ j → j ≤ 400 → piB p j j = false)
theorem LeM_uniq {p : Plc} {a b : Int} (ha : LeM p a) (hb : LeM p b) : a = b := by
  rcases ha with ⟨a0, a1, a2, a3⟩ | ⟨rfl, a1⟩ <;> rcases hb with ⟨b0, b1, b2, b3⟩ | ⟨rfl, b1⟩
  · rcases Int.lt_trichotomy a b with h | h | h
    · have := b3 a a0 h; rw [this] at a2; cases a2
    · exact h
    · have := a3 b b0 h; rw [this] at b2; cases b2
  · have := b1 a a0 a1; rw [this] at a2; cases a2
  · have := a1 b b0 b1; rw [this] at b2; cases b2
  · rfl
theorem le_step {p : Plc} {k : Nat} (h : ∀ j : Int, 0 ≤ j → j < k → piB p j j = false) (hk : piB p k k = false) : ∀ j : Int, 0 ≤ j → j < ((k + 1 : Nat) : Int) → piB p j j = false := fun j j0 j1 => by
  by_cases e : j = k
  · subst e; exact hk
  · exact h j j0 (by omega)
/-- the item that is told another place; what is fixed -/
def atM (p : Plc) (w h x y : Int) : Plc := ⟨p.x + (x - xM p w), p.y + (y - yM p h), p.rx, p.ry, p.ww, p.hh, p.qw, p.qh, p.an⟩
def fixM (p : Plc) (w h : Int) : Plc := ⟨p.x + thM p.rx w, p.y + thM p.ry h, 0, 0, wM p w, hM p h, 0, 0, p.an⟩
def paB (p : Plc) (w h x y : Int) : Bool := prB p w h && (shB x && (shB y && plB (atM p w h x y)))
def fxB (p : Plc) (w h : Int) : Bool := prB p w h && plB (fixM p w h)
end Go.Proofs.Ytikndbinlpmgaaa
namespace Go.Proofs.Ytikndbinlpmgaaa
def Sq (a b c d : Int) : Prop := (-2000 ≤ a ∧ a ≤ 2000) ∧ (-2000 ≤ b ∧ b ≤ 2000) ∧ (-2000 ≤ c ∧ c ≤ 2000) ∧ (-2000 ≤ d ∧ d ≤ 2000)
theorem Sq.sm {a b c d : Int} (h : Sq a b c d) : Sm a b c d := by
  obtain ⟨h1, h2, h3, h4⟩ := h
  exact Sm_of (by omega)
theorem Sq.cover {x y u v x' y' u' v' : Int} (h : Sq x y u v) (h' : Sq x' y' u' v') : Sm (mn x x') (mn y y') (mx (x + u) (x' + u')) (mx (y + v) (y' + v')) ∧ Sq (mn x x') (mn y y') 0 0 ∧ (-4000 ≤ mx (x + u) (x' + u') ∧ mx (x + u) (x' + u') ≤ 4000) ∧ (-4000 ≤ mx (y + v) (y' + v') ∧ mx (y + v) (y' + v') ≤ 4000) := by
  obtain ⟨h1, h2, h3, h4⟩ := h
  obtain ⟨k1, k2, k3, k4⟩ := h'
  have := mn_spec x x'; have := mn_spec y y'; have := mx_spec (x + u) (x' + u'); have := mx_spec (y + v) (y' + v')
  refine ⟨Sm_of (by omega), ⟨by omega, by omega, by omega, by omega⟩, by omega, by omega⟩
theorem holds_all {x y u v x' y' u' v' : Int} :
    (mn x x' = x ∧ mn y y' = y ∧ mx (x + u) (x' + u') - mn x x' = u ∧ mx (y + v) (y' + v') - mn y y' = v) ↔ (x ≤ x' ∧ y ≤ y' ∧ x' + u' ≤ x + u ∧ y' + v' ≤ y + v) := by
  have := mn_spec x x'; have := mn_spec y y'; have := mx_spec (x + u) (x' + u'); have := mx_spec (y + v) (y' + v')
  omega
theorem pl_sq {p : Plc} {w h : Int} (hp : plB p = true) (hr : rqB w h = true) : Sq (xM p w) (yM p h) (wM p w) (hM p h) := by
  have b := pl_bd hp hr
  have b1 := b.x1 hp
  have b2 := b.y1 hp
  have b3 := b.w1
  have b4 := b.h1
  exact ⟨by omega, by omega, by omega, by omega⟩
theorem rm_sq {w h : Int} (hr : rqB w h = true) : Sq 0 0 w h := by
  obtain ⟨r1, r2⟩ := rqB_iff.1 hr
  exact ⟨by omega, by omega, by omega, by omega⟩
theorem le_ex (p : Plc) : ∃ v, LeM p v := by
  have key : ∀ k : Nat, k ≤ 401 → (∃ v, LeM p v) ∨ ∀ j : Int, 0 ≤ j → j < k → piB p j j = false := by
    intro k
    induction k with
    | zero => intro _; exact .inr (fun j h1 h2 => by omega)
    | succ k ih =>
      intro hk
      rcases ih (by omega) with h | h
      · exact .inl h
      · cases hp : piB p (k : Int) (k : Int)
        · exact .inr (le_step h hp)
        · exact .inl ⟨k, .inl ⟨by omega, by omega, hp, h⟩⟩
  rcases key 401 (Nat.le_refl _) with h | h
  · exact h
  · exact ⟨-1, .inr ⟨rfl, fun j h0 h1 => h j h0 (by omega)⟩⟩
theorem prB_yes {p : Plc} {w h : Int} (e : prB p w h = true) : plB p = true ∧ rqB w h = true := by simpa [prB] using e
theorem atM_bd {p : Plc} {w h x y : Int} (e : paB p w h x y = true) : plB p = true ∧ rqB w h = true ∧ shB x = true ∧ shB y = true ∧ plB (atM p w h x y) = true := by
  simp only [paB, prB, Bool.and_eq_true] at e
  exact ⟨e.1.1, e.1.2, e.2.1, e.2.2.1, e.2.2.2⟩
end Go.Proofs.Ytikndbinlpmgaaa
end
section
namespace Go.Proofs.Ytikndbinlpmgaaa
open Go.RowKit
set_option linter.unusedVariables false
set_option maxHeartbeats 1000000
attribute [local go_sem 5000] run_mx run_mn run_eqlR run_neqR
attribute [local go_sem] growUpon_value growUpon_skip growUpon_enter
theorem room_g (u v : Int) (w : World) : Calls Try.prog 15 #[.int .i64 u, .int .i64 v] w fun e w' => e = .returned (.agg #[.int .i64 (0), .int .i64 (0), .int .i64 (u), .int .i64 (v)]) ∧ Below w.heap.size w w' := by
  go_enter Try.func15, Try.ntmps15
  go_wp2
  exact bodyPost_ret (v := .agg #[.int .i64 (0), .int .i64 (0), .int .i64 (u), .int .i64 (v)]) (by simp only [results, Try.results15]; go_simp) rfl ⟨rfl, (by repeat (first | with_reducible exact Below.refl _ _ | with_reducible assumption | with_reducible refine balloc ?_ | (with_reducible refine bset ?_ ?_; rotate_left; ((try dsimp only); omega)) | refine bkeep2 ?_ (by assumption) | with_reducible refine Below.drew ?_))⟩
set_option maxRecDepth 100000 in
theorem within2_g (x y u v x' y' u' v' : Int) (w : World) (h1 : Sq x y u v) (h2 : Sq x' y' u' v') (ht : x ≤ x' ∧ y ≤ y' ∧ x' + u' ≤ x + u ∧ y' + v' ≤ y + v) : Calls Try.prog 14 #[.agg #[.int .i64 (x), .int .i64 (y), .int .i64 (u), .int .i64 (v)], .agg #[.int .i64 (x'), .int .i64 (y'), .int .i64 (u'), .int .i64 (v')]] w fun e w' => e = .returned (.bool true) ∧ Below w.heap.size w w' := by
  obtain ⟨⟨a1, a2⟩, ⟨a3, a4⟩, ⟨a5, a6⟩, ⟨a7, a8⟩⟩ := h1
  obtain ⟨⟨b1, b2⟩, ⟨b3, b4⟩, ⟨b5, b6⟩, ⟨b7, b8⟩⟩ := h2
  obtain ⟨g1, g2, g3, g4⟩ := ht
  go_enter Try.func14, Try.ntmps14
  go_wp2_with fail
  all_goals try go_quiet (fail)
  all_goals try go_wp2
  go_ret
  exact ⟨ret_bool (by simp <;> omega), (by repeat (first | with_reducible exact Below.refl _ _ | with_reducible assumption | with_reducible refine balloc ?_ | (with_reducible refine bset ?_ ?_; rotate_left; ((try dsimp only); omega)) | refine bkeep2 ?_ (by assumption) | with_reducible refine Below.drew ?_))⟩
set_option maxRecDepth 100000 in
theorem equalRects_g (v v' : Value) (M : List Re) (w : World) (h : ReR w v M) (h' : ReR w v' M) (hM : M.length ≤ 100) :
    Calls Try.prog 11 #[v, v'] w fun e w' => e = .returned (.bool true) ∧ Below w.heap.size w w' := by
  obtain ⟨A, c, rfl, h⟩ := h
  obtain ⟨B, c', rfl, h'⟩ := h'
  go_enter Try.func11, Try.ntmps11
  go_wp2_with fail
  go_loopw [5] (fun i wr => ∃ k : Nat, k ≤ M.length ∧ i = .int .i64 k ∧ Below w.heap.size w wr) (fun i _ => M.length - (intOf i).toNat)
  case atStart => exact ⟨0, by omega, rfl, Below.refl _ _⟩
  case round =>
    obtain ⟨k, hk, rfl, hB⟩ := hrel
    by_cases hlt : k < M.length
    · have hd : decide ((k : Int) < (M.length : Int)) = true := by simpa using hlt
      obtain ⟨b, off, rfl, hb, hp⟩ := (h.keep hB).cells (by omega)
      obtain ⟨b', off', rfl, hb', hp'⟩ := (h'.keep hB).cells (by omega)
      obtain ⟨c0, c1, c2, c3⟩ := hp k _ (List.getElem?_eq_getElem hlt)
      obtain ⟨d0, d1, d2, d3⟩ := hp' k _ (List.getElem?_eq_getElem hlt)
      generalize hx : M[k] = r at *
      have he : eqR r.x r.y r.u r.v r.x r.y r.u r.v = true := eqR_self
      have HX := Lib.hid hx
      have HP := Lib.hid hp
      have HP' := Lib.hid hp'
      have HB := Lib.hid hB
      have HH := Lib.hid h
      have HH' := Lib.hid h'
      clear hx hp hp' hB h h'
      go_wp2_with fail
      refine wp_region_grow 9 0 (· < 9) (by kernel_rfl) (by kernel_rfl) rfl ?_
      iterate 9 (refine wpG_step (fun K hK => ?_); first | (refine grow_skip rfl ?_; go_simp; refine hK _ ?_; clear hK K) | (apply Exists.intro; refine ⟨.inl ⟨rfl, fun w' hw' => ?_⟩, ?_⟩; (focus ((obtain ⟨hc, hf⟩ := bcell hw'.out); (have hcS := bcellS hw'.out); go_simp <;> first | rfl | (fail))); (go_simp; refine hK _ ?_; clear hK K)))
      refine wpG_nil ?_
      refine wpK_tail (by kernel_rfl) (fun w1 hg1 => ?_)
      have hb1 := bdrewn hg1.out
      refine wpAny_end (by kernel_rfl) ?_
      refine NoPan.thn ?_
      clear hg1
      replace HB := Lib.hid (HB.out.trans (hb1.mono HB.out.size))
      clear hb1 c0 c1 c2 c3 d0 d1 d2 d3
      go_wp2
      go_roundw
      case rel => exact ⟨k + 1, by omega, by go_num, HB.out⟩
      case measure => simp [intOf]; omega
    · have hd : decide ((k : Int) < (M.length : Int)) = false := by simp; omega
      have HB := Lib.hid hB
      clear hB
      go_wp2
      go_ret
      exact ⟨rfl, HB.out⟩
end Go.Proofs.Ytikndbinlpmgaaa
end
section
namespace Go.Proofs.Ytikndbinlpmgaaa
open Go.RowKit
set_option linter.unusedVariables false
theorem IsRow.bts {w : World} {A : Option Addr} {n c : Nat} {z : List Int} (h : IsRow .u8 w A n c z) : Bts w A n ∧ n ≤ c ∧ c ≤ maxLen := by
  rcases h with ⟨rfl, rfl, rfl, rfl⟩ | ⟨x, rfl, h1, h2, h3, h4, h5⟩
  · exact ⟨fun h => absurd h (by omega), Nat.le_refl _, by unfold maxLen; omega⟩
  · refine ⟨fun hn => ⟨x, rfl, ?_, fun i hi => ?_⟩, h1, h2⟩
    · have := h4 0 (by omega)
      have h6 := World.block_lt_of_cell? w _ this
      rwa [block_add] at h6
    · have hc := h4 i (by omega)
      refine ⟨z.getD i 0, ?_, ?_, hc⟩
      all_goals
        have hm : z.getD i 0 ∈ z := by
          rw [List.getD_eq_getElem?_getD, List.getElem?_eq_getElem (by omega)]
          exact List.getElem_mem _
        have h6 := h5 _ hm
        have g1 : IntKind.u8.min = 0 := by decide
        have g2 : IntKind.u8.max = 255 := by decide
        generalize z.getD i 0 = y at *
        simp [Lit.wf, g1, g2] at h6
        omega
end Go.Proofs.Ytikndbinlpmgaaa
end
