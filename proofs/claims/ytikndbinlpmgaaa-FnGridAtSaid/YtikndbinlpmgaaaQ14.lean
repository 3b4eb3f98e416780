import Derived.Test.YtikndbinlpmgaaaQ13
section
namespace Go.Proofs.Ytikndbinlpmgaaa
set_option linter.unusedVariables false
theorem takZ_at : ∀ {L : List Ln} {O P : List Int} {i : Nat} {l : Ln} {o p : Int}, L[i]? = some l → O[i]? = some o → P[i]? = some p → (takZ L O P)[i]? = some (o - mn p (o - l.mi))
  | l' :: L, o' :: O, p' :: P, 0, l, o, p, hl, ho, hp => by
    simp only [List.getElem?_cons_zero, Option.some.injEq] at hl ho hp
    subst hl ho hp
    simp [takZ]
  | l' :: L, o' :: O, p' :: P, i + 1, l, o, p, hl, ho, hp => by
    simp only [List.getElem?_cons_succ] at hl ho hp
    simp only [takZ, List.getElem?_cons_succ]
    exact takZ_at hl ho hp
  | [], _, _, i, l, o, p, hl, _, _ => by simp at hl
  | _ :: _, [], _, i, l, o, p, _, ho, _ => by simp at ho
  | _ :: _, _ :: _, [], i, l, o, p, _, _, hp => by simp at hp
theorem takZ_sum : ∀ (L : List Ln) (O P : List Int), sumI (takZ L O P) = sumI O - tknZ L O P
  | l :: L, o :: O, p :: P => by simp only [takZ, tknZ, sumI, takZ_sum L O P]; omega
  | [], O, P => by simp [takZ, tknZ]
  | l :: L, [], P => by simp [takZ, tknZ]
  | l :: L, o :: O, [] => by simp [takZ, tknZ]
theorem shr_all {L : List Ln} (hL : linesB L = true) : ∀ (f : Nat) (n : Int) (O : List Int), n.toNat ≤ f → 0 ≤ n → SOK L O →
    SOK L (shrZ L n O) ∧ (∀ (i : Nat) (l : Ln) (o r : Int), L[i]? = some l → O[i]? = some o → (shrZ L n O)[i]? = some r → r ≤ o ∧ (l.wt = 0 → r = o)) ∧ sumI (shrZ L n O) ≤ sumI O ∧ sumI O - n ≤ sumI (shrZ L n O) ∧ (sumI (shrZ L n O) = sumI O - n ∨ sumI (wtZ L (shrZ L n O)) = 0)
  | 0, n, O, hf, hn, h => by
    obtain rfl : n = 0 := by omega
    rw [shr_end (.inl (by omega))]
    exact ⟨h, fun i l o r _ h1 h2 => by rw [h1] at h2; obtain rfl := Option.some.inj h2; exact ⟨Int.le_refl _, fun _ => rfl⟩, Int.le_refl _, by omega, .inl (by omega)⟩
  | f + 1, n, O, hf, hn, h => by
    by_cases h0 : 0 < n ∧ sumI (wtZ L O) ≠ 0
    · obtain ⟨hp0, hs⟩ := h0
      obtain ⟨hp, ht0, htn, hk⟩ := round_ok hL h hp0 hs
      rw [shr_go hL h hp0 hs]
      have hw := wtZ_ok hL h
      have hs0 : 0 < sumI (wtZ L O) := by have := hw.sum; omega
      have hsum := takZ_sum L O (spreadM n (wtZ L O))
      obtain ⟨a1, a2, a3, a4, a5⟩ := shr_all hL f (n - tknZ L O (spreadM n (wtZ L O))) (takZ L O (spreadM n (wtZ L O))) (by omega) (by omega) hk
      refine ⟨a1, fun i l o r h1 h2 h3 => ?_, by omega, by omega, ?_⟩
      · obtain ⟨y, e1, y0, y1, e2⟩ := spread_get (n := n) (by omega) hw (wtZ_get h1 h2)
        have := takZ_at h1 h2 e1
        have hr := a2 i l _ r h1 this h3
        have hmi := (h.get h1 h2).1
        have hm := mn_spec y (o - l.mi)
        refine ⟨by omega, fun hw0 => ?_⟩
        have h4 := (e2 hs0).1 (by rw [hw0]; simp)
        have := hr.2 hw0
        subst h4
        omega
      · rcases a5 with a5 | a5
        · exact .inl (by omega)
        · exact .inr a5
    · have he : shrZ L n O = O := shr_end (by omega)
      rw [he]
      refine ⟨h, fun i l o r _ h1 h2 => by rw [h1] at h2; obtain rfl := Option.some.inj h2; exact ⟨Int.le_refl _, fun _ => rfl⟩, Int.le_refl _, by omega, ?_⟩
      by_cases hp0 : 0 < n
      · exact .inr (by omega)
      · exact .inl (by omega)
theorem addP_at : ∀ {O P : List Int} {i : Nat} {o p : Int}, O[i]? = some o → P[i]? = some p → (addP O P)[i]? = some (o + p)
  | o' :: O, p' :: P, 0, o, p, h, hp => by
    simp only [List.getElem?_cons_zero, Option.some.injEq] at h hp
    subst h hp
    simp [addP]
  | o' :: O, p' :: P, i + 1, o, p, h, hp => by
    simp only [List.getElem?_cons_succ] at h hp
    simp only [addP, List.getElem?_cons_succ]
    exact addP_at h hp
  | [], P, i, o, p, h, _ => by simp at h
  | o' :: O, [], i, o, p, _, hp => by simp at hp
theorem addAt0 (O P : List Int) : addAt O 0 P = addP O P := by simp [addAt]
theorem linesB_get {L : List Ln} (hL : linesB L = true) {l : Ln} (hl : l ∈ L) : (0 ≤ l.wt ∧ l.wt ≤ 5) ∧ (0 ≤ l.mi ∧ l.mi ≤ 30) := by
  obtain ⟨h1, h2⟩ := min_bd hL
  refine ⟨h2.1 _ (List.mem_map_of_mem hl), ?_⟩
  simp only [linesB, Bool.and_eq_true, List.all_eq_true] at hL
  have := hL.2 l hl
  simp only [lineB, Bool.and_eq_true, rng_iff] at this
  exact this.2
/-- the sizes of lines in a room -/
theorem sized_ok {L : List Ln} {S : List Sp} {room : Int} (hL : linesB L = true) (hS : spansB L.length S = true) (hr0 : 0 ≤ room) (hr1 : room ≤ 400) :
    SOK L (sizedM L S room) ∧ (sizedM L S room).length = L.length ∧ (∀ x ∈ sizedM L S room, 0 ≤ x ∧ x ≤ 1000000) ∧ sumI (sizedM L S room) ≤ 2150 := by
  obtain ⟨k1, k2, k3, k4, k5⟩ := wish_ok hL hS
  have key : SOK L (sizedM L S room) ∧ sumI (sizedM L S room) ≤ 2150 := by
    unfold sizedM
    split
    · obtain ⟨a1, a2, a3, a4, a5⟩ := shr_all hL _ (-(room - sumI (wishM L S))) (wishM L S) (Nat.le_refl _) (by omega) k1
      exact ⟨a1, by omega⟩
    · split
      · exact ⟨k1, k5⟩
      · obtain ⟨hO, hW⟩ := min_bd hL
        have hn : 0 ≤ room - sumI (wishM L S) := by omega
        have hsum := spread_sum hn hW
        have hnn := spread_nn hn hW
        have hlen : (spreadM (room - sumI (wishM L S)) (L.map Ln.wt)).length = L.length := by rw [spreadM_len, List.length_map]
        have hs := sum_addAt (O := wishM L S) (P := spreadM (room - sumI (wishM L S)) (L.map Ln.wt)) (k := 0) (by omega)
        have hmi : MI L (addAt (wishM L S) 0 (spreadM (room - sumI (wishM L S)) (L.map Ln.wt))) := MI.add (fun i l o h1 h2 => (k1.get h1 h2).1) hnn
        have hx0 := nn_addAt (k := 0) (fun x hx => (k3 x hx).1) hnn
        have hx1 := mem_le_sum hx0
        refine ⟨SOK.of (by rw [addAt_len]; exact k2) hmi (fun x hx => by have := hx1 x hx; omega), by omega⟩
  refine ⟨key.1, key.1.len, fun x hx => ?_, key.2⟩
  obtain ⟨i, hi, e⟩ := List.mem_iff_getElem.1 hx
  have hl : i < L.length := by rw [← key.1.len]; exact hi
  have := key.1.get (List.getElem?_eq_getElem hl) (by rw [List.getElem?_eq_getElem hi, e])
  have := (linesB_get hL (List.getElem_mem hl)).2
  omega
theorem sized_smal {L : List Ln} {S : List Sp} {room : Int} (hL : linesB L = true) (hS : spansB L.length S = true) (hr0 : 0 ≤ room) (hr1 : room ≤ 400) : Smal 1000000000 (sizedM L S room) ∧ (sizedM L S room).length ≤ 5 := by
  obtain ⟨-, hl, hx, -⟩ := sized_ok hL hS hr0 hr1
  have h5 := (linesB_len hL).2
  refine ⟨smal_of (b := 1000000) (fun x h => ⟨by have := (hx x h).1; omega, (hx x h).2⟩) (by omega) ?_, by omega⟩
  rw [hl]; omega
/-- where each line begins, up to one of them -/
def edP (S : List Int) (k : Nat) : List Int := (List.range (S.length + 1)).map fun i => if i ≤ k then sumI (S.take i) else 0
def edL (S : List Int) : List Int := (List.range (S.length + 1)).map fun i => sumI (S.take i)
theorem edP_len (S : List Int) (k : Nat) : (edP S k).length = S.length + 1 := by simp [edP]
theorem edL_len (S : List Int) : (edL S).length = S.length + 1 := by simp [edL]
theorem edP_zero (S : List Int) : List.replicate (S.length + 1) 0 = edP S 0 := by
  apply List.ext_getElem
  · simp [edP]
  · intro i h1 h2
    simp only [edP, List.getElem_map, List.getElem_range, List.getElem_replicate]
    split
    · rename_i h
      obtain rfl : i = 0 := by omega
      simp [sumI]
    · rfl
theorem edP_end (S : List Int) : edP S S.length = edL S := by
  apply List.ext_getElem
  · simp [edP, edL]
  · intro i h1 h2
    simp only [edP, edL, List.getElem_map, List.getElem_range]
    rw [if_pos]
    simp [edP] at h1
    omega
theorem edP_get {S : List Int} {k i : Nat} (hi : i ≤ S.length) : (edP S k)[i]? = some (if i ≤ k then sumI (S.take i) else 0) := by
  rw [List.getElem?_eq_getElem (by rw [edP_len]; omega)]
  simp [edP]
theorem edL_get {S : List Int} {i : Nat} (hi : i ≤ S.length) : (edL S)[i]? = some (sumI (S.take i)) := by
  rw [List.getElem?_eq_getElem (by rw [edL_len]; omega)]
  simp [edL]
theorem edP_set {S : List Int} {k : Nat} (hk : k < S.length) : (edP S k).set (k + 1) (sumI (S.take (k + 1))) = edP S (k + 1) := by
  apply List.ext_getElem
  · simp [edP]
  · intro i h1 h2
    rw [List.getElem_set]
    simp only [edP, List.getElem_map, List.getElem_range]
    split
    · rename_i h
      subst h
      rw [if_pos (Nat.le_refl _)]
    · rename_i h
      by_cases h3 : i ≤ k
      · rw [if_pos h3, if_pos (by omega)]
      · rw [if_neg h3, if_neg (by omega)]
/-- the line in which a place lies, told from the one that begins at a place -/
def lnAt : List Int → Int → Int → Int → Int
  | [], _, _, _ => -1
  | s :: t, a, p, i => if a ≤ p ∧ p < a + s then i else lnAt t (a + s) p (i + 1)
def lineM (S : List Int) (p : Int) : Int := lnAt S 0 p 0
theorem lnAt_bd : ∀ (S : List Int) (a p i : Int), 0 ≤ i → -1 ≤ lnAt S a p i ∧ lnAt S a p i < i + S.length ∨ lnAt S a p i = -1
  | [], a, p, i, h => by simp [lnAt]
  | s :: t, a, p, i, h => by
    unfold lnAt
    split
    · simp only [List.length_cons]; omega
    · rcases lnAt_bd t (a + s) p (i + 1) (by omega) with h1 | h1
      · simp only [List.length_cons]; omega
      · exact .inr h1
theorem lnAt_drop {S : List Int} {k : Nat} {s p R : Int} (hs : S[k]? = some s) (h : lnAt (S.drop k) (sumI (S.take k)) p k = R) :
    (sumI (S.take k) ≤ p ∧ p < sumI (S.take k) + s → R = k) ∧ (¬ (sumI (S.take k) ≤ p ∧ p < sumI (S.take k) + s) → lnAt (S.drop (k + 1)) (sumI (S.take (k + 1))) p ((k + 1 : Nat) : Int) = R) := by
  obtain ⟨hk, e⟩ := List.getElem?_eq_some_iff.1 hs
  rw [List.drop_eq_getElem_cons hk, e, lnAt] at h
  rw [sumI_snoc hs]
  constructor
  · intro hc; rw [if_pos hc] at h; exact h.symm
  · intro hc; rw [if_neg hc] at h; rw [← h]; rfl
theorem lnAt_done {S : List Int} {k : Nat} {p R : Int} (hk : S.length ≤ k) (h : lnAt (S.drop k) (sumI (S.take k)) p k = R) : R = -1 := by
  rw [List.drop_eq_nil_of_le hk, lnAt] at h
  exact h.symm
end Go.Proofs.Ytikndbinlpmgaaa
end
section
namespace Go.Proofs.Ytikndbinlpmgaaa
open Go.RowKit
set_option linter.unusedVariables false
set_option maxHeartbeats 1000000
attribute [local go_sem] growUpon_value growUpon_skip growUpon_enter
attribute [local go_sem] givesUpon_value givesUpon_skip givesUpon_enter
theorem nopan_normal {Q : Exit → Act → World → Prop} {a : Act} {w : World} (h : Q .normal a w) : NoPan Q .normal a w := h
set_option maxRecDepth 100000 in
theorem edgesOf_v (A : Option Addr) (c n : Nat) (S : List Int) (w : World) (h : NV w A S) (hn : n = S.length) (h5 : S.length ≤ 5) (hM : Smal 1000000000 S) :
    Calls Try.prog 84 #[.slice A n c] w fun e w' => e = .returned (.slice (some ⟨w.heap.size, 0, none⟩) (n + 1) (n + 1)) ∧ IB w' w.heap.size (edL S) ∧ Below w.heap.size w w' := by
  have hmk : ∀ w : World, (Instr.makeSlice 68 (.int .i64 ((n : Int) + 1)) (.int .i64 ((n : Int) + 1))).run Try.prog w = .ok (.slice (some ⟨w.heap.size, 0, none⟩) (n + 1) (n + 1)) (w.alloc (.cells (ivals (List.replicate (n + 1) 0)) 3)) := fun w => madeI (n + 1) w (by omega)
  have HM := Lib.hid hM
  subst hn
  have hi0 : IB (w.alloc (.cells (ivals (List.replicate (S.length + 1) 0)) 3)) w.heap.size (edP S 0) := by rw [← edP_zero]; exact makeI_b _ w
  have HI := Lib.hid hi0
  have HB := Lib.hid (balloc (o := (.cells (ivals (List.replicate (S.length + 1) 0)) 3)) (Below.refl w.heap.size w))
  have HH := Lib.hid h
  clear hM hi0 h
  obtain ⟨n, hn⟩ : ∃ n, S.length = n := ⟨_, rfl⟩
  rw [hn] at hmk h5
  have HN := Lib.hid hn
  rw [show S.length = n from hn]
  go_enter Try.func84, Try.ntmps84
  go_wp2_with fail
  go_loopw [11] (fun i wr => ∃ k : Nat, k ≤ n ∧ i = .int .i64 k ∧ IB wr w.heap.size (edP S k) ∧ Below w.heap.size w wr) (fun i _ => n - (intOf i).toNat)
  case atStart => exact ⟨0, by omega, rfl, by rw [← HN.out]; exact HI.out, by rw [← HN.out]; exact HB.out⟩
  case round =>
    obtain ⟨k, hk, rfl, hi, hB⟩ := hrel
    clear HI HB
    by_cases hlt : k < n
    · have hd : decide ((k : Int) < (n : Int)) = true := by simpa using hlt
      have hlS : k < S.length := by omega
      obtain ⟨b, off, rfl, hb, hp⟩ := (HH.out.keep hB).cells (by omega)
      have hget : S[k]? = some S[k] := List.getElem?_eq_getElem hlS
      have c0 := hp k _ hget
      have hs := sumI_snoc hget
      have b1 := HM.out k
      have b2 := HM.out (k + 1)
      rw [hs] at b2
      have hset := hi.set (k + 1) (sumI (S.take (k + 1)))
      rw [edP_set hlS, hs] at hset
      generalize S[k] = x at *
      have d0 := hi.cell (edP_get (S := S) (k := k) (i := k) (by omega))
      rw [if_pos (Nat.le_refl _)] at d0
      have d1 := hi.cell (edP_get (S := S) (k := k) (i := k + 1) (by omega))
      rw [if_neg (by omega)] at d1
      have f1 := hi.frozen (k + 1)
      obtain ⟨t, ht⟩ : ∃ t, sumI (S.take k) = t := ⟨_, rfl⟩
      rw [ht] at d0 b1 b2 hset
      have hlg := hi.lt
      have i1 : (k : Int) < (n : Int) + 1 := by omega
      have i2 : (k : Int) + 1 < (n : Int) + 1 := by omega
      have i3 : (0 : Int) ≤ (k : Int) + 1 := by omega
      have i4 : ((k : Int) + 1).toNat = k + 1 := by omega
      have m1 : IntKind.i64.wrap ((k : Int) + 1) = (k : Int) + 1 := IntWalk.i64_in _ (by omega)
      have m2 : IntKind.i64.wrap (t + x) = t + x := IntWalk.i64_in _ (by omega)
      have HI := Lib.hid hi
      have HB := Lib.hid hB
      have HT := Lib.hid (And.intro ht hs)
      clear hi hB hp hget ht hs hset hn
      go_wp2_with fail
      refine wp_region_grow 13 1 (· < 13) (by kernel_rfl) (by kernel_rfl) rfl ?_
      iterate 13 (refine wpG_step (fun K hK => ?_); first | (refine grow_skip rfl ?_; go_simp; refine hK _ ?_; clear hK K) | (apply Exists.intro; refine ⟨.inl ⟨rfl, fun w' hw' => ?_⟩, ?_⟩; (focus ((obtain ⟨hc, hf⟩ := bcell hw'.out); (have hcS := bcellS hw'.out); go_simp <;> first | rfl | fail)); (go_simp; refine hK _ ?_; clear hK K)))
      refine wpG_nil ?_
      refine wpK_tail (by kernel_rfl) (fun w8 hg8 => ?_)
      have hb8 := bdrewn hg8.out
      obtain ⟨hc8, hf8⟩ := bcell hb8
      refine wpAny_one (i := 13) (by kernel_rfl) rfl rfl ?_
      go_simp
      refine wpAny_end (by kernel_rfl) ?_
      refine nopan_normal ?_
      clear hc8 hf8
      clear hg8
      have hi2 := (HI.out.keep hb8).set (k + 1) (t + x)
      have e2 := edP_set hlS
      rw [HT.out.2, HT.out.1] at e2
      rw [e2] at hi2
      replace HI := Lib.hid hi2
      replace HB := Lib.hid ((bkeep2 HB.out hb8).setCell (p := ⟨w.heap.size, k + 1, none⟩) (Nat.le_refl _) (.int .i64 (t + x)))
      clear hi2 e2 hb8 c0 d0 d1 f1
      go_wp2
      go_roundw
      case rel => exact ⟨k + 1, by omega, by go_num, HI.out, HB.out⟩
      case measure => simp [intOf]; omega
    · have hd : decide ((k : Int) < (n : Int)) = false := decide_eq_false (by omega)
      obtain rfl : k = n := by omega
      rw [← HN.out, edP_end] at hi
      have HI := Lib.hid hi
      have HB := Lib.hid hB
      clear hi hB hn
      go_wp2
      go_ret
      exact ⟨rfl, HI.out, HB.out⟩
set_option maxRecDepth 100000 in
theorem lineAt_v (A : Option Addr) (c n : Nat) (S : List Int) (p : Int) (w : World) (h : NV w A (edL S)) (hn : n = S.length + 1) (h5 : S.length ≤ 5) :
    Calls Try.prog 42 #[.slice A n c, .int .i64 p] w fun e w' => e = .returned (.int .i64 (lineM S p)) ∧ Below w.heap.size w w' := by
  obtain ⟨R, hR⟩ : ∃ R, lineM S p = R := ⟨_, rfl⟩
  rw [hR]
  have HR0 := Lib.hid (show lnAt (S.drop 0) (sumI (S.take 0)) p ((0 : Nat) : Int) = R from hR)
  have HN := Lib.hid hn
  have hn6 : n ≤ 6 := by omega
  have hn1 : 1 ≤ n := by omega
  clear hn hR
  go_enter Try.func42, Try.ntmps42
  go_wp2_with fail
  go_loop [9] (fun i => ∃ k : Nat, k ≤ S.length ∧ i = .int .i64 k ∧ lnAt (S.drop k) (sumI (S.take k)) p k = R) (fun i => S.length - (intOf i).toNat)
  case atStart => exact ⟨0, by omega, rfl, HR0.out⟩
  case round =>
    obtain ⟨k, hk, rfl, hr⟩ := hrel
    clear HR0
    by_cases hlt : k < S.length
    · have hd : decide ((k : Int) < (n : Int) - 1) = true := by have := HN.out; simp; omega
      obtain ⟨b, off, rfl, hb, hp⟩ := h.cells (by rw [edL_len]; omega)
      have hget : S[k]? = some S[k] := List.getElem?_eq_getElem hlt
      obtain ⟨r1, r2⟩ := lnAt_drop hget hr
      have hs := sumI_snoc hget
      have c0 := hp k _ (edL_get (S := S) (i := k) (by omega))
      have c1 := hp (k + 1) _ (edL_get (S := S) (i := k + 1) (by omega))
      rw [hs] at c1
      generalize S[k] = x at *
      have R2 := Lib.hid r2
      have hkn : k + 1 < n := by have := HN.out; omega
      obtain ⟨t, ht⟩ : ∃ t, sumI (S.take k) = t := ⟨_, rfl⟩
      rw [ht] at c0 c1 r1
      have HT := Lib.hid ht
      clear hr hget hs r2 hp ht
      by_cases g1 : t ≤ p
      · by_cases g2 : p < t + x
        · have hrk := r1 ⟨g1, g2⟩
          subst hrk
          clear r1 R2
          go_wp2
          go_ret
          exact ⟨rfl, Below.refl _ _⟩
        · have HR2 := Lib.hid (R2.out (by rw [HT.out]; omega))
          clear r1 R2
          go_wp2
          go_round
          case rel => exact ⟨k + 1, by omega, by go_num, HR2.out⟩
          case measure => simp [intOf]; omega
      · have HR2 := Lib.hid (R2.out (by rw [HT.out]; omega))
        clear r1 R2
        go_wp2
        go_round
        case rel => exact ⟨k + 1, by omega, by go_num, HR2.out⟩
        case measure => simp [intOf]; omega
    · have hd : decide ((k : Int) < (n : Int) - 1) = false := by have := HN.out; simp; omega
      have := lnAt_done (by omega) hr
      subst this
      clear hr
      go_wp2
      go_ret
      exact ⟨rfl, Below.refl _ _⟩
set_option maxRecDepth 100000 in
theorem slineAt_v (A : Option Addr) (c n : Nat) (S : List Int) (p : Int) (w : World) (h : NV w A S) (hn : n = S.length) (h5 : S.length ≤ 5) (hM : Smal 1000000000 S) (hx0 : ∀ x ∈ S, 0 ≤ x) :
    Calls Try.prog 43 #[.slice A n c, .int .i64 p] w fun e w' => e = .returned (.int .i64 (lineM S p)) ∧ Below w.heap.size w w' := by
  obtain ⟨R, hR⟩ : ∃ R, lineM S p = R := ⟨_, rfl⟩
  rw [hR]
  have HR0 := Lib.hid (show lnAt (S.drop 0) (sumI (S.take 0)) p ((0 : Nat) : Int) = R from hR)
  have HN := Lib.hid hn
  have HM := Lib.hid hM
  have hn6 : n ≤ 6 := by omega
  clear hn hR hM
  go_enter Try.func43, Try.ntmps43
  go_wp2_with fail
  go_loop [5, 6] (fun a i => ∃ k : Nat, k ≤ S.length ∧ i = .int .i64 k ∧ a = .int .i64 (sumI (S.take k)) ∧ lnAt (S.drop k) (sumI (S.take k)) p k = R) (fun _ i => S.length - (intOf i).toNat)
  case atStart => exact ⟨0, by omega, rfl, rfl, HR0.out⟩
  case round =>
    obtain ⟨k, hk, rfl, rfl, hr⟩ := hrel
    clear HR0
    by_cases hlt : k < S.length
    · have hkn : k < n := by have := HN.out; omega
      have hd : decide ((k : Int) < (n : Int)) = true := by simpa using hkn
      obtain ⟨b, off, rfl, hb, hp⟩ := h.cells (by omega)
      have hget : S[k]? = some S[k] := List.getElem?_eq_getElem hlt
      obtain ⟨r1, r2⟩ := lnAt_drop hget hr
      have hs := sumI_snoc hget
      have c0 := hp k _ hget
      have b1 := HM.out k
      have b2 := HM.out (k + 1)
      rw [hs] at b2 r2
      generalize S[k] = x at *
      obtain ⟨t, ht⟩ : ∃ t, sumI (S.take k) = t := ⟨_, rfl⟩
      rw [ht] at b1 b2 r1 r2 hs
      rw [ht]
      have R2 := Lib.hid r2
      have HS := Lib.hid hs
      clear hr hget hs r2 hp ht
      by_cases g : t ≤ p ∧ p < t + x
      · have hg : rng p t (t + x - 1) = true := rng_iff.2 (by omega)
        have hrk := r1 g
        subst hrk
        clear r1 R2 g
        go_wp2_with fail
        with_reducible refine (inRange_any _ _ _ _).mono ?_
        rintro e w1 ⟨rfl, rfl⟩
        go_wp2
        go_ret
        exact ⟨rfl, Below.refl _ _⟩
      · have hg : rng p t (t + x - 1) = false := by
          cases hq : rng p t (t + x - 1)
          · rfl
          · exact absurd (rng_iff.1 hq) (by omega)
        have HR2 := Lib.hid (R2.out g)
        clear r1 R2 g
        go_wp2_with fail
        with_reducible refine (inRange_any _ _ _ _).mono ?_
        rintro e w1 ⟨rfl, rfl⟩
        go_wp2
        go_round
        case rel => exact ⟨k + 1, by omega, by go_num, by rw [HS.out], by rw [HS.out]; exact HR2.out⟩
        case measure => simp [intOf]; omega
    · have hkn : ¬ k < n := by have := HN.out; omega
      have hd : decide ((k : Int) < (n : Int)) = false := decide_eq_false (by omega)
      have := lnAt_done (by omega) hr
      subst this
      clear hr
      go_wp2
      go_ret
      exact ⟨rfl, Below.refl _ _⟩
end Go.Proofs.Ytikndbinlpmgaaa
end
