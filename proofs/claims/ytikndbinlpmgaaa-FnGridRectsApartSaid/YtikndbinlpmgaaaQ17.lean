import Derived.Test.YtikndbinlpmgaaaQ16
section
namespace Go.Proofs.Ytikndbinlpmgaaa
open Go.RowKit
set_option linter.unusedVariables false
set_option maxHeartbeats 1000000
attribute [local go_sem 5000] run_mx run_mn run_eqlR run_neqR
attribute [local go_sem] growUpon_value growUpon_skip growUpon_enter
theorem room_g (u v : Int) (w : World) : Calls Try.prog 15 #[.int .i64 u, .int .i64 v] w fun e w' => e = .returned (.agg #[.int .i64 (0), .int .i64 (0), .int .i64 (u), .int .i64 (v)]) ∧ Below w.heap.size w w' := by
  go_enter Try.func15, Try.ntmps15
  go_wp2
  exact bodyPost_ret (v := .agg #[.int .i64 (0), .int .i64 (0), .int .i64 (u), .int .i64 (v)]) (by simp only [results, Try.results15]; go_simp) rfl ⟨rfl, (by repeat (first | with_reducible exact Below.refl _ _ | with_reducible assumption | with_reducible refine balloc ?_ | (with_reducible refine bset ?_ ?_; rotate_left; ((try dsimp only); omega)) | refine bkeep2 ?_ (by assumption) | with_reducible refine Below.drew ?_))⟩
set_option maxRecDepth 100000 in
theorem within2_g (x y u v x' y' u' v' : Int) (w : World) (h1 : Sq x y u v) (h2 : Sq x' y' u' v') (ht : x ≤ x' ∧ y ≤ y' ∧ x' + u' ≤ x + u ∧ y' + v' ≤ y + v) : Calls Try.prog 14 #[.agg #[.int .i64 (x), .int .i64 (y), .int .i64 (u), .int .i64 (v)], .agg #[.int .i64 (x'), .int .i64 (y'), .int .i64 (u'), .int .i64 (v')]] w fun e w' => e = .returned (.bool true) ∧ Below w.heap.size w w' := by
  obtain ⟨⟨a1, a2⟩, ⟨a3, a4⟩, ⟨a5, a6⟩, ⟨a7, a8⟩⟩ := h1
  obtain ⟨⟨b1, b2⟩, ⟨b3, b4⟩, ⟨b5, b6⟩, ⟨b7, b8⟩⟩ := h2
  obtain ⟨g1, g2, g3, g4⟩ := ht
  go_enter Try.func14, Try.ntmps14
  go_wp2_with fail
  all_goals try go_quiet (fail)
  all_goals try go_wp2
  go_ret
  exact ⟨ret_bool (by simp <;> omega), (by repeat (first | with_reducible exact Below.refl _ _ | with_reducible assumption | with_reducible refine balloc ?_ | (with_reducible refine bset ?_ ?_; rotate_left; ((try dsimp only); omega)) | refine bkeep2 ?_ (by assumption) | with_reducible refine Below.drew ?_))⟩
set_option maxRecDepth 100000 in
theorem equalRects_g (v v' : Value) (M : List Re) (w : World) (h : ReR w v M) (h' : ReR w v' M) (hM : M.length ≤ 100) :
    Calls Try.prog 11 #[v, v'] w fun e w' => e = .returned (.bool true) ∧ Below w.heap.size w w' := by
  obtain ⟨A, c, rfl, h⟩ := h
  obtain ⟨B, c', rfl, h'⟩ := h'
  go_enter Try.func11, Try.ntmps11
  go_wp2_with fail
  go_loopw [5] (fun i wr => ∃ k : Nat, k ≤ M.length ∧ i = .int .i64 k ∧ Below w.heap.size w wr) (fun i _ => M.length - (intOf i).toNat)
  case atStart => exact ⟨0, by omega, rfl, Below.refl _ _⟩
  case round =>
    obtain ⟨k, hk, rfl, hB⟩ := hrel
    by_cases hlt : k < M.length
    · have hd : decide ((k : Int) < (M.length : Int)) = true := by simpa using hlt
      obtain ⟨b, off, rfl, hb, hp⟩ := (h.keep hB).cells (by omega)
      obtain ⟨b', off', rfl, hb', hp'⟩ := (h'.keep hB).cells (by omega)
      obtain ⟨c0, c1, c2, c3⟩ := hp k _ (List.getElem?_eq_getElem hlt)
      obtain ⟨d0, d1, d2, d3⟩ := hp' k _ (List.getElem?_eq_getElem hlt)
      generalize hx : M[k] = r at *
      have he : eqR r.x r.y r.u r.v r.x r.y r.u r.v = true := eqR_self
      have HX := Lib.hid hx
      have HP := Lib.hid hp
      have HP' := Lib.hid hp'
      have HB := Lib.hid hB
      have HH := Lib.hid h
      have HH' := Lib.hid h'
      clear hx hp hp' hB h h'
      go_wp2_with fail
      refine wp_region_grow 9 0 (· < 9) (by kernel_rfl) (by kernel_rfl) rfl ?_
      iterate 9 (refine wpG_step (fun K hK => ?_); first | (refine grow_skip rfl ?_; go_simp; refine hK _ ?_; clear hK K) | (apply Exists.intro; refine ⟨.inl ⟨rfl, fun w' hw' => ?_⟩, ?_⟩; (focus ((obtain ⟨hc, hf⟩ := bcell hw'.out); (have hcS := bcellS hw'.out); go_simp <;> first | rfl | (fail))); (go_simp; refine hK _ ?_; clear hK K)))
      refine wpG_nil ?_
      refine wpK_tail (by kernel_rfl) (fun w1 hg1 => ?_)
      have hb1 := bdrewn hg1.out
      refine wpAny_end (by kernel_rfl) ?_
      refine NoPan.thn ?_
      clear hg1
      replace HB := Lib.hid (HB.out.trans (hb1.mono HB.out.size))
      clear hb1 c0 c1 c2 c3 d0 d1 d2 d3
      go_wp2
      go_roundw
      case rel => exact ⟨k + 1, by omega, by go_num, HB.out⟩
      case measure => simp [intOf]; omega
    · have hd : decide ((k : Int) < (M.length : Int)) = false := by simp; omega
      have HB := Lib.hid hB
      clear hB
      go_wp2
      go_ret
      exact ⟨rfl, HB.out⟩
end Go.Proofs.Ytikndbinlpmgaaa
end
section
namespace Go.Proofs.Ytikndbinlpmgaaa
set_option linter.unusedVariables false
/-- one list is nowhere less than another -/
def PW : List Int → List Int → Prop
  | [], [] => True
  | x :: X, y :: Y => x ≤ y ∧ PW X Y
  | _, _ => False
theorem PW.refl : ∀ X : List Int, PW X X
  | [] => trivial
  | x :: X => ⟨Int.le_refl _, PW.refl X⟩
theorem PW.trans : ∀ {X Y Z : List Int}, PW X Y → PW Y Z → PW X Z
  | [], [], [], _, _ => trivial
  | x :: X, y :: Y, z :: Z, h, k => ⟨Int.le_trans h.1 k.1, PW.trans h.2 k.2⟩
  | [], y :: Y, _, h, _ => by simp [PW] at h
  | x :: X, [], _, h, _ => by simp [PW] at h
  | [], [], z :: Z, _, h => by simp [PW] at h
  | x :: X, y :: Y, [], _, h => by simp [PW] at h
theorem PW.sum : ∀ {X Y : List Int}, PW X Y → sumI X ≤ sumI Y
  | [], [], _ => Int.le_refl _
  | x :: X, y :: Y, h => by have := PW.sum h.2; have := h.1; simp only [sumI]; omega
  | [], y :: Y, h => by simp [PW] at h
  | x :: X, [], h => by simp [PW] at h
theorem PW.drop : ∀ {X Y : List Int} (k : Nat), PW X Y → PW (X.drop k) (Y.drop k)
  | X, Y, 0, h => by simpa using h
  | [], [], k + 1, h => by simp [PW]
  | x :: X, y :: Y, k + 1, h => by simpa using PW.drop k h.2
  | [], y :: Y, k + 1, h => by simp [PW] at h
  | x :: X, [], k + 1, h => by simp [PW] at h
theorem PW.take : ∀ {X Y : List Int} (k : Nat), PW X Y → PW (X.take k) (Y.take k)
  | X, Y, 0, h => by simp [PW]
  | [], [], k + 1, h => by simp [PW]
  | x :: X, y :: Y, k + 1, h => by simpa [PW] using ⟨h.1, PW.take k h.2⟩
  | [], y :: Y, k + 1, h => by simp [PW] at h
  | x :: X, [], k + 1, h => by simp [PW] at h
theorem PW.seg {X Y : List Int} (a m : Nat) (h : PW X Y) : sumI (segI X a m) ≤ sumI (segI Y a m) := ((h.drop a).take m).sum
theorem PW.append : ∀ {X Y Z W : List Int}, PW X Y → PW Z W → PW (X ++ Z) (Y ++ W)
  | [], [], _, _, _, k => k
  | x :: X, y :: Y, _, _, h, k => ⟨h.1, PW.append h.2 k⟩
  | [], y :: Y, _, _, h, _ => by simp [PW] at h
  | x :: X, [], _, _, h, _ => by simp [PW] at h
theorem PW.addP : ∀ {O P : List Int}, (∀ x ∈ P, 0 ≤ x) → PW O (addP O P)
  | [], P, _ => by cases P <;> simp [Go.Proofs.Ytikndbinlpmgaaa.addP, PW]
  | o :: O, [], _ => PW.refl _
  | o :: O, p :: P, h => ⟨by have := h p List.mem_cons_self; omega, PW.addP (fun x hx => h x (List.mem_cons_of_mem _ hx))⟩
theorem PW.addAt {O P : List Int} {k : Nat} (h : ∀ x ∈ P, 0 ≤ x) : PW O (addAt O k P) := by
  have := PW.append (PW.refl (O.take k)) (PW.addP (O := O.drop k) h)
  rwa [List.take_append_drop] at this
theorem addP_take : ∀ (X P : List Int) (m : Nat), (addP X P).take m = addP (X.take m) (P.take m)
  | X, P, 0 => by simp [addP]
  | [], P, m + 1 => by cases P <;> simp [addP]
  | x :: X, [], m + 1 => by simp [addP]
  | x :: X, p :: P, m + 1 => by simp [addP, addP_take X P m]
theorem seg_addAt {O P : List Int} {a m : Nat} (hP : P.length = m) (h : a + m ≤ O.length) : segI (addAt O a P) a m = addP (segI O a m) P := by
  have hl : (O.take a).length = a := by rw [List.length_take]; omega
  unfold segI addAt
  rw [List.drop_append, hl, Nat.sub_self, List.drop_of_length_le (by omega), List.drop_zero, List.nil_append, addP_take, List.take_of_length_le (by omega : P.length ≤ m)]
theorem step_need {n : Nat} {ws O : List Int} {s : Sp} (hw : wsOK ws) (hl : ws.length = n) (hO : O.length = n) (hs : spanB n s = true) :
    PW O (stepM ws O s) ∧ (stepM ws O s).length = n ∧ s.need ≤ sumI (segI (stepM ws O s) s.sa.toNat s.many.toNat) := by
  obtain ⟨a, m, e1, e2, h1, h2, h3, h4⟩ := spanB_yes hs
  unfold stepM
  rw [e1, e2]
  simp only [Int.toNat_natCast]
  have hseg := seg_ok hw h1 (by rw [hl]; exact h2)
  have hx := mx_spec (s.need - sumI (segI O a m)) 0
  have hn : 0 ≤ mx (s.need - sumI (segI O a m)) 0 := by omega
  have hnn := spread_nn hn hseg
  have hlen : (spreadM (mx (s.need - sumI (segI O a m)) 0) (segI ws a m)).length = m := by rw [spreadM_len, segI_len (by omega)]
  refine ⟨PW.addAt hnn, by rw [addAt_len, hO], ?_⟩
  rw [seg_addAt hlen (by omega), sum_addP (by rw [hlen, segI_len (by omega)]; exact Nat.le_refl _), spread_sum hn hseg]
  omega
theorem round_ge {n : Nat} {ws : List Int} {m : Int} (hw : wsOK ws) (hl : ws.length = n) : ∀ {S : List Sp} {O : List Int}, (∀ s ∈ S, spanB n s = true) → O.length = n →
    PW O (roundM ws m S O) ∧ (roundM ws m S O).length = n ∧ ∀ s ∈ S, s.many = m → s.need ≤ sumI (segI (roundM ws m S O) s.sa.toNat s.many.toNat)
  | [], O, _, hO => ⟨PW.refl _, hO, fun s hs => by simp at hs⟩
  | t :: S, O, hs, hO => by
    have hst := step_need hw hl hO (hs t List.mem_cons_self)
    have e : roundM ws m (t :: S) O = roundM ws m S (if t.many = m then stepM ws O t else O) := rfl
    rw [e]
    have hO' : (if t.many = m then stepM ws O t else O).length = n := by split; exact hst.2.1; exact hO
    have hPW : PW O (if t.many = m then stepM ws O t else O) := by split; exact hst.1; exact PW.refl _
    obtain ⟨h1, h2, h3⟩ := round_ge (S := S) (m := m) hw hl (fun s hh => hs s (List.mem_cons_of_mem _ hh)) hO'
    refine ⟨hPW.trans h1, h2, fun s hh hm => ?_⟩
    rcases List.mem_cons.1 hh with rfl | hh
    · rw [if_pos hm] at h1 ⊢
      exact Int.le_trans hst.2.2 (h1.seg _ _)
    · exact h3 s hh hm
theorem req_ge {n : Nat} {ws : List Int} {S : List Sp} {O : List Int} (hw : wsOK ws) (hl : ws.length = n) (hs : ∀ s ∈ S, spanB n s = true) (hO : O.length = n) : ∀ i : Nat,
    (reqN ws S O i).length = n ∧ PW O (reqN ws S O i) ∧ ∀ s ∈ S, s.many ≤ i → s.need ≤ sumI (segI (reqN ws S O i) s.sa.toNat s.many.toNat)
  | 0 => ⟨hO, PW.refl _, fun s hh hm => by
      obtain ⟨a, m, e1, e2, h1, _⟩ := spanB_yes (hs s hh)
      omega⟩
  | i + 1 => by
    obtain ⟨h1, h2, h3⟩ := req_ge hw hl hs hO i
    obtain ⟨k1, k2, k3⟩ := round_ge (m := (i : Int) + 1) hw hl hs h1
    refine ⟨k2, h2.trans k1, fun s hh hm => ?_⟩
    by_cases h : s.many = (i : Int) + 1
    · exact k3 s hh h
    · exact Int.le_trans (h3 s hh (by omega)) (k1.seg _ _)
/-- requests are enough for all spans -/
theorem wish_need {L : List Ln} {S : List Sp} (hL : linesB L = true) (hS : spansB L.length S = true) : ∀ s ∈ S, s.need ≤ sumI (segI (wishM L S) s.sa.toNat s.many.toNat) := fun s hs => by
  obtain ⟨-, hW⟩ := min_bd hL
  obtain ⟨-, hss⟩ := spansB_yes hS
  obtain ⟨a, m, e1, e2, h1, h2, -⟩ := spanB_yes (hss s hs)
  exact (req_ge (O := L.map Ln.mi) hW (by simp) hss (by simp) L.length).2.2 s hs (by omega)
theorem wish_nil (L : List Ln) : wishM L [] = L.map Ln.mi := by
  have : ∀ i, reqN (L.map Ln.wt) [] (L.map Ln.mi) i = L.map Ln.mi := fun i => by
    induction i with
    | zero => rfl
    | succ i ih => show roundM _ _ [] _ = _; rw [ih]; rfl
  exact this _
theorem round_app (ws : List Int) (m : Int) (S : List Sp) (s : Sp) (O : List Int) : roundM ws m (S ++ [s]) O = (if s.many = m then stepM ws (roundM ws m S O) s else roundM ws m S O) := by
  unfold roundM
  rw [List.foldl_append]
  rfl
/-- a span that has enough changes nothing -/
theorem wish_more {L : List Ln} {S : List Sp} {need : Int} (hL : linesB L = true) (hS : spansB L.length S = true) (hn : need ≤ sumI (wishM L S)) : wishM L (S ++ [⟨0, L.length, need⟩]) = wishM L S := by
  obtain ⟨-, hW⟩ := min_bd hL
  obtain ⟨-, hss⟩ := spansB_yes hS
  have h1 := (linesB_len hL).1
  have key : ∀ i, i < L.length → reqN (L.map Ln.wt) (S ++ [⟨0, L.length, need⟩]) (L.map Ln.mi) i = reqN (L.map Ln.wt) S (L.map Ln.mi) i := fun i => by
    induction i with
    | zero => intro _; rfl
    | succ i ih =>
      intro hi
      show roundM _ _ (S ++ _) _ = roundM _ _ S _
      rw [ih (by omega), round_app, if_neg (by simp; omega)]
  obtain ⟨n, hn1⟩ : ∃ n, L.length = n + 1 := ⟨L.length - 1, by omega⟩
  have hlen := (wish_ok hL hS).2.1
  unfold wishM at hn hlen ⊢
  rw [hn1] at key hn hlen ⊢
  show roundM _ _ (S ++ _) _ = roundM _ _ S _
  rw [key n (by omega), round_app, if_pos (by simp)]
  have e : roundM (L.map Ln.wt) ((n : Int) + 1) S (reqN (L.map Ln.wt) S (L.map Ln.mi) n) = reqN (L.map Ln.wt) S (L.map Ln.mi) (n + 1) := rfl
  rw [e]
  have hseg : segI (reqN (L.map Ln.wt) S (L.map Ln.mi) (n + 1)) 0 (n + 1) = reqN (L.map Ln.wt) S (L.map Ln.mi) (n + 1) := by
    unfold segI
    rw [List.drop_zero, List.take_of_length_le (by omega)]
  refine step_none ?_ ?_
  · have : segI (L.map Ln.wt) (0 : Int).toNat (((n + 1 : Nat) : Int)).toNat = L.map Ln.wt := by
      unfold segI
      simp only [Int.toNat_zero, List.drop_zero, Int.toNat_natCast]
      exact List.take_of_length_le (by simp; omega)
    dsimp only
    rw [this]
    exact hW
  · dsimp only
    rw [Int.toNat_zero, Int.toNat_natCast, hseg]
    omega
end Go.Proofs.Ytikndbinlpmgaaa
end
section
namespace Go.Proofs.Ytikndbinlpmgaaa
set_option linter.unusedVariables false
theorem sized_wish {L : List Ln} {S : List Sp} (hL : linesB L = true) (hS : spansB L.length S = true) : sizedM L S (sumI (wishM L S)) = wishM L S := by
  unfold sizedM
  rw [if_neg (by omega)]
  split
  · rfl
  · rw [Int.sub_self]
    exact addAt_zero (spread_zero (min_bd hL).2)
def lstM : List Ln → List Int → Int
  | l :: L, o :: O => (if 0 < l.wt then l.mi else o) + lstM L O
  | _, _ => 0
theorem lstM_snoc : ∀ {L : List Ln} {O : List Int} {k : Nat} {l : Ln} {o : Int}, L[k]? = some l → O[k]? = some o → lstM (L.take (k + 1)) (O.take (k + 1)) = lstM (L.take k) (O.take k) + (if 0 < l.wt then l.mi else o)
  | l' :: L, o' :: O, 0, l, o, h, h' => by
    simp only [List.getElem?_cons_zero, Option.some.injEq] at h h'
    subst h h'
    simp [lstM]
  | l' :: L, o' :: O, k + 1, l, o, h, h' => by
    simp only [List.getElem?_cons_succ] at h h'
    simp only [List.take_succ_cons, lstM]
    rw [lstM_snoc h h']
    omega
  | [], _, k, l, o, h, _ => by simp at h
  | l' :: L, [], k, l, o, _, h => by simp at h
theorem lst_le : ∀ {L : List Ln} {W R : List Int}, W.length = L.length → R.length = L.length → (∀ (i : Nat) (l : Ln) (o r : Int), L[i]? = some l → W[i]? = some o → R[i]? = some r → (if 0 < l.wt then l.mi else o) ≤ r) → lstM L W ≤ sumI R
  | [], [], [], _, _, _ => Int.le_refl _
  | l :: L, o :: W, r :: R, h1, h2, h => by
    have h0 := h 0 l o r rfl rfl rfl
    have := lst_le (L := L) (W := W) (R := R) (by simpa using h1) (by simpa using h2) (fun i l' o' r' a b c => h (i + 1) l' o' r' (by simpa using a) (by simpa using b) (by simpa using c))
    simp only [lstM, sumI]
    omega
  | [], o :: W, _, h, _, _ => by simp at h
  | [], [], r :: R, _, h, _ => by simp at h
  | l :: L, [], _, h, _, _ => by simp at h
  | l :: L, o :: W, [], _, h, _ => by simp at h
theorem lst_eq : ∀ {L : List Ln} {W R : List Int}, W.length = L.length → R.length = L.length → (∀ (i : Nat) (l : Ln) (o r : Int), L[i]? = some l → W[i]? = some o → R[i]? = some r → (if 0 < l.wt then l.mi else o) = r) → lstM L W = sumI R
  | [], [], [], _, _, _ => rfl
  | l :: L, o :: W, r :: R, h1, h2, h => by
    have h0 := h 0 l o r rfl rfl rfl
    have := lst_eq (L := L) (W := W) (R := R) (by simpa using h1) (by simpa using h2) (fun i l' o' r' a b c => h (i + 1) l' o' r' (by simpa using a) (by simpa using b) (by simpa using c))
    simp only [lstM, sumI]
    omega
  | [], o :: W, _, h, _, _ => by simp at h
  | [], [], r :: R, _, h, _ => by simp at h
  | l :: L, [], _, h, _, _ => by simp at h
  | l :: L, o :: W, [], _, h, _ => by simp at h
theorem sum_zero_all {P : List Int} (h : ∀ x ∈ P, 0 ≤ x) (hs : sumI P = 0) : ∀ x ∈ P, x = 0 := fun x hx => by
  have := mem_le_sum h x hx
  have := h x hx
  omega
/-- what the sizes of lines in a room are -/
theorem sized_law {L : List Ln} {S : List Sp} {room : Int} (hL : linesB L = true) (hS : spansB L.length S = true) (hr0 : 0 ≤ room) (hr1 : room ≤ 400) :
    (∀ (i : Nat) (l : Ln) (o r : Int), L[i]? = some l → (wishM L S)[i]? = some o → (sizedM L S room)[i]? = some r → l.mi ≤ r ∧ (l.wt = 0 → r = o)) ∧
    (0 < sumI (L.map Ln.wt) → lstM L (wishM L S) ≤ room → sumI (sizedM L S room) = room) ∧
    (0 < sumI (L.map Ln.wt) → room < lstM L (wishM L S) → sumI (sizedM L S room) = lstM L (wishM L S)) ∧
    (sumI (L.map Ln.wt) = 0 → sumI (sizedM L S room) = lstM L (wishM L S)) := by
  obtain ⟨k1, k2, k3, k4, k5⟩ := wish_ok hL hS
  obtain ⟨s1, s2, -, -⟩ := sized_ok hL hS hr0 hr1
  obtain ⟨hO, hW⟩ := min_bd hL
  have hw0 : 0 ≤ sumI (L.map Ln.wt) := hW.sum.1
  have hwl : ∀ (i : Nat) (l : Ln), L[i]? = some l → 0 ≤ l.wt := fun i l h => (hW.1 l.wt (List.mem_map_of_mem (List.mem_of_getElem? h))).1
  have hwish : lstM L (wishM L S) ≤ sumI (wishM L S) := lst_le k2 k2 (fun i l o r h1 h2 h3 => by
    rw [h2] at h3; obtain rfl := Option.some.inj h3
    have := (k1.get h1 h2).1
    split <;> omega)
  have h0all : sumI (L.map Ln.wt) = 0 → ∀ (i : Nat) (l : Ln), L[i]? = some l → l.wt = 0 := fun h i l hl => sum_zero_all (fun x hx => (hW.1 x hx).1) h _ (List.mem_map_of_mem (List.mem_of_getElem? hl))
  by_cases hc : room - sumI (wishM L S) < 0
  · have e : sizedM L S room = shrZ L (-(room - sumI (wishM L S))) (wishM L S) := by unfold sizedM; rw [if_pos hc]
    obtain ⟨a1, a2, a3, a4, a5⟩ := shr_all hL _ (-(room - sumI (wishM L S))) (wishM L S) (Nat.le_refl _) (by omega) k1
    rw [← e] at a1 a2 a3 a4 a5
    have hpt : ∀ (i : Nat) (l : Ln) (o r : Int), L[i]? = some l → (wishM L S)[i]? = some o → (sizedM L S room)[i]? = some r → (if 0 < l.wt then l.mi else o) ≤ r := fun i l o r h1 h2 h3 => by
      have := (a1.get h1 h3).1
      have := (a2 i l o r h1 h2 h3).2
      have := hwl i l h1
      split
      · omega
      · have : l.wt = 0 := by omega
        omega
    have hle := lst_le k2 s2 hpt
    have hstuck : sumI (wtZ L (sizedM L S room)) = 0 → lstM L (wishM L S) = sumI (sizedM L S room) := fun hz => lst_eq k2 s2 (fun i l o r h1 h2 h3 => by
      have hz' := sum_zero_all (fun x hx => ((wtZ_ok hL a1).1 x hx).1) hz _ (List.mem_of_getElem? (wtZ_get h1 h3))
      have := (a1.get h1 h3).1
      have h4 := (a2 i l o r h1 h2 h3).2
      have := hwl i l h1
      split
      · rename_i hp
        split at hz'
        · omega
        · omega
      · have : l.wt = 0 := by omega
        exact (h4 this).symm)
    refine ⟨fun i l o r h1 h2 h3 => ⟨(a1.get h1 h3).1, (a2 i l o r h1 h2 h3).2⟩, fun _ hl => ?_, fun _ hl => ?_, fun hz => ?_⟩
    · rcases a5 with a5 | a5
      · omega
      · have := hstuck a5; omega
    · rcases a5 with a5 | a5
      · omega
      · exact (hstuck a5).symm
    · refine (lst_eq k2 s2 (fun i l o r h1 h2 h3 => ?_)).symm
      have h4 := h0all hz i l h1
      rw [if_neg (by omega)]
      exact ((a2 i l o r h1 h2 h3).2 h4).symm
  · by_cases hz : sumI (L.map Ln.wt) = 0
    · have e : sizedM L S room = wishM L S := by unfold sizedM; rw [if_neg hc, if_pos hz]
      rw [e]
      refine ⟨fun i l o r h1 h2 h3 => ?_, fun h => by omega, fun h => by omega, fun _ => ?_⟩
      · rw [h2] at h3; obtain rfl := Option.some.inj h3
        exact ⟨(k1.get h1 h2).1, fun _ => rfl⟩
      · refine (lst_eq k2 k2 (fun i l o r h1 h2 h3 => ?_)).symm
        rw [h2] at h3; obtain rfl := Option.some.inj h3
        have := h0all hz i l h1
        rw [if_neg (by omega)]
    · have e : sizedM L S room = addAt (wishM L S) 0 (spreadM (room - sumI (wishM L S)) (L.map Ln.wt)) := by unfold sizedM; rw [if_neg hc, if_neg hz]
      have hn : 0 ≤ room - sumI (wishM L S) := by omega
      have hsum := spread_sum hn hW
      have hlen : (spreadM (room - sumI (wishM L S)) (L.map Ln.wt)).length = L.length := by rw [spreadM_len, List.length_map]
      have hs := sum_addAt (O := wishM L S) (P := spreadM (room - sumI (wishM L S)) (L.map Ln.wt)) (k := 0) (by omega)
      rw [← e] at hs
      refine ⟨fun i l o r h1 h2 h3 => ⟨(s1.get h1 h3).1, fun hw => ?_⟩, fun _ _ => by omega, fun _ hl => by omega, fun h => absurd h hz⟩
      obtain ⟨y, e1, y0, y1, e2⟩ := spread_get (n := room - sumI (wishM L S)) hn hW (show (L.map Ln.wt)[i]? = some l.wt by rw [List.getElem?_map, h1]; rfl)
      rw [e, addAt0, addP_at h2 e1] at h3
      have := (e2 (by omega)).1 hw
      have := Option.some.inj h3
      omega
end Go.Proofs.Ytikndbinlpmgaaa
end
section
namespace Go.Proofs.Ytikndbinlpmgaaa
set_option linter.unusedVariables false
theorem stkS_in {x room wish : Int} {lo hi : Bool} (hr : 0 ≤ room) (hw : 0 ≤ wish) : x ≤ (stkS x room wish lo hi).1 ∧ (stkS x room wish lo hi).1 + (stkS x room wish lo hi).2 ≤ x + room ∧ 0 ≤ (stkS x room wish lo hi).2 ∧ (wish ≤ room → wish ≤ (stkS x room wish lo hi).2) := by
  have hm := mn_spec wish room
  cases lo <;> cases hi <;> simp [stkS] <;> omega
theorem ins_in {a : Re} {p q : Int} (hu : 0 ≤ a.u) (hv : 0 ≤ a.v) (hp : 0 ≤ p) (hq : 0 ≤ q) :
    (a.x ≤ (insR a p q).x ∧ (insR a p q).x + (insR a p q).u ≤ a.x + a.u ∧ 0 ≤ (insR a p q).u ∧ (2 * p ≤ a.u → (insR a p q).u = a.u - 2 * p)) ∧
    (a.y ≤ (insR a p q).y ∧ (insR a p q).y + (insR a p q).v ≤ a.y + a.v ∧ 0 ≤ (insR a p q).v ∧ (2 * q ≤ a.v → (insR a p q).v = a.v - 2 * q)) := by
  have h1 := mn_spec p (a.u / 2); have h2 := mn_spec q (a.v / 2); have h3 := mx_spec (a.u - 2 * p) 0; have h4 := mx_spec (a.v - 2 * q) 0
  simp only [insR]
  omega
/-- the rectangle of a cell lies in that of its lines -/
theorem cell_in {S1 S2 : List Int} {c : Ce} (h1 : ∀ x ∈ S1, 0 ≤ x) (h2 : ∀ x ∈ S2, 0 ≤ x) (hc : smC c) :
    ((areaR S1 S2 c).x ≤ (cellR S1 S2 c).x ∧ (cellR S1 S2 c).x + (cellR S1 S2 c).u ≤ (areaR S1 S2 c).x + (areaR S1 S2 c).u ∧ 0 ≤ (cellR S1 S2 c).u ∧ (c.cw + 2 * c.px ≤ (areaR S1 S2 c).u → c.cw ≤ (cellR S1 S2 c).u)) ∧
    ((areaR S1 S2 c).y ≤ (cellR S1 S2 c).y ∧ (cellR S1 S2 c).y + (cellR S1 S2 c).v ≤ (areaR S1 S2 c).y + (areaR S1 S2 c).v ∧ 0 ≤ (cellR S1 S2 c).v ∧ (c.ch + 2 * c.py ≤ (areaR S1 S2 c).v → c.ch ≤ (cellR S1 S2 c).v)) := by
  obtain ⟨⟨b1, b2⟩, ⟨b3, b4⟩, ⟨b5, b6⟩, ⟨b7, b8⟩⟩ := hc
  have hu : 0 ≤ (areaR S1 S2 c).u := sumI_nonneg (fun x hx => h1 x (segI_mem hx))
  have hv : 0 ≤ (areaR S1 S2 c).v := sumI_nonneg (fun x hx => h2 x (segI_mem hx))
  obtain ⟨⟨i1, i2, i3, i4⟩, j1, j2, j3, j4⟩ := ins_in (p := c.px) (q := c.py) hu hv b5 b7
  have e1 := stkS_in (x := (insR (areaR S1 S2 c) c.px c.py).x) (room := (insR (areaR S1 S2 c) c.px c.py).u) (wish := c.cw) (lo := decide (c.sk % 2 = 1)) (hi := decide (c.sk / 2 % 2 = 1)) i3 b1
  have e2 := stkS_in (x := (insR (areaR S1 S2 c) c.px c.py).y) (room := (insR (areaR S1 S2 c) c.px c.py).v) (wish := c.ch) (lo := decide (c.sk / 4 % 2 = 1)) (hi := decide (c.sk / 8 = 1)) j3 b3
  simp only [cellR]
  omega
/-- sizes in enough room are no less than requests, and no more than the room together -/
theorem sized_ge {L : List Ln} {S : List Sp} {room : Int} (hL : linesB L = true) (hS : spansB L.length S = true) (hr : sumI (wishM L S) ≤ room) : PW (wishM L S) (sizedM L S room) ∧ sumI (sizedM L S room) ≤ room := by
  unfold sizedM
  rw [if_neg (by omega)]
  split
  · exact ⟨PW.refl _, hr⟩
  · obtain ⟨hO, hW⟩ := min_bd hL
    have hn : 0 ≤ room - sumI (wishM L S) := by omega
    have hlen : (spreadM (room - sumI (wishM L S)) (L.map Ln.wt)).length = L.length := by rw [spreadM_len, List.length_map]
    refine ⟨PW.addAt (spread_nn hn hW), ?_⟩
    rw [sum_addAt (by have := (wish_ok hL hS).2.1; omega), spread_sum hn hW]
    omega
/-- cells have what they ask for -/
theorem cells_fit {L1 L2 : List Ln} {L3 : List Ce} {u v : Int} (hg : gridB L1 L2 L3 = true) (hu : 0 ≤ u ∧ u ≤ 400) (hv : 0 ≤ v ∧ v ≤ 400) (h1 : (gqM L1 L2 L3).1 ≤ u) (h2 : (gqM L1 L2 L3).2 ≤ v) : ∀ p ∈ L3,
    (p.cw ≤ (cellR (sizedM L1 (L3.map acM) u) (sizedM L2 (L3.map dnM) v) p).u ∧ 0 ≤ (cellR (sizedM L1 (L3.map acM) u) (sizedM L2 (L3.map dnM) v) p).x ∧ (cellR (sizedM L1 (L3.map acM) u) (sizedM L2 (L3.map dnM) v) p).x + (cellR (sizedM L1 (L3.map acM) u) (sizedM L2 (L3.map dnM) v) p).u ≤ u ∧ 0 ≤ (cellR (sizedM L1 (L3.map acM) u) (sizedM L2 (L3.map dnM) v) p).u) ∧
    (p.ch ≤ (cellR (sizedM L1 (L3.map acM) u) (sizedM L2 (L3.map dnM) v) p).v ∧ 0 ≤ (cellR (sizedM L1 (L3.map acM) u) (sizedM L2 (L3.map dnM) v) p).y ∧ (cellR (sizedM L1 (L3.map acM) u) (sizedM L2 (L3.map dnM) v) p).y + (cellR (sizedM L1 (L3.map acM) u) (sizedM L2 (L3.map dnM) v) p).v ≤ v ∧ 0 ≤ (cellR (sizedM L1 (L3.map acM) u) (sizedM L2 (L3.map dnM) v) p).v) := fun p hp => by
  have gf := GF.of hg
  simp only [gqM, hg, if_true] at h1 h2
  obtain ⟨g1, g2⟩ := sized_ge gf.v1 gf.s1 h1
  obtain ⟨g3, g4⟩ := sized_ge gf.v2 gf.s2 h2
  have z1 := SzB.of gf.v1 gf.s1 hu.1 hu.2
  have z2 := SzB.of gf.v2 gf.s2 hv.1 hv.2
  have hci := cell_in z1.1 z2.1 (gf.hsm p hp)
  have n1 := wish_need gf.v1 gf.s1 (acM p) (List.mem_map_of_mem hp)
  have n2 := wish_need gf.v2 gf.s2 (dnM p) (List.mem_map_of_mem hp)
  have s1 := PW.seg p.co.toNat p.mc.toNat g1
  have s2 := PW.seg p.ro.toNat p.mr.toNat g3
  have t1 := z1.take p.co.toNat
  have t2 := z2.take p.ro.toNat
  have u1 := take_seg (sizedM L1 (L3.map acM) u) p.co.toNat p.mc.toNat
  have u2 := take_seg (sizedM L2 (L3.map dnM) v) p.ro.toNat p.mr.toNat
  have w1 := sum_take_bd z1.1 (p.co.toNat + p.mc.toNat)
  have w2 := sum_take_bd z2.1 (p.ro.toNat + p.mr.toNat)
  simp only [areaR, acM, dnM] at hci n1 n2
  omega
end Go.Proofs.Ytikndbinlpmgaaa
end
section
namespace Go.Proofs.Ytikndbinlpmgaaa
open Go.RowKit
set_option linter.unusedVariables false
theorem IsRow.bts {w : World} {A : Option Addr} {n c : Nat} {z : List Int} (h : IsRow .u8 w A n c z) : Bts w A n ∧ n ≤ c ∧ c ≤ maxLen := by
  rcases h with ⟨rfl, rfl, rfl, rfl⟩ | ⟨x, rfl, h1, h2, h3, h4, h5⟩
  · exact ⟨fun h => absurd h (by omega), Nat.le_refl _, by unfold maxLen; omega⟩
  · refine ⟨fun hn => ⟨x, rfl, ?_, fun i hi => ?_⟩, h1, h2⟩
    · have := h4 0 (by omega)
      have h6 := World.block_lt_of_cell? w _ this
      rwa [block_add] at h6
    · have hc := h4 i (by omega)
      refine ⟨z.getD i 0, ?_, ?_, hc⟩
      all_goals
        have hm : z.getD i 0 ∈ z := by
          rw [List.getD_eq_getElem?_getD, List.getElem?_eq_getElem (by omega)]
          exact List.getElem_mem _
        have h6 := h5 _ hm
        have g1 : IntKind.u8.min = 0 := by decide
        have g2 : IntKind.u8.max = 255 := by decide
        generalize z.getD i 0 = y at *
        simp [Lit.wf, g1, g2] at h6
        omega
end Go.Proofs.Ytikndbinlpmgaaa
end
section
namespace Go.Proofs.Ytikndbinlpmgaaa
open Go.RowKit
set_option linter.unusedVariables false
attribute [local go_sem 5000] run_mx run_mn
attribute [local go_sem] growUpon_value growUpon_skip growUpon_enter
set_option maxHeartbeats 1000000
end Go.Proofs.Ytikndbinlpmgaaa
end
section
namespace Go.Proofs.Ytikndbinlpmgaaa
open Go.RowKit
set_option linter.unusedVariables false
attribute [local go_sem 5000] run_mx run_mn
attribute [local go_sem] growUpon_value growUpon_skip growUpon_enter
set_option maxHeartbeats 1000000
theorem MeetRects_yes (x y u v x' y' u' v' : Int) (w : World) (h : meetB x y u v x' y' u' v' = true) : Calls Try.prog 16 #[.agg #[.int .i64 (x), .int .i64 (y), .int .i64 (u), .int .i64 (v)], .agg #[.int .i64 (x'), .int .i64 (y'), .int .i64 (u'), .int .i64 (v')]] w fun e w' => e = .returned (.tuple #[.agg #[.int .i64 (mx x x'), .int .i64 (mx y y'), .int .i64 (mn (x + u) (x' + u') - mx x x'), .int .i64 (mn (y + v) (y' + v') - mx y y')], .bool true]) ∧ Below w.heap.size w w' := by
  obtain ⟨h1, h2, h3⟩ := meetB_yes h
  go_enter Try.func16, Try.ntmps16
  go_wp2_with (first | (go_at_call 38; refine (validRect_any _ _ _ _ _).mono ?_; rintro e w1 ⟨rfl, hb⟩; obtain ⟨hc, hf⟩ := bcell hb; (first | (replace hB := bkeep2 hB hb) | (replace hB := bkeep2 (balloc hB) hb) | (replace hB := bkeep2 (balloc (balloc hB)) hb) | have hB := hb); obtain ⟨hC, hF, hZ, hN⟩ := bcell4 hB; (try (have hlt := Nat.lt_of_lt_of_le hlt hb.size; have hne := Nat.ne_of_lt hlt)); (have hs0 := hb.size); (try simp only [World.size_alloc] at hs0); (try (have hlt := Nat.lt_of_succ_le hs0; have hne := Nat.ne_of_lt hlt))) | (go_at_call 39; refine (meet_yes _ _ _ _ _ _ _ _ _ h1 h2 h3).mono ?_; rintro e w1 ⟨rfl, hb⟩; obtain ⟨hc, hf⟩ := bcell hb; (first | (replace hB := bkeep2 hB hb) | (replace hB := bkeep2 (balloc hB) hb) | (replace hB := bkeep2 (balloc (balloc hB)) hb) | have hB := hb); obtain ⟨hC, hF, hZ, hN⟩ := bcell4 hB; (try (have hlt := Nat.lt_of_lt_of_le hlt hb.size; have hne := Nat.ne_of_lt hlt)); (have hs0 := hb.size); (try simp only [World.size_alloc] at hs0); (try (have hlt := Nat.lt_of_succ_le hs0; have hne := Nat.ne_of_lt hlt))))
  exact bodyPost_ret (v := .tuple #[.agg #[.int .i64 (mx x x'), .int .i64 (mx y y'), .int .i64 (mn (x + u) (x' + u') - mx x x'), .int .i64 (mn (y + v) (y' + v') - mx y y')], .bool true]) (by simp only [results, Try.results16]; go_simp) rfl ⟨rfl, (by repeat (first | with_reducible exact Below.refl _ _ | with_reducible assumption | with_reducible refine balloc ?_ | (with_reducible refine bset ?_ ?_; rotate_left; ((try dsimp only); omega)) | refine bkeep2 ?_ (by assumption) | with_reducible refine Below.drew ?_))⟩
theorem MeetRects_no (x y u v x' y' u' v' : Int) (w : World) (h : meetB x y u v x' y' u' v' = false) : Calls Try.prog 16 #[.agg #[.int .i64 (x), .int .i64 (y), .int .i64 (u), .int .i64 (v)], .agg #[.int .i64 (x'), .int .i64 (y'), .int .i64 (u'), .int .i64 (v')]] w fun e w' => e = .returned (.tuple #[.agg #[.int .i64 (0), .int .i64 (0), .int .i64 (0), .int .i64 (0)], .bool false]) ∧ Below w.heap.size w w' := by
  cases h1 : vr x y u v
  · go_enter Try.func16, Try.ntmps16
    go_wp2_with (first | (go_at_call 38; refine (validRect_any _ _ _ _ _).mono ?_; rintro e w1 ⟨rfl, hb⟩; obtain ⟨hc, hf⟩ := bcell hb; (first | (replace hB := bkeep2 hB hb) | (replace hB := bkeep2 (balloc hB) hb) | (replace hB := bkeep2 (balloc (balloc hB)) hb) | have hB := hb); obtain ⟨hC, hF, hZ, hN⟩ := bcell4 hB; (try (have hlt := Nat.lt_of_lt_of_le hlt hb.size; have hne := Nat.ne_of_lt hlt)); (have hs0 := hb.size); (try simp only [World.size_alloc] at hs0); (try (have hlt := Nat.lt_of_succ_le hs0; have hne := Nat.ne_of_lt hlt))))
    exact bodyPost_ret (v := .tuple #[.agg #[.int .i64 (0), .int .i64 (0), .int .i64 (0), .int .i64 (0)], .bool false]) (by simp only [results, Try.results16]; go_simp) rfl ⟨rfl, (by repeat (first | with_reducible exact Below.refl _ _ | with_reducible assumption | with_reducible refine balloc ?_ | (with_reducible refine bset ?_ ?_; rotate_left; ((try dsimp only); omega)) | refine bkeep2 ?_ (by assumption) | with_reducible refine Below.drew ?_))⟩
  · cases h2 : vr x' y' u' v'
    · go_enter Try.func16, Try.ntmps16
      go_wp2_with (first | (go_at_call 38; refine (validRect_any _ _ _ _ _).mono ?_; rintro e w1 ⟨rfl, hb⟩; obtain ⟨hc, hf⟩ := bcell hb; (first | (replace hB := bkeep2 hB hb) | (replace hB := bkeep2 (balloc hB) hb) | (replace hB := bkeep2 (balloc (balloc hB)) hb) | have hB := hb); obtain ⟨hC, hF, hZ, hN⟩ := bcell4 hB; (try (have hlt := Nat.lt_of_lt_of_le hlt hb.size; have hne := Nat.ne_of_lt hlt)); (have hs0 := hb.size); (try simp only [World.size_alloc] at hs0); (try (have hlt := Nat.lt_of_succ_le hs0; have hne := Nat.ne_of_lt hlt))))
      exact bodyPost_ret (v := .tuple #[.agg #[.int .i64 (0), .int .i64 (0), .int .i64 (0), .int .i64 (0)], .bool false]) (by simp only [results, Try.results16]; go_simp) rfl ⟨rfl, (by repeat (first | with_reducible exact Below.refl _ _ | with_reducible assumption | with_reducible refine balloc ?_ | (with_reducible refine bset ?_ ?_; rotate_left; ((try dsimp only); omega)) | refine bkeep2 ?_ (by assumption) | with_reducible refine Below.drew ?_))⟩
    · have h3 := meetB_hit h h1 h2
      go_enter Try.func16, Try.ntmps16
      go_wp2_with (first | (go_at_call 38; refine (validRect_any _ _ _ _ _).mono ?_; rintro e w1 ⟨rfl, hb⟩; obtain ⟨hc, hf⟩ := bcell hb; (first | (replace hB := bkeep2 hB hb) | (replace hB := bkeep2 (balloc hB) hb) | (replace hB := bkeep2 (balloc (balloc hB)) hb) | have hB := hb); obtain ⟨hC, hF, hZ, hN⟩ := bcell4 hB; (try (have hlt := Nat.lt_of_lt_of_le hlt hb.size; have hne := Nat.ne_of_lt hlt)); (have hs0 := hb.size); (try simp only [World.size_alloc] at hs0); (try (have hlt := Nat.lt_of_succ_le hs0; have hne := Nat.ne_of_lt hlt))) | (go_at_call 39; refine (meet_no _ _ _ _ _ _ _ _ _ h1 h2 h3).mono ?_; rintro e w1 ⟨rfl, hb⟩; obtain ⟨hc, hf⟩ := bcell hb; (first | (replace hB := bkeep2 hB hb) | (replace hB := bkeep2 (balloc hB) hb) | (replace hB := bkeep2 (balloc (balloc hB)) hb) | have hB := hb); obtain ⟨hC, hF, hZ, hN⟩ := bcell4 hB; (try (have hlt := Nat.lt_of_lt_of_le hlt hb.size; have hne := Nat.ne_of_lt hlt)); (have hs0 := hb.size); (try simp only [World.size_alloc] at hs0); (try (have hlt := Nat.lt_of_succ_le hs0; have hne := Nat.ne_of_lt hlt))))
      exact bodyPost_ret (v := .tuple #[.agg #[.int .i64 (0), .int .i64 (0), .int .i64 (0), .int .i64 (0)], .bool false]) (by simp only [results, Try.results16]; go_simp) rfl ⟨rfl, (by repeat (first | with_reducible exact Below.refl _ _ | with_reducible assumption | with_reducible refine balloc ?_ | (with_reducible refine bset ?_ ?_; rotate_left; ((try dsimp only); omega)) | refine bkeep2 ?_ (by assumption) | with_reducible refine Below.drew ?_))⟩
end Go.Proofs.Ytikndbinlpmgaaa
end
section
namespace Go.Proofs.Ytikndbinlpmgaaa
open Go.RowKit
set_option linter.unusedVariables false
/-- what the boxes hold -/
def BX (l : List (Nat × Array Value)) (w : World) : Prop := ∀ p ∈ l, w.heap[p.1]? = some (.cells p.2 35 (0, 0))
section
variable {l : List (Nat × Array Value)} {w w' : World}
theorem BX.nil (w : World) : BX [] w := fun p hp => by cases hp
theorem BX.skip (h : BX l w) (o : Obj) : BX l (w.alloc o) := fun p hp => (Below.heap_alloc _ _ _ (lt_of_heap (h p hp))).trans (h p hp)
theorem BX.alloc (h : BX l w) (cs : Array Value) : BX ((w.heap.size, cs) :: l) (w.alloc (.cells cs 35)) := fun p hp => by
  rcases List.mem_cons.1 hp with rfl | hp
  · exact heap_alloc_new _ _
  · exact h.skip _ p hp
theorem BX.below (h : BX l w) (hb : Below w.heap.size w w') : BX l w' := fun p hp => (hb.block _ (lt_of_heap (h p hp))).trans (h p hp)
theorem BX.head {b : Nat} {cs : Array Value} (h : BX ((b, cs) :: l) w) : w.heap[b]? = some (.cells cs 35 (0, 0)) := h (b, cs) List.mem_cons_self
theorem BX.tail {p : Nat × Array Value} (h : BX (p :: l) w) : BX l w := fun q hq => h q (List.mem_cons_of_mem _ hq)
end
theorem balloc' {W0 w : World} {o : Obj} (h : Below W0.heap.size W0 w) : Below W0.heap.size W0 (w.alloc o) := h.alloc h.size o
end Go.Proofs.Ytikndbinlpmgaaa
end
section
namespace Go.Proofs.Ytikndbinlpmgaaa
open Go.RowKit
set_option linter.unusedVariables false
attribute [local go_sem 5000] run_mx run_mn run_eqlR run_neqR
attribute [local go_sem] growUpon_value growUpon_skip growUpon_enter
set_option maxHeartbeats 1000000
end Go.Proofs.Ytikndbinlpmgaaa
end
section
namespace Go.Proofs.Ytikndbinlpmgaaa
open Go.RowKit
set_option linter.unusedVariables false
attribute [local go_sem 5000] run_mx run_mn run_eqlR run_neqR
attribute [local go_sem] growUpon_value growUpon_skip growUpon_enter
set_option maxHeartbeats 1000000
end Go.Proofs.Ytikndbinlpmgaaa
end
section
namespace Go.Proofs.Ytikndbinlpmgaaa
open Go.RowKit
set_option linter.unusedVariables false
attribute [local go_sem 5000] run_mx run_mn run_eqlR run_neqR
attribute [local go_sem] growUpon_value growUpon_skip growUpon_enter
set_option maxHeartbeats 1000000
end Go.Proofs.Ytikndbinlpmgaaa
end
section
namespace Go.Proofs.Ytikndbinlpmgaaa
open Go.RowKit
set_option linter.unusedVariables false
attribute [local go_sem 5000] run_mx run_mn run_eqlR run_neqR
attribute [local go_sem] growUpon_value growUpon_skip growUpon_enter
set_option maxHeartbeats 1000000
end Go.Proofs.Ytikndbinlpmgaaa
end
section
namespace Go.Proofs.Ytikndbinlpmgaaa
open Go.RowKit
set_option linter.unusedVariables false
attribute [local go_sem 5000] run_mx run_mn run_eqlR run_neqR
attribute [local go_sem] growUpon_value growUpon_skip growUpon_enter
set_option maxHeartbeats 1000000
theorem inset_any (x y u v p q : Int) (w : World) (h : inB x y u v p q = true) : Calls Try.prog 99 #[.agg #[.int .i64 (x), .int .i64 (y), .int .i64 (u), .int .i64 (v)], .int .i64 p, .int .i64 q] w fun e w' => e = .returned (.agg #[.int .i64 (x + mn p (u / 2)), .int .i64 (y + mn q (v / 2)), .int .i64 (mx (u - 2 * p) 0), .int .i64 (mx (v - 2 * q) 0)]) ∧ Below w.heap.size w w' := by
  obtain ⟨h1, h2, h3⟩ := inB_yes h
  obtain ⟨m1, m2, m3, m4, m5, m6, m7, m8⟩ := in_bds h
  obtain ⟨a1, a2, a3, a4, a5, a6, a7, a8⟩ := vr_iff.1 h1
  obtain ⟨b1, b2⟩ := rng_iff.1 h2
  obtain ⟨b3, b4⟩ := rng_iff.1 h3
  clear h h1 h2 h3
  go_enter Try.func99, Try.ntmps99
  go_wp2
  exact bodyPost_ret (v := .agg #[.int .i64 (x + mn p (u / 2)), .int .i64 (y + mn q (v / 2)), .int .i64 (mx (u - 2 * p) 0), .int .i64 (mx (v - 2 * q) 0)]) (by simp only [results, Try.results99]; go_simp) rfl ⟨rfl, (by repeat (first | with_reducible exact Below.refl _ _ | with_reducible assumption | with_reducible refine balloc ?_ | (with_reducible refine bset ?_ ?_; rotate_left; ((try dsimp only); omega)) | refine bkeep2 ?_ (by assumption) | with_reducible refine Below.drew ?_))⟩
end Go.Proofs.Ytikndbinlpmgaaa
end
section
namespace Go.Proofs.Ytikndbinlpmgaaa
open Go.RowKit
set_option linter.unusedVariables false
attribute [local go_sem 5000] run_mx run_mn run_eqlR run_neqR
attribute [local go_sem] growUpon_value growUpon_skip growUpon_enter
set_option maxHeartbeats 1000000
theorem sinset_any (x y u v p q : Int) (w : World) (h : inB x y u v p q = true) : Calls Try.prog 73 #[.agg #[.int .i64 (x), .int .i64 (y), .int .i64 (u), .int .i64 (v)], .int .i64 p, .int .i64 q] w fun e w' => e = .returned (.agg #[.int .i64 (x + mn p (u / 2)), .int .i64 (y + mn q (v / 2)), .int .i64 (mx (u - 2 * p) 0), .int .i64 (mx (v - 2 * q) 0)]) ∧ Below w.heap.size w w' := by
  obtain ⟨h1, h2, h3⟩ := inB_yes h
  obtain ⟨m1, m2, m3, m4, m5, m6, m7, m8⟩ := in_bds h
  obtain ⟨a1, a2, a3, a4, a5, a6, a7, a8⟩ := vr_iff.1 h1
  obtain ⟨b1, b2⟩ := rng_iff.1 h2
  obtain ⟨b3, b4⟩ := rng_iff.1 h3
  rw [mx_comm (u - 2 * p) 0, mx_comm (v - 2 * q) 0] at *
  clear h h1 h2 h3
  go_enter Try.func73, Try.ntmps73
  go_wp2
  exact bodyPost_ret (v := .agg #[.int .i64 (x + mn p (u / 2)), .int .i64 (y + mn q (v / 2)), .int .i64 (mx 0 (u - 2 * p)), .int .i64 (mx 0 (v - 2 * q))]) (by simp only [results, Try.results73]; go_simp) rfl ⟨rfl, (by repeat (first | with_reducible exact Below.refl _ _ | with_reducible assumption | with_reducible refine balloc ?_ | (with_reducible refine bset ?_ ?_; rotate_left; ((try dsimp only); omega)) | refine bkeep2 ?_ (by assumption) | with_reducible refine Below.drew ?_))⟩
end Go.Proofs.Ytikndbinlpmgaaa
end
section
namespace Go.Proofs.Ytikndbinlpmgaaa
open Go.RowKit
set_option linter.unusedVariables false
attribute [local go_sem 5000] run_mx run_mn run_eqlR run_neqR
attribute [local go_sem] growUpon_value growUpon_skip growUpon_enter
set_option maxHeartbeats 1000000
end Go.Proofs.Ytikndbinlpmgaaa
end
section
namespace Go.Proofs.Ytikndbinlpmgaaa
open Go.RowKit
set_option linter.unusedVariables false
attribute [local go_sem 5000] run_mx run_mn run_eqlR run_neqR
attribute [local go_sem] growUpon_value growUpon_skip growUpon_enter
set_option maxHeartbeats 1000000
theorem belowN {B : Nat} {a w : World} (h : Below B a w) (n : Nat) : Below B a (w.drewN n) := ⟨h.os, h.tape, h.output, h.size, h.block⟩
set_option maxRecDepth 100000 in
theorem anchored_any (x y u v p q k : Int) (w : World) (h : anB x y u v p q k = true) : Calls Try.prog 101 #[.agg #[.int .i64 (x), .int .i64 (y), .int .i64 (u), .int .i64 (v)], .int .i64 p, .int .i64 q, .int .i64 k] w fun e w' => e = .returned (.agg #[.int .i64 (x + (u - mn p u) * (k % 3) / 2), .int .i64 (y + (v - mn q v) * (k / 3) / 2), .int .i64 (mn p u), .int .i64 (mn q v)]) ∧ Below w.heap.size w w' := by
  obtain ⟨h1, h2, h3, h4⟩ := anB_yes h
  obtain ⟨m1, m2, m3, m4, m5, m6, m7, m8, m9, m10, m11, m12⟩ := an_bds h
  obtain ⟨a1, a2, a3, a4, a5, a6, a7, a8⟩ := vr_iff.1 h1
  obtain ⟨b5, b6⟩ := rng_iff.1 h4
  clear h h1 h2 h3 h4
  go_enter Try.func101, Try.ntmps101
  go_wp2_with fail
  go_quiet (fail)
  go_wp2
  exact bodyPost_ret (v := .agg #[.int .i64 (x + (u - mn p u) * (k % 3) / 2), .int .i64 (y + (v - mn q v) * (k / 3) / 2), .int .i64 (mn p u), .int .i64 (mn q v)]) (by simp only [results, Try.results101]; go_simp) rfl ⟨rfl, (by repeat (first | with_reducible exact Below.refl _ _ | with_reducible assumption | with_reducible refine balloc ?_ | (with_reducible refine bset ?_ ?_; rotate_left; ((try dsimp only); omega)) | refine bkeep2 ?_ (by assumption) | with_reducible refine Below.drew ?_ | refine belowN ?_ _))⟩
end Go.Proofs.Ytikndbinlpmgaaa
end
section
namespace Go.Proofs.Ytikndbinlpmgaaa
open Go.RowKit
set_option linter.unusedVariables false
attribute [local go_sem 5000] run_mx run_mn run_eqlR run_neqR
attribute [local go_sem] growUpon_value growUpon_skip growUpon_enter
set_option maxHeartbeats 1000000
end Go.Proofs.Ytikndbinlpmgaaa
end
section
namespace Go.Proofs.Ytikndbinlpmgaaa
open Go.RowKit
set_option linter.unusedVariables false
attribute [local go_sem 5000] run_mx run_mn run_eqlR run_neqR
attribute [local go_sem] growUpon_value growUpon_skip growUpon_enter
set_option maxHeartbeats 1000000
theorem BX.drew {l : List (Nat × Array Value)} {w : World} (h : BX l w) : BX l w.drew := fun p hp => h p hp
theorem vr_b (x y u v : Int) (b : Bool) (h1 : vr x y u v = b) (w : World) : Calls Try.prog 38 #[.agg #[.int .i64 (x), .int .i64 (y), .int .i64 (u), .int .i64 (v)]] w fun e w' => e = .returned (.bool b) ∧ Below w.heap.size w w' := by
  rw [← h1]; exact validRect_any _ _ _ _ _
theorem mul_bd {u v : Int} (h1 : 0 ≤ u) (h2 : u ≤ 400) (h3 : 0 ≤ v) (h4 : v ≤ 400) : 0 ≤ u * v ∧ u * v ≤ 160000 :=
  ⟨Int.mul_nonneg h1 h3, Int.le_trans (Int.mul_le_mul h2 h4 h3 (by omega)) (by omega)⟩
/-- a size that is neither below 0 nor too great -/
def Sz (u v : Int) : Prop := (0 ≤ u ∧ u ≤ 400) ∧ (0 ≤ v ∧ v ≤ 400)
theorem Sz_vr {x y u v : Int} (h : vr x y u v = true) : Sz u v := by rw [vr_iff] at h; exact ⟨by omega, by omega⟩
theorem area_any (x y u v : Int) (hS : Sz u v) (w : World) : Calls Try.prog 21 #[.agg #[.int .i64 (x), .int .i64 (y), .int .i64 (u), .int .i64 (v)]] w fun e w' => e = .returned (.int .i64 (u * v)) ∧ Below w.heap.size w w' := by
  obtain ⟨⟨h1, h2⟩, h3, h4⟩ := hS
  obtain ⟨h5, h6⟩ := mul_bd h1 h2 h3 h4
  go_enter Try.func21, Try.ntmps21
  go_wp2_with fail
  all_goals try go_quiet (fail)
  all_goals try go_wp2
  go_ret
  exact ⟨rfl, (by repeat (first | with_reducible exact Below.refl _ _ | with_reducible assumption | with_reducible refine balloc ?_ | (with_reducible refine bset ?_ ?_; rotate_left; ((try dsimp only); omega)) | refine bkeep2 ?_ (by assumption) | with_reducible refine Below.drew ?_))⟩
theorem meet_v (x y u v x' y' u' v' X Y U V : Int) (w : World) (h : meetB x y u v x' y' u' v' = true) (hX : mx x x' = X) (hY : mx y y' = Y) (hU : mn (x + u) (x' + u') - X = U) (hV : mn (y + v) (y' + v') - Y = V) :
    Calls Try.prog 16 #[.agg #[.int .i64 (x), .int .i64 (y), .int .i64 (u), .int .i64 (v)], .agg #[.int .i64 (x'), .int .i64 (y'), .int .i64 (u'), .int .i64 (v')]] w fun e w' => e = .returned (.tuple #[.agg #[.int .i64 (X), .int .i64 (Y), .int .i64 (U), .int .i64 (V)], .bool true]) ∧ Below w.heap.size w w' := by
  subst hX hY hU hV; exact MeetRects_yes _ _ _ _ _ _ _ _ _ h
end Go.Proofs.Ytikndbinlpmgaaa
end
