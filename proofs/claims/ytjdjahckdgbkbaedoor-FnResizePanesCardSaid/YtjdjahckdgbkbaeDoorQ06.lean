import Derived.Test.YtjdjahckdgbkbaeDoorQ05
import Derived.Laws.Cover3
section
namespace Go.Proofs.YtjdjahckdgbkbaeDoor
open Go.RowKit
set_option linter.unusedVariables false
set_option maxHeartbeats 1000000
attribute [local go_sem 5000] run_mx run_mn
attribute [local go_sem] growUpon_value growUpon_skip growUpon_enter
theorem wp_P {P : Program} {c : Code} {Q : Exit → Act → World → Prop} {a : Act} {W : World} (F : World → Prop) (hF : F W) (h : ∀ W0, F W0 → c.wp P Q a W0) : c.wp P Q a W := h W hF
set_option maxRecDepth 100000 in
theorem svalidPanes_v (A A' : Option Addr) (n m c c' : Nat) (S M : List Int) (t : Bool) (w : World) (h : NV w A S) (h' : NV w A' M) (hn : n = S.length) (hm : m = M.length) (hL : S.length ≤ 1048576) (hL' : M.length ≤ 1048576) (ht : t = true ↔ pnP S M) :
    Calls Tryd.prog 39 #[.agg #[.slice A n c, .slice A' m c']] w fun e w' => e = .returned (.bool t) ∧ Below w.heap.size w w' := by
  subst hn hm
  have HT := Lib.hid ht
  have hb0 : Below w.heap.size w (w.alloc (.cells #[.slice A S.length c, .slice A' M.length c'] 35)) := balloc (Below.refl _ _)
  have HN0 := Lib.hid (h.keep hb0)
  have HN0' := Lib.hid (h'.keep hb0)
  clear ht h h'
  go_enter Tryd.func39, Tryd.ntmps39
  go_upto_region 1 with (fail)
  refine wp_P (fun W => W.heap[w.heap.size]? = some (.cells #[.slice A S.length c, .slice A' M.length c'] 35 (0, 0)) ∧ NV W A S ∧ NV W A' M ∧ Below w.heap.size w W) ⟨newS w _, HN0.out, HN0'.out, hb0⟩ ?_
  clear HN0 HN0' hb0
  rintro w1 ⟨hx, hn, hn', hb⟩
  have k0 : w1.cell? ⟨w.heap.size, 0, none⟩ = some (.slice A S.length c) := (cellS hx 0).trans rfl
  have k1 : w1.cell? ⟨w.heap.size, 1, none⟩ = some (.slice A' M.length c') := (cellS hx 1).trans rfl
  have HX := Lib.hid hx
  have HN := Lib.hid hn
  have HN' := Lib.hid hn'
  have HB := Lib.hid hb
  clear hx hn hn' hb
  go_wp2_with fail
  go_loop [3] (fun i => ∃ k : Nat, k ≤ S.length ∧ i = .int .i64 k ∧ upS S k) (fun i => S.length - (intOf i).toNat)
  case atStart => exact ⟨0, by omega, rfl, upS.zero S⟩
  case round =>
    obtain ⟨k, hk, rfl, hup⟩ := hrel
    have HU := Lib.hid hup
    clear hup
    by_cases hlt : k < S.length
    · have hd : decide ((k : Int) < (S.length : Int)) = true := by simpa using hlt
      obtain ⟨b, off, rfl, hb, hp⟩ := HN.out.cells (by omega)
      have hget : S[k]? = some S[k] := List.getElem?_eq_getElem hlt
      have c0 := hp k _ hget
      generalize S[k] = s at *
      have HG := Lib.hid hget
      clear hget hp
      cases hv : rng s 0 400
      · have hno := rng_not.1 hv
        have hb := no_s HT.out HG.out hno
        subst hb
        clear hno
        go_wp2_with fail
        with_reducible refine (inRange_P _ _ _ false _ hv).mono ?_
        rintro e w2 ⟨rfl, rfl⟩
        go_wp2
        go_ret
        exact ⟨rfl, HB.out⟩
      have HV := Lib.hid (rng_iff.1 hv)
      go_wp2_with fail
      with_reducible refine (inRange_P _ _ _ true _ hv).mono ?_
      rintro e w2 ⟨rfl, rfl⟩
      go_wp2
      go_round
      case rel => exact ⟨k + 1, by omega, by go_num, HU.out.succ HG.out HV.out⟩
      case measure => simp [intOf]; omega
    · have hd : decide ((k : Int) < (S.length : Int)) = false := by simp; omega
      obtain rfl : k = S.length := by omega
      have HU1 := Lib.hid HU.out
      clear HU hlt hk
      go_wp2_with fail
      go_loopw [4] (fun i wr => ∃ k : Nat, k ≤ M.length ∧ i = .int .i64 k ∧ upM S M k ∧ Below w1.heap.size w1 wr) (fun i _ => M.length - (intOf i).toNat)
      case atStart => exact ⟨0, by omega, rfl, upM.zero S M, Below.refl _ _⟩
      case round =>
        obtain ⟨k, hk, rfl, hup, hbr⟩ := hrel
        have HU := Lib.hid hup
        have HBR := Lib.hid hbr
        have j0 := (hbr.cell (p := ⟨w.heap.size, 0, none⟩) (ltS HX.out)).trans k0
        have j1 := (hbr.cell (p := ⟨w.heap.size, 1, none⟩) (ltS HX.out)).trans k1
        clear hup hbr
        by_cases hlt : k < M.length
        · have hd : decide ((k : Int) < (M.length : Int)) = true := by simpa using hlt
          have hget' : M[k]? = some M[k] := List.getElem?_eq_getElem hlt
          obtain ⟨b', off', hA', hb', hp'⟩ := (HN'.out.keep HBR.out).cells (by omega)
          have d0 := hp' k _ hget'
          generalize M[k] = m at *
          have HG' := Lib.hid hget'
          clear hget' hp'
          subst hA'
          cases hv : rng m 0 30
          · have hno := rng_not.1 hv
            have hb := no_m HT.out HG'.out hno
            subst hb
            clear hno
            go_wp2_with fail
            refine wp_region_grow 27 0 (· < 27) (by kernel_rfl) (by kernel_rfl) rfl ?_
            iterate 27 (refine wpG_step (fun K hK => ?_); first | (refine grow_skip rfl ?_; go_simp; refine hK _ ?_; clear hK K) | (apply Exists.intro; refine ⟨.inl ⟨rfl, fun w' hw' => ?_⟩, ?_⟩; (focus ((obtain ⟨hc, hf⟩ := bcell hw'.out); (have hcS := bcellS hw'.out); go_simp <;> first | rfl | (go_at_call 40; exact inRange_PB _ _ _ false _ hv))); (go_simp; refine hK _ ?_; clear hK K)))
            refine wpG_nil ?_
            refine wpK_tail (by kernel_rfl) (fun w9 hg9 => ?_)
            have hb9 := bdrewn hg9.out
            refine wpAny_end (by kernel_rfl) ?_
            refine NoPan.thn ?_
            clear hg9
            go_wp2
            go_ret
            exact ⟨rfl, bkeep2 (bkeep2 HB.out HBR.out) hb9⟩
          have HV := Lib.hid (rng_iff.1 hv)
          by_cases hks : k < S.length
          · have hd2 : decide ((k : Int) < (S.length : Int)) = true := by simpa using hks
            have hget : S[k]? = some S[k] := List.getElem?_eq_getElem hks
            obtain ⟨b, off, hA, hb, hp⟩ := (HN.out.keep HBR.out).cells (by omega)
            have c0 := hp k _ hget
            generalize S[k] = s at *
            have HG := Lib.hid hget
            clear hget hp
            subst hA
            by_cases hsm : s < m
            · have hd3 : decide (s < m) = true := by simpa using hsm
              have hb := no_at HT.out HG.out HG'.out (fun h => by unfold okP at h; omega)
              subst hb
              go_wp2_with fail
              refine wp_region_grow 27 0 (· < 27) (by kernel_rfl) (by kernel_rfl) rfl ?_
              iterate 27 (refine wpG_step (fun K hK => ?_); first | (refine grow_skip rfl ?_; go_simp; refine hK _ ?_; clear hK K) | (apply Exists.intro; refine ⟨.inl ⟨rfl, fun w' hw' => ?_⟩, ?_⟩; (focus ((obtain ⟨hc, hf⟩ := bcell hw'.out); (have hcS := bcellS hw'.out); go_simp <;> first | rfl | (go_at_call 40; exact inRange_PB _ _ _ true _ hv))); (go_simp; refine hK _ ?_; clear hK K)))
              refine wpG_nil ?_
              refine wpK_tail (by kernel_rfl) (fun w9 hg9 => ?_)
              have hb9 := bdrewn hg9.out
              refine wpAny_end (by kernel_rfl) ?_
              refine NoPan.thn ?_
              clear hg9
              go_wp2
              go_ret
              exact ⟨rfl, bkeep2 (bkeep2 HB.out HBR.out) hb9⟩
            · have hd3 : decide (s < m) = false := by simpa using hsm
              have HS := Lib.hid hsm
              clear hsm
              go_wp2_with fail
              refine wp_region_grow 27 0 (· < 27) (by kernel_rfl) (by kernel_rfl) rfl ?_
              iterate 27 (refine wpG_step (fun K hK => ?_); first | (refine grow_skip rfl ?_; go_simp; refine hK _ ?_; clear hK K) | (apply Exists.intro; refine ⟨.inl ⟨rfl, fun w' hw' => ?_⟩, ?_⟩; (focus ((obtain ⟨hc, hf⟩ := bcell hw'.out); (have hcS := bcellS hw'.out); go_simp <;> first | rfl | (go_at_call 40; exact inRange_PB _ _ _ true _ hv))); (go_simp; refine hK _ ?_; clear hK K)))
              refine wpG_nil ?_
              refine wpK_tail (by kernel_rfl) (fun w9 hg9 => ?_)
              have hb9 := bdrewn hg9.out
              refine wpAny_end (by kernel_rfl) ?_
              refine NoPan.thn ?_
              clear hg9
              have HB9 := Lib.hid (bkeep2 HBR.out hb9)
              clear hb9 c0 d0 j0 j1
              go_wp2
              go_roundw
              case rel => exact ⟨k + 1, by omega, by go_num, HU.out.succ HG'.out ⟨by have := HV.out; omega, by have := HV.out; omega, fun s' hs' => by have hg := HG.out; rw [hs'] at hg; cases hg; have := HS.out; omega⟩, HB9.out⟩
              case measure => simp [intOf]; omega
          · have hd2 : decide ((k : Int) < (S.length : Int)) = false := by simp; omega
            go_wp2_with fail
            refine wp_region_grow 27 0 (· < 27) (by kernel_rfl) (by kernel_rfl) rfl ?_
            iterate 27 (refine wpG_step (fun K hK => ?_); first | (refine grow_skip rfl ?_; go_simp; refine hK _ ?_; clear hK K) | (apply Exists.intro; refine ⟨.inl ⟨rfl, fun w' hw' => ?_⟩, ?_⟩; (focus ((obtain ⟨hc, hf⟩ := bcell hw'.out); (have hcS := bcellS hw'.out); go_simp <;> first | rfl | (go_at_call 40; exact inRange_PB _ _ _ true _ hv))); (go_simp; refine hK _ ?_; clear hK K)))
            refine wpG_nil ?_
            refine wpK_tail (by kernel_rfl) (fun w9 hg9 => ?_)
            have hb9 := bdrewn hg9.out
            refine wpAny_end (by kernel_rfl) ?_
            refine NoPan.thn ?_
            clear hg9
            have HB9 := Lib.hid (bkeep2 HBR.out hb9)
            clear hb9 d0 j0 j1
            go_wp2
            go_roundw
            case rel => exact ⟨k + 1, by omega, by go_num, HU.out.succ HG'.out ⟨by have := HV.out; omega, by have := HV.out; omega, fun s' hs' => by have := (List.getElem?_eq_some_iff.1 hs').1; omega⟩, HB9.out⟩
            case measure => simp [intOf]; omega
        · have hd : decide ((k : Int) < (M.length : Int)) = false := by simp; omega
          obtain rfl : k = M.length := by omega
          have HU2 := Lib.hid HU.out
          have HB2 := Lib.hid (bkeep2 HB.out HBR.out)
          have HM := Lib.hid (HN.out.keep HBR.out)
          clear HU hlt hk
          cases h1 : rng (S.length : Int) 1 6
          · have hl := rng_not.1 h1
            have hb := no_len HT.out (by omega)
            subst hb
            clear hl
            go_wp2_with fail
            with_reducible refine (inRange_P _ _ _ false _ h1).mono ?_
            rintro e w2 ⟨rfl, rfl⟩
            go_wp2
            go_ret
            exact ⟨rfl, HB2.out⟩
          have hl := Lib.hid (rng_iff.1 h1)
          by_cases h2 : M.length = S.length
          rotate_left
          · have hb := no_len2 HT.out h2
            subst hb
            have h3 : ((M.length : Int) == (S.length : Int)) = false := by simp; omega
            clear h2
            go_wp2_with fail
            with_reducible refine (inRange_P _ _ _ true _ h1).mono ?_
            rintro e w2 ⟨rfl, rfl⟩
            go_wp2
            go_ret
            exact ⟨rfl, HB2.out⟩
          have h3 : ((M.length : Int) == (S.length : Int)) = true := by simp; omega
          have H2 := Lib.hid h2
          clear h2
          have hsm : Smal 1000000000000000 S := smal_of (b := 400) (fun x hx => by obtain ⟨i, hi, rfl⟩ := List.getElem_of_mem hx; have := HU1.out i _ hi (List.getElem?_eq_getElem hi); omega) (by omega) (by have := hl.out; omega)
          have HSM := Lib.hid hsm
          clear hsm
          go_wp2_with fail
          with_reducible refine (inRange_P _ _ _ true _ h1).mono ?_
          rintro e w2 ⟨rfl, rfl⟩
          go_wp2_with fail
          with_reducible refine (total_v A c S _ HM.out hL HSM.out).mono ?_
          rintro e w2 ⟨rfl, hw2⟩
          rw [hw2] at HB2
          clear hw2
          by_cases h5 : sumI S ≤ 400
          · have hb := HT.out.2 (pnP_spec HU1.out HU2.out (by have := hl.out; omega) H2.out h5)
            subst hb
            go_wp2
            go_ret
            exact ⟨ret_bool rfl, HB2.out⟩
          · have hb := no_sum HT.out h5
            subst hb
            go_wp2
            go_ret
            exact ⟨ret_bool (by simpa using h5), HB2.out⟩
end Go.Proofs.YtjdjahckdgbkbaeDoor
end
section
namespace Go.Proofs.YtjdjahckdgbkbaeDoor
set_option linter.unusedVariables false
/-- where each line begins, up to one of them -/
def edP (S : List Int) (k : Nat) : List Int := (List.range (S.length + 1)).map fun i => if i ≤ k then sumI (S.take i) else 0
def edL (S : List Int) : List Int := (List.range (S.length + 1)).map fun i => sumI (S.take i)
theorem edP_len (S : List Int) (k : Nat) : (edP S k).length = S.length + 1 := by simp [edP]
theorem edL_len (S : List Int) : (edL S).length = S.length + 1 := by simp [edL]
theorem edP_zero (S : List Int) : List.replicate (S.length + 1) 0 = edP S 0 := by
  apply List.ext_getElem
  · simp [edP]
  · intro i h1 h2
    simp only [edP, List.getElem_map, List.getElem_range, List.getElem_replicate]
    split
    · rename_i h
      obtain rfl : i = 0 := by omega
      simp [sumI]
    · rfl
theorem edP_end (S : List Int) : edP S S.length = edL S := by
  apply List.ext_getElem
  · simp [edP, edL]
  · intro i h1 h2
    simp only [edP, edL, List.getElem_map, List.getElem_range]
    rw [if_pos]
    simp [edP] at h1
    omega
theorem edP_get {S : List Int} {k i : Nat} (hi : i ≤ S.length) : (edP S k)[i]? = some (if i ≤ k then sumI (S.take i) else 0) := by
  rw [List.getElem?_eq_getElem (by rw [edP_len]; omega)]
  simp [edP]
theorem edL_get {S : List Int} {i : Nat} (hi : i ≤ S.length) : (edL S)[i]? = some (sumI (S.take i)) := by
  rw [List.getElem?_eq_getElem (by rw [edL_len]; omega)]
  simp [edL]
theorem edP_set {S : List Int} {k : Nat} (hk : k < S.length) : (edP S k).set (k + 1) (sumI (S.take (k + 1))) = edP S (k + 1) := by
  apply List.ext_getElem
  · simp [edP]
  · intro i h1 h2
    rw [List.getElem_set]
    simp only [edP, List.getElem_map, List.getElem_range]
    split
    · rename_i h
      subst h
      rw [if_pos (Nat.le_refl _)]
    · rename_i h
      by_cases h3 : i ≤ k
      · rw [if_pos h3, if_pos (by omega)]
      · rw [if_neg h3, if_neg (by omega)]
/-- the line in which a place lies, told from the one that begins at a place -/
def lnAt : List Int → Int → Int → Int → Int
  | [], _, _, _ => -1
  | s :: t, a, p, i => if a ≤ p ∧ p < a + s then i else lnAt t (a + s) p (i + 1)
def lineM (S : List Int) (p : Int) : Int := lnAt S 0 p 0
theorem lnAt_bd : ∀ (S : List Int) (a p i : Int), 0 ≤ i → -1 ≤ lnAt S a p i ∧ lnAt S a p i < i + S.length ∨ lnAt S a p i = -1
  | [], a, p, i, h => by simp [lnAt]
  | s :: t, a, p, i, h => by
    unfold lnAt
    split
    · simp only [List.length_cons]; omega
    · rcases lnAt_bd t (a + s) p (i + 1) (by omega) with h1 | h1
      · simp only [List.length_cons]; omega
      · exact .inr h1
theorem lnAt_drop {S : List Int} {k : Nat} {s p R : Int} (hs : S[k]? = some s) (h : lnAt (S.drop k) (sumI (S.take k)) p k = R) :
    (sumI (S.take k) ≤ p ∧ p < sumI (S.take k) + s → R = k) ∧ (¬ (sumI (S.take k) ≤ p ∧ p < sumI (S.take k) + s) → lnAt (S.drop (k + 1)) (sumI (S.take (k + 1))) p ((k + 1 : Nat) : Int) = R) := by
  obtain ⟨hk, e⟩ := List.getElem?_eq_some_iff.1 hs
  rw [List.drop_eq_getElem_cons hk, e, lnAt] at h
  rw [sumI_snoc hs]
  constructor
  · intro hc; rw [if_pos hc] at h; exact h.symm
  · intro hc; rw [if_neg hc] at h; rw [← h]; rfl
theorem lnAt_done {S : List Int} {k : Nat} {p R : Int} (hk : S.length ≤ k) (h : lnAt (S.drop k) (sumI (S.take k)) p k = R) : R = -1 := by
  rw [List.drop_eq_nil_of_le hk, lnAt] at h
  exact h.symm
end Go.Proofs.YtjdjahckdgbkbaeDoor
end
section
namespace Go.Proofs.YtjdjahckdgbkbaeDoor
open Go.RowKit
set_option linter.unusedVariables false
set_option maxHeartbeats 1000000
attribute [local go_sem] growUpon_value growUpon_skip growUpon_enter
theorem nopan_normal {Q : Exit → Act → World → Prop} {a : Act} {w : World} (h : Q .normal a w) : NoPan Q .normal a w := h
end Go.Proofs.YtjdjahckdgbkbaeDoor
end
section
namespace Go.Proofs.YtjdjahckdgbkbaeDoor
open Go.RowKit
set_option linter.unusedVariables false
set_option maxHeartbeats 1000000
attribute [local go_sem 5000] run_mx run_mn
attribute [local go_sem] growUpon_value growUpon_skip growUpon_enter
theorem vpT (S M : List Int) : ∃ t : Bool, t = true ↔ pnP S M := by
  by_cases h : pnP S M
  · exact ⟨true, by simp [h]⟩
  · exact ⟨false, by simp [h]⟩
theorem NV.head {w : World} {A : Option Addr} {L : List Int} (h : NV w A L) (j : Nat) : NV w A (L.take j) := ⟨fun h0 => by
  have h1 : 0 < L.length := by rw [List.length_take] at h0; omega
  obtain ⟨b, off, e, hl, hp⟩ := h.cells h1
  exact ⟨b, off, e, hl, fun i x hx => hp i x (by rw [List.getElem?_take] at hx; split at hx; exact hx; cases hx)⟩⟩
theorem smal_take {m : Int} {L : List Int} (h : Smal m L) (j : Nat) : Smal m (L.take j) := fun k => by rw [List.take_take]; exact h _
end Go.Proofs.YtjdjahckdgbkbaeDoor
end
section
namespace Go.Proofs.YtjdjahckdgbkbaeDoor
open Go Go.RowKit
set_option linter.unusedVariables false
section
variable {P : Program}
def XV (u : Value) : Value → World → Prop := fun v _ => v = u
def XT : Value → World → Prop := fun _ _ => True
/-- what stays true when memory is made -/
def Stay (T : Value → World → Prop) : Prop := ∀ v a b, T v a → Gr a b → T v b
theorem stay_V (u : Value) : Stay (XV u) := fun _ _ _ h _ => h
theorem stay_T : Stay XT := fun _ _ _ _ _ => trivial
theorem stay_of {F : Value → World → Prop} (h : ∀ v a b, F v a → Below a.heap.size a b → F v b) : Stay F := fun v a b x g => h v a b x g.out
theorem stay_list {l : List (Value → World → Prop)} (h : ∀ T ∈ l, Stay T) : ∀ k v a b, (l.getD k XT) v a → Gr a b → (l.getD k XT) v b := by
  intro k v a b hv g
  rw [List.getD_eq_getElem?_getD] at *
  cases hk : l[k]? with
  | none => trivial
  | some T => rw [hk] at hv; exact h T (List.mem_of_getElem? hk) v a b hv g
def GIx (_ : Nat) (_ : World) : Prop := True
theorem gx_gen {K : Value → World → Prop} {r : Result Next} (h : ∀ K' : Value → World → Prop, (∀ v w', K v w' → K' v w') → givesUpon P K' r) : givesUpon P K r := h K fun _ _ h => h
theorem lookD_imp {T : Nat → Value → World → Prop} {a0 a : Act} {w : World} {G G' : Prop} (hG : G → G') : ∀ {ds : List (Tmp × Option Nat)}, lookD T a0 a w ds G → lookD T a0 a w ds G'
  | [], h => hG h
  | (t, some j) :: r, h => fun x => lookD_imp (ds := r) hG (h x)
  | (t, none) :: r, h => fun x => lookD_imp (ds := r) hG (h x)
theorem givesUpon_imp {K K' : Value → World → Prop} (hK : ∀ v w, K v w → K' v w) {r : Result Next} (h : givesUpon P K r) : givesUpon P K' r := by
  unfold givesUpon at *
  split at h
  · exact hK _ _ h
  · exact hK _ _ h
  · exact h.mono fun e w' ⟨v, e1, e2⟩ => ⟨v, e1, hK _ _ e2⟩
  · exact h.elim
theorem opOK_rx {ops : List Oper} {T : Nat → Value → World → Prop} {a0 : Act} {w0 : World} {k : Nat} {o : Oper} (ds : List (Tmp × Option Nat)) (hB : dsB ops o ds = true) (hg : o.guard = none)
    (h : ∀ (a : Act) (w : World), Gr w0 w → lookD T a0 a w ds (givesUpon P (fun v w' => T k v w' ∧ Gr w w') ((execOp a.eval o).run P w))) : opOK P ops T Gr GIx a0 w0 k o :=
  opOK_ds ds hB hg fun m a w _ hR _ => lookD_imp (fun x => givesUpon_imp (fun v w' ⟨h1, h2⟩ => ⟨h1, h2, trivial⟩) x) (h a w hR)
theorem wp_region_rx {id : Nat} {l : List Oper} {Q : Exit → Act → World → Prop} {a0 : Act} {w : World} (tl : List (Value → World → Prop))
    (hm : P.follows .mixedOrders = true) (hB : rgB l a0.tmps.size = true) (hTs : ∀ T ∈ tl, Stay T)
    (hops : opsOK P l (fun k => tl.getD k XT) Gr GIx a0 w.drew l 0) (hfin : ∀ w', Gr w.drew w' → finP (fun k => tl.getD k XT) w' (fun a' => Q .normal a' w') l 0 a0) : (Code.region id l.toArray true).wp P Q a0 w :=
  wp_region_rgl (fun k => tl.getD k XT) Gr GIx hm hB Gr.refl (fun _ _ _ h k => h.trans k) (stay_list hTs) trivial hops fun w' h _ => hfin w' h
end
end Go.Proofs.YtjdjahckdgbkbaeDoor
end
section
namespace Go.Proofs.YtjdjahckdgbkbaeDoor
open Go Go.RowKit
set_option linter.unusedVariables false
section
variable {P : Program}
/-- all from n on wait for all ahead of n but those of X -/
def cloX (l : List Oper) (n : Nat) (X : Nat → Bool) : Bool := decide (n ≤ l.length) && (List.range l.length).all fun i => decide (i < n) || (List.range n).all fun j => X j || reachB l l.length i j
theorem wpAny_rgpX {l : List Oper} {Q : Exit → Act → World → Prop} {a0 : Act} {w : World} (T : Nat → Value → World → Prop) (R : World → World → Prop) (I : Nat → World → Prop)
    (n1 : Nat) (hB : rgC l a0.tmps.size = true) (X : Nat → Bool) (hC : cloX l n1 X = true) (hRr : ∀ a, R a a) (hRt : ∀ a b c, R a b → R b c → R a c) (hTs : ∀ k v a b, T k v a → R a b → T k v b) (hI0 : I 0 w.drew)
    (hops : opsOK P l T R I a0 w.drew (l.take n1) 0) (hfin : ∀ w', R w.drew w' → I n1 w' → finP T w' (fun a' => wpAny P .any l.toArray Q (l.length - n1) (listedTo n1 0 (Array.replicate l.toArray.size false)) a' w') (l.take n1) 0 a0) :
    ∀ (fuel m : Nat) (listed : Array Bool) (a : Act) (w' : World), cntF (fun i => listed.getD i true) l.length = fuel → listed.size = l.length → fuel + m = l.length → (∀ i, n1 ≤ i → i < l.length → listed.getD i false = false) → (∀ j, X j = true → listed.getD j false = true) → DC l listed → RJ l T R I a0 w.drew m listed a w' →
      wpAny P .any l.toArray Q fuel listed a w' := by
  simp only [rgC, Bool.and_eq_true] at hB
  obtain ⟨hns, hB⟩ := hB
  have hB' : ∀ (i : Nat) (o : Oper), l[i]? = some o → (∀ e ∈ o.after, Region.binds .any e = true → e.on < i) ∧ (∀ d, o.dst = some d → d < a0.tmps.size ∧ dstIdx d l 0 = some i) ∧ (∀ t ∈ o.looksAt l.toArray, ∀ j, dstIdx t l 0 = some j → ∃ e ∈ o.after, e.on = j ∧ Region.binds .any e = true) := by
    intro i o ho
    have hlt := (List.getElem?_eq_some_iff.1 ho).1
    have h1 := List.all_eq_true.1 hB i (List.mem_range.2 hlt)
    simp only [ho, Bool.and_eq_true] at h1
    obtain ⟨⟨h1, h2⟩, h3⟩ := h1
    refine ⟨fun e he hb => by have := List.all_eq_true.1 h1 e (by simpa using he); simpa [hb] using this, fun d hd => ?_, fun t ht j hj => ?_⟩
    · rw [hd] at h2
      simp only [Option.all_some, Bool.and_eq_true, decide_eq_true_eq, beq_iff_eq] at h2
      exact h2
    · have h4 := List.all_eq_true.1 h3 t ht
      rw [hj] at h4
      obtain ⟨e, he, h5⟩ := List.any_eq_true.1 h4
      simp only [Bool.and_eq_true, beq_iff_eq] at h5
      exact ⟨e, by simpa using he, h5⟩
  have hdist : ∀ (i : Nat) (o : Oper) (j : Nat) (p : Oper), l[i]? = some o → l[j]? = some p → i ≠ j → ∀ d, o.dst = some d → p.dst ≠ some d := by
    intro i o j p ho hp hij d hd hpd
    have h1 := ((hB' i o ho).2.1 d hd).2
    rw [((hB' j p hp).2.1 d hpd).2] at h1
    injection h1 with h1
    exact hij h1.symm
  obtain ⟨hle1, hcl⟩ : n1 ≤ l.length ∧ ∀ i, n1 ≤ i → i < l.length → ∀ j, j < n1 → X j = false → reachB l l.length i j = true := by
    simp only [cloX, Bool.and_eq_true, decide_eq_true_eq, List.all_eq_true, List.mem_range, Bool.or_eq_true] at hC
    refine ⟨hC.1, fun i hi hil j hj hX => ?_⟩
    rcases hC.2 i hil with h | h
    · omega
    · rcases h j hj with h | h
      · rw [hX] at h; cases h
      · exact h
  intro fuel
  have hdone : ∀ (m : Nat) (listed : Array Bool) (a : Act) (w' : World), cntF (fun i => listed.getD i true) l.length = l.length - m → listed.size = l.length → m ≤ l.length → (∀ i, n1 ≤ i → i < l.length → listed.getD i false = false) → (∀ i, i < n1 → listed.getD i false = true) → RJ l T R I a0 w.drew m listed a w' → wpAny P .any l.toArray Q (l.length - m) listed a w' := by
    rintro m listed a w' hc hls hml hlow hall ⟨hR, hI, hd, hs, ht, hT⟩
    have hm1 : m = n1 := by
      have h1 : cntF (fun i => listed.getD i true) l.length = cntF (fun i => decide (i < n1)) l.length := cntF_same (fun i hi => by
        by_cases h : i < n1
        · have := hall i h
          rw [Array.getD_eq_getD_getElem?, Array.getElem?_eq_getElem (by omega)] at *
          simpa [h] using this
        · have := hlow i (by omega) hi
          rw [Array.getD_eq_getD_getElem?, Array.getElem?_eq_getElem (by omega)] at *
          simpa [h] using this)
      rw [h1, cntF_lt] at hc
      omega
    subst hm1
    have he : listed = listedTo m 0 (Array.replicate l.toArray.size false) := by
      apply Array.ext
      · rw [listedTo_size]; simp [hls]
      · intro i h1 h2
        have e1 : listed[i] = listed.getD i false := by rw [Array.getD_eq_getD_getElem?, Array.getElem?_eq_getElem h1]; rfl
        have e2 : (listedTo m 0 (Array.replicate l.toArray.size false))[i] = (listedTo m 0 (Array.replicate l.toArray.size false)).getD i false := by rw [Array.getD_eq_getD_getElem?, Array.getElem?_eq_getElem h2]; rfl
        rw [e1, e2, listedTo_getD (by simpa using (by omega : 0 + m ≤ l.length))]
        by_cases h : i < m
        · rw [hall i h, if_pos (by omega)]
        · rw [hlow i (by omega) (by omega), if_neg (by omega), Array.getD_eq_getD_getElem?, Array.getElem?_replicate]
          split <;> rfl
    have hlm : ∀ (j : Nat) (o : Oper), l[j]? = some o → listed.getD j false = true → j < m := fun j o ho hl => by
      by_cases h : j < m
      · exact h
      · exfalso
        have := hlow j (by omega) (List.getElem?_eq_some_iff.1 ho).1
        rw [hl] at this
        cases this
    rw [he]
    refine finP_to (T := T) (w := w') (F := fun a' => wpAny P .any l.toArray Q (l.length - m) (listedTo m 0 (Array.replicate l.toArray.size false)) a' w') (l := l.take m) (k := 0) (b := a0) hd.symm hs.symm (fun t h => ?_) (fun j o ho hn => ?_) (hfin w' hR hI)
    · exact (ht t fun j o ho hl => h o (by
        have hj := hlm j o ho hl
        exact List.mem_of_getElem? (i := j) (by rw [List.getElem?_take, if_pos hj]; exact ho))).symm
    · rw [Nat.zero_add]
      rw [List.getElem?_take] at ho
      split at ho
      · rename_i hj
        exact hT j o ho (hall j hj) hn
      · cases ho
  induction fuel with
  | zero =>
    intro m listed a w' hc hls hm' hlow hx hdc hJ
    have hall : ∀ i, i < l.length → listed.getD i false = true := fun i hi => by
      have := cntF_zero hc i hi
      rw [Array.getD_eq_getD_getElem?, Array.getElem?_eq_getElem (by omega)] at *
      simpa using this
    have h := hdone m listed a w' (by rw [hc]; omega) hls (by omega) hlow (fun i hi => hall i (by omega)) hJ
    rwa [show l.length - m = 0 by omega] at h
  | succ fuel ih =>
    intro m listed a w' hc hls hm' hlow hx hdc hJ
    by_cases hph : ∀ i, i < n1 → listed.getD i false = true
    · have h := hdone m listed a w' (by rw [hc]; omega) hls (by omega) hlow hph hJ
      rwa [show l.length - m = fuel + 1 by omega] at h
    have hlt1 : ∀ (i : Nat) (o : Oper), l[i]? = some o → listed.getD i false = false → (∀ e ∈ o.after, Region.binds .any e = true → listed.getD e.on false = true) → i < n1 := fun i o ho h0 hall => by
      by_cases h : i < n1
      · exact h
      · exfalso
        apply hph
        intro j hj
        by_cases hX : X j = true
        · exact hx j hX
        have hr := hcl i (by omega) (List.getElem?_eq_some_iff.1 ho).1 j hj (by simpa using hX)
        have hpos : l.length = (l.length - 1) + 1 := by have := (List.getElem?_eq_some_iff.1 ho).1; omega
        rw [hpos] at hr
        simp only [reachB, ho, List.any_eq_true, Bool.and_eq_true, Bool.or_eq_true, beq_iff_eq] at hr
        obtain ⟨e, he, hb, hr⟩ := hr
        have hl := hall e (by simpa using he) hb
        rcases hr with rfl | hr
        · exact hl
        · exact DC.reach hdc _ hl hr
    refine ⟨fun hr => ?_, fun i hi => ?_⟩
    · exfalso
      apply hph
      intro i
      induction i using Nat.strongRecOn with
      | ind i ih' =>
        intro hi
        by_cases hl : listed.getD i false = true
        · exact hl
        · exfalso
          have hil : i < l.length := by omega
          have ho : l[i]? = some l[i] := List.getElem?_eq_getElem hil
          have hmem : i ∈ Region.ready .any l.toArray listed := mem_ready.2 ⟨by
            rw [Array.getD_eq_getD_getElem?, Array.getElem?_eq_getElem (by omega)] at *
            simp only [Option.getD_some, Bool.not_eq_true] at *
            exact hl, l[i], by simp, fun e he hb => ih' e.on ((hB' i _ ho).1 e he hb) (by have := (hB' i _ ho).1 e he hb; omega)⟩
          rw [hr] at hmem
          cases hmem
    · obtain ⟨h0, o, ho', hall⟩ := mem_ready.1 hi
      have ho : l[i]? = some o := by simpa using ho'
      have hlt : i < l.length := (List.getElem?_eq_some_iff.1 ho).1
      have h0' : listed.getD i false = false := by
        rw [Array.getD_eq_getD_getElem?, Array.getElem?_eq_getElem (by omega)] at *
        simpa using h0
      have hi1 : i < n1 := hlt1 i o ho h0' hall
      have hot : (l.take n1)[i]? = some o := by rw [List.getElem?_take, if_pos hi1]; exact ho
      obtain ⟨hR, hI, hd, hs, ht, hT⟩ := hJ
      obtain ⟨b1, b2, b3⟩ := hB' i o ho
      have hlook : ∀ t ∈ o.looksAt l.toArray, match dstIdx t l 0 with | some j => T j (tv a t) w' | none => tv a t = tv a0 t := by
        intro t htm
        cases hj : dstIdx t l 0 with
        | none =>
          refine tv_of (ht t fun j p hp _ => dstIdx_none hj p (List.mem_of_getElem? hp))
        | some j =>
          obtain ⟨e, he, rfl, hb⟩ := b3 t htm j hj
          obtain ⟨_, p, hp, hpd⟩ := dstIdx_some hj
          have := hT e.on p (by simpa using hp) (hall e he hb) (by rw [hpd]; simp)
          rw [hpd] at this
          exact this
      have hop := look_of hlook (opsOK_at hops hot m a w' (by omega) hR hI)
      rw [Nat.zero_add] at hop
      have hget : ∀ d, (listed.setIfInBounds i true).getD i d = true := fun d => by
        rw [Array.getD_eq_getD_getElem?, Array.getElem?_setIfInBounds_self_of_lt (by omega)]; rfl
      have next : ∀ v w1, T i v w1 → R w' w1 → I (m + 1) w1 → wpAny P .any l.toArray Q fuel (listed.setIfInBounds i true) (a.put o.dst v) w1 := by
        intro v w1 hTv hR1 hI1
        refine ih (m + 1) _ _ _ ?_ (by simpa using hls) (by omega) (fun k hk hkl => ?_) ?_ (hdc.set ho hall) ⟨hRt _ _ _ hR hR1, hI1, (put_defers' _ _ _).trans hd, (put_size _ _ _).trans hs, fun t h => ?_, fun j p hp hl hn => ?_⟩
        · have := cntF_set (f := fun i => listed.getD i true) (g := fun j => (listed.setIfInBounds i true).getD j true) (i := i) h0 (hget true) (fun j hj => getD_set_ne true (Ne.symm hj)) hlt
          omega
        · rw [getD_set_ne false (by omega)]; exact hlow k hk hkl
        · exact fun k hk => getD_set_true (hx k hk)
        · have hne : o.dst ≠ some t := h i o ho (hget false)
          rw [put_ne _ _ _ hne]
          exact ht t fun j p hp hl => h j p hp (getD_set_true hl)
        · by_cases e : i = j
          · subst e
            rw [ho] at hp
            obtain rfl := Option.some.inj hp
            cases hod : o.dst with
            | none => exact absurd hod hn
            | some d =>
              have : tv (a.put (some d) v) d = v := by
                unfold tv
                rw [Array.getD_eq_getD_getElem?, put_same _ _ _ (by rw [hs]; exact (b2 d hod).1)]
                rfl
              simp only [vof]
              rw [this]
              exact hTv
          · rw [getD_set_ne false e] at hl
            have h2 := hTs j _ w' w1 (hT j p hp hl hn) hR1
            cases hpd : p.dst with
            | none => exact absurd hpd hn
            | some d =>
              rw [hpd] at h2
              simp only [vof] at h2 ⊢
              rw [show tv (a.put o.dst v) d = tv a d from tv_of (put_ne _ _ _ (fun hod => hdist i o j p ho hp e d hod hpd))]
              exact h2
      unfold wpOp
      simp only [ho']
      cases hg : o.guard with
      | none =>
        rw [hg] at hop
        rw [if_pos (by simp [Region.wanted, hg])]
        exact .inl (wp_of_gives hop fun v w1 ⟨h1, h2, h3⟩ => next v w1 h1 h2 h3)
      | some g =>
        rw [hg] at hop
        obtain ⟨g1, g2⟩ := hop
        split
        · rename_i hw
          exact .inl (wp_of_gives (g1 hw) fun v w1 ⟨h1, h2, h3⟩ => next v w1 h1 h2 h3)
        · rename_i hw
          obtain ⟨h1, h2⟩ := g2 (by simpa using hw)
          exact next undef w' h1 (hRr _) h2
theorem rj_step {l : List Oper} {T : Nat → Value → World → Prop} {R : World → World → Prop} {I : Nat → World → Prop} {a0 a : Act} {w0 w w1 : World} {m i : Nat} {listed : Array Bool} {o : Oper} {v : Value}
    (hRt : ∀ a b c, R a b → R b c → R a c) (hTs : ∀ k v a b, T k v a → R a b → T k v b) (hB : rgC l a0.tmps.size = true) (hls : listed.size = l.length) (ho : l[i]? = some o) (hTv : T i v w1) (hR1 : R w w1) (hI1 : I (m + 1) w1) (hJ : RJ l T R I a0 w0 m listed a w) :
    RJ l T R I a0 w0 (m + 1) (listed.setIfInBounds i true) (a.put o.dst v) w1 := by
  obtain ⟨hR, hI, hd, hs, ht, hT⟩ := hJ
  simp only [rgC, Bool.and_eq_true] at hB
  obtain ⟨hns, hB⟩ := hB
  have hB' : ∀ (i : Nat) (o : Oper), l[i]? = some o → ∀ d, o.dst = some d → d < a0.tmps.size ∧ dstIdx d l 0 = some i := by
    intro i o ho d hd
    have hlt := (List.getElem?_eq_some_iff.1 ho).1
    have h1 := List.all_eq_true.1 hB i (List.mem_range.2 hlt)
    simp only [ho, Bool.and_eq_true] at h1
    obtain ⟨⟨h1, h2⟩, h3⟩ := h1
    rw [hd] at h2
    simpa using h2
  have hlt : i < l.length := (List.getElem?_eq_some_iff.1 ho).1
  have hget : ∀ d, (listed.setIfInBounds i true).getD i d = true := fun d => by
    rw [Array.getD_eq_getD_getElem?, Array.getElem?_setIfInBounds_self_of_lt (by omega)]; rfl
  refine ⟨hRt _ _ _ hR hR1, hI1, (put_defers' _ _ _).trans hd, (put_size _ _ _).trans hs, fun t h => ?_, fun j p hp hl hn => ?_⟩
  · have hne : o.dst ≠ some t := h i o ho (hget false)
    rw [put_ne _ _ _ hne]
    exact ht t fun j p hp hl => h j p hp (getD_set_true hl)
  · by_cases e : i = j
    · subst e
      rw [ho] at hp
      obtain rfl := Option.some.inj hp
      cases hod : o.dst with
      | none => exact absurd hod hn
      | some d =>
        have : tv (a.put (some d) v) d = v := by
          unfold tv
          rw [Array.getD_eq_getD_getElem?, put_same _ _ _ (by rw [hs]; exact (hB' i o ho d hod).1)]
          rfl
        simp only [vof]
        rw [this]
        exact hTv
    · rw [getD_set_ne false e] at hl
      have h2 := hTs j _ w w1 (hT j p hp hl hn) hR1
      cases hpd : p.dst with
      | none => exact absurd hpd hn
      | some d =>
        rw [hpd] at h2
        simp only [vof] at h2 ⊢
        rw [show tv (a.put o.dst v) d = tv a d from tv_of (put_ne _ _ _ (fun hod => by
          have e1 := (hB' i o ho d hod).2
          rw [(hB' j p hp d hpd).2] at e1
          exact e (Option.some.inj e1).symm))]
        exact h2
/-- operations that only move a value that was there before, taken first -/
def lonesB (l : List Oper) : List (Nat × Nat × Nat) → Array Bool → Bool
  | [], _ => true
  | (x, d, s) :: r, listed => (match l[x]? with
    | some o => o.guard.isNone && (match o.op, o.dst with | .move (.tmp s'), some d' => s' == s && d' == d | _, _ => false) && (o.after.toList.all fun e => !Region.binds .any e) && Region.free .any l.toArray listed x && (Region.ready .any l.toArray listed).contains x && (dstIdx s l 0).isNone && !(listed.getD x true)
    | none => false) && lonesB l r (listed.setIfInBounds x true)
theorem wpAny_lones {l : List Oper} {Q : Exit → Act → World → Prop} {a0 : Act} {w : World} (n1 : Nat) (X : Nat → Bool) (tl : List (Value → World → Prop)) (hB : rgC l a0.tmps.size = true) (hC : cloX l n1 X = true) (hTs : ∀ T ∈ tl, Stay T)
    (hops : opsOK P l (fun k => tl.getD k XT) Gr GIx a0 w.drew (l.take n1) 0) (hfin : ∀ w', Gr w.drew w' → finP (fun k => tl.getD k XT) w' (fun a' => wpAny P .any l.toArray (NoPan Q) (l.length - n1) (listedTo n1 0 (Array.replicate l.toArray.size false)) a' w') (l.take n1) 0 a0) :
    ∀ (xs : List (Nat × Nat × Nat)) (fuel m : Nat) (listed : Array Bool) (a : Act), lonesB l xs listed = true → (∀ x d s, (x, d, s) ∈ xs → x < n1 ∧ (tl.getD x XT) (a0.eval (.tmp s)) w.drew) →
      cntF (fun i => listed.getD i true) l.length = fuel → listed.size = l.length → fuel + m = l.length → (∀ i, n1 ≤ i → i < l.length → listed.getD i false = false) → (∀ j, X j = true → listed.getD j false = true ∨ ∃ d s, (j, d, s) ∈ xs) → DC l listed → RJ l (fun k => tl.getD k XT) Gr GIx a0 w.drew m listed a w.drew →
      wpAny P .any l.toArray (NoPan Q) fuel listed a w.drew
  | [], fuel, m, listed, a, _, _, hc, hls, hm, hlow, hX, hdc, hJ =>
    wpAny_rgpX (w := w) (a0 := a0) (fun k => tl.getD k XT) Gr GIx n1 hB X hC Gr.refl (fun _ _ _ h k => h.trans k) (stay_list hTs) trivial hops (fun w' h _ => hfin w' h) fuel m listed a w.drew hc hls hm hlow (fun j hj => by rcases hX j hj with h | ⟨d, s, h⟩; exact h; simp at h) hdc hJ
  | (x, d, s) :: r, fuel, m, listed, a, hl, hT, hc, hls, hm, hlow, hX, hdc, hJ => by
    simp only [lonesB, Bool.and_eq_true] at hl
    obtain ⟨hl, hlr⟩ := hl
    cases ho : l[x]? with
    | none => rw [ho] at hl; cases hl
    | some o =>
      rw [ho] at hl
      simp only [Bool.and_eq_true, List.all_eq_true, Bool.not_eq_true', Option.isNone_iff_eq_none] at hl
      obtain ⟨⟨⟨⟨⟨⟨hg, h2⟩, haf⟩, hfr⟩, hr⟩, hds⟩, hxl⟩ := hl
      obtain ⟨hop, hd⟩ : o.op = .move (.tmp s) ∧ o.dst = some d := by
        revert h2
        cases hop : o.op <;> cases hd : o.dst <;> simp
        try
          rename_i y z
          cases y <;> simp
          try
            intro a b
            simp [a, b]
      have hlt : x < l.length := (List.getElem?_eq_some_iff.1 ho).1
      have hB2 := hB
      simp only [rgC, Bool.and_eq_true] at hB2
      obtain ⟨hxn, hTx⟩ := hT x d s List.mem_cons_self
      have hev : a.eval (.tmp s) = a0.eval (.tmp s) := by
        have := hJ.2.2.2.2.1 s (fun j o' ho' _ => dstIdx_none hds o' (List.mem_of_getElem? ho'))
        exact tv_of this
      have hset := cntF_set (f := fun i => listed.getD i true) (g := fun j => (listed.setIfInBounds x true).getD j true) (i := x) hxl (by
        show (listed.setIfInBounds x true).getD x true = true
        rw [Array.getD_eq_getD_getElem?, Array.getElem?_setIfInBounds_self_of_lt (by omega)]; rfl) (fun j hj => getD_set_ne true (Ne.symm hj)) hlt
      have ho' : l.toArray[x]? = some o := by simpa using ho
      have hpos : fuel = (fuel - 1) + 1 := by omega
      rw [hpos]
      refine wpAny_first (i := x) (oi := o) (v := a.eval (.tmp s)) ho' (Region.noSelect_spec hB2.1) (fun c a w h => (h : False).elim) (fuel - 1) _ a w.drew (Region.free_spec ho' hfr) (by simpa using hr) (.inl ⟨?_, ?_⟩) ?_
      · simp [Region.wanted, hg]
      · intro w'
        obtain ⟨dst, op, type, pos, after, guard⟩ := o
        simp only at hop
        subst hop
        rfl
      refine wpAny_lones n1 X tl hB hC hTs hops hfin r (fuel - 1) (m + 1) _ _ hlr (fun x' d' s' h => hT x' d' s' (List.mem_cons_of_mem _ h)) (by omega) (by simpa using hls) (by omega) (fun i hi hil => ?_) (fun j hj => ?_) ?_ ?_
      · rw [getD_set_ne false (by omega)]; exact hlow i hi hil
      · by_cases e : j = x
        · subst e
          left
          rw [Array.getD_eq_getD_getElem?, Array.getElem?_setIfInBounds_self_of_lt (by omega)]; rfl
        · rcases hX j hj with h | ⟨d', s', h⟩
          · exact .inl (getD_set_true h)
          · rcases List.mem_cons.1 h with h | h
            · cases h; exact absurd rfl e
            · exact .inr ⟨d', s', h⟩
      · exact hdc.set ho (fun e he hb => by rw [haf e (by simpa using he)] at hb; cases hb)
      · exact rj_step (fun _ _ _ h k => h.trans k) (stay_list hTs) hB hls ho (by rw [hev]; exact hTx) (Gr.refl _) trivial hJ
theorem wp_region_rxl {id : Nat} {l : List Oper} {Q : Exit → Act → World → Prop} {a0 : Act} {w : World} (n1 m : Nat) (xs : List (Nat × Nat × Nat)) (listed : Array Bool) (hf : P.follows .mixedOrders = true) (hm : l.length - n1 = m) (hls : listedTo n1 0 (Array.replicate l.toArray.size false) = listed) (tl : List (Value → World → Prop)) (hB : rgC l a0.tmps.size = true) (hC : cloX l n1 (fun j => xs.any fun p => p.1 == j) = true) (hl : lonesB l xs (Array.replicate l.length false) = true) (hTs : ∀ T ∈ tl, Stay T) (hT : ∀ x d s, (x, d, s) ∈ xs → x < n1 ∧ (tl.getD x XT) (a0.eval (.tmp s)) w.drew)
    (hops : opsOK P l (fun k => tl.getD k XT) Gr GIx a0 w.drew (l.take n1) 0) (hfin : ∀ w', Gr w.drew w' → finP (fun k => tl.getD k XT) w' (fun a' => wpAny P .any l.toArray (NoPan Q) m listed a' w') (l.take n1) 0 a0) : (Code.region id l.toArray true).wp P Q a0 w := by
  subst hm hls
  refine Code.wp_mono NoPan.imp (wp_region_any hf ?_)
  have hsz' : l.toArray.size = l.length := by simp
  rw [show Array.replicate l.toArray.size false = Array.replicate l.length false from by rw [hsz'], hsz']
  have hrep : ∀ j, (Array.replicate l.length false).getD j false = false := fun j => by
    rw [Array.getD_eq_getD_getElem?, Array.getElem?_replicate]; split <;> rfl
  refine wpAny_lones n1 _ tl hB hC hTs hops hfin xs l.length 0 _ a0 hl hT ?_ (by simp) (by omega) (fun i _ _ => hrep i) (fun j hj => ?_) (fun i o hi hl' => by rw [hrep] at hl'; cases hl') ⟨Gr.refl _, trivial, rfl, rfl, fun t _ => rfl, fun j p hp hl' => by rw [hrep] at hl'; cases hl'⟩
  · have : ∀ n, n ≤ l.length → cntF (fun i => (Array.replicate l.length false).getD i true) n = n := by
      intro n
      induction n with
      | zero => intro _; rfl
      | succ n ihn =>
        intro hn
        simp only [cntF]
        rw [ihn (by omega)]
        have : (Array.replicate l.length false).getD n true = false := by
          rw [Array.getD_eq_getD_getElem?, Array.getElem?_replicate, if_pos (by omega)]; rfl
        rw [if_neg (by rw [this]; decide)]
    exact this l.length (Nat.le_refl _)
  · obtain ⟨p, hp, he⟩ := List.any_eq_true.1 hj
    obtain ⟨x, d, s⟩ := p
    obtain rfl : x = j := by simpa using he
    exact .inr ⟨d, s, hp⟩
end
end Go.Proofs.YtjdjahckdgbkbaeDoor
end
section
namespace Go.Proofs.YtjdjahckdgbkbaeDoor
open Go.RowKit
set_option linter.unusedVariables false
set_option maxHeartbeats 1000000
attribute [local go_sem 5000] run_mx run_mn
attribute [local go_sem] growUpon_value growUpon_skip growUpon_enter
attribute [local go_sem] givesUpon_value givesUpon_skip givesUpon_enter
theorem addP0 (b off n : Nat) : (⟨b, off, none⟩ : Addr).add n = ⟨b, off + n, none⟩ := by
  unfold Addr.add
  split
  · rename_i h; subst h; rfl
  · rfl
theorem eqlNil (a : Addr) (l c : Nat) (w : World) : (binOp .eql 33 (.slice (some a) l c) (.slice none 0 0)).run Tryd.prog w = .ok (.bool false) w := by
  simp only [binOp]
  simp [run_equal_slice_nil (P := Tryd.prog) w 33 3 (some a) l c Tryd.underlying33]
/-- a slice of numbers in a block of its own, with room behind -/
def OS0 : Nat := 0
theorem OB.sameh {w w' : World} {g cap : Nat} {L : List Int} (h : OB w g cap L) (e : w'.heap[g]? = w.heap[g]?) : OB w' g cap L := by
  obtain ⟨hl, cs, hh, hs, hc⟩ := h
  exact ⟨hl, cs, e.trans hh, hs, hc⟩
theorem gsetP {w w' : World} {g : Nat} (h : w.grownBy w' (some g)) (o : Nat) (v : Value) : w.grownBy (w'.setCell ⟨g, o, none⟩ v) (some g) :=
  ⟨h.os, h.tape, h.output, by simpa [World.setCell] using h.size, fun k hk hne => (Below.heap_setCell w' ⟨g, o, none⟩ v k (by rintro rfl; exact hne rfl)).trans (h.block k hk hne)⟩
theorem gofP {w w' : World} (g : Nat) (h : Below w.heap.size w w') : w.grownBy w' (some g) := ⟨h.os, h.tape, h.output, h.size, fun k hk _ => h.block k hk⟩
/-- two lists in blocks of their own, one behind the other -/
def DT (w w' : World) (v1 v2 : Value) (S M : List Int) : Prop := ∃ g1 q1 g2 q2, v1 = .slice (some ⟨g1, 0, none⟩) S.length q1 ∧ v2 = .slice (some ⟨g2, 0, none⟩) M.length q2 ∧ w.heap.size ≤ g1 ∧ g1 < g2 ∧ OB w' g1 q1 S ∧ OB w' g2 q2 M
def OS (lo : Nat) (w : World) (v : Value) (L : List Int) : Prop := ∃ g cap, v = .slice (some ⟨g, 0, none⟩) L.length cap ∧ lo ≤ g ∧ OB w g cap L
theorem OS.keep {lo : Nat} {w w' : World} {v : Value} {L : List Int} (h : OS lo w v L) (hb : Below w.heap.size w w') : OS lo w' v L := let ⟨g, c, e, hg, o⟩ := h; ⟨g, c, e, hg, o.keep hb⟩
set_option maxRecDepth 100000 in
theorem clone_v (A : Option Addr) (c n : Nat) (L : List Int) (w : World) (h : NV w A L) (hn : n = L.length) (h1 : 1 ≤ L.length) (hL : L.length ≤ 1048576) :
    Calls Tryd.prog 55 #[.slice A n c] w fun e w' => (∃ v, e = .returned v ∧ OS w.heap.size w' v L) ∧ Below w.heap.size w w' := by
  subst hn
  have hen := eqlNil
  obtain ⟨ti, tz, ti1, ti2, ti3, ti4, ti5⟩ := int_infoW
  obtain ⟨b, off, rfl, hb, hp⟩ := h.cells (by omega)
  have hB0 : Below w.heap.size w (w.alloc (.cells #[] 3 (0, 0))) := balloc (Below.refl _ _)
  have hsrc : ∀ j v, (nvalsW L)[j]? = some v → (w.alloc (.cells #[] 3 (0, 0))).cell? ((⟨b, off, none⟩ : Addr).add j) = some v := fun j v hj => by
    unfold nvalsW at hj
    rw [List.getElem?_map] at hj
    cases ho : L[j]? with
    | none => rw [ho] at hj; cases hj
    | some x =>
      rw [ho] at hj
      obtain rfl := Option.some.inj hj
      rw [addP0]
      exact (hB0.cell (p := ⟨b, off + j, none⟩) hb).trans (hp j x ho)
  have ho0 : (w.alloc (.cells #[] 3 (0, 0))).ownsRow w.heap.size 3 1 (.slice (some ⟨w.heap.size, 0, none⟩) 0 0) 0 (nvalsW []) := World.ownsRow_lit (base := w.heap.size) (e := 3) (size := 1) w #[] 0 (Nat.le_refl _) (by decide) rfl
  have hob := ho0.lt
  have HO := Lib.hid ho0
  have HSRC := Lib.hid hsrc
  have HB0 := Lib.hid hB0
  have h1c : ∀ v ∈ nvalsW L, v.oneCell' = true := by simp [nvalsW, Value.oneCell']
  have hnl : (nvalsW L).length = L.length := by simp [nvalsW]
  have HNV := Lib.hid hnl
  clear hsrc hB0 hp ho0 hnl h
  go_enter Tryd.func55, Tryd.ntmps55
  go_wp2_with (at_builtin; refine wpList_append_own _ rfl _ _ 33 rfl w.heap.size 3 ti tz 1 8 Tryd.underlying33 ti1 ti2 ti3 ti4 ti5 (by decide) _ _ _ rfl HO.out ⟨b, off, none⟩ L.length c (nvalsW L) rfl (by rw [HNV.out, Nat.mul_one]) HSRC.out h1c (by simp only [maxLen]; omega) (by omega) (by simp) ?_)
  intro v5 w5 how5 hgr5 _
  have hnv0 : nvalsW [] ++ nvalsW L = nvalsW L := by simp [nvalsW]
  simp only [hnv0, Nat.zero_add] at how5
  have HB5 := Lib.hid (below_own (o := .cells #[] 3 (0, 0)) (W := w) (a := w) (n := w.heap.size) (Below.refl _ _) hgr5 hob (Nat.le_refl _) (Nat.le_refl _))
  rcases own_inW how5 rfl with ⟨rfl, hM⟩ | ⟨g, cap, rfl, hbg, hO⟩
  · have : L.length = 0 := by rw [hM]; rfl
    omega
  have HO5 := Lib.hid hO
  clear how5 hgr5 hnv0 HO HSRC HB0 hob hO h1c
  go_wp2
  go_ret
  exact ⟨⟨_, rfl, g, cap, rfl, hbg, HO5.out⟩, HB5.out⟩
set_option maxRecDepth 100000 in
theorem copy_v (A : Option Addr) (c n : Nat) (L : List Int) (w : World) (h : NV w A L) (hn : n = L.length) (h1 : 1 ≤ L.length) (hL : L.length ≤ 1048576) :
    Calls Tryd.prog 41 #[.slice A n c] w fun e w' => (∃ v, e = .returned v ∧ OS w.heap.size w' v L) ∧ Below w.heap.size w w' := by
  subst hn
  have hen := eqlNil
  obtain ⟨ti, tz, ti1, ti2, ti3, ti4, ti5⟩ := int_infoW
  obtain ⟨b, off, rfl, hb, hp⟩ := h.cells (by omega)
  have hB0 : Below w.heap.size w (w.alloc (.cells #[] 3 (0, 0))) := balloc (Below.refl _ _)
  have hsrc : ∀ j v, (nvalsW L)[j]? = some v → (w.alloc (.cells #[] 3 (0, 0))).cell? ((⟨b, off, none⟩ : Addr).add j) = some v := fun j v hj => by
    unfold nvalsW at hj
    rw [List.getElem?_map] at hj
    cases ho : L[j]? with
    | none => rw [ho] at hj; cases hj
    | some x =>
      rw [ho] at hj
      obtain rfl := Option.some.inj hj
      rw [addP0]
      exact (hB0.cell (p := ⟨b, off + j, none⟩) hb).trans (hp j x ho)
  have ho0 : (w.alloc (.cells #[] 3 (0, 0))).ownsRow w.heap.size 3 1 (.slice (some ⟨w.heap.size, 0, none⟩) 0 0) 0 (nvalsW []) := World.ownsRow_lit (base := w.heap.size) (e := 3) (size := 1) w #[] 0 (Nat.le_refl _) (by decide) rfl
  have hob := ho0.lt
  have HO := Lib.hid ho0
  have HSRC := Lib.hid hsrc
  have HB0 := Lib.hid hB0
  have h1c : ∀ v ∈ nvalsW L, v.oneCell' = true := by simp [nvalsW, Value.oneCell']
  have hnl : (nvalsW L).length = L.length := by simp [nvalsW]
  have HNV := Lib.hid hnl
  clear hsrc hB0 hp ho0 hnl h
  go_enter Tryd.func41, Tryd.ntmps41
  go_wp2_with (at_builtin; refine wpList_append_own _ rfl _ _ 33 rfl w.heap.size 3 ti tz 1 8 Tryd.underlying33 ti1 ti2 ti3 ti4 ti5 (by decide) _ _ _ rfl HO.out ⟨b, off, none⟩ L.length c (nvalsW L) rfl (by rw [HNV.out, Nat.mul_one]) HSRC.out h1c (by simp only [maxLen]; omega) (by omega) (by simp) ?_)
  intro v5 w5 how5 hgr5 _
  have hnv0 : nvalsW [] ++ nvalsW L = nvalsW L := by simp [nvalsW]
  simp only [hnv0, Nat.zero_add] at how5
  have HB5 := Lib.hid (below_own (o := .cells #[] 3 (0, 0)) (W := w) (a := w) (n := w.heap.size) (Below.refl _ _) hgr5 hob (Nat.le_refl _) (Nat.le_refl _))
  rcases own_inW how5 rfl with ⟨rfl, hM⟩ | ⟨g, cap, rfl, hbg, hO⟩
  · have : L.length = 0 := by rw [hM]; rfl
    omega
  have HO5 := Lib.hid hO
  clear how5 hgr5 hnv0 HO HSRC HB0 hob hO h1c
  go_wp2
  go_ret
  exact ⟨⟨_, rfl, g, cap, rfl, hbg, HO5.out⟩, HB5.out⟩
set_option maxRecDepth 100000 in
theorem detach_v (p : Nat) (A A' : Option Addr) (c c' : Nat) (S M : List Int) (w : World) (hp : w.heap[p]? = some (.cells #[.slice A S.length c, .slice A' M.length c'] 35 (0, 0))) (h : NV w A S) (h' : NV w A' M) (hs1 : 1 ≤ S.length) (hs2 : 1 ≤ M.length) (hs3 : S.length ≤ 1048576) (hs4 : M.length ≤ 1048576) :
    Calls Tryd.prog 36 #[.pointer (some ⟨p, 0, none⟩)] w fun e w' => (∃ v, e = .returned v) ∧ ∃ v1 v2, w'.heap[p]? = some (.cells #[v1, v2] 35 (0, 0)) ∧ DT w w' v1 v2 S M ∧ w.grownBy w' (some p) := by
  have k0 : w.cell? ⟨p, 0, none⟩ = some (.slice A S.length c) := (cellS hp 0).trans rfl
  have k1 : w.cell? ⟨p, 1, none⟩ = some (.slice A' M.length c') := (cellS hp 1).trans rfl
  have hlp := ltS hp
  have HP := Lib.hid hp
  have HN := Lib.hid h
  have HN' := Lib.hid h'
  clear hp h h'
  go_enter Tryd.func36, Tryd.ntmps36
  refine wp_region_rxl 11 7 [(0, 2, 0), (1, 3, 0)] #[true, true, true, true, true, true, true, true, true, true, true, false, false, false, false, false, false, false] (by kernel_rfl) (by kernel_rfl) (by kernel_rfl) (XV (.pointer (some ⟨p, 0, none⟩)) :: XV (.pointer (some ⟨p, 0, none⟩)) :: XV (.pointer (some ⟨p, 0, none⟩)) :: XV (.pointer (some ⟨p, 0, none⟩)) :: XV (.pointer (some ⟨p, 0, none⟩)) :: XV (.slice A S.length c) :: (fun v a => OS w.heap.size a v S) :: XV (.pointer (some ⟨p, 0, none⟩)) :: XV (.pointer (some ⟨p, 0, none⟩)) :: XV (.pointer (some ⟨p, 1, none⟩)) :: XV (.slice A' M.length c') :: []) (by kernel_rfl) (by kernel_rfl) (by kernel_rfl) ?hTs ?hXs ?hops ?hfin
  case hTs =>
    intro T hT
    simp only [List.mem_cons, List.not_mem_nil, or_false] at hT
    rcases hT with rfl | rfl | rfl | rfl | rfl | rfl | rfl | rfl | rfl | rfl | rfl <;> first | exact stay_V _ | exact stay_T | exact stay_of (fun v a b x g => x.keep g) | exact stay_of (fun v a b x g => x)
  case hXs =>
    intro x d s hx
    simp only [List.mem_cons, List.not_mem_nil, or_false, Prod.mk.injEq] at hx
    rcases hx with ⟨rfl, rfl, rfl⟩ | ⟨rfl, rfl, rfl⟩ <;> exact ⟨by omega, rfl⟩
  case hops =>
    refine ⟨opOK_rx [(0, none)] (by kernel_rfl) rfl ?_, ?_⟩
    · intro act w' hw' h1
      have hk : ∀ v, act.eval (.const v) = v := fun _ => rfl
      have hf : ∀ f, act.eval (.func f) = .func (.func f) #[] #[] := fun _ => rfl
      generalize act.eval = ρ at *
      replace h1 : ρ (.tmp 0) = .pointer (some ⟨p, 0, none⟩) := h1
      refine gx_gen (fun K hK => ?_)
      obtain ⟨hc, hf'⟩ := bcell (bdrewn hw'.out)
      go_simp
      exact hK _ _ ⟨rfl, Gr.refl _⟩
    refine ⟨opOK_rx [(0, none)] (by kernel_rfl) rfl ?_, ?_⟩
    · intro act w' hw' h1
      have hk : ∀ v, act.eval (.const v) = v := fun _ => rfl
      have hf : ∀ f, act.eval (.func f) = .func (.func f) #[] #[] := fun _ => rfl
      generalize act.eval = ρ at *
      replace h1 : ρ (.tmp 0) = .pointer (some ⟨p, 0, none⟩) := h1
      refine gx_gen (fun K hK => ?_)
      obtain ⟨hc, hf'⟩ := bcell (bdrewn hw'.out)
      go_simp
      exact hK _ _ ⟨rfl, Gr.refl _⟩
    refine ⟨opOK_rx [(0, none)] (by kernel_rfl) rfl ?_, ?_⟩
    · intro act w' hw' h1
      have hk : ∀ v, act.eval (.const v) = v := fun _ => rfl
      have hf : ∀ f, act.eval (.func f) = .func (.func f) #[] #[] := fun _ => rfl
      generalize act.eval = ρ at *
      replace h1 : ρ (.tmp 0) = .pointer (some ⟨p, 0, none⟩) := h1
      refine gx_gen (fun K hK => ?_)
      obtain ⟨hc, hf'⟩ := bcell (bdrewn hw'.out)
      go_simp
      exact hK _ _ ⟨rfl, Gr.refl _⟩
    refine ⟨opOK_rx [(4, some 2)] (by kernel_rfl) rfl ?_, ?_⟩
    · intro act w' hw' h1
      have hk : ∀ v, act.eval (.const v) = v := fun _ => rfl
      have hf : ∀ f, act.eval (.func f) = .func (.func f) #[] #[] := fun _ => rfl
      generalize act.eval = ρ at *
      replace h1 : ρ (.tmp 4) = .pointer (some ⟨p, 0, none⟩) := h1
      refine gx_gen (fun K hK => ?_)
      obtain ⟨hc, hf'⟩ := bcell (bdrewn hw'.out)
      go_simp
      exact hK _ _ ⟨rfl, Gr.refl _⟩
    refine ⟨opOK_rx [(5, some 3)] (by kernel_rfl) rfl ?_, ?_⟩
    · intro act w' hw' h1
      have hk : ∀ v, act.eval (.const v) = v := fun _ => rfl
      have hf : ∀ f, act.eval (.func f) = .func (.func f) #[] #[] := fun _ => rfl
      generalize act.eval = ρ at *
      replace h1 : ρ (.tmp 5) = .pointer (some ⟨p, 0, none⟩) := h1
      refine gx_gen (fun K hK => ?_)
      obtain ⟨hc, hf'⟩ := bcell (bdrewn hw'.out)
      go_simp
      exact hK _ _ ⟨rfl, Gr.refl _⟩
    refine ⟨opOK_rx [(6, some 4)] (by kernel_rfl) rfl ?_, ?_⟩
    · intro act w' hw' h1
      have hk : ∀ v, act.eval (.const v) = v := fun _ => rfl
      have hf : ∀ f, act.eval (.func f) = .func (.func f) #[] #[] := fun _ => rfl
      generalize act.eval = ρ at *
      replace h1 : ρ (.tmp 6) = .pointer (some ⟨p, 0, none⟩) := h1
      refine gx_gen (fun K hK => ?_)
      obtain ⟨hc, hf'⟩ := bcell (bdrewn hw'.out)
      go_simp
      exact hK _ _ ⟨rfl, Gr.refl _⟩
    refine ⟨opOK_rx [(7, some 5)] (by kernel_rfl) rfl ?_, ?_⟩
    · intro act w' hw' h1
      have hk : ∀ v, act.eval (.const v) = v := fun _ => rfl
      have hf : ∀ f, act.eval (.func f) = .func (.func f) #[] #[] := fun _ => rfl
      generalize act.eval = ρ at *
      replace h1 : ρ (.tmp 7) = .slice A S.length c := h1
      refine gx_gen (fun K hK => ?_)
      obtain ⟨hc, hf'⟩ := bcell (bdrewn hw'.out)
      go_simp
      (refine (clone_v _ _ _ S _ (HN.out.keep (bdrewn hw'.out)) rfl hs1 hs3).mono ?_); rintro e w2 ⟨⟨v, rfl, g, cap, rfl, hg, ho⟩, hb⟩; exact ⟨_, rfl, hK _ _ ⟨⟨g, cap, rfl, Nat.le_trans (bdrewn hw'.out).size hg, ho⟩, Gr.of hb⟩⟩
    refine ⟨opOK_rx [(0, none)] (by kernel_rfl) rfl ?_, ?_⟩
    · intro act w' hw' h1
      have hk : ∀ v, act.eval (.const v) = v := fun _ => rfl
      have hf : ∀ f, act.eval (.func f) = .func (.func f) #[] #[] := fun _ => rfl
      generalize act.eval = ρ at *
      replace h1 : ρ (.tmp 0) = .pointer (some ⟨p, 0, none⟩) := h1
      refine gx_gen (fun K hK => ?_)
      obtain ⟨hc, hf'⟩ := bcell (bdrewn hw'.out)
      go_simp
      exact hK _ _ ⟨rfl, Gr.refl _⟩
    refine ⟨opOK_rx [(9, some 7)] (by kernel_rfl) rfl ?_, ?_⟩
    · intro act w' hw' h1
      have hk : ∀ v, act.eval (.const v) = v := fun _ => rfl
      have hf : ∀ f, act.eval (.func f) = .func (.func f) #[] #[] := fun _ => rfl
      generalize act.eval = ρ at *
      replace h1 : ρ (.tmp 9) = .pointer (some ⟨p, 0, none⟩) := h1
      refine gx_gen (fun K hK => ?_)
      obtain ⟨hc, hf'⟩ := bcell (bdrewn hw'.out)
      go_simp
      exact hK _ _ ⟨rfl, Gr.refl _⟩
    refine ⟨opOK_rx [(10, some 8)] (by kernel_rfl) rfl ?_, ?_⟩
    · intro act w' hw' h1
      have hk : ∀ v, act.eval (.const v) = v := fun _ => rfl
      have hf : ∀ f, act.eval (.func f) = .func (.func f) #[] #[] := fun _ => rfl
      generalize act.eval = ρ at *
      replace h1 : ρ (.tmp 10) = .pointer (some ⟨p, 0, none⟩) := h1
      refine gx_gen (fun K hK => ?_)
      obtain ⟨hc, hf'⟩ := bcell (bdrewn hw'.out)
      go_simp
      exact hK _ _ ⟨rfl, Gr.refl _⟩
    refine ⟨opOK_rx [(11, some 9)] (by kernel_rfl) rfl ?_, ?_⟩
    · intro act w' hw' h1
      have hk : ∀ v, act.eval (.const v) = v := fun _ => rfl
      have hf : ∀ f, act.eval (.func f) = .func (.func f) #[] #[] := fun _ => rfl
      generalize act.eval = ρ at *
      replace h1 : ρ (.tmp 11) = .pointer (some ⟨p, 1, none⟩) := h1
      refine gx_gen (fun K hK => ?_)
      obtain ⟨hc, hf'⟩ := bcell (bdrewn hw'.out)
      go_simp
      exact hK _ _ ⟨rfl, Gr.refl _⟩
    exact trivial
  case hfin =>
    intro w9 hg9
    intro v2 t2
    replace t2 : v2 = .pointer (some ⟨p, 0, none⟩) := t2
    subst t2
    intro v3 t3
    replace t3 : v3 = .pointer (some ⟨p, 0, none⟩) := t3
    subst t3
    intro v4 t4
    replace t4 : v4 = .pointer (some ⟨p, 0, none⟩) := t4
    subst t4
    intro v5 t5
    replace t5 : v5 = .pointer (some ⟨p, 0, none⟩) := t5
    subst t5
    intro v6 t6
    replace t6 : v6 = .pointer (some ⟨p, 0, none⟩) := t6
    subst t6
    intro v7 t7
    replace t7 : v7 = .slice A S.length c := t7
    subst t7
    intro v8 t8
    replace t8 : (fun v a => OS w.heap.size a v S) v8 w9 := t8
    intro v9 t9
    replace t9 : v9 = .pointer (some ⟨p, 0, none⟩) := t9
    subst t9
    intro v10 t10
    replace t10 : v10 = .pointer (some ⟨p, 0, none⟩) := t10
    subst t10
    intro v11 t11
    replace t11 : v11 = .pointer (some ⟨p, 1, none⟩) := t11
    subst t11
    intro v12 t12
    replace t12 : v12 = .slice A' M.length c' := t12
    subst t12
    have hb9 := bdrewn hg9.out
    clear hg9
    simp only [finP, List.take_succ_cons, List.take_zero, Act.put, List.setIfInBounds_toArray, List.set_cons_succ, List.set_cons_zero]
    obtain ⟨hc9, hf9⟩ := bcell hb9
    have f0 := frozenS HP.out 0
    have f1 := frozenS HP.out 1
    obtain ⟨g1, q1, rfl, hg1, o1⟩ := t8
    have HP9 := Lib.hid ((hb9.block p hlp).trans HP.out)
    have HB9 := Lib.hid hb9
    have O1 := Lib.hid o1
    have lo1 := o1.lt
    clear o1
    refine wpAny_one (i := 11) (by kernel_rfl) rfl rfl ?_
    go_simp
    with_reducible refine (clone_v _ _ _ M _ (HN'.out.keep hb9) rfl hs2 hs4).mono ?_
    rintro e w8 ⟨⟨v, rfl, g2, q2, rfl, hg2, o2⟩, hb⟩
    dsimp only
    replace HP9 := Lib.hid ((hb.block p (ltS HP9.out)).trans HP9.out)
    have hlw9 : w.heap.size ≤ w9.heap.size := hb9.size
    replace O1 := Lib.hid (O1.out.keep hb)
    replace HB9 := Lib.hid (HB9.out.trans (hb.mono hlw9))
    have O2 := Lib.hid o2
    have k8 := cellS HP9.out 0
    have k9 := cellS HP9.out 1
    have f8 := frozenS HP9.out 0
    have f9 := frozenS HP9.out 1
    simp at k8 k9
    clear hb9 hb o2 hc9 hf9 f0 f1 k0 k1
    refine wpAny_one (i := 12) (by kernel_rfl) rfl rfl ?_
    go_simp
    refine wpAny_one (i := 13) (by kernel_rfl) rfl rfl ?_
    go_simp
    refine wpAny_one (i := 14) (by kernel_rfl) rfl rfl ?_
    go_simp
    refine wpAny_one (i := 15) (by kernel_rfl) rfl rfl ?_
    go_simp
    refine wpAny_one (i := 16) (by kernel_rfl) rfl rfl ?_
    go_simp
    refine wpAny_one (i := 17) (by kernel_rfl) rfl rfl ?_
    go_simp
    refine wpAny_end (by kernel_rfl) ?_
    refine nopan_normal ?_
    clear k8 k9 f8 f9
    go_wp2
    go_end0
    have hne1 : g1 ≠ p := by omega
    have hne2 : g2 ≠ p := by omega
    refine ⟨⟨_, rfl⟩, _, _, (putS (putS HP9.out _) _).trans rfl, ⟨g1, q1, g2, q2, rfl, rfl, hg1, by omega, O1.out.sameh ?_, O2.out.sameh ?_⟩, gsetP (gsetP (gofP p HB9.out) _ _) _ _⟩
    all_goals rw [Below.heap_setCell _ _ _ _ (by assumption), Below.heap_setCell _ _ _ _ (by assumption)]
end Go.Proofs.YtjdjahckdgbkbaeDoor
end
