import Derived.Test.YtpbfbcdidkbjiabQ05
section
namespace Go.Proofs.Ytpbfbcdidkbjiab
open Go.RowKit
set_option linter.unusedVariables false
set_option maxHeartbeats 1000000
attribute [local go_sem 5000] run_mx run_mn
attribute [local go_sem] growUpon_value growUpon_skip growUpon_enter
theorem wp_P {P : Program} {c : Code} {Q : Exit → Act → World → Prop} {a : Act} {W : World} (F : World → Prop) (hF : F W) (h : ∀ W0, F W0 → c.wp P Q a W0) : c.wp P Q a W := h W hF
set_option maxRecDepth 100000 in
theorem svalidPanes_v (A A' : Option Addr) (n m c c' : Nat) (S M : List Int) (t : Bool) (w : World) (h : NV w A S) (h' : NV w A' M) (hn : n = S.length) (hm : m = M.length) (hL : S.length ≤ 1048576) (hL' : M.length ≤ 1048576) (ht : t = true ↔ pnP S M) :
    Calls Try.prog 25 #[.agg #[.slice A n c, .slice A' m c']] w fun e w' => e = .returned (.bool t) ∧ Below w.heap.size w w' := by
  subst hn hm
  have HT := Lib.hid ht
  have hb0 : Below w.heap.size w (w.alloc (.cells #[.slice A S.length c, .slice A' M.length c'] 27)) := balloc (Below.refl _ _)
  have HN0 := Lib.hid (h.keep hb0)
  have HN0' := Lib.hid (h'.keep hb0)
  clear ht h h'
  go_enter Try.func25, Try.ntmps25
  go_upto_region 1 with (fail)
  refine wp_P (fun W => W.heap[w.heap.size]? = some (.cells #[.slice A S.length c, .slice A' M.length c'] 27 (0, 0)) ∧ NV W A S ∧ NV W A' M ∧ Below w.heap.size w W) ⟨newS w _, HN0.out, HN0'.out, hb0⟩ ?_
  clear HN0 HN0' hb0
  rintro w1 ⟨hx, hn, hn', hb⟩
  have k0 : w1.cell? ⟨w.heap.size, 0, none⟩ = some (.slice A S.length c) := (cellS hx 0).trans rfl
  have k1 : w1.cell? ⟨w.heap.size, 1, none⟩ = some (.slice A' M.length c') := (cellS hx 1).trans rfl
  have HX := Lib.hid hx
  have HN := Lib.hid hn
  have HN' := Lib.hid hn'
  have HB := Lib.hid hb
  clear hx hn hn' hb
  go_wp2_with fail
  go_loop [3] (fun i => ∃ k : Nat, k ≤ S.length ∧ i = .int .i64 k ∧ upS S k) (fun i => S.length - (intOf i).toNat)
  case atStart => exact ⟨0, by omega, rfl, upS.zero S⟩
  case round =>
    obtain ⟨k, hk, rfl, hup⟩ := hrel
    have HU := Lib.hid hup
    clear hup
    by_cases hlt : k < S.length
    · have hd : decide ((k : Int) < (S.length : Int)) = true := by simpa using hlt
      obtain ⟨b, off, rfl, hb, hp⟩ := HN.out.cells (by omega)
      have hget : S[k]? = some S[k] := List.getElem?_eq_getElem hlt
      have c0 := hp k _ hget
      generalize S[k] = s at *
      have HG := Lib.hid hget
      clear hget hp
      cases hv : rng s 0 400
      · have hno := rng_not.1 hv
        have hb := no_s HT.out HG.out hno
        subst hb
        clear hno
        go_wp2_with fail
        with_reducible refine (inRange_P _ _ _ false _ hv).mono ?_
        rintro e w2 ⟨rfl, rfl⟩
        go_wp2
        go_ret
        exact ⟨rfl, HB.out⟩
      have HV := Lib.hid (rng_iff.1 hv)
      go_wp2_with fail
      with_reducible refine (inRange_P _ _ _ true _ hv).mono ?_
      rintro e w2 ⟨rfl, rfl⟩
      go_wp2
      go_round
      case rel => exact ⟨k + 1, by omega, by go_num, HU.out.succ HG.out HV.out⟩
      case measure => simp [intOf]; omega
    · have hd : decide ((k : Int) < (S.length : Int)) = false := by simp; omega
      obtain rfl : k = S.length := by omega
      have HU1 := Lib.hid HU.out
      clear HU hlt hk
      go_wp2_with fail
      go_loopw [4] (fun i wr => ∃ k : Nat, k ≤ M.length ∧ i = .int .i64 k ∧ upM S M k ∧ Below w1.heap.size w1 wr) (fun i _ => M.length - (intOf i).toNat)
      case atStart => exact ⟨0, by omega, rfl, upM.zero S M, Below.refl _ _⟩
      case round =>
        obtain ⟨k, hk, rfl, hup, hbr⟩ := hrel
        have HU := Lib.hid hup
        have HBR := Lib.hid hbr
        have j0 := (hbr.cell (p := ⟨w.heap.size, 0, none⟩) (ltS HX.out)).trans k0
        have j1 := (hbr.cell (p := ⟨w.heap.size, 1, none⟩) (ltS HX.out)).trans k1
        clear hup hbr
        by_cases hlt : k < M.length
        · have hd : decide ((k : Int) < (M.length : Int)) = true := by simpa using hlt
          have hget' : M[k]? = some M[k] := List.getElem?_eq_getElem hlt
          obtain ⟨b', off', hA', hb', hp'⟩ := (HN'.out.keep HBR.out).cells (by omega)
          have d0 := hp' k _ hget'
          generalize M[k] = m at *
          have HG' := Lib.hid hget'
          clear hget' hp'
          subst hA'
          cases hv : rng m 0 30
          · have hno := rng_not.1 hv
            have hb := no_m HT.out HG'.out hno
            subst hb
            clear hno
            go_wp2_with fail
            refine wp_region_grow 27 0 (· < 27) (by kernel_rfl) (by kernel_rfl) rfl ?_
            iterate 27 (refine wpG_step (fun K hK => ?_); first | (refine grow_skip rfl ?_; go_simp; refine hK _ ?_; clear hK K) | (apply Exists.intro; refine ⟨.inl ⟨rfl, fun w' hw' => ?_⟩, ?_⟩; (focus ((obtain ⟨hc, hf⟩ := bcell hw'.out); (have hcS := bcellS hw'.out); go_simp <;> first | rfl | (go_at_call 26; exact inRange_PB _ _ _ false _ hv))); (go_simp; refine hK _ ?_; clear hK K)))
            refine wpG_nil ?_
            refine wpK_tail (by kernel_rfl) (fun w9 hg9 => ?_)
            have hb9 := bdrewn hg9.out
            refine wpAny_end (by kernel_rfl) ?_
            refine NoPan.thn ?_
            clear hg9
            go_wp2
            go_ret
            exact ⟨rfl, bkeep2 (bkeep2 HB.out HBR.out) hb9⟩
          have HV := Lib.hid (rng_iff.1 hv)
          by_cases hks : k < S.length
          · have hd2 : decide ((k : Int) < (S.length : Int)) = true := by simpa using hks
            have hget : S[k]? = some S[k] := List.getElem?_eq_getElem hks
            obtain ⟨b, off, hA, hb, hp⟩ := (HN.out.keep HBR.out).cells (by omega)
            have c0 := hp k _ hget
            generalize S[k] = s at *
            have HG := Lib.hid hget
            clear hget hp
            subst hA
            by_cases hsm : s < m
            · have hd3 : decide (s < m) = true := by simpa using hsm
              have hb := no_at HT.out HG.out HG'.out (fun h => by unfold okP at h; omega)
              subst hb
              go_wp2_with fail
              refine wp_region_grow 27 0 (· < 27) (by kernel_rfl) (by kernel_rfl) rfl ?_
              iterate 27 (refine wpG_step (fun K hK => ?_); first | (refine grow_skip rfl ?_; go_simp; refine hK _ ?_; clear hK K) | (apply Exists.intro; refine ⟨.inl ⟨rfl, fun w' hw' => ?_⟩, ?_⟩; (focus ((obtain ⟨hc, hf⟩ := bcell hw'.out); (have hcS := bcellS hw'.out); go_simp <;> first | rfl | (go_at_call 26; exact inRange_PB _ _ _ true _ hv))); (go_simp; refine hK _ ?_; clear hK K)))
              refine wpG_nil ?_
              refine wpK_tail (by kernel_rfl) (fun w9 hg9 => ?_)
              have hb9 := bdrewn hg9.out
              refine wpAny_end (by kernel_rfl) ?_
              refine NoPan.thn ?_
              clear hg9
              go_wp2
              go_ret
              exact ⟨rfl, bkeep2 (bkeep2 HB.out HBR.out) hb9⟩
            · have hd3 : decide (s < m) = false := by simpa using hsm
              have HS := Lib.hid hsm
              clear hsm
              go_wp2_with fail
              refine wp_region_grow 27 0 (· < 27) (by kernel_rfl) (by kernel_rfl) rfl ?_
              iterate 27 (refine wpG_step (fun K hK => ?_); first | (refine grow_skip rfl ?_; go_simp; refine hK _ ?_; clear hK K) | (apply Exists.intro; refine ⟨.inl ⟨rfl, fun w' hw' => ?_⟩, ?_⟩; (focus ((obtain ⟨hc, hf⟩ := bcell hw'.out); (have hcS := bcellS hw'.out); go_simp <;> first | rfl | (go_at_call 26; exact inRange_PB _ _ _ true _ hv))); (go_simp; refine hK _ ?_; clear hK K)))
              refine wpG_nil ?_
              refine wpK_tail (by kernel_rfl) (fun w9 hg9 => ?_)
              have hb9 := bdrewn hg9.out
              refine wpAny_end (by kernel_rfl) ?_
              refine NoPan.thn ?_
              clear hg9
              have HB9 := Lib.hid (bkeep2 HBR.out hb9)
              clear hb9 c0 d0 j0 j1
              go_wp2
              go_roundw
              case rel => exact ⟨k + 1, by omega, by go_num, HU.out.succ HG'.out ⟨by have := HV.out; omega, by have := HV.out; omega, fun s' hs' => by have hg := HG.out; rw [hs'] at hg; cases hg; have := HS.out; omega⟩, HB9.out⟩
              case measure => simp [intOf]; omega
          · have hd2 : decide ((k : Int) < (S.length : Int)) = false := by simp; omega
            go_wp2_with fail
            refine wp_region_grow 27 0 (· < 27) (by kernel_rfl) (by kernel_rfl) rfl ?_
            iterate 27 (refine wpG_step (fun K hK => ?_); first | (refine grow_skip rfl ?_; go_simp; refine hK _ ?_; clear hK K) | (apply Exists.intro; refine ⟨.inl ⟨rfl, fun w' hw' => ?_⟩, ?_⟩; (focus ((obtain ⟨hc, hf⟩ := bcell hw'.out); (have hcS := bcellS hw'.out); go_simp <;> first | rfl | (go_at_call 26; exact inRange_PB _ _ _ true _ hv))); (go_simp; refine hK _ ?_; clear hK K)))
            refine wpG_nil ?_
            refine wpK_tail (by kernel_rfl) (fun w9 hg9 => ?_)
            have hb9 := bdrewn hg9.out
            refine wpAny_end (by kernel_rfl) ?_
            refine NoPan.thn ?_
            clear hg9
            have HB9 := Lib.hid (bkeep2 HBR.out hb9)
            clear hb9 d0 j0 j1
            go_wp2
            go_roundw
            case rel => exact ⟨k + 1, by omega, by go_num, HU.out.succ HG'.out ⟨by have := HV.out; omega, by have := HV.out; omega, fun s' hs' => by have := (List.getElem?_eq_some_iff.1 hs').1; omega⟩, HB9.out⟩
            case measure => simp [intOf]; omega
        · have hd : decide ((k : Int) < (M.length : Int)) = false := by simp; omega
          obtain rfl : k = M.length := by omega
          have HU2 := Lib.hid HU.out
          have HB2 := Lib.hid (bkeep2 HB.out HBR.out)
          have HM := Lib.hid (HN.out.keep HBR.out)
          clear HU hlt hk
          cases h1 : rng (S.length : Int) 1 6
          · have hl := rng_not.1 h1
            have hb := no_len HT.out (by omega)
            subst hb
            clear hl
            go_wp2_with fail
            with_reducible refine (inRange_P _ _ _ false _ h1).mono ?_
            rintro e w2 ⟨rfl, rfl⟩
            go_wp2
            go_ret
            exact ⟨rfl, HB2.out⟩
          have hl := Lib.hid (rng_iff.1 h1)
          by_cases h2 : M.length = S.length
          rotate_left
          · have hb := no_len2 HT.out h2
            subst hb
            have h3 : ((M.length : Int) == (S.length : Int)) = false := by simp; omega
            clear h2
            go_wp2_with fail
            with_reducible refine (inRange_P _ _ _ true _ h1).mono ?_
            rintro e w2 ⟨rfl, rfl⟩
            go_wp2
            go_ret
            exact ⟨rfl, HB2.out⟩
          have h3 : ((M.length : Int) == (S.length : Int)) = true := by simp; omega
          have H2 := Lib.hid h2
          clear h2
          have hsm : Smal 1000000000000000 S := smal_of (b := 400) (fun x hx => by obtain ⟨i, hi, rfl⟩ := List.getElem_of_mem hx; have := HU1.out i _ hi (List.getElem?_eq_getElem hi); omega) (by omega) (by have := hl.out; omega)
          have HSM := Lib.hid hsm
          clear hsm
          go_wp2_with fail
          with_reducible refine (inRange_P _ _ _ true _ h1).mono ?_
          rintro e w2 ⟨rfl, rfl⟩
          go_wp2_with fail
          with_reducible refine (total_v A c S _ HM.out hL HSM.out).mono ?_
          rintro e w2 ⟨rfl, hw2⟩
          rw [hw2] at HB2
          clear hw2
          by_cases h5 : sumI S ≤ 400
          · have hb := HT.out.2 (pnP_spec HU1.out HU2.out (by have := hl.out; omega) H2.out h5)
            subst hb
            go_wp2
            go_ret
            exact ⟨ret_bool rfl, HB2.out⟩
          · have hb := no_sum HT.out h5
            subst hb
            go_wp2
            go_ret
            exact ⟨ret_bool (by simpa using h5), HB2.out⟩
set_option maxRecDepth 100000 in
theorem sValidPanes_v (A A' : Option Addr) (n m c c' : Nat) (S M : List Int) (t : Bool) (w : World) (h : NV w A S) (h' : NV w A' M) (hn : n = S.length) (hm : m = M.length) (hL : S.length ≤ 1048576) (hL' : M.length ≤ 1048576) (ht : t = true ↔ pnP S M) :
    Calls Try.prog 21 #[.agg #[.slice A n c, .slice A' m c']] w fun e w' => e = .returned (.bool t) ∧ Below w.heap.size w w' := by
  subst hn hm
  go_enter Try.func21, Try.ntmps21
  go_wp2_with fail
  with_reducible refine (svalidPanes_v _ _ _ _ _ _ S M t _ (h.keep (balloc (Below.refl _ _))) (h'.keep (balloc (Below.refl _ _))) rfl rfl hL hL' ht).mono ?_
  rintro e w1 ⟨rfl, hb⟩
  have HB := Lib.hid (bkeep2 (balloc (Below.refl _ _)) hb)
  clear hb h h'
  go_wp2
  go_ret
  exact ⟨rfl, HB.out⟩
end Go.Proofs.Ytpbfbcdidkbjiab
end
section
namespace Go.Proofs.Ytpbfbcdidkbjiab
set_option linter.unusedVariables false
/-- where each line begins, up to one of them -/
def edP (S : List Int) (k : Nat) : List Int := (List.range (S.length + 1)).map fun i => if i ≤ k then sumI (S.take i) else 0
def edL (S : List Int) : List Int := (List.range (S.length + 1)).map fun i => sumI (S.take i)
theorem edP_len (S : List Int) (k : Nat) : (edP S k).length = S.length + 1 := by simp [edP]
theorem edL_len (S : List Int) : (edL S).length = S.length + 1 := by simp [edL]
theorem edP_zero (S : List Int) : List.replicate (S.length + 1) 0 = edP S 0 := by
  apply List.ext_getElem
  · simp [edP]
  · intro i h1 h2
    simp only [edP, List.getElem_map, List.getElem_range, List.getElem_replicate]
    split
    · rename_i h
      obtain rfl : i = 0 := by omega
      simp [sumI]
    · rfl
theorem edP_end (S : List Int) : edP S S.length = edL S := by
  apply List.ext_getElem
  · simp [edP, edL]
  · intro i h1 h2
    simp only [edP, edL, List.getElem_map, List.getElem_range]
    rw [if_pos]
    simp [edP] at h1
    omega
theorem edP_get {S : List Int} {k i : Nat} (hi : i ≤ S.length) : (edP S k)[i]? = some (if i ≤ k then sumI (S.take i) else 0) := by
  rw [List.getElem?_eq_getElem (by rw [edP_len]; omega)]
  simp [edP]
theorem edL_get {S : List Int} {i : Nat} (hi : i ≤ S.length) : (edL S)[i]? = some (sumI (S.take i)) := by
  rw [List.getElem?_eq_getElem (by rw [edL_len]; omega)]
  simp [edL]
theorem edP_set {S : List Int} {k : Nat} (hk : k < S.length) : (edP S k).set (k + 1) (sumI (S.take (k + 1))) = edP S (k + 1) := by
  apply List.ext_getElem
  · simp [edP]
  · intro i h1 h2
    rw [List.getElem_set]
    simp only [edP, List.getElem_map, List.getElem_range]
    split
    · rename_i h
      subst h
      rw [if_pos (Nat.le_refl _)]
    · rename_i h
      by_cases h3 : i ≤ k
      · rw [if_pos h3, if_pos (by omega)]
      · rw [if_neg h3, if_neg (by omega)]
/-- the line in which a place lies, told from the one that begins at a place -/
def lnAt : List Int → Int → Int → Int → Int
  | [], _, _, _ => -1
  | s :: t, a, p, i => if a ≤ p ∧ p < a + s then i else lnAt t (a + s) p (i + 1)
def lineM (S : List Int) (p : Int) : Int := lnAt S 0 p 0
theorem lnAt_bd : ∀ (S : List Int) (a p i : Int), 0 ≤ i → -1 ≤ lnAt S a p i ∧ lnAt S a p i < i + S.length ∨ lnAt S a p i = -1
  | [], a, p, i, h => by simp [lnAt]
  | s :: t, a, p, i, h => by
    unfold lnAt
    split
    · simp only [List.length_cons]; omega
    · rcases lnAt_bd t (a + s) p (i + 1) (by omega) with h1 | h1
      · simp only [List.length_cons]; omega
      · exact .inr h1
theorem lnAt_drop {S : List Int} {k : Nat} {s p R : Int} (hs : S[k]? = some s) (h : lnAt (S.drop k) (sumI (S.take k)) p k = R) :
    (sumI (S.take k) ≤ p ∧ p < sumI (S.take k) + s → R = k) ∧ (¬ (sumI (S.take k) ≤ p ∧ p < sumI (S.take k) + s) → lnAt (S.drop (k + 1)) (sumI (S.take (k + 1))) p ((k + 1 : Nat) : Int) = R) := by
  obtain ⟨hk, e⟩ := List.getElem?_eq_some_iff.1 hs
  rw [List.drop_eq_getElem_cons hk, e, lnAt] at h
  rw [sumI_snoc hs]
  constructor
  · intro hc; rw [if_pos hc] at h; exact h.symm
  · intro hc; rw [if_neg hc] at h; rw [← h]; rfl
theorem lnAt_done {S : List Int} {k : Nat} {p R : Int} (hk : S.length ≤ k) (h : lnAt (S.drop k) (sumI (S.take k)) p k = R) : R = -1 := by
  rw [List.drop_eq_nil_of_le hk, lnAt] at h
  exact h.symm
end Go.Proofs.Ytpbfbcdidkbjiab
end
section
namespace Go.Proofs.Ytpbfbcdidkbjiab
open Go.RowKit
set_option linter.unusedVariables false
set_option maxHeartbeats 1000000
attribute [local go_sem] growUpon_value growUpon_skip growUpon_enter
theorem nopan_normal {Q : Exit → Act → World → Prop} {a : Act} {w : World} (h : Q .normal a w) : NoPan Q .normal a w := h
set_option maxRecDepth 100000 in
theorem edgesOf_w (A : Option Addr) (c n : Nat) (S : List Int) (w : World) (h : NV w A S) (hn : n = S.length) (h5 : S.length ≤ 8) (hM : Smal 1000000000000000 S) :
    Calls Try.prog 34 #[.slice A n c] w fun e w' => e = .returned (.slice (some ⟨w.heap.size, 0, none⟩) (n + 1) (n + 1)) ∧ IB w' w.heap.size (edL S) ∧ Below w.heap.size w w' := by
  have hmk : ∀ w : World, (Instr.makeSlice 22 (.int .i64 ((n : Int) + 1)) (.int .i64 ((n : Int) + 1))).run Try.prog w = .ok (.slice (some ⟨w.heap.size, 0, none⟩) (n + 1) (n + 1)) (w.alloc (.cells (ivals (List.replicate (n + 1) 0)) 3)) := fun w => madeI (n + 1) w (by omega)
  have HM := Lib.hid hM
  subst hn
  have hi0 : IB (w.alloc (.cells (ivals (List.replicate (S.length + 1) 0)) 3)) w.heap.size (edP S 0) := by rw [← edP_zero]; exact makeI_b _ w
  have HI := Lib.hid hi0
  have HB := Lib.hid (balloc (o := (.cells (ivals (List.replicate (S.length + 1) 0)) 3)) (Below.refl w.heap.size w))
  have HH := Lib.hid h
  clear hM hi0 h
  obtain ⟨n, hn⟩ : ∃ n, S.length = n := ⟨_, rfl⟩
  rw [hn] at hmk h5
  have HN := Lib.hid hn
  rw [show S.length = n from hn]
  go_enter Try.func34, Try.ntmps34
  go_wp2_with fail
  go_loopw [11] (fun i wr => ∃ k : Nat, k ≤ n ∧ i = .int .i64 k ∧ IB wr w.heap.size (edP S k) ∧ Below w.heap.size w wr) (fun i _ => n - (intOf i).toNat)
  case atStart => exact ⟨0, by omega, rfl, by rw [← HN.out]; exact HI.out, by rw [← HN.out]; exact HB.out⟩
  case round =>
    obtain ⟨k, hk, rfl, hi, hB⟩ := hrel
    clear HI HB
    by_cases hlt : k < n
    · have hd : decide ((k : Int) < (n : Int)) = true := by simpa using hlt
      have hlS : k < S.length := by omega
      obtain ⟨b, off, rfl, hb, hp⟩ := (HH.out.keep hB).cells (by omega)
      have hget : S[k]? = some S[k] := List.getElem?_eq_getElem hlS
      have c0 := hp k _ hget
      have hs := sumI_snoc hget
      have b1 := HM.out k
      have b2 := HM.out (k + 1)
      rw [hs] at b2
      have hset := hi.set (k + 1) (sumI (S.take (k + 1)))
      rw [edP_set hlS, hs] at hset
      generalize S[k] = x at *
      have d0 := hi.cell (edP_get (S := S) (k := k) (i := k) (by omega))
      rw [if_pos (Nat.le_refl _)] at d0
      have d1 := hi.cell (edP_get (S := S) (k := k) (i := k + 1) (by omega))
      rw [if_neg (by omega)] at d1
      have f1 := hi.frozen (k + 1)
      obtain ⟨t, ht⟩ : ∃ t, sumI (S.take k) = t := ⟨_, rfl⟩
      rw [ht] at d0 b1 b2 hset
      have hlg := hi.lt
      have i1 : (k : Int) < (n : Int) + 1 := by omega
      have i2 : (k : Int) + 1 < (n : Int) + 1 := by omega
      have i3 : (0 : Int) ≤ (k : Int) + 1 := by omega
      have i4 : ((k : Int) + 1).toNat = k + 1 := by omega
      have m1 : IntKind.i64.wrap ((k : Int) + 1) = (k : Int) + 1 := IntWalk.i64_in _ (by omega)
      have m2 : IntKind.i64.wrap (t + x) = t + x := IntWalk.i64_in _ (by omega)
      have HI := Lib.hid hi
      have HB := Lib.hid hB
      have HT := Lib.hid (And.intro ht hs)
      clear hi hB hp hget ht hs hset hn
      go_wp2_with fail
      refine wp_region_grow 13 1 (· < 13) (by kernel_rfl) (by kernel_rfl) rfl ?_
      iterate 13 (refine wpG_step (fun K hK => ?_); first | (refine grow_skip rfl ?_; go_simp; refine hK _ ?_; clear hK K) | (apply Exists.intro; refine ⟨.inl ⟨rfl, fun w' hw' => ?_⟩, ?_⟩; (focus ((obtain ⟨hc, hf⟩ := bcell hw'.out); (have hcS := bcellS hw'.out); go_simp <;> first | rfl | fail)); (go_simp; refine hK _ ?_; clear hK K)))
      refine wpG_nil ?_
      refine wpK_tail (by kernel_rfl) (fun w8 hg8 => ?_)
      have hb8 := bdrewn hg8.out
      obtain ⟨hc8, hf8⟩ := bcell hb8
      refine wpAny_one (i := 13) (by kernel_rfl) rfl rfl ?_
      go_simp
      refine wpAny_end (by kernel_rfl) ?_
      refine nopan_normal ?_
      clear hc8 hf8
      clear hg8
      have hi2 := (HI.out.keep hb8).set (k + 1) (t + x)
      have e2 := edP_set hlS
      rw [HT.out.2, HT.out.1] at e2
      rw [e2] at hi2
      replace HI := Lib.hid hi2
      replace HB := Lib.hid ((bkeep2 HB.out hb8).setCell (p := ⟨w.heap.size, k + 1, none⟩) (Nat.le_refl _) (.int .i64 (t + x)))
      clear hi2 e2 hb8 c0 d0 d1 f1
      go_wp2
      go_roundw
      case rel => exact ⟨k + 1, by omega, by go_num, HI.out, HB.out⟩
      case measure => simp [intOf]; omega
    · have hd : decide ((k : Int) < (n : Int)) = false := decide_eq_false (by omega)
      obtain rfl : k = n := by omega
      rw [← HN.out, edP_end] at hi
      have HI := Lib.hid hi
      have HB := Lib.hid hB
      clear hi hB hn
      go_wp2
      go_ret
      exact ⟨rfl, HI.out, HB.out⟩
set_option maxRecDepth 100000 in
theorem lineAt_w (A : Option Addr) (c n : Nat) (S : List Int) (p : Int) (w : World) (h : NV w A (edL S)) (hn : n = S.length + 1) (h5 : S.length ≤ 8) :
    Calls Try.prog 33 #[.slice A n c, .int .i64 p] w fun e w' => e = .returned (.int .i64 (lineM S p)) ∧ Below w.heap.size w w' := by
  obtain ⟨R, hR⟩ : ∃ R, lineM S p = R := ⟨_, rfl⟩
  rw [hR]
  have HR0 := Lib.hid (show lnAt (S.drop 0) (sumI (S.take 0)) p ((0 : Nat) : Int) = R from hR)
  have HN := Lib.hid hn
  have hn6 : n ≤ 9 := by omega
  have hn1 : 1 ≤ n := by omega
  clear hn hR
  go_enter Try.func33, Try.ntmps33
  go_wp2_with fail
  go_loop [9] (fun i => ∃ k : Nat, k ≤ S.length ∧ i = .int .i64 k ∧ lnAt (S.drop k) (sumI (S.take k)) p k = R) (fun i => S.length - (intOf i).toNat)
  case atStart => exact ⟨0, by omega, rfl, HR0.out⟩
  case round =>
    obtain ⟨k, hk, rfl, hr⟩ := hrel
    clear HR0
    by_cases hlt : k < S.length
    · have hd : decide ((k : Int) < (n : Int) - 1) = true := by have := HN.out; simp; omega
      obtain ⟨b, off, rfl, hb, hp⟩ := h.cells (by rw [edL_len]; omega)
      have hget : S[k]? = some S[k] := List.getElem?_eq_getElem hlt
      obtain ⟨r1, r2⟩ := lnAt_drop hget hr
      have hs := sumI_snoc hget
      have c0 := hp k _ (edL_get (S := S) (i := k) (by omega))
      have c1 := hp (k + 1) _ (edL_get (S := S) (i := k + 1) (by omega))
      rw [hs] at c1
      generalize S[k] = x at *
      have R2 := Lib.hid r2
      have hkn : k + 1 < n := by have := HN.out; omega
      obtain ⟨t, ht⟩ : ∃ t, sumI (S.take k) = t := ⟨_, rfl⟩
      rw [ht] at c0 c1 r1
      have HT := Lib.hid ht
      clear hr hget hs r2 hp ht
      by_cases g1 : t ≤ p
      · by_cases g2 : p < t + x
        · have hrk := r1 ⟨g1, g2⟩
          subst hrk
          clear r1 R2
          go_wp2
          go_ret
          exact ⟨rfl, Below.refl _ _⟩
        · have HR2 := Lib.hid (R2.out (by rw [HT.out]; omega))
          clear r1 R2
          go_wp2
          go_round
          case rel => exact ⟨k + 1, by omega, by go_num, HR2.out⟩
          case measure => simp [intOf]; omega
      · have HR2 := Lib.hid (R2.out (by rw [HT.out]; omega))
        clear r1 R2
        go_wp2
        go_round
        case rel => exact ⟨k + 1, by omega, by go_num, HR2.out⟩
        case measure => simp [intOf]; omega
    · have hd : decide ((k : Int) < (n : Int) - 1) = false := by have := HN.out; simp; omega
      have := lnAt_done (by omega) hr
      subst this
      clear hr
      go_wp2
      go_ret
      exact ⟨rfl, Below.refl _ _⟩
set_option maxRecDepth 100000 in
theorem slineAt_w (A : Option Addr) (c n : Nat) (S : List Int) (p : Int) (w : World) (h : NV w A S) (hn : n = S.length) (h5 : S.length ≤ 8) (hM : Smal 1000000000000000 S) (hx0 : ∀ x ∈ S, 0 ≤ x) :
    Calls Try.prog 32 #[.slice A n c, .int .i64 p] w fun e w' => e = .returned (.int .i64 (lineM S p)) ∧ Below w.heap.size w w' := by
  obtain ⟨R, hR⟩ : ∃ R, lineM S p = R := ⟨_, rfl⟩
  rw [hR]
  have HR0 := Lib.hid (show lnAt (S.drop 0) (sumI (S.take 0)) p ((0 : Nat) : Int) = R from hR)
  have HN := Lib.hid hn
  have HM := Lib.hid hM
  have hn6 : n ≤ 9 := by omega
  clear hn hR hM
  go_enter Try.func32, Try.ntmps32
  go_wp2_with fail
  go_loop [5, 6] (fun a i => ∃ k : Nat, k ≤ S.length ∧ i = .int .i64 k ∧ a = .int .i64 (sumI (S.take k)) ∧ lnAt (S.drop k) (sumI (S.take k)) p k = R) (fun _ i => S.length - (intOf i).toNat)
  case atStart => exact ⟨0, by omega, rfl, rfl, HR0.out⟩
  case round =>
    obtain ⟨k, hk, rfl, rfl, hr⟩ := hrel
    clear HR0
    by_cases hlt : k < S.length
    · have hkn : k < n := by have := HN.out; omega
      have hd : decide ((k : Int) < (n : Int)) = true := by simpa using hkn
      obtain ⟨b, off, rfl, hb, hp⟩ := h.cells (by omega)
      have hget : S[k]? = some S[k] := List.getElem?_eq_getElem hlt
      obtain ⟨r1, r2⟩ := lnAt_drop hget hr
      have hs := sumI_snoc hget
      have c0 := hp k _ hget
      have b1 := HM.out k
      have b2 := HM.out (k + 1)
      rw [hs] at b2 r2
      generalize S[k] = x at *
      obtain ⟨t, ht⟩ : ∃ t, sumI (S.take k) = t := ⟨_, rfl⟩
      rw [ht] at b1 b2 r1 r2 hs
      rw [ht]
      have R2 := Lib.hid r2
      have HS := Lib.hid hs
      clear hr hget hs r2 hp ht
      by_cases g : t ≤ p ∧ p < t + x
      · have hg : rng p t (t + x - 1) = true := rng_iff.2 (by omega)
        have hrk := r1 g
        subst hrk
        clear r1 R2 g
        go_wp2_with fail
        with_reducible refine (inRange_any _ _ _ _).mono ?_
        rintro e w1 ⟨rfl, rfl⟩
        go_wp2
        go_ret
        exact ⟨rfl, Below.refl _ _⟩
      · have hg : rng p t (t + x - 1) = false := by
          cases hq : rng p t (t + x - 1)
          · rfl
          · exact absurd (rng_iff.1 hq) (by omega)
        have HR2 := Lib.hid (R2.out g)
        clear r1 R2 g
        go_wp2_with fail
        with_reducible refine (inRange_any _ _ _ _).mono ?_
        rintro e w1 ⟨rfl, rfl⟩
        go_wp2
        go_round
        case rel => exact ⟨k + 1, by omega, by go_num, by rw [HS.out], by rw [HS.out]; exact HR2.out⟩
        case measure => simp [intOf]; omega
    · have hkn : ¬ k < n := by have := HN.out; omega
      have hd : decide ((k : Int) < (n : Int)) = false := decide_eq_false (by omega)
      have := lnAt_done (by omega) hr
      subst this
      clear hr
      go_wp2
      go_ret
      exact ⟨rfl, Below.refl _ _⟩
end Go.Proofs.Ytpbfbcdidkbjiab
end
section
namespace Go.Proofs.Ytpbfbcdidkbjiab
open Go.RowKit
set_option linter.unusedVariables false
set_option maxHeartbeats 1000000
attribute [local go_sem 5000] run_mx run_mn
attribute [local go_sem] growUpon_value growUpon_skip growUpon_enter
theorem vpT (S M : List Int) : ∃ t : Bool, t = true ↔ pnP S M := by
  by_cases h : pnP S M
  · exact ⟨true, by simp [h]⟩
  · exact ⟨false, by simp [h]⟩
theorem NV.head {w : World} {A : Option Addr} {L : List Int} (h : NV w A L) (j : Nat) : NV w A (L.take j) := ⟨fun h0 => by
  have h1 : 0 < L.length := by rw [List.length_take] at h0; omega
  obtain ⟨b, off, e, hl, hp⟩ := h.cells h1
  exact ⟨b, off, e, hl, fun i x hx => hp i x (by rw [List.getElem?_take] at hx; split at hx; exact hx; cases hx)⟩⟩
theorem smal_take {m : Int} {L : List Int} (h : Smal m L) (j : Nat) : Smal m (L.take j) := fun k => by rw [List.take_take]; exact h _
set_option maxRecDepth 100000 in
theorem hasSash_v (A A' : Option Addr) (n c : Nat) (m c' : Nat) (i : Int) (t : Bool) (w : World) (hn : n ≤ 1048576) (ht : rng i 0 ((n : Int) - 2) = t) :
    Calls Try.prog 29 #[.agg #[.slice A n c, .slice A' m c'], .int .i64 i] w fun e w' => e = .returned (.bool t) ∧ Below w.heap.size w w' := by
  go_enter Try.func29, Try.ntmps29
  go_wp2_with fail
  with_reducible refine (within_P _ _ _ t _ ht).mono ?_
  rintro e w1 ⟨rfl, rfl⟩
  go_wp2
  go_ret
  exact ⟨rfl, (by repeat (first | with_reducible exact Below.refl _ _ | with_reducible assumption | with_reducible refine balloc ?_ | (with_reducible refine bset ?_ ?_; rotate_left; ((try dsimp only); omega)) | refine bkeep2 ?_ (by assumption) | with_reducible refine Below.drew ?_))⟩
set_option maxRecDepth 100000 in
theorem SashAt_no (A A' : Option Addr) (c c' : Nat) (S M : List Int) (i : Int) (w : World) (h : NV w A S) (h' : NV w A' M) (hm : M.length ≤ 1048576) (hL : S.length ≤ 1048576) (hv : ¬ pnP S M ∨ (pnP S M ∧ rng i 0 ((S.length : Int) - 2) = false)) : Calls Try.prog 11 #[.agg #[.slice A S.length c, .slice A' M.length c'], .int .i64 i] w fun e w' => e = .returned (.int .i64 (-1)) ∧ Below w.heap.size w w' := by
  rcases hv with hv | ⟨hv, hi⟩
  · have HX := Lib.hid (newS w (.cells #[.slice A S.length c, .slice A' M.length c'] 27))
    have HB := Lib.hid (balloc (o := .cells #[.slice A S.length c, .slice A' M.length c'] 27) (Below.refl w.heap.size w))
    have HN := Lib.hid (h.keep HB.out)
    have HN' := Lib.hid (h'.keep HB.out)
    clear h h'
    go_enter Try.func11, Try.ntmps11
    go_wp2_with fail
    with_reducible refine (ValidPanes_v _ _ _ _ _ _ S M false _ HN.out HN'.out rfl rfl hL hm (by simp [hv])).mono ?_
    rintro e w1 ⟨rfl, hb⟩
    replace HX := Lib.hid ((hb.block _ (ltS HX.out)).trans HX.out)
    replace HN := Lib.hid (HN.out.keep hb)
    replace HN' := Lib.hid (HN'.out.keep hb)
    replace HB := Lib.hid (bkeep2 HB.out hb)
    clear hb
    have k0 : w1.cell? ⟨w.heap.size, 0, none⟩ = some (.slice A S.length c) := (cellS HX.out 0).trans rfl
    have k1 : w1.cell? ⟨w.heap.size, 1, none⟩ = some (.slice A' M.length c') := (cellS HX.out 1).trans rfl
    go_wp2
    go_ret
    exact ⟨rfl, HB.out⟩
  · have HX := Lib.hid (newS w (.cells #[.slice A S.length c, .slice A' M.length c'] 27))
    have HB := Lib.hid (balloc (o := .cells #[.slice A S.length c, .slice A' M.length c'] 27) (Below.refl w.heap.size w))
    have HN := Lib.hid (h.keep HB.out)
    have HN' := Lib.hid (h'.keep HB.out)
    clear h h'
    go_enter Try.func11, Try.ntmps11
    go_wp2_with fail
    with_reducible refine (ValidPanes_v _ _ _ _ _ _ S M true _ HN.out HN'.out rfl rfl hL hm (by simp [hv])).mono ?_
    rintro e w1 ⟨rfl, hb⟩
    replace HX := Lib.hid ((hb.block _ (ltS HX.out)).trans HX.out)
    replace HN := Lib.hid (HN.out.keep hb)
    replace HN' := Lib.hid (HN'.out.keep hb)
    replace HB := Lib.hid (bkeep2 HB.out hb)
    clear hb
    have k0 : w1.cell? ⟨w.heap.size, 0, none⟩ = some (.slice A S.length c) := (cellS HX.out 0).trans rfl
    have k1 : w1.cell? ⟨w.heap.size, 1, none⟩ = some (.slice A' M.length c') := (cellS HX.out 1).trans rfl
    go_wp2_with fail
    with_reducible refine (hasSash_v _ _ _ _ _ _ _ false _ hL hi).mono ?_
    rintro e w2 ⟨rfl, hb⟩
    clear k0 k1
    replace HX := Lib.hid ((hb.block _ (ltS HX.out)).trans HX.out)
    replace HN := Lib.hid (HN.out.keep hb)
    replace HN' := Lib.hid (HN'.out.keep hb)
    replace HB := Lib.hid (bkeep2 HB.out hb)
    clear hb
    have k0 : w2.cell? ⟨w.heap.size, 0, none⟩ = some (.slice A S.length c) := (cellS HX.out 0).trans rfl
    have k1 : w2.cell? ⟨w.heap.size, 1, none⟩ = some (.slice A' M.length c') := (cellS HX.out 1).trans rfl
    go_wp2
    go_ret
    exact ⟨rfl, HB.out⟩
set_option maxRecDepth 100000 in
theorem SashAt_yes (A A' : Option Addr) (c c' : Nat) (S M : List Int) (i : Int) (w : World) (h : NV w A S) (h' : NV w A' M) (hm : M.length ≤ 1048576) (hcp : S.length ≤ c) (hL : S.length ≤ 1048576) (hv : pnP S M) (hi : rng i 0 ((S.length : Int) - 2) = true) : Calls Try.prog 11 #[.agg #[.slice A S.length c, .slice A' M.length c'], .int .i64 i] w fun e w' => e = .returned (.int .i64 (sumI (S.take (i.toNat + 1)))) ∧ Below w.heap.size w w' := by
  obtain ⟨g1, g2⟩ := rng_iff.1 hi
  have HSM := Lib.hid (smal_take hv.smal.1 (i.toNat + 1))
  have g6 := hv.six
  obtain ⟨k, rfl⟩ := Int.eq_ofNat_of_zero_le g1
  rw [Int.toNat_natCast] at HSM ⊢
  have gl : k + 1 < S.length := by omega
  have elen : (S.take (k + 1)).length = k + 1 := by rw [List.length_take]; omega
  have hcap : Hid (True) := Lib.hid trivial
  have HP := Lib.hid hv
  clear g1 g2
  have HPV : Hid (k + 1 ≤ c) := Lib.hid (by have := hcp; omega)
  have HX := Lib.hid (newS w (.cells #[.slice A S.length c, .slice A' M.length c'] 27))
  have HB := Lib.hid (balloc (o := .cells #[.slice A S.length c, .slice A' M.length c'] 27) (Below.refl w.heap.size w))
  have HN := Lib.hid (h.keep HB.out)
  have HN' := Lib.hid (h'.keep HB.out)
  clear h h'
  have HE := Lib.hid elen
  clear elen hv
  go_enter Try.func11, Try.ntmps11
  go_wp2_with fail
  with_reducible refine (ValidPanes_v _ _ _ _ _ _ S M true _ HN.out HN'.out rfl rfl hL hm (by simp [HP.out])).mono ?_
  rintro e w1 ⟨rfl, hb⟩
  replace HX := Lib.hid ((hb.block _ (ltS HX.out)).trans HX.out)
  replace HN := Lib.hid (HN.out.keep hb)
  replace HN' := Lib.hid (HN'.out.keep hb)
  replace HB := Lib.hid (bkeep2 HB.out hb)
  clear hb
  have k0 : w1.cell? ⟨w.heap.size, 0, none⟩ = some (.slice A S.length c) := (cellS HX.out 0).trans rfl
  have k1 : w1.cell? ⟨w.heap.size, 1, none⟩ = some (.slice A' M.length c') := (cellS HX.out 1).trans rfl
  go_wp2_with fail
  with_reducible refine (hasSash_v _ _ _ _ _ _ _ true _ hL hi).mono ?_
  rintro e w2 ⟨rfl, hb⟩
  clear k0 k1
  replace HX := Lib.hid ((hb.block _ (ltS HX.out)).trans HX.out)
  replace HN := Lib.hid (HN.out.keep hb)
  replace HN' := Lib.hid (HN'.out.keep hb)
  replace HB := Lib.hid (bkeep2 HB.out hb)
  clear hb
  have k0 : w2.cell? ⟨w.heap.size, 0, none⟩ = some (.slice A S.length c) := (cellS HX.out 0).trans rfl
  have k1 : w2.cell? ⟨w.heap.size, 1, none⟩ = some (.slice A' M.length c') := (cellS HX.out 1).trans rfl
  have hk1 : k + 1 ≤ c := HPV.out
  have hk2 : k + 1 ≤ S.length := by omega
  have hk3 : (0 : Nat) < S.length := by omega
  obtain ⟨b, off, hA, hbl, hp⟩ := HN.out.cells hk3
  go_wp2_with fail
  have hq := sum_v A c (S.take (k + 1)) _ (HN.out.head (k + 1)) (by rw [HE.out]; omega) HSM.out
  rw [HE.out, hA] at hq
  with_reducible refine hq.mono ?_
  rintro e w3 ⟨rfl, rfl⟩
  go_wp2
  go_ret
  exact ⟨rfl, HB.out⟩
set_option maxRecDepth 100000 in
theorem sSashAt_no (A A' : Option Addr) (c c' : Nat) (S M : List Int) (i : Int) (w : World) (h : NV w A S) (h' : NV w A' M) (hm : M.length ≤ 1048576) (hL : S.length ≤ 1048576) (hv : ¬ pnP S M ∨ (pnP S M ∧ rng i 0 ((S.length : Int) - 2) = false)) : Calls Try.prog 9 #[.agg #[.slice A S.length c, .slice A' M.length c'], .int .i64 i] w fun e w' => e = .returned (.int .i64 (-1)) ∧ Below w.heap.size w w' := by
  rcases hv with hv | ⟨hv, hi⟩
  · have HX := Lib.hid (newS w (.cells #[.slice A S.length c, .slice A' M.length c'] 27))
    have HB := Lib.hid (balloc (o := .cells #[.slice A S.length c, .slice A' M.length c'] 27) (Below.refl w.heap.size w))
    have HN := Lib.hid (h.keep HB.out)
    have HN' := Lib.hid (h'.keep HB.out)
    clear h h'
    go_enter Try.func9, Try.ntmps9
    go_wp2_with fail
    with_reducible refine (svalidPanes_v _ _ _ _ _ _ S M false _ HN.out HN'.out rfl rfl hL hm (by simp [hv])).mono ?_
    rintro e w1 ⟨rfl, hb⟩
    replace HX := Lib.hid ((hb.block _ (ltS HX.out)).trans HX.out)
    replace HN := Lib.hid (HN.out.keep hb)
    replace HN' := Lib.hid (HN'.out.keep hb)
    replace HB := Lib.hid (bkeep2 HB.out hb)
    clear hb
    have k0 : w1.cell? ⟨w.heap.size, 0, none⟩ = some (.slice A S.length c) := (cellS HX.out 0).trans rfl
    have k1 : w1.cell? ⟨w.heap.size, 1, none⟩ = some (.slice A' M.length c') := (cellS HX.out 1).trans rfl
    go_wp2
    go_ret
    exact ⟨rfl, HB.out⟩
  · have HX := Lib.hid (newS w (.cells #[.slice A S.length c, .slice A' M.length c'] 27))
    have HB := Lib.hid (balloc (o := .cells #[.slice A S.length c, .slice A' M.length c'] 27) (Below.refl w.heap.size w))
    have HN := Lib.hid (h.keep HB.out)
    have HN' := Lib.hid (h'.keep HB.out)
    clear h h'
    go_enter Try.func9, Try.ntmps9
    go_wp2_with fail
    with_reducible refine (svalidPanes_v _ _ _ _ _ _ S M true _ HN.out HN'.out rfl rfl hL hm (by simp [hv])).mono ?_
    rintro e w1 ⟨rfl, hb⟩
    replace HX := Lib.hid ((hb.block _ (ltS HX.out)).trans HX.out)
    replace HN := Lib.hid (HN.out.keep hb)
    replace HN' := Lib.hid (HN'.out.keep hb)
    replace HB := Lib.hid (bkeep2 HB.out hb)
    clear hb
    have k0 : w1.cell? ⟨w.heap.size, 0, none⟩ = some (.slice A S.length c) := (cellS HX.out 0).trans rfl
    have k1 : w1.cell? ⟨w.heap.size, 1, none⟩ = some (.slice A' M.length c') := (cellS HX.out 1).trans rfl
    go_wp2_with fail
    with_reducible refine (inRange_PB _ _ _ false _ hi).mono ?_
    rintro e w2 ⟨rfl, hb⟩
    clear k0 k1
    replace HX := Lib.hid ((hb.block _ (ltS HX.out)).trans HX.out)
    replace HN := Lib.hid (HN.out.keep hb)
    replace HN' := Lib.hid (HN'.out.keep hb)
    replace HB := Lib.hid (bkeep2 HB.out hb)
    clear hb
    have k0 : w2.cell? ⟨w.heap.size, 0, none⟩ = some (.slice A S.length c) := (cellS HX.out 0).trans rfl
    have k1 : w2.cell? ⟨w.heap.size, 1, none⟩ = some (.slice A' M.length c') := (cellS HX.out 1).trans rfl
    go_wp2
    go_ret
    exact ⟨rfl, HB.out⟩
set_option maxRecDepth 100000 in
theorem sSashAt_yes (A A' : Option Addr) (c c' : Nat) (S M : List Int) (i : Int) (w : World) (h : NV w A S) (h' : NV w A' M) (hm : M.length ≤ 1048576) (hcp : S.length ≤ c) (hL : S.length ≤ 1048576) (hv : pnP S M) (hi : rng i 0 ((S.length : Int) - 2) = true) : Calls Try.prog 9 #[.agg #[.slice A S.length c, .slice A' M.length c'], .int .i64 i] w fun e w' => e = .returned (.int .i64 (sumI (S.take (i.toNat + 1)))) ∧ Below w.heap.size w w' := by
  obtain ⟨g1, g2⟩ := rng_iff.1 hi
  have HSM := Lib.hid (smal_take hv.smal.1 (i.toNat + 1))
  have g6 := hv.six
  obtain ⟨k, rfl⟩ := Int.eq_ofNat_of_zero_le g1
  rw [Int.toNat_natCast] at HSM ⊢
  have gl : k + 1 < S.length := by omega
  have elen : (S.take (k + 1)).length = k + 1 := by rw [List.length_take]; omega
  have hcap : Hid (True) := Lib.hid trivial
  have HP := Lib.hid hv
  clear g1 g2
  have HPV : Hid (k + 1 ≤ c) := Lib.hid (by have := hcp; omega)
  have HX := Lib.hid (newS w (.cells #[.slice A S.length c, .slice A' M.length c'] 27))
  have HB := Lib.hid (balloc (o := .cells #[.slice A S.length c, .slice A' M.length c'] 27) (Below.refl w.heap.size w))
  have HN := Lib.hid (h.keep HB.out)
  have HN' := Lib.hid (h'.keep HB.out)
  clear h h'
  have HE := Lib.hid elen
  clear elen hv
  go_enter Try.func9, Try.ntmps9
  go_wp2_with fail
  with_reducible refine (svalidPanes_v _ _ _ _ _ _ S M true _ HN.out HN'.out rfl rfl hL hm (by simp [HP.out])).mono ?_
  rintro e w1 ⟨rfl, hb⟩
  replace HX := Lib.hid ((hb.block _ (ltS HX.out)).trans HX.out)
  replace HN := Lib.hid (HN.out.keep hb)
  replace HN' := Lib.hid (HN'.out.keep hb)
  replace HB := Lib.hid (bkeep2 HB.out hb)
  clear hb
  have k0 : w1.cell? ⟨w.heap.size, 0, none⟩ = some (.slice A S.length c) := (cellS HX.out 0).trans rfl
  have k1 : w1.cell? ⟨w.heap.size, 1, none⟩ = some (.slice A' M.length c') := (cellS HX.out 1).trans rfl
  go_wp2_with fail
  with_reducible refine (inRange_PB _ _ _ true _ hi).mono ?_
  rintro e w2 ⟨rfl, hb⟩
  clear k0 k1
  replace HX := Lib.hid ((hb.block _ (ltS HX.out)).trans HX.out)
  replace HN := Lib.hid (HN.out.keep hb)
  replace HN' := Lib.hid (HN'.out.keep hb)
  replace HB := Lib.hid (bkeep2 HB.out hb)
  clear hb
  have k0 : w2.cell? ⟨w.heap.size, 0, none⟩ = some (.slice A S.length c) := (cellS HX.out 0).trans rfl
  have k1 : w2.cell? ⟨w.heap.size, 1, none⟩ = some (.slice A' M.length c') := (cellS HX.out 1).trans rfl
  have hk1 : k + 1 ≤ c := HPV.out
  have hk2 : k + 1 ≤ S.length := by omega
  have hk3 : (0 : Nat) < S.length := by omega
  obtain ⟨b, off, hA, hbl, hp⟩ := HN.out.cells hk3
  go_wp2_with fail
  have hq := total_v A c (S.take (k + 1)) _ (HN.out.head (k + 1)) (by rw [HE.out]; omega) HSM.out
  rw [HE.out, hA] at hq
  with_reducible refine hq.mono ?_
  rintro e w3 ⟨rfl, rfl⟩
  go_wp2
  go_ret
  exact ⟨rfl, HB.out⟩
set_option maxRecDepth 100000 in
theorem PaneAt_no (A A' : Option Addr) (c c' : Nat) (S M : List Int) (i : Int) (w : World) (h : NV w A S) (h' : NV w A' M) (hm : M.length ≤ 1048576) (hL : S.length ≤ 1048576) (hv : ¬ pnP S M) : Calls Try.prog 14 #[.agg #[.slice A S.length c, .slice A' M.length c'], .int .i64 i] w fun e w' => e = .returned (.int .i64 (-1)) ∧ Below w.heap.size w w' := by
  have HX := Lib.hid (newS w (.cells #[.slice A S.length c, .slice A' M.length c'] 27))
  have HB := Lib.hid (balloc (o := .cells #[.slice A S.length c, .slice A' M.length c'] 27) (Below.refl w.heap.size w))
  have HN := Lib.hid (h.keep HB.out)
  have HN' := Lib.hid (h'.keep HB.out)
  clear h h'
  go_enter Try.func14, Try.ntmps14
  go_wp2_with fail
  with_reducible refine (ValidPanes_v _ _ _ _ _ _ S M false _ HN.out HN'.out rfl rfl hL hm (by simp [hv])).mono ?_
  rintro e w1 ⟨rfl, hb⟩
  replace HX := Lib.hid ((hb.block _ (ltS HX.out)).trans HX.out)
  replace HN := Lib.hid (HN.out.keep hb)
  replace HN' := Lib.hid (HN'.out.keep hb)
  replace HB := Lib.hid (bkeep2 HB.out hb)
  clear hb
  have k0 : w1.cell? ⟨w.heap.size, 0, none⟩ = some (.slice A S.length c) := (cellS HX.out 0).trans rfl
  have k1 : w1.cell? ⟨w.heap.size, 1, none⟩ = some (.slice A' M.length c') := (cellS HX.out 1).trans rfl
  go_wp2
  go_ret
  exact ⟨rfl, HB.out⟩
set_option maxRecDepth 100000 in
theorem PaneAt_yes (A A' : Option Addr) (c c' : Nat) (S M : List Int) (i : Int) (w : World) (h : NV w A S) (h' : NV w A' M) (hm : M.length ≤ 1048576) (hL : S.length ≤ 1048576) (hv : pnP S M) : Calls Try.prog 14 #[.agg #[.slice A S.length c, .slice A' M.length c'], .int .i64 i] w fun e w' => e = .returned (.int .i64 (lineM S i)) ∧ Below w.heap.size w w' := by
  have HP := Lib.hid hv
  clear hv
  have HX := Lib.hid (newS w (.cells #[.slice A S.length c, .slice A' M.length c'] 27))
  have HB := Lib.hid (balloc (o := .cells #[.slice A S.length c, .slice A' M.length c'] 27) (Below.refl w.heap.size w))
  have HN := Lib.hid (h.keep HB.out)
  have HN' := Lib.hid (h'.keep HB.out)
  clear h h'
  go_enter Try.func14, Try.ntmps14
  go_wp2_with fail
  with_reducible refine (ValidPanes_v _ _ _ _ _ _ S M true _ HN.out HN'.out rfl rfl hL hm (by simp [HP.out])).mono ?_
  rintro e w1 ⟨rfl, hb⟩
  replace HX := Lib.hid ((hb.block _ (ltS HX.out)).trans HX.out)
  replace HN := Lib.hid (HN.out.keep hb)
  replace HN' := Lib.hid (HN'.out.keep hb)
  replace HB := Lib.hid (bkeep2 HB.out hb)
  clear hb
  have k0 : w1.cell? ⟨w.heap.size, 0, none⟩ = some (.slice A S.length c) := (cellS HX.out 0).trans rfl
  have k1 : w1.cell? ⟨w.heap.size, 1, none⟩ = some (.slice A' M.length c') := (cellS HX.out 1).trans rfl
  go_wp2_with fail
  with_reducible refine (edgesOf_w A c S.length S _ HN.out rfl (by have := HP.out.six; omega) HP.out.smal.1).mono ?_
  rintro e w2 ⟨rfl, hi, hb⟩
  have HI := Lib.hid hi
  clear hi k0 k1
  replace HX := Lib.hid ((hb.block _ (ltS HX.out)).trans HX.out)
  replace HN := Lib.hid (HN.out.keep hb)
  replace HN' := Lib.hid (HN'.out.keep hb)
  replace HB := Lib.hid (bkeep2 HB.out hb)
  clear hb
  go_wp2_with fail
  with_reducible refine (lineAt_w _ (S.length + 1) (S.length + 1) S i _ HI.out.nv rfl (by have := HP.out.six; omega)).mono ?_
  rintro e w3 ⟨rfl, hb⟩
  replace HX := Lib.hid ((hb.block _ (ltS HX.out)).trans HX.out)
  replace HN := Lib.hid (HN.out.keep hb)
  replace HN' := Lib.hid (HN'.out.keep hb)
  replace HB := Lib.hid (bkeep2 HB.out hb)
  clear hb
  go_wp2
  go_ret
  exact ⟨rfl, HB.out⟩
set_option maxRecDepth 100000 in
theorem sPaneAt_no (A A' : Option Addr) (c c' : Nat) (S M : List Int) (i : Int) (w : World) (h : NV w A S) (h' : NV w A' M) (hm : M.length ≤ 1048576) (hL : S.length ≤ 1048576) (hv : ¬ pnP S M) : Calls Try.prog 13 #[.agg #[.slice A S.length c, .slice A' M.length c'], .int .i64 i] w fun e w' => e = .returned (.int .i64 (-1)) ∧ Below w.heap.size w w' := by
  have HX := Lib.hid (newS w (.cells #[.slice A S.length c, .slice A' M.length c'] 27))
  have HB := Lib.hid (balloc (o := .cells #[.slice A S.length c, .slice A' M.length c'] 27) (Below.refl w.heap.size w))
  have HN := Lib.hid (h.keep HB.out)
  have HN' := Lib.hid (h'.keep HB.out)
  clear h h'
  go_enter Try.func13, Try.ntmps13
  go_wp2_with fail
  with_reducible refine (svalidPanes_v _ _ _ _ _ _ S M false _ HN.out HN'.out rfl rfl hL hm (by simp [hv])).mono ?_
  rintro e w1 ⟨rfl, hb⟩
  replace HX := Lib.hid ((hb.block _ (ltS HX.out)).trans HX.out)
  replace HN := Lib.hid (HN.out.keep hb)
  replace HN' := Lib.hid (HN'.out.keep hb)
  replace HB := Lib.hid (bkeep2 HB.out hb)
  clear hb
  have k0 : w1.cell? ⟨w.heap.size, 0, none⟩ = some (.slice A S.length c) := (cellS HX.out 0).trans rfl
  have k1 : w1.cell? ⟨w.heap.size, 1, none⟩ = some (.slice A' M.length c') := (cellS HX.out 1).trans rfl
  go_wp2
  go_ret
  exact ⟨rfl, HB.out⟩
set_option maxRecDepth 100000 in
theorem sPaneAt_yes (A A' : Option Addr) (c c' : Nat) (S M : List Int) (i : Int) (w : World) (h : NV w A S) (h' : NV w A' M) (hm : M.length ≤ 1048576) (hL : S.length ≤ 1048576) (hv : pnP S M) : Calls Try.prog 13 #[.agg #[.slice A S.length c, .slice A' M.length c'], .int .i64 i] w fun e w' => e = .returned (.int .i64 (lineM S i)) ∧ Below w.heap.size w w' := by
  have HP := Lib.hid hv
  clear hv
  have HX := Lib.hid (newS w (.cells #[.slice A S.length c, .slice A' M.length c'] 27))
  have HB := Lib.hid (balloc (o := .cells #[.slice A S.length c, .slice A' M.length c'] 27) (Below.refl w.heap.size w))
  have HN := Lib.hid (h.keep HB.out)
  have HN' := Lib.hid (h'.keep HB.out)
  clear h h'
  go_enter Try.func13, Try.ntmps13
  go_wp2_with fail
  with_reducible refine (svalidPanes_v _ _ _ _ _ _ S M true _ HN.out HN'.out rfl rfl hL hm (by simp [HP.out])).mono ?_
  rintro e w1 ⟨rfl, hb⟩
  replace HX := Lib.hid ((hb.block _ (ltS HX.out)).trans HX.out)
  replace HN := Lib.hid (HN.out.keep hb)
  replace HN' := Lib.hid (HN'.out.keep hb)
  replace HB := Lib.hid (bkeep2 HB.out hb)
  clear hb
  have k0 : w1.cell? ⟨w.heap.size, 0, none⟩ = some (.slice A S.length c) := (cellS HX.out 0).trans rfl
  have k1 : w1.cell? ⟨w.heap.size, 1, none⟩ = some (.slice A' M.length c') := (cellS HX.out 1).trans rfl
  go_wp2_with fail
  with_reducible refine (slineAt_w A c S.length S i _ HN.out rfl (by have := HP.out.six; omega) HP.out.smal.1 (fun x hx => (HP.out.mem.1 x hx).1)).mono ?_
  rintro e w2 ⟨rfl, hb⟩
  clear k0 k1
  replace HX := Lib.hid ((hb.block _ (ltS HX.out)).trans HX.out)
  replace HN := Lib.hid (HN.out.keep hb)
  replace HN' := Lib.hid (HN'.out.keep hb)
  replace HB := Lib.hid (bkeep2 HB.out hb)
  clear hb
  go_wp2
  go_ret
  exact ⟨rfl, HB.out⟩
end Go.Proofs.Ytpbfbcdidkbjiab
end
section
namespace Go.Proofs.Ytpbfbcdidkbjiab
open Go Go.RowKit
set_option linter.unusedVariables false
section
variable {P : Program}
def XV (u : Value) : Value → World → Prop := fun v _ => v = u
def XT : Value → World → Prop := fun _ _ => True
/-- what stays true when memory is made -/
def Stay (T : Value → World → Prop) : Prop := ∀ v a b, T v a → Gr a b → T v b
theorem stay_V (u : Value) : Stay (XV u) := fun _ _ _ h _ => h
theorem stay_T : Stay XT := fun _ _ _ _ _ => trivial
theorem stay_of {F : Value → World → Prop} (h : ∀ v a b, F v a → Below a.heap.size a b → F v b) : Stay F := fun v a b x g => h v a b x g.out
theorem stay_list {l : List (Value → World → Prop)} (h : ∀ T ∈ l, Stay T) : ∀ k v a b, (l.getD k XT) v a → Gr a b → (l.getD k XT) v b := by
  intro k v a b hv g
  rw [List.getD_eq_getElem?_getD] at *
  cases hk : l[k]? with
  | none => trivial
  | some T => rw [hk] at hv; exact h T (List.mem_of_getElem? hk) v a b hv g
def GIx (_ : Nat) (_ : World) : Prop := True
theorem gx_gen {K : Value → World → Prop} {r : Result Next} (h : ∀ K' : Value → World → Prop, (∀ v w', K v w' → K' v w') → givesUpon P K' r) : givesUpon P K r := h K fun _ _ h => h
theorem lookD_imp {T : Nat → Value → World → Prop} {a0 a : Act} {w : World} {G G' : Prop} (hG : G → G') : ∀ {ds : List (Tmp × Option Nat)}, lookD T a0 a w ds G → lookD T a0 a w ds G'
  | [], h => hG h
  | (t, some j) :: r, h => fun x => lookD_imp (ds := r) hG (h x)
  | (t, none) :: r, h => fun x => lookD_imp (ds := r) hG (h x)
theorem givesUpon_imp {K K' : Value → World → Prop} (hK : ∀ v w, K v w → K' v w) {r : Result Next} (h : givesUpon P K r) : givesUpon P K' r := by
  unfold givesUpon at *
  split at h
  · exact hK _ _ h
  · exact hK _ _ h
  · exact h.mono fun e w' ⟨v, e1, e2⟩ => ⟨v, e1, hK _ _ e2⟩
  · exact h.elim
theorem opOK_rx {ops : List Oper} {T : Nat → Value → World → Prop} {a0 : Act} {w0 : World} {k : Nat} {o : Oper} (ds : List (Tmp × Option Nat)) (hB : dsB ops o ds = true) (hg : o.guard = none)
    (h : ∀ (a : Act) (w : World), Gr w0 w → lookD T a0 a w ds (givesUpon P (fun v w' => T k v w' ∧ Gr w w') ((execOp a.eval o).run P w))) : opOK P ops T Gr GIx a0 w0 k o :=
  opOK_ds ds hB hg fun m a w _ hR _ => lookD_imp (fun x => givesUpon_imp (fun v w' ⟨h1, h2⟩ => ⟨h1, h2, trivial⟩) x) (h a w hR)
theorem wp_region_rx {id : Nat} {l : List Oper} {Q : Exit → Act → World → Prop} {a0 : Act} {w : World} (tl : List (Value → World → Prop))
    (hm : P.follows .mixedOrders = true) (hB : rgB l a0.tmps.size = true) (hTs : ∀ T ∈ tl, Stay T)
    (hops : opsOK P l (fun k => tl.getD k XT) Gr GIx a0 w.drew l 0) (hfin : ∀ w', Gr w.drew w' → finP (fun k => tl.getD k XT) w' (fun a' => Q .normal a' w') l 0 a0) : (Code.region id l.toArray true).wp P Q a0 w :=
  wp_region_rgl (fun k => tl.getD k XT) Gr GIx hm hB Gr.refl (fun _ _ _ h k => h.trans k) (stay_list hTs) trivial hops fun w' h _ => hfin w' h
end
end Go.Proofs.Ytpbfbcdidkbjiab
end
