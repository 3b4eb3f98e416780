import Derived.Test.YtjdjahckdgbkbaeDoorQ07
section
namespace Go.Proofs.YtjdjahckdgbkbaeDoor
open Go.RowKit
set_option linter.unusedVariables false
set_option maxHeartbeats 1000000
attribute [local go_sem 5000] run_mx run_mn
attribute [local go_sem] growUpon_value growUpon_skip growUpon_enter
theorem cellOf {w w' : World} {g : Nat} {p : Addr} {v : Value} (h : w.grownBy w' (some g)) (hb : p.block < w.heap.size) (hne : p.block ≠ g) (hv : w.cell? p = some v) : w'.cell? p = some v := by
  have := h.block p.block hb (fun e => hne (Option.some.inj e))
  exact (World.cell?_of_block this).trans hv
theorem copy_n (A : Option Addr) (c n : Nat) (L : List Int) (w : World) (h : NV w A L) (hn : n = L.length) (h1 : 1 ≤ L.length) (hL : L.length ≤ 1048576) :
    Calls Tryd.prog 41 #[.slice A n c] w fun e w' => (∃ g cap, e = .returned (.slice (some ⟨g, 0, none⟩) L.length cap) ∧ w.heap.size ≤ g ∧ OB w' g cap L) ∧ Below w.heap.size w w' := by
  refine (copy_v A c n L w h hn h1 hL).mono ?_
  rintro e w' ⟨⟨v, rfl, g, cap, rfl, hg, ho⟩, hb⟩
  exact ⟨⟨g, cap, rfl, hg, ho⟩, hb⟩
set_option maxRecDepth 100000 in
theorem taken_v (A A' : Option Addr) (c c' : Nat) (S M : List Int) (n i d : Int) (t : List Nat) (w : World) (h : NV w A S) (h' : NV w A' M) (hgp : GP M S) (hl0 : 1 ≤ S.length) (hl : S.length ≤ 6) (hd : d = 1 ∨ d = -1) (ht : Rem S.length d i t) (hi0 : -1 ≤ i) (hi1 : i ≤ S.length) (hn0 : 0 ≤ n) (hn1 : n ≤ 1000) :
    Calls Tryd.prog 42 #[.agg #[.slice A S.length c, .slice A' M.length c'], .int .i64 i, .int .i64 d, .int .i64 n] w fun e w' => (∃ g cap, e = .returned (.tuple #[.slice (some ⟨g, 0, none⟩) S.length cap, .int .i64 (goL M t S n).2]) ∧ w.heap.size ≤ g ∧ OB w' g cap (goL M t S n).1) ∧ Below w.heap.size w w' := by
  have HG := Lib.hid hgp
  have HT := Lib.hid ht
  have HLM := Lib.hid (hgp.1.symm : M.length = S.length)
  obtain ⟨F, hF⟩ : ∃ F, goL M t S n = F := ⟨_, rfl⟩
  rw [hF]
  have HF := Lib.hid hF
  obtain ⟨b', off', rfl, hb0', -⟩ := h'.cells (by have := HLM.out; omega)
  have hd0 : -1 ≤ d := by omega
  have hd1 : d ≤ 1 := by omega
  have HD := Lib.hid hd
  have hb0 : Below w.heap.size w (w.alloc (.cells #[.slice A S.length c, .slice (some ⟨b', off', none⟩) M.length c'] 35 (0, 0))) := balloc (Below.refl _ _)
  have HN := Lib.hid (h.keep hb0)
  have HN' := Lib.hid (h'.keep hb0)
  have HB := Lib.hid hb0
  have HX := Lib.hid (newS w (.cells #[.slice A S.length c, .slice (some ⟨b', off', none⟩) M.length c'] 35 (0, 0)))
  clear hgp ht hF hd h h' hb0
  go_enter Tryd.func42, Tryd.ntmps42
  go_wp2_with fail
  with_reducible refine (copy_n A c S.length S _ HN.out rfl hl0 (by omega)).mono ?_
  rintro e w1 ⟨⟨g, cap, rfl, hg, ho⟩, hb⟩
  rw [World.size_alloc] at hg
  replace HX := Lib.hid ((hb.block _ (ltS HX.out)).trans HX.out)
  replace HN' := Lib.hid (HN'.out.keep hb)
  replace HB := Lib.hid (bkeep2 HB.out hb)
  have HO := Lib.hid ho
  have hw1 := HB.out.size
  clear hb ho HN
  go_wp2_with fail
  go_loopw [3, 11] (fun r i wr => ∃ (r' i' : Int) (t' : List Nat) (O : List Int), r = .int .i64 r' ∧ i = .int .i64 i' ∧ Rem S.length d i' t' ∧ goL M t' O r' = F ∧ GP M O ∧ (0 ≤ r' ∧ r' ≤ 1000) ∧ (-1 ≤ i' ∧ i' ≤ S.length) ∧ OB wr g cap O ∧ w1.grownBy wr (some g)) (fun _ i _ => (if d = 1 then (S.length : Int) - intOf i else intOf i + 1).toNat)
  case atStart => exact ⟨n, i, t, S, rfl, rfl, HT.out, HF.out, HG.out, ⟨hn0, hn1⟩, ⟨hi0, hi1⟩, HO.out, greflP _ _⟩
  case round =>
    obtain ⟨r', i', t', O, rfl, rfl, hrem, hfin, hgp, ⟨hr0, hr1⟩, ⟨hj0, hj1⟩, ho, hgr⟩ := hrel
    have hlO : O.length = S.length := by have := hgp.1; have := HLM.out; omega
    have hpc := (hgr.block w.heap.size (ltS HX.out) (fun e => absurd (Option.some.inj e) (by omega))).trans HX.out
    have k1 : wr.cell? ⟨w.heap.size, 1, none⟩ = some (.slice (some ⟨b', off', none⟩) M.length c') := (cellS hpc 1).trans rfl
    have HO' := Lib.hid ho
    have HGR := Lib.hid hgr
    have HGP := Lib.hid hgp
    have HFI := Lib.hid hfin
    have HPC := Lib.hid hpc
    clear hpc ho hgr hgp hfin HO HG HT HF
    match t', hrem with
    | [], hrem =>
      have hfe : (O, r') = F := HFI.out
      have hno : ¬ (0 ≤ i' ∧ i' < S.length) := hrem
      have HB2 := Lib.hid (below_gP HB.out HGR.out (by omega))
      clear hrem
      by_cases h0 : i' ≥ 0
      · have h1 : ¬ i' < S.length := by omega
        clear hno
        go_wp2
        go_ret2
        exact ⟨⟨g, cap, by rw [← hfe]; rfl, by omega, by rw [← hfe]; exact HO'.out⟩, HB2.out⟩
      · clear hno
        go_wp2
        go_ret2
        exact ⟨⟨g, cap, by rw [← hfe]; rfl, by omega, by rw [← hfe]; exact HO'.out⟩, HB2.out⟩
    | k :: t2, hrem =>
      obtain ⟨rfl, hk, hrem2⟩ := hrem
      have hk0 : (k : Int) ≥ 0 := by omega
      have hkd : (k : Int) < S.length := by omega
      by_cases hpos : r' > 0
      rotate_left
      · have hr' : r' = 0 := by omega
        have hfe : (O, r') = F := by have := HFI.out; rw [hr', goL_zero _ HGP.out] at this; rw [hr']; exact this
        have HB2 := Lib.hid (below_gP HB.out HGR.out (by omega))
        clear hrem2 hr'
        go_wp2
        go_ret2
        exact ⟨⟨g, cap, by rw [← hfe]; rfl, by omega, by rw [← hfe]; exact HO'.out⟩, HB2.out⟩
      have hd1' : decide ((k : Int) < (S.length : Int)) = true := by simpa using hk
      have hd2' : decide ((k : Int) < (M.length : Int)) = true := by rw [HLM.out]; simpa using hk
      have hkO : k < O.length := by omega
      have hkM : k < M.length := by have := HLM.out; omega
      obtain ⟨b2, off2, hA', hb', hp'⟩ := HN'.out.cells (by have := HLM.out; omega)
      cases hA'
      have hne' : b' ≠ g := by omega
      have e1 : O[k]? = some O[k] := List.getElem?_eq_getElem hkO
      have e2 : M[k]? = some M[k] := List.getElem?_eq_getElem hkM
      have d1 := gapD e1
      have d2 := gapD e2
      obtain ⟨b1, b2, b3⟩ := HGP.out.2 k _ _ e1 e2
      have c1 := HO'.out.cell e1
      have c2 := cellOf (p := ⟨b', off' + k, none⟩) HGR.out hb' hne' (hp' k _ e2)
      generalize O[k] = o at *
      generalize M[k] = m at *
      have hgap : gapI M O k = o - m := by rw [gapI, d1, d2]
      have hstep : goL M t2 (O.set k (o - mn r' (o - m))) (r' - mn r' (o - m)) = F := by have := HFI.out; rw [goL, hgap, d1] at this; exact this
      have hmn := mn_spec r' (o - m)
      have hgs := HGP.out.step k (k := mn r' (o - m)) (by omega) (by rw [hgap]; omega)
      rw [d1] at hgs
      obtain ⟨x, hx⟩ : ∃ x, mn r' (o - m) = x := ⟨_, rfl⟩
      have hx0 : 0 ≤ x := by omega
      have hx1 : x ≤ r' := by omega
      have hx2 : x ≤ o - m := by omega
      have wo : IntKind.i64.wrap (o - m) = o - m := IntWalk.i64_in _ (by omega)
      rw [hx] at hstep hgs
      have HGS := Lib.hid hgs
      have HST := Lib.hid hstep
      have HRM := Lib.hid hrem2
      clear hgs hstep hmn hgap e1 e2 d1 d2 HFI hrem2 hp'
      go_wp2_with fail
      refine wp_region_grow 13 0 (· < 13) (by kernel_rfl) (by kernel_rfl) rfl ?_
      iterate 13 (refine wpG_step (fun K hK => ?_); first | (refine grow_skip rfl ?_; go_simp; refine hK _ ?_; clear hK K) | (apply Exists.intro; refine ⟨.inl ⟨rfl, fun w' hw' => ?_⟩, ?_⟩; (focus ((obtain ⟨hc, hf⟩ := bcell hw'.out); (have hcS := bcellS hw'.out); go_simp <;> first | rfl | fail)); (go_simp; refine hK _ ?_; clear hK K)))
      refine wpG_nil ?_
      refine wpK_tail (by kernel_rfl) (fun w9 hg9 => ?_)
      have hb9 := bdrewn hg9.out
      refine wpAny_end (by kernel_rfl) ?_
      refine NoPan.thn ?_
      clear hg9
      have HO9 := Lib.hid (HO'.out.keep hb9)
      have HG9 := Lib.hid (gkeepP HGR.out hb9)
      have c19 := (hb9.cell (p := ⟨g, k, none⟩) HO'.out.lt).trans c1
      have f9 := HO9.out.frozen k
      have HOS := Lib.hid (HO9.out.set k (o - x) hkO)
      have HGS2 := Lib.hid (gsetP HG9.out k (.int .i64 (o - x)))
      clear hb9 k1 c1 c2 HO' HGR HGP
      go_wp2
      go_roundw
      case rel => exact ⟨r' - x, k + d, t2, O.set k (o - x), by go_num, by go_num, HRM.out, HST.out, HGS.out, ⟨by omega, by omega⟩, ⟨by omega, by omega⟩, HOS.out, HGS2.out⟩
      case measure =>
        rcases HD.out with rfl | rfl
        · simp [intOf]; omega
        · simp [intOf]; omega
end Go.Proofs.YtjdjahckdgbkbaeDoor
end
section
namespace Go.Proofs.YtjdjahckdgbkbaeDoor
open Go.RowKit
set_option linter.unusedVariables false
set_option maxHeartbeats 1000000
attribute [local go_sem 5000] run_mx run_mn
attribute [local go_sem] growUpon_value growUpon_skip growUpon_enter
theorem HN0M {w1 : World} {g j : Nat} {x : Value} {A' : Option Addr} {M : List Int} {N0 : Nat} (h : NV w1 A' M) (hn : ∀ a, A' = some a → a.block < N0) (hg : N0 ≤ g) : NV (w1.setCell ⟨g, j, none⟩ x) A' M :=
  ⟨fun h0 => let ⟨b, off, e, hl, hp⟩ := h.cells h0; ⟨b, off, e, by simpa [World.setCell] using hl, fun i y hy => (World.cell?_of_block (Below.heap_setCell w1 ⟨g, j, none⟩ x b (by have := hn _ e; show b ≠ g; simp at this; omega))).trans (hp i y hy)⟩⟩
theorem nv_old {w : World} {A : Option Addr} {L : List Int} (h : NV w A L) (h0 : 0 < L.length) : ∀ a, A = some a → a.block < w.heap.size := fun a ha => by
  obtain ⟨b, off, e, hl, _⟩ := h.cells h0
  rw [e] at ha
  cases ha
  exact hl
end Go.Proofs.YtjdjahckdgbkbaeDoor
end
section
namespace Go.Proofs.YtjdjahckdgbkbaeDoor
set_option linter.unusedVariables false
theorem sumI_nn {L : List Int} (h : ∀ x ∈ L, 0 ≤ x) : 0 ≤ sumI L := by
  induction L with
  | nil => simp [sumI]
  | cons x t ih =>
    have h1 := h x List.mem_cons_self
    have h2 := ih (fun y hy => h y (List.mem_cons_of_mem _ hy))
    simp only [sumI]; omega
theorem lnAt_spec : ∀ (S : List Int) (a p i : Int), (∀ x ∈ S, 0 ≤ x) → (lnAt S a p i = -1 ∧ (p < a ∨ a + sumI S ≤ p)) ∨ ∃ (k : Nat) (s : Int), lnAt S a p i = i + k ∧ S[k]? = some s ∧ a + sumI (S.take k) ≤ p ∧ p < a + sumI (S.take k) + s
  | [], a, p, i, _ => .inl ⟨rfl, by simp [sumI]; omega⟩
  | s :: t, a, p, i, h => by
    have hs := h s List.mem_cons_self
    by_cases hc : a ≤ p ∧ p < a + s
    · right
      exact ⟨0, s, by rw [lnAt, if_pos hc]; simp, rfl, by simp [sumI]; omega, by simp [sumI]; omega⟩
    · rcases lnAt_spec t (a + s) p (i + 1) (fun x hx => h x (List.mem_cons_of_mem _ hx)) with ⟨h1, h2⟩ | ⟨k, s', h1, h2, h3, h4⟩
      · left
        refine ⟨by rw [lnAt, if_neg hc]; exact h1, ?_⟩
        simp only [sumI]
        omega
      · right
        refine ⟨k + 1, s', by rw [lnAt, if_neg hc, h1]; simp; omega, by simpa using h2, ?_, ?_⟩
        · simp only [List.take_succ_cons, sumI]; omega
        · simp only [List.take_succ_cons, sumI]; omega
theorem pane_spec {S M : List Int} (h : pnP S M) (p : Int) : (lineM S p = -1 ∧ (p < 0 ∨ sumI S ≤ p)) ∨ ∃ (k : Nat) (s : Int), lineM S p = k ∧ S[k]? = some s ∧ sumI (S.take k) ≤ p ∧ p < sumI (S.take k) + s := by
  rcases lnAt_spec S 0 p 0 (fun x hx => (h.mem.1 x hx).1) with ⟨h1, h2⟩ | ⟨k, s, h1, h2, h3, h4⟩
  · exact .inl ⟨h1, by omega⟩
  · exact .inr ⟨k, s, by rw [lineM, h1]; omega, h2, by omega, by omega⟩
theorem take_le {S : List Int} (h : ∀ x ∈ S, 0 ≤ x) (j k : Nat) (hjk : j ≤ k) : sumI (S.take j) ≤ sumI (S.take k) := by
  have e : S.take k = S.take j ++ (S.take k).drop j := by
    have := (List.take_append_drop j (S.take k)).symm
    rwa [List.take_take, Nat.min_eq_left hjk] at this
  rw [e, sumI_append]
  have := sumI_nn (L := (S.take k).drop j) (fun x hx => h x (List.mem_of_mem_take (List.mem_of_mem_drop hx)))
  omega
theorem take_all {S : List Int} (h : ∀ x ∈ S, 0 ≤ x) (j : Nat) : 0 ≤ sumI (S.take j) ∧ sumI (S.take j) ≤ sumI S := by
  refine ⟨sumI_nn (fun x hx => h x (List.mem_of_mem_take hx)), ?_⟩
  have := take_le h j (max j S.length) (by omega)
  rwa [List.take_of_length_le (i := max j S.length) (by omega)] at this
end Go.Proofs.YtjdjahckdgbkbaeDoor
end
section
namespace Go.Proofs.YtjdjahckdgbkbaeDoor
set_option linter.unusedVariables false
theorem sum_split (L : List Int) (n : Nat) : sumI (L.take n) + sumI (L.drop n) = sumI L := by
  rw [← sumI_append, List.take_append_drop]
theorem mem_le_sumP {L : List Int} (h : ∀ x ∈ L, 0 ≤ x) : ∀ x ∈ L, x ≤ sumI L := by
  induction L with
  | nil => simp
  | cons a t ih =>
    intro x hx
    have ha := h a List.mem_cons_self
    have ht := sumI_nn (L := t) (fun y hy => h y (List.mem_cons_of_mem _ hy))
    simp only [sumI]
    rcases List.mem_cons.1 hx with rfl | hx
    · omega
    · have := ih (fun y hy => h y (List.mem_cons_of_mem _ hy)) x hx
      omega
theorem dropEq {A B : List Int} (n : Nat) (h : ∀ i, n ≤ i → A[i]? = B[i]?) : A.drop n = B.drop n := by
  apply List.ext_getElem?
  intro i
  rw [List.getElem?_drop, List.getElem?_drop]
  exact h _ (by omega)
theorem takeEq {A B : List Int} (n : Nat) (h : ∀ i, i < n → A[i]? = B[i]?) : A.take n = B.take n := by
  apply List.ext_getElem?
  intro i
  rw [List.getElem?_take, List.getElem?_take]
  split
  · exact h _ (by assumption)
  · rfl
/-- what a dragged sash is like -/
structure DSp (S M R : List Int) (k : Nat) (y : Int) : Prop where
  pn : pnP R M
  len : R.length = S.length
  sum : sumI R = sumI S
  up : 0 ≤ y → sumI (S.take (k + 1)) ≤ sumI (R.take (k + 1)) ∧ sumI (R.take (k + 1)) ≤ sumI (S.take (k + 1)) + y
  dn : y < 0 → sumI (R.take (k + 1)) ≤ sumI (S.take (k + 1)) ∧ sumI (S.take (k + 1)) + y ≤ sumI (R.take (k + 1))
  far : sumI (R.take (k + 1)) ≠ sumI (S.take (k + 1)) + y → y ≠ 0 ∧ ∀ i, i < R.length → (0 < y ∧ k < i ∨ y < 0 ∧ i ≤ k) → R[i]? = M[i]?
theorem nvD {L : List Int} {i : Nat} (h : i < L.length) : L[i]? = some (L.getD i 0) := by
  rw [List.getD_eq_getElem?_getD, List.getElem?_eq_getElem h]; rfl
theorem drag_gen {S M O R : List Int} {way : List Nat} {ask s : Int} {h : Nat} (hv : pnP S M) (hg : GoS M S O way ask s) (hh : h < S.length) (hn : h ∉ way) (hR : R = O.set h (O.getD h 0 + (ask - s))) :
    pnP R M ∧ R.length = S.length ∧ sumI R = sumI S ∧ O.length = S.length ∧ (∀ i, i ≠ h → R[i]? = O[i]?) := by
  have hol : O.length = S.length := by rw [hg.gp.1, hv.len]
  have hrl : R.length = S.length := by rw [hR, List.length_set]; exact hol
  have hsum : sumI R = sumI S := by
    have e1 := sumI_set (O := O) (i := h) (O.getD h 0 + (ask - s)) (by omega)
    have e2 := hg.sum
    rw [hR]
    omega
  have hne : ∀ i, i ≠ h → R[i]? = O[i]? := fun i hi => by rw [hR, List.getElem?_set_ne (Ne.symm hi)]
  have hat : ∀ (i : Nat) (x m : Int), R[i]? = some x → M[i]? = some m → 0 ≤ m ∧ m ≤ 30 ∧ m ≤ x := fun i x m hx hm => by
    have hmm := hv.mem.2 m (List.mem_of_getElem? hm)
    refine ⟨hmm.1, hmm.2, ?_⟩
    by_cases e : i = h
    · subst e
      have ho : O[i]? = some (O.getD i 0) := nvD (by omega)
      have := hg.gp.2 i _ m ho hm
      rw [hR, List.getElem?_set_self (by omega)] at hx
      have hx := Option.some.inj hx
      have := hg.hi
      omega
    · rw [hne i e] at hx
      have := hg.gp.2 i x m hx hm
      omega
  have hnn : ∀ x ∈ R, 0 ≤ x := fun x hx => by
    obtain ⟨i, hi, rfl⟩ := List.getElem_of_mem hx
    have hm : i < M.length := by have := hv.len; omega
    have := hat i _ M[i] (List.getElem?_eq_getElem hi) (List.getElem?_eq_getElem hm)
    omega
  have hle := mem_le_sumP hnn
  have hs4 := hv.sum
  refine ⟨⟨by have := hv.one; omega, by have := hv.six; omega, by have := hv.len; omega, fun i x m hx hm => ?_, by omega⟩, hrl, hsum, hol, hne⟩
  have h1 := hat i x m hx hm
  have h2 := hle x (List.mem_of_getElem? hx)
  unfold okP
  omega
theorem drag_spec {S M : List Int} (hv : pnP S M) {k : Nat} {y : Int} (hk : k + 1 < S.length) : DSp S M (dragM S M k y) k y := by
  by_cases hy : y < 0
  · have hg := goL_spec (downs (k + 1)) (GP.of hv) (r := -y) (by omega) (fun i hi => by have := downs_lt.1 hi; omega)
    have hR := dragM_neg (S := S) (M := M) (k := k) hy
    obtain ⟨O, hO⟩ : ∃ O, (goL M (downs (k + 1)) S (-y)).1 = O := ⟨_, rfl⟩
    obtain ⟨s, hs⟩ : ∃ s, (goL M (downs (k + 1)) S (-y)).2 = s := ⟨_, rfl⟩
    rw [hO, hs] at hg hR
    obtain ⟨R, hRR⟩ : ∃ R, dragM S M k y = R := ⟨_, rfl⟩
    rw [hRR] at hR ⊢
    clear hO hs hRR
    obtain ⟨g1, g2, g3, g4, g5⟩ := drag_gen hv hg hk (fun h => by have := downs_lt.1 h; omega) hR
    have e1 : R.take (k + 1) = O.take (k + 1) := takeEq _ fun i hi => g5 i (by omega)
    have e2 : O.drop (k + 1) = S.drop (k + 1) := dropEq _ fun i hi => hg.out i (fun h => by have := downs_lt.1 h; omega)
    have e3 := sum_split O (k + 1)
    have e4 := sum_split S (k + 1)
    have e5 := hg.sum
    have e6 := hg.hi
    have e7 := hg.lo
    rw [e2] at e3
    have e8 : sumI (R.take (k + 1)) = sumI (S.take (k + 1)) + y + s := by rw [e1]; omega
    refine ⟨g1, g2, g3, fun h => by omega, fun _ => by omega, fun hne => ⟨by omega, fun i hi hc => ?_⟩⟩
    have hik : i ≤ k := by omega
    have hf := hg.far (by omega) i (downs_lt.2 (by omega))
    have hm : i < M.length := by have := hv.len; omega
    rw [g5 i (by omega), nvD (by omega), nvD hm, hf]
  · have hg := goL_spec (List.range' (k + 1) (S.length - (k + 1))) (GP.of hv) (r := y) (by omega) (fun i hi => by rw [List.mem_range'_1] at hi; omega)
    have hR := dragM_pos (S := S) (M := M) (k := k) hy
    obtain ⟨O, hO⟩ : ∃ O, (goL M (List.range' (k + 1) (S.length - (k + 1))) S y).1 = O := ⟨_, rfl⟩
    obtain ⟨s, hs⟩ : ∃ s, (goL M (List.range' (k + 1) (S.length - (k + 1))) S y).2 = s := ⟨_, rfl⟩
    rw [hO, hs] at hg hR
    obtain ⟨R, hRR⟩ : ∃ R, dragM S M k y = R := ⟨_, rfl⟩
    rw [hRR] at hR ⊢
    clear hO hs hRR
    obtain ⟨g1, g2, g3, g4, g5⟩ := drag_gen hv hg (by omega : k < S.length) (fun h => by rw [List.mem_range'_1] at h; omega) hR
    have e1 : R.drop (k + 1) = O.drop (k + 1) := dropEq _ fun i hi => g5 i (by omega)
    have e2 : O.take (k + 1) = S.take (k + 1) := takeEq _ fun i hi => hg.out i (fun h => by rw [List.mem_range'_1] at h; omega)
    have e3 := sum_split O (k + 1)
    have e4 := sum_split R (k + 1)
    have e5 := hg.sum
    have e6 := hg.hi
    have e7 := hg.lo
    rw [e2] at e3
    rw [e1] at e4
    have e8 : sumI (R.take (k + 1)) = sumI (S.take (k + 1)) + y - s := by omega
    refine ⟨g1, g2, g3, fun _ => by omega, fun h => by omega, fun hne => ⟨by omega, fun i hi hc => ?_⟩⟩
    have hik : k < i := by omega
    have hf := hg.far (by omega) i (by rw [List.mem_range'_1]; omega)
    have hm : i < M.length := by have := hv.len; omega
    rw [g5 i (by omega), nvD (by omega), nvD hm, hf]
end Go.Proofs.YtjdjahckdgbkbaeDoor
end
section
namespace Go.Proofs.YtjdjahckdgbkbaeDoor
open Go Go.RowKit
set_option linter.unusedVariables false
set_option maxHeartbeats 1000000
section
variable {P : Program} {md : Region.Mode} {ops : Array Oper} {Q : Exit → Act → World → Prop}
theorem wpAny_oneG {f : Nat} {listed : Array Bool} {a : Act} {w : World} {i : Nat} {o : Oper} (hr : Region.ready md ops listed = [i]) (ho : ops[i]? = some o) (hg : Region.wanted o (yielded ops a.tmps) = true)
    (h : o.wp P a w (wpAny P md ops Q f (listed.setIfInBounds i true)) Q) : wpAny P md ops Q (f + 1) listed a w :=
  ⟨fun h0 => (by rw [hr] at h0; cases h0), fun j hj => by
    rw [hr] at hj
    obtain rfl := List.mem_singleton.1 hj
    unfold wpOp
    simp only [ho]
    rw [if_pos hg]
    exact .inl h⟩
end
theorem prnil (w : World) : PR w (.agg #[.slice none 0 0, .slice none 0 0]) [] [] := ⟨_, _, rfl, ⟨none, 0, rfl, NV.nil _ _⟩, ⟨none, 0, rfl, NV.nil _ _⟩⟩
theorem total_B (A : Option Addr) (c : Nat) (L : List Int) (w : World) (h : NV w A L) (hL : L.length ≤ 1048576) (hM : Smal 1000000000000000 L) :
    Calls Tryd.prog 17 #[.slice A L.length c] w fun e w' => e = .returned (.int .i64 (sumI L)) ∧ Below w.heap.size w w' := (ltotal_v A c L w h hL hM).mono fun e w' ⟨h1, h2⟩ => ⟨h1, h2 ▸ Below.refl _ _⟩
set_option maxRecDepth 100000 in
theorem equalPanes_same (v v' : Value) (S M : List Int) (w : World) (h : PR w v S M) (h' : PR w v' S M) (hL : S.length ≤ 1048576) (hL' : M.length ≤ 1048576) :
    Calls Tryd.prog 15 #[v, v'] w fun e w' => e = .returned (.bool true) ∧ Below w.heap.size w w' := by
  obtain ⟨a, b, rfl, ⟨A, c, rfl, h1⟩, ⟨A', c', rfl, h2⟩⟩ := h
  obtain ⟨a, b, rfl, ⟨B, d, rfl, h3⟩, ⟨B', d', rfl, h4⟩⟩ := h'
  have hb2 : Below w.heap.size w ((w.alloc (.cells #[.slice A S.length c, .slice A' M.length c'] 35 (0, 0))).alloc (.cells #[.slice B S.length d, .slice B' M.length d'] 35 (0, 0))) := balloc (balloc (Below.refl _ _))
  go_enter Tryd.func15, Tryd.ntmps15
  go_upto_region 1 with (fail)
  refine wpL2 (fun W => W.heap[w.heap.size]? = some (.cells #[.slice A S.length c, .slice A' M.length c'] 35 (0, 0)) ∧ W.heap[w.heap.size + 1]? = some (.cells #[.slice B S.length d, .slice B' M.length d'] 35 (0, 0)) ∧ NV W A S ∧ NV W A' M ∧ NV W B S ∧ NV W B' M ∧ Below w.heap.size w W) ⟨oldL1 _ _ _, newL1 _ _ _, h1.keep hb2, h2.keep hb2, h3.keep hb2, h4.keep hb2, hb2⟩ ?_
  clear h1 h2 h3 h4 hb2
  rintro w0 ⟨hx, hy, n1, n2, n3, n4, hB⟩
  have HX := Lib.hid hx
  have HY := Lib.hid hy
  have HB := Lib.hid hB
  have H2 := Lib.hid n2
  have H4 := Lib.hid n4
  obtain ⟨c0, c1⟩ := c2L hx
  obtain ⟨d0, d1⟩ := c2L hy
  clear hx hy hB n2 n4
  go_wp2_with fail
  with_reducible refine (equalInts_z _ _ S _ (nrOf c n1) (nrOf d n3) hL).mono ?_
  rintro e w1 ⟨rfl, hb⟩
  clear c0 c1 d0 d1 n1 n3
  replace HX := Lib.hid ((hb.block _ (ltS HX.out)).trans HX.out)
  replace HY := Lib.hid ((hb.block _ (ltS HY.out)).trans HY.out)
  replace H2 := Lib.hid (H2.out.keep hb)
  replace H4 := Lib.hid (H4.out.keep hb)
  replace HB := Lib.hid (bkeep2 HB.out hb)
  clear hb
  obtain ⟨c0, c1⟩ := c2L HX.out
  obtain ⟨d0, d1⟩ := c2L HY.out
  go_wp2_with fail
  with_reducible refine (equalInts_z _ _ M _ (nrOf c' H2.out) (nrOf d' H4.out) hL').mono ?_
  rintro e w2 ⟨rfl, hb⟩
  replace HB := Lib.hid (bkeep2 HB.out hb)
  clear hb c0 c1 d0 d1
  go_wp2
  go_ret
  exact ⟨rfl, HB.out⟩
end Go.Proofs.YtjdjahckdgbkbaeDoor
end
section
namespace Go.Proofs.YtjdjahckdgbkbaeDoor
set_option linter.unusedVariables false
/-! Panes with another size in all. -/
theorem sum_mono : ∀ {A B : List Int}, A.length = B.length → (∀ (i : Nat) (a b : Int), A[i]? = some a → B[i]? = some b → a ≤ b) → sumI A ≤ sumI B
  | [], [], _, _ => Int.le_refl _
  | [], _ :: _, h, _ => by simp at h
  | _ :: _, [], h, _ => by simp at h
  | a :: A, b :: B, h, k => by
    have h0 := k 0 a b rfl rfl
    have h1 := sum_mono (A := A) (B := B) (by simpa using h) (fun i x y hx hy => k (i + 1) x y (by simpa using hx) (by simpa using hy))
    simp only [sumI]; omega
theorem pn_of {S M R : List Int} (hv : pnP S M) (hl : R.length = S.length) (hat : ∀ (i : Nat) (x m : Int), R[i]? = some x → M[i]? = some m → m ≤ x) (hs : sumI R ≤ 400) : pnP R M := by
  have hm : ∀ m ∈ M, 0 ≤ m ∧ m ≤ 30 := hv.mem.2
  have hnn : ∀ x ∈ R, 0 ≤ x := fun x hx => by
    obtain ⟨i, hi, rfl⟩ := List.getElem_of_mem hx
    have hi' : i < M.length := by have := hv.len; omega
    have h1 := hat i _ M[i] (List.getElem?_eq_getElem hi) (List.getElem?_eq_getElem hi')
    have h2 := hm _ (List.getElem_mem hi')
    omega
  have hle := mem_le_sumP hnn
  refine ⟨by have := hv.one; omega, by have := hv.six; omega, by have := hv.len; omega, fun i x m hx hmm => ?_, hs⟩
  have h1 := hat i x m hx hmm
  have h2 := hle x (List.mem_of_getElem? hx)
  have h3 := hm m (List.mem_of_getElem? hmm)
  unfold okP
  omega
def resO (S M : List Int) (room : Int) : List Int × Int := goL M (downs S.length) S (-(room - sumI S))
def resB (S M : List Int) (room : Int) : Bool := if 0 ≤ room - sumI S then true else decide ((resO S M room).2 ≤ 0)
def resM (S M : List Int) (room : Int) : List Int := if 0 ≤ room - sumI S then S.set (S.length - 1) (S.getD (S.length - 1) 0 + (room - sumI S)) else (resO S M room).1
structure RSp (S M R : List Int) (room : Int) (t : Bool) : Prop where
  iff : t = true ↔ sumI M ≤ room
  pn : t = true → pnP R M
  sum : t = true → sumI R = room
  len : R.length = S.length
theorem res_spec {S M : List Int} (hv : pnP S M) {room : Int} (hr : 0 ≤ room ∧ room ≤ 400) : RSp S M (resM S M room) room (resB S M room) := by
  have hmono : sumI M ≤ sumI S := sum_mono hv.len (fun i a b ha hb => by have := hv.at hb ha; unfold okP at this; omega)
  have h1 := hv.one
  by_cases h : 0 ≤ room - sumI S
  · have e1 : resM S M room = S.set (S.length - 1) (S.getD (S.length - 1) 0 + (room - sumI S)) := by rw [resM, if_pos h]
    have e2 : resB S M room = true := by rw [resB, if_pos h]
    rw [e1, e2]
    have hsum := sumI_set (O := S) (i := S.length - 1) (S.getD (S.length - 1) 0 + (room - sumI S)) (by omega)
    have hs : sumI (S.set (S.length - 1) (S.getD (S.length - 1) 0 + (room - sumI S))) = room := by omega
    refine ⟨⟨fun _ => by omega, fun _ => rfl⟩, fun _ => pn_of hv (by rw [List.length_set]) (fun i x m hx hm => ?_) (by omega), fun _ => hs, by rw [List.length_set]⟩
    by_cases e : i = S.length - 1
    · subst e
      rw [List.getElem?_set_self (by omega)] at hx
      have hx := Option.some.inj hx
      have := hv.at (nvD (L := S) (i := S.length - 1) (by omega)) hm
      unfold okP at this
      omega
    · rw [List.getElem?_set_ne (Ne.symm e)] at hx
      have := hv.at hx hm
      unfold okP at this
      omega
  · have hg := goL_spec (downs S.length) (GP.of hv) (r := -(room - sumI S)) (by omega) (fun i hi => downs_lt.1 hi)
    have e1 : resM S M room = (resO S M room).1 := by rw [resM, if_neg h]
    have e2 : resB S M room = decide ((resO S M room).2 ≤ 0) := by rw [resB, if_neg h]
    rw [e1, e2]
    change GoS M S (resO S M room).1 (downs S.length) (-(room - sumI S)) (resO S M room).2 at hg
    obtain ⟨O, hO⟩ : ∃ O, (resO S M room).1 = O := ⟨_, rfl⟩
    obtain ⟨s, hs⟩ : ∃ s, (resO S M room).2 = s := ⟨_, rfl⟩
    rw [hO, hs] at hg
    rw [hO, hs]
    have hl : O.length = S.length := by rw [hg.gp.1, hv.len]
    have g1 := hg.sum
    have g2 := hg.lo
    have hmo : sumI M ≤ sumI O := sum_mono (by rw [hg.gp.1]) (fun i a b ha hb => (hg.gp.2 i b a hb ha).2.1)
    refine ⟨?_, fun ht => ?_, fun ht => ?_, hl⟩
    · rw [decide_eq_true_eq]
      constructor
      · intro h0; omega
      · intro hm
        by_cases h0 : s ≤ 0
        · exact h0
        · exfalso
          have hf := hg.far (by omega)
          have : O = M := by
            apply List.ext_getElem?
            intro i
            by_cases hi : i < S.length
            · rw [nvD (by omega), nvD (by have := hv.len; omega), hf i (downs_lt.2 hi)]
            · rw [List.getElem?_eq_none (by omega), List.getElem?_eq_none (by have := hv.len; omega)]
          rw [this] at g1
          omega
    · rw [decide_eq_true_eq] at ht
      exact pn_of hv hl (fun i x m hx hm => (hg.gp.2 i x m hx hm).2.1) (by have := hv.sum; omega)
    · rw [decide_eq_true_eq] at ht
      omega
end Go.Proofs.YtjdjahckdgbkbaeDoor
end
section
namespace Go.Proofs.YtjdjahckdgbkbaeDoor
open Go.RowKit
set_option linter.unusedVariables false
set_option linter.unusedSimpArgs false
set_option maxHeartbeats 1000000
attribute [local go_sem 5000] run_mx run_mn
attribute [local go_sem] growUpon_value growUpon_skip growUpon_enter
set_option maxRecDepth 100000 in
theorem sResizePanes_no (A A' : Option Addr) (c c' : Nat) (S M : List Int) (y : Int) (w : World) (h : NV w A S) (h' : NV w A' M) (hm : M.length ≤ 1048576) (hL : S.length ≤ 1048576) (hv : ¬ pnP S M ∨ (pnP S M ∧ rng y 0 400 = false)) : Calls Tryd.prog 14 #[.agg #[.slice A S.length c, .slice A' M.length c'], .int .i64 y] w fun e w' => e = .returned (.tuple #[.agg #[.slice none 0 0, .slice none 0 0], .bool false]) ∧ Below w.heap.size w w' := by
  rcases hv with hv | ⟨hv, hy⟩
  · go_enter Tryd.func14, Tryd.ntmps14
    go_upto_region 1 with (fail)
    refine wp_P (fun W => W.heap[w.heap.size]? = some (.cells #[.slice A S.length c, .slice A' M.length c'] 35 (0, 0)) ∧ W.heap[w.heap.size + 1]? = some (.cells #[.slice none 0 0, .slice none 0 0] 35 (0, 0)) ∧ NV W A S ∧ NV W A' M ∧ Below w.heap.size w W) ⟨oldP _ _ _, newP _ _ _, h.keep (balloc (balloc (Below.refl _ _))), h'.keep (balloc (balloc (Below.refl _ _))), balloc (balloc (Below.refl _ _))⟩ ?_
    clear h h'
    rintro w0 ⟨hx, hz, hn, hn', hB⟩
    have HX := Lib.hid hx
    have HZ := Lib.hid hz
    have HN := Lib.hid hn
    have HN' := Lib.hid hn'
    have HB := Lib.hid hB
    obtain ⟨c0, c1⟩ := c2P hx
    obtain ⟨d0, d1⟩ := c2P hz
    obtain ⟨g0, g1⟩ := f2P hz
    clear hx hz hn hn' hB
    go_wp2_with fail
    with_reducible refine (svalidPanes_v _ _ _ _ _ _ S M false _ HN.out HN'.out rfl rfl hL hm (by simp [hv])).mono ?_
    rintro e w1 ⟨rfl, hb⟩
    clear c0 c1 d0 d1 g0 g1
    replace HX := Lib.hid ((hb.block _ (ltS HX.out)).trans HX.out)
    replace HZ := Lib.hid ((hb.block _ (ltS HZ.out)).trans HZ.out)
    replace HN := Lib.hid (HN.out.keep hb)
    replace HN' := Lib.hid (HN'.out.keep hb)
    replace HB := Lib.hid (bkeep2 HB.out hb)
    clear hb
    obtain ⟨c0, c1⟩ := c2P HX.out
    obtain ⟨d0, d1⟩ := c2P HZ.out
    obtain ⟨g0, g1⟩ := f2P HZ.out
    go_wp2
    refine bpP (fun W => W.heap[w.heap.size + 1]? = some (.cells #[.slice none 0 0, .slice none 0 0] 35 (0, 0)) ∧ Below w.heap.size w W) ⟨put2P HZ.out _ _, put2B HB.out (by omega) _ _⟩ ?_
    clear HX HZ HB HN HN' c0 c1 d0 d1 g0 g1
    rintro W ⟨hz, hB⟩
    obtain ⟨d0, d1⟩ := c2P hz
    exact bodyPost_ret (v := .tuple #[.agg #[.slice none 0 0, .slice none 0 0], .bool false]) (by simp only [results, Tryd.results14]; go_simp) rfl ⟨rfl, hB⟩
  · go_enter Tryd.func14, Tryd.ntmps14
    go_upto_region 1 with (fail)
    refine wp_P (fun W => W.heap[w.heap.size]? = some (.cells #[.slice A S.length c, .slice A' M.length c'] 35 (0, 0)) ∧ W.heap[w.heap.size + 1]? = some (.cells #[.slice none 0 0, .slice none 0 0] 35 (0, 0)) ∧ NV W A S ∧ NV W A' M ∧ Below w.heap.size w W) ⟨oldP _ _ _, newP _ _ _, h.keep (balloc (balloc (Below.refl _ _))), h'.keep (balloc (balloc (Below.refl _ _))), balloc (balloc (Below.refl _ _))⟩ ?_
    clear h h'
    rintro w0 ⟨hx, hz, hn, hn', hB⟩
    have HX := Lib.hid hx
    have HZ := Lib.hid hz
    have HN := Lib.hid hn
    have HN' := Lib.hid hn'
    have HB := Lib.hid hB
    obtain ⟨c0, c1⟩ := c2P hx
    obtain ⟨d0, d1⟩ := c2P hz
    obtain ⟨g0, g1⟩ := f2P hz
    clear hx hz hn hn' hB
    go_wp2_with fail
    with_reducible refine (svalidPanes_v _ _ _ _ _ _ S M true _ HN.out HN'.out rfl rfl hL hm (by simp [hv])).mono ?_
    rintro e w1 ⟨rfl, hb⟩
    clear c0 c1 d0 d1 g0 g1
    replace HX := Lib.hid ((hb.block _ (ltS HX.out)).trans HX.out)
    replace HZ := Lib.hid ((hb.block _ (ltS HZ.out)).trans HZ.out)
    replace HN := Lib.hid (HN.out.keep hb)
    replace HN' := Lib.hid (HN'.out.keep hb)
    replace HB := Lib.hid (bkeep2 HB.out hb)
    clear hb
    obtain ⟨c0, c1⟩ := c2P HX.out
    obtain ⟨d0, d1⟩ := c2P HZ.out
    obtain ⟨g0, g1⟩ := f2P HZ.out
    go_wp2_with fail
    with_reducible refine (inRange_PB _ _ _ false _ hy).mono ?_
    rintro e w1 ⟨rfl, hb⟩
    clear c0 c1 d0 d1 g0 g1
    replace HX := Lib.hid ((hb.block _ (ltS HX.out)).trans HX.out)
    replace HZ := Lib.hid ((hb.block _ (ltS HZ.out)).trans HZ.out)
    replace HN := Lib.hid (HN.out.keep hb)
    replace HN' := Lib.hid (HN'.out.keep hb)
    replace HB := Lib.hid (bkeep2 HB.out hb)
    clear hb
    obtain ⟨c0, c1⟩ := c2P HX.out
    obtain ⟨d0, d1⟩ := c2P HZ.out
    obtain ⟨g0, g1⟩ := f2P HZ.out
    go_wp2
    refine bpP (fun W => W.heap[w.heap.size + 1]? = some (.cells #[.slice none 0 0, .slice none 0 0] 35 (0, 0)) ∧ Below w.heap.size w W) ⟨put2P HZ.out _ _, put2B HB.out (by omega) _ _⟩ ?_
    clear HX HZ HB HN HN' c0 c1 d0 d1 g0 g1
    rintro W ⟨hz, hB⟩
    obtain ⟨d0, d1⟩ := c2P hz
    exact bodyPost_ret (v := .tuple #[.agg #[.slice none 0 0, .slice none 0 0], .bool false]) (by simp only [results, Tryd.results14]; go_simp) rfl ⟨rfl, hB⟩
set_option maxRecDepth 100000 in
theorem sResizePanes_yes (A A' : Option Addr) (c c' : Nat) (S M : List Int) (y : Int) (w : World) (h : NV w A S) (h' : NV w A' M) (hm : M.length ≤ 1048576) (hL : S.length ≤ 1048576) (hv : pnP S M) (hy : rng y 0 400 = true) (ht : resB S M y = true) : Calls Tryd.prog 14 #[.agg #[.slice A S.length c, .slice A' M.length c'], .int .i64 y] w fun e w' => (∃ v1 v2, e = .returned (.tuple #[.agg #[v1, v2], .bool true]) ∧ OS w.heap.size w' v1 (resM S M y) ∧ OS w.heap.size w' v2 M) ∧ Below w.heap.size w w' := by
  have hyb := rng_iff.1 hy
  have HP := Lib.hid hv
  have hl := hv.six
  have h1 := hv.one
  have HLM := Lib.hid hv.len
  have hgp := GP.of hv
  have hnb := nv_old h' (by have := hv.len; omega)
  have HSM := Lib.hid hv.smal.1
  have hsum := hv.sum
  have hs0 : 0 ≤ sumI S := sumI_nn (fun x hx => (hv.mem.1 x hx).1)
  obtain ⟨n, hn⟩ : ∃ n, y - sumI S = n := ⟨_, rfl⟩
  have wN : IntKind.i64.wrap (y - sumI S) = n := (IntWalk.i64_in _ (by omega)).trans hn
  obtain ⟨j, hj⟩ : ∃ j, S.length = j + 1 := ⟨S.length - 1, by omega⟩
  have wL : IntKind.i64.wrap ((S.length : Int) - 1) = (j : Int) := (IntWalk.i64_in _ (by omega)).trans (by omega)
  by_cases hge : 0 ≤ y - sumI S
  · rw [show resM S M y = S.set j (S.getD j 0 + n) by rw [resM, if_pos hge, hn, hj]; rfl]
    have e1 : S[j]? = some S[j] := List.getElem?_eq_getElem (by omega)
    have d1 := gapD e1
    rw [d1]
    have hxb := hv.mem.1 S[j] (List.getElem_mem (by omega))
    generalize S[j] = x at *
    have wX : IntKind.i64.wrap (x + n) = x + n := IntWalk.i64_in _ (by omega)
    have HE := Lib.hid e1
    have hjl : j < S.length := by omega
    have hdk : ((j : Nat) : Int) < (S.length : Int) := by omega
    have hdk2 : ¬ ((j : Nat) : Int) < 0 := by omega
    have hd : decide (n ≥ 0) = true := by simp; omega
    have HLR := Lib.hid (show (S.set j (x + n)).length = S.length by rw [List.length_set])
    have HJ := Lib.hid hj
    clear hn hge e1 d1 hxb hsum hs0 hgp hv hj ht
    go_enter Tryd.func14, Tryd.ntmps14
    go_upto_region 1 with (fail)
    refine wp_P (fun W => W.heap[w.heap.size]? = some (.cells #[.slice A S.length c, .slice A' M.length c'] 35 (0, 0)) ∧ W.heap[w.heap.size + 1]? = some (.cells #[.slice none 0 0, .slice none 0 0] 35 (0, 0)) ∧ NV W A S ∧ NV W A' M ∧ Below w.heap.size w W) ⟨oldP _ _ _, newP _ _ _, h.keep (balloc (balloc (Below.refl _ _))), h'.keep (balloc (balloc (Below.refl _ _))), balloc (balloc (Below.refl _ _))⟩ ?_
    clear h h'
    rintro w0 ⟨hx, hz, hn, hn', hB⟩
    have HX := Lib.hid hx
    have HZ := Lib.hid hz
    have HN := Lib.hid hn
    have HN' := Lib.hid hn'
    have HB := Lib.hid hB
    obtain ⟨c0, c1⟩ := c2P hx
    obtain ⟨d0, d1⟩ := c2P hz
    obtain ⟨g0, g1⟩ := f2P hz
    clear hx hz hn hn' hB
    go_wp2_with fail
    with_reducible refine (svalidPanes_v _ _ _ _ _ _ S M true _ HN.out HN'.out rfl rfl hL hm (by simp [HP.out])).mono ?_
    rintro e w1 ⟨rfl, hb⟩
    clear c0 c1 d0 d1 g0 g1
    replace HX := Lib.hid ((hb.block _ (ltS HX.out)).trans HX.out)
    replace HZ := Lib.hid ((hb.block _ (ltS HZ.out)).trans HZ.out)
    replace HN := Lib.hid (HN.out.keep hb)
    replace HN' := Lib.hid (HN'.out.keep hb)
    replace HB := Lib.hid (bkeep2 HB.out hb)
    clear hb
    obtain ⟨c0, c1⟩ := c2P HX.out
    obtain ⟨d0, d1⟩ := c2P HZ.out
    obtain ⟨g0, g1⟩ := f2P HZ.out
    go_wp2_with fail
    with_reducible refine (inRange_PB _ _ _ true _ hy).mono ?_
    rintro e w1 ⟨rfl, hb⟩
    clear c0 c1 d0 d1 g0 g1
    replace HX := Lib.hid ((hb.block _ (ltS HX.out)).trans HX.out)
    replace HZ := Lib.hid ((hb.block _ (ltS HZ.out)).trans HZ.out)
    replace HN := Lib.hid (HN.out.keep hb)
    replace HN' := Lib.hid (HN'.out.keep hb)
    replace HB := Lib.hid (bkeep2 HB.out hb)
    clear hb
    obtain ⟨c0, c1⟩ := c2P HX.out
    obtain ⟨d0, d1⟩ := c2P HZ.out
    obtain ⟨g0, g1⟩ := f2P HZ.out
    go_wp2_with fail
    with_reducible refine (total_v A c S _ HN.out hL HSM.out).mono ?_
    rintro e w2 ⟨rfl, rfl⟩
    go_wp2_with fail
    with_reducible refine (copy_n A c S.length S _ HN.out rfl (by omega) hL).mono ?_
    rintro e w2 ⟨⟨g, cap, rfl, hg, ho⟩, hb⟩
    have hlz := ltS HZ.out
    clear c0 c1 d0 d1 g0 g1
    replace HX := Lib.hid ((hb.block _ (ltS HX.out)).trans HX.out)
    replace HZ := Lib.hid ((hb.block _ (ltS HZ.out)).trans HZ.out)
    replace HN' := Lib.hid (HN'.out.keep hb)
    replace HB := Lib.hid (bkeep2 HB.out hb)
    clear hb HN
    have kx := ho.cell HE.out
    have fx := ho.frozen j
    obtain ⟨c0, c1⟩ := c2P HX.out
    have HS := Lib.hid (ho.set j (x + n) hjl)
    replace HX := Lib.hid ((Below.heap_setCell w2 ⟨g, j, none⟩ (.int .i64 (x + n)) _ (by show w.heap.size ≠ g; omega)).trans HX.out)
    replace HZ := Lib.hid ((Below.heap_setCell w2 ⟨g, j, none⟩ (.int .i64 (x + n)) _ (by show w.heap.size + 1 ≠ g; omega)).trans HZ.out)
    replace HB := Lib.hid (HB.out.setCell (p := ⟨g, j, none⟩) (by show w.heap.size ≤ g; omega) (.int .i64 (x + n)))
    have HNM := HN0M (w1 := w2) (g := g) (j := j) (x := .int .i64 (x + n)) HN'.out hnb (by omega)
    clear ho
    go_wp2_with fail
    with_reducible refine (copy_n A' c' M.length M _ HNM rfl (by have := HLM.out; omega) (by have := HLM.out; omega)).mono ?_
    rintro e w3 ⟨⟨g3, cap3, rfl, hg3, ho3⟩, hb⟩
    clear kx fx c0 c1 HNM HN' HX
    have hgs : g < (w2.setCell ⟨g, j, none⟩ (.int .i64 (x + n))).heap.size := HS.out.lt
    replace HZ := Lib.hid ((hb.block _ (ltS HZ.out)).trans HZ.out)
    replace HS := Lib.hid (HS.out.keep hb)
    replace HB := Lib.hid (bkeep2 HB.out hb)
    have HO3 := Lib.hid ho3
    clear hb ho3
    obtain ⟨d0, d1⟩ := c2P HZ.out
    obtain ⟨g0, g1⟩ := f2P HZ.out
    go_wp2
    refine bpP (fun W => W.heap[w.heap.size + 1]? = some (.cells #[.slice (some ⟨g, 0, none⟩) S.length cap, .slice (some ⟨g3, 0, none⟩) M.length cap3] 35 (0, 0)) ∧ OB W g cap (S.set j (x + n)) ∧ OB W g3 cap3 M ∧ Below w.heap.size w W) ⟨put2P HZ.out _ _, HS.out.sameh (put2o (by omega) _ _), HO3.out.sameh (put2o (by omega) _ _), put2B HB.out (by omega) _ _⟩ ?_
    clear HZ HB d0 d1 g0 g1 HS HO3
    rintro W ⟨hz, o1, o2, hB⟩
    obtain ⟨d0, d1⟩ := c2P hz
    exact bodyPost_ret (v := .tuple #[.agg #[.slice (some ⟨g, 0, none⟩) S.length cap, .slice (some ⟨g3, 0, none⟩) M.length cap3], .bool true]) (by simp only [results, Tryd.results14]; go_simp) rfl ⟨⟨_, _, rfl, ⟨g, cap, by rw [HLR.out], by omega, o1⟩, ⟨g3, cap3, rfl, by omega, o2⟩⟩, hB⟩
  · have hrem : Rem S.length (-1) (j : Int) (downs S.length) := by
      have h := rem_bwd S.length S.length (by omega)
      have e : (S.length : Int) - 1 = (j : Int) := by omega
      rw [e] at h
      exact h
    have hs := goL_spec (downs S.length) hgp (r := -n) (by omega) hrem.lt
    have HTK := Lib.hid (fun (w1 : World) (h1 : NV w1 A S) (h2 : NV w1 A' M) => taken_v A A' c c' S M (-n) (j : Int) (-1) (downs S.length) w1 h1 h2 hgp (by omega) hl (by omega) hrem (by omega) (by omega) (by omega) (by omega))
    have eO : resO S M y = goL M (downs S.length) S (-n) := by rw [resO, hn]
    have eB : resB S M y = decide ((resO S M y).2 ≤ 0) := by rw [resB, if_neg hge]
    rw [show resM S M y = (resO S M y).1 by rw [resM, if_neg hge], eO]
    rw [eB, eO] at ht
    have hlR : (goL M (downs S.length) S (-n)).1.length = S.length := by rw [hs.gp.1, HLM.out]
    obtain ⟨F, hF⟩ : ∃ F, goL M (downs S.length) S (-n) = F := ⟨_, rfl⟩
    rw [hF] at HTK hlR ht ⊢
    have HLR := Lib.hid hlR
    have wM2 : IntKind.i64.wrap (-n) = -n := IntWalk.i64_in _ (by omega)
    have wM3 : wrap64 (-n) = -n := IntWalk.wrap64_in _ (by omega)
    have hd : decide (n ≥ 0) = false := by simp; omega
    have hf : decide (F.2 > 0) = false := by simp at ht ⊢; omega
    have HJ := Lib.hid hj
    clear hF hs hrem hgp hlR eO eB ht hn hge hsum hs0 hv hj
    go_enter Tryd.func14, Tryd.ntmps14
    go_upto_region 1 with (fail)
    refine wp_P (fun W => W.heap[w.heap.size]? = some (.cells #[.slice A S.length c, .slice A' M.length c'] 35 (0, 0)) ∧ W.heap[w.heap.size + 1]? = some (.cells #[.slice none 0 0, .slice none 0 0] 35 (0, 0)) ∧ NV W A S ∧ NV W A' M ∧ Below w.heap.size w W) ⟨oldP _ _ _, newP _ _ _, h.keep (balloc (balloc (Below.refl _ _))), h'.keep (balloc (balloc (Below.refl _ _))), balloc (balloc (Below.refl _ _))⟩ ?_
    clear h h'
    rintro w0 ⟨hx, hz, hn, hn', hB⟩
    have HX := Lib.hid hx
    have HZ := Lib.hid hz
    have HN := Lib.hid hn
    have HN' := Lib.hid hn'
    have HB := Lib.hid hB
    obtain ⟨c0, c1⟩ := c2P hx
    obtain ⟨d0, d1⟩ := c2P hz
    obtain ⟨g0, g1⟩ := f2P hz
    clear hx hz hn hn' hB
    go_wp2_with fail
    with_reducible refine (svalidPanes_v _ _ _ _ _ _ S M true _ HN.out HN'.out rfl rfl hL hm (by simp [HP.out])).mono ?_
    rintro e w1 ⟨rfl, hb⟩
    clear c0 c1 d0 d1 g0 g1
    replace HX := Lib.hid ((hb.block _ (ltS HX.out)).trans HX.out)
    replace HZ := Lib.hid ((hb.block _ (ltS HZ.out)).trans HZ.out)
    replace HN := Lib.hid (HN.out.keep hb)
    replace HN' := Lib.hid (HN'.out.keep hb)
    replace HB := Lib.hid (bkeep2 HB.out hb)
    clear hb
    obtain ⟨c0, c1⟩ := c2P HX.out
    obtain ⟨d0, d1⟩ := c2P HZ.out
    obtain ⟨g0, g1⟩ := f2P HZ.out
    go_wp2_with fail
    with_reducible refine (inRange_PB _ _ _ true _ hy).mono ?_
    rintro e w1 ⟨rfl, hb⟩
    clear c0 c1 d0 d1 g0 g1
    replace HX := Lib.hid ((hb.block _ (ltS HX.out)).trans HX.out)
    replace HZ := Lib.hid ((hb.block _ (ltS HZ.out)).trans HZ.out)
    replace HN := Lib.hid (HN.out.keep hb)
    replace HN' := Lib.hid (HN'.out.keep hb)
    replace HB := Lib.hid (bkeep2 HB.out hb)
    clear hb
    obtain ⟨c0, c1⟩ := c2P HX.out
    obtain ⟨d0, d1⟩ := c2P HZ.out
    obtain ⟨g0, g1⟩ := f2P HZ.out
    go_wp2_with fail
    with_reducible refine (total_v A c S _ HN.out hL HSM.out).mono ?_
    rintro e w2 ⟨rfl, rfl⟩
    go_wp2_with fail
    with_reducible refine (HTK.out _ HN.out HN'.out).mono ?_
    rintro e w2 ⟨⟨g, cap, rfl, hg, ho⟩, hb⟩
    have hlz := ltS HZ.out
    clear c0 c1 d0 d1 g0 g1 HTK
    replace HX := Lib.hid ((hb.block _ (ltS HX.out)).trans HX.out)
    replace HZ := Lib.hid ((hb.block _ (ltS HZ.out)).trans HZ.out)
    replace HN := Lib.hid (HN.out.keep hb)
    replace HN' := Lib.hid (HN'.out.keep hb)
    replace HB := Lib.hid (bkeep2 HB.out hb)
    have HS := Lib.hid ho
    clear hb ho
    obtain ⟨c0, c1⟩ := c2P HX.out
    obtain ⟨d0, d1⟩ := c2P HZ.out
    obtain ⟨g0, g1⟩ := f2P HZ.out
    go_wp2_with fail
    with_reducible refine (copy_n A' c' M.length M _ HN'.out rfl (by have := HLM.out; omega) (by have := HLM.out; omega)).mono ?_
    rintro e w3 ⟨⟨g3, cap3, rfl, hg3, ho3⟩, hb⟩
    clear c0 c1 d0 d1 g0 g1 HN HN' HX
    have hgs := HS.out.lt
    replace HZ := Lib.hid ((hb.block _ (ltS HZ.out)).trans HZ.out)
    replace HS := Lib.hid (HS.out.keep hb)
    replace HB := Lib.hid (bkeep2 HB.out hb)
    have HO3 := Lib.hid ho3
    clear hb ho3
    obtain ⟨d0, d1⟩ := c2P HZ.out
    obtain ⟨g0, g1⟩ := f2P HZ.out
    go_wp2
    refine bpP (fun W => W.heap[w.heap.size + 1]? = some (.cells #[.slice (some ⟨g, 0, none⟩) S.length cap, .slice (some ⟨g3, 0, none⟩) M.length cap3] 35 (0, 0)) ∧ OB W g cap F.1 ∧ OB W g3 cap3 M ∧ Below w.heap.size w W) ⟨put2P HZ.out _ _, HS.out.sameh (put2o (by omega) _ _), HO3.out.sameh (put2o (by omega) _ _), put2B HB.out (by omega) _ _⟩ ?_
    clear HZ HB d0 d1 g0 g1 HS HO3
    rintro W ⟨hz, o1, o2, hB⟩
    obtain ⟨d0, d1⟩ := c2P hz
    exact bodyPost_ret (v := .tuple #[.agg #[.slice (some ⟨g, 0, none⟩) S.length cap, .slice (some ⟨g3, 0, none⟩) M.length cap3], .bool true]) (by simp only [results, Tryd.results14]; go_simp) rfl ⟨⟨_, _, rfl, ⟨g, cap, by rw [HLR.out], by omega, o1⟩, ⟨g3, cap3, rfl, by omega, o2⟩⟩, hB⟩
set_option maxRecDepth 100000 in
theorem sResizePanes_full (A A' : Option Addr) (c c' : Nat) (S M : List Int) (y : Int) (w : World) (h : NV w A S) (h' : NV w A' M) (hm : M.length ≤ 1048576) (hL : S.length ≤ 1048576) (hv : pnP S M) (hy : rng y 0 400 = true) (ht : resB S M y = false) : Calls Tryd.prog 14 #[.agg #[.slice A S.length c, .slice A' M.length c'], .int .i64 y] w fun e w' => e = .returned (.tuple #[.agg #[.slice none 0 0, .slice none 0 0], .bool false]) ∧ Below w.heap.size w w' := by
  have hyb := rng_iff.1 hy
  have HP := Lib.hid hv
  have hl := hv.six
  have h1 := hv.one
  have HLM := Lib.hid hv.len
  have hgp := GP.of hv
  have hnb := nv_old h' (by have := hv.len; omega)
  have HSM := Lib.hid hv.smal.1
  have hsum := hv.sum
  have hs0 : 0 ≤ sumI S := sumI_nn (fun x hx => (hv.mem.1 x hx).1)
  obtain ⟨n, hn⟩ : ∃ n, y - sumI S = n := ⟨_, rfl⟩
  have wN : IntKind.i64.wrap (y - sumI S) = n := (IntWalk.i64_in _ (by omega)).trans hn
  obtain ⟨j, hj⟩ : ∃ j, S.length = j + 1 := ⟨S.length - 1, by omega⟩
  have wL : IntKind.i64.wrap ((S.length : Int) - 1) = (j : Int) := (IntWalk.i64_in _ (by omega)).trans (by omega)
  by_cases hge : 0 ≤ y - sumI S
  · rw [resB, if_pos hge] at ht; cases ht
  · have hrem : Rem S.length (-1) (j : Int) (downs S.length) := by
      have h := rem_bwd S.length S.length (by omega)
      have e : (S.length : Int) - 1 = (j : Int) := by omega
      rw [e] at h
      exact h
    have hs := goL_spec (downs S.length) hgp (r := -n) (by omega) hrem.lt
    have HTK := Lib.hid (fun (w1 : World) (h1 : NV w1 A S) (h2 : NV w1 A' M) => taken_v A A' c c' S M (-n) (j : Int) (-1) (downs S.length) w1 h1 h2 hgp (by omega) hl (by omega) hrem (by omega) (by omega) (by omega) (by omega))
    have eO : resO S M y = goL M (downs S.length) S (-n) := by rw [resO, hn]
    have eB : resB S M y = decide ((resO S M y).2 ≤ 0) := by rw [resB, if_neg hge]
    rw [eB, eO] at ht
    have hlR : (goL M (downs S.length) S (-n)).1.length = S.length := by rw [hs.gp.1, HLM.out]
    obtain ⟨F, hF⟩ : ∃ F, goL M (downs S.length) S (-n) = F := ⟨_, rfl⟩
    rw [hF] at HTK hlR ht
    have HLR := Lib.hid hlR
    have wM2 : IntKind.i64.wrap (-n) = -n := IntWalk.i64_in _ (by omega)
    have wM3 : wrap64 (-n) = -n := IntWalk.wrap64_in _ (by omega)
    have hd : decide (n ≥ 0) = false := by simp; omega
    have hf : decide (F.2 > 0) = true := by simp at ht ⊢; omega
    have HJ := Lib.hid hj
    clear hF hs hrem hgp hlR eO eB ht hn hge hsum hs0 hv hj
    go_enter Tryd.func14, Tryd.ntmps14
    go_upto_region 1 with (fail)
    refine wp_P (fun W => W.heap[w.heap.size]? = some (.cells #[.slice A S.length c, .slice A' M.length c'] 35 (0, 0)) ∧ W.heap[w.heap.size + 1]? = some (.cells #[.slice none 0 0, .slice none 0 0] 35 (0, 0)) ∧ NV W A S ∧ NV W A' M ∧ Below w.heap.size w W) ⟨oldP _ _ _, newP _ _ _, h.keep (balloc (balloc (Below.refl _ _))), h'.keep (balloc (balloc (Below.refl _ _))), balloc (balloc (Below.refl _ _))⟩ ?_
    clear h h'
    rintro w0 ⟨hx, hz, hn, hn', hB⟩
    have HX := Lib.hid hx
    have HZ := Lib.hid hz
    have HN := Lib.hid hn
    have HN' := Lib.hid hn'
    have HB := Lib.hid hB
    obtain ⟨c0, c1⟩ := c2P hx
    obtain ⟨d0, d1⟩ := c2P hz
    obtain ⟨g0, g1⟩ := f2P hz
    clear hx hz hn hn' hB
    go_wp2_with fail
    with_reducible refine (svalidPanes_v _ _ _ _ _ _ S M true _ HN.out HN'.out rfl rfl hL hm (by simp [HP.out])).mono ?_
    rintro e w1 ⟨rfl, hb⟩
    clear c0 c1 d0 d1 g0 g1
    replace HX := Lib.hid ((hb.block _ (ltS HX.out)).trans HX.out)
    replace HZ := Lib.hid ((hb.block _ (ltS HZ.out)).trans HZ.out)
    replace HN := Lib.hid (HN.out.keep hb)
    replace HN' := Lib.hid (HN'.out.keep hb)
    replace HB := Lib.hid (bkeep2 HB.out hb)
    clear hb
    obtain ⟨c0, c1⟩ := c2P HX.out
    obtain ⟨d0, d1⟩ := c2P HZ.out
    obtain ⟨g0, g1⟩ := f2P HZ.out
    go_wp2_with fail
    with_reducible refine (inRange_PB _ _ _ true _ hy).mono ?_
    rintro e w1 ⟨rfl, hb⟩
    clear c0 c1 d0 d1 g0 g1
    replace HX := Lib.hid ((hb.block _ (ltS HX.out)).trans HX.out)
    replace HZ := Lib.hid ((hb.block _ (ltS HZ.out)).trans HZ.out)
    replace HN := Lib.hid (HN.out.keep hb)
    replace HN' := Lib.hid (HN'.out.keep hb)
    replace HB := Lib.hid (bkeep2 HB.out hb)
    clear hb
    obtain ⟨c0, c1⟩ := c2P HX.out
    obtain ⟨d0, d1⟩ := c2P HZ.out
    obtain ⟨g0, g1⟩ := f2P HZ.out
    go_wp2_with fail
    with_reducible refine (total_v A c S _ HN.out hL HSM.out).mono ?_
    rintro e w2 ⟨rfl, rfl⟩
    go_wp2_with fail
    with_reducible refine (HTK.out _ HN.out HN'.out).mono ?_
    rintro e w2 ⟨⟨g, cap, rfl, hg, ho⟩, hb⟩
    have hlz := ltS HZ.out
    clear c0 c1 d0 d1 g0 g1 HTK
    replace HX := Lib.hid ((hb.block _ (ltS HX.out)).trans HX.out)
    replace HZ := Lib.hid ((hb.block _ (ltS HZ.out)).trans HZ.out)
    replace HN := Lib.hid (HN.out.keep hb)
    replace HN' := Lib.hid (HN'.out.keep hb)
    replace HB := Lib.hid (bkeep2 HB.out hb)
    have HS := Lib.hid ho
    clear hb ho
    obtain ⟨c0, c1⟩ := c2P HX.out
    obtain ⟨d0, d1⟩ := c2P HZ.out
    obtain ⟨g0, g1⟩ := f2P HZ.out
    go_wp2
    refine bpP (fun W => W.heap[w.heap.size + 1]? = some (.cells #[.slice none 0 0, .slice none 0 0] 35 (0, 0)) ∧ Below w.heap.size w W) ⟨put2P HZ.out _ _, put2B HB.out (by omega) _ _⟩ ?_
    clear HX HZ HB HN HN' c0 c1 d0 d1 g0 g1
    rintro W ⟨hz, hB⟩
    obtain ⟨d0, d1⟩ := c2P hz
    exact bodyPost_ret (v := .tuple #[.agg #[.slice none 0 0, .slice none 0 0], .bool false]) (by simp only [results, Tryd.results14]; go_simp) rfl ⟨rfl, hB⟩
end Go.Proofs.YtjdjahckdgbkbaeDoor
end
