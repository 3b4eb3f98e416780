import Derived.Test.YtgdkionmeacalaaQ09
section
namespace Go.Proofs.Ytgdkionmeacalaa
open Go.RowKit
set_option linter.unusedVariables false
set_option maxHeartbeats 1000000
attribute [local go_sem] growUpon_value growUpon_skip growUpon_enter
theorem below_grownI {w w' : World} {B : Nat} {row : Option Nat} (h : w.grownBy w' row) (hr : ∀ g, row = some g → B ≤ g) (hB : B ≤ w.heap.size) : Below B w w' :=
  ⟨h.os, h.tape, h.output, h.size, fun k hk => h.block k (by omega) (fun e => by have := hr k e.symm; omega)⟩
theorem gsetI {w w' : World} {g : Nat} (h : w.grownBy w' (some g)) (o : Nat) (v : Value) : w.grownBy (w'.setCell ⟨g, o, none⟩ v) (some g) :=
  ⟨h.os, h.tape, h.output, by simpa [World.setCell] using h.size, fun k hk hne => (Below.heap_setCell w' ⟨g, o, none⟩ v k (by rintro rfl; exact hne rfl)).trans (h.block k hk hne)⟩
theorem greflI (w : World) (g : Nat) : w.grownBy w (some g) := ⟨rfl, rfl, rfl, Nat.le_refl _, fun _ _ _ => rfl⟩
/-- the value reads as the list -/
def NR (w : World) (v : Value) (L : List Int) : Prop := ∃ A c, v = .slice A L.length c ∧ NV w A L
theorem NR.keep {w w' : World} {v : Value} {L : List Int} (h : NR w v L) (hb : Below w.heap.size w w') : NR w' v L := let ⟨A, c, e, n⟩ := h; ⟨A, c, e, n.keep hb⟩
theorem IB.nr {w : World} {g n : Nat} {L : List Int} (h : IB w g L) (hn : n = L.length) (m : Nat) : NR w (.slice (some ⟨g, 0, none⟩) n m) L := ⟨_, m, by rw [hn], h.nv⟩
theorem IB.but {w w' : World} {g h : Nat} {L : List Int} (hi : IB w h L) (hg : w.grownBy w' (some g)) (hne : h ≠ g) : IB w' h L := (hg.block h hi.lt (fun e => hne (Option.some.inj e))).trans hi
/-- a list in a block that was made from lo on, or none -/
def GI (lo : Nat) (w : World) (v : Value) (L : List Int) : Prop := (v = .slice none 0 0 ∧ L = []) ∨ ∃ g n, v = .slice (some ⟨g, 0, none⟩) n n ∧ n = L.length ∧ lo ≤ g ∧ IB w g L
theorem GI.nr {lo : Nat} {w : World} {v : Value} {L : List Int} (h : GI lo w v L) : NR w v L := by
  rcases h with ⟨rfl, rfl⟩ | ⟨g, n, rfl, hn, _, hk⟩
  · exact ⟨none, 0, rfl, NV.nil _ _⟩
  · exact hk.nr hn n
theorem GI.keep {lo : Nat} {w w' : World} {v : Value} {L : List Int} (h : GI lo w v L) (hb : Below w.heap.size w w') : GI lo w' v L := h.imp id fun ⟨g, n, h1, h2, h3, hk⟩ => ⟨g, n, h1, h2, h3, hk.keep hb⟩
theorem GI.but {lo g0 : Nat} {w w' : World} {v : Value} {L : List Int} (h : GI lo w v L) (hb : w.grownBy w' (some g0)) (hg : g0 < lo) : GI lo w' v L := h.imp id fun ⟨g, n, h1, h2, h3, hk⟩ => ⟨g, n, h1, h2, h3, hk.but hb (by omega)⟩
def MKI (n : Nat) : List Int := (List.range n).map (fun i : Nat => (i : Int) + 1)
theorem MKI_len (n : Nat) : (MKI n).length = n := by simp [MKI]
theorem MKI_get {n k : Nat} (h : k < n) : (MKI n)[k]? = some ((k : Int) + 1) := by simp [MKI, h]
def GIM (w : World) (v : Value) (n : Nat) : Prop := (v = .slice none 0 0 ∧ n = 0) ∨ ∃ g, v = .slice (some ⟨g, 0, none⟩) n n ∧ IB w g (MKI n)
theorem GIM.keep {w w' : World} {v : Value} {n : Nat} (h : GIM w v n) (hb : Below w.heap.size w w') : GIM w' v n := h.imp id fun ⟨g, h1, hk⟩ => ⟨g, h1, hk.keep hb⟩
set_option maxRecDepth 100000 in
theorem eqIntS_same (v v' : Value) (L : List Int) (w : World) (h : NR w v L) (h' : NR w v' L) (hL : L.length ≤ 1048576) :
    Calls Try.prog 14 #[v, v'] w fun e w' => e = .returned (.bool true) ∧ Below w.heap.size w w' := by
  obtain ⟨A, c, rfl, h⟩ := h
  obtain ⟨B, c', rfl, h'⟩ := h'
  go_enter Try.func14, Try.ntmps14
  go_wp2_with fail
  go_loopw [5] (fun i wr => ∃ k : Nat, k ≤ L.length ∧ i = .int .i64 k ∧ Below w.heap.size w wr) (fun i _ => L.length - (intOf i).toNat)
  case atStart => exact ⟨0, by omega, rfl, Below.refl _ _⟩
  case round =>
    obtain ⟨k, hk, rfl, hB⟩ := hrel
    by_cases hlt : k < L.length
    · have hd : decide ((k : Int) < (L.length : Int)) = true := by simpa using hlt
      obtain ⟨b, off, rfl, hb, hp⟩ := (h.keep hB).cells (by omega)
      obtain ⟨b', off', rfl, hb', hp'⟩ := (h'.keep hB).cells (by omega)
      have hget : L[k]? = some L[k] := List.getElem?_eq_getElem hlt
      have c0 := hp k _ hget
      have d0 := hp' k _ hget
      generalize hx : L[k] = x at *
      have HB := Lib.hid hB
      clear hget hx hp hp' hB
      go_wp2_with fail
      refine wp_region_grow 9 0 (· < 9) (by kernel_rfl) (by kernel_rfl) rfl ?_
      iterate 9 (refine wpG_step (fun K hK => ?_); first | (refine grow_skip rfl ?_; go_simp; refine hK _ ?_; clear hK K) | (apply Exists.intro; refine ⟨.inl ⟨rfl, fun w' hw' => ?_⟩, ?_⟩; (focus ((obtain ⟨hc, hf⟩ := bcell hw'.out); (have hcS := bcellS hw'.out); go_simp <;> first | rfl | (fail))); (go_simp; refine hK _ ?_; clear hK K)))
      refine wpG_nil ?_
      refine wpK_tail (by kernel_rfl) (fun w1 hg1 => ?_)
      have hb1 := bdrewn hg1.out
      refine wpAny_end (by kernel_rfl) ?_
      refine NoPan.thn ?_
      clear hg1
      replace HB := Lib.hid (HB.out.trans (hb1.mono HB.out.size))
      clear hb1 c0 d0
      go_wp2
      go_roundw
      case rel => exact ⟨k + 1, by omega, by go_num, HB.out⟩
      case measure => simp [intOf]; omega
    · have hd : decide ((k : Int) < (L.length : Int)) = false := by simp; omega
      have HB := Lib.hid hB
      clear hB
      go_wp2
      go_ret
      exact ⟨rfl, HB.out⟩
set_option maxRecDepth 100000 in
theorem markIntS_v (g : Nat) (M : List Int) (n : Nat) (w : World) (h : IB w g M) (hn : n = M.length) (hL : n ≤ 1048576) :
    Calls Try.prog 15 #[.slice (some ⟨g, 0, none⟩) n n, .int .i64 1] w fun e w' => e = .returned (.int .i64 ((n : Int) + 1)) ∧ IB w' g (MKI n) ∧ w.grownBy w' (some g) := by
  subst hn
  have HI := Lib.hid h
  clear h
  go_enter Try.func15, Try.ntmps15
  go_wp2_with fail
  go_loopw [1, 5] (fun kv i wr => ∃ k : Nat, k ≤ M.length ∧ i = .int .i64 k ∧ kv = .int .i64 ((k : Int) + 1) ∧ IB wr g ((MKI M.length).take k ++ M.drop k) ∧ w.grownBy wr (some g)) (fun _ i _ => M.length - (intOf i).toNat)
  case atStart => exact ⟨0, by omega, rfl, rfl, by simpa using HI.out, greflI _ _⟩
  case round =>
    obtain ⟨k, hk, rfl, rfl, hI, hgr⟩ := hrel
    clear HI
    by_cases hlt : k < M.length
    · have hd : decide ((k : Int) < (M.length : Int)) = true := by simpa using hlt
      have hget : M[k]? = some M[k] := List.getElem?_eq_getElem hlt
      have hdr := drop_consI hget
      rw [hdr] at hI
      have hlk : ((MKI M.length).take k).length = k := by rw [List.length_take, MKI_len]; omega
      have d0 := hI.cell (i := k) (x := M[k]) (by rw [List.getElem?_append_right (by omega), hlk, Nat.sub_self]; rfl)
      have f0 := hI.frozen k
      have hI2 := hI.set k ((k : Int) + 1)
      rw [set_here hlk] at hI2
      have e3 : (MKI M.length).take k ++ ((k : Int) + 1) :: M.drop (k + 1) = (MKI M.length).take (k + 1) ++ M.drop (k + 1) := by
        have h1 := MKI_get hlt
        obtain ⟨h2, h3⟩ := List.getElem?_eq_some_iff.1 h1
        rw [List.take_succ_eq_append_getElem h2, h3]; simp
      rw [e3] at hI2
      have HI2 := Lib.hid hI2
      have HG2 := Lib.hid (gsetI hgr k (.int .i64 ((k : Int) + 1)))
      generalize M[k] = x at *
      clear hI hI2 hgr hget hdr hlk e3
      go_wp2
      go_roundw
      case rel => exact ⟨k + 1, by omega, by go_num, by go_num, HI2.out, HG2.out⟩
      case measure => simp [intOf]; omega
    · have hd : decide ((k : Int) < (M.length : Int)) = false := by simp; omega
      obtain rfl : k = M.length := by omega
      have e1 : (MKI M.length).take M.length = MKI M.length := List.take_of_length_le (by rw [MKI_len]; omega)
      rw [e1, List.drop_length, List.append_nil] at hI
      have HI2 := Lib.hid hI
      have HG2 := Lib.hid hgr
      clear hI hgr e1
      go_wp2
      go_ret
      exact ⟨rfl, HI2.out, HG2.out⟩
set_option maxRecDepth 100000 in
theorem markIntS_nil (w : World) : Calls Try.prog 15 #[.slice none 0 0, .int .i64 1] w fun e w' => e = .returned (.int .i64 1) ∧ w' = w := by
  go_enter Try.func15, Try.ntmps15
  go_wp2_with fail
  go_loop [1, 5] (fun kv i => kv = .int .i64 1 ∧ i = .int .i64 0) (fun _ _ => 0)
  case atStart => exact ⟨rfl, rfl⟩
  case round =>
    obtain ⟨rfl, rfl⟩ := hrel
    go_wp2
    go_ret
    exact ⟨rfl, rfl⟩
set_option maxRecDepth 100000 in
theorem heldIntS_v (g : Nat) (n : Nat) (w : World) (h : IB w g (MKI n)) (hL : n ≤ 1048576) :
    Calls Try.prog 16 #[.slice (some ⟨g, 0, none⟩) n n, .int .i64 1] w fun e w' => e = .returned (.int .i64 ((n : Int) + 1)) ∧ w' = w := by
  go_enter Try.func16, Try.ntmps16
  go_wp2_with fail
  go_loop [1, 5] (fun kv i => ∃ k : Nat, k ≤ n ∧ i = .int .i64 k ∧ kv = .int .i64 ((k : Int) + 1)) (fun _ i => n - (intOf i).toNat)
  case atStart => exact ⟨0, by omega, rfl, rfl⟩
  case round =>
    obtain ⟨k, hk, rfl, rfl⟩ := hrel
    by_cases hlt : k < n
    · have hd : decide ((k : Int) < (n : Int)) = true := by simpa using hlt
      have d0 := h.cell (MKI_get hlt)
      go_wp2
      go_round
      case rel => exact ⟨k + 1, by omega, by go_num, by go_num⟩
      case measure => simp [intOf]; omega
    · have hd : decide ((k : Int) < (n : Int)) = false := by simp; omega
      obtain rfl : k = n := by omega
      go_wp2
      go_ret
      exact ⟨rfl, rfl⟩
set_option maxRecDepth 100000 in
theorem heldIntS_nil (w : World) : Calls Try.prog 16 #[.slice none 0 0, .int .i64 1] w fun e w' => e = .returned (.int .i64 1) ∧ w' = w := by
  go_enter Try.func16, Try.ntmps16
  go_wp2_with fail
  go_loop [1, 5] (fun kv i => kv = .int .i64 1 ∧ i = .int .i64 0) (fun _ _ => 0)
  case atStart => exact ⟨rfl, rfl⟩
  case round =>
    obtain ⟨rfl, rfl⟩ := hrel
    go_wp2
    go_ret
    exact ⟨rfl, rfl⟩
theorem markGI (lo : Nat) (w : World) (v : Value) (M : List Int) (h : GI lo w v M) (hM : M.length ≤ 1048576) :
    Calls Try.prog 15 #[v, .int .i64 1] w fun e w' => e = .returned (.int .i64 ((M.length : Int) + 1)) ∧ GIM w' v M.length ∧ Below lo w w' := by
  rcases h with ⟨rfl, rfl⟩ | ⟨g, n, rfl, hn, hg0, hk⟩
  · refine (markIntS_nil w).mono ?_
    rintro e w' ⟨rfl, rfl⟩
    exact ⟨rfl, .inl ⟨rfl, rfl⟩, Below.refl _ _⟩
  · have hlo := hk.lt
    refine (markIntS_v g M n w hk hn (by omega)).mono ?_
    rintro e w' ⟨rfl, hk', hg⟩
    subst hn
    exact ⟨rfl, .inr ⟨g, rfl, hk'⟩, below_grownI hg (fun q e => by cases e; exact hg0) (by omega)⟩
theorem heldGI (w : World) (v : Value) (n : Nat) (h : GIM w v n) (hn : n ≤ 1048576) :
    Calls Try.prog 16 #[v, .int .i64 1] w fun e w' => e = .returned (.int .i64 ((n : Int) + 1)) ∧ w' = w := by
  rcases h with ⟨rfl, rfl⟩ | ⟨g, rfl, hk⟩
  · exact heldIntS_nil w
  · exact heldIntS_v g n w hk hn
end Go.Proofs.Ytgdkionmeacalaa
end
section
namespace Go.Proofs.Ytgdkionmeacalaa
open Go.RowKit
set_option linter.unusedVariables false
set_option maxHeartbeats 1000000
attribute [local go_sem] growUpon_value growUpon_skip growUpon_enter
theorem IB.ob {w : World} {g n : Nat} {L : List Int} (h : IB w g L) (hn : n = L.length) : OB w g n L := by
  have h' : w.heap[g]? = some (.cells (ivals L) 3 (0, 0)) := h
  exact ⟨by omega, ivals L, h', by simp [ivals, hn], fun i x hx => by simp [ivals, hx]⟩
theorem OB.sameL {w w' : World} {g cap : Nat} {L : List Int} (h : OB w g cap L) (e : w'.heap[g]? = w.heap[g]?) : OB w' g cap L := by
  obtain ⟨hl, cs, hh, hs, hc⟩ := h
  exact ⟨hl, cs, e.trans hh, hs, hc⟩
theorem OB.nr {w : World} {g cap n : Nat} {L : List Int} (h : OB w g cap L) (hn : n = L.length) (m : Nat) : NR w (.slice (some ⟨g, 0, none⟩) n m) L := ⟨_, m, by rw [hn], h.nv⟩
/-- the marks from k on -/
def MKo (k : Int) (n : Nat) : List Int := (List.range n).map (fun i : Nat => (i : Int) + k)
theorem MKo_len (k : Int) (n : Nat) : (MKo k n).length = n := by simp [MKo]
theorem MKo_get {k : Int} {n i : Nat} (h : i < n) : (MKo k n)[i]? = some ((i : Int) + k) := by simp [MKo, h]
theorem drop_consO {L : List Int} {k : Nat} {x : Int} (h : L[k]? = some x) : L.drop k = x :: L.drop (k + 1) := by
  obtain ⟨hk, e⟩ := List.getElem?_eq_some_iff.1 h
  rw [List.drop_eq_getElem_cons hk, e]
theorem set_hereO {A B : List Int} {n : Nat} {y x : Int} (h : A.length = n) : (A ++ y :: B).set n x = A ++ x :: B := by
  subst h; simp
set_option maxRecDepth 100000 in
theorem markO (g cap n : Nat) (k : Int) (M : List Int) (w : World) (h : OB w g cap M) (hn : n = M.length) (hL : n ≤ 1048576) (hk0 : 0 ≤ k) (hk1 : k ≤ 10000000) :
    Calls Try.prog 15 #[.slice (some ⟨g, 0, none⟩) n cap, .int .i64 k] w fun e w' => e = .returned (.int .i64 (k + (n : Int))) ∧ OB w' g cap (MKo k n) ∧ w.grownBy w' (some g) := by
  subst hn
  have HI := Lib.hid h
  clear h
  go_enter Try.func15, Try.ntmps15
  go_wp2_with fail
  go_loopw [1, 5] (fun kv i wr => ∃ j : Nat, j ≤ M.length ∧ i = .int .i64 j ∧ kv = .int .i64 (k + (j : Int)) ∧ OB wr g cap ((MKo k M.length).take j ++ M.drop j) ∧ w.grownBy wr (some g)) (fun _ i _ => M.length - (intOf i).toNat)
  case atStart => exact ⟨0, by omega, rfl, by simp, by simpa using HI.out, greflI _ _⟩
  case round =>
    obtain ⟨j, hj, rfl, rfl, hI, hgr⟩ := hrel
    clear HI
    by_cases hlt : j < M.length
    · have hd : decide ((j : Int) < (M.length : Int)) = true := by simpa using hlt
      have hget : M[j]? = some M[j] := List.getElem?_eq_getElem hlt
      have hdr := drop_consO hget
      rw [hdr] at hI
      have hlk : ((MKo k M.length).take j).length = j := by rw [List.length_take, MKo_len]; omega
      have d0 := hI.cell (i := j) (x := M[j]) (by rw [List.getElem?_append_right (by omega), hlk, Nat.sub_self]; rfl)
      have f0 := hI.frozen j
      have hI2 := hI.set j (k + (j : Int)) (by rw [List.length_append, hlk, List.length_cons]; omega)
      rw [set_hereO hlk] at hI2
      have e3 : (MKo k M.length).take j ++ (k + (j : Int)) :: M.drop (j + 1) = (MKo k M.length).take (j + 1) ++ M.drop (j + 1) := by
        have h1 := MKo_get (k := k) hlt
        obtain ⟨h2, h3⟩ := List.getElem?_eq_some_iff.1 h1
        rw [List.take_succ_eq_append_getElem h2, h3]; simp [Int.add_comm]
      rw [e3] at hI2
      have HI2 := Lib.hid hI2
      have HG2 := Lib.hid (gsetI hgr j (.int .i64 (k + (j : Int))))
      generalize M[j] = x at *
      clear hI hI2 hgr hget hdr hlk e3
      go_wp2
      go_roundw
      case rel => exact ⟨j + 1, by omega, by go_num, by go_num, HI2.out, HG2.out⟩
      case measure => simp [intOf]; omega
    · have hd : decide ((j : Int) < (M.length : Int)) = false := by simp; omega
      obtain rfl : j = M.length := by omega
      have e1 : (MKo k M.length).take M.length = MKo k M.length := List.take_of_length_le (by rw [MKo_len]; omega)
      rw [e1, List.drop_length, List.append_nil] at hI
      have HI2 := Lib.hid hI
      have HG2 := Lib.hid hgr
      clear hI hgr e1
      go_wp2
      go_ret
      exact ⟨rfl, HI2.out, HG2.out⟩
set_option maxRecDepth 100000 in
theorem markO_nil (k : Int) (w : World) : Calls Try.prog 15 #[.slice none 0 0, .int .i64 k] w fun e w' => e = .returned (.int .i64 k) ∧ w' = w := by
  go_enter Try.func15, Try.ntmps15
  go_wp2_with fail
  go_loop [1, 5] (fun kv i => kv = .int .i64 k ∧ i = .int .i64 0) (fun _ _ => 0)
  case atStart => exact ⟨rfl, rfl⟩
  case round =>
    obtain ⟨rfl, rfl⟩ := hrel
    go_wp2
    go_ret
    exact ⟨rfl, rfl⟩
set_option maxRecDepth 100000 in
theorem heldO (g cap n : Nat) (k : Int) (w : World) (h : OB w g cap (MKo k n)) (hL : n ≤ 1048576) (hk0 : 0 ≤ k) (hk1 : k ≤ 10000000) :
    Calls Try.prog 16 #[.slice (some ⟨g, 0, none⟩) n cap, .int .i64 k] w fun e w' => e = .returned (.int .i64 (k + (n : Int))) ∧ w' = w := by
  go_enter Try.func16, Try.ntmps16
  go_wp2_with fail
  go_loop [1, 5] (fun kv i => ∃ j : Nat, j ≤ n ∧ i = .int .i64 j ∧ kv = .int .i64 (k + (j : Int))) (fun _ i => n - (intOf i).toNat)
  case atStart => exact ⟨0, by omega, rfl, by simp⟩
  case round =>
    obtain ⟨j, hj, rfl, rfl⟩ := hrel
    by_cases hlt : j < n
    · have hd : decide ((j : Int) < (n : Int)) = true := by simpa using hlt
      have d0 := h.cell (MKo_get hlt)
      rw [Int.add_comm] at d0
      go_wp2
      go_round
      case rel => exact ⟨j + 1, by omega, by go_num, by go_num⟩
      case measure => simp [intOf]; omega
    · have hd : decide ((j : Int) < (n : Int)) = false := by simp; omega
      obtain rfl : j = n := by omega
      go_wp2
      go_ret
      exact ⟨rfl, rfl⟩
set_option maxRecDepth 100000 in
theorem heldO_nil (k : Int) (w : World) : Calls Try.prog 16 #[.slice none 0 0, .int .i64 k] w fun e w' => e = .returned (.int .i64 k) ∧ w' = w := by
  go_enter Try.func16, Try.ntmps16
  go_wp2_with fail
  go_loop [1, 5] (fun kv i => kv = .int .i64 k ∧ i = .int .i64 0) (fun _ _ => 0)
  case atStart => exact ⟨rfl, rfl⟩
  case round =>
    obtain ⟨rfl, rfl⟩ := hrel
    go_wp2
    go_ret
    exact ⟨rfl, rfl⟩
end Go.Proofs.Ytgdkionmeacalaa
end
section
namespace Go.Proofs.Ytgdkionmeacalaa
open Go.RowKit
set_option linter.unusedVariables false
set_option maxHeartbeats 1000000
/-! A tree that is marked. -/
structure TM (g hi : Nat) (S : List Nr) (w : World) : Prop where
  s : NodS w g S
  l : LnsS w g hi 0 S
  a : ApS S
  lt : g < hi
theorem TM.of {g : Nat} {w : World} {R S : List Nr} (h : NrB w g S) (hc : CpR (g + 1) w R S) : TM g w.heap.size S w := ⟨NodS.of h, LnsS.of hc (Nat.le_refl _), hc.apart, h.lt⟩
theorem TM.keep {g hi : Nat} {S : List Nr} {w w' : World} (h : TM g hi S w) (hb : Below w.heap.size w w') : TM g hi S w' :=
  ⟨h.s.keep (hb.block g h.s.lt), fun i q hk hq => by
    obtain ⟨g1, g2, e1, e2, e3, e4, l1, l2, l3, b1, b2⟩ := h.l i q hk hq
    exact ⟨g1, g2, e1, e2, e3, e4, l1, l2, l3, b1.keep hb, b2.keep hb⟩, h.a, h.lt⟩
theorem Wi.pre {lo hi : Nat} {w w' : World} {o : Obj} (h : Wi lo hi (w.alloc o) w') : Wi lo hi w w' :=
  ⟨h.os.trans rfl, h.tape.trans rfl, h.output.trans rfl, by have := h.size; rw [World.size_alloc] at this; omega, fun k hk hn => (h.block k (by rw [World.size_alloc]; omega) hn).trans (Below.heap_alloc _ _ _ hk)⟩
set_option maxRecDepth 100000 in
theorem markTree_v (g hi k c : Nat) (S : List Nr) (w : World) (hk : k = S.length) (h : TM g hi S w) (hL : S.length ≤ 1048576) (hz : S.length + szL S ≤ 1048576) :
    Calls Try.prog 10 #[.agg #[.slice (some ⟨g, 0, none⟩) k c], .int .i64 1] w fun e w' => e = .returned (.int .i64 (1 + mkS S)) ∧ Wi g hi w w' := by
  subst hk
  have HM := Lib.hid (h.keep (balloc (o := .cells #[.slice (some ⟨g, 0, none⟩) S.length c] 28 (0, 0)) (Below.refl w.heap.size w)))
  have hx := newS w (.cells #[.slice (some ⟨g, 0, none⟩) S.length c] 28 (0, 0))
  have x0 := cellS hx 0
  clear h hx
  go_enter Try.func10, Try.ntmps10
  go_wp2_with fail
  with_reducible refine (markNodeS_v g hi _ c S 1 _ rfl HM.out.s HM.out.l HM.out.a HM.out.lt hL hz (by omega) (by omega)).mono ?_
  rintro e w1 ⟨rfl, hw⟩
  have HW := Lib.hid hw.pre
  clear hw x0
  go_wp2
  go_ret
  exact ⟨rfl, HW.out⟩
/-- a list in a block from lo on that has room, or none -/
def GO (lo : Nat) (w : World) (v : Value) (M : List Int) : Prop := (v = .slice none 0 0 ∧ M = []) ∨ ∃ g cap n, v = .slice (some ⟨g, 0, none⟩) n cap ∧ n = M.length ∧ lo ≤ g ∧ OB w g cap M
theorem GO.of {lo n : Nat} {w : World} {v : Value} {M : List Int} (h : w.ownsRow lo 3 1 v n (nvalsW M)) (hn : n = M.length) : GO lo w v M :=
  (own_inW h hn).imp id fun ⟨g, cap, h1, h2, h3⟩ => ⟨g, cap, n, h1, hn, h2, h3⟩
theorem GO.nr {lo : Nat} {w : World} {v : Value} {L : List Int} (h : GO lo w v L) : NR w v L := by
  rcases h with ⟨rfl, rfl⟩ | ⟨g, cap, n, rfl, hn, _, hk⟩
  · exact ⟨none, 0, rfl, NV.nil _ _⟩
  · exact hk.nr hn cap
theorem GO.keep {lo : Nat} {w w' : World} {v : Value} {L : List Int} (h : GO lo w v L) (hb : Below w.heap.size w w') : GO lo w' v L := h.imp id fun ⟨g, cap, n, h1, h2, h3, hk⟩ => ⟨g, cap, n, h1, h2, h3, hk.keep hb⟩
theorem GO.wi {lo a b : Nat} {w w' : World} {v : Value} {L : List Int} (h : GO lo w v L) (hw : Wi a b w w') (hl : b ≤ lo) : GO lo w' v L := h.imp id fun ⟨g, cap, n, h1, h2, h3, hk⟩ => ⟨g, cap, n, h1, h2, h3, hk.sameL (hw.block g hk.lt (by omega))⟩
theorem GO.mono {lo lo' : Nat} {w : World} {v : Value} {L : List Int} (h : GO lo w v L) (hl : lo' ≤ lo) : GO lo' w v L := h.imp id fun ⟨g, cap, n, h1, h2, h3, hk⟩ => ⟨g, cap, n, h1, h2, Nat.le_trans hl h3, hk⟩
def GOM (w : World) (v : Value) (n : Nat) : Prop := (v = .slice none 0 0 ∧ n = 0) ∨ ∃ g cap, v = .slice (some ⟨g, 0, none⟩) n cap ∧ OB w g cap (MKo 1 n)
theorem GOM.keep {w w' : World} {v : Value} {n : Nat} (h : GOM w v n) (hb : Below w.heap.size w w') : GOM w' v n := h.imp id fun ⟨g, cap, h1, hk⟩ => ⟨g, cap, h1, hk.keep hb⟩
theorem markGO (lo : Nat) (w : World) (v : Value) (M : List Int) (h : GO lo w v M) (hM : M.length ≤ 1048576) (hlo : lo ≤ w.heap.size) :
    Calls Try.prog 15 #[v, .int .i64 1] w fun e w' => e = .returned (.int .i64 (1 + (M.length : Int))) ∧ GOM w' v M.length ∧ Below lo w w' := by
  rcases h with ⟨rfl, rfl⟩ | ⟨g, cap, n, rfl, rfl, hlg, hk⟩
  · refine (markO_nil 1 w).mono ?_
    rintro e w' ⟨rfl, rfl⟩
    exact ⟨rfl, .inl ⟨rfl, rfl⟩, Below.refl _ _⟩
  · refine (markO g cap M.length 1 M w hk rfl hM (by omega) (by omega)).mono ?_
    rintro e w' ⟨rfl, hk', hg⟩
    exact ⟨rfl, .inr ⟨g, cap, rfl, hk'⟩, below_grownI hg (fun q e => by cases e; exact hlg) hlo⟩
theorem heldGO (w : World) (v : Value) (n : Nat) (h : GOM w v n) (hn : n ≤ 1048576) :
    Calls Try.prog 16 #[v, .int .i64 1] w fun e w' => e = .returned (.int .i64 (1 + (n : Int))) ∧ w' = w := by
  rcases h with ⟨rfl, rfl⟩ | ⟨g, cap, rfl, hk⟩
  · exact heldO_nil 1 w
  · exact heldO g cap n 1 w hk hn (by omega) (by omega)
end Go.Proofs.Ytgdkionmeacalaa
end
section
namespace Go.Proofs.Ytgdkionmeacalaa
open Go.RowKit
set_option linter.unusedVariables false
set_option maxHeartbeats 4000000
theorem new_full {w : World} {o : Obj} {cs : Array Value} {T : TypeId} (p : Nr) (ho : o = .cells cs T (0, 0)) (hs : cs.size = 34) : ((w.alloc o).setCells w.heap.size 0 (valsNr p)).heap[w.heap.size]? = some (.cells (valsNr p).toArray T (0, 0)) := by
  subst ho
  rw [heap_setCells (valsNr p) 0 _ _ (newS w _), wrAt_all (by rw [hs]; rfl)]
theorem nok_kids {R : List Nr} {k : Nat} {p : Nr} (hall : (List.range k).all (nokB (R.map Nr.n)) = true) (hp : R[k]? = some p) (hup : upB k p.n = true) (h0 : k ≠ 0) :
    ∃ (m : Nat) (u : Nr), p.n.pa = m ∧ m < k ∧ R[m]? = some u ∧ (u.n.ki = 1 → (1 ≤ u.n.cs.length ∧ u.n.cs.length ≤ 5) ∧ (1 ≤ u.n.rs.length ∧ u.n.rs.length ≤ 5)) ∧ clB (R.map Nr.n) k p.n = (decide (u.n.ki ≠ 1) || cellB u.n.cs.length u.n.rs.length p.n.ce) := by
  unfold upB at hup
  rw [if_neg h0, rng_iff] at hup
  obtain ⟨m, hm⟩ := Int.eq_ofNat_of_zero_le hup.1
  have hmk : m < k := by omega
  have hkl := (List.getElem?_eq_some_iff.1 hp).1
  have hml : m < R.length := by omega
  have hu : R[m]? = some R[m] := List.getElem?_eq_getElem hml
  refine ⟨m, R[m], hm, hmk, hu, fun hk => ?_, ?_⟩
  · have h1 := List.all_eq_true.1 hall m (List.mem_range.2 hmk)
    rw [nokB_at (n := (R[m]).n) (by rw [List.getElem?_map, hu]; rfl)] at h1
    simp only [Bool.and_eq_true] at h1
    obtain ⟨l1, l2⟩ := own_lines h1.1 hk
    exact ⟨linesB_len' l1, linesB_len' l2⟩
  · unfold clB
    rw [if_neg h0, hm]
    simp only [Int.toNat_natCast]
    rw [List.getElem?_map, hu]
    rfl
set_option maxRecDepth 100000 in
theorem ValidTree_v (A : Option Addr) (c : Nat) (R : List Nr) (b : Bool) (w : World) (h : NrV w A R) (hr : RdR w R) (hL : R.length ≤ 1048576) (hm : ∀ p ∈ R, p.n.cs.length ≤ 1048576 ∧ p.n.rs.length ≤ 1048576) (hb : treeB (R.map Nr.n) = b) :
    Calls Try.prog 21 #[.agg #[.slice A R.length c]] w fun e w' => e = .returned (.bool b) ∧ Below w.heap.size w w' := by
  have hB0 : Below w.heap.size w (w.alloc (.cells #[.slice A R.length c] 28 (0, 0))) := balloc (Below.refl _ _)
  have HX := Lib.hid (newS w (.cells #[.slice A R.length c] 28 (0, 0)))
  have HB := Lib.hid hB0
  have HV := Lib.hid (h.keep hB0)
  have HR := Lib.hid (hr.keep hB0)
  have HM := Lib.hid hm
  have x0 := cellS HX.out 0
  have lx := ltS HX.out
  clear hB0 h hr hm
  cases hl : rng R.length 1 10
  · obtain rfl : false = b := by rw [← hb]; unfold treeB; rw [List.length_map, hl]; rfl
    go_enter Try.func21, Try.ntmps21
    go_wp2_with fail
    with_reducible refine (within_w _ 1 10 false _ hl).mono ?_
    rintro e w' ⟨rfl, rfl⟩
    go_wp2
    go_ret
    exact ⟨rfl, HB.out⟩
  · have hl2 : 1 ≤ R.length ∧ R.length ≤ 10 := by rw [rng_iff] at hl; omega
    have hb2 : (List.range R.length).all (nokB (R.map Nr.n)) = b := by rw [← hb]; unfold treeB; rw [List.length_map, hl]; rfl
    have HBB := Lib.hid hb2
    clear hb hb2
    obtain ⟨hl3, hl4⟩ := hl2
    go_enter Try.func21, Try.ntmps21
    go_wp2_with fail
    with_reducible refine (within_w _ 1 10 true _ hl).mono ?_
    rintro e w' ⟨rfl, rfl⟩
    go_wp2_with fail
    go_loopw [13] (fun i wr => ∃ k : Nat, k ≤ R.length ∧ i = .int .i64 k ∧ (List.range k).all (nokB (R.map Nr.n)) = true ∧ wr.heap[w.heap.size]? = some (.cells #[.slice A R.length c] 28 (0, 0)) ∧ NrV wr A R ∧ RdR wr R ∧ Below w.heap.size w wr) (fun i _ => R.length - (intOf i).toNat)
    case atStart => exact ⟨0, by omega, rfl, rfl, HX.out, HV.out, HR.out, HB.out⟩
    case round =>
      obtain ⟨k, hk, rfl, hall, hx, hv, hr, hB⟩ := hrel
      clear HX HV HR HB x0 lx
      by_cases hlt : k < R.length
      · have hd : decide ((k : Int) < (R.length : Int)) = true := by simpa using hlt
        have hget : R[k]? = some R[k] := List.getElem?_eq_getElem hlt
        obtain ⟨bl, off, rfl, hbl, hp⟩ := hv.cells (by omega)
        have hLR := hp k _ hget
        have hrd := hr _ (List.mem_of_getElem? hget)
        have hmm := HM.out _ (List.mem_of_getElem? hget)
        generalize R[k] = p at *
        obtain ⟨m1, m2⟩ := hmm
        have hnb : nokB (R.map Nr.n) k = (ndB p.n && (upB k p.n && clB (R.map Nr.n) k p.n)) := nokB_at (by rw [List.getElem?_map, hget]; rfl)
        have HNB := Lib.hid hnb
        have HLR := Lib.hid hLR
        have HG := Lib.hid hget
        have HALL := Lib.hid hall
        have HX := Lib.hid hx
        have HV := Lib.hid hv
        have HR := Lib.hid hr
        have HD := Lib.hid hrd
        have HB := Lib.hid hB
        have lx := ltS hx
        clear hget hp hLR hrd hall hx hv hr hB hnb
        go_upto_region 6 with (first | (refine ldN _ p bl (off + k * 34) rfl rfl rfl HLR.out ?_) | (refine stN (.tmp 4) (.tmp 17) p wr.heap.size 0 rfl rfl rfl rfl (newS _ _) (by show (0 + 34 : Nat) ≤ 34; omega) ?_))
        refine wp_genGG (fun W => W.heap[wr.heap.size]? = some (.cells (valsNr p).toArray 71 (0, 0)) ∧ Below wr.heap.size wr W) ⟨new_full p rfl rfl, below_setCells (Nat.le_refl _) _ _ _ (balloc (Below.refl _ _))⟩ (fun W h0 => ?_)
        obtain ⟨hn, hb⟩ := h0
        replace HX := Lib.hid ((hb.block _ lx).trans HX.out)
        replace HV := Lib.hid (HV.out.keep hb)
        replace HR := Lib.hid (HR.out.keep hb)
        replace HD := Lib.hid (HD.out.keep hb)
        replace HB := Lib.hid (bkeep2 HB.out hb)
        have HN := Lib.hid hn
        clear hn hb lx HLR
        cases h1 : ndB p.n
        · go_wp2_with (refine ldN _ p wr.heap.size 0 rfl rfl rfl (nodeAt HN.out) ?_)
          with_reducible refine (validNode_v p false _ HD.out m1 m2 h1).mono ?_
          rintro e w1 ⟨rfl, hb⟩
          replace HB := Lib.hid (bkeep2 HB.out hb)
          clear hb
          go_wp2
          go_ret
          exact ⟨ret_bool (by rw [← HBB.out]; exact (all_falseG (k := k) (p := k) (by rw [List.getElem?_range (by omega)]) (by rw [HNB.out, h1]; rfl)).symm), HB.out⟩
        · have hx0 := cellS HX.out 0
          go_wp2_with (refine ldN _ p wr.heap.size 0 rfl rfl rfl (nodeAt HN.out) ?_)
          with_reducible refine (validNode_v p true _ HD.out m1 m2 h1).mono ?_
          rintro e w1 ⟨rfl, hb⟩
          clear hx0
          replace HX := Lib.hid ((hb.block _ (Array.getElem?_eq_some_iff.1 HX.out).1).trans HX.out)
          replace HV := Lib.hid (HV.out.keep hb)
          replace HR := Lib.hid (HR.out.keep hb)
          replace HB := Lib.hid (bkeep2 HB.out hb)
          clear hb
          have hx0 := cellS HX.out 0
          cases h2 : upB k p.n
          · go_wp2_with fail
            with_reducible refine (hasParentAhead_v _ c R k p false _ HV.out HG.out hl4 h2).mono ?_
            rintro e w2 ⟨rfl, hb⟩
            clear hx0
            replace HB := Lib.hid (bkeep2 HB.out hb)
            clear hb
            go_wp2
            go_ret
            exact ⟨ret_bool (by rw [← HBB.out]; exact (all_falseG (k := k) (p := k) (by rw [List.getElem?_range (by omega)]) (by rw [HNB.out, h1, h2]; rfl)).symm), HB.out⟩
          · go_wp2_with fail
            with_reducible refine (hasParentAhead_v _ c R k p true _ HV.out HG.out hl4 h2).mono ?_
            rintro e w2 ⟨rfl, hb⟩
            clear hx0
            replace HX := Lib.hid ((hb.block _ (Array.getElem?_eq_some_iff.1 HX.out).1).trans HX.out)
            replace HV := Lib.hid (HV.out.keep hb)
            replace HR := Lib.hid (HR.out.keep hb)
            replace HB := Lib.hid (bkeep2 HB.out hb)
            clear hb
            have hx0 := cellS HX.out 0
            have hcv : ∀ cb, clB (R.map Nr.n) k p.n = cb → Calls Try.prog 38 #[.agg #[.slice (some ⟨bl, off, none⟩) R.length c], .int .i64 k] w2 fun e w' => e = .returned (.bool cb) ∧ Below w2.heap.size w2 w' := by
              intro cb hcb
              by_cases hz : k = 0
              · subst hz
                obtain rfl : true = cb := by rw [← hcb]; rfl
                exact hasValidCell_0 _ _ _ _
              · obtain ⟨m, u, e1, e2, e3, e4, e5⟩ := nok_kids HALL.out HG.out h2 hz
                exact hasValidCell_s _ c R k m p u cb _ HV.out HG.out hl4 hz e1 e2 e3 e4 (by rw [← e5]; exact hcb)
            cases h3 : clB (R.map Nr.n) k p.n
            · have HC := Lib.hid (hcv false h3)
              clear hcv
              go_wp2_with fail
              with_reducible refine (HC.out).mono ?_
              rintro e w3 ⟨rfl, hb⟩
              clear hx0 HC
              replace HB := Lib.hid (bkeep2 HB.out hb)
              clear hb
              go_wp2
              go_ret
              exact ⟨ret_bool (by rw [← HBB.out]; exact (all_falseG (k := k) (p := k) (by rw [List.getElem?_range (by omega)]) (by rw [HNB.out, h1, h2, h3]; rfl)).symm), HB.out⟩
            · have HC := Lib.hid (hcv true h3)
              clear hcv
              go_wp2_with fail
              with_reducible refine (HC.out).mono ?_
              rintro e w3 ⟨rfl, hb⟩
              clear hx0 HC
              replace HX := Lib.hid ((hb.block _ (Array.getElem?_eq_some_iff.1 HX.out).1).trans HX.out)
              replace HV := Lib.hid (HV.out.keep hb)
              replace HR := Lib.hid (HR.out.keep hb)
              replace HB := Lib.hid (bkeep2 HB.out hb)
              clear hb
              go_wp2
              go_roundw
              case rel => exact ⟨k + 1, by omega, by go_num, by rw [range_all_succ, HALL.out, HNB.out, h1, h2, h3]; rfl, HX.out, HV.out, HR.out, HB.out⟩
              case measure => simp [intOf]; omega
      · have hd : decide ((k : Int) < (R.length : Int)) = false := decide_eq_false (by omega)
        obtain rfl : k = R.length := by omega
        have HB := Lib.hid hB
        have HALL := Lib.hid hall
        clear hx hv hr hB hall
        go_wp2
        go_ret
        exact ⟨ret_bool (by rw [← HBB.out, HALL.out]), HB.out⟩
end Go.Proofs.Ytgdkionmeacalaa
end
