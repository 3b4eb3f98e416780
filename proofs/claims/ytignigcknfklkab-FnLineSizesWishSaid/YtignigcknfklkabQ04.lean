import Derived.Test.YtignigcknfklkabQ03
import Derived.LoopTactic
import Derived.OwnWalk
import Derived.Lib.SmallJoins
section
namespace Go.Proofs.Ytignigcknfklkab
open Go.RowKit
set_option linter.unusedVariables false
set_option maxHeartbeats 1000000
def isIn (lo hi : Int) : Value → Bool | .int .i64 z => decide (lo ≤ z ∧ z ≤ hi) | _ => false
theorem isIn_ex {lo hi : Int} {v : Value} (h : isIn lo hi v = true) : ∃ z, v = .int .i64 z ∧ lo ≤ z ∧ z ≤ hi := by
  unfold isIn at h
  split at h
  · exact ⟨_, rfl, by simpa using h⟩
  · cases h
/-- one of a literal's numbers, with their bounds -/
theorem one_lit_in (lo hi : Int) {B rb : Nat} {A : Option Addr} {l c m k : Nat} {cs : Array Value} {T : TypeId} (w : World) (h : Rd B rb A l c m w) (hm : m ≤ 1000000) (hk : cs.size = k) (h1 : 1 ≤ k) (h2 : k ≤ 100) (ha : cs.toList.all (isIn lo hi) = true) :
    Calls Try.prog 34 #[.pointer (some ⟨rb, 0, none⟩), .slice (some ⟨w.heap.size, 0, none⟩) k k] (w.alloc (.cells cs T)) fun e w' => (∃ z, e = .returned (.int .i64 z) ∧ lo ≤ z ∧ z ≤ hi) ∧ Rd B rb A l c (m + 1) w' ∧ Chg [rb] w w' := by
  have hlt := h.lt
  have hg4 : ∀ j, j < k → ∃ z, (w.alloc (.cells cs T)).cell? ⟨w.heap.size, j, none⟩ = some (.int .i64 z) ∧ lo ≤ z ∧ z ≤ hi := fun j hj => by
    have hc : cs[j]? = some cs[j] := by simp [hk, hj]
    obtain ⟨z, hz, hb⟩ := isIn_ex (List.all_eq_true.1 ha cs[j] (by simp))
    refine ⟨z, ?_, hb⟩
    rw [← hz, ← hc]
    exact cell_of_heap (heap_alloc_new w (.cells cs T)) j
  go_enter Try.func34, Try.ntmps34
  go_wp2_with fail
  refine (pick_any _ _ (h.alloc _) hm).mono ?_
  rintro e w1 ⟨⟨v, rfl, hv⟩, hr, hc⟩
  obtain ⟨v0, v1⟩ := hv (by omega)
  obtain ⟨j, rfl⟩ := Int.eq_ofNat_of_zero_le v0
  obtain ⟨z, hz, hb⟩ := hg4 j (by omega)
  have hz' := (hc.cell (p := ⟨w.heap.size, j, none⟩) (by simp) (by simp; omega)).trans hz
  have hjk : j < k := by omega
  have Hr := Lib.hid hr
  have Hc := Lib.hid (((Chg.refl [rb] w).alloc (.cells cs T)).trans hc)
  clear hr hc hv hz hg4 h
  go_wp2
  go_ret
  exact ⟨⟨_, rfl, hb⟩, Hr.out, Hc.out⟩
end Go.Proofs.Ytignigcknfklkab
end
section
namespace Go.Proofs.Ytignigcknfklkab
open Go.RowKit
set_option linter.unusedVariables false
set_option maxHeartbeats 1000000
def nvals (L : List Int) : List Value := L.map (Value.int .i64)
theorem nvals_snoc (L : List Int) (x : Int) : nvals L ++ [.int .i64 x] = nvals (L ++ [x]) := by simp [nvals]
theorem own_chgN {w w' : World} {base rb : Nat} {e : TypeId} {size : Nat} {v : Value} {n : Nat} {xs : List Value} (h : w.ownsRow base e size v n xs) (hc : Chg [rb] w w') (hr : rb < base) : w'.ownsRow base e size v n xs :=
  h.kept (row := some rb) ⟨hc.os, hc.tape, hc.output, hc.size, fun k hk hne => hc.block k hk (by simp; exact fun e => hne (by rw [e]))⟩ (by
    cases hv : v.ownBlock with
    | none => exact .inl rfl
    | some g => exact .inr (fun e => by have := h.lt g hv; cases e; omega))
theorem chg_grownN {S : List Nat} {a W w5 : World} {v : Value} {o : Obj} {lo hi : Nat} (h : Chg S a W) (hg : (W.alloc o).grownBy w5 v.ownBlock) (hob : ∀ k, v.ownBlock = some k → lo ≤ k ∧ k < hi) (hlo : a.heap.size ≤ lo) : Chg S a w5 :=
  ⟨hg.os.trans (h.alloc o).os, hg.tape.trans (h.alloc o).tape, hg.output.trans (h.alloc o).output, Nat.le_trans (h.alloc o).size hg.size, fun k hk hs => (hg.block k (Nat.lt_of_lt_of_le hk (h.alloc o).size) (fun e => by have := hob k e.symm; omega)).trans ((h.alloc o).block k hk hs)⟩
theorem rd_grownN {B rb : Nat} {A : Option Addr} {n c m : Nat} {W w5 : World} {v : Value} {o : Obj} {lo hi : Nat} (h : Rd B rb A n c m W) (hg : (W.alloc o).grownBy w5 v.ownBlock) (hob : ∀ k, v.ownBlock = some k → lo ≤ k ∧ k < hi) (hlo : rb < lo) : Rd B rb A n c m w5 := by
  have hb := h.base
  cases hv : v.ownBlock with
  | none =>
    rw [hv] at hg
    exact h.keep (S := []) ⟨hg.os, hg.tape, hg.output, Nat.le_trans (by simp) hg.size, fun k hk _ => (hg.block k (by simp; omega) (fun e => by cases e)).trans (Below.heap_alloc _ _ _ hk)⟩ (by simp)
  | some g =>
    have := hob g hv
    rw [hv] at hg
    exact h.keep (S := [g]) (Chg.of_grown ((Chg.refl [g] W).alloc o) hg (.inl (by simp))) (by simp; omega)
theorem own_in1 {w : World} {base n : Nat} {v : Value} {M : List Int} {T : TypeId} (h : w.ownsRow base T 1 v n (nvals M)) (hn : n = M.length) :
    (v = .slice none 0 0 ∧ M = []) ∨ ∃ g cap, ∃ cs : Array Value, v = .slice (some ⟨g, 0, none⟩) n cap ∧ base ≤ g ∧ n ≤ cap ∧ w.heap[g]? = some (.cells cs T (0, 0)) ∧ cs.size = cap * 1 ∧ ∀ (i : Nat) (x : Int), M[i]? = some x → cs[i]? = some (Value.int .i64 x) := by
  rcases h.2 with ⟨rfl, h0⟩ | ⟨g, cap, cur, rfl, hb, hg, hc, _, hs, ht⟩
  · exact .inl ⟨rfl, List.length_eq_zero_iff.1 (by omega)⟩
  · refine .inr ⟨g, cap, cur, rfl, hb, hc, hg, hs, fun i x hx => ?_⟩
    have e : (nvals M)[i]? = some (Value.int .i64 x) := by simp [nvals, hx]
    have hi := (List.getElem?_eq_some_iff.1 hx).1
    rw [← ht, List.getElem?_take] at e
    rw [if_pos (by omega)] at e
    simpa using e
theorem nv_of {w : World} {g : Nat} {cs : Array Value} {T : TypeId} {M : List Int} (hh : w.heap[g]? = some (.cells cs T (0, 0))) (hc : ∀ (i : Nat) (x : Int), M[i]? = some x → cs[i]? = some (Value.int .i64 x)) : NV w (some ⟨g, 0, none⟩) M :=
  ⟨fun _ => ⟨g, 0, rfl, (Array.getElem?_eq_some_iff.1 hh).1, fun i x hx => by rw [Nat.zero_add]; exact (cell_of_heap hh i).trans (hc i x hx)⟩⟩
theorem NV.chg {w w' : World} {A : Option Addr} {L : List Int} {rb : Nat} (h : NV w A L) (hc : Chg [rb] w w') (hne : ∀ a, A = some a → a.block ≠ rb) : NV w' A L :=
  ⟨fun h0 => let ⟨b, off, e, hl, hp⟩ := h.cells h0; ⟨b, off, e, Nat.lt_of_lt_of_le hl hc.size, fun i x hx => (hc.cell (p := ⟨b, off + i, none⟩) hl (by simp; exact hne _ e)).trans (hp i x hx)⟩⟩
theorem int_info : ∃ (i : TypeInfo) (z : Value), Try.prog.info? 3 = some i ∧ i.zero = some z ∧ i.size = 1 ∧ i.bytes = 8 ∧ z.cells.size = 1 := by
  have hinfo : (Try.prog.info? 3).map (fun i => (i.zero, i.size, i.bytes)) = some (some (.int .i64 0), 1, 8) := by kernel_rfl
  obtain ⟨i, hi, h1, h2, h3⟩ := info_parts hinfo
  exact ⟨i, _, hi, h1, h2, h3, rfl⟩
theorem new1 (W : World) (x : Int) (T : TypeId) : ∀ (j : Nat) (u : Value), [Value.int .i64 x][j]? = some u → (W.alloc (.cells #[.int .i64 x] T)).cell? ((⟨W.heap.size, 0, none⟩ : Addr).add j) = some u := fun j u h => by
  have hadd : (⟨W.heap.size, 0, none⟩ : Addr).add j = ⟨W.heap.size, j, none⟩ := by unfold Addr.add; split <;> simp_all
  rw [hadd]
  exact (cell_of_heap (heap_alloc_new W _) j).trans (by simpa using h)
end Go.Proofs.Ytignigcknfklkab
end
section
namespace Go.Proofs.Ytignigcknfklkab
open Go.RowKit
set_option linter.unusedVariables false
theorem IsRow.bts {w : World} {A : Option Addr} {n c : Nat} {z : List Int} (h : IsRow .u8 w A n c z) : Bts w A n ∧ n ≤ c ∧ c ≤ maxLen := by
  rcases h with ⟨rfl, rfl, rfl, rfl⟩ | ⟨x, rfl, h1, h2, h3, h4, h5⟩
  · exact ⟨fun h => absurd h (by omega), Nat.le_refl _, by unfold maxLen; omega⟩
  · refine ⟨fun hn => ⟨x, rfl, ?_, fun i hi => ?_⟩, h1, h2⟩
    · have := h4 0 (by omega)
      have h6 := World.block_lt_of_cell? w _ this
      rwa [block_add] at h6
    · have hc := h4 i (by omega)
      refine ⟨z.getD i 0, ?_, ?_, hc⟩
      all_goals
        have hm : z.getD i 0 ∈ z := by
          rw [List.getD_eq_getElem?_getD, List.getElem?_eq_getElem (by omega)]
          exact List.getElem_mem _
        have h6 := h5 _ hm
        have g1 : IntKind.u8.min = 0 := by decide
        have g2 : IntKind.u8.max = 255 := by decide
        generalize z.getD i 0 = y at *
        simp [Lit.wf, g1, g2] at h6
        omega
end Go.Proofs.Ytignigcknfklkab
end
section
namespace Go.Proofs.Ytignigcknfklkab
open Go.RowKit
set_option linter.unusedVariables false
set_option maxHeartbeats 1000000
attribute [local go_sem] growUpon_value growUpon_skip growUpon_enter
set_option maxRecDepth 100000 in
theorem equalInts_z (v v' : Value) (L : List Int) (w : World) (h : NR w v L) (h' : NR w v' L) (hL : L.length ≤ 1048576) :
    Calls Try.prog 11 #[v, v'] w fun e w' => e = .returned (.bool true) ∧ Below w.heap.size w w' := by
  obtain ⟨A, c, rfl, h⟩ := h
  obtain ⟨B, c', rfl, h'⟩ := h'
  go_enter Try.func11, Try.ntmps11
  go_wp2_with fail
  go_loopw [5] (fun i wr => ∃ k : Nat, k ≤ L.length ∧ i = .int .i64 k ∧ Below w.heap.size w wr) (fun i _ => L.length - (intOf i).toNat)
  case atStart => exact ⟨0, by omega, rfl, Below.refl _ _⟩
  case round =>
    obtain ⟨k, hk, rfl, hB⟩ := hrel
    by_cases hlt : k < L.length
    · have hd : decide ((k : Int) < (L.length : Int)) = true := by simpa using hlt
      obtain ⟨b, off, rfl, hb, hp⟩ := (h.keep hB).cells (by omega)
      obtain ⟨b', off', rfl, hb', hp'⟩ := (h'.keep hB).cells (by omega)
      have hget : L[k]? = some L[k] := List.getElem?_eq_getElem hlt
      have c0 := hp k _ hget
      have d0 := hp' k _ hget
      generalize hx : L[k] = x at *
      have HB := Lib.hid hB
      clear hget hx hp hp' hB
      go_wp2_with fail
      refine wp_region_grow 9 0 (· < 9) (by kernel_rfl) (by kernel_rfl) rfl ?_
      iterate 9 (refine wpG_step (fun K hK => ?_); first | (refine grow_skip rfl ?_; go_simp; refine hK _ ?_; clear hK K) | (apply Exists.intro; refine ⟨.inl ⟨rfl, fun w' hw' => ?_⟩, ?_⟩; (focus ((obtain ⟨hc, hf⟩ := bcell hw'.out); (have hcS := bcellS hw'.out); go_simp <;> first | rfl | (fail))); (go_simp; refine hK _ ?_; clear hK K)))
      refine wpG_nil ?_
      refine wpK_tail (by kernel_rfl) (fun w1 hg1 => ?_)
      have hb1 := bdrewn hg1.out
      refine wpAny_end (by kernel_rfl) ?_
      refine NoPan.thn ?_
      clear hg1
      replace HB := Lib.hid (HB.out.trans (hb1.mono HB.out.size))
      clear hb1 c0 d0
      go_wp2
      go_roundw
      case rel => exact ⟨k + 1, by omega, by go_num, HB.out⟩
      case measure => simp [intOf]; omega
    · have hd : decide ((k : Int) < (L.length : Int)) = false := by simp; omega
      have HB := Lib.hid hB
      clear hB
      go_wp2
      go_ret
      exact ⟨rfl, HB.out⟩
set_option maxRecDepth 100000 in
theorem ltotal_v (A : Option Addr) (c : Nat) (L : List Int) (w : World) (h : NV w A L) (hL : L.length ≤ 1048576) (hM : Smal 1000000000 L) :
    Calls Try.prog 13 #[.slice A L.length c] w fun e w' => e = .returned (.int .i64 (sumI L)) ∧ w = w' := by
  have HM := Lib.hid hM
  clear hM
  go_enter Try.func13, Try.ntmps13
  go_wp2_with fail
  go_loop [3, 4] (fun s i => ∃ k : Nat, k ≤ L.length ∧ i = .int .i64 k ∧ s = .int .i64 (sumI (L.take k))) (fun _ i => L.length - (intOf i).toNat)
  case atStart => exact ⟨0, by omega, rfl, rfl⟩
  case round =>
    obtain ⟨k, hk, rfl, rfl⟩ := hrel
    by_cases hlt : k < L.length
    · have hd : decide ((k : Int) < (L.length : Int)) = true := by simpa using hlt
      obtain ⟨b, off, rfl, hb, hp⟩ := h.cells (by omega)
      have hget : L[k]? = some L[k] := List.getElem?_eq_getElem hlt
      have c0 := hp k _ hget
      generalize hx : L[k] = x at *
      have hs := sumI_snoc hget
      have b1 := HM.out k
      have b2 := HM.out (k + 1)
      rw [hs] at b2
      obtain ⟨S, hS⟩ : ∃ S, sumI (L.take k) = S := ⟨_, rfl⟩
      rw [hS] at b1 b2 hs
      rw [hS]
      have HS := Lib.hid hs
      clear hs hS hget hx hp
      go_wp2
      go_round
      case rel => exact ⟨k + 1, by omega, by go_num, by rw [HS.out]⟩
      case measure => simp [intOf]; omega
    · have hd : decide ((k : Int) < (L.length : Int)) = false := by simp; omega
      have he : L.take k = L := List.take_of_length_le (by omega)
      rw [he]
      clear he
      go_wp2
      go_ret
      exact ⟨rfl, rfl⟩
theorem ltotal_n (A : Option Addr) (c n : Nat) (L : List Int) (w : World) (h : NV w A L) (hn : n = L.length) (hL : n ≤ 1048576) (hM : Smal 1000000000 L) :
    Calls Try.prog 13 #[.slice A n c] w fun e w' => e = .returned (.int .i64 (sumI L)) ∧ w = w' := by subst hn; exact ltotal_v A c L w h hL hM
def sbL (n : Int) (L : List Int) : List Int := if sbB n L then spreadM n L else []
theorem sbL_len {n : Int} {L : List Int} : (sbL n L).length ≤ 5 := by
  unfold sbL
  split
  · rename_i h; rw [spreadM_len]; exact (sbB_yes h).1.2.2
  · simp
end Go.Proofs.Ytignigcknfklkab
end
section
namespace Go.Proofs.Ytignigcknfklkab
open Go.RowKit
set_option linter.unusedVariables false
set_option maxHeartbeats 1000000
/-- values written side by side -/
def wrAt (cs : Array Value) (o : Nat) : List Value → Array Value
  | [] => cs
  | v :: r => wrAt (cs.setIfInBounds o v) (o + 1) r
theorem wrAt_size : ∀ (vs : List Value) (cs : Array Value) (o : Nat), (wrAt cs o vs).size = cs.size
  | [], cs, o => rfl
  | v :: r, cs, o => by unfold wrAt; rw [wrAt_size r]; simp
theorem wrAt_lo : ∀ (vs : List Value) (cs : Array Value) (o i : Nat), i < o → (wrAt cs o vs)[i]? = cs[i]?
  | [], cs, o, i, _ => rfl
  | v :: r, cs, o, i, h => by unfold wrAt; rw [wrAt_lo r _ _ _ (by omega), Array.getElem?_setIfInBounds_ne (by omega)]
theorem wrAt_hi : ∀ (vs : List Value) (cs : Array Value) (o i : Nat), o + vs.length ≤ i → (wrAt cs o vs)[i]? = cs[i]?
  | [], cs, o, i, _ => rfl
  | v :: r, cs, o, i, h => by
    simp only [List.length_cons] at h
    unfold wrAt; rw [wrAt_hi r _ _ _ (by omega), Array.getElem?_setIfInBounds_ne (by omega)]
theorem wrAt_in : ∀ (vs : List Value) (cs : Array Value) (o j : Nat), o + vs.length ≤ cs.size → j < vs.length → (wrAt cs o vs)[o + j]? = vs[j]?
  | [], cs, o, j, _, h => by simp at h
  | v :: r, cs, o, 0, h, _ => by
    simp only [List.length_cons] at h
    unfold wrAt; rw [wrAt_lo r _ _ _ (by omega), Nat.add_zero, Array.getElem?_setIfInBounds_self_of_lt (by omega)]
    rfl
  | v :: r, cs, o, j + 1, h, hj => by
    simp only [List.length_cons] at h hj
    unfold wrAt
    rw [show o + (j + 1) = o + 1 + j from by omega, wrAt_in r _ _ _ (by simp; omega) (by omega)]
    simp
theorem putS {w : World} {b i : Nat} {cs : Array Value} {T : TypeId} {fz : Nat × Nat} (h : w.heap[b]? = some (.cells cs T fz)) (u : Value) : (w.setCell ⟨b, i, none⟩ u).heap[b]? = some (.cells (cs.setIfInBounds i u) T fz) := by
  simp [World.setCell, Array.getElem?_modify, h]
theorem cellS {w : World} {b : Nat} {cs : Array Value} {T : TypeId} {fz : Nat × Nat} (h : w.heap[b]? = some (.cells cs T fz)) (i : Nat) : w.cell? ⟨b, i, none⟩ = cs[i]? := by simp [World.cell?, h]
theorem frozenS {w : World} {b : Nat} {cs : Array Value} {T : TypeId} (h : w.heap[b]? = some (.cells cs T (0, 0))) (i : Nat) : w.frozen? ⟨b, i, none⟩ = false := by simp [World.frozen?, h]
theorem thereS {w : World} {b : Nat} {cs : Array Value} {T : TypeId} {fz : Nat × Nat} (h : w.heap[b]? = some (.cells cs T fz)) {i : Nat} (hi : i < cs.size) : ∃ v, w.cell? ⟨b, i, none⟩ = some v := ⟨cs[i], (cellS h i).trans (by simp [hi])⟩
theorem newS (w : World) (o : Obj) : (w.alloc o).heap[w.heap.size]? = some o := by
  show (w.heap.push _)[w.heap.size]? = _
  simp
theorem ltS {w : World} {g : Nat} {o : Obj} (h : w.heap[g]? = some o) : g < w.heap.size := (Array.getElem?_eq_some_iff.1 h).1
theorem gsetS {w w' : World} {g : Nat} (h : w.grownBy w' (some g)) (o : Nat) (v : Value) : w.grownBy (w'.setCell ⟨g, o, none⟩ v) (some g) :=
  ⟨h.os, h.tape, h.output, by simpa [World.setCell] using h.size, fun k hk hne => (Below.heap_setCell w' ⟨g, o, none⟩ v k (by rintro rfl; exact hne rfl)).trans (h.block k hk hne)⟩
theorem greflS (w : World) (g : Nat) : w.grownBy w (some g) := ⟨rfl, rfl, rfl, Nat.le_refl _, fun _ _ _ => rfl⟩
/-- the values lie in the cells from o on -/
def InS (cs : Array Value) (o : Nat) (l : List Value) : Prop := ∀ j u, l[j]? = some u → cs[o + j]? = some u
theorem InS.write {cs : Array Value} {o : Nat} {l : List Value} (h : o + l.length ≤ cs.size) : InS (wrAt cs o l) o l := fun j u hu => by
  have hj := (List.getElem?_eq_some_iff.1 hu).1
  rw [wrAt_in _ _ _ _ h hj, hu]
theorem InS.keepS {cs : Array Value} {o o' : Nat} {l m : List Value} (h : InS cs o' m) (hd : o' + m.length ≤ o ∨ o + l.length ≤ o') : InS (wrAt cs o l) o' m := fun j u hu => by
  have hj := (List.getElem?_eq_some_iff.1 hu).1
  rcases hd with hd | hd
  · rw [wrAt_lo _ _ _ _ (by omega)]; exact h j u hu
  · rw [wrAt_hi _ _ _ _ (by omega)]; exact h j u hu
end Go.Proofs.Ytignigcknfklkab
end
section
namespace Go.Proofs.Ytignigcknfklkab
open Go.RowKit
set_option linter.unusedVariables false
set_option maxHeartbeats 1000000
attribute [local go_sem] growUpon_value growUpon_skip growUpon_enter
structure Ln where
  wt : Int
  mi : Int
def valsLn (p : Ln) : List Value := [.int .i64 p.wt, .int .i64 p.mi]
/-- a slice that reads as this list -/
structure LnV (w : World) (A : Option Addr) (L : List Ln) : Prop where
  cells : 0 < L.length → ∃ b off, A = some ⟨b, off, none⟩ ∧ b < w.heap.size ∧ ∀ i p, L[i]? = some p → w.cell? ⟨b, off + i * 2, none⟩ = some (.int .i64 p.wt) ∧ w.cell? ⟨b, off + i * 2 + 1, none⟩ = some (.int .i64 p.mi)
theorem LnV.keep {w w' : World} {A : Option Addr} {L : List Ln} (h : LnV w A L) (hb : Below w.heap.size w w') : LnV w' A L :=
  ⟨fun h0 => let ⟨b, off, e, hl, hp⟩ := h.cells h0; ⟨b, off, e, Nat.lt_of_lt_of_le hl hb.size, fun i p hi => by
    obtain ⟨c0, c1⟩ := hp i p hi
    exact ⟨(hb.cell (p := ⟨b, off + i * 2, none⟩) hl).trans c0, (hb.cell (p := ⟨b, off + i * 2 + 1, none⟩) hl).trans c1⟩⟩⟩
theorem LnV.nil (w : World) (A : Option Addr) : LnV w A [] := ⟨fun h => absurd h (by simp)⟩
/-- what a new block holds -/
def LnB (w : World) (g : Nat) (L : List Ln) : Prop := ∃ cs : Array Value, w.heap[g]? = some (.cells cs 34 (0, 0)) ∧ cs.size = L.length * 2 ∧ ∀ i p, L[i]? = some p → InS cs (i * 2) (valsLn p)
theorem LnB.v {w : World} {g : Nat} {L : List Ln} (h : LnB w g L) : LnV w (some ⟨g, 0, none⟩) L := by
  obtain ⟨cs, hh, hs, hc⟩ := h
  refine ⟨fun _ => ⟨g, 0, rfl, ltS hh, fun i p hp => ?_⟩⟩
  have hi := hc i p hp
  simp only [Nat.zero_add]
  exact ⟨(cellS hh _).trans (hi 0 _ rfl), (cellS hh _).trans (hi 1 _ rfl)⟩
theorem LnB.lt {w : World} {g : Nat} {L : List Ln} (h : LnB w g L) : g < w.heap.size := by obtain ⟨cs, hh, _⟩ := h; exact ltS hh
theorem LnB.keep {w w' : World} {g : Nat} {L : List Ln} (h : LnB w g L) (hb : Below w.heap.size w w') : LnB w' g L := by
  obtain ⟨cs, hh, hs, hc⟩ := h
  exact ⟨cs, (hb.block g (ltS hh)).trans hh, hs, hc⟩
theorem LnB.but {w w' : World} {g h : Nat} {L : List Ln} (hi : LnB w h L) (hg : w.grownBy w' (some g)) (hne : h ≠ g) : LnB w' h L := by
  obtain ⟨cs, hh, hs, hc⟩ := hi
  exact ⟨cs, (hg.block h (ltS hh) (fun e => hne (Option.some.inj e))).trans hh, hs, hc⟩
theorem madeLn : ∃ f : Nat → Array Value, (∀ n, (f n).size = n * 2) ∧ ∀ (n : Nat) (w : World), n ≤ 1048576 → (Instr.makeSlice 23 (.int .i64 (n : Int)) (.int .i64 (n : Int))).run Try.prog w = .ok (.slice (some ⟨w.heap.size, 0, none⟩) n n) (w.alloc (.cells (f n) 34)) := by
  have hinfo : (Try.prog.info? 34).map (fun i => (i.zero, i.size, i.bytes)) = some (some (.agg #[.int .i64 0, .int .i64 0]), 2, 16) := by kernel_rfl
  obtain ⟨i, hi, h1, h2, h3⟩ := info_parts hinfo
  refine ⟨fun n => madeCells (Value.agg #[.int .i64 0, .int .i64 0]).cells (n * 2), fun n => size_madeCells _ _, fun n w hn => ?_⟩
  have hr := run_make (P := Try.prog) w 23 34 i _ Try.underlying23 hi h1 .i64 .i64 n n (by omega) (Int.le_refl _) (by rw [h3]; omega) (by omega)
  rw [h2] at hr
  simpa using hr
theorem putLn {w : World} {b : Nat} {cs : Array Value} {T : TypeId} {fz : Nat × Nat} (h : w.heap[b]? = some (.cells cs T fz)) (o : Nat) (p : Ln) :
    (((w.setCell ⟨b, o, none⟩ (.int .i64 p.wt)).setCell ⟨b, o + 1, none⟩ (.int .i64 p.mi))).heap[b]? = some (.cells (wrAt cs o (valsLn p)) T fz) :=
  putS (putS h _) _
theorem putLnb {B b : Nat} {a w : World} (h : Below B a w) (hb : B ≤ b) (o : Nat) (p : Ln) : Below B a (((w.setCell ⟨b, o, none⟩ (.int .i64 p.wt)).setCell ⟨b, o + 1, none⟩ (.int .i64 p.mi))) :=
  ((h).setCell hb _).setCell hb _
end Go.Proofs.Ytignigcknfklkab
end
section
namespace Go.Proofs.Ytignigcknfklkab
open Go.RowKit
set_option linter.unusedVariables false
set_option maxHeartbeats 1000000
attribute [local go_sem] growUpon_value growUpon_skip growUpon_enter
structure Sp where
  sa : Int
  many : Int
  need : Int
def valsSp (p : Sp) : List Value := [.int .i64 p.sa, .int .i64 p.many, .int .i64 p.need]
/-- a slice that reads as this list -/
structure SpV (w : World) (A : Option Addr) (L : List Sp) : Prop where
  cells : 0 < L.length → ∃ b off, A = some ⟨b, off, none⟩ ∧ b < w.heap.size ∧ ∀ i p, L[i]? = some p → w.cell? ⟨b, off + i * 3, none⟩ = some (.int .i64 p.sa) ∧ w.cell? ⟨b, off + i * 3 + 1, none⟩ = some (.int .i64 p.many) ∧ w.cell? ⟨b, off + i * 3 + 2, none⟩ = some (.int .i64 p.need)
theorem SpV.keep {w w' : World} {A : Option Addr} {L : List Sp} (h : SpV w A L) (hb : Below w.heap.size w w') : SpV w' A L :=
  ⟨fun h0 => let ⟨b, off, e, hl, hp⟩ := h.cells h0; ⟨b, off, e, Nat.lt_of_lt_of_le hl hb.size, fun i p hi => by
    obtain ⟨c0, c1, c2⟩ := hp i p hi
    exact ⟨(hb.cell (p := ⟨b, off + i * 3, none⟩) hl).trans c0, (hb.cell (p := ⟨b, off + i * 3 + 1, none⟩) hl).trans c1, (hb.cell (p := ⟨b, off + i * 3 + 2, none⟩) hl).trans c2⟩⟩⟩
theorem SpV.nil (w : World) (A : Option Addr) : SpV w A [] := ⟨fun h => absurd h (by simp)⟩
/-- what a new block holds -/
def SpB (w : World) (g : Nat) (L : List Sp) : Prop := ∃ cs : Array Value, w.heap[g]? = some (.cells cs 32 (0, 0)) ∧ cs.size = L.length * 3 ∧ ∀ i p, L[i]? = some p → InS cs (i * 3) (valsSp p)
theorem SpB.v {w : World} {g : Nat} {L : List Sp} (h : SpB w g L) : SpV w (some ⟨g, 0, none⟩) L := by
  obtain ⟨cs, hh, hs, hc⟩ := h
  refine ⟨fun _ => ⟨g, 0, rfl, ltS hh, fun i p hp => ?_⟩⟩
  have hi := hc i p hp
  simp only [Nat.zero_add]
  exact ⟨(cellS hh _).trans (hi 0 _ rfl), (cellS hh _).trans (hi 1 _ rfl), (cellS hh _).trans (hi 2 _ rfl)⟩
theorem SpB.lt {w : World} {g : Nat} {L : List Sp} (h : SpB w g L) : g < w.heap.size := by obtain ⟨cs, hh, _⟩ := h; exact ltS hh
theorem SpB.keep {w w' : World} {g : Nat} {L : List Sp} (h : SpB w g L) (hb : Below w.heap.size w w') : SpB w' g L := by
  obtain ⟨cs, hh, hs, hc⟩ := h
  exact ⟨cs, (hb.block g (ltS hh)).trans hh, hs, hc⟩
theorem SpB.but {w w' : World} {g h : Nat} {L : List Sp} (hi : SpB w h L) (hg : w.grownBy w' (some g)) (hne : h ≠ g) : SpB w' h L := by
  obtain ⟨cs, hh, hs, hc⟩ := hi
  exact ⟨cs, (hg.block h (ltS hh) (fun e => hne (Option.some.inj e))).trans hh, hs, hc⟩
theorem madeSp : ∃ f : Nat → Array Value, (∀ n, (f n).size = n * 3) ∧ ∀ (n : Nat) (w : World), n ≤ 1048576 → (Instr.makeSlice 24 (.int .i64 (n : Int)) (.int .i64 (n : Int))).run Try.prog w = .ok (.slice (some ⟨w.heap.size, 0, none⟩) n n) (w.alloc (.cells (f n) 32)) := by
  have hinfo : (Try.prog.info? 32).map (fun i => (i.zero, i.size, i.bytes)) = some (some (.agg #[.int .i64 0, .int .i64 0, .int .i64 0]), 3, 24) := by kernel_rfl
  obtain ⟨i, hi, h1, h2, h3⟩ := info_parts hinfo
  refine ⟨fun n => madeCells (Value.agg #[.int .i64 0, .int .i64 0, .int .i64 0]).cells (n * 3), fun n => size_madeCells _ _, fun n w hn => ?_⟩
  have hr := run_make (P := Try.prog) w 24 32 i _ Try.underlying24 hi h1 .i64 .i64 n n (by omega) (Int.le_refl _) (by rw [h3]; omega) (by omega)
  rw [h2] at hr
  simpa using hr
theorem putSp {w : World} {b : Nat} {cs : Array Value} {T : TypeId} {fz : Nat × Nat} (h : w.heap[b]? = some (.cells cs T fz)) (o : Nat) (p : Sp) :
    ((((w.setCell ⟨b, o, none⟩ (.int .i64 p.sa)).setCell ⟨b, o + 1, none⟩ (.int .i64 p.many)).setCell ⟨b, o + 2, none⟩ (.int .i64 p.need))).heap[b]? = some (.cells (wrAt cs o (valsSp p)) T fz) :=
  putS (putS (putS h _) _) _
theorem putSpb {B b : Nat} {a w : World} (h : Below B a w) (hb : B ≤ b) (o : Nat) (p : Sp) : Below B a ((((w.setCell ⟨b, o, none⟩ (.int .i64 p.sa)).setCell ⟨b, o + 1, none⟩ (.int .i64 p.many)).setCell ⟨b, o + 2, none⟩ (.int .i64 p.need))) :=
  (((h).setCell hb _).setCell hb _).setCell hb _
end Go.Proofs.Ytignigcknfklkab
end
section
namespace Go.Proofs.Ytignigcknfklkab
open Go.RowKit
set_option linter.unusedVariables false
set_option maxHeartbeats 1000000
def lineB (l : Ln) : Bool := wB l.wt && rng l.mi 0 30
def linesB (L : List Ln) : Bool := rng L.length 1 5 && L.all lineB
def runB (a m n : Int) : Bool := rng a 0 (n - 1) && rng m 1 (n - a)
def spanB (n : Int) (s : Sp) : Bool := runB s.sa s.many n && rng s.need 0 50
def spansB (n : Int) (L : List Sp) : Bool := decide ((L.length : Int) ≤ 8) && L.all (spanB n)
theorem all_snocG {α : Type} {f : α → Bool} {L : List α} {k : Nat} {p : α} (h : L[k]? = some p) : (L.take (k + 1)).all f = ((L.take k).all f && f p) := by
  have hk : k < L.length := (List.getElem?_eq_some_iff.1 h).1
  have e : L[k] = p := (List.getElem?_eq_some_iff.1 h).2
  rw [List.take_succ_eq_append_getElem hk, e]
  simp
theorem all_falseG {α : Type} {f : α → Bool} {L : List α} {k : Nat} {p : α} (h : L[k]? = some p) (hp : f p = false) : L.all f = false := by
  rw [Bool.eq_false_iff]
  intro hh
  have h1 := List.all_eq_true.1 hh p (List.mem_of_getElem? h)
  rw [hp] at h1
  cases h1
theorem validLine_v (l : Ln) (b : Bool) (w : World) (hb : lineB l = b) : Calls Try.prog 52 #[.agg #[.int .i64 l.wt, .int .i64 l.mi]] w fun e w' => e = .returned (.bool b) ∧ Below w.heap.size w w' := by
  cases h1 : wB l.wt
  · have hbf : b = false := by rw [← hb]; simp [lineB, h1]
    subst hbf
    go_enter Try.func52, Try.ntmps52
    go_wp2_with fail
    with_reducible refine (validWeight_w _ false _ h1).mono ?_
    rintro e w1 ⟨rfl, rfl⟩
    go_wp2
    go_ret
    exact ⟨rfl, balloc (Below.refl _ _)⟩
  · have h2 : rng l.mi 0 30 = b := by rw [← hb]; simp [lineB, h1]
    cases b
    all_goals
      go_enter Try.func52, Try.ntmps52
      go_wp2_with fail
      with_reducible refine (validWeight_w _ true _ h1).mono ?_
      rintro e w1 ⟨rfl, rfl⟩
      go_wp2_with fail
      with_reducible refine (within_w _ 0 30 _ _ h2).mono ?_
      rintro e w1 ⟨rfl, rfl⟩
      go_wp2
      go_ret
      exact ⟨rfl, balloc (Below.refl _ _)⟩
set_option maxRecDepth 100000 in
theorem allOfLn_v (A : Option Addr) (c : Nat) (L : List Ln) (b : Bool) (w : World) (h : LnV w A L) (hL : L.length ≤ 1048576) (hb0 : L.all lineB = b) :
    Calls Try.prog 51 #[.slice A L.length c, .func (.func 52) #[] #[]] w fun e w' => e = .returned (.bool b) ∧ Below w.heap.size w w' := by
  have HB0 := Lib.hid hb0
  clear hb0
  go_enter Try.func51, Try.ntmps51
  go_wp2_with fail
  go_loopw [9] (fun i wr => ∃ k : Nat, k ≤ L.length ∧ i = .int .i64 k ∧ (L.take k).all lineB = true ∧ Below w.heap.size w wr) (fun i _ => L.length - (intOf i).toNat)
  case atStart => exact ⟨0, by omega, rfl, rfl, Below.refl _ _⟩
  case round =>
    obtain ⟨k, hk, rfl, hok, hB⟩ := hrel
    by_cases hlt : k < L.length
    · have hd : decide ((k : Int) < (L.length : Int)) = true := by simpa using hlt
      obtain ⟨b', off, rfl, hb', hp⟩ := (h.keep hB).cells (by omega)
      have hget : L[k]? = some L[k] := List.getElem?_eq_getElem hlt
      obtain ⟨c0, c1⟩ := hp k _ hget
      generalize hx : L[k] = p at *
      have HG := Lib.hid hget
      have HX := Lib.hid hx
      have HO := Lib.hid hok
      have HBB := Lib.hid hB
      clear hget hx hok hB hp
      cases hv : lineB p
      all_goals
        have Hv := Lib.hid hv
        clear hv
        go_wp2_with fail
        first | (with_reducible refine (validLine_v p false _ Hv.out).mono ?_) | (with_reducible refine (validLine_v p true _ Hv.out).mono ?_)
        rintro e w1 ⟨rfl, hb1⟩
        replace HBB := Lib.hid (bkeep2 (balloc HBB.out) hb1)
        clear hb1 c0 c1
        go_wp2
      · go_ret
        exact ⟨ret_bool (by rw [← HB0.out]; exact (all_falseG HG.out Hv.out).symm), HBB.out⟩
      · go_roundw
        case rel => exact ⟨k + 1, by omega, by go_num, by rw [all_snocG HG.out, HO.out, Hv.out]; rfl, HBB.out⟩
        case measure => simp [intOf]; omega
    · have hd : decide ((k : Int) < (L.length : Int)) = false := decide_eq_false (by omega)
      have he : L.take k = L := List.take_of_length_le (by omega)
      rw [he] at hok
      have HO := Lib.hid hok
      have HBB := Lib.hid hB
      clear hok hB he
      go_wp2
      go_ret
      exact ⟨ret_bool (by rw [← HB0.out, HO.out]), HBB.out⟩
theorem validLines_v (A : Option Addr) (c : Nat) (L : List Ln) (b : Bool) (w : World) (h : LnV w A L) (hL : L.length ≤ 1048576) (hb : linesB L = b) :
    Calls Try.prog 28 #[.slice A L.length c] w fun e w' => e = .returned (.bool b) ∧ Below w.heap.size w w' := by
  cases h1 : rng (L.length : Int) 1 5
  · have hbf : b = false := by rw [← hb]; simp [linesB, h1]
    subst hbf
    go_enter Try.func28, Try.ntmps28
    go_wp2_with fail
    with_reducible refine (within_w _ 1 5 false _ h1).mono ?_
    rintro e w1 ⟨rfl, rfl⟩
    go_wp2
    go_ret
    exact ⟨rfl, Below.refl _ _⟩
  · have h2 : L.all lineB = b := by rw [← hb]; simp [linesB, h1]
    cases b
    all_goals
      go_enter Try.func28, Try.ntmps28
      go_wp2_with fail
      with_reducible refine (within_w _ 1 5 true _ h1).mono ?_
      rintro e w1 ⟨rfl, rfl⟩
      go_wp2_with fail
      with_reducible refine (allOfLn_v A c L _ _ h hL h2).mono ?_
      rintro e w1 ⟨rfl, hb1⟩
      have HB := Lib.hid hb1
      clear hb1
      go_wp2
      go_ret
      exact ⟨rfl, HB.out⟩
theorem validRun_v (a m n : Int) (b : Bool) (w : World) (hn : 1 ≤ n) (hn5 : n ≤ 5) (hb : runB a m n = b) : Calls Try.prog 54 #[.int .i64 a, .int .i64 m, .int .i64 n] w fun e w' => e = .returned (.bool b) ∧ w = w' := by
  cases h1 : rng a 0 (n - 1)
  · have hbf : b = false := by rw [← hb]; simp [runB, h1]
    subst hbf
    go_enter Try.func54, Try.ntmps54
    go_wp2_with fail
    with_reducible refine (within_w _ 0 (n - 1) false _ h1).mono ?_
    rintro e w1 ⟨rfl, rfl⟩
    go_wp2
    go_ret
    exact ⟨rfl, rfl⟩
  · have h2 : rng m 1 (n - a) = b := by rw [← hb]; simp [runB, h1]
    have ha := rng_iff.1 h1
    cases b
    all_goals
      go_enter Try.func54, Try.ntmps54
      go_wp2_with fail
      with_reducible refine (within_w _ 0 (n - 1) true _ h1).mono ?_
      rintro e w1 ⟨rfl, rfl⟩
      go_wp2_with fail
      with_reducible refine (within_w _ 1 (n - a) _ _ h2).mono ?_
      rintro e w1 ⟨rfl, rfl⟩
      go_wp2
      go_ret
      exact ⟨rfl, rfl⟩
theorem spanF_v (s : Sp) (n : Int) (b : Bool) (bx : Nat) (w : World) (hn : 1 ≤ n) (hn5 : n ≤ 5) (hc : w.cell? ⟨bx, 0, none⟩ = some (.int .i64 n)) (hbx : bx < w.heap.size) (hb : spanB n s = b) :
    Calls Try.prog 53 #[.agg #[.int .i64 s.sa, .int .i64 s.many, .int .i64 s.need], .pointer (some ⟨bx, 0, none⟩)] w fun e w' => e = .returned (.bool b) ∧ Below w.heap.size w w' := by
  have hne : ¬ bx = w.heap.size := by omega
  cases h1 : runB s.sa s.many n
  · have hbf : b = false := by rw [← hb]; simp [spanB, h1]
    subst hbf
    go_enter Try.func53, Try.ntmps53
    go_wp2_with fail
    with_reducible refine (validRun_v _ _ n false _ hn hn5 h1).mono ?_
    rintro e w1 ⟨rfl, rfl⟩
    go_wp2
    go_ret
    exact ⟨rfl, balloc (Below.refl _ _)⟩
  · have h2 : rng s.need 0 50 = b := by rw [← hb]; simp [spanB, h1]
    cases b
    all_goals
      go_enter Try.func53, Try.ntmps53
      go_wp2_with fail
      with_reducible refine (validRun_v _ _ n true _ hn hn5 h1).mono ?_
      rintro e w1 ⟨rfl, rfl⟩
      go_wp2_with fail
      with_reducible refine (within_w _ 0 50 _ _ h2).mono ?_
      rintro e w1 ⟨rfl, rfl⟩
      go_wp2
      go_ret
      exact ⟨rfl, balloc (Below.refl _ _)⟩
set_option maxRecDepth 100000 in
theorem allOfSp_v (A : Option Addr) (c : Nat) (L : List Sp) (n : Int) (b : Bool) (bx : Nat) (w : World) (h : SpV w A L) (hL : L.length ≤ 1048576) (hn : 1 ≤ n) (hn5 : n ≤ 5) (hc : w.cell? ⟨bx, 0, none⟩ = some (.int .i64 n)) (hbx : bx < w.heap.size) (hb0 : L.all (spanB n) = b) :
    Calls Try.prog 55 #[.slice A L.length c, .func (.func 53) #[] #[.pointer (some ⟨bx, 0, none⟩)]] w fun e w' => e = .returned (.bool b) ∧ Below w.heap.size w w' := by
  have HB0 := Lib.hid hb0
  have HC0 := Lib.hid hc
  clear hb0 hc
  go_enter Try.func55, Try.ntmps55
  go_wp2_with fail
  go_loopw [9] (fun i wr => ∃ k : Nat, k ≤ L.length ∧ i = .int .i64 k ∧ (L.take k).all (spanB n) = true ∧ Below w.heap.size w wr) (fun i _ => L.length - (intOf i).toNat)
  case atStart => exact ⟨0, by omega, rfl, rfl, Below.refl _ _⟩
  case round =>
    obtain ⟨k, hk, rfl, hok, hB⟩ := hrel
    by_cases hlt : k < L.length
    · have hd : decide ((k : Int) < (L.length : Int)) = true := by simpa using hlt
      obtain ⟨b', off, rfl, hb', hp⟩ := (h.keep hB).cells (by omega)
      have hget : L[k]? = some L[k] := List.getElem?_eq_getElem hlt
      obtain ⟨c0, c1, c2⟩ := hp k _ hget
      generalize hx : L[k] = p at *
      have HG := Lib.hid hget
      have HX := Lib.hid hx
      have HO := Lib.hid hok
      have HBB := Lib.hid hB
      have HBA := Lib.hid (balloc (o := (.cells #[.int .i64 p.sa, .int .i64 p.many, .int .i64 p.need] 32 (0, 0))) hB)
      clear hget hx hok hB hp
      cases hv : spanB n p
      all_goals
        have Hv := Lib.hid hv
        clear hv
        go_wp2_with fail
        first | (with_reducible refine (spanF_v p n false bx _ hn hn5 ((HBA.out.cell (p := ⟨bx, 0, none⟩) hbx).trans HC0.out) (Nat.lt_of_lt_of_le hbx HBA.out.size) Hv.out).mono ?_) | (with_reducible refine (spanF_v p n true bx _ hn hn5 ((HBA.out.cell (p := ⟨bx, 0, none⟩) hbx).trans HC0.out) (Nat.lt_of_lt_of_le hbx HBA.out.size) Hv.out).mono ?_)
        rintro e w1 ⟨rfl, hb1⟩
        replace HBB := Lib.hid (bkeep2 (balloc HBB.out) hb1)
        clear hb1 c0 c1 c2 HBA
        go_wp2
      · go_ret
        exact ⟨ret_bool (by rw [← HB0.out]; exact (all_falseG HG.out Hv.out).symm), HBB.out⟩
      · go_roundw
        case rel => exact ⟨k + 1, by omega, by go_num, by rw [all_snocG HG.out, HO.out, Hv.out]; rfl, HBB.out⟩
        case measure => simp [intOf]; omega
    · have hd : decide ((k : Int) < (L.length : Int)) = false := decide_eq_false (by omega)
      have he : L.take k = L := List.take_of_length_le (by omega)
      rw [he] at hok
      have HO := Lib.hid hok
      have HBB := Lib.hid hB
      clear hok hB he
      go_wp2
      go_ret
      exact ⟨ret_bool (by rw [← HB0.out, HO.out]), HBB.out⟩
theorem validSpans_v (A : Option Addr) (c : Nat) (L : List Sp) (n : Int) (b : Bool) (w : World) (h : SpV w A L) (hL : L.length ≤ 1048576) (hn : 1 ≤ n) (hn5 : n ≤ 5) (hb : spansB n L = b) :
    Calls Try.prog 29 #[.slice A L.length c, .int .i64 n] w fun e w' => e = .returned (.bool b) ∧ Below w.heap.size w w' := by
  by_cases h8 : (L.length : Int) ≤ 8
  · have hd : decide ((L.length : Int) ≤ 8) = true := by simpa using h8
    have h2 : L.all (spanB n) = b := by rw [← hb]; simp [spansB, hd]
    have hB0 : Below w.heap.size w (w.alloc (.cells #[.int .i64 n] 3 (0, 0))) := balloc (Below.refl _ _)
    have HB0 := Lib.hid hB0
    have HV := Lib.hid (h.keep hB0)
    have hcell : (w.alloc (.cells #[.int .i64 n] 3 (0, 0))).cell? ⟨w.heap.size, 0, none⟩ = some (.int .i64 n) := (cellS (newS w _) 0)
    have HCL := Lib.hid hcell
    have hlt : w.heap.size < (w.alloc (.cells #[.int .i64 n] 3 (0, 0))).heap.size := by simp
    have HLT := Lib.hid hlt
    clear hB0 hcell hlt h8
    cases b
    all_goals
      go_enter Try.func29, Try.ntmps29
      go_wp2_with fail
      with_reducible refine (allOfSp_v A c L n _ w.heap.size _ HV.out hL hn hn5 HCL.out HLT.out h2).mono ?_
      rintro e w1 ⟨rfl, hb1⟩
      have HB := Lib.hid (bkeep2 HB0.out hb1)
      clear hb1
      go_wp2
      go_ret
      exact ⟨rfl, HB.out⟩
  · have hd : decide ((L.length : Int) ≤ 8) = false := decide_eq_false h8
    have hbf : b = false := by rw [← hb]; simp [spansB, hd]
    subst hbf
    go_enter Try.func29, Try.ntmps29
    go_wp2
    go_ret
    exact ⟨rfl, balloc (Below.refl _ _)⟩
end Go.Proofs.Ytignigcknfklkab
end
section
namespace Go.Proofs.Ytignigcknfklkab
open Go.RowKit
set_option linter.unusedVariables false
set_option maxHeartbeats 1000000
theorem svalidLine_v (l : Ln) (b : Bool) (w : World) (hb : lineB l = b) : Calls Try.prog 61 #[.agg #[.int .i64 l.wt, .int .i64 l.mi]] w fun e w' => e = .returned (.bool b) ∧ Below w.heap.size w w' := by
  cases h1 : wB l.wt
  · have hbf : b = false := by rw [← hb]; simp [lineB, h1]
    subst hbf
    go_enter Try.func61, Try.ntmps61
    go_wp2_with fail
    with_reducible refine (inRange_b _ false _ h1).mono ?_
    rintro e w1 ⟨rfl, rfl⟩
    go_wp2
    go_ret
    exact ⟨rfl, balloc (Below.refl _ _)⟩
  · have h2 : rng l.mi 0 30 = b := by rw [← hb]; simp [lineB, h1]
    cases b
    all_goals
      go_enter Try.func61, Try.ntmps61
      go_wp2_with fail
      with_reducible refine (inRange_b _ true _ h1).mono ?_
      rintro e w1 ⟨rfl, rfl⟩
      go_wp2_with fail
      with_reducible refine (inRange_w _ 0 30 _ _ h2).mono ?_
      rintro e w1 ⟨rfl, rfl⟩
      go_wp2
      go_ret
      exact ⟨rfl, balloc (Below.refl _ _)⟩
set_option maxRecDepth 100000 in
theorem svalidLines_v (A : Option Addr) (c : Nat) (L : List Ln) (b : Bool) (w : World) (h : LnV w A L) (hL : L.length ≤ 1048576) (hb0 : linesB L = b) :
    Calls Try.prog 31 #[.slice A L.length c] w fun e w' => e = .returned (.bool b) ∧ Below w.heap.size w w' := by
  have HB0 := Lib.hid hb0
  clear hb0
  go_enter Try.func31, Try.ntmps31
  go_wp2_with fail
  go_loopw [3] (fun i wr => ∃ k : Nat, k ≤ L.length ∧ i = .int .i64 k ∧ (L.take k).all lineB = true ∧ Below w.heap.size w wr) (fun i _ => L.length - (intOf i).toNat)
  case atStart => exact ⟨0, by omega, rfl, rfl, Below.refl _ _⟩
  case round =>
    obtain ⟨k, hk, rfl, hok, hB⟩ := hrel
    by_cases hlt : k < L.length
    · have hd : decide ((k : Int) < (L.length : Int)) = true := by simpa using hlt
      obtain ⟨b', off, rfl, hb', hp⟩ := (h.keep hB).cells (by omega)
      have hget : L[k]? = some L[k] := List.getElem?_eq_getElem hlt
      obtain ⟨c0, c1⟩ := hp k _ hget
      generalize hx : L[k] = p at *
      have HG := Lib.hid hget
      have HX := Lib.hid hx
      have HO := Lib.hid hok
      have HBB := Lib.hid hB
      clear hget hx hok hB hp
      cases hv : lineB p
      all_goals
        have Hv := Lib.hid hv
        clear hv
        go_wp2_with fail
        first | (with_reducible refine (svalidLine_v p false _ Hv.out).mono ?_) | (with_reducible refine (svalidLine_v p true _ Hv.out).mono ?_)
        rintro e w1 ⟨rfl, hb1⟩
        replace HBB := Lib.hid (bkeep2 HBB.out hb1)
        clear hb1 c0 c1
        go_wp2
      · go_ret
        exact ⟨ret_bool (by rw [← HB0.out]; simp [linesB, all_falseG HG.out Hv.out]), HBB.out⟩
      · go_roundw
        case rel => exact ⟨k + 1, by omega, by go_num, by rw [all_snocG HG.out, HO.out, Hv.out]; rfl, HBB.out⟩
        case measure => simp [intOf]; omega
    · have hd : decide ((k : Int) < (L.length : Int)) = false := decide_eq_false (by omega)
      have he : L.take k = L := List.take_of_length_le (by omega)
      rw [he] at hok
      have h1 : rng (L.length : Int) 1 5 = b := by rw [← HB0.out]; simp [linesB, hok]
      have HBB := Lib.hid hB
      have H1 := Lib.hid h1
      clear hok hB he h1
      go_wp2_with fail
      with_reducible refine (inRange_w _ 1 5 b _ H1.out).mono ?_
      rintro e w1 ⟨rfl, rfl⟩
      go_wp2
      go_ret
      exact ⟨rfl, HBB.out⟩
set_option maxRecDepth 100000 in
theorem svalidSpan_v (s : Sp) (n : Int) (b : Bool) (w : World) (hn : 1 ≤ n) (hn5 : n ≤ 5) (hb : spanB n s = b) :
    Calls Try.prog 62 #[.agg #[.int .i64 s.sa, .int .i64 s.many, .int .i64 s.need], .int .i64 n] w fun e w' => e = .returned (.bool b) ∧ Below w.heap.size w w' := by
  cases h1 : rng s.sa 0 (n - 1)
  · have hbf : b = false := by rw [← hb]; simp [spanB, runB, h1]
    subst hbf
    go_enter Try.func62, Try.ntmps62
    go_wp2_with fail
    with_reducible refine (inRange_w _ 0 (n - 1) false _ h1).mono ?_
    rintro e w1 ⟨rfl, rfl⟩
    go_wp2
    go_ret
    exact ⟨rfl, balloc (Below.refl _ _)⟩
  · have ha := rng_iff.1 h1
    cases h2 : rng s.many 1 (n - s.sa)
    · have hbf : b = false := by rw [← hb]; simp [spanB, runB, h2]
      subst hbf
      go_enter Try.func62, Try.ntmps62
      go_wp2_with fail
      with_reducible refine (inRange_w _ 0 (n - 1) true _ h1).mono ?_
      rintro e w1 ⟨rfl, rfl⟩
      go_wp2_with fail
      with_reducible refine (inRange_w _ 1 (n - s.sa) false _ h2).mono ?_
      rintro e w1 ⟨rfl, rfl⟩
      go_wp2
      go_ret
      exact ⟨rfl, balloc (Below.refl _ _)⟩
    · have h3 : rng s.need 0 50 = b := by rw [← hb]; simp [spanB, runB, h1, h2]
      cases b
      all_goals
        go_enter Try.func62, Try.ntmps62
        go_wp2_with fail
        with_reducible refine (inRange_w _ 0 (n - 1) true _ h1).mono ?_
        rintro e w1 ⟨rfl, rfl⟩
        go_wp2_with fail
        with_reducible refine (inRange_w _ 1 (n - s.sa) true _ h2).mono ?_
        rintro e w1 ⟨rfl, rfl⟩
        go_wp2_with fail
        with_reducible refine (inRange_w _ 0 50 _ _ h3).mono ?_
        rintro e w1 ⟨rfl, rfl⟩
        go_wp2
        go_ret
        exact ⟨rfl, balloc (Below.refl _ _)⟩
set_option maxRecDepth 100000 in
theorem svalidSpans_v (A : Option Addr) (c : Nat) (L : List Sp) (n : Int) (b : Bool) (w : World) (h : SpV w A L) (hL : L.length ≤ 1048576) (hn : 1 ≤ n) (hn5 : n ≤ 5) (hb0 : spansB n L = b) :
    Calls Try.prog 32 #[.slice A L.length c, .int .i64 n] w fun e w' => e = .returned (.bool b) ∧ Below w.heap.size w w' := by
  have HB0 := Lib.hid hb0
  clear hb0
  go_enter Try.func32, Try.ntmps32
  go_wp2_with fail
  go_loopw [5] (fun i wr => ∃ k : Nat, k ≤ L.length ∧ i = .int .i64 k ∧ (L.take k).all (spanB n) = true ∧ Below w.heap.size w wr) (fun i _ => L.length - (intOf i).toNat)
  case atStart => exact ⟨0, by omega, rfl, rfl, Below.refl _ _⟩
  case round =>
    obtain ⟨k, hk, rfl, hok, hB⟩ := hrel
    by_cases hlt : k < L.length
    · have hd : decide ((k : Int) < (L.length : Int)) = true := by simpa using hlt
      obtain ⟨b', off, rfl, hb', hp⟩ := (h.keep hB).cells (by omega)
      have hget : L[k]? = some L[k] := List.getElem?_eq_getElem hlt
      obtain ⟨c0, c1, c2⟩ := hp k _ hget
      generalize hx : L[k] = p at *
      have HG := Lib.hid hget
      have HX := Lib.hid hx
      have HO := Lib.hid hok
      have HBB := Lib.hid hB
      clear hget hx hok hB hp
      cases hv : spanB n p
      all_goals
        have Hv := Lib.hid hv
        clear hv
        go_wp2_with fail
        first | (with_reducible refine (svalidSpan_v p n false _ hn hn5 Hv.out).mono ?_) | (with_reducible refine (svalidSpan_v p n true _ hn hn5 Hv.out).mono ?_)
        rintro e w1 ⟨rfl, hb1⟩
        replace HBB := Lib.hid (bkeep2 HBB.out hb1)
        clear hb1 c0 c1 c2
        go_wp2
      · go_ret
        exact ⟨ret_bool (by rw [← HB0.out]; simp [spansB, all_falseG HG.out Hv.out]), HBB.out⟩
      · go_roundw
        case rel => exact ⟨k + 1, by omega, by go_num, by rw [all_snocG HG.out, HO.out, Hv.out]; rfl, HBB.out⟩
        case measure => simp [intOf]; omega
    · have hd : decide ((k : Int) < (L.length : Int)) = false := decide_eq_false (by omega)
      have he : L.take k = L := List.take_of_length_le (by omega)
      rw [he] at hok
      have h1 : decide ((L.length : Int) ≤ 8) = b := by rw [← HB0.out]; simp [spansB, hok]
      have HBB := Lib.hid hB
      have H1 := Lib.hid h1
      clear hok hB he h1
      go_wp2
      go_ret
      exact ⟨ret_bool H1.out, HBB.out⟩
/-- in place: these are put to the numbers from one on -/
def addP : List Int → List Int → List Int
  | o :: os, p :: ps => (o + p) :: addP os ps
  | os, _ => os
theorem addP_nil (O : List Int) : addP O [] = O := by cases O <;> rfl
theorem addP_len : ∀ (O P : List Int), (addP O P).length = O.length
  | [], P => by simp [addP]
  | o :: os, [] => rfl
  | o :: os, p :: ps => by simp [addP, addP_len os ps]
theorem addP_get : ∀ {O P : List Int} {i : Nat} {o : Int}, O[i]? = some o → P.length ≤ i → (addP O P)[i]? = some o
  | [], P, i, o, h, _ => by simp at h
  | x :: os, [], i, o, h, _ => h
  | x :: os, p :: ps, 0, o, h, hl => by simp at hl
  | x :: os, p :: ps, i + 1, o, h, hl => by
    simp at h hl
    simpa [addP] using addP_get h hl
theorem addP_snoc : ∀ {O P : List Int} {i : Nat} {o p : Int}, O[i]? = some o → P[i]? = some p → (addP O (P.take i)).set i (o + p) = addP O (P.take (i + 1))
  | [], P, i, o, p, h, _ => by simp at h
  | x :: os, [], i, o, p, _, h => by simp at h
  | x :: os, q :: ps, 0, o, p, h, hp => by
    simp at h hp
    subst h hp
    simp [addP, addP_nil]
  | x :: os, q :: ps, i + 1, o, p, h, hp => by
    simp at h hp
    simp [addP, addP_snoc h hp]
def addAt (O : List Int) (k : Nat) (P : List Int) : List Int := O.take k ++ addP (O.drop k) P
theorem addAt_len (O : List Int) (k : Nat) (P : List Int) : (addAt O k P).length = O.length := by
  unfold addAt
  rw [List.length_append, addP_len, List.length_take, List.length_drop]; omega
theorem addAt_nil (O : List Int) (k : Nat) : addAt O k [] = O := by simp [addAt, addP_nil]
theorem addAt_get {O P : List Int} {k i : Nat} {o : Int} (h : O[k + i]? = some o) (hl : P.length ≤ i) : (addAt O k P)[k + i]? = some o := by
  have hk := (List.getElem?_eq_some_iff.1 h).1
  have e : (O.take k).length = k := by rw [List.length_take]; omega
  unfold addAt
  rw [List.getElem?_append_right (by omega), e, Nat.add_sub_cancel_left]
  exact addP_get (by rw [List.getElem?_drop]; exact h) hl
theorem addAt_snoc {O P : List Int} {k i : Nat} {o p : Int} (h : O[k + i]? = some o) (hp : P[i]? = some p) : (addAt O k (P.take i)).set (k + i) (o + p) = addAt O k (P.take (i + 1)) := by
  have hk := (List.getElem?_eq_some_iff.1 h).1
  have e : (O.take k).length = k := by rw [List.length_take]; omega
  unfold addAt
  rw [List.set_append_right _ _ (by omega), e, Nat.add_sub_cancel_left, addP_snoc (by rw [List.getElem?_drop]; exact h) hp]
end Go.Proofs.Ytignigcknfklkab
end
section
namespace Go.Proofs.Ytignigcknfklkab
open Go.RowKit
set_option linter.unusedVariables false
set_option maxHeartbeats 1000000
attribute [local go_sem 5000] run_mx run_mn
theorem least_v (l : Ln) (w : World) : Calls Try.prog 57 #[.agg #[.int .i64 l.wt, .int .i64 l.mi]] w fun e w' => e = .returned (.int .i64 l.mi) ∧ Below w.heap.size w w' := by
  go_enter Try.func57, Try.ntmps57
  go_wp2
  go_ret
  exact ⟨rfl, balloc (Below.refl _ _)⟩
set_option maxRecDepth 100000 in
theorem each_least (A : Option Addr) (c : Nat) (L : List Ln) (w : World) (h : LnV w A L) (hL : L.length ≤ 1048576) :
    Calls Try.prog 56 #[.slice A L.length c, .func (.func 57) #[] #[]] w fun e w' => e = .returned (.slice (some ⟨w.heap.size, 0, none⟩) L.length L.length) ∧ IB w' w.heap.size (L.map Ln.mi) ∧ Below w.heap.size w w' := by
  have hmk : ∀ w : World, (Instr.makeSlice 27 (.int .i64 (L.length : Int)) (.int .i64 (L.length : Int))).run Try.prog w = .ok (.slice (some ⟨w.heap.size, 0, none⟩) L.length L.length) (w.alloc (.cells (ivals (List.replicate L.length 0)) 3)) := fun w => madeI L.length w hL
  go_enter Try.func56, Try.ntmps56
  go_wp2_with fail
  have hlm : (L.map Ln.mi).length = L.length := by simp
  have hI0 := makeI_b L.length w
  have hB0 : Below w.heap.size w (w.alloc (.cells (ivals (List.replicate L.length 0)) 3)) := balloc (Below.refl _ _)
  have hI1 : IB (w.alloc (.cells (ivals (List.replicate L.length 0)) 3)) w.heap.size (mixM (L.map Ln.mi) 0) := by rw [mixM_zero, hlm]; exact hI0
  have HI0 := Lib.hid hI1
  have HB0 := Lib.hid hB0
  have HLM := Lib.hid hlm
  clear hmk hI0 hB0 hI1 hlm
  go_loopw [13] (fun i wr => ∃ k : Nat, k ≤ L.length ∧ i = .int .i64 k ∧ IB wr w.heap.size (mixM (L.map Ln.mi) k) ∧ Below w.heap.size w wr) (fun i _ => L.length - (intOf i).toNat)
  case atStart => exact ⟨0, by omega, rfl, HI0.out, HB0.out⟩
  case round =>
    obtain ⟨k, hk, rfl, hI, hBr⟩ := hrel
    clear HI0 HB0
    by_cases hlt : k < L.length
    · have hd : decide ((k : Int) < (L.length : Int)) = true := by simpa using hlt
      obtain ⟨b, off, rfl, hb, hp⟩ := (h.keep hBr).cells (by omega)
      have hget : L[k]? = some L[k] := List.getElem?_eq_getElem hlt
      obtain ⟨c0, c1⟩ := hp k _ hget
      have hgm : (L.map Ln.mi)[k]? = some L[k].mi := by rw [List.getElem?_map, hget]; rfl
      generalize hx : L[k] = x at *
      have HI := Lib.hid hI
      have HBR := Lib.hid hBr
      have HGM := Lib.hid hgm
      clear hI hBr hp hget hx hgm
      go_wp2_with fail
      refine (least_v x _).mono ?_
      rintro e w1 ⟨rfl, hb1⟩
      have hb01 := (bkeep2 (balloc (Below.refl wr.heap.size wr)) hb1)
      replace HI := Lib.hid (HI.out.keep hb01)
      replace HBR := Lib.hid (HBR.out.trans (hb01.mono HBR.out.size))
      clear hb1 hb01 c0 c1
      obtain ⟨y, hy⟩ := mixM_get (B := L.map Ln.mi) (k := k) (by rw [HLM.out]; exact hlt)
      have d0 := HI.out.cell hy
      have f0 := HI.out.frozen k
      have hI2 := HI.out.set k x.mi
      rw [mixM_set HGM.out] at hI2
      have HI2 := Lib.hid hI2
      have HB2 := Lib.hid (HBR.out.setCell (p := ⟨w.heap.size, k, none⟩) (Nat.le_refl _) (.int .i64 x.mi))
      clear hI2 hy HI HBR
      go_wp2
      go_roundw
      case rel => exact ⟨k + 1, by omega, by go_num, HI2.out, HB2.out⟩
      case measure => simp [intOf]; omega
    · have hd : decide ((k : Int) < (L.length : Int)) = false := decide_eq_false (by omega)
      obtain rfl : k = L.length := by omega
      rw [← HLM.out, mixM_all] at hI
      have HI2 := Lib.hid hI
      have HB2 := Lib.hid hBr
      clear hI hBr
      go_wp2
      go_ret
      exact ⟨rfl, HI2.out, HB2.out⟩
theorem weight_v (l : Ln) (w : World) : Calls Try.prog 58 #[.agg #[.int .i64 l.wt, .int .i64 l.mi]] w fun e w' => e = .returned (.int .i64 l.wt) ∧ Below w.heap.size w w' := by
  go_enter Try.func58, Try.ntmps58
  go_wp2
  go_ret
  exact ⟨rfl, balloc (Below.refl _ _)⟩
set_option maxRecDepth 100000 in
theorem each_weight (A : Option Addr) (c : Nat) (L : List Ln) (w : World) (h : LnV w A L) (hL : L.length ≤ 1048576) :
    Calls Try.prog 56 #[.slice A L.length c, .func (.func 58) #[] #[]] w fun e w' => e = .returned (.slice (some ⟨w.heap.size, 0, none⟩) L.length L.length) ∧ IB w' w.heap.size (L.map Ln.wt) ∧ Below w.heap.size w w' := by
  have hmk : ∀ w : World, (Instr.makeSlice 27 (.int .i64 (L.length : Int)) (.int .i64 (L.length : Int))).run Try.prog w = .ok (.slice (some ⟨w.heap.size, 0, none⟩) L.length L.length) (w.alloc (.cells (ivals (List.replicate L.length 0)) 3)) := fun w => madeI L.length w hL
  go_enter Try.func56, Try.ntmps56
  go_wp2_with fail
  have hlm : (L.map Ln.wt).length = L.length := by simp
  have hI0 := makeI_b L.length w
  have hB0 : Below w.heap.size w (w.alloc (.cells (ivals (List.replicate L.length 0)) 3)) := balloc (Below.refl _ _)
  have hI1 : IB (w.alloc (.cells (ivals (List.replicate L.length 0)) 3)) w.heap.size (mixM (L.map Ln.wt) 0) := by rw [mixM_zero, hlm]; exact hI0
  have HI0 := Lib.hid hI1
  have HB0 := Lib.hid hB0
  have HLM := Lib.hid hlm
  clear hmk hI0 hB0 hI1 hlm
  go_loopw [13] (fun i wr => ∃ k : Nat, k ≤ L.length ∧ i = .int .i64 k ∧ IB wr w.heap.size (mixM (L.map Ln.wt) k) ∧ Below w.heap.size w wr) (fun i _ => L.length - (intOf i).toNat)
  case atStart => exact ⟨0, by omega, rfl, HI0.out, HB0.out⟩
  case round =>
    obtain ⟨k, hk, rfl, hI, hBr⟩ := hrel
    clear HI0 HB0
    by_cases hlt : k < L.length
    · have hd : decide ((k : Int) < (L.length : Int)) = true := by simpa using hlt
      obtain ⟨b, off, rfl, hb, hp⟩ := (h.keep hBr).cells (by omega)
      have hget : L[k]? = some L[k] := List.getElem?_eq_getElem hlt
      obtain ⟨c0, c1⟩ := hp k _ hget
      have hgm : (L.map Ln.wt)[k]? = some L[k].wt := by rw [List.getElem?_map, hget]; rfl
      generalize hx : L[k] = x at *
      have HI := Lib.hid hI
      have HBR := Lib.hid hBr
      have HGM := Lib.hid hgm
      clear hI hBr hp hget hx hgm
      go_wp2_with fail
      refine (weight_v x _).mono ?_
      rintro e w1 ⟨rfl, hb1⟩
      have hb01 := (bkeep2 (balloc (Below.refl wr.heap.size wr)) hb1)
      replace HI := Lib.hid (HI.out.keep hb01)
      replace HBR := Lib.hid (HBR.out.trans (hb01.mono HBR.out.size))
      clear hb1 hb01 c0 c1
      obtain ⟨y, hy⟩ := mixM_get (B := L.map Ln.wt) (k := k) (by rw [HLM.out]; exact hlt)
      have d0 := HI.out.cell hy
      have f0 := HI.out.frozen k
      have hI2 := HI.out.set k x.wt
      rw [mixM_set HGM.out] at hI2
      have HI2 := Lib.hid hI2
      have HB2 := Lib.hid (HBR.out.setCell (p := ⟨w.heap.size, k, none⟩) (Nat.le_refl _) (.int .i64 x.wt))
      clear hI2 hy HI HBR
      go_wp2
      go_roundw
      case rel => exact ⟨k + 1, by omega, by go_num, HI2.out, HB2.out⟩
      case measure => simp [intOf]; omega
    · have hd : decide ((k : Int) < (L.length : Int)) = false := decide_eq_false (by omega)
      obtain rfl : k = L.length := by omega
      rw [← HLM.out, mixM_all] at hI
      have HI2 := Lib.hid hI
      have HB2 := Lib.hid hBr
      clear hI hBr
      go_wp2
      go_ret
      exact ⟨rfl, HI2.out, HB2.out⟩
/-- only this block may have changed, of those that there were -/
theorem grown_below {w w' w2 : World} {g : Nat} (h : w.grownBy w' (some g)) (hb : Below w'.heap.size w' w2) : w.grownBy w2 (some g) :=
  ⟨hb.os.trans h.os, hb.tape.trans h.tape, hb.output.trans h.output, Nat.le_trans h.size hb.size, fun k hk hne => (hb.block k (Nat.lt_of_lt_of_le hk h.size)).trans (h.block k hk hne)⟩
theorem spread_pos {n : Int} {ws : List Int} (hn : 0 ≤ n) (h : wsOK ws) : ∀ y ∈ spreadM n ws, 0 ≤ y ∧ y ≤ n := fun y hy => by
  obtain ⟨k, hk, e⟩ := List.mem_iff_getElem.1 hy
  have hl := spreadM_len (n := n) (ws := ws)
  obtain ⟨y', h1, h2, h3, _⟩ := spread_get hn h (List.getElem?_eq_getElem (show k < ws.length by omega))
  rw [List.getElem?_eq_getElem hk, e] at h1
  obtain rfl := Option.some.inj h1
  exact ⟨h2, h3⟩
set_option maxRecDepth 100000 in
theorem enlarge_v (g sa m c : Nat) (B : Option Addr) (c' : Nat) (O ws : List Int) (n : Int) (w : World) (hI : IB w g O) (hm : m = ws.length) (hO : sa + m ≤ O.length) (hOb : ∀ x ∈ O, 0 ≤ x ∧ x ≤ 1000000) (h : NV w B ws) (hw : wsOK ws) (hn : 0 ≤ n) (hn2 : n ≤ 100000) :
    Calls Try.prog 60 #[.slice (some ⟨g, sa, none⟩) m c, .int .i64 n, .slice B m c'] w fun e w' => (∃ v, e = .returned v) ∧ IB w' g (addAt O sa (spreadM n ws)) ∧ w.grownBy w' (some g) := by
  subst hm
  have hlm : (spreadM n ws).length = ws.length := spreadM_len
  have HPB := Lib.hid (spread_pos hn hw)
  have HOB := Lib.hid hOb
  have HLM := Lib.hid hlm
  have hgl := hI.lt
  have hw5 := hw.2.2
  clear hOb hlm
  go_enter Try.func60, Try.ntmps60
  go_wp2_with fail
  with_reducible refine (spread_v B c' n ws _ h hw hn hn2).mono ?_
  rintro e w1 ⟨rfl, hp, hb1⟩
  have HI := Lib.hid (hI.keep hb1)
  have HP := Lib.hid hp
  have HB := Lib.hid hb1
  have hgn : g ≠ w.heap.size := by omega
  clear hp hb1 hI h
  go_wp2_with fail
  go_loopw [12] (fun i wr => ∃ k : Nat, k ≤ ws.length ∧ i = .int .i64 k ∧ IB wr g (addAt O sa ((spreadM n ws).take k)) ∧ w1.grownBy wr (some g)) (fun i _ => ws.length - (intOf i).toNat)
  case atStart => exact ⟨0, by omega, rfl, by rw [List.take_zero, addAt_nil]; exact HI.out, greflI _ _⟩
  case round =>
    obtain ⟨k, hk, rfl, hIr, hgr⟩ := hrel
    clear HI
    by_cases hlt : k < ws.length
    · have hd : decide ((k : Int) < (ws.length : Int)) = true := by simpa using hlt
      have hkp : k < (spreadM n ws).length := by have := HLM.out; omega
      have hgp : (spreadM n ws)[k]? = some (spreadM n ws)[k] := List.getElem?_eq_getElem hkp
      have hpb := HPB.out _ (List.getElem_mem hkp)
      have hko : sa + k < O.length := by omega
      have hgo : O[sa + k]? = some O[sa + k] := List.getElem?_eq_getElem hko
      have hob := HOB.out _ (List.getElem_mem hko)
      generalize (spreadM n ws)[k] = p at *
      generalize O[sa + k] = o at *
      have c0 := (HP.out.but hgr (by omega)).cell hgp
      have d0 := hIr.cell (addAt_get hgo (P := (spreadM n ws).take k) (by rw [List.length_take]; omega))
      have f0 := hIr.frozen (sa + k)
      have hI2 := hIr.set (sa + k) (o + p)
      rw [addAt_snoc hgo hgp] at hI2
      have HI2 := Lib.hid hI2
      have HG2 := Lib.hid (gsetI hgr (sa + k) (.int .i64 (o + p)))
      obtain ⟨hp0, hp1⟩ := hpb
      obtain ⟨ho0, ho1⟩ := hob
      clear hIr hgr hI2 hgp hgo
      go_wp2
      go_roundw
      case rel => exact ⟨k + 1, by omega, by go_num, HI2.out, HG2.out⟩
      case measure => simp [intOf]; omega
    · have hd : decide ((k : Int) < (ws.length : Int)) = false := decide_eq_false (by omega)
      have hke : (spreadM n ws).take k = spreadM n ws := List.take_of_length_le (by have := HLM.out; omega)
      rw [hke] at hIr
      have HI2 := Lib.hid hIr
      have HG2 := Lib.hid hgr
      clear hIr hgr hke
      go_wp2
      go_end0
      exact ⟨⟨_, rfl⟩, HI2.out, ⟨HG2.out.os.trans HB.out.os, HG2.out.tape.trans HB.out.tape, HG2.out.output.trans HB.out.output, Nat.le_trans HB.out.size HG2.out.size, fun k hk hne => (HG2.out.block k (Nat.lt_of_lt_of_le hk HB.out.size) hne).trans (HB.out.block k hk)⟩⟩
end Go.Proofs.Ytignigcknfklkab
end
