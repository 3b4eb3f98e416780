import Derived.Test.YtgdkionmeacalabQ22
section
namespace Go.Proofs.Ytgdkionmeacalab
open Go Go.RowKit
set_option linter.unusedVariables false
set_option linter.unusedSimpArgs false
theorem askB_ifA {L : List Nd} {k : Nat} {i u v : Int} : askB L k i u v = true ↔ treeB L = true ∧ (0 ≤ i ∧ i ≤ (k : Int) - 1) ∧ (0 ≤ u ∧ u ≤ 30) ∧ (0 ≤ v ∧ v ≤ 30) := by
  unfold askB
  simp only [Bool.and_eq_true, rng_iff]
  exact ⟨fun h => ⟨h.1.1, h.1.2, h.2.1, h.2.2⟩, fun h => ⟨⟨h.1, h.2.1⟩, h.2.2.1, h.2.2.2⟩⟩
theorem askM_getA {L : List Nd} {j : Nat} {n : Nd} {u v : Int} (h : L[j]? = some n) (i : Nat) : (askM L j u v)[i]? = if i = j then some (wishD n u v) else L[i]? := by
  rw [askM_at h]
  split
  · rename_i e; subst e; exact List.getElem?_set_self (List.getElem?_eq_some_iff.1 h).1
  · rename_i e; exact List.getElem?_set_ne (fun q => e q.symm)
theorem askM_treeA {L : List Nd} {j : Nat} {u v : Int} (h : treeB L = true) (hu : 0 ≤ u ∧ u ≤ 30) (hv : 0 ≤ v ∧ v ≤ 30) : treeB (askM L j u v) = true := by
  unfold treeB at h ⊢
  rw [askM_len]
  rw [Bool.and_eq_true] at h ⊢
  refine ⟨h.1, List.all_eq_true.2 fun i hi => ?_⟩
  have h0 := List.all_eq_true.1 h.2 i hi
  cases hj : L[j]? with
  | none => unfold askM; rw [hj]; exact h0
  | some n =>
    have hil : i < L.length := List.mem_range.1 hi
    have hg : L[i]? = some L[i] := List.getElem?_eq_getElem hil
    have hcl : ∀ m : Nd, ∀ i, clB (askM L j u v) i m = clB L i m := fun m i => by
      unfold clB
      split
      · rfl
      · have hq := askM_getA (u := u) (v := v) hj m.pa.toNat
        by_cases e : m.pa.toNat = j
        · rw [hq, if_pos e, e, hj]; rfl
        · rw [hq, if_neg e]
    rw [nokB_at hg] at h0
    by_cases e : i = j
    · subst e
      rw [hj] at hg
      obtain rfl : n = L[i] := Option.some.inj hg
      rw [nokB_at (n := wishD L[i] u v) (by rw [askM_getA hj, if_pos rfl]), hcl]
      simp only [Bool.and_eq_true] at h0 ⊢
      refine ⟨?_, h0.2.1, ?_⟩
      · have := h0.1
        unfold ndB at this ⊢
        simp only [Bool.and_eq_true, rng_iff] at this ⊢
        exact ⟨⟨hu, hv⟩, this.2⟩
      · exact h0.2.2
    · rw [nokB_at (n := L[i]) (by rw [askM_getA hj, if_neg e]; exact hg), hcl]
      exact h0
theorem askM_mxA {L : List Nd} {j : Nat} {u v : Int} (h : ∀ n ∈ L, n.cs.length ≤ 1048576 ∧ n.rs.length ≤ 1048576) : ∀ n ∈ askM L j u v, n.cs.length ≤ 1048576 ∧ n.rs.length ≤ 1048576 := by
  unfold askM
  split
  · rename_i m hm
    intro n hn
    rcases List.mem_or_eq_of_mem_set hn with h1 | rfl
    · exact h n h1
    · exact h m (List.mem_of_getElem? hm)
  · exact h
theorem mx_mapA {R : List Nr} (h : ∀ n ∈ R.map Nr.n, n.cs.length ≤ 1048576 ∧ n.rs.length ≤ 1048576) : ∀ p ∈ R, p.n.cs.length ≤ 1048576 ∧ p.n.rs.length ≤ 1048576 := fun p hp => h _ (List.mem_map_of_mem hp)
theorem mx_upA {R : List Nr} (h : ∀ p ∈ R, p.n.cs.length ≤ 1048576 ∧ p.n.rs.length ≤ 1048576) : ∀ n ∈ R.map Nr.n, n.cs.length ≤ 1048576 ∧ n.rs.length ≤ 1048576 := fun n hn => by
  obtain ⟨p, hp, rfl⟩ := List.mem_map.1 hn
  exact h p hp
theorem askM_backA {L : List Nd} {j : Nat} {n : Nd} {u v : Int} (h : L[j]? = some n) : askM (askM L j u v) j n.ww n.hh = L := by
  apply List.ext_getElem?
  intro i
  have h2 : (askM L j u v)[j]? = some (wishD n u v) := by rw [askM_getA h, if_pos rfl]
  rw [askM_getA h2]
  split
  · rename_i e; subst e; rw [h]; cases n; rfl
  · rename_i e; rw [askM_getA h, if_neg e]
theorem tree_rngA {L : List Nd} {j : Nat} {n : Nd} (ht : treeB L = true) (h : L[j]? = some n) : (rng n.ww 0 30 && rng n.hh 0 30) = true := by
  have h0 := (tree_nok ht h).1
  unfold ndB at h0
  rw [Bool.and_eq_true] at h0
  exact h0.1
theorem TrR.open2 {lo k : Nat} {w : World} {v : Value} {L : List Nd} (h : TrR lo w v L) (hk : L.length = k) : ∃ (A : Option Addr) (c : Nat) (S : List Nr), v = .agg #[.slice A k c] ∧ NrV w A S ∧ RdR w S ∧ S.map Nr.n = L ∧ S.length = k := by
  obtain ⟨A, c, S, e, h1, h2, h3⟩ := h.open
  have e2 : S.length = k := by rw [← hk, ← h3, List.length_map]
  exact ⟨A, c, S, by rw [e, e2], h1, h2, h3, e2⟩
theorem TrK.open2 {lo k : Nat} {w : World} {v : Value} {L : List Nd} (h : TrK lo w v L) (hk : L.length = k) : ∃ (A : Option Addr) (c : Nat) (S : List Nr), v = .agg #[.slice A k c] ∧ NrV w A S ∧ RdR w S ∧ S.map Nr.n = L ∧ S.length = k := by
  obtain ⟨A, c, S, e, h1, h2, h3⟩ := h.open
  have e2 : S.length = k := by rw [← hk, ← h3, List.length_map]
  exact ⟨A, c, S, by rw [e, e2], h1, h2, h3, e2⟩
/-- blocks that are no variable of a tree stay -/
structure KpT (a b : World) : Prop where
  size : a.heap.size ≤ b.heap.size
  keep : ∀ (k : Nat) (o : Obj), a.heap[k]? = some o → (∀ u, o ≠ .cells #[u] 25 (0, 0)) → b.heap[k]? = some o
theorem KpT.of {a b : World} (hk : KpT a b) {g off : Nat} {x : Value} (hg : g < a.heap.size) (hc : a.cell? ⟨g, off + 1, none⟩ = some x) : b.heap[g]? = a.heap[g]? := by
  have hq : a.heap[g]? = some a.heap[g] := Array.getElem?_eq_getElem hg
  rw [hq]
  refine hk.keep g _ hq (fun u e2 => ?_)
  rw [e2] at hq
  rw [cell_of_heap hq, Array.getElem?_eq_none (by show 1 ≤ _; omega)] at hc
  cases hc
theorem LnW.kt {lo : Nat} {a b : World} {A : Option Addr} {L : List Ln} (h : LnW lo a A L) (hk : KpT a b) : LnW lo b A L := fun h0 => by
  obtain ⟨g, off, e, l1, l2, hp⟩ := h h0
  have hb : b.heap[g]? = a.heap[g]? := by
    obtain ⟨x, hx⟩ : ∃ x, L[0]? = some x := ⟨_, List.getElem?_eq_getElem h0⟩
    exact hk.of l2 (hp 0 x hx).2
  exact ⟨g, off, e, l1, Nat.lt_of_lt_of_le l2 hk.size, fun i p hi => ⟨(World.cell?_of_block (a := ⟨g, _, none⟩) hb).trans (hp i p hi).1, (World.cell?_of_block (a := ⟨g, _, none⟩) hb).trans (hp i p hi).2⟩⟩
theorem TrR.kt {lo : Nat} {a b : World} {v : Value} {L : List Nd} (h : TrR lo a v L) (hk : KpT a b) : TrR lo b v L := by
  obtain ⟨A, c, S, e, h1, h2, h3⟩ := h
  refine ⟨A, c, S, e, fun h0 => ?_, fun q hq => ⟨(h2 q hq).c.kt hk, (h2 q hq).cl, (h2 q hq).r.kt hk, (h2 q hq).rl⟩, h3⟩
  obtain ⟨g, off, e, l1, l2, hp⟩ := h1 h0
  have hb : b.heap[g]? = a.heap[g]? := by
    obtain ⟨x, hx⟩ : ∃ x, S[0]? = some x := ⟨_, List.getElem?_eq_getElem h0⟩
    exact hk.of l2 (hp 0 x hx 1 (.int .i64 x.n.ww) rfl)
  exact ⟨g, off, e, l1, Nat.lt_of_lt_of_le l2 hk.size, fun i p hi => rangeB (hp i p hi) hb⟩
/-- the variable at k holds a tree of its own -/
def NB (lo : Nat) (L : List Nd) (k : Nat) (W : World) : Prop := ∃ y, W.heap[k]? = some (.cells #[y] 25 (0, 0)) ∧ TrR lo W (.agg #[y]) L
structure RSb (lo : Nat) (L : List Nd) (a b : World) : Prop where
  bel : Below lo a b
  kt : KpT a b
  box : ∀ (k : Nat) (u : Value), a.heap[k]? = some (.cells #[u] 25 (0, 0)) → ∃ u', b.heap[k]? = some (.cells #[u'] 25 (0, 0))
  nn : ∀ k, NB lo L k a → NB lo L k b
theorem RSb.refl {lo : Nat} {L : List Nd} (a : World) : RSb lo L a a := ⟨Below.refl _ _, ⟨Nat.le_refl _, fun _ _ h _ => h⟩, fun _ u h => ⟨u, h⟩, fun _ h => h⟩
theorem RSb.trans {lo : Nat} {L : List Nd} {a b c : World} (h : RSb lo L a b) (k : RSb lo L b c) : RSb lo L a c := ⟨h.bel.trans k.bel, ⟨Nat.le_trans h.kt.size k.kt.size, fun x o e n => k.kt.keep x o (h.kt.keep x o e n) n⟩, fun x u e => let ⟨u', e'⟩ := h.box x u e; k.box x u' e', fun x e => k.nn x (h.nn x e)⟩
theorem RSb.of {lo : Nat} {L : List Nd} {a b : World} (hl : lo ≤ a.heap.size) (hb : Below a.heap.size a b) : RSb lo L a b :=
  ⟨hb.mono hl, ⟨hb.size, fun k o e _ => (hb.block k (Array.getElem?_eq_some_iff.1 e).1).trans e⟩, fun k u e => ⟨u, (hb.block k (Array.getElem?_eq_some_iff.1 e).1).trans e⟩, fun k ⟨y, e, ht⟩ => ⟨y, (hb.block k (Array.getElem?_eq_some_iff.1 e).1).trans e, ht.keep hb⟩⟩
theorem RSb.store {lo g : Nat} {L : List Nd} {a : World} {u y : Value} (hl : lo ≤ g) (hq : a.heap[g]? = some (.cells #[u] 25 (0, 0))) (ht : TrR lo a (.agg #[y]) L) : RSb lo L a (a.setCell ⟨g, 0, none⟩ y) ∧ NB lo L g (a.setCell ⟨g, 0, none⟩ y) := by
  have hs : a.heap.size ≤ (a.setCell ⟨g, 0, none⟩ y).heap.size := by simp [World.setCell]
  have hne : ∀ k, k ≠ g → (a.setCell ⟨g, 0, none⟩ y).heap[k]? = a.heap[k]? := fun k hk => Below.heap_setCell _ ⟨g, 0, none⟩ _ k hk
  have hk : KpT a (a.setCell ⟨g, 0, none⟩ y) := ⟨hs, fun k o e n => by
    by_cases h : k = g
    · subst h; rw [hq] at e; exact absurd (Option.some.inj e).symm (n u)
    · exact (hne k h).trans e⟩
  refine ⟨⟨(Below.refl _ _).setCell (p := ⟨g, 0, none⟩) hl _, hk, fun k x e => ?_, fun k ⟨z, e, h'⟩ => ?_⟩, ⟨y, putS hq _, ht.kt hk⟩⟩
  · by_cases h : k = g
    · subst h; exact ⟨y, putS hq _⟩
    · exact ⟨x, (hne k h).trans e⟩
  · by_cases h : k = g
    · subst h; exact ⟨y, putS hq _, ht.kt hk⟩
    · exact ⟨z, (hne k h).trans e, h'.kt hk⟩
theorem look_at {ops : List Oper} {T : Nat → Value → World → Prop} {a0 a : Act} {w : World} {G : Prop} {o : Oper} (ds : List (Tmp × Option Nat)) (hB : dsB ops o ds = true) (h : lookD T a0 a w ds G) : look ops T a0 a w (o.looksAt ops.toArray) G := by
  simp only [dsB, Bool.and_eq_true, beq_iff_eq] at hB
  obtain ⟨h1, h2⟩ := hB
  rw [h1]
  exact look_ds (fun p hp => by have := List.all_eq_true.1 h2 p hp; simpa using this) h
end Go.Proofs.Ytgdkionmeacalab
end
section
namespace Go.Proofs.Ytgdkionmeacalab
open Go.RowKit
set_option linter.unusedVariables false
set_option maxHeartbeats 2000000
attribute [local go_sem] growUpon_value growUpon_skip growUpon_enter
end Go.Proofs.Ytgdkionmeacalab
end
section
namespace Go.Proofs.Ytgdkionmeacalab
open Go.RowKit
set_option linter.unusedVariables false
set_option linter.unusedSimpArgs false
set_option maxHeartbeats 4000000
attribute [local go_sem] growUpon_value growUpon_skip growUpon_enter
set_option maxRecDepth 100000 in
theorem equalLines_same (A B : Option Addr) (c c' n : Nat) (L : List Ln) (w : World) (hn : n = L.length) (h : LnV w A L) (h' : LnV w B L) (hL : n ≤ 1048576) :
    Calls Try.prog 42 #[.slice A n c, .slice B n c'] w fun e w' => e = .returned (.bool true) ∧ Below w.heap.size w w' := by
  have HN := Lib.hid hn
  clear hn
  go_enter Try.func42, Try.ntmps42
  go_wp2_with fail
  go_loopw [5] (fun i wr => ∃ k : Nat, k ≤ n ∧ i = .int .i64 k ∧ Below w.heap.size w wr) (fun i _ => n - (intOf i).toNat)
  case atStart => exact ⟨0, by omega, rfl, Below.refl _ _⟩
  case round =>
    obtain ⟨k, hk, rfl, hB⟩ := hrel
    by_cases hlt : k < n
    · have hd : decide ((k : Int) < (n : Int)) = true := by simpa using hlt
      have hkL : k < L.length := by have := HN.out; omega
      obtain ⟨b, off, rfl, hb, hp⟩ := (h.keep hB).cells (by omega)
      obtain ⟨b', off', rfl, hb', hp'⟩ := (h'.keep hB).cells (by omega)
      obtain ⟨p, hpk⟩ : ∃ p, L[k]? = some p := ⟨_, List.getElem?_eq_getElem hkL⟩
      obtain ⟨c0, c1⟩ := hp k p hpk
      obtain ⟨d0, d1⟩ := hp' k p hpk
      have HBB := Lib.hid hB
      clear hpk hp hp' hB hkL
      go_wp2_with fail
      refine wp_region_grow 9 0 (· < 9) (by kernel_rfl) (by kernel_rfl) rfl ?_
      iterate 9 (refine wpG_step (fun K hK => ?_); first | (refine grow_skip rfl ?_; go_simp; refine hK _ ?_; clear hK K) | (apply Exists.intro; refine ⟨.inl ⟨rfl, fun w' hw' => ?_⟩, ?_⟩; (focus ((obtain ⟨hc, hf⟩ := bcell hw'.out); (have hcS := bcellS hw'.out); go_simp <;> first | rfl)); (go_simp; refine hK _ ?_; clear hK K)))
      refine wpG_nil ?_
      refine wpK_tail (by kernel_rfl) (fun w1 hg1 => ?_)
      have hb1 := bdrewn hg1.out
      refine wpAny_end (by kernel_rfl) ?_
      refine NoPan.thn ?_
      clear hg1
      replace HBB := Lib.hid (HBB.out.trans (hb1.mono HBB.out.size))
      clear hb1 c0 c1 d0 d1
      go_wp2
      go_roundw
      case rel => exact ⟨k + 1, by omega, by go_num, HBB.out⟩
      case measure => simp [intOf]; omega
    · have hd : decide ((k : Int) < (n : Int)) = false := by simp; omega
      have HBB := Lib.hid hB
      clear hB
      go_wp2
      go_ret
      exact ⟨rfl, HBB.out⟩
set_option maxRecDepth 100000 in
theorem equalNode_same (n : Nd) (ca : Option Addr) (cc : Nat) (ra : Option Addr) (rc : Nat) (da : Option Addr) (dc : Nat) (sa : Option Addr) (sc : Nat) (w : World) (h1 : LnV w ca n.cs) (h2 : LnV w ra n.rs) (k1 : LnV w da n.cs) (k2 : LnV w sa n.rs) (m1 : n.cs.length ≤ 1048576) (m2 : n.rs.length ≤ 1048576) :
    Calls Try.prog 26 #[.agg (valsNr ⟨n, ca, cc, ra, rc⟩).toArray, .agg (valsNr ⟨n, da, dc, sa, sc⟩).toArray] w fun e w' => e = .returned (.bool true) ∧ Below w.heap.size w w' := by
  have hB0 : Below w.heap.size w ((w.alloc (.cells (valsNr ⟨n, ca, cc, ra, rc⟩).toArray 39 (0, 0))).alloc (.cells (valsNr ⟨n, da, dc, sa, sc⟩).toArray 39 (0, 0))) := balloc (balloc (Below.refl _ _))
  have HX := Lib.hid ((Below.heap_alloc _ (.cells (valsNr ⟨n, da, dc, sa, sc⟩).toArray 39 (0, 0)) w.heap.size (by simp)).trans (newS w (.cells (valsNr ⟨n, ca, cc, ra, rc⟩).toArray 39 (0, 0))))
  have HY := Lib.hid (newS1T w (.cells (valsNr ⟨n, ca, cc, ra, rc⟩).toArray 39 (0, 0)) (.cells (valsNr ⟨n, da, dc, sa, sc⟩).toArray 39 (0, 0)))
  have HV1 := Lib.hid (h1.keep hB0)
  have HV2 := Lib.hid (h2.keep hB0)
  have HK1 := Lib.hid (k1.keep hB0)
  have HK2 := Lib.hid (k2.keep hB0)
  have HB := Lib.hid hB0
  clear hB0 h1 h2 k1 k2
  have x0 : ((w.alloc (.cells (valsNr ⟨n, ca, cc, ra, rc⟩).toArray 39 (0, 0))).alloc (.cells (valsNr ⟨n, da, dc, sa, sc⟩).toArray 39 (0, 0))).cell? ⟨w.heap.size, 0, none⟩ = some (.int .i64 n.pa) := cellS HX.out 0
  have y0 : ((w.alloc (.cells (valsNr ⟨n, ca, cc, ra, rc⟩).toArray 39 (0, 0))).alloc (.cells (valsNr ⟨n, da, dc, sa, sc⟩).toArray 39 (0, 0))).cell? ⟨w.heap.size + 1, 0, none⟩ = some (.int .i64 n.pa) := cellS HY.out 0
  have x1 : ((w.alloc (.cells (valsNr ⟨n, ca, cc, ra, rc⟩).toArray 39 (0, 0))).alloc (.cells (valsNr ⟨n, da, dc, sa, sc⟩).toArray 39 (0, 0))).cell? ⟨w.heap.size, 1, none⟩ = some (.int .i64 n.ww) := cellS HX.out 1
  have y1 : ((w.alloc (.cells (valsNr ⟨n, ca, cc, ra, rc⟩).toArray 39 (0, 0))).alloc (.cells (valsNr ⟨n, da, dc, sa, sc⟩).toArray 39 (0, 0))).cell? ⟨w.heap.size + 1, 1, none⟩ = some (.int .i64 n.ww) := cellS HY.out 1
  have x2 : ((w.alloc (.cells (valsNr ⟨n, ca, cc, ra, rc⟩).toArray 39 (0, 0))).alloc (.cells (valsNr ⟨n, da, dc, sa, sc⟩).toArray 39 (0, 0))).cell? ⟨w.heap.size, 2, none⟩ = some (.int .i64 n.hh) := cellS HX.out 2
  have y2 : ((w.alloc (.cells (valsNr ⟨n, ca, cc, ra, rc⟩).toArray 39 (0, 0))).alloc (.cells (valsNr ⟨n, da, dc, sa, sc⟩).toArray 39 (0, 0))).cell? ⟨w.heap.size + 1, 2, none⟩ = some (.int .i64 n.hh) := cellS HY.out 2
  have x3 : ((w.alloc (.cells (valsNr ⟨n, ca, cc, ra, rc⟩).toArray 39 (0, 0))).alloc (.cells (valsNr ⟨n, da, dc, sa, sc⟩).toArray 39 (0, 0))).cell? ⟨w.heap.size, 3, none⟩ = some (.bool n.ke) := cellS HX.out 3
  have y3 : ((w.alloc (.cells (valsNr ⟨n, ca, cc, ra, rc⟩).toArray 39 (0, 0))).alloc (.cells (valsNr ⟨n, da, dc, sa, sc⟩).toArray 39 (0, 0))).cell? ⟨w.heap.size + 1, 3, none⟩ = some (.bool n.ke) := cellS HY.out 3
  have x4 : ((w.alloc (.cells (valsNr ⟨n, ca, cc, ra, rc⟩).toArray 39 (0, 0))).alloc (.cells (valsNr ⟨n, da, dc, sa, sc⟩).toArray 39 (0, 0))).cell? ⟨w.heap.size, 4, none⟩ = some (.int .i64 n.ki) := cellS HX.out 4
  have y4 : ((w.alloc (.cells (valsNr ⟨n, ca, cc, ra, rc⟩).toArray 39 (0, 0))).alloc (.cells (valsNr ⟨n, da, dc, sa, sc⟩).toArray 39 (0, 0))).cell? ⟨w.heap.size + 1, 4, none⟩ = some (.int .i64 n.ki) := cellS HY.out 4
  have x5 : ((w.alloc (.cells (valsNr ⟨n, ca, cc, ra, rc⟩).toArray 39 (0, 0))).alloc (.cells (valsNr ⟨n, da, dc, sa, sc⟩).toArray 39 (0, 0))).cell? ⟨w.heap.size, 5, none⟩ = some (.slice ca n.cs.length cc) := cellS HX.out 5
  have y5 : ((w.alloc (.cells (valsNr ⟨n, ca, cc, ra, rc⟩).toArray 39 (0, 0))).alloc (.cells (valsNr ⟨n, da, dc, sa, sc⟩).toArray 39 (0, 0))).cell? ⟨w.heap.size + 1, 5, none⟩ = some (.slice da n.cs.length dc) := cellS HY.out 5
  go_enter Try.func26, Try.ntmps26
  go_wp2_with fail
  with_reducible refine (equalLines_same ca da cc dc _ n.cs _ rfl HV1.out HK1.out m1).mono ?_
  rintro e w1 ⟨rfl, hb⟩
  clear x0 y0 x1 y1 x2 y2 x3 y3 x4 y4 x5 y5
  replace HX := Lib.hid ((hb.block _ (Array.getElem?_eq_some_iff.1 HX.out).1).trans HX.out)
  replace HY := Lib.hid ((hb.block _ (Array.getElem?_eq_some_iff.1 HY.out).1).trans HY.out)
  replace HV2 := Lib.hid (HV2.out.keep hb)
  replace HK2 := Lib.hid (HK2.out.keep hb)
  replace HB := Lib.hid (bkeep2 HB.out hb)
  clear hb
  have x6 : w1.cell? ⟨w.heap.size, 6, none⟩ = some (.slice ra n.rs.length rc) := cellS HX.out 6
  have y6 : w1.cell? ⟨w.heap.size + 1, 6, none⟩ = some (.slice sa n.rs.length sc) := cellS HY.out 6
  go_wp2_with fail
  with_reducible refine (equalLines_same ra sa rc sc _ n.rs _ rfl HV2.out HK2.out m2).mono ?_
  rintro e w2 ⟨rfl, hb⟩
  clear x6 y6
  replace HX := Lib.hid ((hb.block _ (Array.getElem?_eq_some_iff.1 HX.out).1).trans HX.out)
  replace HY := Lib.hid ((hb.block _ (Array.getElem?_eq_some_iff.1 HY.out).1).trans HY.out)
  replace HB := Lib.hid (bkeep2 HB.out hb)
  clear hb
  have x7 : w2.cell? ⟨w.heap.size, 7, none⟩ = some (.int .i64 n.pk.w) := cellS HX.out 7
  have y7 : w2.cell? ⟨w.heap.size + 1, 7, none⟩ = some (.int .i64 n.pk.w) := cellS HY.out 7
  have x8 : w2.cell? ⟨w.heap.size, 8, none⟩ = some (.int .i64 n.pk.h) := cellS HX.out 8
  have y8 : w2.cell? ⟨w.heap.size + 1, 8, none⟩ = some (.int .i64 n.pk.h) := cellS HY.out 8
  have x9 : w2.cell? ⟨w.heap.size, 9, none⟩ = some (.int .i64 n.pk.s) := cellS HX.out 9
  have y9 : w2.cell? ⟨w.heap.size + 1, 9, none⟩ = some (.int .i64 n.pk.s) := cellS HY.out 9
  have x10 : w2.cell? ⟨w.heap.size, 10, none⟩ = some (.bool n.pk.fx) := cellS HX.out 10
  have y10 : w2.cell? ⟨w.heap.size + 1, 10, none⟩ = some (.bool n.pk.fx) := cellS HY.out 10
  have x11 : w2.cell? ⟨w.heap.size, 11, none⟩ = some (.bool n.pk.fy) := cellS HX.out 11
  have y11 : w2.cell? ⟨w.heap.size + 1, 11, none⟩ = some (.bool n.pk.fy) := cellS HY.out 11
  have x12 : w2.cell? ⟨w.heap.size, 12, none⟩ = some (.bool n.pk.ex) := cellS HX.out 12
  have y12 : w2.cell? ⟨w.heap.size + 1, 12, none⟩ = some (.bool n.pk.ex) := cellS HY.out 12
  have x13 : w2.cell? ⟨w.heap.size, 13, none⟩ = some (.int .i64 n.pk.an) := cellS HX.out 13
  have y13 : w2.cell? ⟨w.heap.size + 1, 13, none⟩ = some (.int .i64 n.pk.an) := cellS HY.out 13
  have x14 : w2.cell? ⟨w.heap.size, 14, none⟩ = some (.int .i64 n.pk.px) := cellS HX.out 14
  have y14 : w2.cell? ⟨w.heap.size + 1, 14, none⟩ = some (.int .i64 n.pk.px) := cellS HY.out 14
  have x15 : w2.cell? ⟨w.heap.size, 15, none⟩ = some (.int .i64 n.pk.py) := cellS HX.out 15
  have y15 : w2.cell? ⟨w.heap.size + 1, 15, none⟩ = some (.int .i64 n.pk.py) := cellS HY.out 15
  have x16 : w2.cell? ⟨w.heap.size, 16, none⟩ = some (.int .i64 n.ce.co) := cellS HX.out 16
  have y16 : w2.cell? ⟨w.heap.size + 1, 16, none⟩ = some (.int .i64 n.ce.co) := cellS HY.out 16
  have x17 : w2.cell? ⟨w.heap.size, 17, none⟩ = some (.int .i64 n.ce.ro) := cellS HX.out 17
  have y17 : w2.cell? ⟨w.heap.size + 1, 17, none⟩ = some (.int .i64 n.ce.ro) := cellS HY.out 17
  have x18 : w2.cell? ⟨w.heap.size, 18, none⟩ = some (.int .i64 n.ce.mc) := cellS HX.out 18
  have y18 : w2.cell? ⟨w.heap.size + 1, 18, none⟩ = some (.int .i64 n.ce.mc) := cellS HY.out 18
  have x19 : w2.cell? ⟨w.heap.size, 19, none⟩ = some (.int .i64 n.ce.mr) := cellS HX.out 19
  have y19 : w2.cell? ⟨w.heap.size + 1, 19, none⟩ = some (.int .i64 n.ce.mr) := cellS HY.out 19
  have x20 : w2.cell? ⟨w.heap.size, 20, none⟩ = some (.int .i64 n.ce.cw) := cellS HX.out 20
  have y20 : w2.cell? ⟨w.heap.size + 1, 20, none⟩ = some (.int .i64 n.ce.cw) := cellS HY.out 20
  have x21 : w2.cell? ⟨w.heap.size, 21, none⟩ = some (.int .i64 n.ce.ch) := cellS HX.out 21
  have y21 : w2.cell? ⟨w.heap.size + 1, 21, none⟩ = some (.int .i64 n.ce.ch) := cellS HY.out 21
  have x22 : w2.cell? ⟨w.heap.size, 22, none⟩ = some (.int .i64 n.ce.sk) := cellS HX.out 22
  have y22 : w2.cell? ⟨w.heap.size + 1, 22, none⟩ = some (.int .i64 n.ce.sk) := cellS HY.out 22
  have x23 : w2.cell? ⟨w.heap.size, 23, none⟩ = some (.int .i64 n.ce.px) := cellS HX.out 23
  have y23 : w2.cell? ⟨w.heap.size + 1, 23, none⟩ = some (.int .i64 n.ce.px) := cellS HY.out 23
  have x24 : w2.cell? ⟨w.heap.size, 24, none⟩ = some (.int .i64 n.ce.py) := cellS HX.out 24
  have y24 : w2.cell? ⟨w.heap.size + 1, 24, none⟩ = some (.int .i64 n.ce.py) := cellS HY.out 24
  have x25 : w2.cell? ⟨w.heap.size, 25, none⟩ = some (.int .i64 n.pl.x) := cellS HX.out 25
  have y25 : w2.cell? ⟨w.heap.size + 1, 25, none⟩ = some (.int .i64 n.pl.x) := cellS HY.out 25
  have x26 : w2.cell? ⟨w.heap.size, 26, none⟩ = some (.int .i64 n.pl.y) := cellS HX.out 26
  have y26 : w2.cell? ⟨w.heap.size + 1, 26, none⟩ = some (.int .i64 n.pl.y) := cellS HY.out 26
  have x27 : w2.cell? ⟨w.heap.size, 27, none⟩ = some (.int .i64 n.pl.rx) := cellS HX.out 27
  have y27 : w2.cell? ⟨w.heap.size + 1, 27, none⟩ = some (.int .i64 n.pl.rx) := cellS HY.out 27
  have x28 : w2.cell? ⟨w.heap.size, 28, none⟩ = some (.int .i64 n.pl.ry) := cellS HX.out 28
  have y28 : w2.cell? ⟨w.heap.size + 1, 28, none⟩ = some (.int .i64 n.pl.ry) := cellS HY.out 28
  have x29 : w2.cell? ⟨w.heap.size, 29, none⟩ = some (.int .i64 n.pl.ww) := cellS HX.out 29
  have y29 : w2.cell? ⟨w.heap.size + 1, 29, none⟩ = some (.int .i64 n.pl.ww) := cellS HY.out 29
  have x30 : w2.cell? ⟨w.heap.size, 30, none⟩ = some (.int .i64 n.pl.hh) := cellS HX.out 30
  have y30 : w2.cell? ⟨w.heap.size + 1, 30, none⟩ = some (.int .i64 n.pl.hh) := cellS HY.out 30
  have x31 : w2.cell? ⟨w.heap.size, 31, none⟩ = some (.int .i64 n.pl.qw) := cellS HX.out 31
  have y31 : w2.cell? ⟨w.heap.size + 1, 31, none⟩ = some (.int .i64 n.pl.qw) := cellS HY.out 31
  have x32 : w2.cell? ⟨w.heap.size, 32, none⟩ = some (.int .i64 n.pl.qh) := cellS HX.out 32
  have y32 : w2.cell? ⟨w.heap.size + 1, 32, none⟩ = some (.int .i64 n.pl.qh) := cellS HY.out 32
  have x33 : w2.cell? ⟨w.heap.size, 33, none⟩ = some (.int .i64 n.pl.an) := cellS HX.out 33
  have y33 : w2.cell? ⟨w.heap.size + 1, 33, none⟩ = some (.int .i64 n.pl.an) := cellS HY.out 33
  go_wp2
  go_ret
  exact ⟨rfl, HB.out⟩
theorem equalN_w (p q : Nr) (w : World) (hn : q.n = p.n) (hp : RdN w p) (hq : RdN w q) (m1 : p.n.cs.length ≤ 1048576) (m2 : p.n.rs.length ≤ 1048576) :
    Calls Try.prog 26 #[.agg (valsNr p).toArray, .agg (valsNr q).toArray] w fun e w' => e = .returned (.bool true) ∧ Below w.heap.size w w' := by
  obtain ⟨n, ca, cc, ra, rc⟩ := p
  obtain ⟨n', da, dc, sa, sc⟩ := q
  obtain rfl : n' = n := hn
  exact equalNode_same n' ca cc ra rc da dc sa sc w hp.c hp.r hq.c hq.r m1 m2
set_option maxRecDepth 100000 in
theorem equalTree_same (A B : Option Addr) (c c' : Nat) (R S : List Nr) (w : World) (k : Nat) (hk : k = R.length) (hn : S.map Nr.n = R.map Nr.n) (h : NrV w A R) (h' : NrV w B S) (hr : RdR w R) (hs : RdR w S) (hL : R.length ≤ 1048576) (hm : ∀ p ∈ R, p.n.cs.length ≤ 1048576 ∧ p.n.rs.length ≤ 1048576) :
    Calls Try.prog 9 #[.agg #[.slice A k c], .agg #[.slice B k c']] w fun e w' => e = .returned (.bool true) ∧ Below w.heap.size w w' := by
  have hls : S.length = k := by have := congrArg List.length hn; simp at this; omega
  have hB0 : Below w.heap.size w ((w.alloc (.cells #[.slice A k c] 25 (0, 0))).alloc (.cells #[.slice B k c'] 25 (0, 0))) := balloc (balloc (Below.refl _ _))
  have HX := Lib.hid ((Below.heap_alloc _ (.cells #[.slice B k c'] 25 (0, 0)) w.heap.size (by simp)).trans (newS w (.cells #[.slice A k c] 25 (0, 0))))
  have HY := Lib.hid (newS1T w (.cells #[.slice A k c] 25 (0, 0)) (.cells #[.slice B k c'] 25 (0, 0)))
  have x0 := cellS HX.out 0
  have y0 := cellS HY.out 0
  have HA := Lib.hid (And.intro (h.keep hB0) (And.intro (h'.keep hB0) (And.intro (hr.keep hB0) (hs.keep hB0))))
  have HB := Lib.hid hB0
  have HN := Lib.hid hn
  have HM := Lib.hid hm
  have HLS := Lib.hid hls
  have HK := Lib.hid hk
  have hk1 : k ≤ 1048576 := by omega
  clear hB0 hn h h' hr hs hm hk hL hls
  go_enter Try.func9, Try.ntmps9
  go_wp2_with fail
  clear x0 y0
  obtain ⟨W0, hW0⟩ : ∃ W0, ((w.alloc (.cells #[.slice A k c] 25 (0, 0))).alloc (.cells #[.slice B k c'] 25 (0, 0))) = W0 := ⟨_, rfl⟩
  rw [hW0] at HX HY HA HB
  rw [hW0]
  clear hW0
  go_loopw [5] (fun i wr => ∃ j : Nat, j ≤ k ∧ i = .int .i64 j ∧ Below W0.heap.size W0 wr) (fun i _ => k - (intOf i).toNat)
  case atStart => exact ⟨0, by omega, rfl, Below.refl _ _⟩
  case round =>
    obtain ⟨j, hj, rfl, hB⟩ := hrel
    have x0 := cellS ((hB.block _ (ltS HX.out)).trans HX.out) 0
    have y0 := cellS ((hB.block _ (ltS HY.out)).trans HY.out) 0
    by_cases hlt : j < k
    · have hd : decide ((j : Int) < (k : Int)) = true := by simpa using hlt
      have hlt1 : j < R.length := by rw [← HK.out]; exact hlt
      have hlt2 : j < S.length := by rw [HLS.out]; exact hlt
      obtain ⟨b, off, rfl, hb, hp⟩ := (HA.out.1.keep hB).cells (by omega)
      obtain ⟨b', off', rfl, hb', hp'⟩ := (HA.out.2.1.keep hB).cells (by omega)
      have hg1 : R[j]? = some R[j] := List.getElem?_eq_getElem hlt1
      have hg2 : S[j]? = some S[j] := List.getElem?_eq_getElem hlt2
      have hr1 := hp j _ hg1
      have hr2 := hp' j _ hg2
      have hnn : (S[j]).n = (R[j]).n := by
        have := congrArg (fun l => l[j]?) HN.out
        simpa [List.getElem?_map, hg1, hg2] using this
      have hrd1 := (HA.out.2.2.1.keep hB) _ (List.mem_of_getElem? hg1)
      have hrd2 := (HA.out.2.2.2.keep hB) _ (List.mem_of_getElem? hg2)
      have hmm := HM.out _ (List.mem_of_getElem? hg1)
      generalize R[j] = p at *
      generalize S[j] = q at *
      have HR1 := Lib.hid hr1
      have HR2 := Lib.hid hr2
      have HNN := Lib.hid hnn
      have HBB := Lib.hid hB
      have HD1 := Lib.hid hrd1
      have HD2 := Lib.hid hrd2
      obtain ⟨mm1, mm2⟩ := hmm
      clear hr1 hr2 hnn hB hg1 hg2 hp hp' hrd1 hrd2 hlt1 hlt2
      go_wp2_with fail
      refine wp_region_grow 12 0 (· < 12) (by kernel_rfl) (by kernel_rfl) rfl ?_
      iterate 12 (refine wpG_step (fun K hK => ?_); first | (refine grow_ldN _ p b (off + j * 34) rfl rfl rfl hb (rangeB HR1.out rfl) ?_; refine hK _ ?_; clear hK K) | (refine grow_ldN _ q b' (off' + j * 34) rfl rfl rfl hb' (rangeB HR2.out rfl) ?_; refine hK _ ?_; clear hK K) | (refine grow_skip rfl ?_; go_simp; refine hK _ ?_; clear hK K) | (apply Exists.intro; refine ⟨.inl ⟨rfl, fun w' hw' => ?_⟩, ?_⟩; (focus ((obtain ⟨hc, hf⟩ := bcell hw'.out); (have hcS := bcellS hw'.out); go_simp <;> first | rfl | (go_at_call 26; exact equalN_w p q _ HNN.out (HD1.out.keep (bdrewn hw'.out)) (HD2.out.keep (bdrewn hw'.out)) mm1 mm2))); (go_simp; refine hK _ ?_; clear hK K)))
      refine wpG_nil ?_
      refine wpK_tail (by kernel_rfl) (fun w1 hg1 => ?_)
      have hb1 := bdrewn hg1.out
      refine wpAny_end (by kernel_rfl) ?_
      refine NoPan.thn ?_
      clear hg1
      replace HBB := Lib.hid (HBB.out.trans (hb1.mono HBB.out.size))
      clear hb1 x0 y0
      go_wp2
      go_roundw
      case rel => exact ⟨j + 1, by omega, by go_num, HBB.out⟩
      case measure => simp [intOf]; omega
    · have hd : decide ((j : Int) < (k : Int)) = false := decide_eq_false (by omega)
      have HBB := Lib.hid hB
      clear hB
      go_wp2
      go_ret
      exact ⟨rfl, bkeep2 HB.out HBB.out⟩
end Go.Proofs.Ytgdkionmeacalab
end
section
namespace Go.Proofs.Ytgdkionmeacalab
open Go.RowKit
theorem TK.rdr {W : World} {lo g : Nat} {R : List Nr} (h : TK W lo g R) : RdR W R := fun p hp => (h.ns p hp).rd
theorem TK.mx {W : World} {lo g : Nat} {R : List Nr} (h : TK W lo g R) : ∀ p ∈ R, p.n.cs.length ≤ 1048576 ∧ p.n.rs.length ≤ 1048576 := fun p hp => by
  have := (h.ns p hp).c5
  have := (h.ns p hp).r5
  omega
theorem TK.cellAt {W : World} {lo g j : Nat} {R : List Nr} {p : Nr} (h : TK W lo g R) (hp : R[j]? = some p) (o : Nat) (v : Value) (hv : (valsNr p)[o]? = some v) : W.cell? ⟨g, j * 34 + o, none⟩ = some v := by
  obtain ⟨cs, hh, _, hin⟩ := h.blk
  exact (cellS hh _).trans (hin j p hp o v hv)
end Go.Proofs.Ytgdkionmeacalab
end
