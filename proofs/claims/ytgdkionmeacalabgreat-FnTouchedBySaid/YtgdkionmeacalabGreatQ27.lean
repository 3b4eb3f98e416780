import Derived.Test.YtgdkionmeacalabGreatQ26
import Derived.Laws.AppendOwnNone
section
namespace Go.Proofs.YtgdkionmeacalabGreat
open Go Go.RowKit
set_option linter.unusedVariables false
set_option linter.unusedSimpArgs false
set_option maxHeartbeats 8000000
attribute [local go_sem] growUpon_value growUpon_skip growUpon_enter
def afVals : List Nr → List Value
  | [] => []
  | p :: t => valsNr p ++ afVals t
theorem afVals_append (A B : List Nr) : afVals (A ++ B) = afVals A ++ afVals B := by
  induction A with
  | nil => rfl
  | cons p A ih => simp only [List.cons_append, afVals, ih, List.append_assoc]
theorem afVals_snoc (L : List Nr) (p : Nr) : afVals L ++ valsNr p = afVals (L ++ [p]) := by rw [afVals_append]; simp [afVals]
theorem afVals_get : ∀ {M : List Nr} {i : Nat} {r : Nr}, M[i]? = some r → ∀ j, j < 34 → (afVals M)[i * 34 + j]? = (valsNr r)[j]?
  | [], i, r, h, _, _ => by simp at h
  | q :: t, 0, r, h, j, hj => by
    simp at h; subst h
    show (valsNr q ++ afVals t)[0 * 34 + j]? = _
    rw [List.getElem?_append_left (by rw [valsNr_len]; omega)]; simp
  | q :: t, i + 1, r, h, j, hj => by
    show (valsNr q ++ afVals t)[(i + 1) * 34 + j]? = _
    rw [List.getElem?_append_right (by rw [valsNr_len]; omega)]
    have := afVals_get (M := t) (i := i) (r := r) (by simpa using h) j hj
    rw [← this]; congr 1; rw [valsNr_len]; omega
theorem afNrInfo : ∃ (i : TypeInfo) (z : Value), Tryz.prog.info? 38 = some i ∧ i.zero = some z ∧ i.size = 34 ∧ i.bytes = 288 ∧ z.cells.size = 34 := by
  have h : (Tryz.prog.info? 38).map (fun i => (i.size, i.bytes, i.zero.map (fun z => z.cells.size))) = some (34, 288, some 34) := by kernel_rfl
  cases hq : Tryz.prog.info? 38 with
  | none => rw [hq] at h; cases h
  | some i =>
    rw [hq] at h
    simp only [Option.map_some, Option.some.injEq, Prod.mk.injEq] at h
    obtain ⟨e1, e2, e3⟩ := h
    cases hz : i.zero with
    | none => rw [hz] at e3; cases e3
    | some z => rw [hz] at e3; simp only [Option.map_some, Option.some.injEq] at e3; exact ⟨i, z, rfl, hz, e1, e2, e3⟩
theorem afNew34 (W : World) (p : Nr) (T : TypeId) : ∀ (j : Nat) (u : Value), (valsNr p)[j]? = some u → (W.alloc (.cells (valsNr p).toArray T)).cell? ((⟨W.heap.size, 0, none⟩ : Addr).add j) = some u := fun j u h => by
  have hadd : (⟨W.heap.size, 0, none⟩ : Addr).add j = ⟨W.heap.size, j, none⟩ := by unfold Addr.add; split <;> simp_all
  rw [hadd]
  exact (cellS (newS W _) j).trans (by simpa using h)
theorem afRunBs (p : Nr) (w : World) : (Instr.buildSlice 23 1 #[(0, .agg (valsNr p).toArray)]).run Tryz.prog w = .ok (.slice (some ⟨w.heap.size, 0, none⟩) 1 1) (w.alloc (.cells (valsNr p).toArray 38)) := by kernel_rfl
def AfLn (W : World) (A : Option Addr) (L : List Ln) : Prop := L = [] ∨ ∃ (g : Nat) (cs : Array Value), A = some ⟨g, 0, none⟩ ∧ W.heap[g]? = some (.cells cs 150 (0, 0)) ∧ ∀ (i : Nat) (x : Ln), L[i]? = some x → InS cs (i * 2) (valsLn x)
theorem AfLn.v {W : World} {A : Option Addr} {L : List Ln} (h : AfLn W A L) : LnV W A L := by
  rcases h with rfl | ⟨g, cs, rfl, hh, hc⟩
  · exact LnV.nil _ _
  · refine ⟨fun _ => ⟨g, 0, rfl, ltS hh, fun i p hi => ?_⟩⟩
    have h := hc i p hi
    simp only [Nat.zero_add]
    exact ⟨(cellS hh _).trans (h 0 _ rfl), (cellS hh _).trans (h 1 _ rfl)⟩
def AfKp (W W' : World) : Prop := ∀ (g : Nat) (cs : Array Value), W.heap[g]? = some (.cells cs 150 (0, 0)) → W'.heap[g]? = W.heap[g]?
theorem AfKp.refl (W : World) : AfKp W W := fun _ _ _ => rfl
theorem AfKp.trans {A B C : World} (h : AfKp A B) (k : AfKp B C) : AfKp A C := fun g cs e => (k g cs ((h g cs e).trans e)).trans (h g cs e)
theorem AfLn.kp {W W' : World} {A : Option Addr} {L : List Ln} (h : AfLn W A L) (hk : AfKp W W') : AfLn W' A L := h.imp id fun ⟨g, cs, e, hh, hc⟩ => ⟨g, cs, e, (hk g cs hh).trans hh, hc⟩
theorem AfKp.below {W W' : World} (hb : Below W.heap.size W W') : AfKp W W' := fun g cs e => hb.block g (ltS e)
theorem AfKp.grown {W W' : World} {ob : Option Nat} (hg : W.grownBy W' ob) (ho : ∀ g cs, W.heap[g]? = some (.cells cs 150 (0, 0)) → some g ≠ ob) : AfKp W W' := fun g cs e => hg.block g (ltS e) (ho g cs e)
theorem afOwnTree {W : World} {lo n b : Nat} {v : Value} {xs : List Value} {cs : Array Value} (h : W.ownsRow lo 38 34 v n xs) (hb : W.heap[b]? = some (.cells cs 25 (0, 0))) (u : Value) : (W.setCell ⟨b, 0, none⟩ u).ownsRow lo 38 34 v n xs :=
  h.kept (row := some b) (gsetS (greflS W b) 0 u) (by
    rcases h.2 with ⟨rfl, _⟩ | ⟨g', cap, cur, rfl, _, hg', _⟩
    · exact .inl rfl
    · refine .inr (fun e => ?_)
      have : g' = b := by simpa [Value.ownBlock] using e
      subst this
      rw [hb] at hg'
      have := Option.some.inj hg'
      simp at this)
theorem afKpTree {W : World} {b : Nat} {cs : Array Value} (hb : W.heap[b]? = some (.cells cs 25 (0, 0))) (u : Value) : AfKp W (W.setCell ⟨b, 0, none⟩ u) :=
  AfKp.grown (gsetS (greflS W b) 0 u) (fun g cs' e e' => by cases e'; rw [hb] at e; have := Option.some.inj e; simp at this)
theorem afOwnNr {w : World} {base n : Nat} {v : Value} {R : List Nr} (h : w.ownsRow base 38 34 v n (afVals R)) (hn : n = R.length) : (v = .slice none 0 0 ∧ R = []) ∨ ∃ (g cap : Nat) (cs : Array Value), v = .slice (some ⟨g, 0, none⟩) n cap ∧ base ≤ g ∧ n ≤ cap ∧ w.heap[g]? = some (.cells cs 38 (0, 0)) ∧ cs.size = cap * 34 ∧ ∀ (i : Nat) (r : Nr), R[i]? = some r → InS cs (i * 34) (valsNr r) := by
  rcases h.2 with ⟨rfl, h0⟩ | ⟨g, cap, cur, rfl, hb, hg, hc, _, hs, ht⟩
  · exact .inl ⟨rfl, List.length_eq_zero_iff.1 (by omega)⟩
  · refine .inr ⟨g, cap, cur, rfl, hb, hc, hg, hs, fun i r hr j u hj => ?_⟩
    have hi : i < R.length := (List.getElem?_eq_some_iff.1 hr).1
    have hj34 : j < 34 := by have := (List.getElem?_eq_some_iff.1 hj).1; rwa [valsNr_len] at this
    have e := (afVals_get hr j hj34).trans hj
    rw [← ht, List.getElem?_take, if_pos (by omega)] at e
    simpa using e
theorem run_apNil (g c : Nat) (ty : TypeId) (w : World) : (Builtin.append_ #[30, 30] ty #[.slice (some ⟨g, 0, none⟩) 0 0, .slice none 0 c]).run Tryz.prog w = .ok (.slice (some ⟨g, 0, none⟩) 0 0) w := by
  obtain ⟨ti, tz, ti1, ti2, ti3, ti4, ti5⟩ := line_info
  simp [Builtin.append_, run_underlying Tryz.underlying30, sizeOf, typeInfo, ti1, Builtin.lenOf, Builtin.firstCells, storeCells]
theorem afKpNode {W : World} {b : Nat} {cs : Array Value} (hb : W.heap[b]? = some (.cells cs 38 (0, 0))) (o : Nat) (u : Value) : AfKp W (W.setCell ⟨b, o, none⟩ u) := fun g cs' e => Below.heap_setCell _ ⟨b, o, none⟩ _ _ (fun hgb => by
  subst hgb
  rw [hb] at e
  have := Option.some.inj e
  simp only [Obj.cells.injEq] at this
  exact absurd this.2.1 (by decide))
theorem afStep {wr W w1 : World} {g o : Nat} {p q : Nr} {u : Value} (hB : Below wr.heap.size wr W) (hg : wr.heap.size = g) (hN : w1.heap[g]? = some (.cells (valsNr p).toArray 38 (0, 0))) (hg1 : (W.alloc (.cells #[] 150 (0, 0))).grownBy w1 (some W.heap.size)) (he : ((valsNr p).toArray.setIfInBounds o u) = (valsNr q).toArray) :
    (w1.setCell ⟨g, o, none⟩ u).heap[g]? = some (.cells (valsNr q).toArray 38 (0, 0)) ∧ AfKp w1 (w1.setCell ⟨g, o, none⟩ u) ∧ Below wr.heap.size wr (w1.setCell ⟨g, o, none⟩ u) := by
  have hk : ∀ k, (Value.slice (some ⟨W.heap.size, 0, none⟩) 0 0).ownBlock = some k → wr.heap.size ≤ k ∧ k < W.heap.size + 1 := fun k hk => by
    have e : W.heap.size = k := by simpa [Value.ownBlock] using hk
    have := hB.size
    omega
  refine ⟨?_, afKpNode hN _ _, ?_⟩
  · rw [← he]; exact putS hN _
  · exact (below_own (v := .slice (some ⟨W.heap.size, 0, none⟩) 0 0) hB hg1 (lo := wr.heap.size) (hi := W.heap.size + 1) hk (Nat.le_refl _) (Nat.le_refl _)).setCell (p := ⟨g, o, none⟩) (by simp; omega) _
theorem afKp2 {W w2 : World} {ob : Obj} (hg : (W.alloc ob).grownBy w2 (some W.heap.size)) : AfKp W w2 := fun g cs hgc => by
  have h1 := ltS hgc
  exact (hg.block g (by simp; omega) (by simp; omega)).trans (Below.heap_alloc _ _ g h1)
def LnQ (w : World) (v : Value) (L : List Ln) : Prop := ∃ A c, v = .slice A L.length c ∧ L.length ≤ c ∧ AfLn w A L
/-- append of lines to an empty literal -/
theorem apLn {ops : Array Oper} {rest : List Oper} {o : Oper} {a : Act} {w : World} {Q : Exit → Act → World → Prop} (s x : Operand) (L : List Ln) (A : Option Addr) (c g : Nat) (hgd : o.guard = none)
    (ho : o.op = .call { callee := .builtin .append, args := #[s, x], argTypes := #[30, 30] }) (hs : a.eval s = .slice (some ⟨g, 0, none⟩) 0 0) (hx : a.eval x = .slice A L.length c)
    (he : w.heap[g]? = some (.cells #[] 150 (0, 0))) (hv : LnV w A L) (hL : L.length ≤ 1048576)
    (h : ∀ v' w', LnQ w' v' L → w.grownBy w' (some g) → wpList Tryz.prog ops Q rest (a.put o.dst v') w') : wpList Tryz.prog ops Q (o :: rest) a w := by
  obtain ⟨ti, tz, ti1, ti2, ti3, ti4, ti5⟩ := line_info
  cases A with
  | none =>
    obtain rfl := hv.none_nil
    refine wpList_plain hgd fun K hK => ?_
    have hrun := run_apNil g c o.type w
    unfold Oper.wp
    simp [execOp, ho, resolve, invoke, builtin, hs, hx, hrun, Result.andThen]
    exact hK _ _ (h _ _ ⟨some ⟨g, 0, none⟩, 0, rfl, Nat.le_refl _, .inl rfl⟩ (World.grownBy.refl w _))
  | some ad =>
    have hown : w.ownsRow 0 150 2 (.slice (some ⟨g, 0, none⟩) 0 0) 0 [] := ⟨rfl, .inr ⟨g, 0, #[], rfl, Nat.zero_le _, he, Nat.le_refl _, Nat.zero_le _, rfl, rfl⟩⟩
    refine wpList_append_own w hgd s x 30 ho 0 150 ti tz 2 16 Tryz.underlying30 ti1 ti2 ti3 ti4 ti5 (by decide) _ _ _ hs hown ad L.length c (lvals L) hx (lvals_len L) (fun j u hj => ?_) (lvals_one L) (by simp only [maxLen]; omega) (by omega) (Nat.zero_le _) (fun v' w' hown hgr _ => h v' w' ?_ hgr)
    · by_cases hl : 0 < L.length
      · obtain ⟨b, off, e, hb, hp⟩ := hv.cells hl
        obtain rfl := Option.some.inj e
        exact ln_src hb hp (Below.refl _ _) j u hj
      · obtain rfl : L = [] := List.length_eq_zero_iff.1 (by omega)
        simp [lvals] at hj
    · rw [List.nil_append, Nat.zero_add] at hown
      obtain ⟨A', c', e, hr, hc⟩ := afOwn hown (by rw [List.length_map]) (fun vs hv => by obtain ⟨p, _, rfl⟩ := List.mem_map.1 hv; rfl)
      rcases hown.2 with ⟨e2, h0⟩ | ⟨g2, cap, cur, e2, hb, hg, hcc, _, hs2, ht⟩
      · obtain rfl : L = [] := List.length_eq_zero_iff.1 h0
        exact ⟨none, 0, e2, Nat.le_refl _, .inl rfl⟩
      · refine ⟨_, cap, e2, hcc, .inr ⟨g2, cur, rfl, hg, fun i p hi j u hj => ?_⟩⟩
        have e3 := afFlat (k := 2) (R := L.map valsLn) (fun vs hv => by obtain ⟨p, _, rfl⟩ := List.mem_map.1 hv; rfl) (i := i) (j := j) (vs := valsLn p) (u := u) (by rw [List.getElem?_map, hi]; rfl) hj
        have e4 : (lvals L)[i * 2 + j]? = some u := e3
        rw [← ht, List.getElem?_take] at e4
        split at e4
        · simpa using e4
        · cases e4
structure NK (W : World) (p : Nr) : Prop where
  c : AfLn W p.ca p.n.cs
  r : AfLn W p.ra p.n.rs
  cl : p.n.cs.length ≤ p.cc
  rl : p.n.rs.length ≤ p.rc
theorem NK.kp {W W' : World} {p : Nr} (h : NK W p) (hk : AfKp W W') : NK W' p := ⟨h.c.kp hk, h.r.kp hk, h.cl, h.rl⟩
theorem NK.rd {W : World} {p : Nr} (h : NK W p) : RdN W p := ⟨h.c.v, h.cl, h.r.v, h.rl⟩
theorem afBs {ops : Array Oper} {rest : List Oper} {op : Oper} {a : Act} {w : World} {Q : Exit → Act → World → Prop} (x : Operand) (p : Nr) (hgd : op.guard = none) (ho : op.op = .buildSlice 23 1 #[(0, x)]) (hx : a.eval x = .agg (valsNr p).toArray)
    (h : wpList Tryz.prog ops Q rest (a.put op.dst (.slice (some ⟨w.heap.size, 0, none⟩) 1 1)) (w.alloc (.cells (valsNr p).toArray 38))) : wpList Tryz.prog ops Q (op :: rest) a w :=
  wpList_plain hgd fun _ hK => by
    unfold Oper.wp execOp
    simp only [ho]
    rw [show ((#[(0, x)] : Array (Nat × Operand)).map fun (i, x) => (i, a.eval x)) = #[(0, .agg (valsNr p).toArray)] from by simp [hx]]
    simp only [Sem.run_bind, afRunBs, Result.andThen_ok]
    exact hK _ _ h
theorem own_nd {W : World} {lo n b : Nat} {v : Value} {xs : List Value} {cs : Array Value} {T : TypeId} (h : W.ownsRow lo 38 34 v n xs) (hb : W.heap[b]? = some (.cells cs T (0, 0))) (hT : T ≠ 38) : some b ≠ v.ownBlock := by
  rcases h.2 with ⟨rfl, _⟩ | ⟨g, cap, cur, rfl, _, hg, _⟩
  · simp [Value.ownBlock]
  · intro e
    obtain rfl : b = g := by simpa [Value.ownBlock] using e
    rw [hg] at hb
    have := Option.some.inj hb
    simp only [Obj.cells.injEq] at this
    exact hT this.2.1.symm
/-- a tree of these nodes, its lines in blocks of lines -/
def TrK (lo : Nat) (w : World) (v : Value) (L : List Nd) : Prop := ∃ (A : Option Addr) (c : Nat) (S : List Nr), v = .agg #[.slice A S.length c] ∧ (∃ g cap, A = some ⟨g, 0, none⟩ ∧ lo ≤ g ∧ PtN w g cap S) ∧ (∀ q ∈ S, NK w q) ∧ S.map Nr.n = L
theorem TrK.keep {lo : Nat} {w w' : World} {v : Value} {L : List Nd} (h : TrK lo w v L) (hb : Below w.heap.size w w') : TrK lo w' v L := let ⟨A, c, S, e, ⟨g, cap, e2, h1, h2⟩, h3, h4⟩ := h; ⟨A, c, S, e, ⟨g, cap, e2, h1, h2.keep hb⟩, fun q hq => (h3 q hq).kp (AfKp.below hb), h4⟩
theorem TrK.mono {lo lo' : Nat} {w : World} {v : Value} {L : List Nd} (h : TrK lo w v L) (hl : lo' ≤ lo) : TrK lo' w v L := let ⟨A, c, S, e, ⟨g, cap, e2, h1, h2⟩, h3, h4⟩ := h; ⟨A, c, S, e, ⟨g, cap, e2, by omega, h2⟩, h3, h4⟩
theorem TrK.tree {lo b : Nat} {w : World} {v x : Value} {L : List Nd} {cs : Array Value} (h : TrK lo w v L) (hb : w.heap[b]? = some (.cells cs 25 (0, 0))) (hl : b < lo) : TrK lo (w.setCell ⟨b, 0, none⟩ x) v L := by
  obtain ⟨A, c, S, e, ⟨g, cap, e2, h1, h2⟩, h3, h4⟩ := h
  refine ⟨A, c, S, e, ⟨g, cap, e2, h1, ?_⟩, fun q hq => (h3 q hq).kp (afKpTree hb x), h4⟩
  obtain ⟨cs', hh, r⟩ := h2
  exact ⟨cs', (Below.heap_setCell _ ⟨b, 0, none⟩ _ _ (by simp; omega)).trans hh, r⟩
theorem TrK.open {lo : Nat} {w : World} {v : Value} {L : List Nd} (h : TrK lo w v L) : ∃ (A : Option Addr) (c : Nat) (S : List Nr), v = .agg #[.slice A S.length c] ∧ NrV w A S ∧ RdR w S ∧ S.map Nr.n = L := by
  obtain ⟨A, c, S, e, ⟨g, cap, e2, h1, h2⟩, h3, h4⟩ := h
  subst e2
  exact ⟨_, c, S, e, h2.v, fun q hq => (h3 q hq).rd, h4⟩
/-- what stands in a round -/
structure RzS (w : World) (A : Option Addr) (c k : Nat) (R : List Nr) (m : Nat) (S : List Nr) (vo : Value) (W : World) : Prop where
  t : W.heap[w.heap.size]? = some (.cells #[.slice A k c] 25 (0, 0))
  r : W.heap[w.heap.size + 1]? = some (.cells #[.slice none 0 0] 25 (0, 0))
  o : W.heap[w.heap.size + 1 + 1 + 1]? = some (.cells #[vo] 25 (0, 0))
  own : W.ownsRow (w.heap.size + 2) 38 34 vo m (afVals S)
  nk : ∀ q ∈ S, NK W q
  l : Below w.heap.size w W
theorem RzS.keep {w W W' : World} {A : Option Addr} {c k m : Nat} {R S : List Nr} {vo : Value} (h : RzS w A c k R m S vo W) (hb : Below W.heap.size W W') : RzS w A c k R m S vo W' :=
  ⟨(hb.block _ (ltS h.t)).trans h.t, (hb.block _ (ltS h.r)).trans h.r, (hb.block _ (ltS h.o)).trans h.o, h.own.kept (row := none) ⟨hb.os, hb.tape, hb.output, hb.size, fun k hk _ => hb.block k hk⟩ (by cases vo.ownBlock <;> simp), fun q hq => (h.nk q hq).kp (AfKp.below hb), bkeep2 h.l hb⟩
theorem RzS.add {w W w5 : World} {A : Option Addr} {c k m : Nat} {R S : List Nr} {vo v' : Value} {q : Nr} {ob : Obj} (h : RzS w A c k R m S vo W) (hq : NK W q) (hg : (W.alloc ob).grownBy w5 vo.ownBlock) (ho : w5.ownsRow (w.heap.size + 2) 38 34 v' (m + 1) (afVals S ++ valsNr q)) :
    RzS w A c k R (m + 1) (S ++ [q]) v' (w5.setCell ⟨w.heap.size + 1 + 1 + 1, 0, none⟩ v') ∧ w5.heap[w.heap.size + 1 + 1 + 1]? = some (.cells #[vo] 25 (0, 0)) := by
  have blk : ∀ (b : Nat) (cs : Array Value) (T : TypeId), W.heap[b]? = some (.cells cs T (0, 0)) → T ≠ 38 → w5.heap[b]? = W.heap[b]? := fun b cs T hb hT =>
    (hg.block b (by simp; have := ltS hb; omega) (own_nd h.own hb hT)).trans (Below.heap_alloc _ _ _ (ltS hb))
  have hkp : AfKp W w5 := fun g cs hgc => blk g cs _ hgc (by decide)
  have e5 := (blk _ _ _ h.o (by decide)).trans h.o
  have hkp2 := afKpTree e5 v'
  refine ⟨⟨?_, ?_, putS e5 _, ?_, fun r hr => ?_, ?_⟩, e5⟩
  · exact (Below.heap_setCell _ ⟨w.heap.size + 1 + 1 + 1, 0, none⟩ _ _ (by simp; omega)).trans ((blk _ _ _ h.t (by decide)).trans h.t)
  · exact (Below.heap_setCell _ ⟨w.heap.size + 1 + 1 + 1, 0, none⟩ _ _ (by simp)).trans ((blk _ _ _ h.r (by decide)).trans h.r)
  · rw [afVals_snoc] at ho
    exact afOwnTree ho e5 v'
  · refine NK.kp (NK.kp ?_ hkp) hkp2
    rcases List.mem_append.1 hr with hr | hr
    · exact h.nk r hr
    · rw [List.mem_singleton.1 hr]; exact hq
  · have hlt := h.own.lt
    refine Below.setCell (p := ⟨w.heap.size + 1 + 1 + 1, 0, none⟩) ?_ (by simp; omega) _
    exact below_own (W := W) h.l hg (lo := w.heap.size + 2) (hi := W.heap.size) (fun b hb => hlt b hb) (by omega) (Nat.le_refl _)
theorem afFour (w : World) (o1 o2 o3 o4 : Obj) : ∃ W, (((w.alloc o1).alloc o2).alloc o3).alloc o4 = W ∧ W.heap[w.heap.size]? = some o1 ∧ W.heap[w.heap.size + 1]? = some o2 ∧ W.heap[w.heap.size + 1 + 1]? = some o3 ∧ W.heap[w.heap.size + 1 + 1 + 1]? = some o4 ∧ W.heap.size = w.heap.size + 4 ∧ Below w.heap.size w W := by
  have n1 := World.alloc_heap_new w o1
  have n2 := World.alloc_heap_new (w.alloc o1) o2
  have n3 := World.alloc_heap_new ((w.alloc o1).alloc o2) o3
  have n4 := World.alloc_heap_new (((w.alloc o1).alloc o2).alloc o3) o4
  simp only [World.size_alloc] at n1 n2 n3 n4
  refine ⟨_, rfl, ?_, ?_, ?_, n4, by simp, ?_⟩
  · exact (Below.heap_alloc _ _ _ (by simp; omega)).trans ((Below.heap_alloc _ _ _ (by simp; omega)).trans ((Below.heap_alloc _ _ _ (by simp)).trans n1))
  · exact (Below.heap_alloc _ _ _ (by simp)).trans ((Below.heap_alloc _ _ _ (by simp)).trans n2)
  · exact (Below.heap_alloc _ _ _ (by simp)).trans n3
  · exact ((((Below.refl _ w).alloc (Nat.le_refl _) _).alloc (by simp) _).alloc (by simp; omega) _).alloc (by simp; omega) _
theorem rzStart (w : World) (A : Option Addr) (c k : Nat) (R : List Nr) : RzS w A c k R 0 [] (.slice (some ⟨w.heap.size + 1 + 1, 0, none⟩) 0 0) ((((w.alloc (.cells #[.slice A k c] 25)).alloc (.cells #[.slice none 0 0] 25)).alloc (.cells #[] 38)).alloc (.cells #[.slice (some ⟨w.heap.size + 1 + 1, 0, none⟩) 0 0] 25)) := by
  obtain ⟨W, e, n1, n2, n3, n4, hz, hb⟩ := afFour w (.cells #[.slice A k c] 25) (.cells #[.slice none 0 0] 25) (.cells #[] 38) (.cells #[.slice (some ⟨w.heap.size + 1 + 1, 0, none⟩) 0 0] 25)
  rw [e]
  exact ⟨n1, n2, n4, ⟨rfl, .inr ⟨w.heap.size + 1 + 1, 0, #[], rfl, by omega, n3, Nat.le_refl _, Nat.zero_le _, rfl, rfl⟩⟩, fun q hq => by simp at hq, hb⟩
theorem mapSnoc {R S : List Nr} {k : Nat} {p q : Nr} (h : S.map Nr.n = (R.take k).map Nr.n) (hp : R[k]? = some p) (hq : q.n = p.n) : (S ++ [q]).map Nr.n = (R.take (k + 1)).map Nr.n := map_snocN h hp hq
set_option maxRecDepth 100000 in
theorem resized_v (A : Option Addr) (c k : Nat) (R : List Nr) (j : Nat) (u v : Int) (w : World) (hk : k = R.length) (h : NrV w A R) (hr : RdR w R) (hL : R.length ≤ 1048576) (hm : ∀ p ∈ R, p.n.cs.length ≤ 1048576 ∧ p.n.rs.length ≤ 1048576) (hj : j < R.length) :
    Calls Tryz.prog 33 #[.agg #[.slice A k c], .int .i64 j, .int .i64 u, .int .i64 v] w fun e w' => (∃ x, e = .returned x ∧ TrK w.heap.size w' x (askM (R.map Nr.n) j u v)) ∧ Below w.heap.size w w' := by
  obtain ⟨ti, tz, ti1, ti2, ti3, ti4, ti5⟩ := afNrInfo
  have HV := Lib.hid h
  have HR := Lib.hid hr
  have HM := Lib.hid hm
  have HK := Lib.hid hk
  have hkl : k ≤ 1048576 := by omega
  clear h hr hm hk
  go_enter Tryz.func33, Tryz.ntmps33
  go_upto_region 2 with fail
  refine wp_genGG (fun W => RzS w A c k R 0 [] (.slice (some ⟨w.heap.size + 1 + 1, 0, none⟩) 0 0) W) (rzStart w A c k R) (fun W0 h0 => ?_)
  have HS0 := Lib.hid h0
  have x0 := cellS h0.t 0
  have lx := ltS h0.t
  clear h0
  go_wp2_with fail
  clear x0 lx
  go_loopw [10] (fun i wr => ∃ (m : Nat) (S : List Nr) (vo : Value), m ≤ k ∧ i = .int .i64 (m : Int) ∧ S.length = m ∧ S.map Nr.n = (R.take m).map Nr.n ∧ RzS w A c k R m S vo wr) (fun i _ => k - (intOf i).toNat)
  case atStart => exact ⟨0, [], _, by omega, rfl, rfl, rfl, HS0.out⟩
  case round =>
    obtain ⟨m, S, vo, hmk, rfl, hSl, hS, hst⟩ := hrel
    have HST := Lib.hid hst
    have HS := Lib.hid hS
    have HSL := Lib.hid hSl
    have x0 := cellS hst.t 0
    have lx := ltS hst.t
    clear hst hS hSl HS0
    by_cases hlt : m < k
    · have hd : decide ((m : Int) < (k : Int)) = true := by simpa using hlt
      have hkn : (m : Int) < (k : Int) := by omega
      have hkr : m < R.length := by have := HK.out; omega
      have hget : R[m]? = some R[m] := List.getElem?_eq_getElem hkr
      obtain ⟨b, off, rfl, hb, hp⟩ := HV.out.cells (by omega)
      have hLR := rangeB (hp m _ hget) (HST.out.l.block b hb)
      have hrd := (HR.out _ (List.mem_of_getElem? hget)).keep HST.out.l
      have hmm := HM.out _ (List.mem_of_getElem? hget)
      generalize R[m] = p at *
      obtain ⟨m1, m2⟩ := hmm
      have HLR := Lib.hid hLR
      have HD := Lib.hid hrd
      have HG := Lib.hid hget
      clear hLR hrd hget hp
      go_upto_region 6 with (first | (refine ldN _ p b (off + m * 34) rfl rfl rfl HLR.out ?_) | (refine stN (.tmp 11) (.tmp 25) p wr.heap.size 0 rfl rfl rfl rfl (newS _ _) (by show (0 + 34 : Nat) ≤ 34; omega) ?_))
      refine wp_genGG (fun W => W.heap[wr.heap.size]? = some (.cells (valsNr p).toArray 38 (0, 0)) ∧ Below wr.heap.size wr W) ⟨new_full p rfl rfl, below_setCells (Nat.le_refl _) _ _ _ (balloc (Below.refl _ _))⟩ (fun W hw => ?_)
      obtain ⟨hn, hb1⟩ := hw
      have HN := Lib.hid hn
      have HB1 := Lib.hid hb1
      have HD1 := Lib.hid (HD.out.keep hb1)
      have x5 : W.cell? ⟨wr.heap.size, 5, none⟩ = some (.slice p.ca p.n.cs.length p.cc) := cellS hn 5
      have ln := ltS hn
      clear hn hb1 x0 lx HLR hd
      go_upto_region 7 with (refine apLn (.tmp 26) (.tmp 28) p.n.cs p.ca p.cc W.heap.size rfl rfl rfl rfl (newS _ _) (HD1.out.c.keep (balloc (Below.refl _ _))) m1 ?_; rintro _ w1 ⟨a1, ac1, rfl, hac1, hla1⟩ hg1; have hN1 := (hg1.block wr.heap.size (by simp; omega) (by simp; omega)).trans ((Below.heap_alloc _ _ wr.heap.size ln).trans HN.out); have f5 := frozenS hN1 5; obtain ⟨y5, z5⟩ := thereS hN1 (i := 5) (by show 5 < 34; omega))
      refine wp_genGG (fun W' => W'.heap[wr.heap.size]? = some (.cells (valsNr ⟨p.n, a1, ac1, p.ra, p.rc⟩).toArray 38 (0, 0)) ∧ AfLn W' a1 p.n.cs ∧ Below wr.heap.size wr W') (let ⟨q1, q2, q3⟩ := afStep (q := ⟨p.n, a1, ac1, p.ra, p.rc⟩) HB1.out rfl hN1 hg1 rfl; ⟨q1, hla1.kp q2, q3⟩) (fun W6 hw => ?_)
      obtain ⟨hn, hla, hb6⟩ := hw
      have HN6 := Lib.hid hn
      have HB6 := Lib.hid hb6
      have HLA := Lib.hid hla
      have HD6 := Lib.hid (HD.out.keep hb6)
      have x6 : W6.cell? ⟨wr.heap.size, 6, none⟩ = some (.slice p.ra p.n.rs.length p.rc) := cellS hn 6
      have ln6 := ltS hn
      clear hn hb6 hla x5 ln hN1 f5 y5 z5 hg1 hla1 HN HB1 HD1
      go_upto_region 8 with (refine apLn (.tmp 31) (.tmp 33) p.n.rs p.ra p.rc W6.heap.size rfl rfl rfl rfl (newS _ _) (HD6.out.r.keep (balloc (Below.refl _ _))) m2 ?_; rintro _ w2 ⟨a2, ac2, rfl, hac2, hla2⟩ hg2; have hN2 := (hg2.block wr.heap.size (by simp; omega) (by simp; omega)).trans ((Below.heap_alloc _ _ wr.heap.size ln6).trans HN6.out); have f6 := frozenS hN2 6; obtain ⟨y6, z6⟩ := thereS hN2 (i := 6) (by show 6 < 34; omega))
      refine wp_genGG (fun W' => W'.heap[wr.heap.size]? = some (.cells (valsNr (reN p a1 ac1 a2 ac2)).toArray 38 (0, 0)) ∧ NK W' (reN p a1 ac1 a2 ac2) ∧ Below wr.heap.size wr W') (let ⟨q1, q2, q3⟩ := afStep (q := reN p a1 ac1 a2 ac2) HB6.out rfl hN2 hg2 rfl; ⟨q1, ⟨(HLA.out.kp (afKp2 hg2)).kp q2, hla2.kp q2, hac1, hac2⟩, q3⟩) (fun W7 hw => ?_)
      obtain ⟨hn, hnk, hb7⟩ := hw
      have HN7 := Lib.hid hn
      have HNK := Lib.hid hnk
      have HST7 := Lib.hid (HST.out.keep hb7)
      have y0 := cellS HST7.out.o 0
      have lo := ltS HST7.out.o
      have hown := HST7.out.own
      have hlt7 := hown.lt
      obtain ⟨A7, c7, rfl⟩ : ∃ A7 c7, vo = .slice A7 m c7 := by
        rcases hown.2 with ⟨rfl, h0⟩ | ⟨g, cap, cur, rfl, _⟩
        · exact ⟨none, 0, by rw [h0]⟩
        · exact ⟨_, _, rfl⟩
      have hsz7 : w.heap.size + 2 ≤ W7.heap.size := by omega
      have HOW := Lib.hid hown
      clear hn hnk hb7 x6 ln6 hN2 f6 y6 z6 hg2 hla2 HN6 HB6 HD6 HLA hown
      go_wp2_with (first | (refine ldN _ (reN p a1 ac1 a2 ac2) wr.heap.size 0 rfl rfl rfl (nodeAt HN7.out) ?_) | (refine afBs (.tmp 38) (reN p a1 ac1 a2 ac2) rfl rfl rfl ?_) | (at_builtin; refine wpList_append_own _ rfl _ _ 23 rfl (w.heap.size + 2) 38 ti tz 34 288 Tryz.underlying23 ti1 ti2 ti3 ti4 ti5 (by decide) (.slice A7 m c7) _ _ rfl (HOW.out.alloc _) ⟨W7.heap.size, 0, none⟩ 1 1 (valsNr (reN p a1 ac1 a2 ac2)) rfl rfl (afNew34 _ _ _) (valsNr_one _) (by simp only [maxLen]; omega) (by omega) (by simp; omega) ?_))
      intro v5 w5 how5 hgr5 _
      obtain ⟨A5, c5, rfl⟩ : ∃ A5 c5, v5 = .slice A5 (m + 1) c5 := by
        rcases how5.2 with ⟨rfl, h0⟩ | ⟨g, cap, cur, rfl, _⟩
        · omega
        · exact ⟨_, _, rfl⟩
      obtain ⟨hadd, e5⟩ := HST7.out.add HNK.out hgr5 how5
      have HADD := Lib.hid hadd
      have z0 := cellS e5 0
      have fz := frozenS e5 0
      have lz := ltS e5
      have HMS := Lib.hid (mapSnoc (q := reN p a1 ac1 a2 ac2) HS.out HG.out rfl)
      clear hadd e5 how5 hgr5 hlt7 y0 lo HOW HNK HST7 HN7
      go_wp2
      go_roundw
      case rel => exact ⟨m + 1, S ++ [reN p a1 ac1 a2 ac2], _, by omega, by go_num, by rw [List.length_append, HSL.out]; rfl, HMS.out, HADD.out⟩
      case measure => simp [intOf]; omega
    · have hd : decide ((m : Int) < (k : Int)) = false := decide_eq_false (by omega)
      obtain rfl : m = k := by omega
      rcases afOwnNr HST.out.own HSL.out.symm with ⟨rfl, rfl⟩ | ⟨g, cap, cs, rfl, hg, hcap, hcs, hcz, hcc⟩
      · exfalso
        have h1 := HSL.out
        have h2 := HK.out
        simp at h1
        omega
      have hP : PtN wr g cap S := ⟨cs, hcs, hcz, hcc⟩
      have hjk : j < m := by have := HK.out; omega
      have hjs : j < S.length := by have := HSL.out; omega
      have hq : S[j]? = some S[j] := List.getElem?_eq_getElem hjs
      generalize S[j] = q at *
      have hjm : (j : Int) < (m : Int) := by omega
      obtain ⟨⟨c1, y1⟩, f1⟩ := hP.there (j := j) (o := 1) (by omega) (by omega)
      obtain ⟨⟨c2, y2⟩, f2⟩ := hP.there (j := j) (o := 2) (by omega) (by omega)
      have z0 := cellS HST.out.o 0
      have lg := ltS hcs
      have lz := ltS HST.out.o
      have hgo : ¬ g = w.heap.size + 1 + 1 + 1 := fun e => by
        subst e
        have := HST.out.o
        rw [hcs] at this
        have := Option.some.inj this
        simp only [Obj.cells.injEq] at this
        exact absurd this.2.1 (by decide)
      have hgo2 : ¬ w.heap.size + 1 + 1 + 1 = g := fun e => hgo e.symm
      have HP := Lib.hid hP
      have HQ := Lib.hid hq
      have HCS := Lib.hid hcs
      have hcap1 : m ≤ cap := hcap
      clear hP hq hcs hcz hcc
      go_upto_region 11 with fail
      have hkp : AfKp wr ((wr.setCell ⟨g, j * 34 + 1, none⟩ (.int .i64 u)).setCell ⟨g, j * 34 + 2, none⟩ (.int .i64 v)) := (afKpNode HCS.out _ _).trans (afKpNode (putS HCS.out _) _ _)
      refine wp_genGG (fun W => PtN W g cap (S.set j (wishR q u v)) ∧ (∀ r ∈ S, NK W r) ∧ W.heap[w.heap.size + 1]? = some (.cells #[.slice none 0 0] 25 (0, 0)) ∧ W.heap[w.heap.size + 1 + 1 + 1]? = some (.cells #[.slice (some ⟨g, 0, none⟩) m cap] 25 (0, 0)) ∧ Below w.heap.size w W) ⟨HP.out.wish HQ.out (by omega) u v, fun r hr => (HST.out.nk r hr).kp hkp, (Below.heap_setCell _ ⟨g, _, none⟩ _ _ (by simp; omega)).trans ((Below.heap_setCell _ ⟨g, _, none⟩ _ _ (by simp; omega)).trans HST.out.r), (Below.heap_setCell _ ⟨g, _, none⟩ _ _ (by simp; omega)).trans ((Below.heap_setCell _ ⟨g, _, none⟩ _ _ (by simp; omega)).trans HST.out.o), (HST.out.l.setCell (p := ⟨g, _, none⟩) (by simp; omega) _).setCell (p := ⟨g, _, none⟩) (by simp; omega) _⟩ (fun W2 h2 => ?_)
      obtain ⟨hP, hN, hR2, hO2, hB2⟩ := h2
      have u0 := cellS hO2 0
      have r0 := cellS hR2 0
      have fr := frozenS hR2 0
      have lr := ltS hR2
      have lo2 := ltS hO2
      have HP2 := Lib.hid hP
      have HN2 := Lib.hid hN
      have HR2 := Lib.hid hR2
      have HB2 := Lib.hid hB2
      clear hP hN hR2 hO2 hB2 y1 y2 f1 f2 z0 hkp HP HCS HST x0 lx
      go_wp2
      have hkt := afKpTree HR2.out (.slice (some ⟨g, 0, none⟩) m cap)
      have hPf : PtN (W2.setCell ⟨w.heap.size + 1, 0, none⟩ (.slice (some ⟨g, 0, none⟩) m cap)) g cap (S.set j (wishR q u v)) := by
        obtain ⟨cs, hh, r⟩ := HP2.out
        exact ⟨cs, (Below.heap_setCell _ ⟨w.heap.size + 1, 0, none⟩ _ _ (by simp; omega)).trans hh, r⟩
      refine bodyPost_ret (v := .agg #[.slice (some ⟨g, 0, none⟩) m cap]) (by simp only [results, Tryz.results33]; go_simp) rfl ⟨⟨_, rfl, some ⟨g, 0, none⟩, cap, S.set j (wishR q u v), by rw [List.length_set, HSL.out], ⟨g, cap, rfl, by omega, hPf⟩, fun r hr => ?_, map_wish ?_ HQ.out u v⟩, HB2.out.setCell (p := ⟨w.heap.size + 1, _, none⟩) (by simp) _⟩
      · rcases List.mem_or_eq_of_mem_set hr with hr | rfl
        · exact (HN2.out r hr).kp hkt
        · have := (HN2.out q (List.mem_of_getElem? HQ.out)).kp hkt
          exact ⟨this.c, this.r, this.cl, this.rl⟩
      · rw [HS.out, HK.out, List.take_length]
end Go.Proofs.YtgdkionmeacalabGreat
end
section
namespace Go.Proofs.YtgdkionmeacalabGreat
open Go Go.RowKit
set_option linter.unusedVariables false
set_option linter.unusedSimpArgs false
set_option maxHeartbeats 4000000
set_option maxRecDepth 100000 in
theorem AskFor_no (A : Option Addr) (c k : Nat) (R : List Nr) (i u v : Int) (w : World) (hk : k = R.length) (h : NrV w A R) (hr : RdR w R) (hL : R.length ≤ 1048576) (hm : ∀ p ∈ R, p.n.cs.length ≤ 1048576 ∧ p.n.rs.length ≤ 1048576) (hb : askB (R.map Nr.n) k i u v = false) :
    Calls Tryz.prog 29 #[.agg #[.slice A k c], .int .i64 i, .int .i64 u, .int .i64 v] w fun e w' => e = .returned (.tuple #[.agg #[.slice none 0 0], .bool false]) ∧ Below w.heap.size w w' := by
  have hkl : k ≤ 1048576 := by omega
  have hB0 : Below w.heap.size w ((w.alloc (.cells #[.slice A k c] 25 (0, 0))).alloc (.cells #[.slice none 0 0] 25 (0, 0))) := (balloc (Below.refl _ _)).trans ((balloc (Below.refl _ _)).mono (by simp))
  have HX := Lib.hid (show ((w.alloc (.cells #[.slice A k c] 25 (0, 0))).alloc (.cells #[.slice none 0 0] 25 (0, 0))).heap[w.heap.size]? = some (.cells #[.slice A k c] 25 (0, 0)) from (Below.heap_alloc _ _ _ (by simp)).trans (newS _ _))
  have HY := Lib.hid (show ((w.alloc (.cells #[.slice A k c] 25 (0, 0))).alloc (.cells #[.slice none 0 0] 25 (0, 0))).heap[w.heap.size + 1]? = some (.cells #[.slice none 0 0] 25 (0, 0)) from by have := newS (w.alloc (.cells #[.slice A k c] 25 (0, 0))) (.cells #[.slice none 0 0] 25 (0, 0)); rw [World.size_alloc] at this; exact this)
  have HB := Lib.hid hB0
  have HV := Lib.hid (h.keep hB0)
  have HR := Lib.hid (hr.keep hB0)
  have HM := Lib.hid hm
  have HK := Lib.hid hk
  have x0 := cellS HX.out 0
  clear hB0 h hr hm hk
  cases ht : treeB (R.map Nr.n)
  · have HT := Lib.hid ht
    clear hb ht
    go_enter Tryz.func29, Tryz.ntmps29
    go_wp2_with fail
    with_reducible refine (ValidTree_n A c k R false _ HK.out HV.out HR.out hL HM.out HT.out).mono ?_
    rintro e w1 ⟨rfl, hb⟩
    replace HY := Lib.hid ((hb.block _ (Array.getElem?_eq_some_iff.1 HY.out).1).trans HY.out)
    replace HB := Lib.hid (bkeep2 HB.out hb)
    clear hb
    clear x0
    have y0 := cellS HY.out 0
    have fy := frozenS HY.out 0
    have ly := ltS HY.out
    go_wp2
    exact bodyPost_ret (v := .tuple #[.agg #[.slice none 0 0], .bool false]) (by simp only [results, Tryz.results29]; go_simp) rfl ⟨rfl, HB.out.setCell (p := ⟨w.heap.size + 1, _, none⟩) (by simp) _⟩

  · cases h2 : rng i 0 ((k : Int) - 1)
    · have HT := Lib.hid ht
      have HBB := Lib.hid h2
      clear hb ht h2
      go_enter Tryz.func29, Tryz.ntmps29
      go_wp2_with fail
      with_reducible refine (ValidTree_n A c k R true _ HK.out HV.out HR.out hL HM.out HT.out).mono ?_
      rintro e w1 ⟨rfl, hb⟩
      clear x0
      replace HX := Lib.hid ((hb.block _ (Array.getElem?_eq_some_iff.1 HX.out).1).trans HX.out)
      replace HY := Lib.hid ((hb.block _ (Array.getElem?_eq_some_iff.1 HY.out).1).trans HY.out)
      replace HB := Lib.hid (bkeep2 HB.out hb)
      clear hb
      have x0 := cellS HX.out 0
      go_wp2_with fail
      with_reducible refine (has_v A c k i false _ hkl HBB.out).mono ?_
      rintro e w2 ⟨rfl, hb⟩
      replace HY := Lib.hid ((hb.block _ (Array.getElem?_eq_some_iff.1 HY.out).1).trans HY.out)
      replace HB := Lib.hid (bkeep2 HB.out hb)
      clear hb
      clear x0
      have y0 := cellS HY.out 0
      have fy := frozenS HY.out 0
      have ly := ltS HY.out
      go_wp2
      exact bodyPost_ret (v := .tuple #[.agg #[.slice none 0 0], .bool false]) (by simp only [results, Tryz.results29]; go_simp) rfl ⟨rfl, HB.out.setCell (p := ⟨w.heap.size + 1, _, none⟩) (by simp) _⟩

    · have h3 : (rng u 0 30 && rng v 0 30) = false := by unfold askB at hb; rw [ht, h2] at hb; simpa using hb
      have HT := Lib.hid ht
      have HBB := Lib.hid h2
      have HW := Lib.hid h3
      clear hb ht h2 h3
      go_enter Tryz.func29, Tryz.ntmps29
      go_wp2_with fail
      with_reducible refine (ValidTree_n A c k R true _ HK.out HV.out HR.out hL HM.out HT.out).mono ?_
      rintro e w1 ⟨rfl, hb⟩
      clear x0
      replace HX := Lib.hid ((hb.block _ (Array.getElem?_eq_some_iff.1 HX.out).1).trans HX.out)
      replace HY := Lib.hid ((hb.block _ (Array.getElem?_eq_some_iff.1 HY.out).1).trans HY.out)
      replace HB := Lib.hid (bkeep2 HB.out hb)
      clear hb
      have x0 := cellS HX.out 0
      go_wp2_with fail
      with_reducible refine (has_v A c k i true _ hkl HBB.out).mono ?_
      rintro e w2 ⟨rfl, hb⟩
      clear x0
      replace HX := Lib.hid ((hb.block _ (Array.getElem?_eq_some_iff.1 HX.out).1).trans HX.out)
      replace HY := Lib.hid ((hb.block _ (Array.getElem?_eq_some_iff.1 HY.out).1).trans HY.out)
      replace HB := Lib.hid (bkeep2 HB.out hb)
      clear hb
      have x0 := cellS HX.out 0
      go_wp2_with fail
      with_reducible refine (validWish_w u v false _ HW.out).mono ?_
      rintro e w3 ⟨rfl, rfl⟩
      clear x0
      have y0 := cellS HY.out 0
      have fy := frozenS HY.out 0
      have ly := ltS HY.out
      go_wp2
      exact bodyPost_ret (v := .tuple #[.agg #[.slice none 0 0], .bool false]) (by simp only [results, Tryz.results29]; go_simp) rfl ⟨rfl, HB.out.setCell (p := ⟨w.heap.size + 1, _, none⟩) (by simp) _⟩

set_option maxRecDepth 100000 in
theorem goodWish_v (A : Option Addr) (c k : Nat) (R : List Nr) (i u v : Int) (b : Bool) (w : World) (hk : k = R.length) (h : NrV w A R) (hr : RdR w R) (hL : R.length ≤ 1048576) (hm : ∀ p ∈ R, p.n.cs.length ≤ 1048576 ∧ p.n.rs.length ≤ 1048576) (hb : askB (R.map Nr.n) k i u v = b) :
    Calls Tryz.prog 31 #[.agg #[.slice A k c], .int .i64 i, .int .i64 u, .int .i64 v] w fun e w' => e = .returned (.bool b) ∧ Below w.heap.size w w' := by
  have hkl : k ≤ 1048576 := by omega
  have hB0 : Below w.heap.size w (w.alloc (.cells #[.slice A k c] 25 (0, 0))) := balloc (Below.refl _ _)
  have HX := Lib.hid (newS w (.cells #[.slice A k c] 25 (0, 0)))
  have HB := Lib.hid hB0
  have HV := Lib.hid (h.keep hB0)
  have HR := Lib.hid (hr.keep hB0)
  have HM := Lib.hid hm
  have HK := Lib.hid hk
  have x0 := cellS HX.out 0
  clear hB0 h hr hm hk
  cases h1 : (treeB (R.map Nr.n) && rng i 0 ((k : Int) - 1))
  · obtain rfl : false = b := by rw [← hb]; unfold askB; rw [h1]; rfl
    have H1 := Lib.hid h1
    clear hb h1
    go_enter Tryz.func31, Tryz.ntmps31
    go_wp2_with fail
    with_reducible refine (goodNode_v A c k R i false _ HK.out HV.out HR.out hL HM.out H1.out).mono ?_
    rintro e w1 ⟨rfl, hb⟩
    clear x0
    replace HB := Lib.hid (bkeep2 HB.out hb)
    clear hb
    go_wp2
    go_ret
    exact ⟨rfl, HB.out⟩
  · have H1 := Lib.hid h1
    cases h2 : rng u 0 30
    · obtain rfl : false = b := by rw [← hb]; unfold askB; rw [h1, h2]; rfl
      have H2 := Lib.hid h2
      clear hb h1 h2
      go_enter Tryz.func31, Tryz.ntmps31
      go_wp2_with fail
      with_reducible refine (goodNode_v A c k R i true _ HK.out HV.out HR.out hL HM.out H1.out).mono ?_
      rintro e w1 ⟨rfl, hb⟩
      clear x0
      replace HB := Lib.hid (bkeep2 HB.out hb)
      clear hb
      go_wp2_with fail
      with_reducible refine (inRange_u u 0 30 false _ H2.out).mono ?_
      rintro e w2 ⟨rfl, rfl⟩
      go_wp2
      go_ret
      exact ⟨rfl, HB.out⟩
    · have h3 : rng v 0 30 = b := by rw [← hb]; unfold askB; rw [h1, h2]; rfl
      have H2 := Lib.hid h2
      have H3 := Lib.hid h3
      clear hb h1 h2 h3
      go_enter Tryz.func31, Tryz.ntmps31
      go_wp2_with fail
      with_reducible refine (goodNode_v A c k R i true _ HK.out HV.out HR.out hL HM.out H1.out).mono ?_
      rintro e w1 ⟨rfl, hb⟩
      clear x0
      replace HB := Lib.hid (bkeep2 HB.out hb)
      clear hb
      go_wp2_with fail
      with_reducible refine (inRange_u u 0 30 true _ H2.out).mono ?_
      rintro e w2 ⟨rfl, rfl⟩
      go_wp2_with fail
      with_reducible refine (inRange_u v 0 30 b _ H3.out).mono ?_
      rintro e w3 ⟨rfl, rfl⟩
      go_wp2
      go_ret
      exact ⟨rfl, HB.out⟩
end Go.Proofs.YtgdkionmeacalabGreat
end
section
namespace Go.Proofs.YtgdkionmeacalabGreat
open Go.RowKit
set_option linter.unusedVariables false
end Go.Proofs.YtgdkionmeacalabGreat
end
