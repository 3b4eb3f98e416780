import Derived.Test.YtgdkionmeacalabGreatQ05
import Derived.Deep.Cut
section
namespace Go.Proofs.YtgdkionmeacalabGreat
open Go.RowKit
set_option linter.unusedVariables false
set_option linter.unusedSimpArgs false
set_option maxHeartbeats 2000000
/-! Trees that are drawn: what lies where. -/
def nrvals : List Nr → List Value
  | [] => []
  | p :: t => valsNr p ++ nrvals t
theorem nrvals_append (A B : List Nr) : nrvals (A ++ B) = nrvals A ++ nrvals B := by
  induction A with
  | nil => rfl
  | cons p A ih => simp only [List.cons_append, nrvals, ih, List.append_assoc]
theorem nrvals_snoc (L : List Nr) (p : Nr) : nrvals L ++ valsNr p = nrvals (L ++ [p]) := by rw [nrvals_append]; simp [nrvals]
theorem nrvals_get : ∀ {M : List Nr} {i : Nat} {r : Nr}, M[i]? = some r → ∀ j, j < 34 → (nrvals M)[i * 34 + j]? = (valsNr r)[j]?
  | [], i, r, h, _, _ => by simp at h
  | q :: t, 0, r, h, j, hj => by
    simp at h; subst h
    show (valsNr q ++ nrvals t)[0 * 34 + j]? = _
    rw [List.getElem?_append_left (by rw [valsNr_len]; omega)]; simp
  | q :: t, i + 1, r, h, j, hj => by
    show (valsNr q ++ nrvals t)[(i + 1) * 34 + j]? = _
    rw [List.getElem?_append_right (by rw [valsNr_len]; omega)]
    have := nrvals_get (M := t) (i := i) (r := r) (by simpa using h) j hj
    rw [← this]; congr 1; rw [valsNr_len]; omega
theorem nr_info : ∃ (i : TypeInfo) (z : Value), Tryz.prog.info? 38 = some i ∧ i.zero = some z ∧ i.size = 34 ∧ i.bytes = 288 ∧ z.cells.size = 34 := by
  have h : (Tryz.prog.info? 38).map (fun i => (i.size, i.bytes, i.zero.map (fun z => z.cells.size))) = some (34, 288, some 34) := by kernel_rfl
  cases hq : Tryz.prog.info? 38 with
  | none => rw [hq] at h; cases h
  | some i =>
    rw [hq] at h
    simp only [Option.map_some, Option.some.injEq, Prod.mk.injEq] at h
    obtain ⟨e1, e2, e3⟩ := h
    cases hz : i.zero with
    | none => rw [hz] at e3; cases e3
    | some z => rw [hz] at e3; simp only [Option.map_some, Option.some.injEq] at e3; exact ⟨i, z, rfl, hz, e1, e2, e3⟩
theorem new34 (W : World) (p : Nr) (T : TypeId) : ∀ (j : Nat) (u : Value), (valsNr p)[j]? = some u → (W.alloc (.cells (valsNr p).toArray T)).cell? ((⟨W.heap.size, 0, none⟩ : Addr).add j) = some u := fun j u h => by
  have hadd : (⟨W.heap.size, 0, none⟩ : Addr).add j = ⟨W.heap.size, j, none⟩ := by unfold Addr.add; split <;> simp_all
  rw [hadd]
  exact (cellS (newS W _) j).trans (by simpa using h)
/-- a widget as it is built first -/
def nx (pa ww hh : Int) (ke : Bool) (ki : Int) : Nr := ⟨⟨pa, ww, hh, ke, ki, [], [], ⟨0, 0, 0, false, false, false, 0, 0, 0⟩, ⟨0, 0, 0, 0, 0, 0, 0, 0, 0⟩, ⟨0, 0, 0, 0, 0, 0, 0, 0, 0⟩⟩, none, 0, none, 0⟩
theorem run_bsN (p : Nr) (w : World) : (Instr.buildSlice 23 1 #[(0, .agg (valsNr p).toArray)]).run Tryz.prog w = .ok (.slice (some ⟨w.heap.size, 0, none⟩) 1 1) (w.alloc (.cells (valsNr p).toArray 38)) := by kernel_rfl
theorem run_bN (pa ww hh : Int) (ke : Bool) (ki : Int) (w : World) : (Instr.build 38 #[(0, .int .i64 pa), (1, .int .i64 ww), (2, .int .i64 hh), (3, .bool ke), (4, .int .i64 ki)]).run Tryz.prog w = .ok (.agg (valsNr (nx pa ww hh ke ki)).toArray) w := by kernel_rfl
/-- lines in memory of their own, or none -/
def LnK (W : World) (A : Option Addr) (L : List Ln) : Prop := L = [] ∨ ∃ (g : Nat) (cs : Array Value), A = some ⟨g, 0, none⟩ ∧ W.heap[g]? = some (.cells cs 150 (0, 0)) ∧ ∀ (i : Nat) (x : Ln), L[i]? = some x → InS cs (i * 2) (valsLn x)
theorem LnK.v {W : World} {A : Option Addr} {L : List Ln} (h : LnK W A L) : LnV W A L := by
  rcases h with rfl | ⟨g, cs, rfl, hh, hc⟩
  · exact LnV.nil _ _
  · exact LnV.inG hh hc
theorem LnK.own {W : World} {base n : Nat} {v : Value} {L : List Ln} (h : W.ownsRow base 150 2 v n (lnvals L)) (hn : n = L.length) : ∃ A c, v = .slice A L.length c ∧ L.length ≤ c ∧ LnK W A L := by
  subst hn
  rcases ln_inG h rfl with ⟨rfl, rfl⟩ | ⟨g, cap, cs, rfl, hg, hc, hh, hs, hin⟩
  · exact ⟨none, 0, rfl, Nat.le_refl _, .inl rfl⟩
  · exact ⟨_, cap, rfl, hc, .inr ⟨g, cs, rfl, hh, hin⟩⟩
/-- blocks of lines stay as they are -/
def KpL (W W' : World) : Prop := ∀ (g : Nat) (cs : Array Value), W.heap[g]? = some (.cells cs 150 (0, 0)) → W'.heap[g]? = W.heap[g]?
theorem KpL.refl (W : World) : KpL W W := fun _ _ _ => rfl
theorem KpL.trans {A B C : World} (h : KpL A B) (k : KpL B C) : KpL A C := fun g cs e => (k g cs ((h g cs e).trans e)).trans (h g cs e)
theorem LnK.kp {W W' : World} {A : Option Addr} {L : List Ln} (h : LnK W A L) (hk : KpL W W') : LnK W' A L := h.imp id fun ⟨g, cs, e, hh, hc⟩ => ⟨g, cs, e, (hk g cs hh).trans hh, hc⟩
theorem KpL.chg {W W' : World} {b : Nat} {o : Obj} (hc : Chg [b] W W') (hb : W.heap[b]? = some o) (ho : ∀ cs, o ≠ .cells cs 150 (0, 0)) : KpL W W' := fun g cs e => hc.block g (ltS e) (by
  simp only [List.mem_singleton]; rintro rfl; rw [hb] at e; exact ho cs (Option.some.inj e))
theorem KpL.below {W W' : World} (hb : Below W.heap.size W W') : KpL W W' := fun g cs e => hb.block g (ltS e)
theorem KpL.grown {W W' : World} {ob : Option Nat} (hg : W.grownBy W' ob) (ho : ∀ g cs, W.heap[g]? = some (.cells cs 150 (0, 0)) → some g ≠ ob) : KpL W W' := fun g cs e => hg.block g (ltS e) (ho g cs e)
/-- what holds of a widget's lines -/
structure NL (W : World) (p : Nr) : Prop where
  c : LnK W p.ca p.n.cs
  r : LnK W p.ra p.n.rs
  cl : p.n.cs.length ≤ p.cc
  rl : p.n.rs.length ≤ p.rc
  c5 : p.n.cs.length ≤ 5
  r5 : p.n.rs.length ≤ 5
theorem NL.kp {W W' : World} {p : Nr} (h : NL W p) (hk : KpL W W') : NL W' p := ⟨h.c.kp hk, h.r.kp hk, h.cl, h.rl, h.c5, h.r5⟩
theorem NL.rd {W : World} {p : Nr} (h : NL W p) : RdN W p := ⟨h.c.v, h.cl, h.r.v, h.rl⟩
def kiL (p : Nr) : Prop := p.n.ki = 1 → 1 ≤ p.n.cs.length ∧ 1 ≤ p.n.rs.length
/-- the tree that is made, in the variable bt; a its world of before -/
structure TrS (a : World) (lo br bt rb : Nat) (R : List Nr) (v : Value) (W : World) : Prop where
  res : W.heap[br]? = some (.cells #[.slice none 0 0] 25 (0, 0))
  box : W.heap[bt]? = some (.cells #[v] 25 (0, 0))
  own : W.ownsRow lo 38 34 v R.length (nrvals R)
  lns : ∀ p ∈ R, NL W p ∧ kiL p
  chg : Chg [rb] a W
theorem TrS.call {a : World} {lo br bt rb B n c m : Nat} {A : Option Addr} {R : List Nr} {v : Value} {W W' : World} (h : TrS a lo br bt rb R v W) (hr : Rd B rb A n c m W) (hc : Chg [rb] W W') (h1 : rb < lo) (h2 : bt ≠ rb) (h3 : br ≠ rb) : TrS a lo br bt rb R v W' := by
  obtain ⟨p, hp, hb⟩ := hr.box
  have hk : KpL W W' := KpL.chg hc hb (fun cs e => by cases e)
  exact ⟨(hc.block br (ltS h.res) (by simpa using h3)).trans h.res, (hc.block bt (ltS h.box) (by simpa using h2)).trans h.box, own_chgN h.own hc h1, fun p hp => ⟨(h.lns p hp).1.kp hk, (h.lns p hp).2⟩, h.chg.trans hc⟩
theorem TrS.alloc {a : World} {lo br bt rb : Nat} {R : List Nr} {v : Value} {W : World} (h : TrS a lo br bt rb R v W) (o : Obj) : TrS a lo br bt rb R v (W.alloc o) :=
  ⟨(Below.heap_alloc _ _ _ (ltS h.res)).trans h.res, (Below.heap_alloc _ _ _ (ltS h.box)).trans h.box, h.own.alloc _, fun p hp => ⟨(h.lns p hp).1.kp (KpL.below (balloc (Below.refl _ _))), (h.lns p hp).2⟩, h.chg.alloc o⟩
theorem TrS.drew {a : World} {lo br bt rb : Nat} {R : List Nr} {v : Value} {W : World} (h : TrS a lo br bt rb R v W) : TrS a lo br bt rb R v W.drew :=
  ⟨h.res, h.box, h.own.kept (row := none) ⟨rfl, rfl, rfl, Nat.le_refl _, fun _ _ _ => rfl⟩ (by cases hv : v.ownBlock with | none => exact .inl rfl | some g => exact .inr (fun e => by cases e)), fun p hp => ⟨(h.lns p hp).1.kp (KpL.below (Below.refl _ _).drew), (h.lns p hp).2⟩, h.chg.drew⟩
/-- the widget that is made, in the variable bx -/
def XB (bx : Nat) (p : Nr) (W : World) : Prop := W.heap[bx]? = some (.cells (valsNr p).toArray 38 (0, 0))
theorem XB.call {bx rb : Nat} {p : Nr} {W W' : World} (h : XB bx p W) (hc : Chg [rb] W W') (hn : bx ≠ rb) : XB bx p W' := (hc.block bx (ltS h) (by simpa using hn)).trans h
theorem XB.alloc {bx : Nat} {p : Nr} {W : World} (h : XB bx p W) (o : Obj) : XB bx p (W.alloc o) := (Below.heap_alloc _ _ _ (ltS h)).trans h
theorem XB.cell {bx : Nat} {p : Nr} {W : World} (h : XB bx p W) (i : Nat) : W.cell? ⟨bx, i, none⟩ = (valsNr p).toArray[i]? := cellS h i
theorem XB.frz {bx : Nat} {p : Nr} {W : World} (h : XB bx p W) (i : Nat) : W.frozen? ⟨bx, i, none⟩ = false := frozenS h i
theorem chg_sets {b : Nat} {W : World} (vs : List Value) (o : Nat) : Chg [b] W (W.setCells b o vs) := Chg.of_grown (Chg.refl _ _) (grown_setCells vs o W (greflS W b)) (.inl (by simp))
theorem TrS.sets {a : World} {lo br bt rb bx : Nat} {R : List Nr} {v : Value} {W : World} {cs : Array Value} (h : TrS a lo br bt rb R v W) (hx : W.heap[bx]? = some (.cells cs 38 (0, 0))) (hbt : bt ≠ bx) (hbr : br ≠ bx) (ha : a.heap.size ≤ bx) (hv : ∀ k, v.ownBlock = some k → k ≠ bx) (o : Nat) (vs : List Value) : TrS a lo br bt rb R v (W.setCells bx o vs) :=
  ⟨(heap_setCells_ne hbr vs o W).trans h.res, (heap_setCells_ne hbt vs o W).trans h.box, h.own.kept (grown_setCells vs o W (greflS W bx)) (by
    cases hv' : v.ownBlock with
    | none => exact .inl rfl
    | some g => exact .inr (fun e => hv g hv' (Option.some.inj e))),
   fun p hp => ⟨(h.lns p hp).1.kp (KpL.grown (grown_setCells vs o W (greflS W bx)) (fun g cs' e e' => by cases e'; rw [hx] at e; have := Option.some.inj e; simp at this)), (h.lns p hp).2⟩,
   Chg.of_grown h.chg (grown_setCells vs o W (greflS W bx)) (.inr ha)⟩
theorem NL.sets {bx : Nat} {p : Nr} {W : World} {cs : Array Value} (h : NL W p) (hx : W.heap[bx]? = some (.cells cs 38 (0, 0))) (o : Nat) (vs : List Value) : NL (W.setCells bx o vs) p :=
  h.kp (KpL.grown (grown_setCells vs o W (greflS W bx)) (fun g cs' e e' => by cases e'; rw [hx] at e; have := Option.some.inj e; simp at this))
theorem Rd.sets {B rb bx n c m : Nat} {A : Option Addr} {W : World} (h : Rd B rb A n c m W) (hB : B ≤ bx) (hn : bx ≠ rb) (o : Nat) (vs : List Value) : Rd B rb A n c m (W.setCells bx o vs) := h.keep (chg_sets vs o) (by simp; exact ⟨hB, hn⟩)
theorem XB.sets {bx : Nat} {p q : Nr} {W : World} (h : XB bx p W) (o : Nat) (vs : List Value) (e : wrAt (valsNr p).toArray o vs = (valsNr q).toArray) : XB bx q (W.setCells bx o vs) := (heap_setCells vs o W _ h).trans (by rw [e])
theorem NL.call {B rb n c m : Nat} {A : Option Addr} {p : Nr} {W W' : World} (h : NL W p) (hr : Rd B rb A n c m W) (hc : Chg [rb] W W') : NL W' p := by
  obtain ⟨q, _, hb⟩ := hr.box
  exact h.kp (KpL.chg hc hb (fun cs e => by cases e))
/-- one more widget -/
theorem TrS.add {a : World} {lo br bt rb : Nat} {R : List Nr} {p : Nr} {v v' : Value} {W w5 : World} {o : Obj} (h : TrS a lo br bt rb R v W) (hn : NL W p) (hk : kiL p) (hlo : a.heap.size ≤ lo) (hg : (W.alloc o).grownBy w5 v.ownBlock) (ho : w5.ownsRow lo 38 34 v' (R.length + 1) (nrvals R ++ valsNr p)) :
    KpL W w5 ∧ w5.heap[br]? = some (.cells #[.slice none 0 0] 25 (0, 0)) ∧ w5.heap[bt]? = some (.cells #[v] 25 (0, 0)) ∧ w5.ownsRow lo 38 34 v' (R ++ [p]).length (nrvals (R ++ [p])) ∧ (∀ q ∈ R ++ [p], NL w5 q ∧ kiL q) ∧ Chg [rb] a w5 := by
  have hbk : ∀ (g : Nat) (ob : Obj), W.heap[g]? = some ob → (∀ cs, ob ≠ .cells cs 38 (0, 0)) → w5.heap[g]? = W.heap[g]? := fun g ob hb hne => by
    refine (hg.block g (by have := ltS hb; simp; omega) (fun e => ?_)).trans (Below.heap_alloc _ _ _ (ltS hb))
    rcases h.own.2 with ⟨rfl, _⟩ | ⟨g', cap, cur, rfl, _, hg', _⟩
    · simp [Value.ownBlock] at e
    · have : g = g' := by simpa [Value.ownBlock] using e
      subst this
      rw [hb] at hg'
      exact hne _ (Option.some.inj hg')
  have hkp : KpL W w5 := fun g cs e => hbk g _ e (fun cs' e' => by simp at e')
  refine ⟨hkp, (hbk br _ h.res (fun cs' e' => by simp at e')).trans h.res, (hbk bt _ h.box (fun cs' e' => by simp at e')).trans h.box, by rw [nrvals_snoc] at ho; simpa using ho, fun q hq => ?_, chg_grownN h.chg hg h.own.lt hlo⟩
  rcases List.mem_append.1 hq with hq | hq
  · exact ⟨(h.lns q hq).1.kp hkp, (h.lns q hq).2⟩
  · rw [List.mem_singleton.1 hq]; exact ⟨hn.kp hkp, hk⟩
/-- a store into a variable that holds a tree -/
theorem own_tree {W : World} {lo n b : Nat} {v : Value} {xs : List Value} {cs : Array Value} (h : W.ownsRow lo 38 34 v n xs) (hb : W.heap[b]? = some (.cells cs 25 (0, 0))) (u : Value) : (W.setCell ⟨b, 0, none⟩ u).ownsRow lo 38 34 v n xs :=
  h.kept (row := some b) (gsetS (greflS W b) 0 u) (by
    rcases h.2 with ⟨rfl, _⟩ | ⟨g', cap, cur, rfl, _, hg', _⟩
    · exact .inl rfl
    · refine .inr (fun e => ?_)
      have : g' = b := by simpa [Value.ownBlock] using e
      subst this
      rw [hb] at hg'
      have := Option.some.inj hg'
      simp at this)
theorem kp_tree {W : World} {b : Nat} {cs : Array Value} (hb : W.heap[b]? = some (.cells cs 25 (0, 0))) (u : Value) : KpL W (W.setCell ⟨b, 0, none⟩ u) :=
  KpL.grown (gsetS (greflS W b) 0 u) (fun g cs' e e' => by cases e'; rw [hb] at e; have := Option.some.inj e; simp at this)
/-- the cells of the widgets -/
theorem own_nr {w : World} {base n : Nat} {v : Value} {R : List Nr} (h : w.ownsRow base 38 34 v n (nrvals R)) (hn : n = R.length) : (v = .slice none 0 0 ∧ R = []) ∨ ∃ (g cap : Nat) (cs : Array Value), v = .slice (some ⟨g, 0, none⟩) n cap ∧ base ≤ g ∧ n ≤ cap ∧ w.heap[g]? = some (.cells cs 38 (0, 0)) ∧ cs.size = cap * 34 ∧ ∀ (i : Nat) (r : Nr), R[i]? = some r → InS cs (i * 34) (valsNr r) := by
  rcases h.2 with ⟨rfl, h0⟩ | ⟨g, cap, cur, rfl, hb, hg, hc, _, hs, ht⟩
  · exact .inl ⟨rfl, List.length_eq_zero_iff.1 (by omega)⟩
  · refine .inr ⟨g, cap, cur, rfl, hb, hc, hg, hs, fun i r hr j u hj => ?_⟩
    have hi : i < R.length := (List.getElem?_eq_some_iff.1 hr).1
    have hj34 : j < 34 := by have := (List.getElem?_eq_some_iff.1 hj).1; rwa [valsNr_len] at this
    have e := (nrvals_get hr j hj34).trans hj
    rw [← ht, List.getElem?_take, if_pos (by omega)] at e
    simpa using e
theorem own_slN {w : World} {base n : Nat} {v : Value} {xs : List Value} {e : TypeId} {size : Nat} (h : w.ownsRow base e size v n xs) : ∃ A c, v = .slice A n c := by
  rcases h.2 with ⟨rfl, h0⟩ | ⟨g, cap, cur, rfl, _⟩
  · exact ⟨none, 0, by rw [h0]⟩
  · exact ⟨_, _, rfl⟩
end Go.Proofs.YtgdkionmeacalabGreat
end
section
namespace Go.Proofs.YtgdkionmeacalabGreat
open Go.RowKit
set_option linter.unusedVariables false
set_option maxHeartbeats 1000000
attribute [local go_sem] growUpon_value growUpon_skip growUpon_enter
theorem wp_genGG {P : Program} {c : Code} {Q : Exit → Act → World → Prop} {a : Act} {W : World} (F : World → Prop) (hF : F W) (h : ∀ W0, F W0 → c.wp P Q a W0) : c.wp P Q a W := h W hF
def GB (lo : Nat) (w : World) (v : Value) (L1 L2 : List Ln) (L3 : List Ce) : Prop :=
  ∃ g1 g2 g3 : Nat, v = .agg #[.slice (some ⟨g1, 0, none⟩) L1.length L1.length, .slice (some ⟨g2, 0, none⟩) L2.length L2.length, .slice (some ⟨g3, 0, none⟩) L3.length L3.length] ∧ lo ≤ g1 ∧ g1 < g2 ∧ g2 < g3 ∧ LnB w g1 L1 ∧ LnB w g2 L2 ∧ CeB w g3 L3
theorem GB.any {lo : Nat} {w : World} {v : Value} {L1 L2 : List Ln} {L3 : List Ce} (h : GB lo w v L1 L2 L3) : GB 0 w v L1 L2 L3 := by
  obtain ⟨g1, g2, g3, e, a, b, c, k1, k2, k3⟩ := h
  exact ⟨g1, g2, g3, e, by omega, b, c, k1, k2, k3⟩
theorem GB.keep {lo : Nat} {w w' : World} {v : Value} {L1 L2 : List Ln} {L3 : List Ce} (h : GB lo w v L1 L2 L3) (hb : Below w.heap.size w w') : GB lo w' v L1 L2 L3 := by
  obtain ⟨g1, g2, g3, e, a, b, c, k1, k2, k3⟩ := h
  exact ⟨g1, g2, g3, e, a, b, c, k1.keep hb, k2.keep hb, k3.keep hb⟩
end Go.Proofs.YtgdkionmeacalabGreat
end
section
namespace Go.Proofs.YtgdkionmeacalabGreat
open Go.RowKit
set_option linter.unusedVariables false
set_option maxHeartbeats 2000000
/-- a variable of which the first cells are known -/
def PreN (w : World) (z : Nat) (l : List Value) : Prop := ∃ cs : Array Value, w.heap[z]? = some (.cells cs 38 (0, 0)) ∧ cs.size = 34 ∧ InS cs 0 l
theorem PreN.nil {w : World} {z : Nat} {cs : Array Value} (h : w.heap[z]? = some (.cells cs 38 (0, 0))) (hs : cs.size = 34) : PreN w z [] := ⟨cs, h, hs, fun j u hu => by simp at hu⟩
theorem PreN.lt {w : World} {z : Nat} {l : List Value} (h : PreN w z l) : z < w.heap.size := by obtain ⟨cs, hh, _⟩ := h; exact ltS hh
theorem PreN.there {w : World} {z : Nat} {l : List Value} (h : PreN w z l) {o n : Nat} (hn : o + n ≤ 34) : w.there z o n := by
  obtain ⟨cs, hh, hs, _⟩ := h
  exact thereB hh (by omega)
theorem PreN.cell {w : World} {z : Nat} {l : List Value} (h : PreN w z l) {i : Nat} (hi : i < 34) : ∃ v, w.cell? ⟨z, i, none⟩ = some v := by
  obtain ⟨cs, hh, hs, _⟩ := h
  exact thereS hh (by omega)
theorem PreN.frz {w : World} {z : Nat} {l : List Value} (h : PreN w z l) (i : Nat) : w.frozen? ⟨z, i, none⟩ = false := by
  obtain ⟨cs, hh, hs, _⟩ := h
  exact frozenS hh i
theorem PreN.keep {w w' : World} {z : Nat} {l : List Value} (h : PreN w z l) (hb : w'.heap[z]? = w.heap[z]?) : PreN w' z l := by
  obtain ⟨cs, hh, hs, hi⟩ := h
  exact ⟨cs, hb.trans hh, hs, hi⟩
theorem InS_app {cs : Array Value} {l vs : List Value} (h : InS cs 0 l) (hs : l.length + vs.length ≤ cs.size) : InS (wrAt cs l.length vs) 0 (l ++ vs) := fun j u hu => by
  rw [Nat.zero_add]
  by_cases hj : j < l.length
  · rw [List.getElem?_append_left hj] at hu
    rw [wrAt_lo _ _ _ _ hj]
    have := h j u hu
    rwa [Nat.zero_add] at this
  · rw [List.getElem?_append_right (by omega)] at hu
    have hl := (List.getElem?_eq_some_iff.1 hu).1
    have := wrAt_in vs cs l.length (j - l.length) hs hl
    rw [show l.length + (j - l.length) = j by omega] at this
    rw [this, hu]
theorem PreN.more {w : World} {z : Nat} {l vs : List Value} (h : PreN w z l) (hn : l.length + vs.length ≤ 34) : PreN (w.setCells z l.length vs) z (l ++ vs) := by
  obtain ⟨cs, hh, hs, hi⟩ := h
  exact ⟨_, heap_setCells vs l.length w cs hh, by rw [wrAt_size]; exact hs, InS_app hi (by omega)⟩
theorem PreN.one {w : World} {z : Nat} {l : List Value} (h : PreN w z l) (k : Nat) (hk : k = l.length) (v : Value) (hn : k < 34) : PreN (w.setCell ⟨z, k, none⟩ v) z (l ++ [v]) := by
  subst hk; exact h.more (vs := [v]) (by simp; omega)
theorem range_sub {w : World} {b o : Nat} {cs : List Value} (h : w.rangeAt b o cs) (A B C : List Value) (e : cs = A ++ (B ++ C)) (k : Nat) (hk : k = A.length) : w.rangeAt b (o + k) B := fun j v hj => by
  subst hk
  have hl := (List.getElem?_eq_some_iff.1 hj).1
  rw [Nat.add_assoc]
  exact h (A.length + j) v (by rw [e, List.getElem?_append_right (by omega), List.getElem?_append_left (by omega)]; rw [show A.length + j - A.length = j by omega]; exact hj)
theorem node_pk {w : World} {b o : Nat} {p : Nr} (h : w.rangeAt b o (valsNr p)) : w.rangeAt b (o + 7) [.int .i64 p.n.pk.w, .int .i64 p.n.pk.h, .int .i64 p.n.pk.s, .bool p.n.pk.fx, .bool p.n.pk.fy, .bool p.n.pk.ex, .int .i64 p.n.pk.an, .int .i64 p.n.pk.px, .int .i64 p.n.pk.py] := range_sub h ((valsNr p).take 7) _ ((valsNr p).drop 16) rfl 7 rfl
theorem node_ce {w : World} {b o : Nat} {p : Nr} (h : w.rangeAt b o (valsNr p)) : w.rangeAt b (o + 16) [.int .i64 p.n.ce.co, .int .i64 p.n.ce.ro, .int .i64 p.n.ce.mc, .int .i64 p.n.ce.mr, .int .i64 p.n.ce.cw, .int .i64 p.n.ce.ch, .int .i64 p.n.ce.sk, .int .i64 p.n.ce.px, .int .i64 p.n.ce.py] := range_sub h ((valsNr p).take 16) _ ((valsNr p).drop 25) rfl 16 rfl
theorem node_pl {w : World} {b o : Nat} {p : Nr} (h : w.rangeAt b o (valsNr p)) : w.rangeAt b (o + 25) [.int .i64 p.n.pl.x, .int .i64 p.n.pl.y, .int .i64 p.n.pl.rx, .int .i64 p.n.pl.ry, .int .i64 p.n.pl.ww, .int .i64 p.n.pl.hh, .int .i64 p.n.pl.qw, .int .i64 p.n.pl.qh, .int .i64 p.n.pl.an] := range_sub h ((valsNr p).take 25) _ ((valsNr p).drop 34) rfl 25 rfl
theorem newS1T (w : World) (o o' : Obj) : ((w.alloc o).alloc o').heap[w.heap.size + 1]? = some o' := by have := newS (w.alloc o) o'; rwa [World.size_alloc] at this
theorem wrAt_all {cs : Array Value} {l : List Value} (h : cs.size = l.length) : wrAt cs 0 l = l.toArray := by
  apply Array.ext
  · rw [wrAt_size]; simp [h]
  · intro i h1 h2
    have hi : i < l.length := by simpa using h2
    have := wrAt_in l cs 0 i (by omega) hi
    rw [Nat.zero_add, Array.getElem?_eq_getElem h1, List.getElem?_eq_getElem hi] at this
    simpa using this
/-- a widget that was copied -/
def cpN (p : Nr) (g1 g2 : Nat) : Nr := ⟨p.n, some ⟨g1, 0, none⟩, p.n.cs.length, some ⟨g2, 0, none⟩, p.n.rs.length⟩
def CpN (lo : Nat) (w : World) (p q : Nr) : Prop := ∃ g1 g2, q = cpN p g1 g2 ∧ lo ≤ g1 ∧ g1 < g2 ∧ LnB w g1 p.n.cs ∧ LnB w g2 p.n.rs
theorem CpN.keep {lo : Nat} {w w' : World} {p q : Nr} (h : CpN lo w p q) (hb : Below w.heap.size w w') : CpN lo w' p q := by
  obtain ⟨g1, g2, e, h1, h2, h3, h4⟩ := h
  exact ⟨g1, g2, e, h1, h2, h3.keep hb, h4.keep hb⟩
theorem CpN.but {lo z : Nat} {w w' : World} {p q : Nr} (h : CpN lo w p q) (hg : w.grownBy w' (some z)) (hz : z < lo) : CpN lo w' p q := by
  obtain ⟨g1, g2, e, h1, h2, h3, h4⟩ := h
  exact ⟨g1, g2, e, h1, h2, h3.but hg (by omega), h4.but hg (by omega)⟩
theorem CpN.n {lo : Nat} {w : World} {p q : Nr} (h : CpN lo w p q) : q.n = p.n := by obtain ⟨g1, g2, rfl, _⟩ := h; rfl
theorem CpN.rd {lo : Nat} {w : World} {p q : Nr} (h : CpN lo w p q) : RdN w q := by
  obtain ⟨g1, g2, rfl, h1, h2, h3, h4⟩ := h
  exact ⟨h3.v, Nat.le_refl _, h4.v, Nat.le_refl _⟩
end Go.Proofs.YtgdkionmeacalabGreat
end
