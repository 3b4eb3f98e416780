import Derived.Test.YtgdkionmeacalabGreatQ13
import Derived.Deep.MidRow
import Derived.OrdersIn
import Derived.TacticsIn
import Derived.RangeFuncCalls
section
namespace Go.Proofs.YtgdkionmeacalabGreat
open Go Go.RowKit
set_option linter.unusedVariables false
section
variable {P : Program}
def noDef (o : Oper) : Bool := match o.op with
  | .defer _ => false
  | _ => true
theorem noDef_ne {o : Oper} (h : noDef o = true) : ∀ c, o.op ≠ .defer c := fun c e => by
  unfold noDef at h
  rw [e] at h
  cases h
/-- nothing but the normal end -/
def OnlyN (Q0 : Exit → Act → World → Prop) : Prop := ∀ e a w, e ≠ .normal → ¬ Q0 e a w
theorem opLift {l n : Nat} {o : Oper} {a : Act} {w : World} {K K' : Act → World → Prop} {Q0 Q : Exit → Act → World → Prop} (hd : noDef o = true) (hQ : OnlyN Q0) (hK : ∀ a w, K a w → K' a w) (h : o.wp P a w K Q0) : o.wpIn (Fence.wide.inRound l) n P a w K' Q := by
  refine ⟨fun _ _ => trivial, ?_⟩
  rw [Oper.semAt_eq _ _ _ (noDef_ne hd)]
  unfold Oper.wp at h
  generalize (execOp a.eval o).run P w = r at h
  cases r with
  | ok x w' =>
    cases x with
    | value v => exact hK _ _ h
    | skip => exact hK _ _ h
    | defer d => exact hK _ _ h
    | enter f args =>
      refine ⟨(fun x => by cases x), CallsIn.inRound l (callsIn_wide.2 (Calls.mono h ?_))⟩
      intro e w2 he
      cases e with
      | returned v => exact hK _ _ he
      | panicked c => exact (hQ (.panic c) _ _ (fun x => by cases x) he).elim
      | outgrown =>
        obtain ⟨a2, w3, h3⟩ := he
        exact (hQ .outgrown _ _ (fun x => by cases x) h3).elim
    | row r args =>
      refine ⟨(fun x => by cases x), fun c cs _ => ?_⟩
      obtain ⟨v, w2, h1, h2⟩ := h c cs
      exact ⟨v, w2, hK _ _ h1, by rw [fenced_inRound]; exact stepsIn_wide.2 h2⟩
    | _ => exact h.elim
  | halt x w' =>
    cases x with
    | panic v => exact (hQ (.panic _) _ _ (fun x => by cases x) h).elim
    | _ => exact h.elim
theorem lets_no {Q0 : Exit → Act → World → Prop} (hQ : OnlyN Q0) : ¬ LetsOut Q0 := fun ⟨a, w, h⟩ => hQ _ _ _ (fun x => by cases x) h
theorem anyLift {l n : Nat} {md : Region.Mode} {ops : Array Oper} {Q0 Q : Exit → Act → World → Prop} (hd : ops.all noDef = true) (hQ : OnlyN Q0) (hN : ∀ a w, Q0 .normal a w → Q .normal a w) : ∀ (fuel : Nat) (listed : Array Bool) (a : Act) (w : World), wpAny P md ops Q0 fuel listed a w → wpAnyIn (Fence.wide.inRound l) n P md ops Q fuel listed a w := by
  intro fuel
  induction fuel with
  | zero => exact fun listed a w h => ⟨h.1, hN _ _ h.2⟩
  | succ fuel ih =>
    intro listed a w h
    refine ⟨fun hr => hN _ _ (h.1 hr), fun i hi => ?_⟩
    have h1 := h.2 i hi
    unfold wpOp at h1
    unfold wpOpIn
    cases ho : ops[i]? with
    | none => simp only [ho] at h1 ⊢; exact ih _ _ _ h1
    | some o =>
      simp only [ho] at h1 ⊢
      have hdo : noDef o = true := (Array.all_eq_true_iff_forall_mem.1 hd) o (Array.mem_of_getElem? ho)
      split
      · rename_i hw
        simp only [hw, if_true] at h1
        rcases h1 with h1 | h1
        · exact opLift hdo hQ (fun a w => ih _ a w) h1
        · exact (lets_no hQ h1.2).elim
      · rename_i hw
        simp only [hw] at h1
        exact ⟨fun _ _ => trivial, ih _ _ _ h1⟩
theorem listLift {l n : Nat} {ops : Array Oper} {Q0 Q : Exit → Act → World → Prop} (hQ : OnlyN Q0) (hN : ∀ a w, Q0 .normal a w → Q .normal a w) : ∀ (os : List Oper) (a : Act) (w : World), os.all noDef = true → wpList P ops Q0 os a w → wpListIn (Fence.wide.inRound l) n P ops Q os a w := by
  intro os
  induction os with
  | nil => exact fun a w _ h => hN _ _ h
  | cons o rest ih =>
    intro a w hd h
    simp only [List.all_cons, Bool.and_eq_true] at hd
    unfold wpList at h
    unfold wpListIn
    split
    · rename_i hw
      rw [if_pos hw] at h
      rcases h with h | h
      · exact opLift hd.1 hQ (fun a w => ih a w hd.2) h
      · exact (lets_no hQ h.2).elim
    · rename_i hw
      rw [if_neg hw] at h
      exact ⟨fun _ _ => trivial, ih _ _ hd.2 h⟩
theorem onlyN_then {K : Act → World → Prop} : OnlyN (Exit.then K (fun _ _ _ => False)) := fun e a w h q => by
  cases e <;> first | exact h rfl | exact q
theorem wpIn_region_lift {l n id : Nat} {os : List Oper} {Q : Exit → Act → World → Prop} {a : Act} {w : World} (hd : os.all noDef = true) (h : wpList P os.toArray (Exit.then (fun a w => Q .normal a w) (fun _ _ _ => False)) os a w) : (Code.region id os.toArray false).wpIn (Fence.wide.inRound l) n P Q a w :=
  wpIn_region_lit (listLift (Q0 := Exit.then (fun a w => Q .normal a w) (fun _ _ _ => False)) (Q := Q) onlyN_then (fun _ _ h => h) os a w hd h)
theorem wpIn_region_liftAny {l n id : Nat} {ops : Array Oper} {Q : Exit → Act → World → Prop} {a : Act} {w : World} (hm : P.follows .mixedOrders = true) (hd : ops.all noDef = true) (h : wpAny P .any ops (Exit.then (fun a w => Q .normal a w) (fun _ _ _ => False)) ops.size (Array.replicate ops.size false) a { w with drawn := w.drawn + 1 }) : (Code.region id ops true).wpIn (Fence.wide.inRound l) n P Q a w :=
  wpIn_region_any hm (anyLift (Q0 := Exit.then (fun a w => Q .normal a w) (fun _ _ _ => False)) (Q := Q) hd onlyN_then (fun _ _ h => h) _ _ _ _ h)
theorem wpAny_rxp {l : List Oper} {Q : Exit → Act → World → Prop} {a0 : Act} {w : World} (n1 m : Nat) (listed : Array Bool) (hm : l.length - n1 = m) (hls : listedTo n1 0 (Array.replicate l.toArray.size false) = listed) (tl : List (Value → World → Prop)) (hB : rgC l a0.tmps.size = true) (hC : cloB l n1 = true) (hTs : ∀ T ∈ tl, Stay T)
    (hops : opsOK P l (fun k => tl.getD k XT) Gr GIx a0 w.drew (l.take n1) 0) (hfin : ∀ w', Gr w.drew w' → finP (fun k => tl.getD k XT) w' (fun a' => wpAny P .any l.toArray Q m listed a' w') (l.take n1) 0 a0) : wpAny P .any l.toArray Q l.toArray.size (Array.replicate l.toArray.size false) a0 w.drew := by
  subst hm hls
  exact wpAny_rgp (fun k => tl.getD k XT) Gr GIx n1 hB hC Gr.refl (fun _ _ _ h k => h.trans k) (stay_list hTs) trivial hops fun w' h _ => hfin w' h
/-- the last operation of a region is a store of cells -/
theorem wpAny_store {md : Region.Mode} {ops : Array Oper} {Q : Exit → Act → World → Prop} {f : Nat} {listed : Array Bool} {a : Act} {w : World} (i : Nat) (T : TypeId) (x y : Operand) (b o : Nat) (vs : List Value) (hr : Region.ready md ops listed = [i]) (hr2 : Region.ready md ops (listed.setIfInBounds i true) = []) (ho : (ops[i]?).map (fun o => (o.dst, o.op, o.guard)) = some (none, .store T x y, none))
    (hx : a.eval x = .pointer (some ⟨b, o, none⟩)) (hy : a.eval y = .agg vs.toArray) (ht : w.there b o vs.length) (hi : (P.info? T).map (·.size) = some vs.length) (h1 : ∀ v ∈ vs, v.oneCell' = true)
    (h : Q .normal a (w.setCells b o vs)) : wpAny P md ops Q (f + 1) listed a w := by
  cases hq : ops[i]? with
  | none => rw [hq] at ho; cases ho
  | some op =>
    rw [hq] at ho
    simp only [Option.map_some, Option.some.injEq, Prod.mk.injEq] at ho
    obtain ⟨hd, hop, hg⟩ := ho
    refine wpAny_one hr hq hg ?_
    refine wp_store_mid T x y hop b o vs.toArray hx hy (by simpa using ht) (by simpa using hi) (all_oneCell_toArray h1) ?_
    rw [hd]
    exact wpAny_end hr2 (by simpa [Act.put] using h)
end
end Go.Proofs.YtgdkionmeacalabGreat
end
section
namespace Go.Proofs.YtgdkionmeacalabGreat
open Go.RowKit
set_option linter.unusedVariables false
set_option maxHeartbeats 2000000
/-- widgets that were copied, each with lines of its own -/
structure CpR (lo : Nat) (w : World) (R S : List Nr) : Prop where
  len : S.length = R.length
  each : ∀ (i : Nat) (p q : Nr), R[i]? = some p → S[i]? = some q → CpN lo w p q
  apart : ∀ (i j : Nat) (q r : Nr), i < j → S[i]? = some q → S[j]? = some r → ∀ a b : Addr, (q.ca = some a ∨ q.ra = some a) → (r.ca = some b ∨ r.ra = some b) → a.block < b.block
theorem CpR.keep {lo : Nat} {w w' : World} {R S : List Nr} (h : CpR lo w R S) (hb : Below w.heap.size w w') : CpR lo w' R S := ⟨h.len, fun i p q hp hq => (h.each i p q hp hq).keep hb, h.apart⟩
theorem CpR.but {lo z : Nat} {w w' : World} {R S : List Nr} (h : CpR lo w R S) (hg : w.grownBy w' (some z)) (hz : z < lo) : CpR lo w' R S := ⟨h.len, fun i p q hp hq => (h.each i p q hp hq).but hg hz, h.apart⟩
theorem CpR.nil (lo : Nat) (w : World) : CpR lo w [] [] := ⟨rfl, fun i p q hp _ => by simp at hp, fun i j q r _ hq _ => by simp at hq⟩
theorem CpN.blk {lo : Nat} {w : World} {p q : Nr} (h : CpN lo w p q) {a : Addr} (ha : q.ca = some a ∨ q.ra = some a) : lo ≤ a.block ∧ a.block < w.heap.size := by
  obtain ⟨g1, g2, rfl, h1, h2, h3, h4⟩ := h
  have l3 := h3.lt
  have l4 := h4.lt
  rcases ha with ha | ha
  · have e : (⟨g1, 0, none⟩ : Addr) = a := Option.some.inj ha
    subst e; exact ⟨h1, l3⟩
  · have e : (⟨g2, 0, none⟩ : Addr) = a := Option.some.inj ha
    subst e; exact ⟨Nat.le_trans h1 (Nat.le_of_lt h2), l4⟩
theorem CpN.lo' {lo lo' : Nat} {w : World} {p q : Nr} (h : CpN lo' w p q) (hl : lo ≤ lo') : CpN lo w p q := by
  obtain ⟨g1, g2, e, h1, h2, h3, h4⟩ := h
  exact ⟨g1, g2, e, Nat.le_trans hl h1, h2, h3, h4⟩
theorem CpR.snoc {lo : Nat} {w w' : World} {R S : List Nr} {k : Nat} {p q : Nr} (h : CpR lo w (R.take k) S) (hp : R[k]? = some p) (hb : Below w.heap.size w w') (hq : CpN w.heap.size w' p q) (hl : lo ≤ w.heap.size) : CpR lo w' (R.take (k + 1)) (S ++ [q]) := by
  have hk : k < R.length := (List.getElem?_eq_some_iff.1 hp).1
  have hls : S.length = k := by rw [h.len, List.length_take]; omega
  refine ⟨by rw [List.length_append, hls, List.length_take]; simp; omega, fun i p' q' h1 h2 => ?_, fun i j q1 r1 hij h1 h2 a b ha hb' => ?_⟩
  · rw [List.getElem?_take] at h1
    split at h1
    · rename_i hi
      by_cases e : i = k
      · subst e
        rw [hp] at h1
        rw [List.getElem?_append_right (by omega), hls] at h2
        simp at h1 h2
        subst h1 h2
        exact hq.lo' hl
      · rw [List.getElem?_append_left (by omega)] at h2
        exact (h.each i p' q' (by rw [List.getElem?_take, if_pos (by omega)]; exact h1) h2).keep hb
    · cases h1
  · have hj := (List.getElem?_eq_some_iff.1 h2).1
    simp at hj
    by_cases e : j = k
    · subst e
      rw [List.getElem?_append_right (by omega), hls] at h2
      simp at h2
      subst h2
      rw [List.getElem?_append_left (by omega)] at h1
      obtain ⟨p', hp'⟩ : ∃ p', (R.take j)[i]? = some p' := ⟨_, List.getElem?_eq_getElem (by rw [← h.len]; omega)⟩
      have b1 := (h.each i p' q1 hp' h1).blk ha
      have b2 := hq.blk hb'
      omega
    · rw [List.getElem?_append_left (by omega)] at h2
      rw [List.getElem?_append_left (by omega)] at h1
      exact h.apart i j q1 r1 hij h1 h2 a b ha hb'
theorem CpR.rd {lo : Nat} {w : World} {R S : List Nr} (h : CpR lo w R S) : RdR w S := fun q hq => by
  obtain ⟨i, hi, hq⟩ := List.getElem_of_mem hq
  have h2 : S[i]? = some q := by rw [List.getElem?_eq_getElem hi, hq]
  have hi' : i < R.length := by rw [← h.len]; exact hi
  exact (h.each i _ q (List.getElem?_eq_getElem hi') h2).rd
theorem CpR.map {lo : Nat} {w : World} {R S : List Nr} (h : CpR lo w R S) : S.map Nr.n = R.map Nr.n := by
  apply List.ext_getElem?
  intro i
  rw [List.getElem?_map, List.getElem?_map]
  cases hp : R[i]? with
  | none =>
    have := List.getElem?_eq_none_iff.1 hp
    rw [List.getElem?_eq_none (by rw [h.len]; exact this)]
  | some p =>
    have hi := (List.getElem?_eq_some_iff.1 hp).1
    have hi' : i < S.length := by rw [h.len]; exact hi
    have hs : S[i]? = some S[i] := List.getElem?_eq_getElem hi'
    rw [hs]
    simp only [Option.map_some]
    rw [(h.each i p _ hp hs).n]
def TB (lo : Nat) (w : World) (v : Value) (R S : List Nr) : Prop := ∃ g : Nat, v = .agg #[.slice (some ⟨g, 0, none⟩) R.length R.length] ∧ lo ≤ g ∧ NrB w g S ∧ CpR (g + 1) w R S
theorem TB.keep {lo : Nat} {w w' : World} {v : Value} {R S : List Nr} (h : TB lo w v R S) (hb : Below w.heap.size w w') : TB lo w' v R S := by
  obtain ⟨g, e, h1, h2, h3⟩ := h
  exact ⟨g, e, h1, h2.keep hb, h3.keep hb⟩
def TA (lo : Nat) (w : World) (v : Value) (R : List Nr) : Prop := ∃ S, TB lo w v R S
theorem TA.keep {lo : Nat} {w w' : World} {v : Value} {R : List Nr} (h : TA lo w v R) (hb : Below w.heap.size w w') : TA lo w' v R := let ⟨S, hs⟩ := h; ⟨S, hs.keep hb⟩
theorem TA.any {lo : Nat} {w : World} {v : Value} {R : List Nr} (h : TA lo w v R) : TA 0 w v R := by
  obtain ⟨S, g, e, h1, h2, h3⟩ := h
  exact ⟨S, g, e, Nat.zero_le _, h2, h3⟩
/-- what a copied tree is good for -/
theorem TA.open {lo : Nat} {w : World} {v : Value} {R : List Nr} (h : TA lo w v R) : ∃ (g : Nat) (S : List Nr), v = .agg #[.slice (some ⟨g, 0, none⟩) R.length R.length] ∧ lo ≤ g ∧ g < w.heap.size ∧ S.length = R.length ∧ NrV w (some ⟨g, 0, none⟩) S ∧ RdR w S ∧ S.map Nr.n = R.map Nr.n ∧ NrB w g S ∧ CpR (g + 1) w R S := by
  obtain ⟨S, g, e, h1, h2, h3⟩ := h
  exact ⟨g, S, e, h1, h2.lt, h3.len, h2.v, h3.rd, h3.map, h2, h3⟩
end Go.Proofs.YtgdkionmeacalabGreat
end
section
namespace Go.Proofs.YtgdkionmeacalabGreat
open Go.RowKit
set_option linter.unusedVariables false
set_option maxHeartbeats 8000000
/-- a marked widget -/
def mkB (z : Int) : Bool := z % 3 == 0
def mkN (z : Int) (p : Nr) : Nr :=
  let y := z + 5 + 2 * p.n.cs.length + 2 * p.n.rs.length
  ⟨⟨z, z + 1, z + 2, mkB (z + 3), z + 4, p.n.cs, p.n.rs, ⟨y, y + 1, y + 2, mkB (y + 3), mkB (y + 4), mkB (y + 5), y + 6, y + 7, y + 8⟩, ⟨y + 9, y + 10, y + 11, y + 12, y + 13, y + 14, y + 15, y + 16, y + 17⟩, ⟨y + 18, y + 19, y + 20, y + 21, y + 22, y + 23, y + 24, y + 25, y + 26⟩⟩, p.ca, p.cc, p.ra, p.rc⟩
def mkW (p : Nr) : Int := 32 + 2 * p.n.cs.length + 2 * p.n.rs.length
def mkS : List Nr → Int
  | [] => 0
  | p :: t => mkW p + mkS t
/-- a world that has changed in the blocks from lo up to hi alone -/
structure Wi (lo hi : Nat) (w w' : World) : Prop where
  os : w'.os = w.os
  tape : w'.tape = w.tape
  output : w'.output = w.output
  size : w.heap.size ≤ w'.heap.size
  block : ∀ k, k < w.heap.size → ¬ (lo ≤ k ∧ k < hi) → w'.heap[k]? = w.heap[k]?
theorem Wi.refl (lo hi : Nat) (w : World) : Wi lo hi w w := ⟨rfl, rfl, rfl, Nat.le_refl _, fun _ _ _ => rfl⟩
theorem Wi.grown {lo hi g : Nat} {a w w' : World} (h : Wi lo hi a w) (hg : w.grownBy w' (some g)) (hb : (lo ≤ g ∧ g < hi) ∨ a.heap.size ≤ g) : Wi lo hi a w' :=
  ⟨hg.os.trans h.os, hg.tape.trans h.tape, hg.output.trans h.output, Nat.le_trans h.size hg.size, fun k hk hn => by
    have hne : k ≠ g := by rintro rfl; rcases hb with hb | hb <;> omega
    exact (hg.block k (Nat.lt_of_lt_of_le hk h.size) (fun e => hne (Option.some.inj e))).trans (h.block k hk hn)⟩
theorem Wi.set {lo hi g o : Nat} {a w : World} (h : Wi lo hi a w) (hb : lo ≤ g ∧ g < hi) (v : Value) : Wi lo hi a (w.setCell ⟨g, o, none⟩ v) := h.grown (gsetS (greflS w g) o v) (.inl hb)
theorem Wi.below {lo hi : Nat} {a w w' : World} (h : Wi lo hi a w) (hb : Below w.heap.size w w') : Wi lo hi a w' :=
  ⟨hb.os.trans h.os, hb.tape.trans h.tape, hb.output.trans h.output, Nat.le_trans h.size hb.size, fun k hk hn => (hb.block k (Nat.lt_of_lt_of_le hk h.size)).trans (h.block k hk hn)⟩
/-- the state in the midst of marking the widget k: l are its first cells -/
def MidN (w : World) (g n k : Nat) (cs0 : Array Value) (l : List Value) (s5 s6 : Value) : Prop :=
  ∃ cs : Array Value, w.heap[g]? = some (.cells cs 38 (0, 0)) ∧ cs.size = n * 34 ∧ (∀ i, i < k * 34 ∨ (k + 1) * 34 ≤ i → cs[i]? = cs0[i]?) ∧ InS cs (k * 34) l ∧ cs[k * 34 + 5]? = some s5 ∧ cs[k * 34 + 6]? = some s6
theorem MidN.put {w : World} {g n k : Nat} {cs0 : Array Value} {l : List Value} {s5 s6 : Value} (h : MidN w g n k cs0 l s5 s6) (hk : k < n) (j : Nat) (hj : j = l.length) (hj34 : j < 34) (h5 : j ≠ 5) (h6 : j ≠ 6) (v : Value) : MidN (w.setCell ⟨g, k * 34 + j, none⟩ v) g n k cs0 (l ++ [v]) s5 s6 := by
  subst hj
  obtain ⟨cs, hh, hs, ho, hl, e5, e6⟩ := h
  have hsz : k * 34 + l.length < cs.size := by omega
  refine ⟨_, putS hh v, by simpa using hs, fun i hi => ?_, fun j u hu => ?_, ?_, ?_⟩
  · rw [Array.getElem?_setIfInBounds_ne (by omega)]; exact ho i hi
  · by_cases hj : j < l.length
    · rw [List.getElem?_append_left hj] at hu
      rw [Array.getElem?_setIfInBounds_ne (by omega)]; exact hl j u hu
    · rw [List.getElem?_append_right (by omega)] at hu
      have hj1 := (List.getElem?_eq_some_iff.1 hu).1
      simp at hj1
      obtain rfl : j = l.length := by omega
      simp at hu
      subst hu
      rw [Array.getElem?_setIfInBounds_self_of_lt hsz]
  · rw [Array.getElem?_setIfInBounds_ne (by omega)]; exact e5
  · rw [Array.getElem?_setIfInBounds_ne (by omega)]; exact e6
theorem MidN.two {w : World} {g n k : Nat} {cs0 : Array Value} {l : List Value} {s5 s6 : Value} (h : MidN w g n k cs0 l s5 s6) (hl : l.length = 5) : MidN w g n k cs0 (l ++ [s5, s6]) s5 s6 := by
  obtain ⟨cs, hh, hs, ho, hi, e5, e6⟩ := h
  refine ⟨cs, hh, hs, ho, fun j u hu => ?_, e5, e6⟩
  by_cases hj : j < l.length
  · rw [List.getElem?_append_left hj] at hu; exact hi j u hu
  · rw [List.getElem?_append_right (by omega), hl] at hu
    have hj1 := (List.getElem?_eq_some_iff.1 hu).1
    simp at hj1
    have hj2 : j = 5 ∨ j = 6 := by omega
    rcases hj2 with rfl | rfl
    · simp at hu; subst hu; exact e5
    · simp at hu; subst hu; exact e6
theorem MidN.keep {w w' : World} {g n k : Nat} {cs0 : Array Value} {l : List Value} {s5 s6 : Value} (h : MidN w g n k cs0 l s5 s6) (hb : w'.heap[g]? = w.heap[g]?) : MidN w' g n k cs0 l s5 s6 := by
  obtain ⟨cs, hh, r⟩ := h
  exact ⟨cs, hb.trans hh, r⟩
theorem MidN.cell {w : World} {g n k : Nat} {cs0 : Array Value} {l : List Value} {s5 s6 : Value} (h : MidN w g n k cs0 l s5 s6) (hk : k < n) {j : Nat} (hj : j < 34) : ∃ v, w.cell? ⟨g, k * 34 + j, none⟩ = some v := by
  obtain ⟨cs, hh, hs, _⟩ := h
  exact thereS hh (by omega)
theorem MidN.frz {w : World} {g n k : Nat} {cs0 : Array Value} {l : List Value} {s5 s6 : Value} (h : MidN w g n k cs0 l s5 s6) (i : Nat) : w.frozen? ⟨g, i, none⟩ = false := by
  obtain ⟨cs, hh, _⟩ := h
  exact frozenS hh i
theorem MidN.c5 {w : World} {g n k : Nat} {cs0 : Array Value} {l : List Value} {s5 s6 : Value} (h : MidN w g n k cs0 l s5 s6) : w.cell? ⟨g, k * 34 + 5, none⟩ = some s5 ∧ w.cell? ⟨g, k * 34 + 6, none⟩ = some s6 := by
  obtain ⟨cs, hh, _, _, _, e5, e6⟩ := h
  exact ⟨(cellS hh _).trans e5, (cellS hh _).trans e6⟩
theorem MidN.lt {w : World} {g n k : Nat} {cs0 : Array Value} {l : List Value} {s5 s6 : Value} (h : MidN w g n k cs0 l s5 s6) : g < w.heap.size := by
  obtain ⟨cs, hh, _⟩ := h
  exact ltS hh
end Go.Proofs.YtgdkionmeacalabGreat
end
section
namespace Go.Proofs.YtgdkionmeacalabGreat
open Go.RowKit
set_option linter.unusedVariables false
/-- a call, over a frame of which the arguments and the size alone are known -/
theorem calls_abs {P : Program} {f : FuncId} {fn : Func} {c : Code} {args : Array Value} {w : World} {R : Ending → World → Prop} (hf : P.funcs[f]? = some fn) (hb : fn.body = some c) (N : Nat) (hN : fn.ntmps = N) (hle : args.size ≤ N)
    (h : ∀ tm : Array Value, tm.size = N → (∀ i v, args[i]? = some v → tm.getD i undef = v) → c.wp P (bodyPost P fn R) ⟨tm, []⟩ w) : Calls P f args w R := by
  refine calls_of_wp hf hb (h _ ?_ ?_)
  · simp [hN]; omega
  · intro i v hi
    have hlt := (Array.getElem?_eq_some_iff.1 hi).1
    rw [Array.getD_eq_getD_getElem?, Array.getElem?_append_left hlt, hi]
    rfl
theorem get_of {tm : Array Value} {i : Nat} {v d : Value} (h : i < tm.size) (e : tm.getD i d = v) : tm[i]? = some v := by
  rw [Array.getD_eq_getD_getElem?, Array.getElem?_eq_getElem h] at e
  rw [Array.getElem?_eq_getElem h]; simpa using e
theorem wp_seq_h {P : Program} {Q : Exit → Act → World → Prop} {a : Act} {w : World} {x y : Code} (h : ∀ K : Act → World → Prop, Hid (∀ a w, y.wp P Q a w → K a w) → x.wp P (Exit.then K Q) a w) : (Code.seq x y).wp P Q a w := wp_seq_k fun K hK => h K (Lib.hid hK)
theorem wp_abw {P : Program} {Q : Exit → Act → World → Prop} {tm : Array Value} {w : World} {c : Code} (F : Array Value → World → Prop) (hF : F tm w) (h : ∀ t W, F t W → c.wp P Q ⟨t, []⟩ W) : c.wp P Q ⟨tm, []⟩ w := h tm w hF
end Go.Proofs.YtgdkionmeacalabGreat
end
section
namespace Go.Proofs.YtgdkionmeacalabGreat
open Go.RowKit
set_option linter.unusedVariables false
set_option maxHeartbeats 1000000
/-- a slice whose elements are these records of k cells -/
def RvK (k : Nat) (w : World) (A : Option Addr) (R : List (List Value)) : Prop := 0 < R.length → ∃ b off, A = some ⟨b, off, none⟩ ∧ b < w.heap.size ∧ ∀ i vs, R[i]? = some vs → w.rangeAt b (off + i * k) vs
theorem RvK.keep {k : Nat} {w w' : World} {A : Option Addr} {R : List (List Value)} (h : RvK k w A R) (hb : Below w.heap.size w w') : RvK k w' A R := fun h0 =>
  let ⟨b, off, e, hl, hp⟩ := h h0; ⟨b, off, e, Nat.lt_of_lt_of_le hl hb.size, fun i vs hi => rangeB (hp i vs hi) (hb.block b hl)⟩
theorem RvK.nil (k : Nat) (w : World) (A : Option Addr) : RvK k w A [] := fun h => absurd h (by simp)
/-- what a new block of records holds, as far as the first j of n -/
def RpK (k : Nat) (w : World) (g : Nat) (T : TypeId) (n j : Nat) (R : List (List Value)) : Prop := ∃ cs : Array Value, w.heap[g]? = some (.cells cs T (0, 0)) ∧ cs.size = n * k ∧ ∀ i vs, i < j → R[i]? = some vs → InS cs (i * k) vs
theorem RpK.lt {k : Nat} {w : World} {g : Nat} {T : TypeId} {n j : Nat} {R : List (List Value)} (h : RpK k w g T n j R) : g < w.heap.size := by obtain ⟨cs, hh, _⟩ := h; exact ltS hh
theorem RpK.keep' {k : Nat} {w w' : World} {g : Nat} {T : TypeId} {n j : Nat} {R : List (List Value)} (h : RpK k w g T n j R) (hb : w'.heap[g]? = w.heap[g]?) : RpK k w' g T n j R := by
  obtain ⟨cs, hh, r⟩ := h
  exact ⟨cs, hb.trans hh, r⟩
theorem RpK.keep {k : Nat} {w w' : World} {g : Nat} {T : TypeId} {n j : Nat} {R : List (List Value)} (h : RpK k w g T n j R) (hb : Below w.heap.size w w') : RpK k w' g T n j R := h.keep' (hb.block g h.lt)
theorem RpK.there {k : Nat} {w : World} {g : Nat} {T : TypeId} {n j : Nat} {R : List (List Value)} (h : RpK k w g T n j R) {i : Nat} (hi : i < n) : w.there g (i * k) k := by
  obtain ⟨cs, hh, hs, _⟩ := h
  refine thereB hh ?_
  rw [hs]
  calc i * k + k = (i + 1) * k := by rw [Nat.add_mul, Nat.one_mul]
    _ ≤ n * k := Nat.mul_le_mul_right k hi
theorem RpK.step {k : Nat} {w : World} {g : Nat} {T : TypeId} {n j : Nat} {R : List (List Value)} (h : RpK k w g T n j R) (hR : ∀ vs ∈ R, vs.length = k) {vs : List Value} (hv : R[j]? = some vs) (hj : j < n) : RpK k (w.setCells g (j * k) vs) g T n (j + 1) R := by
  obtain ⟨cs, hh, hs, hc⟩ := h
  have hl := hR vs (List.mem_of_getElem? hv)
  have e : (j + 1) * k ≤ n * k := Nat.mul_le_mul_right k hj
  rw [Nat.add_mul, Nat.one_mul] at e
  refine ⟨_, heap_setCells vs (j * k) _ _ hh, (wrAt_size _ _ _).trans hs, fun i us hi hu => ?_⟩
  by_cases ei : i = j
  · subst ei
    rw [hv] at hu
    obtain rfl := Option.some.inj hu
    exact InS.write (by rw [hl, hs]; omega)
  · have e2 : (i + 1) * k ≤ j * k := Nat.mul_le_mul_right k (by omega)
    rw [Nat.add_mul, Nat.one_mul] at e2
    exact (hc i us (by omega) hu).keepS (.inl (by rw [hR us (List.mem_of_getElem? hu)]; omega))
theorem RpK.new {k : Nat} {w : World} {f : Array Value} {T : TypeId} {n : Nat} (R : List (List Value)) (hf : f.size = n * k) : RpK k (w.alloc (.cells f T)) w.heap.size T n 0 R := ⟨f, newS _ _, hf, fun i vs hi => absurd hi (by omega)⟩
/-- what a new block of records holds -/
def RbK (k : Nat) (w : World) (g : Nat) (T : TypeId) (R : List (List Value)) : Prop := RpK k w g T R.length R.length R
theorem RbK.v {k : Nat} {w : World} {g : Nat} {T : TypeId} {R : List (List Value)} (h : RbK k w g T R) : RvK k w (some ⟨g, 0, none⟩) R := fun _ => by
  obtain ⟨cs, hh, hs, hc⟩ := h
  refine ⟨g, 0, rfl, ltS hh, fun i vs hv j v hj => ?_⟩
  rw [Nat.zero_add]
  exact (cellS hh _).trans (hc i vs (List.getElem?_eq_some_iff.1 hv).1 hv j v hj)
theorem RpK.whole {k : Nat} {w : World} {g : Nat} {T : TypeId} {n j : Nat} {R : List (List Value)} (h : RpK k w g T n j R) (hn : n = R.length) (hj : n ≤ j) : RbK k w g T R := by
  subst hn
  obtain ⟨cs, hh, hs, hc⟩ := h
  exact ⟨cs, hh, hs, fun i vs hi hv => hc i vs (by omega) hv⟩
def one (vs : List Value) : Prop := ∀ v ∈ vs, v.oneCell' = true
theorem ldK {P : Program} {ops : Array Oper} {rest : List Oper} {op : Oper} {a : Act} {w : World} {Q : Exit → Act → World → Prop} (T : TypeId) (x : Operand) (vs : List Value) (b o : Nat) {d : TypeDesc} (hgd : op.guard = none) (ho : op.op = .load T x)
    (hc : w.rangeAt b o vs) (hu : P.underlying T = some d) (hd : d.isRow = true) (hi : (P.info? T).map (·.size) = some vs.length) (hx : a.eval x = .pointer (some ⟨b, o, none⟩))
    (h : wpList P ops Q rest (a.put op.dst (.agg vs.toArray)) w) : wpList P ops Q (op :: rest) a w :=
  wpList_load_mid hgd T x ho b o hx vs d hc hu hd hi h
theorem stK {P : Program} {ops : Array Oper} {rest : List Oper} {op : Oper} {a : Act} {w : World} {Q : Exit → Act → World → Prop} (T : TypeId) (x y : Operand) (vs : List Value) (b o : Nat) (hgd : op.guard = none) (ho : op.op = .store T x y)
    (ht : w.there b o vs.length) (hi : (P.info? T).map (·.size) = some vs.length) (h1 : one vs) (hx : a.eval x = .pointer (some ⟨b, o, none⟩)) (hy : a.eval y = .agg vs.toArray)
    (h : wpList P ops Q rest (a.put op.dst undef) (w.setCells b o vs)) : wpList P ops Q (op :: rest) a w := by
  refine wpList_store_mid hgd T x y ho b o vs.toArray hx hy (by simpa using ht) (by simpa using hi) (all_oneCell_toArray h1) ?_
  simpa using h
theorem allocK {P : Program} {ops : Array Oper} {rest : List Oper} {op : Oper} {a : Act} {w : World} {Q : Exit → Act → World → Prop} (T : TypeId) (k : Nat) (hgd : op.guard = none) (ho : op.op = .alloc T) (hi : ∃ i z, P.info? T = some i ∧ i.zero = some z ∧ z.cells.size = k)
    (h : ∀ f : Array Value, f.size = k → wpList P ops Q rest (a.put op.dst (.pointer (some ⟨w.heap.size, 0, none⟩))) (w.alloc (.cells f T))) : wpList P ops Q (op :: rest) a w := by
  obtain ⟨i, z, h1, h2, h3⟩ := hi
  refine wpList_plain hgd fun K hK => ?_
  have := hK _ _ (h z.cells h3)
  unfold Oper.wp execOp
  simp only [ho]
  simpa [Instr.alloc, zeroValue, typeInfo, h1, h2, newVar, go_sem] using this
theorem info_z {P : Program} {T : TypeId} {k : Nat} (h : (P.info? T).map (fun i => i.zero.map (fun z => z.cells.size)) = some (some k)) : ∃ i z, P.info? T = some i ∧ i.zero = some z ∧ z.cells.size = k := by
  cases hq : P.info? T with
  | none => rw [hq] at h; cases h
  | some i =>
    rw [hq] at h
    simp only [Option.map_some, Option.some.injEq] at h
    cases hz : i.zero with
    | none => rw [hz] at h; cases h
    | some z => rw [hz] at h; simp only [Option.map_some, Option.some.injEq] at h; exact ⟨i, z, rfl, hz, h⟩
theorem madeK (S T : TypeId) (k : Nat) (hk : k ≤ 64) (hu : Tryz.prog.underlying S = some (.slice T)) (hinfo : (Tryz.prog.info? T).map (fun i => (i.size, decide (i.bytes ≤ 512), i.zero.isSome)) = some (k, true, true)) : ∃ f : Nat → Array Value, (∀ n, (f n).size = n * k) ∧ ∀ (n : Nat) (w : World), n ≤ 1048576 → (Instr.makeSlice S (.int .i64 (n : Int)) (.int .i64 (n : Int))).run Tryz.prog w = .ok (.slice (some ⟨w.heap.size, 0, none⟩) n n) (w.alloc (.cells (f n) T)) := by
  obtain ⟨i, z, hi, h1, h2, h3⟩ : ∃ (i : TypeInfo) (z : Value), Tryz.prog.info? T = some i ∧ i.zero = some z ∧ i.size = k ∧ i.bytes ≤ 512 := by
    cases hq : Tryz.prog.info? T with
    | none => rw [hq] at hinfo; cases hinfo
    | some i =>
      rw [hq] at hinfo
      simp only [Option.map_some, Option.some.injEq, Prod.mk.injEq] at hinfo
      obtain ⟨e1, e2, e3⟩ := hinfo
      obtain ⟨z, hz⟩ := Option.isSome_iff_exists.1 e3
      exact ⟨i, z, rfl, hz, e1, by simpa using e2⟩
  refine ⟨fun n => madeCells z.cells (n * k), fun n => size_madeCells _ _, fun n w hn => ?_⟩
  have e : ((i.bytes * n : Nat) : Int) ≤ ((512 * 1048576 : Nat) : Int) := Int.ofNat_le.2 (Nat.mul_le_mul h3 hn)
  rw [Int.natCast_mul] at e
  have hr := run_make (P := Tryz.prog) w S T i _ hu hi h1 .i64 .i64 n n (by omega) (Int.le_refl _) (Int.le_trans e (by decide)) (by omega)
  rw [h2] at hr
  simpa using hr
end Go.Proofs.YtgdkionmeacalabGreat
end
section
namespace Go.Proofs.YtgdkionmeacalabGreat
open Go.RowKit
set_option linter.unusedVariables false
set_option linter.unusedSimpArgs false
set_option maxHeartbeats 4000000
theorem inf_widget : (Tryz.prog.info? 87).map (·.size) = some 37 := by kernel_rfl
theorem infz_widget : ∃ i z, Tryz.prog.info? 87 = some i ∧ i.zero = some z ∧ z.cells.size = 37 := info_z (by kernel_rfl)
theorem made_widget : ∃ f : Nat → Array Value, (∀ n, (f n).size = n * 37) ∧ ∀ (n : Nat) (w : World), n ≤ 1048576 → (Instr.makeSlice 88 (.int .i64 (n : Int)) (.int .i64 (n : Int))).run Tryz.prog w = .ok (.slice (some ⟨w.heap.size, 0, none⟩) n n) (w.alloc (.cells (f n) 87)) := madeK _ _ 37 (by omega) Tryz.underlying88 (by kernel_rfl)
theorem inf_Cell : (Tryz.prog.info? 34).map (·.size) = some 9 := by kernel_rfl
theorem infz_Cell : ∃ i z, Tryz.prog.info? 34 = some i ∧ i.zero = some z ∧ z.cells.size = 9 := info_z (by kernel_rfl)
theorem made_Cell : ∃ f : Nat → Array Value, (∀ n, (f n).size = n * 9) ∧ ∀ (n : Nat) (w : World), n ≤ 1048576 → (Instr.makeSlice 96 (.int .i64 (n : Int)) (.int .i64 (n : Int))).run Tryz.prog w = .ok (.slice (some ⟨w.heap.size, 0, none⟩) n n) (w.alloc (.cells (f n) 34)) := madeK _ _ 9 (by omega) Tryz.underlying96 (by kernel_rfl)
theorem inf_Place : (Tryz.prog.info? 36).map (·.size) = some 9 := by kernel_rfl
theorem infz_Place : ∃ i z, Tryz.prog.info? 36 = some i ∧ i.zero = some z ∧ z.cells.size = 9 := info_z (by kernel_rfl)
theorem made_Place : ∃ f : Nat → Array Value, (∀ n, (f n).size = n * 9) ∧ ∀ (n : Nat) (w : World), n ≤ 1048576 → (Instr.makeSlice 129 (.int .i64 (n : Int)) (.int .i64 (n : Int))).run Tryz.prog w = .ok (.slice (some ⟨w.heap.size, 0, none⟩) n n) (w.alloc (.cells (f n) 36)) := madeK _ _ 9 (by omega) Tryz.underlying129 (by kernel_rfl)
theorem inf_Pack : (Tryz.prog.info? 32).map (·.size) = some 9 := by kernel_rfl
theorem infz_Pack : ∃ i z, Tryz.prog.info? 32 = some i ∧ i.zero = some z ∧ z.cells.size = 9 := info_z (by kernel_rfl)
theorem made_Pack : ∃ f : Nat → Array Value, (∀ n, (f n).size = n * 9) ∧ ∀ (n : Nat) (w : World), n ≤ 1048576 → (Instr.makeSlice 93 (.int .i64 (n : Int)) (.int .i64 (n : Int))).run Tryz.prog w = .ok (.slice (some ⟨w.heap.size, 0, none⟩) n n) (w.alloc (.cells (f n) 32)) := madeK _ _ 9 (by omega) Tryz.underlying93 (by kernel_rfl)
theorem inf_wish : (Tryz.prog.info? 62).map (·.size) = some 2 := by kernel_rfl
theorem infz_wish : ∃ i z, Tryz.prog.info? 62 = some i ∧ i.zero = some z ∧ z.cells.size = 2 := info_z (by kernel_rfl)
theorem made_wish : ∃ f : Nat → Array Value, (∀ n, (f n).size = n * 2) ∧ ∀ (n : Nat) (w : World), n ≤ 1048576 → (Instr.makeSlice 63 (.int .i64 (n : Int)) (.int .i64 (n : Int))).run Tryz.prog w = .ok (.slice (some ⟨w.heap.size, 0, none⟩) n n) (w.alloc (.cells (f n) 62)) := madeK _ _ 2 (by omega) Tryz.underlying63 (by kernel_rfl)
end Go.Proofs.YtgdkionmeacalabGreat
end
section
namespace Go.Proofs.YtgdkionmeacalabGreat
open Go.RowKit
set_option linter.unusedVariables false
set_option linter.unusedSimpArgs false
set_option maxHeartbeats 4000000
/-- a widget with what it asks for and its kids, as it lies in memory -/
structure Wd where
  p : Nr
  sw : Int
  sh : Int
  ka : Option Addr
  kn : Nat
  kc : Nat
def valsWd (x : Wd) : List Value := valsNr x.p ++ [.int .i64 x.sw, .int .i64 x.sh, .slice x.ka x.kn x.kc]
theorem valsWd_len (x : Wd) : (valsWd x).length = 37 := rfl
theorem valsWd_one (x : Wd) : one (valsWd x) := by
  intro v hv
  rcases List.mem_append.1 hv with h | h
  · exact valsNr_one _ v h
  · simp only [List.mem_cons, List.not_mem_nil, or_false] at h
    rcases h with rfl | rfl | rfl <;> rfl
def ceW (x : Wd) : Ce := { x.p.n.ce with cw := x.sw, ch := x.sh }
def pkW (x : Wd) : Pk := { x.p.n.pk with w := x.sw, h := x.sh }
def valsPk (p : Pk) : List Value := [.int .i64 p.w, .int .i64 p.h, .int .i64 p.s, .bool p.fx, .bool p.fy, .bool p.ex, .int .i64 p.an, .int .i64 p.px, .int .i64 p.py]
def valsPl (p : Plc) : List Value := [.int .i64 p.x, .int .i64 p.y, .int .i64 p.rx, .int .i64 p.ry, .int .i64 p.ww, .int .i64 p.hh, .int .i64 p.qw, .int .i64 p.qh, .int .i64 p.an]
def valsWi (q : Int × Int) : List Value := [.int .i64 q.1, .int .i64 q.2]
def gd (vs : List Value) (i : Nat) : Value := vs.getD i undef
def uCe (vs : List Value) : List Value := [gd vs 16, gd vs 17, gd vs 18, gd vs 19, gd vs 34, gd vs 35, gd vs 22, gd vs 23, gd vs 24]
def uPk (vs : List Value) : List Value := [gd vs 34, gd vs 35, gd vs 9, gd vs 10, gd vs 11, gd vs 12, gd vs 13, gd vs 14, gd vs 15]
def uPl (vs : List Value) : List Value := [gd vs 25, gd vs 26, gd vs 27, gd vs 28, gd vs 29, gd vs 30, gd vs 31, gd vs 32, gd vs 33]
def uWi (vs : List Value) : List Value := [gd vs 34, gd vs 35]
theorem uCe_eq (x : Wd) : uCe (valsWd x) = valsCe (ceW x) := rfl
theorem uPk_eq (x : Wd) : uPk (valsWd x) = valsPk (pkW x) := rfl
theorem uPl_eq (x : Wd) : uPl (valsWd x) = valsPl x.p.n.pl := rfl
theorem uWi_eq (x : Wd) : uWi (valsWd x) = valsWi (x.sw, x.sh) := rfl
theorem valsCe_one (p : Ce) : one (valsCe p) := by
  intro v hv
  simp only [valsCe, List.mem_cons, List.not_mem_nil, or_false] at hv
  rcases hv with rfl | rfl | rfl | rfl | rfl | rfl | rfl | rfl | rfl <;> rfl
theorem valsPk_one (p : Pk) : one (valsPk p) := by
  intro v hv
  simp only [valsPk, List.mem_cons, List.not_mem_nil, or_false] at hv
  rcases hv with rfl | rfl | rfl | rfl | rfl | rfl | rfl | rfl | rfl <;> rfl
theorem valsPl_one (p : Plc) : one (valsPl p) := by
  intro v hv
  simp only [valsPl, List.mem_cons, List.not_mem_nil, or_false] at hv
  rcases hv with rfl | rfl | rfl | rfl | rfl | rfl | rfl | rfl | rfl <;> rfl
theorem valsWi_one (p : Int × Int) : one (valsWi p) := by
  intro v hv
  simp only [valsWi, List.mem_cons, List.not_mem_nil, or_false] at hv
  rcases hv with rfl | rfl <;> rfl
theorem bp_retcell {P : Program} {fn : Func} {R : Ending → World → Prop} {a : Act} {w : World} (t : Nat) (T : TypeId) (g : Nat) (vs : List Value) {d : TypeDesc} (hr : fn.results = #[.cell t T]) (ht : a.tmps.getD t undef = .pointer (some ⟨g, 0, none⟩)) (hc : w.rangeAt g 0 vs) (hu : P.underlying T = some d) (hd : d.isRow = true) (hi : (P.info? T).map (·.size) = some vs.length) (h0 : a.defers = []) (hR : R (.returned (.agg vs.toArray)) w) : bodyPost P fn R .ret a w := by
  refine bodyPost_ret (v := .agg vs.toArray) ?_ h0 hR
  have ht' : a.tmps[t]?.getD undef = .pointer (some ⟨g, 0, none⟩) := by rw [← Array.getD_eq_getD_getElem?]; exact ht
  simp [results, hr, ht', asAddr, run_loadVar_mid w g 0 T vs d hc hu hd hi]
set_option maxRecDepth 100000 in
theorem asCell_v (x : Wd) (w : World) : Calls Tryz.prog 86 #[.agg (valsWd x).toArray] w fun e w' => e = .returned (.agg (valsCe (ceW x)).toArray) ∧ Below w.heap.size w w' := by
  refine calls_abs Tryz.func86 rfl 18 (by simp only [Tryz.ntmps86]) (by simp) (fun t hsz hargs => ?_)
  have q0 : t[0]? = some (.agg (valsWd x).toArray) := get_of (by omega) (hargs 0 _ rfl)
  clear hargs
  obtain ⟨l0, e0⟩ := Array.getElem?_eq_some_iff.1 q0
  refine wp_seq_h fun K hK => ?_
  apply wp_region_lit
  repeat (first | ((with_reducible show wpList _ _ _ _ _ _); refine allocK 34 9 rfl rfl infz_Cell (fun z hz => ?_)) | go_step)
  refine hK.out _ _ ?_
  clear hK K
  refine wp_abw (fun t' W' => t'.size = 18 ∧ t'[1]? = some (.pointer (some ⟨w.heap.size, 0, none⟩)) ∧ t'[2]? = some (.pointer (some ⟨w.heap.size + 1, 0, none⟩)) ∧ W'.heap[w.heap.size]? = some (.cells (valsWd x).toArray 87 (0, 0)) ∧ (∃ z : Array Value, W'.heap[w.heap.size + 1]? = some (.cells z 34 (0, 0)) ∧ z.size = 9) ∧ Below w.heap.size w W') ⟨by simp [hsz], by simp [hsz], by simp [hsz], ⟨(Below.heap_alloc _ _ _ (by simp)).trans (newS _ _), ⟨z, by have := newS (w.alloc (.cells (valsWd x).toArray 87)) (.cells z 34); simpa using this, hz⟩, (balloc (Below.refl _ _)).trans ((balloc (Below.refl _ _)).mono (by simp))⟩⟩ ?_
  clear hsz q0 l0 e0 t z hz
  rintro t W1 ⟨hsz, q1, q2, H1, ⟨z, H2, hz⟩, hB⟩
  have x34 := cellS H1 34
  have x35 := cellS H1 35
  have f1 := frozenS H1 20
  have f2 := frozenS H1 21
  obtain ⟨y1, z1⟩ := thereS H1 (i := 20) (by show 20 < 37; omega)
  obtain ⟨y2, z2⟩ := thereS H1 (i := 21) (by show 21 < 37; omega)
  have hlx := ltS H1
  rw [show (valsWd x).toArray[34]? = some (.int .i64 x.sw) from rfl] at x34
  rw [show (valsWd x).toArray[35]? = some (.int .i64 x.sh) from rfl] at x35
  obtain ⟨l1, e1⟩ := Array.getElem?_eq_some_iff.1 q1
  obtain ⟨l2, e2⟩ := Array.getElem?_eq_some_iff.1 q2
  refine wp_seq_h fun K hK => ?_
  apply wp_region_lit
  repeat (first | go_step)
  refine hK.out _ _ ?_
  clear hK K
  refine wp_abw (fun t' W' => t'.size = 18 ∧ t'[1]? = some (.pointer (some ⟨w.heap.size, 0, none⟩)) ∧ t'[2]? = some (.pointer (some ⟨w.heap.size + 1, 0, none⟩)) ∧ W'.rangeAt w.heap.size 16 (valsCe (ceW x)) ∧ (∃ z : Array Value, W'.heap[w.heap.size + 1]? = some (.cells z 34 (0, 0)) ∧ z.size = 9) ∧ Below w.heap.size w W') ⟨by simp [hsz], by simp [q1], by simp [q2], ⟨fun j v hj => (cellS (putS (putS H1 _) _) _).trans (by (iterate 9 (rcases j with _ | j; first | exact hj | skip)); simp [valsCe] at hj), ⟨z, (Below.heap_setCell _ ⟨w.heap.size, _, none⟩ _ _ (by simp)).trans ((Below.heap_setCell _ ⟨w.heap.size, _, none⟩ _ _ (by simp)).trans H2), hz⟩, (hB.setCell (p := ⟨w.heap.size, _, none⟩) (by simp) _).setCell (p := ⟨w.heap.size, _, none⟩) (by simp) _⟩⟩ ?_
  clear hsz q1 l1 e1 q2 l2 e2 t x34 x35 f1 f2 z1 z2 y1 y2 H1 H2 hB hlx W1 z hz
  rintro t W2 ⟨hsz, q1, q2, hr, ⟨z, H2, hz⟩, hB⟩
  have HR := Lib.hid hr
  have hth : W2.there (w.heap.size + 1) 0 (valsCe (ceW x)).length := thereB H2 (by rw [hz]; show 0 + 9 ≤ 9; omega)
  have HTH := Lib.hid hth
  clear hr hth
  obtain ⟨l1, e1⟩ := Array.getElem?_eq_some_iff.1 q1
  obtain ⟨l2, e2⟩ := Array.getElem?_eq_some_iff.1 q2
  refine wp_seq_h fun K hK => ?_
  apply wp_region_lit
  repeat (first | ((with_reducible show wpList _ _ _ _ _ _); refine ldK 34 _ (valsCe (ceW x)) w.heap.size 16 rfl rfl HR.out Tryz.underlying34 rfl inf_Cell (by simp [Act.eval, Act.put, hsz]) ?_) | ((with_reducible show wpList _ _ _ _ _ _); refine stK 34 _ _ (valsCe (ceW x)) (w.heap.size + 1) 0 rfl rfl HTH.out inf_Cell (valsCe_one _) (by simp [Act.eval, Act.put, hsz, e2]) (by simp [Act.eval, Act.put, hsz]) ?_) | go_step)
  refine hK.out _ _ ?_
  clear hK K
  apply wp_ret
  refine bp_retcell 2 34 (w.heap.size + 1) (valsCe (ceW x)) Tryz.results86 ?_ (World.rangeAt_setCells_same _ _ _ _ HTH.out) Tryz.underlying34 rfl inf_Cell rfl ⟨rfl, below_setCells (by omega) _ _ _ hB⟩
  simp [Act.put, hsz, e2]
set_option maxRecDepth 100000 in
theorem asPack_v (x : Wd) (w : World) : Calls Tryz.prog 90 #[.agg (valsWd x).toArray] w fun e w' => e = .returned (.agg (valsPk (pkW x)).toArray) ∧ Below w.heap.size w w' := by
  refine calls_abs Tryz.func90 rfl 18 (by simp only [Tryz.ntmps90]) (by simp) (fun t hsz hargs => ?_)
  have q0 : t[0]? = some (.agg (valsWd x).toArray) := get_of (by omega) (hargs 0 _ rfl)
  clear hargs
  obtain ⟨l0, e0⟩ := Array.getElem?_eq_some_iff.1 q0
  refine wp_seq_h fun K hK => ?_
  apply wp_region_lit
  repeat (first | ((with_reducible show wpList _ _ _ _ _ _); refine allocK 32 9 rfl rfl infz_Pack (fun z hz => ?_)) | go_step)
  refine hK.out _ _ ?_
  clear hK K
  refine wp_abw (fun t' W' => t'.size = 18 ∧ t'[1]? = some (.pointer (some ⟨w.heap.size, 0, none⟩)) ∧ t'[2]? = some (.pointer (some ⟨w.heap.size + 1, 0, none⟩)) ∧ W'.heap[w.heap.size]? = some (.cells (valsWd x).toArray 87 (0, 0)) ∧ (∃ z : Array Value, W'.heap[w.heap.size + 1]? = some (.cells z 32 (0, 0)) ∧ z.size = 9) ∧ Below w.heap.size w W') ⟨by simp [hsz], by simp [hsz], by simp [hsz], ⟨(Below.heap_alloc _ _ _ (by simp)).trans (newS _ _), ⟨z, by have := newS (w.alloc (.cells (valsWd x).toArray 87)) (.cells z 32); simpa using this, hz⟩, (balloc (Below.refl _ _)).trans ((balloc (Below.refl _ _)).mono (by simp))⟩⟩ ?_
  clear hsz q0 l0 e0 t z hz
  rintro t W1 ⟨hsz, q1, q2, H1, ⟨z, H2, hz⟩, hB⟩
  have x34 := cellS H1 34
  have x35 := cellS H1 35
  have f1 := frozenS H1 7
  have f2 := frozenS H1 8
  obtain ⟨y1, z1⟩ := thereS H1 (i := 7) (by show 7 < 37; omega)
  obtain ⟨y2, z2⟩ := thereS H1 (i := 8) (by show 8 < 37; omega)
  have hlx := ltS H1
  rw [show (valsWd x).toArray[34]? = some (.int .i64 x.sw) from rfl] at x34
  rw [show (valsWd x).toArray[35]? = some (.int .i64 x.sh) from rfl] at x35
  obtain ⟨l1, e1⟩ := Array.getElem?_eq_some_iff.1 q1
  obtain ⟨l2, e2⟩ := Array.getElem?_eq_some_iff.1 q2
  refine wp_seq_h fun K hK => ?_
  apply wp_region_lit
  repeat (first | go_step)
  refine hK.out _ _ ?_
  clear hK K
  refine wp_abw (fun t' W' => t'.size = 18 ∧ t'[1]? = some (.pointer (some ⟨w.heap.size, 0, none⟩)) ∧ t'[2]? = some (.pointer (some ⟨w.heap.size + 1, 0, none⟩)) ∧ W'.rangeAt w.heap.size 7 (valsPk (pkW x)) ∧ (∃ z : Array Value, W'.heap[w.heap.size + 1]? = some (.cells z 32 (0, 0)) ∧ z.size = 9) ∧ Below w.heap.size w W') ⟨by simp [hsz], by simp [q1], by simp [q2], ⟨fun j v hj => (cellS (putS (putS H1 _) _) _).trans (by (iterate 9 (rcases j with _ | j; first | exact hj | skip)); simp [valsPk] at hj), ⟨z, (Below.heap_setCell _ ⟨w.heap.size, _, none⟩ _ _ (by simp)).trans ((Below.heap_setCell _ ⟨w.heap.size, _, none⟩ _ _ (by simp)).trans H2), hz⟩, (hB.setCell (p := ⟨w.heap.size, _, none⟩) (by simp) _).setCell (p := ⟨w.heap.size, _, none⟩) (by simp) _⟩⟩ ?_
  clear hsz q1 l1 e1 q2 l2 e2 t x34 x35 f1 f2 z1 z2 y1 y2 H1 H2 hB hlx W1 z hz
  rintro t W2 ⟨hsz, q1, q2, hr, ⟨z, H2, hz⟩, hB⟩
  have HR := Lib.hid hr
  have hth : W2.there (w.heap.size + 1) 0 (valsPk (pkW x)).length := thereB H2 (by rw [hz]; show 0 + 9 ≤ 9; omega)
  have HTH := Lib.hid hth
  clear hr hth
  obtain ⟨l1, e1⟩ := Array.getElem?_eq_some_iff.1 q1
  obtain ⟨l2, e2⟩ := Array.getElem?_eq_some_iff.1 q2
  refine wp_seq_h fun K hK => ?_
  apply wp_region_lit
  repeat (first | ((with_reducible show wpList _ _ _ _ _ _); refine ldK 32 _ (valsPk (pkW x)) w.heap.size 7 rfl rfl HR.out Tryz.underlying32 rfl inf_Pack (by simp [Act.eval, Act.put, hsz]) ?_) | ((with_reducible show wpList _ _ _ _ _ _); refine stK 32 _ _ (valsPk (pkW x)) (w.heap.size + 1) 0 rfl rfl HTH.out inf_Pack (valsPk_one _) (by simp [Act.eval, Act.put, hsz, e2]) (by simp [Act.eval, Act.put, hsz]) ?_) | go_step)
  refine hK.out _ _ ?_
  clear hK K
  apply wp_ret
  refine bp_retcell 2 32 (w.heap.size + 1) (valsPk (pkW x)) Tryz.results90 ?_ (World.rangeAt_setCells_same _ _ _ _ HTH.out) Tryz.underlying32 rfl inf_Pack rfl ⟨rfl, below_setCells (by omega) _ _ _ hB⟩
  simp [Act.put, hsz, e2]
set_option maxRecDepth 100000 in
theorem asPlace_v (x : Wd) (w : World) : Calls Tryz.prog 88 #[.agg (valsWd x).toArray] w fun e w' => e = .returned (.agg (valsPl x.p.n.pl).toArray) ∧ Below w.heap.size w w' := by
  refine calls_abs Tryz.func88 rfl 6 (by simp only [Tryz.ntmps88]) (by simp) (fun t hsz hargs => ?_)
  have q0 : t[0]? = some (.agg (valsWd x).toArray) := get_of (by omega) (hargs 0 _ rfl)
  clear hargs
  obtain ⟨l0, e0⟩ := Array.getElem?_eq_some_iff.1 q0
  refine wp_seq_h fun K hK => ?_
  apply wp_region_lit
  repeat (first | ((with_reducible show wpList _ _ _ _ _ _); refine allocK 36 9 rfl rfl infz_Place (fun z hz => ?_)) | go_step)
  refine hK.out _ _ ?_
  clear hK K
  refine wp_abw (fun t' W' => t'.size = 6 ∧ t'[1]? = some (.pointer (some ⟨w.heap.size, 0, none⟩)) ∧ t'[2]? = some (.pointer (some ⟨w.heap.size + 1, 0, none⟩)) ∧ W'.heap[w.heap.size]? = some (.cells (valsWd x).toArray 87 (0, 0)) ∧ (∃ z : Array Value, W'.heap[w.heap.size + 1]? = some (.cells z 36 (0, 0)) ∧ z.size = 9) ∧ Below w.heap.size w W') ⟨by simp [hsz], by simp [hsz], by simp [hsz], ⟨(Below.heap_alloc _ _ _ (by simp)).trans (newS _ _), ⟨z, by have := newS (w.alloc (.cells (valsWd x).toArray 87)) (.cells z 36); simpa using this, hz⟩, (balloc (Below.refl _ _)).trans ((balloc (Below.refl _ _)).mono (by simp))⟩⟩ ?_
  clear hsz q0 l0 e0 t z hz
  rintro t W1 ⟨hsz, q1, q2, H1, ⟨z, H2, hz⟩, hB⟩
  have hr : W1.rangeAt w.heap.size 25 (valsPl x.p.n.pl) := fun j v hj => (cellS H1 _).trans (by (iterate 9 (rcases j with _ | j; first | exact hj | skip)); simp [valsPl] at hj)
  clear H1
  have HR := Lib.hid hr
  have hth : W1.there (w.heap.size + 1) 0 (valsPl x.p.n.pl).length := thereB H2 (by rw [hz]; show 0 + 9 ≤ 9; omega)
  have HTH := Lib.hid hth
  clear hr hth
  obtain ⟨l1, e1⟩ := Array.getElem?_eq_some_iff.1 q1
  obtain ⟨l2, e2⟩ := Array.getElem?_eq_some_iff.1 q2
  refine wp_seq_h fun K hK => ?_
  apply wp_region_lit
  repeat (first | ((with_reducible show wpList _ _ _ _ _ _); refine ldK 36 _ (valsPl x.p.n.pl) w.heap.size 25 rfl rfl HR.out Tryz.underlying36 rfl inf_Place (by simp [Act.eval, Act.put, hsz]) ?_) | ((with_reducible show wpList _ _ _ _ _ _); refine stK 36 _ _ (valsPl x.p.n.pl) (w.heap.size + 1) 0 rfl rfl HTH.out inf_Place (valsPl_one _) (by simp [Act.eval, Act.put, hsz, e2]) (by simp [Act.eval, Act.put, hsz]) ?_) | go_step)
  refine hK.out _ _ ?_
  clear hK K
  apply wp_ret
  refine bp_retcell 2 36 (w.heap.size + 1) (valsPl x.p.n.pl) Tryz.results88 ?_ (World.rangeAt_setCells_same _ _ _ _ HTH.out) Tryz.underlying36 rfl inf_Place rfl ⟨rfl, below_setCells (by omega) _ _ _ hB⟩
  simp [Act.put, hsz, e2]
set_option maxRecDepth 100000 in
theorem asked_v (x : Wd) (w : World) : Calls Tryz.prog 51 #[.agg (valsWd x).toArray] w fun e w' => e = .returned (.agg (valsWi (x.sw, x.sh)).toArray) ∧ Below w.heap.size w w' := by
  refine calls_abs Tryz.func51 rfl 5 (by simp only [Tryz.ntmps51]) (by simp) (fun t hsz hargs => ?_)
  have q0 : t[0]? = some (.agg (valsWd x).toArray) := get_of (by omega) (hargs 0 _ rfl)
  clear hargs
  obtain ⟨l0, e0⟩ := Array.getElem?_eq_some_iff.1 q0
  refine wp_seq_h fun K hK => ?_
  apply wp_region_lit
  repeat (first | ((with_reducible show wpList _ _ _ _ _ _); refine allocK 62 2 rfl rfl infz_wish (fun z hz => ?_)) | go_step)
  refine hK.out _ _ ?_
  clear hK K
  refine wp_abw (fun t' W' => t'.size = 5 ∧ t'[1]? = some (.pointer (some ⟨w.heap.size, 0, none⟩)) ∧ t'[2]? = some (.pointer (some ⟨w.heap.size + 1, 0, none⟩)) ∧ W'.heap[w.heap.size]? = some (.cells (valsWd x).toArray 87 (0, 0)) ∧ (∃ z : Array Value, W'.heap[w.heap.size + 1]? = some (.cells z 62 (0, 0)) ∧ z.size = 2) ∧ Below w.heap.size w W') ⟨by simp [hsz], by simp [hsz], by simp [hsz], ⟨(Below.heap_alloc _ _ _ (by simp)).trans (newS _ _), ⟨z, by have := newS (w.alloc (.cells (valsWd x).toArray 87)) (.cells z 62); simpa using this, hz⟩, (balloc (Below.refl _ _)).trans ((balloc (Below.refl _ _)).mono (by simp))⟩⟩ ?_
  clear hsz q0 l0 e0 t z hz
  rintro t W1 ⟨hsz, q1, q2, H1, ⟨z, H2, hz⟩, hB⟩
  have hr : W1.rangeAt w.heap.size 34 (valsWi (x.sw, x.sh)) := fun j v hj => (cellS H1 _).trans (by (iterate 2 (rcases j with _ | j; first | exact hj | skip)); simp [valsWi] at hj)
  clear H1
  have HR := Lib.hid hr
  have hth : W1.there (w.heap.size + 1) 0 (valsWi (x.sw, x.sh)).length := thereB H2 (by rw [hz]; show 0 + 2 ≤ 2; omega)
  have HTH := Lib.hid hth
  clear hr hth
  obtain ⟨l1, e1⟩ := Array.getElem?_eq_some_iff.1 q1
  obtain ⟨l2, e2⟩ := Array.getElem?_eq_some_iff.1 q2
  refine wp_seq_h fun K hK => ?_
  apply wp_region_lit
  repeat (first | ((with_reducible show wpList _ _ _ _ _ _); refine ldK 62 _ (valsWi (x.sw, x.sh)) w.heap.size 34 rfl rfl HR.out Tryz.underlying62 rfl inf_wish (by simp [Act.eval, Act.put, hsz]) ?_) | ((with_reducible show wpList _ _ _ _ _ _); refine stK 62 _ _ (valsWi (x.sw, x.sh)) (w.heap.size + 1) 0 rfl rfl HTH.out inf_wish (valsWi_one _) (by simp [Act.eval, Act.put, hsz, e2]) (by simp [Act.eval, Act.put, hsz]) ?_) | go_step)
  refine hK.out _ _ ?_
  clear hK K
  apply wp_ret
  refine bp_retcell 2 62 (w.heap.size + 1) (valsWi (x.sw, x.sh)) Tryz.results51 ?_ (World.rangeAt_setCells_same _ _ _ _ HTH.out) Tryz.underlying62 rfl inf_wish rfl ⟨rfl, below_setCells (by omega) _ _ _ hB⟩
  simp [Act.put, hsz, e2]
end Go.Proofs.YtgdkionmeacalabGreat
end
section
namespace Go.Proofs.YtgdkionmeacalabGreat
open Go.RowKit
set_option linter.unusedVariables false
set_option linter.unusedSimpArgs false
set_option maxHeartbeats 4000000

theorem own_bw {w w' : World} {base : Nat} {e : TypeId} {size : Nat} {v : Value} {n : Nat} {xs : List Value} (h : w.ownsRow base e size v n xs) (hb : Below w.heap.size w w') : w'.ownsRow base e size v n xs :=
  h.kept (row := none) ⟨hb.os, hb.tape, hb.output, hb.size, fun k hk _ => hb.block k hk⟩ (by cases v.ownBlock <;> simp)
/-- the indices below a number for which something holds -/
def idsN (f : Nat → Bool) (n : Nat) : List Nat := (List.range n).filter f
def idsM (f : Nat → Bool) (n : Nat) : List Int := (idsN f n).map (fun (k : Nat) => (k : Int))
theorem idsM_yes {f : Nat → Bool} {k : Nat} (h : f k = true) : idsM f (k + 1) = idsM f k ++ [(k : Int)] := by simp [idsM, idsN, List.range_succ, List.filter_append, h]
theorem idsM_no {f : Nat → Bool} {k : Nat} (h : f k = false) : idsM f (k + 1) = idsM f k := by simp [idsM, idsN, List.range_succ, List.filter_append, h]
theorem idsM_len (f : Nat → Bool) (k : Nat) : (idsM f k).length ≤ k := by
  unfold idsM idsN
  rw [List.length_map]
  exact Nat.le_trans (List.length_filter_le _ _) (by simp)
/-- a value that is a slice that reads as this list -/
def KdV (w : World) (v : Value) (L : List Int) : Prop := ∃ A c, v = .slice A L.length c ∧ NV w A L ∧ L.length ≤ c
theorem KdV.keep {w w' : World} {v : Value} {L : List Int} (h : KdV w v L) (hb : Below w.heap.size w w') : KdV w' v L := let ⟨A, c, e, q, hc⟩ := h; ⟨A, c, e, q.keep hb, hc⟩
theorem KdV.of {w : World} {base : Nat} {v : Value} {L : List Int} (h : w.ownsRow base 3 1 v L.length (nvalsW L)) : KdV w v L := by
  rcases own_inW h rfl with ⟨rfl, hM⟩ | ⟨g, cap, rfl, hbg, hO⟩
  · exact ⟨none, 0, by rw [hM]; rfl, ⟨fun h0 => absurd h0 (by rw [hM]; simp)⟩, by rw [hM]; simp⟩
  · exact ⟨_, cap, rfl, hO.nv, hO.1⟩
end Go.Proofs.YtgdkionmeacalabGreat
end
section
namespace Go.Proofs.YtgdkionmeacalabGreat
open Go.RowKit
set_option linter.unusedVariables false
set_option linter.unusedSimpArgs false
set_option maxHeartbeats 4000000
attribute [local go_sem] growUpon_value growUpon_skip growUpon_enter

def isKid (R : List Nr) (i : Int) (k : Nat) : Bool := match R[k]? with
  | some p => p.n.pa == i
  | none => false
def kidsN (R : List Nr) (i : Int) : List Nat := idsN (isKid R i) R.length
def kidsM (R : List Nr) (i : Int) : List Int := idsM (isKid R i) R.length
theorem isKid_at {R : List Nr} {i : Int} {k : Nat} {p : Nr} (h : R[k]? = some p) : isKid R i k = (p.n.pa == i) := by unfold isKid; rw [h]
set_option maxRecDepth 100000 in
theorem kid1_v (A : Option Addr) (c : Nat) (R : List Nr) (i : Int) (k bt bi : Nat) (w : World) (h : NrV w A R) (hk : k < R.length) (ht : w.cell? ⟨bt, 0, none⟩ = some (.slice A R.length c)) (hi : w.cell? ⟨bi, 0, none⟩ = some (.int .i64 i)) (lt : bt < w.heap.size) (li : bi < w.heap.size) (hL : R.length ≤ 1048576) :
    Calls Tryz.prog 110 #[.int .i64 (k : Int), .pointer (some ⟨bt, 0, none⟩), .pointer (some ⟨bi, 0, none⟩)] w fun e w' => e = .returned (.bool (isKid R i k)) ∧ Below w.heap.size w w' := by
  have hget : R[k]? = some R[k] := List.getElem?_eq_getElem hk
  obtain ⟨b, off, rfl, hb, hp⟩ := h.cells (by omega)
  have x0 : w.cell? ⟨b, off + k * 34, none⟩ = some (.int .i64 R[k].n.pa) := hp k _ hget 0 _ rfl
  rw [isKid_at hget]
  generalize R[k] = p at *
  have hd1 : (k : Int) < (R.length : Int) := by omega
  clear hget hp h
  go_enter Tryz.func110, Tryz.ntmps110
  go_wp2_with fail
  refine wp_region_grow 8 1 (· < 8) (by kernel_rfl) (by kernel_rfl) rfl ?_
  iterate 8 (refine wpG_step (fun K hK => ?_); first | (refine grow_skip rfl ?_; go_simp; refine hK _ ?_; clear hK K) | (apply Exists.intro; refine ⟨.inl ⟨rfl, fun w' hw' => ?_⟩, ?_⟩; (focus ((obtain ⟨hc, hf⟩ := bcell hw'.out); (have hcS := bcellS hw'.out); go_simp <;> first | rfl)); (go_simp; refine hK _ ?_; clear hK K)))
  refine wpG_nil ?_
  refine wpK_tail (by kernel_rfl) (fun wa hga => ?_)
  have hba := bdrewn hga.out
  obtain ⟨hca, hfa⟩ := bcell hba
  refine wpAny_one (i := 8) (by kernel_rfl) rfl rfl ?_
  go_simp
  refine wpAny_end (by kernel_rfl) ?_
  refine NoPan.thn ?_
  clear hca hfa
  clear hga
  go_wp2
  go_ret
  exact ⟨rfl, hba⟩
end Go.Proofs.YtgdkionmeacalabGreat
end
