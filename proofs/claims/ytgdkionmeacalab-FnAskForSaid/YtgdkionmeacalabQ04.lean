import Derived.Test.YtgdkionmeacalabQ03
import Derived.Deep.Draws
import Derived.Deep.MidRow
import Derived.OrdersIn
import Derived.TacticsIn
import Derived.RangeFuncCalls
import Derived.OwnWalk
import Derived.LoopTactic
section
namespace Go.Proofs.Ytgdkionmeacalab
open Go.RowKit
set_option linter.unusedVariables false
set_option maxHeartbeats 8000000
/-- a marked widget -/
def mkB (z : Int) : Bool := z % 3 == 0
def mkN (z : Int) (p : Nr) : Nr :=
  let y := z + 5 + 2 * p.n.cs.length + 2 * p.n.rs.length
  ⟨⟨z, z + 1, z + 2, mkB (z + 3), z + 4, p.n.cs, p.n.rs, ⟨y, y + 1, y + 2, mkB (y + 3), mkB (y + 4), mkB (y + 5), y + 6, y + 7, y + 8⟩, ⟨y + 9, y + 10, y + 11, y + 12, y + 13, y + 14, y + 15, y + 16, y + 17⟩, ⟨y + 18, y + 19, y + 20, y + 21, y + 22, y + 23, y + 24, y + 25, y + 26⟩⟩, p.ca, p.cc, p.ra, p.rc⟩
def mkW (p : Nr) : Int := 32 + 2 * p.n.cs.length + 2 * p.n.rs.length
def mkS : List Nr → Int
  | [] => 0
  | p :: t => mkW p + mkS t
/-- a world that has changed in the blocks from lo up to hi alone -/
structure Wi (lo hi : Nat) (w w' : World) : Prop where
  os : w'.os = w.os
  tape : w'.tape = w.tape
  output : w'.output = w.output
  size : w.heap.size ≤ w'.heap.size
  block : ∀ k, k < w.heap.size → ¬ (lo ≤ k ∧ k < hi) → w'.heap[k]? = w.heap[k]?
theorem Wi.refl (lo hi : Nat) (w : World) : Wi lo hi w w := ⟨rfl, rfl, rfl, Nat.le_refl _, fun _ _ _ => rfl⟩
theorem Wi.grown {lo hi g : Nat} {a w w' : World} (h : Wi lo hi a w) (hg : w.grownBy w' (some g)) (hb : (lo ≤ g ∧ g < hi) ∨ a.heap.size ≤ g) : Wi lo hi a w' :=
  ⟨hg.os.trans h.os, hg.tape.trans h.tape, hg.output.trans h.output, Nat.le_trans h.size hg.size, fun k hk hn => by
    have hne : k ≠ g := by rintro rfl; rcases hb with hb | hb <;> omega
    exact (hg.block k (Nat.lt_of_lt_of_le hk h.size) (fun e => hne (Option.some.inj e))).trans (h.block k hk hn)⟩
theorem Wi.set {lo hi g o : Nat} {a w : World} (h : Wi lo hi a w) (hb : lo ≤ g ∧ g < hi) (v : Value) : Wi lo hi a (w.setCell ⟨g, o, none⟩ v) := h.grown (gsetS (greflS w g) o v) (.inl hb)
theorem Wi.below {lo hi : Nat} {a w w' : World} (h : Wi lo hi a w) (hb : Below w.heap.size w w') : Wi lo hi a w' :=
  ⟨hb.os.trans h.os, hb.tape.trans h.tape, hb.output.trans h.output, Nat.le_trans h.size hb.size, fun k hk hn => (hb.block k (Nat.lt_of_lt_of_le hk h.size)).trans (h.block k hk hn)⟩
/-- the state in the midst of marking the widget k: l are its first cells -/
def MidN (w : World) (g n k : Nat) (cs0 : Array Value) (l : List Value) (s5 s6 : Value) : Prop :=
  ∃ cs : Array Value, w.heap[g]? = some (.cells cs 39 (0, 0)) ∧ cs.size = n * 34 ∧ (∀ i, i < k * 34 ∨ (k + 1) * 34 ≤ i → cs[i]? = cs0[i]?) ∧ InS cs (k * 34) l ∧ cs[k * 34 + 5]? = some s5 ∧ cs[k * 34 + 6]? = some s6
theorem MidN.put {w : World} {g n k : Nat} {cs0 : Array Value} {l : List Value} {s5 s6 : Value} (h : MidN w g n k cs0 l s5 s6) (hk : k < n) (j : Nat) (hj : j = l.length) (hj34 : j < 34) (h5 : j ≠ 5) (h6 : j ≠ 6) (v : Value) : MidN (w.setCell ⟨g, k * 34 + j, none⟩ v) g n k cs0 (l ++ [v]) s5 s6 := by
  subst hj
  obtain ⟨cs, hh, hs, ho, hl, e5, e6⟩ := h
  have hsz : k * 34 + l.length < cs.size := by omega
  refine ⟨_, putS hh v, by simpa using hs, fun i hi => ?_, fun j u hu => ?_, ?_, ?_⟩
  · rw [Array.getElem?_setIfInBounds_ne (by omega)]; exact ho i hi
  · by_cases hj : j < l.length
    · rw [List.getElem?_append_left hj] at hu
      rw [Array.getElem?_setIfInBounds_ne (by omega)]; exact hl j u hu
    · rw [List.getElem?_append_right (by omega)] at hu
      have hj1 := (List.getElem?_eq_some_iff.1 hu).1
      simp at hj1
      obtain rfl : j = l.length := by omega
      simp at hu
      subst hu
      rw [Array.getElem?_setIfInBounds_self_of_lt hsz]
  · rw [Array.getElem?_setIfInBounds_ne (by omega)]; exact e5
  · rw [Array.getElem?_setIfInBounds_ne (by omega)]; exact e6
theorem MidN.two {w : World} {g n k : Nat} {cs0 : Array Value} {l : List Value} {s5 s6 : Value} (h : MidN w g n k cs0 l s5 s6) (hl : l.length = 5) : MidN w g n k cs0 (l ++ [s5, s6]) s5 s6 := by
  obtain ⟨cs, hh, hs, ho, hi, e5, e6⟩ := h
  refine ⟨cs, hh, hs, ho, fun j u hu => ?_, e5, e6⟩
  by_cases hj : j < l.length
  · rw [List.getElem?_append_left hj] at hu; exact hi j u hu
  · rw [List.getElem?_append_right (by omega), hl] at hu
    have hj1 := (List.getElem?_eq_some_iff.1 hu).1
    simp at hj1
    have hj2 : j = 5 ∨ j = 6 := by omega
    rcases hj2 with rfl | rfl
    · simp at hu; subst hu; exact e5
    · simp at hu; subst hu; exact e6
theorem MidN.keep {w w' : World} {g n k : Nat} {cs0 : Array Value} {l : List Value} {s5 s6 : Value} (h : MidN w g n k cs0 l s5 s6) (hb : w'.heap[g]? = w.heap[g]?) : MidN w' g n k cs0 l s5 s6 := by
  obtain ⟨cs, hh, r⟩ := h
  exact ⟨cs, hb.trans hh, r⟩
theorem MidN.cell {w : World} {g n k : Nat} {cs0 : Array Value} {l : List Value} {s5 s6 : Value} (h : MidN w g n k cs0 l s5 s6) (hk : k < n) {j : Nat} (hj : j < 34) : ∃ v, w.cell? ⟨g, k * 34 + j, none⟩ = some v := by
  obtain ⟨cs, hh, hs, _⟩ := h
  exact thereS hh (by omega)
theorem MidN.frz {w : World} {g n k : Nat} {cs0 : Array Value} {l : List Value} {s5 s6 : Value} (h : MidN w g n k cs0 l s5 s6) (i : Nat) : w.frozen? ⟨g, i, none⟩ = false := by
  obtain ⟨cs, hh, _⟩ := h
  exact frozenS hh i
theorem MidN.c5 {w : World} {g n k : Nat} {cs0 : Array Value} {l : List Value} {s5 s6 : Value} (h : MidN w g n k cs0 l s5 s6) : w.cell? ⟨g, k * 34 + 5, none⟩ = some s5 ∧ w.cell? ⟨g, k * 34 + 6, none⟩ = some s6 := by
  obtain ⟨cs, hh, _, _, _, e5, e6⟩ := h
  exact ⟨(cellS hh _).trans e5, (cellS hh _).trans e6⟩
theorem MidN.lt {w : World} {g n k : Nat} {cs0 : Array Value} {l : List Value} {s5 s6 : Value} (h : MidN w g n k cs0 l s5 s6) : g < w.heap.size := by
  obtain ⟨cs, hh, _⟩ := h
  exact ltS hh
end Go.Proofs.Ytgdkionmeacalab
end
section
namespace Go.Proofs.Ytgdkionmeacalab
open Go.RowKit
set_option linter.unusedVariables false
/-- a call, over a frame of which the arguments and the size alone are known -/
theorem calls_abs {P : Program} {f : FuncId} {fn : Func} {c : Code} {args : Array Value} {w : World} {R : Ending → World → Prop} (hf : P.funcs[f]? = some fn) (hb : fn.body = some c) (N : Nat) (hN : fn.ntmps = N) (hle : args.size ≤ N)
    (h : ∀ tm : Array Value, tm.size = N → (∀ i v, args[i]? = some v → tm.getD i undef = v) → c.wp P (bodyPost P fn R) ⟨tm, []⟩ w) : Calls P f args w R := by
  refine calls_of_wp hf hb (h _ ?_ ?_)
  · simp [hN]; omega
  · intro i v hi
    have hlt := (Array.getElem?_eq_some_iff.1 hi).1
    rw [Array.getD_eq_getD_getElem?, Array.getElem?_append_left hlt, hi]
    rfl
theorem get_of {tm : Array Value} {i : Nat} {v d : Value} (h : i < tm.size) (e : tm.getD i d = v) : tm[i]? = some v := by
  rw [Array.getD_eq_getD_getElem?, Array.getElem?_eq_getElem h] at e
  rw [Array.getElem?_eq_getElem h]; simpa using e
theorem wp_seq_h {P : Program} {Q : Exit → Act → World → Prop} {a : Act} {w : World} {x y : Code} (h : ∀ K : Act → World → Prop, Hid (∀ a w, y.wp P Q a w → K a w) → x.wp P (Exit.then K Q) a w) : (Code.seq x y).wp P Q a w := wp_seq_k fun K hK => h K (Lib.hid hK)
theorem wp_abw {P : Program} {Q : Exit → Act → World → Prop} {tm : Array Value} {w : World} {c : Code} (F : Array Value → World → Prop) (hF : F tm w) (h : ∀ t W, F t W → c.wp P Q ⟨t, []⟩ W) : c.wp P Q ⟨tm, []⟩ w := h tm w hF
end Go.Proofs.Ytgdkionmeacalab
end
section
namespace Go.Proofs.Ytgdkionmeacalab
open Go.RowKit
set_option linter.unusedVariables false
set_option maxHeartbeats 1000000
/-- a slice whose elements are these records of k cells -/
def RvK (k : Nat) (w : World) (A : Option Addr) (R : List (List Value)) : Prop := 0 < R.length → ∃ b off, A = some ⟨b, off, none⟩ ∧ b < w.heap.size ∧ ∀ i vs, R[i]? = some vs → w.rangeAt b (off + i * k) vs
theorem RvK.keep {k : Nat} {w w' : World} {A : Option Addr} {R : List (List Value)} (h : RvK k w A R) (hb : Below w.heap.size w w') : RvK k w' A R := fun h0 =>
  let ⟨b, off, e, hl, hp⟩ := h h0; ⟨b, off, e, Nat.lt_of_lt_of_le hl hb.size, fun i vs hi => rangeB (hp i vs hi) (hb.block b hl)⟩
theorem RvK.nil (k : Nat) (w : World) (A : Option Addr) : RvK k w A [] := fun h => absurd h (by simp)
/-- what a new block of records holds, as far as the first j of n -/
def RpK (k : Nat) (w : World) (g : Nat) (T : TypeId) (n j : Nat) (R : List (List Value)) : Prop := ∃ cs : Array Value, w.heap[g]? = some (.cells cs T (0, 0)) ∧ cs.size = n * k ∧ ∀ i vs, i < j → R[i]? = some vs → InS cs (i * k) vs
theorem RpK.lt {k : Nat} {w : World} {g : Nat} {T : TypeId} {n j : Nat} {R : List (List Value)} (h : RpK k w g T n j R) : g < w.heap.size := by obtain ⟨cs, hh, _⟩ := h; exact ltS hh
theorem RpK.keep' {k : Nat} {w w' : World} {g : Nat} {T : TypeId} {n j : Nat} {R : List (List Value)} (h : RpK k w g T n j R) (hb : w'.heap[g]? = w.heap[g]?) : RpK k w' g T n j R := by
  obtain ⟨cs, hh, r⟩ := h
  exact ⟨cs, hb.trans hh, r⟩
theorem RpK.keep {k : Nat} {w w' : World} {g : Nat} {T : TypeId} {n j : Nat} {R : List (List Value)} (h : RpK k w g T n j R) (hb : Below w.heap.size w w') : RpK k w' g T n j R := h.keep' (hb.block g h.lt)
theorem RpK.there {k : Nat} {w : World} {g : Nat} {T : TypeId} {n j : Nat} {R : List (List Value)} (h : RpK k w g T n j R) {i : Nat} (hi : i < n) : w.there g (i * k) k := by
  obtain ⟨cs, hh, hs, _⟩ := h
  refine thereB hh ?_
  rw [hs]
  calc i * k + k = (i + 1) * k := by rw [Nat.add_mul, Nat.one_mul]
    _ ≤ n * k := Nat.mul_le_mul_right k hi
theorem RpK.step {k : Nat} {w : World} {g : Nat} {T : TypeId} {n j : Nat} {R : List (List Value)} (h : RpK k w g T n j R) (hR : ∀ vs ∈ R, vs.length = k) {vs : List Value} (hv : R[j]? = some vs) (hj : j < n) : RpK k (w.setCells g (j * k) vs) g T n (j + 1) R := by
  obtain ⟨cs, hh, hs, hc⟩ := h
  have hl := hR vs (List.mem_of_getElem? hv)
  have e : (j + 1) * k ≤ n * k := Nat.mul_le_mul_right k hj
  rw [Nat.add_mul, Nat.one_mul] at e
  refine ⟨_, heap_setCells vs (j * k) _ _ hh, (wrAt_size _ _ _).trans hs, fun i us hi hu => ?_⟩
  by_cases ei : i = j
  · subst ei
    rw [hv] at hu
    obtain rfl := Option.some.inj hu
    exact InS.write (by rw [hl, hs]; omega)
  · have e2 : (i + 1) * k ≤ j * k := Nat.mul_le_mul_right k (by omega)
    rw [Nat.add_mul, Nat.one_mul] at e2
    exact (hc i us (by omega) hu).keepS (.inl (by rw [hR us (List.mem_of_getElem? hu)]; omega))
theorem RpK.new {k : Nat} {w : World} {f : Array Value} {T : TypeId} {n : Nat} (R : List (List Value)) (hf : f.size = n * k) : RpK k (w.alloc (.cells f T)) w.heap.size T n 0 R := ⟨f, newS _ _, hf, fun i vs hi => absurd hi (by omega)⟩
/-- what a new block of records holds -/
def RbK (k : Nat) (w : World) (g : Nat) (T : TypeId) (R : List (List Value)) : Prop := RpK k w g T R.length R.length R
theorem RbK.v {k : Nat} {w : World} {g : Nat} {T : TypeId} {R : List (List Value)} (h : RbK k w g T R) : RvK k w (some ⟨g, 0, none⟩) R := fun _ => by
  obtain ⟨cs, hh, hs, hc⟩ := h
  refine ⟨g, 0, rfl, ltS hh, fun i vs hv j v hj => ?_⟩
  rw [Nat.zero_add]
  exact (cellS hh _).trans (hc i vs (List.getElem?_eq_some_iff.1 hv).1 hv j v hj)
theorem RpK.whole {k : Nat} {w : World} {g : Nat} {T : TypeId} {n j : Nat} {R : List (List Value)} (h : RpK k w g T n j R) (hn : n = R.length) (hj : n ≤ j) : RbK k w g T R := by
  subst hn
  obtain ⟨cs, hh, hs, hc⟩ := h
  exact ⟨cs, hh, hs, fun i vs hi hv => hc i vs (by omega) hv⟩
def one (vs : List Value) : Prop := ∀ v ∈ vs, v.oneCell' = true
theorem ldK {P : Program} {ops : Array Oper} {rest : List Oper} {op : Oper} {a : Act} {w : World} {Q : Exit → Act → World → Prop} (T : TypeId) (x : Operand) (vs : List Value) (b o : Nat) {d : TypeDesc} (hgd : op.guard = none) (ho : op.op = .load T x)
    (hc : w.rangeAt b o vs) (hu : P.underlying T = some d) (hd : d.isRow = true) (hi : (P.info? T).map (·.size) = some vs.length) (hx : a.eval x = .pointer (some ⟨b, o, none⟩))
    (h : wpList P ops Q rest (a.put op.dst (.agg vs.toArray)) w) : wpList P ops Q (op :: rest) a w :=
  wpList_load_mid hgd T x ho b o hx vs d hc hu hd hi h
theorem stK {P : Program} {ops : Array Oper} {rest : List Oper} {op : Oper} {a : Act} {w : World} {Q : Exit → Act → World → Prop} (T : TypeId) (x y : Operand) (vs : List Value) (b o : Nat) (hgd : op.guard = none) (ho : op.op = .store T x y)
    (ht : w.there b o vs.length) (hi : (P.info? T).map (·.size) = some vs.length) (h1 : one vs) (hx : a.eval x = .pointer (some ⟨b, o, none⟩)) (hy : a.eval y = .agg vs.toArray)
    (h : wpList P ops Q rest (a.put op.dst undef) (w.setCells b o vs)) : wpList P ops Q (op :: rest) a w := by
  refine wpList_store_mid hgd T x y ho b o vs.toArray hx hy (by simpa using ht) (by simpa using hi) (all_oneCell_toArray h1) ?_
  simpa using h
theorem allocK {P : Program} {ops : Array Oper} {rest : List Oper} {op : Oper} {a : Act} {w : World} {Q : Exit → Act → World → Prop} (T : TypeId) (k : Nat) (hgd : op.guard = none) (ho : op.op = .alloc T) (hi : ∃ i z, P.info? T = some i ∧ i.zero = some z ∧ z.cells.size = k)
    (h : ∀ f : Array Value, f.size = k → wpList P ops Q rest (a.put op.dst (.pointer (some ⟨w.heap.size, 0, none⟩))) (w.alloc (.cells f T))) : wpList P ops Q (op :: rest) a w := by
  obtain ⟨i, z, h1, h2, h3⟩ := hi
  refine wpList_plain hgd fun K hK => ?_
  have := hK _ _ (h z.cells h3)
  unfold Oper.wp execOp
  simp only [ho]
  simpa [Instr.alloc, zeroValue, typeInfo, h1, h2, newVar, go_sem] using this
theorem info_z {P : Program} {T : TypeId} {k : Nat} (h : (P.info? T).map (fun i => i.zero.map (fun z => z.cells.size)) = some (some k)) : ∃ i z, P.info? T = some i ∧ i.zero = some z ∧ z.cells.size = k := by
  cases hq : P.info? T with
  | none => rw [hq] at h; cases h
  | some i =>
    rw [hq] at h
    simp only [Option.map_some, Option.some.injEq] at h
    cases hz : i.zero with
    | none => rw [hz] at h; cases h
    | some z => rw [hz] at h; simp only [Option.map_some, Option.some.injEq] at h; exact ⟨i, z, rfl, hz, h⟩
theorem madeK (S T : TypeId) (k : Nat) (hk : k ≤ 64) (hu : Try.prog.underlying S = some (.slice T)) (hinfo : (Try.prog.info? T).map (fun i => (i.size, decide (i.bytes ≤ 512), i.zero.isSome)) = some (k, true, true)) : ∃ f : Nat → Array Value, (∀ n, (f n).size = n * k) ∧ ∀ (n : Nat) (w : World), n ≤ 1048576 → (Instr.makeSlice S (.int .i64 (n : Int)) (.int .i64 (n : Int))).run Try.prog w = .ok (.slice (some ⟨w.heap.size, 0, none⟩) n n) (w.alloc (.cells (f n) T)) := by
  obtain ⟨i, z, hi, h1, h2, h3⟩ : ∃ (i : TypeInfo) (z : Value), Try.prog.info? T = some i ∧ i.zero = some z ∧ i.size = k ∧ i.bytes ≤ 512 := by
    cases hq : Try.prog.info? T with
    | none => rw [hq] at hinfo; cases hinfo
    | some i =>
      rw [hq] at hinfo
      simp only [Option.map_some, Option.some.injEq, Prod.mk.injEq] at hinfo
      obtain ⟨e1, e2, e3⟩ := hinfo
      obtain ⟨z, hz⟩ := Option.isSome_iff_exists.1 e3
      exact ⟨i, z, rfl, hz, e1, by simpa using e2⟩
  refine ⟨fun n => madeCells z.cells (n * k), fun n => size_madeCells _ _, fun n w hn => ?_⟩
  have e : ((i.bytes * n : Nat) : Int) ≤ ((512 * 1048576 : Nat) : Int) := Int.ofNat_le.2 (Nat.mul_le_mul h3 hn)
  rw [Int.natCast_mul] at e
  have hr := run_make (P := Try.prog) w S T i _ hu hi h1 .i64 .i64 n n (by omega) (Int.le_refl _) (Int.le_trans e (by decide)) (by omega)
  rw [h2] at hr
  simpa using hr
end Go.Proofs.Ytgdkionmeacalab
end
section
namespace Go.Proofs.Ytgdkionmeacalab
open Go Go.RowKit
set_option linter.unusedVariables false
section
variable {P : Program}
def rgC (l : List Oper) (size : Nat) : Bool :=
  Region.noSelect l.toArray &&
  ((List.range l.length).all fun i => match l[i]? with
    | none => true
    | some o => (o.after.toList.all fun e => !Region.binds .any e || decide (e.on < i)) &&
      (o.dst.all fun d => decide (d < size) && dstIdx d l 0 == some i) &&
      ((o.looksAt l.toArray).all fun t => match dstIdx t l 0 with
        | none => true
        | some j => o.after.toList.any fun e => e.on == j && Region.binds .any e))
end
end Go.Proofs.Ytgdkionmeacalab
end
section
namespace Go.Proofs.Ytgdkionmeacalab
open Go Go.RowKit
set_option linter.unusedVariables false
section
variable {P : Program}
/-- one operation waits for another, by way of others -/
def reachB (l : List Oper) : Nat → Nat → Nat → Bool
  | 0, _, _ => false
  | f + 1, i, j => match l[i]? with
    | none => false
    | some o => o.after.toList.any fun e => Region.binds .any e && (e.on == j || reachB l f e.on j)
/-- all from n on wait for all ahead of n -/
def cloB (l : List Oper) (n : Nat) : Bool := decide (n ≤ l.length) && (List.range l.length).all fun i => decide (i < n) || (List.range n).all fun j => reachB l l.length i j
/-- what is done waits for nothing -/
def DC (l : List Oper) (listed : Array Bool) : Prop := ∀ (i : Nat) (o : Oper), l[i]? = some o → listed.getD i false = true → ∀ e ∈ o.after, Region.binds .any e = true → listed.getD e.on false = true
theorem DC.reach {l : List Oper} {listed : Array Bool} (h : DC l listed) : ∀ (f : Nat) {i j : Nat}, listed.getD i false = true → reachB l f i j = true → listed.getD j false = true
  | 0, i, j, _, hr => by simp [reachB] at hr
  | f + 1, i, j, hi, hr => by
    rw [reachB] at hr
    cases ho : l[i]? with
    | none => rw [ho] at hr; simp at hr
    | some o =>
      rw [ho] at hr
      simp only [List.any_eq_true, Bool.and_eq_true, Bool.or_eq_true, beq_iff_eq] at hr
      obtain ⟨e, he, hb, hr⟩ := hr
      have hl := h i o ho hi e (by simpa using he) hb
      rcases hr with rfl | hr
      · exact hl
      · exact DC.reach h f hl hr
theorem DC.set {l : List Oper} {listed : Array Bool} (h : DC l listed) {i : Nat} {o : Oper} (ho : l[i]? = some o) (hall : ∀ e ∈ o.after, Region.binds .any e = true → listed.getD e.on false = true) : DC l (listed.setIfInBounds i true) := fun k p hp hl e he hb => by
  by_cases e1 : i = k
  · subst e1
    rw [ho] at hp
    obtain rfl := Option.some.inj hp
    exact getD_set_true (hall e he hb)
  · rw [getD_set_ne false e1] at hl
    exact getD_set_true (h k p hp hl e he hb)
theorem cntF_lt (n1 : Nat) : ∀ n : Nat, cntF (fun i => decide (i < n1)) n = n - n1
  | 0 => by simp [cntF]
  | n + 1 => by
    simp only [cntF, cntF_lt n1 n]
    by_cases h : n < n1
    · simp [h]; omega
    · simp [h]; omega
theorem listedTo_size : ∀ (m k : Nat) (l : Array Bool), (listedTo m k l).size = l.size
  | 0, _, _ => rfl
  | m + 1, k, l => by rw [listedTo, listedTo_size]; simp
theorem listedTo_getD : ∀ {m k : Nat} {l : Array Bool} {i : Nat}, k + m ≤ l.size → (listedTo m k l).getD i false = if k ≤ i ∧ i < k + m then true else l.getD i false
  | 0, k, l, i, _ => by rw [listedTo, if_neg (by omega)]
  | m + 1, k, l, i, h => by
    rw [listedTo, listedTo_getD (by simpa using (by omega : k + 1 + m ≤ l.size))]
    by_cases e : i = k
    · subst e
      rw [if_neg (by omega), if_pos (by omega), Array.getD_eq_getD_getElem?, Array.getElem?_setIfInBounds_self_of_lt (by omega)]
      rfl
    · rw [getD_set_ne false (fun h => e h.symm)]
      by_cases h2 : k + 1 ≤ i ∧ i < k + 1 + m
      · rw [if_pos h2, if_pos (by omega)]
      · rw [if_neg h2, if_neg (by omega)]
theorem wpAny_rgp {l : List Oper} {Q : Exit → Act → World → Prop} {a0 : Act} {w : World} (T : Nat → Value → World → Prop) (R : World → World → Prop) (I : Nat → World → Prop)
    (n1 : Nat) (hB : rgC l a0.tmps.size = true) (hC : cloB l n1 = true) (hRr : ∀ a, R a a) (hRt : ∀ a b c, R a b → R b c → R a c) (hTs : ∀ k v a b, T k v a → R a b → T k v b) (hI0 : I 0 w.drew)
    (hops : opsOK P l T R I a0 w.drew (l.take n1) 0) (hfin : ∀ w', R w.drew w' → I n1 w' → finP T w' (fun a' => wpAny P .any l.toArray Q (l.length - n1) (listedTo n1 0 (Array.replicate l.toArray.size false)) a' w') (l.take n1) 0 a0) : wpAny P .any l.toArray Q l.toArray.size (Array.replicate l.toArray.size false) a0 w.drew := by
  simp only [rgC, Bool.and_eq_true] at hB
  obtain ⟨hns, hB⟩ := hB
  have hB' : ∀ (i : Nat) (o : Oper), l[i]? = some o → (∀ e ∈ o.after, Region.binds .any e = true → e.on < i) ∧ (∀ d, o.dst = some d → d < a0.tmps.size ∧ dstIdx d l 0 = some i) ∧ (∀ t ∈ o.looksAt l.toArray, ∀ j, dstIdx t l 0 = some j → ∃ e ∈ o.after, e.on = j ∧ Region.binds .any e = true) := by
    intro i o ho
    have hlt := (List.getElem?_eq_some_iff.1 ho).1
    have h1 := List.all_eq_true.1 hB i (List.mem_range.2 hlt)
    simp only [ho, Bool.and_eq_true] at h1
    obtain ⟨⟨h1, h2⟩, h3⟩ := h1
    refine ⟨fun e he hb => by have := List.all_eq_true.1 h1 e (by simpa using he); simpa [hb] using this, fun d hd => ?_, fun t ht j hj => ?_⟩
    · rw [hd] at h2
      simp only [Option.all_some, Bool.and_eq_true, decide_eq_true_eq, beq_iff_eq] at h2
      exact h2
    · have h4 := List.all_eq_true.1 h3 t ht
      rw [hj] at h4
      obtain ⟨e, he, h5⟩ := List.any_eq_true.1 h4
      simp only [Bool.and_eq_true, beq_iff_eq] at h5
      exact ⟨e, by simpa using he, h5⟩
  have hdist : ∀ (i : Nat) (o : Oper) (j : Nat) (p : Oper), l[i]? = some o → l[j]? = some p → i ≠ j → ∀ d, o.dst = some d → p.dst ≠ some d := by
    intro i o j p ho hp hij d hd hpd
    have h1 := ((hB' i o ho).2.1 d hd).2
    rw [((hB' j p hp).2.1 d hpd).2] at h1
    injection h1 with h1
    exact hij h1.symm
  obtain ⟨hle1, hcl⟩ : n1 ≤ l.length ∧ ∀ i, n1 ≤ i → i < l.length → ∀ j, j < n1 → reachB l l.length i j = true := by
    simp only [cloB, Bool.and_eq_true, decide_eq_true_eq, List.all_eq_true, List.mem_range, Bool.or_eq_true] at hC
    refine ⟨hC.1, fun i hi hil j hj => ?_⟩
    rcases hC.2 i hil with h | h
    · omega
    · exact h j hj
  have main : ∀ (fuel m : Nat) (listed : Array Bool) (a : Act) (w' : World), cntF (fun i => listed.getD i true) l.length = fuel → listed.size = l.length → fuel + m = l.length → (∀ i, n1 ≤ i → i < l.length → listed.getD i false = false) → DC l listed → RJ l T R I a0 w.drew m listed a w' →
      wpAny P .any l.toArray Q fuel listed a w' := by
    intro fuel
    have hdone : ∀ (m : Nat) (listed : Array Bool) (a : Act) (w' : World), cntF (fun i => listed.getD i true) l.length = l.length - m → listed.size = l.length → m ≤ l.length → (∀ i, n1 ≤ i → i < l.length → listed.getD i false = false) → (∀ i, i < n1 → listed.getD i false = true) → RJ l T R I a0 w.drew m listed a w' → wpAny P .any l.toArray Q (l.length - m) listed a w' := by
      rintro m listed a w' hc hls hml hlow hall ⟨hR, hI, hd, hs, ht, hT⟩
      have hm1 : m = n1 := by
        have h1 : cntF (fun i => listed.getD i true) l.length = cntF (fun i => decide (i < n1)) l.length := cntF_same (fun i hi => by
          by_cases h : i < n1
          · have := hall i h
            rw [Array.getD_eq_getD_getElem?, Array.getElem?_eq_getElem (by omega)] at *
            simpa [h] using this
          · have := hlow i (by omega) hi
            rw [Array.getD_eq_getD_getElem?, Array.getElem?_eq_getElem (by omega)] at *
            simpa [h] using this)
        rw [h1, cntF_lt] at hc
        omega
      subst hm1
      have he : listed = listedTo m 0 (Array.replicate l.toArray.size false) := by
        apply Array.ext
        · rw [listedTo_size]; simp [hls]
        · intro i h1 h2
          have e1 : listed[i] = listed.getD i false := by rw [Array.getD_eq_getD_getElem?, Array.getElem?_eq_getElem h1]; rfl
          have e2 : (listedTo m 0 (Array.replicate l.toArray.size false))[i] = (listedTo m 0 (Array.replicate l.toArray.size false)).getD i false := by rw [Array.getD_eq_getD_getElem?, Array.getElem?_eq_getElem h2]; rfl
          rw [e1, e2, listedTo_getD (by simpa using (by omega : 0 + m ≤ l.length))]
          by_cases h : i < m
          · rw [hall i h, if_pos (by omega)]
          · rw [hlow i (by omega) (by omega), if_neg (by omega), Array.getD_eq_getD_getElem?, Array.getElem?_replicate]
            split <;> rfl
      have hlm : ∀ (j : Nat) (o : Oper), l[j]? = some o → listed.getD j false = true → j < m := fun j o ho hl => by
        by_cases h : j < m
        · exact h
        · exfalso
          have := hlow j (by omega) (List.getElem?_eq_some_iff.1 ho).1
          rw [hl] at this
          cases this
      rw [he]
      refine finP_to (T := T) (w := w') (F := fun a' => wpAny P .any l.toArray Q (l.length - m) (listedTo m 0 (Array.replicate l.toArray.size false)) a' w') (l := l.take m) (k := 0) (b := a0) hd.symm hs.symm (fun t h => ?_) (fun j o ho hn => ?_) (hfin w' hR hI)
      · exact (ht t fun j o ho hl => h o (by
          have hj := hlm j o ho hl
          exact List.mem_of_getElem? (i := j) (by rw [List.getElem?_take, if_pos hj]; exact ho))).symm
      · rw [Nat.zero_add]
        rw [List.getElem?_take] at ho
        split at ho
        · rename_i hj
          exact hT j o ho (hall j hj) hn
        · cases ho
    induction fuel with
    | zero =>
      intro m listed a w' hc hls hm' hlow hdc hJ
      have hall : ∀ i, i < l.length → listed.getD i false = true := fun i hi => by
        have := cntF_zero hc i hi
        rw [Array.getD_eq_getD_getElem?, Array.getElem?_eq_getElem (by omega)] at *
        simpa using this
      have h := hdone m listed a w' (by rw [hc]; omega) hls (by omega) hlow (fun i hi => hall i (by omega)) hJ
      rwa [show l.length - m = 0 by omega] at h
    | succ fuel ih =>
      intro m listed a w' hc hls hm' hlow hdc hJ
      by_cases hph : ∀ i, i < n1 → listed.getD i false = true
      · have h := hdone m listed a w' (by rw [hc]; omega) hls (by omega) hlow hph hJ
        rwa [show l.length - m = fuel + 1 by omega] at h
      have hlt1 : ∀ (i : Nat) (o : Oper), l[i]? = some o → listed.getD i false = false → (∀ e ∈ o.after, Region.binds .any e = true → listed.getD e.on false = true) → i < n1 := fun i o ho h0 hall => by
        by_cases h : i < n1
        · exact h
        · exfalso
          apply hph
          intro j hj
          have hr := hcl i (by omega) (List.getElem?_eq_some_iff.1 ho).1 j hj
          have hpos : l.length = (l.length - 1) + 1 := by have := (List.getElem?_eq_some_iff.1 ho).1; omega
          rw [hpos] at hr
          simp only [reachB, ho, List.any_eq_true, Bool.and_eq_true, Bool.or_eq_true, beq_iff_eq] at hr
          obtain ⟨e, he, hb, hr⟩ := hr
          have hl := hall e (by simpa using he) hb
          rcases hr with rfl | hr
          · exact hl
          · exact DC.reach hdc _ hl hr
      refine ⟨fun hr => ?_, fun i hi => ?_⟩
      · exfalso
        apply hph
        intro i
        induction i using Nat.strongRecOn with
        | ind i ih' =>
          intro hi
          by_cases hl : listed.getD i false = true
          · exact hl
          · exfalso
            have hil : i < l.length := by omega
            have ho : l[i]? = some l[i] := List.getElem?_eq_getElem hil
            have hmem : i ∈ Region.ready .any l.toArray listed := mem_ready.2 ⟨by
              rw [Array.getD_eq_getD_getElem?, Array.getElem?_eq_getElem (by omega)] at *
              simp only [Option.getD_some, Bool.not_eq_true] at *
              exact hl, l[i], by simp, fun e he hb => ih' e.on ((hB' i _ ho).1 e he hb) (by have := (hB' i _ ho).1 e he hb; omega)⟩
            rw [hr] at hmem
            cases hmem
      · obtain ⟨h0, o, ho', hall⟩ := mem_ready.1 hi
        have ho : l[i]? = some o := by simpa using ho'
        have hlt : i < l.length := (List.getElem?_eq_some_iff.1 ho).1
        have h0' : listed.getD i false = false := by
          rw [Array.getD_eq_getD_getElem?, Array.getElem?_eq_getElem (by omega)] at *
          simpa using h0
        have hi1 : i < n1 := hlt1 i o ho h0' hall
        have hot : (l.take n1)[i]? = some o := by rw [List.getElem?_take, if_pos hi1]; exact ho
        obtain ⟨hR, hI, hd, hs, ht, hT⟩ := hJ
        obtain ⟨b1, b2, b3⟩ := hB' i o ho
        have hlook : ∀ t ∈ o.looksAt l.toArray, match dstIdx t l 0 with | some j => T j (tv a t) w' | none => tv a t = tv a0 t := by
          intro t htm
          cases hj : dstIdx t l 0 with
          | none =>
            refine tv_of (ht t fun j p hp _ => dstIdx_none hj p (List.mem_of_getElem? hp))
          | some j =>
            obtain ⟨e, he, rfl, hb⟩ := b3 t htm j hj
            obtain ⟨_, p, hp, hpd⟩ := dstIdx_some hj
            have := hT e.on p (by simpa using hp) (hall e he hb) (by rw [hpd]; simp)
            rw [hpd] at this
            exact this
        have hop := look_of hlook (opsOK_at hops hot m a w' (by omega) hR hI)
        rw [Nat.zero_add] at hop
        have hget : ∀ d, (listed.setIfInBounds i true).getD i d = true := fun d => by
          rw [Array.getD_eq_getD_getElem?, Array.getElem?_setIfInBounds_self_of_lt (by omega)]; rfl
        have next : ∀ v w1, T i v w1 → R w' w1 → I (m + 1) w1 → wpAny P .any l.toArray Q fuel (listed.setIfInBounds i true) (a.put o.dst v) w1 := by
          intro v w1 hTv hR1 hI1
          refine ih (m + 1) _ _ _ ?_ (by simpa using hls) (by omega) (fun k hk hkl => ?_) (hdc.set ho hall) ⟨hRt _ _ _ hR hR1, hI1, (put_defers' _ _ _).trans hd, (put_size _ _ _).trans hs, fun t h => ?_, fun j p hp hl hn => ?_⟩
          · have := cntF_set (f := fun i => listed.getD i true) (g := fun j => (listed.setIfInBounds i true).getD j true) (i := i) h0 (hget true) (fun j hj => getD_set_ne true (Ne.symm hj)) hlt
            omega
          · rw [getD_set_ne false (by omega)]; exact hlow k hk hkl
          · have hne : o.dst ≠ some t := h i o ho (hget false)
            rw [put_ne _ _ _ hne]
            exact ht t fun j p hp hl => h j p hp (getD_set_true hl)
          · by_cases e : i = j
            · subst e
              rw [ho] at hp
              obtain rfl := Option.some.inj hp
              cases hod : o.dst with
              | none => exact absurd hod hn
              | some d =>
                have : tv (a.put (some d) v) d = v := by
                  unfold tv
                  rw [Array.getD_eq_getD_getElem?, put_same _ _ _ (by rw [hs]; exact (b2 d hod).1)]
                  rfl
                simp only [vof]
                rw [this]
                exact hTv
            · rw [getD_set_ne false e] at hl
              have h2 := hTs j _ w' w1 (hT j p hp hl hn) hR1
              cases hpd : p.dst with
              | none => exact absurd hpd hn
              | some d =>
                rw [hpd] at h2
                simp only [vof] at h2 ⊢
                rw [show tv (a.put o.dst v) d = tv a d from tv_of (put_ne _ _ _ (fun hod => hdist i o j p ho hp e d hod hpd))]
                exact h2
        unfold wpOp
        simp only [ho']
        cases hg : o.guard with
        | none =>
          rw [hg] at hop
          rw [if_pos (by simp [Region.wanted, hg])]
          exact .inl (wp_of_gives hop fun v w1 ⟨h1, h2, h3⟩ => next v w1 h1 h2 h3)
        | some g =>
          rw [hg] at hop
          obtain ⟨g1, g2⟩ := hop
          split
          · rename_i hw
            exact .inl (wp_of_gives (g1 hw) fun v w1 ⟨h1, h2, h3⟩ => next v w1 h1 h2 h3)
          · rename_i hw
            obtain ⟨h1, h2⟩ := g2 (by simpa using hw)
            exact next undef w' h1 (hRr _) h2
  refine main l.toArray.size 0 _ a0 w.drew ?_ (by simp) (by simp) (fun i _ hil => by rw [Array.getD_eq_getD_getElem?, Array.getElem?_replicate, if_pos (by simpa using hil)]; rfl) (fun i o ho hl => by
    exfalso
    rw [Array.getD_eq_getD_getElem?, Array.getElem?_replicate] at hl
    split at hl <;> simp at hl) ⟨hRr _, hI0, rfl, rfl, fun t _ => rfl, fun j o ho hl => ?_⟩
  · have : ∀ n, n ≤ l.length → cntF (fun i => (Array.replicate l.toArray.size false).getD i true) n = n := by
      intro n
      induction n with
      | zero => intro _; rfl
      | succ n ihn =>
        intro hn
        simp only [cntF]
        rw [ihn (by omega)]
        have : (Array.replicate l.toArray.size false).getD n true = false := by
          rw [Array.getD_eq_getD_getElem?, Array.getElem?_replicate, if_pos (by simp; omega)]; rfl
        rw [if_neg (by rw [this]; decide)]
    simpa using this l.length (Nat.le_refl _)
  · exfalso
    rw [Array.getD_eq_getD_getElem?, Array.getElem?_replicate] at hl
    split at hl <;> simp at hl
theorem wp_region_rgp {id : Nat} {l : List Oper} {Q : Exit → Act → World → Prop} {a0 : Act} {w : World} (T : Nat → Value → World → Prop) (R : World → World → Prop) (I : Nat → World → Prop)
    (n1 : Nat) (hm : P.follows .mixedOrders = true) (hB : rgC l a0.tmps.size = true) (hC : cloB l n1 = true) (hRr : ∀ a, R a a) (hRt : ∀ a b c, R a b → R b c → R a c) (hTs : ∀ k v a b, T k v a → R a b → T k v b) (hI0 : I 0 w.drew)
    (hops : opsOK P l T R I a0 w.drew (l.take n1) 0) (hfin : ∀ w', R w.drew w' → I n1 w' → finP T w' (fun a' => wpAny P .any l.toArray Q (l.length - n1) (listedTo n1 0 (Array.replicate l.toArray.size false)) a' w') (l.take n1) 0 a0) : (Code.region id l.toArray true).wp P Q a0 w := wp_region_any hm (wpAny_rgp T R I n1 hB hC hRr hRt hTs hI0 hops hfin)
end
end Go.Proofs.Ytgdkionmeacalab
end
section
namespace Go.Proofs.Ytgdkionmeacalab
open Go Go.RowKit
set_option linter.unusedVariables false
section
variable {P : Program}
def XV (u : Value) : Value → World → Prop := fun v _ => v = u
def XT : Value → World → Prop := fun _ _ => True
/-- what stays true when memory is made -/
def Stay (T : Value → World → Prop) : Prop := ∀ v a b, T v a → Gr a b → T v b
theorem stay_V (u : Value) : Stay (XV u) := fun _ _ _ h _ => h
theorem stay_T : Stay XT := fun _ _ _ _ _ => trivial
theorem stay_of {F : Value → World → Prop} (h : ∀ v a b, F v a → Below a.heap.size a b → F v b) : Stay F := fun v a b x g => h v a b x g.out
theorem stay_list {l : List (Value → World → Prop)} (h : ∀ T ∈ l, Stay T) : ∀ k v a b, (l.getD k XT) v a → Gr a b → (l.getD k XT) v b := by
  intro k v a b hv g
  rw [List.getD_eq_getElem?_getD] at *
  cases hk : l[k]? with
  | none => trivial
  | some T => rw [hk] at hv; exact h T (List.mem_of_getElem? hk) v a b hv g
def GIx (_ : Nat) (_ : World) : Prop := True
theorem gx_gen {K : Value → World → Prop} {r : Result Next} (h : ∀ K' : Value → World → Prop, (∀ v w', K v w' → K' v w') → givesUpon P K' r) : givesUpon P K r := h K fun _ _ h => h
theorem lookD_imp {T : Nat → Value → World → Prop} {a0 a : Act} {w : World} {G G' : Prop} (hG : G → G') : ∀ {ds : List (Tmp × Option Nat)}, lookD T a0 a w ds G → lookD T a0 a w ds G'
  | [], h => hG h
  | (t, some j) :: r, h => fun x => lookD_imp (ds := r) hG (h x)
  | (t, none) :: r, h => fun x => lookD_imp (ds := r) hG (h x)
theorem givesUpon_imp {K K' : Value → World → Prop} (hK : ∀ v w, K v w → K' v w) {r : Result Next} (h : givesUpon P K r) : givesUpon P K' r := by
  unfold givesUpon at *
  split at h
  · exact hK _ _ h
  · exact hK _ _ h
  · exact h.mono fun e w' ⟨v, e1, e2⟩ => ⟨v, e1, hK _ _ e2⟩
  · exact h.elim
theorem opOK_rx {ops : List Oper} {T : Nat → Value → World → Prop} {a0 : Act} {w0 : World} {k : Nat} {o : Oper} (ds : List (Tmp × Option Nat)) (hB : dsB ops o ds = true) (hg : o.guard = none)
    (h : ∀ (a : Act) (w : World), Gr w0 w → lookD T a0 a w ds (givesUpon P (fun v w' => T k v w' ∧ Gr w w') ((execOp a.eval o).run P w))) : opOK P ops T Gr GIx a0 w0 k o :=
  opOK_ds ds hB hg fun m a w _ hR _ => lookD_imp (fun x => givesUpon_imp (fun v w' ⟨h1, h2⟩ => ⟨h1, h2, trivial⟩) x) (h a w hR)
theorem wp_region_rx {id : Nat} {l : List Oper} {Q : Exit → Act → World → Prop} {a0 : Act} {w : World} (tl : List (Value → World → Prop))
    (hm : P.follows .mixedOrders = true) (hB : rgB l a0.tmps.size = true) (hTs : ∀ T ∈ tl, Stay T)
    (hops : opsOK P l (fun k => tl.getD k XT) Gr GIx a0 w.drew l 0) (hfin : ∀ w', Gr w.drew w' → finP (fun k => tl.getD k XT) w' (fun a' => Q .normal a' w') l 0 a0) : (Code.region id l.toArray true).wp P Q a0 w :=
  wp_region_rgl (fun k => tl.getD k XT) Gr GIx hm hB Gr.refl (fun _ _ _ h k => h.trans k) (stay_list hTs) trivial hops fun w' h _ => hfin w' h
end
end Go.Proofs.Ytgdkionmeacalab
end
section
namespace Go.Proofs.Ytgdkionmeacalab
open Go Go.RowKit
set_option linter.unusedVariables false
section
variable {P : Program}
def noDef (o : Oper) : Bool := match o.op with
  | .defer _ => false
  | _ => true
theorem noDef_ne {o : Oper} (h : noDef o = true) : ∀ c, o.op ≠ .defer c := fun c e => by
  unfold noDef at h
  rw [e] at h
  cases h
/-- nothing but the normal end -/
def OnlyN (Q0 : Exit → Act → World → Prop) : Prop := ∀ e a w, e ≠ .normal → ¬ Q0 e a w
theorem opLift {l n : Nat} {o : Oper} {a : Act} {w : World} {K K' : Act → World → Prop} {Q0 Q : Exit → Act → World → Prop} (hd : noDef o = true) (hQ : OnlyN Q0) (hK : ∀ a w, K a w → K' a w) (h : o.wp P a w K Q0) : o.wpIn (Fence.wide.inRound l) n P a w K' Q := by
  refine ⟨fun _ _ => trivial, ?_⟩
  rw [Oper.semAt_eq _ _ _ (noDef_ne hd)]
  unfold Oper.wp at h
  generalize (execOp a.eval o).run P w = r at h
  cases r with
  | ok x w' =>
    cases x with
    | value v => exact hK _ _ h
    | skip => exact hK _ _ h
    | defer d => exact hK _ _ h
    | enter f args =>
      refine ⟨(fun x => by cases x), CallsIn.inRound l (callsIn_wide.2 (Calls.mono h ?_))⟩
      intro e w2 he
      cases e with
      | returned v => exact hK _ _ he
      | panicked c => exact (hQ (.panic c) _ _ (fun x => by cases x) he).elim
      | outgrown =>
        obtain ⟨a2, w3, h3⟩ := he
        exact (hQ .outgrown _ _ (fun x => by cases x) h3).elim
    | row r args =>
      refine ⟨(fun x => by cases x), fun c cs _ => ?_⟩
      obtain ⟨v, w2, h1, h2⟩ := h c cs
      exact ⟨v, w2, hK _ _ h1, by rw [fenced_inRound]; exact stepsIn_wide.2 h2⟩
    | _ => exact h.elim
  | halt x w' =>
    cases x with
    | panic v => exact (hQ (.panic _) _ _ (fun x => by cases x) h).elim
    | _ => exact h.elim
theorem lets_no {Q0 : Exit → Act → World → Prop} (hQ : OnlyN Q0) : ¬ LetsOut Q0 := fun ⟨a, w, h⟩ => hQ _ _ _ (fun x => by cases x) h
theorem anyLift {l n : Nat} {md : Region.Mode} {ops : Array Oper} {Q0 Q : Exit → Act → World → Prop} (hd : ops.all noDef = true) (hQ : OnlyN Q0) (hN : ∀ a w, Q0 .normal a w → Q .normal a w) : ∀ (fuel : Nat) (listed : Array Bool) (a : Act) (w : World), wpAny P md ops Q0 fuel listed a w → wpAnyIn (Fence.wide.inRound l) n P md ops Q fuel listed a w := by
  intro fuel
  induction fuel with
  | zero => exact fun listed a w h => ⟨h.1, hN _ _ h.2⟩
  | succ fuel ih =>
    intro listed a w h
    refine ⟨fun hr => hN _ _ (h.1 hr), fun i hi => ?_⟩
    have h1 := h.2 i hi
    unfold wpOp at h1
    unfold wpOpIn
    cases ho : ops[i]? with
    | none => simp only [ho] at h1 ⊢; exact ih _ _ _ h1
    | some o =>
      simp only [ho] at h1 ⊢
      have hdo : noDef o = true := (Array.all_eq_true_iff_forall_mem.1 hd) o (Array.mem_of_getElem? ho)
      split
      · rename_i hw
        simp only [hw, if_true] at h1
        rcases h1 with h1 | h1
        · exact opLift hdo hQ (fun a w => ih _ a w) h1
        · exact (lets_no hQ h1.2).elim
      · rename_i hw
        simp only [hw] at h1
        exact ⟨fun _ _ => trivial, ih _ _ _ h1⟩
theorem listLift {l n : Nat} {ops : Array Oper} {Q0 Q : Exit → Act → World → Prop} (hQ : OnlyN Q0) (hN : ∀ a w, Q0 .normal a w → Q .normal a w) : ∀ (os : List Oper) (a : Act) (w : World), os.all noDef = true → wpList P ops Q0 os a w → wpListIn (Fence.wide.inRound l) n P ops Q os a w := by
  intro os
  induction os with
  | nil => exact fun a w _ h => hN _ _ h
  | cons o rest ih =>
    intro a w hd h
    simp only [List.all_cons, Bool.and_eq_true] at hd
    unfold wpList at h
    unfold wpListIn
    split
    · rename_i hw
      rw [if_pos hw] at h
      rcases h with h | h
      · exact opLift hd.1 hQ (fun a w => ih a w hd.2) h
      · exact (lets_no hQ h.2).elim
    · rename_i hw
      rw [if_neg hw] at h
      exact ⟨fun _ _ => trivial, ih _ _ hd.2 h⟩
theorem onlyN_then {K : Act → World → Prop} : OnlyN (Exit.then K (fun _ _ _ => False)) := fun e a w h q => by
  cases e <;> first | exact h rfl | exact q
theorem wpIn_region_lift {l n id : Nat} {os : List Oper} {Q : Exit → Act → World → Prop} {a : Act} {w : World} (hd : os.all noDef = true) (h : wpList P os.toArray (Exit.then (fun a w => Q .normal a w) (fun _ _ _ => False)) os a w) : (Code.region id os.toArray false).wpIn (Fence.wide.inRound l) n P Q a w :=
  wpIn_region_lit (listLift (Q0 := Exit.then (fun a w => Q .normal a w) (fun _ _ _ => False)) (Q := Q) onlyN_then (fun _ _ h => h) os a w hd h)
theorem wpIn_region_liftAny {l n id : Nat} {ops : Array Oper} {Q : Exit → Act → World → Prop} {a : Act} {w : World} (hm : P.follows .mixedOrders = true) (hd : ops.all noDef = true) (h : wpAny P .any ops (Exit.then (fun a w => Q .normal a w) (fun _ _ _ => False)) ops.size (Array.replicate ops.size false) a { w with drawn := w.drawn + 1 }) : (Code.region id ops true).wpIn (Fence.wide.inRound l) n P Q a w :=
  wpIn_region_any hm (anyLift (Q0 := Exit.then (fun a w => Q .normal a w) (fun _ _ _ => False)) (Q := Q) hd onlyN_then (fun _ _ h => h) _ _ _ _ h)
theorem wpAny_rxp {l : List Oper} {Q : Exit → Act → World → Prop} {a0 : Act} {w : World} (n1 m : Nat) (listed : Array Bool) (hm : l.length - n1 = m) (hls : listedTo n1 0 (Array.replicate l.toArray.size false) = listed) (tl : List (Value → World → Prop)) (hB : rgC l a0.tmps.size = true) (hC : cloB l n1 = true) (hTs : ∀ T ∈ tl, Stay T)
    (hops : opsOK P l (fun k => tl.getD k XT) Gr GIx a0 w.drew (l.take n1) 0) (hfin : ∀ w', Gr w.drew w' → finP (fun k => tl.getD k XT) w' (fun a' => wpAny P .any l.toArray Q m listed a' w') (l.take n1) 0 a0) : wpAny P .any l.toArray Q l.toArray.size (Array.replicate l.toArray.size false) a0 w.drew := by
  subst hm hls
  exact wpAny_rgp (fun k => tl.getD k XT) Gr GIx n1 hB hC Gr.refl (fun _ _ _ h k => h.trans k) (stay_list hTs) trivial hops fun w' h _ => hfin w' h
/-- the last operation of a region is a store of cells -/
theorem wpAny_store {md : Region.Mode} {ops : Array Oper} {Q : Exit → Act → World → Prop} {f : Nat} {listed : Array Bool} {a : Act} {w : World} (i : Nat) (T : TypeId) (x y : Operand) (b o : Nat) (vs : List Value) (hr : Region.ready md ops listed = [i]) (hr2 : Region.ready md ops (listed.setIfInBounds i true) = []) (ho : (ops[i]?).map (fun o => (o.dst, o.op, o.guard)) = some (none, .store T x y, none))
    (hx : a.eval x = .pointer (some ⟨b, o, none⟩)) (hy : a.eval y = .agg vs.toArray) (ht : w.there b o vs.length) (hi : (P.info? T).map (·.size) = some vs.length) (h1 : ∀ v ∈ vs, v.oneCell' = true)
    (h : Q .normal a (w.setCells b o vs)) : wpAny P md ops Q (f + 1) listed a w := by
  cases hq : ops[i]? with
  | none => rw [hq] at ho; cases ho
  | some op =>
    rw [hq] at ho
    simp only [Option.map_some, Option.some.injEq, Prod.mk.injEq] at ho
    obtain ⟨hd, hop, hg⟩ := ho
    refine wpAny_one hr hq hg ?_
    refine wp_store_mid T x y hop b o vs.toArray hx hy (by simpa using ht) (by simpa using hi) (all_oneCell_toArray h1) ?_
    rw [hd]
    exact wpAny_end hr2 (by simpa [Act.put] using h)
end
end Go.Proofs.Ytgdkionmeacalab
end
section
namespace Go.Proofs.Ytgdkionmeacalab
open Go.RowKit
set_option linter.unusedVariables false
set_option maxHeartbeats 1000000
def nvalsW (L : List Int) : List Value := L.map (Value.int .i64)
theorem nvalsW_snoc (L : List Int) (x : Int) : nvalsW L ++ [.int .i64 x] = nvalsW (L ++ [x]) := by simp [nvalsW]
/-- a block with room: what it holds ahead -/
def OB (w : World) (g cap : Nat) (L : List Int) : Prop := L.length ≤ cap ∧ ∃ cs : Array Value, w.heap[g]? = some (.cells cs 3 (0, 0)) ∧ cs.size = cap ∧ ∀ (i : Nat) (x : Int), L[i]? = some x → cs[i]? = some (Value.int .i64 x)
theorem OB.lt {w : World} {g cap : Nat} {L : List Int} (h : OB w g cap L) : g < w.heap.size := by obtain ⟨_, cs, hh, _⟩ := h; exact ltS hh
theorem OB.keep {w w' : World} {g cap : Nat} {L : List Int} (h : OB w g cap L) (hb : Below w.heap.size w w') : OB w' g cap L := by
  obtain ⟨hl, cs, hh, hs, hc⟩ := h
  exact ⟨hl, cs, (hb.block g (ltS hh)).trans hh, hs, hc⟩
theorem OB.cell {w : World} {g cap i : Nat} {L : List Int} {x : Int} (h : OB w g cap L) (hx : L[i]? = some x) : w.cell? ⟨g, i, none⟩ = some (.int .i64 x) := by
  obtain ⟨hl, cs, hh, hs, hc⟩ := h
  exact (cellS hh i).trans (hc i x hx)
theorem OB.frozen {w : World} {g cap : Nat} {L : List Int} (h : OB w g cap L) (i : Nat) : w.frozen? ⟨g, i, none⟩ = false := by
  obtain ⟨hl, cs, hh, hs, hc⟩ := h
  exact frozenS hh i
theorem OB.set {w : World} {g cap : Nat} {L : List Int} (h : OB w g cap L) (i : Nat) (y : Int) (hi : i < L.length) : OB (w.setCell ⟨g, i, none⟩ (.int .i64 y)) g cap (L.set i y) := by
  obtain ⟨hl, cs, hh, hs, hc⟩ := h
  refine ⟨by rw [List.length_set]; exact hl, _, putS hh _, by simp [hs], fun k x hk => ?_⟩
  by_cases e : i = k
  · subst e
    rw [List.getElem?_set_self hi] at hk
    obtain rfl := Option.some.inj hk
    rw [Array.getElem?_setIfInBounds_self_of_lt (by omega)]
  · rw [List.getElem?_set_ne e] at hk
    rw [Array.getElem?_setIfInBounds_ne e]
    exact hc k x hk
theorem OB.nv {w : World} {g cap : Nat} {L : List Int} (h : OB w g cap L) : NV w (some ⟨g, 0, none⟩) L :=
  ⟨fun _ => ⟨g, 0, rfl, h.lt, fun i x hx => by rw [Nat.zero_add]; exact h.cell hx⟩⟩
theorem own_inW {w : World} {base n : Nat} {v : Value} {M : List Int} (h : w.ownsRow base 3 1 v n (nvalsW M)) (hn : n = M.length) :
    (v = .slice none 0 0 ∧ M = []) ∨ ∃ g cap, v = .slice (some ⟨g, 0, none⟩) n cap ∧ base ≤ g ∧ OB w g cap M := by
  rcases h.2 with ⟨rfl, h0⟩ | ⟨g, cap, cur, rfl, hb, hg, hc, _, hs, ht⟩
  · exact .inl ⟨rfl, List.length_eq_zero_iff.1 (by omega)⟩
  · refine .inr ⟨g, cap, rfl, hb, by omega, cur, hg, by omega, fun i x hx => ?_⟩
    have e : (nvalsW M)[i]? = some (Value.int .i64 x) := by simp [nvalsW, hx]
    have hi := (List.getElem?_eq_some_iff.1 hx).1
    rw [← ht, List.getElem?_take] at e
    rw [if_pos (by omega)] at e
    simpa using e
theorem int_infoW : ∃ (i : TypeInfo) (z : Value), Try.prog.info? 3 = some i ∧ i.zero = some z ∧ i.size = 1 ∧ i.bytes = 8 ∧ z.cells.size = 1 := by
  have hinfo : (Try.prog.info? 3).map (fun i => (i.zero, i.size, i.bytes)) = some (some (.int .i64 0), 1, 8) := by kernel_rfl
  obtain ⟨i, hi, h1, h2, h3⟩ := info_parts hinfo
  exact ⟨i, _, hi, h1, h2, h3, rfl⟩
theorem newW (W : World) (x : Int) (T : TypeId) : ∀ (j : Nat) (u : Value), [Value.int .i64 x][j]? = some u → (W.alloc (.cells #[.int .i64 x] T)).cell? ((⟨W.heap.size, 0, none⟩ : Addr).add j) = some u := fun j u h => by
  have hadd : (⟨W.heap.size, 0, none⟩ : Addr).add j = ⟨W.heap.size, j, none⟩ := by unfold Addr.add; split <;> simp_all
  rw [hadd]
  exact (cellS (newS W _) j).trans (by simpa using h)
theorem below_own {n : Nat} {a W w5 : World} {v : Value} {o : Obj} {lo hi : Nat} (h : Below n a W) (hg : (W.alloc o).grownBy w5 v.ownBlock) (hob : ∀ k, v.ownBlock = some k → lo ≤ k ∧ k < hi) (hlo : n ≤ lo) (hn : n ≤ a.heap.size) : Below n a w5 :=
  have h' : Below n a (W.alloc o) := h.alloc (Nat.le_trans hn h.size) o
  ⟨hg.os.trans h'.os, hg.tape.trans h'.tape, hg.output.trans h'.output, Nat.le_trans h'.size hg.size, fun k hk => (hg.block k (Nat.lt_of_lt_of_le (Nat.lt_of_lt_of_le hk hn) h'.size) (fun e => by have := hob k e.symm; omega)).trans (h'.block k hk)⟩
end Go.Proofs.Ytgdkionmeacalab
end
section
set_option linter.unusedVariables false
namespace Go.Proofs.Ytgdkionmeacalab
def Pk.ok (p : Pk) : Bool := vpB p.w p.h p.s p.an p.px p.py
def vpsB (L : List Pk) : Bool := L.all Pk.ok && decide (L.length ≤ 7)
def Pk.down (p : Pk) : Bool := decide (p.s = 0 ∨ p.s = 1)
def Pk.need (p : Pk) (d : Bool) : Int := if d then p.h + 2 * p.py else p.w + 2 * p.px
/-- an item whose size is not too great -/
def Pk.big (p : Pk) : Prop := ((0 ≤ p.w ∧ p.w ≤ 1000000000000) ∧ (0 ≤ p.h ∧ p.h ≤ 1000000000000) ∧ (0 ≤ p.s ∧ p.s ≤ 3) ∧ (0 ≤ p.an ∧ p.an ≤ 8) ∧ (0 ≤ p.px ∧ p.px ≤ 10) ∧ (0 ≤ p.py ∧ p.py ≤ 10))
theorem Pk.need_bdW {p : Pk} (h : p.big) (d : Bool) : 0 ≤ p.need d ∧ p.need d ≤ 1000000000020 := by
  unfold Pk.big at h
  unfold Pk.need
  split <;> omega
end Go.Proofs.Ytgdkionmeacalab
end
section
namespace Go.Proofs.Ytgdkionmeacalab
open Go.RowKit
set_option linter.unusedVariables false
set_option maxHeartbeats 1000000
/-- nine cells hold this item -/
def Cells9 (w : World) (b o : Nat) (p : Pk) : Prop :=
  w.cell? ⟨b, o, none⟩ = some (.int .i64 p.w) ∧ w.cell? ⟨b, o + 1, none⟩ = some (.int .i64 p.h) ∧ w.cell? ⟨b, o + 2, none⟩ = some (.int .i64 p.s) ∧ w.cell? ⟨b, o + 3, none⟩ = some (.bool p.fx) ∧ w.cell? ⟨b, o + 4, none⟩ = some (.bool p.fy) ∧
  w.cell? ⟨b, o + 5, none⟩ = some (.bool p.ex) ∧ w.cell? ⟨b, o + 6, none⟩ = some (.int .i64 p.an) ∧ w.cell? ⟨b, o + 7, none⟩ = some (.int .i64 p.px) ∧ w.cell? ⟨b, o + 8, none⟩ = some (.int .i64 p.py)
def PS (w : World) (b off : Nat) (L : List Pk) : Prop := ∀ i p, L[i]? = some p → Cells9 w b (off + i * 9) p
/-- a slice that reads as this list of items -/
structure PV (w : World) (A : Option Addr) (L : List Pk) : Prop where
  cells : 0 < L.length → ∃ b off, A = some ⟨b, off, none⟩ ∧ b < w.heap.size ∧ PS w b off L
theorem Cells9.keep {w w' : World} {b o : Nat} {p : Pk} (h : Cells9 w b o p) (hb : w'.heap[b]? = w.heap[b]?) : Cells9 w' b o p := by
  have e : ∀ i, w'.cell? ⟨b, i, none⟩ = w.cell? ⟨b, i, none⟩ := fun i => World.cell?_of_block (a := ⟨b, i, none⟩) hb
  unfold Cells9 at *
  simpa only [e] using h
theorem PV.keep {w w' : World} {A : Option Addr} {L : List Pk} (h : PV w A L) (hb : Below w.heap.size w w') : PV w' A L :=
  ⟨fun h0 => let ⟨b, off, e, hl, hp⟩ := h.cells h0; ⟨b, off, e, Nat.lt_of_lt_of_le hl hb.size, fun i p hi => (hp i p hi).keep (hb.block b hl)⟩⟩
theorem svp_v (p : Pk) (b : Bool) (h : p.ok = b) (w : World) : Calls Try.prog 69 #[.agg #[.int .i64 p.w, .int .i64 p.h, .int .i64 p.s, .bool p.fx, .bool p.fy, .bool p.ex, .int .i64 p.an, .int .i64 p.px, .int .i64 p.py]] w fun e w' => e = .returned (.bool b) ∧ Below w.heap.size w w' := by
  rw [← h]; exact specValidPack_any _ _ _ _ _ _ _ _ _ _
theorem vp_v (p : Pk) (b : Bool) (h : p.ok = b) (w : World) : Calls Try.prog 47 #[.agg #[.int .i64 p.w, .int .i64 p.h, .int .i64 p.s, .bool p.fx, .bool p.fy, .bool p.ex, .int .i64 p.an, .int .i64 p.px, .int .i64 p.py]] w fun e w' => e = .returned (.bool b) ∧ Below w.heap.size w w' := by
  rw [← h]; exact validPack_any _ _ _ _ _ _ _ _ _ _
end Go.Proofs.Ytgdkionmeacalab
end
section
namespace Go.Proofs.Ytgdkionmeacalab
open Go.RowKit
set_option linter.unusedVariables false
set_option maxHeartbeats 1000000
attribute [local go_sem] growUpon_value growUpon_skip growUpon_enter
structure Sp where
  sa : Int
  many : Int
  need : Int
def valsSp (p : Sp) : List Value := [.int .i64 p.sa, .int .i64 p.many, .int .i64 p.need]
/-- a slice that reads as this list -/
structure SpV (w : World) (A : Option Addr) (L : List Sp) : Prop where
  cells : 0 < L.length → ∃ b off, A = some ⟨b, off, none⟩ ∧ b < w.heap.size ∧ ∀ i p, L[i]? = some p → w.cell? ⟨b, off + i * 3, none⟩ = some (.int .i64 p.sa) ∧ w.cell? ⟨b, off + i * 3 + 1, none⟩ = some (.int .i64 p.many) ∧ w.cell? ⟨b, off + i * 3 + 2, none⟩ = some (.int .i64 p.need)
theorem SpV.keep {w w' : World} {A : Option Addr} {L : List Sp} (h : SpV w A L) (hb : Below w.heap.size w w') : SpV w' A L :=
  ⟨fun h0 => let ⟨b, off, e, hl, hp⟩ := h.cells h0; ⟨b, off, e, Nat.lt_of_lt_of_le hl hb.size, fun i p hi => by
    obtain ⟨c0, c1, c2⟩ := hp i p hi
    exact ⟨(hb.cell (p := ⟨b, off + i * 3, none⟩) hl).trans c0, (hb.cell (p := ⟨b, off + i * 3 + 1, none⟩) hl).trans c1, (hb.cell (p := ⟨b, off + i * 3 + 2, none⟩) hl).trans c2⟩⟩⟩
theorem SpV.nil (w : World) (A : Option Addr) : SpV w A [] := ⟨fun h => absurd h (by simp)⟩
/-- what a new block holds -/
def SpB (w : World) (g : Nat) (L : List Sp) : Prop := ∃ cs : Array Value, w.heap[g]? = some (.cells cs 157 (0, 0)) ∧ cs.size = L.length * 3 ∧ ∀ i p, L[i]? = some p → InS cs (i * 3) (valsSp p)
theorem SpB.v {w : World} {g : Nat} {L : List Sp} (h : SpB w g L) : SpV w (some ⟨g, 0, none⟩) L := by
  obtain ⟨cs, hh, hs, hc⟩ := h
  refine ⟨fun _ => ⟨g, 0, rfl, ltS hh, fun i p hp => ?_⟩⟩
  have hi := hc i p hp
  simp only [Nat.zero_add]
  exact ⟨(cellS hh _).trans (hi 0 _ rfl), (cellS hh _).trans (hi 1 _ rfl), (cellS hh _).trans (hi 2 _ rfl)⟩
theorem SpB.lt {w : World} {g : Nat} {L : List Sp} (h : SpB w g L) : g < w.heap.size := by obtain ⟨cs, hh, _⟩ := h; exact ltS hh
theorem SpB.keep {w w' : World} {g : Nat} {L : List Sp} (h : SpB w g L) (hb : Below w.heap.size w w') : SpB w' g L := by
  obtain ⟨cs, hh, hs, hc⟩ := h
  exact ⟨cs, (hb.block g (ltS hh)).trans hh, hs, hc⟩
theorem SpB.but {w w' : World} {g h : Nat} {L : List Sp} (hi : SpB w h L) (hg : w.grownBy w' (some g)) (hne : h ≠ g) : SpB w' h L := by
  obtain ⟨cs, hh, hs, hc⟩ := hi
  exact ⟨cs, (hg.block h (ltS hh) (fun e => hne (Option.some.inj e))).trans hh, hs, hc⟩
theorem madeSp : ∃ f : Nat → Array Value, (∀ n, (f n).size = n * 3) ∧ ∀ (n : Nat) (w : World), n ≤ 1048576 → (Instr.makeSlice 154 (.int .i64 (n : Int)) (.int .i64 (n : Int))).run Try.prog w = .ok (.slice (some ⟨w.heap.size, 0, none⟩) n n) (w.alloc (.cells (f n) 157)) := by
  have hinfo : (Try.prog.info? 157).map (fun i => (i.zero, i.size, i.bytes)) = some (some (.agg #[.int .i64 0, .int .i64 0, .int .i64 0]), 3, 24) := by kernel_rfl
  obtain ⟨i, hi, h1, h2, h3⟩ := info_parts hinfo
  refine ⟨fun n => madeCells (Value.agg #[.int .i64 0, .int .i64 0, .int .i64 0]).cells (n * 3), fun n => size_madeCells _ _, fun n w hn => ?_⟩
  have hr := run_make (P := Try.prog) w 154 157 i _ Try.underlying154 hi h1 .i64 .i64 n n (by omega) (Int.le_refl _) (by rw [h3]; omega) (by omega)
  rw [h2] at hr
  simpa using hr
theorem putSp {w : World} {b : Nat} {cs : Array Value} {T : TypeId} {fz : Nat × Nat} (h : w.heap[b]? = some (.cells cs T fz)) (o : Nat) (p : Sp) :
    ((((w.setCell ⟨b, o, none⟩ (.int .i64 p.sa)).setCell ⟨b, o + 1, none⟩ (.int .i64 p.many)).setCell ⟨b, o + 2, none⟩ (.int .i64 p.need))).heap[b]? = some (.cells (wrAt cs o (valsSp p)) T fz) :=
  putS (putS (putS h _) _) _
theorem putSpb {B b : Nat} {a w : World} (h : Below B a w) (hb : B ≤ b) (o : Nat) (p : Sp) : Below B a ((((w.setCell ⟨b, o, none⟩ (.int .i64 p.sa)).setCell ⟨b, o + 1, none⟩ (.int .i64 p.many)).setCell ⟨b, o + 2, none⟩ (.int .i64 p.need))) :=
  (((h).setCell hb _).setCell hb _).setCell hb _
end Go.Proofs.Ytgdkionmeacalab
end
section
namespace Go.Proofs.Ytgdkionmeacalab
set_option linter.unusedVariables false
/-- each part, without a rest -/
def baseM (n S : Int) (ws : List Int) : List Int := ws.map (fun x => n * x / S)
/-- the first ones that have a weight get 1 more, as many as are missing -/
def onesM : Int → List Int → List Int → List Int
  | m, x :: ws, b :: bs => if 0 < x ∧ 0 < m then (b + 1) :: onesM (m - 1) ws bs else b :: onesM m ws bs
  | _, _, bs => bs
def spreadM (n : Int) (ws : List Int) : List Int :=
  if sumI ws = 0 then (List.replicate ws.length 0).set (ws.length - 1) n
  else onesM (n - sumI (baseM n (sumI ws) ws)) ws (baseM n (sumI ws) ws)
theorem baseM_len (n S : Int) (ws : List Int) : (baseM n S ws).length = ws.length := by simp [baseM]
theorem onesM_len : ∀ {m : Int} {ws bs : List Int}, (onesM m ws bs).length = bs.length
  | m, [], bs => by simp [onesM]
  | m, x :: ws, [] => by simp [onesM]
  | m, x :: ws, b :: bs => by
    unfold onesM
    split <;> simp [onesM_len]
theorem spreadM_len {n : Int} {ws : List Int} : (spreadM n ws).length = ws.length := by
  unfold spreadM
  split
  · simp
  · rw [onesM_len, baseM_len]
/-- how many have a weight -/
def cntP : List Int → Int
  | [] => 0
  | x :: t => (if 0 < x then 1 else 0) + cntP t
theorem cntP_bd : ∀ ws : List Int, 0 ≤ cntP ws ∧ cntP ws ≤ ws.length
  | [] => by simp [cntP]
  | x :: t => by
    have := cntP_bd t
    simp only [cntP, List.length_cons]
    split <;> omega
theorem sumI_nonneg {L : List Int} (h : ∀ x ∈ L, 0 ≤ x) : 0 ≤ sumI L := by
  induction L with
  | nil => exact Int.le_refl _
  | cons x t ih =>
    have h1 := h x List.mem_cons_self
    have h2 := ih (fun q hq => h q (List.mem_cons_of_mem _ hq))
    simp only [sumI]; omega
/-- what the parts without a rest leave: at least 0, and less than the positive weights are many, or 0 -/
theorem left_bd {n S : Int} (hn : 0 ≤ n) (hS : 0 < S) : ∀ {ws : List Int}, (∀ x ∈ ws, 0 ≤ x) → 0 ≤ n * sumI ws - S * sumI (baseM n S ws) ∧ n * sumI ws - S * sumI (baseM n S ws) ≤ (S - 1) * cntP ws
  | [], _ => by simp [sumI, baseM, cntP]
  | x :: t, h => by
    have ih := left_bd hn hS (ws := t) (fun q hq => h q (List.mem_cons_of_mem _ hq))
    have hx := h x List.mem_cons_self
    have e := Int.mul_ediv_add_emod (n * x) S
    have r0 := Int.emod_nonneg (n * x) (show S ≠ 0 by omega)
    have r1 := Int.emod_lt_of_pos (n * x) hS
    have eb : sumI (baseM n S (x :: t)) = n * x / S + sumI (baseM n S t) := rfl
    rw [eb]
    simp only [sumI, cntP, Int.mul_add]
    generalize n * x / S = q at *
    generalize (n * x) % S = r at *
    generalize n * sumI t = u at *
    generalize S * sumI (baseM n S t) = v at *
    generalize (S - 1) * cntP t = z at *
    by_cases hp : 0 < x
    · simp only [if_pos hp, Int.mul_one]
      omega
    · have hx0 : x = 0 := by omega
      subst hx0
      simp only [Int.mul_zero] at e ⊢
      simp only [Int.lt_irrefl, if_false, Int.mul_zero]
      have hsq : S * q = 0 ∨ S * q ≠ 0 := by omega
      have hr : r = 0 := by
        have : S * q + r = 0 := e
        rcases Int.lt_or_le q 0 with hq | hq
        · have : S * q ≤ S * (-1) := Int.mul_le_mul_of_nonneg_left (by omega) (by omega)
          omega
        · have : 0 ≤ S * q := Int.mul_nonneg (by omega) hq
          omega
      omega
theorem miss_bd {n : Int} {ws : List Int} (hn : 0 ≤ n) (h : ∀ x ∈ ws, 0 ≤ x) (hS : sumI ws ≠ 0) : 0 ≤ n - sumI (baseM n (sumI ws) ws) ∧ n - sumI (baseM n (sumI ws) ws) ≤ cntP ws := by
  have h0 := sumI_nonneg h
  have hS' : 0 < sumI ws := by omega
  obtain ⟨a1, a2⟩ := left_bd hn hS' h
  have hc := (cntP_bd ws).1
  generalize sumI (baseM n (sumI ws) ws) = B at *
  generalize hs : sumI ws = S at *
  have e : n * S - S * B = S * (n - B) := by rw [Int.mul_sub, Int.mul_comm n S]
  rw [e] at a1 a2
  have e2 : (S - 1) * cntP ws = S * cntP ws - cntP ws := by rw [Int.sub_mul, Int.one_mul]
  rw [e2] at a2
  generalize cntP ws = C at *
  constructor
  · rcases Int.lt_or_le (n - B) 0 with hq | hq
    · have : S * (n - B) ≤ S * (-1) := Int.mul_le_mul_of_nonneg_left (by omega) (by omega)
      omega
    · exact hq
  · rcases Int.lt_or_le C (n - B) with hq | hq
    · have : S * (C + 1) ≤ S * (n - B) := Int.mul_le_mul_of_nonneg_left (by omega) (by omega)
      rw [Int.mul_add, Int.mul_one] at this
      omega
    · exact hq
theorem base_bd {n S x : Int} (hn : 0 ≤ n) (hS : 0 < S) (h0 : 0 ≤ x) (hx : x ≤ S) : 0 ≤ n * x / S ∧ n * x / S ≤ n := by
  refine ⟨Int.ediv_nonneg (Int.mul_nonneg hn h0) (by omega), ?_⟩
  have h1 : n * x ≤ n * S := Int.mul_le_mul_of_nonneg_left hx hn
  have h2 := Int.ediv_le_ediv hS h1
  rwa [Int.mul_ediv_cancel _ (by omega)] at h2
theorem mem_le_sum : ∀ {ws : List Int}, (∀ x ∈ ws, 0 ≤ x) → ∀ x ∈ ws, x ≤ sumI ws
  | [], _, x, hx => by cases hx
  | y :: t, h, x, hx => by
    have h1 := h y List.mem_cons_self
    have h2 := sumI_nonneg (L := t) (fun q hq => h q (List.mem_cons_of_mem _ hq))
    simp only [sumI]
    rcases List.mem_cons.1 hx with rfl | hx
    · omega
    · have := mem_le_sum (ws := t) (fun q hq => h q (List.mem_cons_of_mem _ hq)) x hx
      omega
end Go.Proofs.Ytgdkionmeacalab
end
