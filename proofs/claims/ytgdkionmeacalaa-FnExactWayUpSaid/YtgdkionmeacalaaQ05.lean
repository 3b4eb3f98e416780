import Derived.Test.YtgdkionmeacalaaQ04
import Derived.LoopTactic
import Derived.OwnWalk
import Derived.Deep.RegionHeld3
import Derived.Deep.DrawnRows
section
set_option linter.unusedVariables false
namespace Go.Proofs.Ytgdkionmeacalaa
def Pk.ok (p : Pk) : Bool := vpB p.w p.h p.s p.an p.px p.py
def vpsB (L : List Pk) : Bool := L.all Pk.ok && decide (L.length ≤ 7)
theorem vpsB_iff {L : List Pk} : vpsB L = true ↔ (∀ p ∈ L, p.ok = true) ∧ L.length ≤ 7 := by simp [vpsB, List.all_eq_true]
def Pk.down (p : Pk) : Bool := decide (p.s = 0 ∨ p.s = 1)
def Pk.need (p : Pk) (d : Bool) : Int := if d then p.h + 2 * p.py else p.w + 2 * p.px
theorem Pk.need_bd {p : Pk} (h : p.ok = true) (d : Bool) : 0 ≤ p.need d ∧ p.need d ≤ 50 := by
  have := vpB_iff.1 h
  unfold Pk.need
  split <;> omega
theorem all_snoc {L : List Pk} {k : Nat} {p : Pk} (h : L[k]? = some p) : (L.take (k + 1)).all Pk.ok = ((L.take k).all Pk.ok && p.ok) := by
  have hk : k < L.length := (List.getElem?_eq_some_iff.1 h).1
  have e : L[k] = p := (List.getElem?_eq_some_iff.1 h).2
  rw [List.take_succ_eq_append_getElem hk, e]
  simp
/-- an item whose size is not too great -/
def Pk.big (p : Pk) : Prop := ((0 ≤ p.w ∧ p.w ≤ 1000000000000) ∧ (0 ≤ p.h ∧ p.h ≤ 1000000000000) ∧ (0 ≤ p.s ∧ p.s ≤ 3) ∧ (0 ≤ p.an ∧ p.an ≤ 8) ∧ (0 ≤ p.px ∧ p.px ≤ 10) ∧ (0 ≤ p.py ∧ p.py ≤ 10))
theorem Pk.ok_big {p : Pk} (h : p.ok = true) : p.big := by
  have := vpB_iff.1 h
  unfold Pk.big
  omega
theorem Pk.need_bdW {p : Pk} (h : p.big) (d : Bool) : 0 ≤ p.need d ∧ p.need d ≤ 1000000000020 := by
  unfold Pk.big at h
  unfold Pk.need
  split <;> omega
end Go.Proofs.Ytgdkionmeacalaa
end
section
namespace Go.Proofs.Ytgdkionmeacalaa
open Go.RowKit
set_option linter.unusedVariables false
set_option maxHeartbeats 1000000
/-- nine cells hold this item -/
def Cells9 (w : World) (b o : Nat) (p : Pk) : Prop :=
  w.cell? ⟨b, o, none⟩ = some (.int .i64 p.w) ∧ w.cell? ⟨b, o + 1, none⟩ = some (.int .i64 p.h) ∧ w.cell? ⟨b, o + 2, none⟩ = some (.int .i64 p.s) ∧ w.cell? ⟨b, o + 3, none⟩ = some (.bool p.fx) ∧ w.cell? ⟨b, o + 4, none⟩ = some (.bool p.fy) ∧
  w.cell? ⟨b, o + 5, none⟩ = some (.bool p.ex) ∧ w.cell? ⟨b, o + 6, none⟩ = some (.int .i64 p.an) ∧ w.cell? ⟨b, o + 7, none⟩ = some (.int .i64 p.px) ∧ w.cell? ⟨b, o + 8, none⟩ = some (.int .i64 p.py)
def PS (w : World) (b off : Nat) (L : List Pk) : Prop := ∀ i p, L[i]? = some p → Cells9 w b (off + i * 9) p
/-- a slice that reads as this list of items -/
structure PV (w : World) (A : Option Addr) (L : List Pk) : Prop where
  cells : 0 < L.length → ∃ b off, A = some ⟨b, off, none⟩ ∧ b < w.heap.size ∧ PS w b off L
theorem Cells9.keep {w w' : World} {b o : Nat} {p : Pk} (h : Cells9 w b o p) (hb : w'.heap[b]? = w.heap[b]?) : Cells9 w' b o p := by
  have e : ∀ i, w'.cell? ⟨b, i, none⟩ = w.cell? ⟨b, i, none⟩ := fun i => World.cell?_of_block (a := ⟨b, i, none⟩) hb
  unfold Cells9 at *
  simpa only [e] using h
theorem PV.keep {w w' : World} {A : Option Addr} {L : List Pk} (h : PV w A L) (hb : Below w.heap.size w w') : PV w' A L :=
  ⟨fun h0 => let ⟨b, off, e, hl, hp⟩ := h.cells h0; ⟨b, off, e, Nat.lt_of_lt_of_le hl hb.size, fun i p hi => (hp i p hi).keep (hb.block b hl)⟩⟩
theorem svp_v (p : Pk) (b : Bool) (h : p.ok = b) (w : World) : Calls Try.prog 71 #[.agg #[.int .i64 p.w, .int .i64 p.h, .int .i64 p.s, .bool p.fx, .bool p.fy, .bool p.ex, .int .i64 p.an, .int .i64 p.px, .int .i64 p.py]] w fun e w' => e = .returned (.bool b) ∧ Below w.heap.size w w' := by
  rw [← h]; exact specValidPack_any _ _ _ _ _ _ _ _ _ _
theorem vp_v (p : Pk) (b : Bool) (h : p.ok = b) (w : World) : Calls Try.prog 53 #[.agg #[.int .i64 p.w, .int .i64 p.h, .int .i64 p.s, .bool p.fx, .bool p.fy, .bool p.ex, .int .i64 p.an, .int .i64 p.px, .int .i64 p.py]] w fun e w' => e = .returned (.bool b) ∧ Below w.heap.size w w' := by
  rw [← h]; exact validPack_any _ _ _ _ _ _ _ _ _ _
end Go.Proofs.Ytgdkionmeacalaa
end
section
namespace Go.Proofs.Ytgdkionmeacalaa
open Go.RowKit
set_option linter.unusedVariables false
set_option maxHeartbeats 1000000
end Go.Proofs.Ytgdkionmeacalaa
end
section
namespace Go.Proofs.Ytgdkionmeacalaa
open Go.RowKit
set_option linter.unusedVariables false
set_option maxHeartbeats 1000000
/-- values written side by side -/
def writeAt (cs : Array Value) (o : Nat) : List Value → Array Value
  | [] => cs
  | v :: r => writeAt (cs.setIfInBounds o v) (o + 1) r
theorem writeAt_size : ∀ (vs : List Value) (cs : Array Value) (o : Nat), (writeAt cs o vs).size = cs.size
  | [], cs, o => rfl
  | v :: r, cs, o => by unfold writeAt; rw [writeAt_size r]; simp
theorem writeAt_lo : ∀ (vs : List Value) (cs : Array Value) (o i : Nat), i < o → (writeAt cs o vs)[i]? = cs[i]?
  | [], cs, o, i, _ => rfl
  | v :: r, cs, o, i, h => by unfold writeAt; rw [writeAt_lo r _ _ _ (by omega), Array.getElem?_setIfInBounds_ne (by omega)]
theorem writeAt_hi : ∀ (vs : List Value) (cs : Array Value) (o i : Nat), o + vs.length ≤ i → (writeAt cs o vs)[i]? = cs[i]?
  | [], cs, o, i, _ => rfl
  | v :: r, cs, o, i, h => by
    simp only [List.length_cons] at h
    unfold writeAt; rw [writeAt_hi r _ _ _ (by omega), Array.getElem?_setIfInBounds_ne (by omega)]
theorem writeAt_in : ∀ (vs : List Value) (cs : Array Value) (o j : Nat), o + vs.length ≤ cs.size → j < vs.length → (writeAt cs o vs)[o + j]? = vs[j]?
  | [], cs, o, j, _, h => by simp at h
  | v :: r, cs, o, 0, h, _ => by
    simp only [List.length_cons] at h
    unfold writeAt; rw [writeAt_lo r _ _ _ (by omega), Nat.add_zero, Array.getElem?_setIfInBounds_self_of_lt (by omega)]
    rfl
  | v :: r, cs, o, j + 1, h, hj => by
    simp only [List.length_cons] at h hj
    unfold writeAt
    rw [show o + (j + 1) = o + 1 + j from by omega, writeAt_in r _ _ _ (by simp; omega) (by omega)]
    simp
def vals (p : Pk) : List Value := [.int .i64 p.w, .int .i64 p.h, .int .i64 p.s, .bool p.fx, .bool p.fy, .bool p.ex, .int .i64 p.an, .int .i64 p.px, .int .i64 p.py]
/-- the items lie in the cells from o on -/
def In9 (cs : Array Value) (o : Nat) (p : Pk) : Prop := ∀ j, j < 9 → cs[o + j]? = (vals p)[j]?
theorem In9.cells {w : World} {b : Nat} {cs : Array Value} {T : TypeId} {fz : Nat × Nat} {o : Nat} {p : Pk} (hh : w.heap[b]? = some (.cells cs T fz)) (h : In9 cs o p) : Cells9 w b o p := by
  have e : ∀ j, j < 9 → w.cell? ⟨b, o + j, none⟩ = (vals p)[j]? := fun j hj => (cellH hh _).trans (h j hj)
  exact ⟨e 0 (by omega), e 1 (by omega), e 2 (by omega), e 3 (by omega), e 4 (by omega), e 5 (by omega), e 6 (by omega), e 7 (by omega), e 8 (by omega)⟩
theorem In9.write {cs : Array Value} {o : Nat} (p : Pk) (h : o + 9 ≤ cs.size) : In9 (writeAt cs o (vals p)) o p := fun j hj => writeAt_in _ _ _ _ h hj
theorem In9.keep {cs : Array Value} {o o' : Nat} {p q : Pk} (h : In9 cs o' q) (hd : o' + 9 ≤ o ∨ o + 9 ≤ o') : In9 (writeAt cs o (vals p)) o' q := fun j hj => by
  rcases hd with hd | hd
  · rw [writeAt_lo _ _ _ _ (by omega)]; exact h j hj
  · rw [writeAt_hi _ _ _ _ (by simp [vals]; omega)]; exact h j hj
theorem pput1 {w : World} {b i : Nat} {cs : Array Value} {T : TypeId} {fz : Nat × Nat} (h : w.heap[b]? = some (.cells cs T fz)) (u : Value) : (w.setCell ⟨b, i, none⟩ u).heap[b]? = some (.cells (cs.setIfInBounds i u) T fz) := by
  simp [World.setCell, Array.getElem?_modify, h]
/-- nine stores into one block -/
theorem pput9 {w : World} {b : Nat} {cs : Array Value} {T : TypeId} {fz : Nat × Nat} (h : w.heap[b]? = some (.cells cs T fz)) (o : Nat) (p : Pk) :
    ((((((((((w.setCell ⟨b, o, none⟩ (.int .i64 p.w)).setCell ⟨b, o + 1, none⟩ (.int .i64 p.h)).setCell ⟨b, o + 2, none⟩ (.int .i64 p.s)).setCell ⟨b, o + 3, none⟩ (.bool p.fx)).setCell ⟨b, o + 4, none⟩ (.bool p.fy)).setCell ⟨b, o + 5, none⟩ (.bool p.ex)).setCell ⟨b, o + 6, none⟩ (.int .i64 p.an)).setCell ⟨b, o + 7, none⟩ (.int .i64 p.px)).setCell ⟨b, o + 8, none⟩ (.int .i64 p.py))).heap[b]? = some (.cells (writeAt cs o (vals p)) T fz) :=
  pput1 (pput1 (pput1 (pput1 (pput1 (pput1 (pput1 (pput1 (pput1 h _) _) _) _) _) _) _) _) _
theorem pput9b {B b : Nat} {a w : World} (h : Below B a w) (hb : B ≤ b) (o : Nat) (p : Pk) : Below B a ((((((((((w.setCell ⟨b, o, none⟩ (.int .i64 p.w)).setCell ⟨b, o + 1, none⟩ (.int .i64 p.h)).setCell ⟨b, o + 2, none⟩ (.int .i64 p.s)).setCell ⟨b, o + 3, none⟩ (.bool p.fx)).setCell ⟨b, o + 4, none⟩ (.bool p.fy)).setCell ⟨b, o + 5, none⟩ (.bool p.ex)).setCell ⟨b, o + 6, none⟩ (.int .i64 p.an)).setCell ⟨b, o + 7, none⟩ (.int .i64 p.px)).setCell ⟨b, o + 8, none⟩ (.int .i64 p.py))) :=
  ((((((((h.setCell hb _).setCell hb _).setCell hb _).setCell hb _).setCell hb _).setCell hb _).setCell hb _).setCell hb _).setCell hb _
/-- cells of a block that are there -/
theorem there {w : World} {b : Nat} {cs : Array Value} {T : TypeId} {fz : Nat × Nat} (h : w.heap[b]? = some (.cells cs T fz)) {i : Nat} (hi : i < cs.size) : ∃ v, w.cell? ⟨b, i, none⟩ = some v :=
  ⟨cs[i], (cellH h i).trans (by simp [hi])⟩
theorem frozenH {w : World} {b : Nat} {cs : Array Value} {T : TypeId} (h : w.heap[b]? = some (.cells cs T (0, 0))) (i : Nat) : w.frozen? ⟨b, i, none⟩ = false := by simp [World.frozen?, h]
end Go.Proofs.Ytgdkionmeacalaa
end
section
namespace Go.Proofs.Ytgdkionmeacalaa
open Go.RowKit
set_option linter.unusedVariables false
set_option maxHeartbeats 1000000
theorem toPack_v (p : Pk) (w : World) : Calls Try.prog 49 #[.agg #[.int .i64 p.w, .int .i64 p.h, .int .i64 p.s, .bool p.fx, .bool p.fy, .bool p.ex, .int .i64 p.an, .int .i64 p.px, .int .i64 p.py]] w fun e w' => e = .returned (.agg #[.int .i64 p.w, .int .i64 p.h, .int .i64 p.s, .bool p.fx, .bool p.fy, .bool p.ex, .int .i64 p.an, .int .i64 p.px, .int .i64 p.py]) ∧ Below w.heap.size w w' := toPack_any _ _ _ _ _ _ _ _ _ _
/-- what a new block of items holds -/
def Blk9 (w : World) (g : Nat) (L : List Pk) : Prop := ∃ cs : Array Value, w.heap[g]? = some (.cells cs 67 (0, 0)) ∧ cs.size = L.length * 9 ∧ ∀ i p, L[i]? = some p → In9 cs (i * 9) p
theorem Blk9.pv {w : World} {g : Nat} {L : List Pk} (h : Blk9 w g L) : PV w (some ⟨g, 0, none⟩) L := by
  obtain ⟨cs, hh, hs, hc⟩ := h
  refine ⟨fun _ => ⟨g, 0, rfl, (Array.getElem?_eq_some_iff.1 hh).1, fun i p hp => ?_⟩⟩
  have := (hc i p hp).cells hh
  simpa using this
theorem Blk9.keep {w w' : World} {g : Nat} {L : List Pk} (h : Blk9 w g L) (hb : Below w.heap.size w w') : Blk9 w' g L := by
  obtain ⟨cs, hh, hs, hc⟩ := h
  exact ⟨cs, (hb.block g (Array.getElem?_eq_some_iff.1 hh).1).trans hh, hs, hc⟩
theorem Blk9.lt {w : World} {g : Nat} {L : List Pk} (h : Blk9 w g L) : g < w.heap.size := by obtain ⟨cs, hh, _⟩ := h; exact (Array.getElem?_eq_some_iff.1 hh).1
end Go.Proofs.Ytgdkionmeacalaa
end
section
namespace Go.Proofs.Ytgdkionmeacalaa
open Go.RowKit
set_option linter.unusedVariables false
set_option maxHeartbeats 1000000
attribute [local go_sem] growUpon_value growUpon_skip growUpon_enter
set_option maxRecDepth 100000 in
theorem eqPack_same (p : Pk) (w : World) : Calls Try.prog 58 #[.agg #[.int .i64 p.w, .int .i64 p.h, .int .i64 p.s, .bool p.fx, .bool p.fy, .bool p.ex, .int .i64 p.an, .int .i64 p.px, .int .i64 p.py], .agg #[.int .i64 p.w, .int .i64 p.h, .int .i64 p.s, .bool p.fx, .bool p.fy, .bool p.ex, .int .i64 p.an, .int .i64 p.px, .int .i64 p.py]] w fun e w' => e = .returned (.bool true) ∧ Below w.heap.size w w' := by
  go_enter Try.func58, Try.ntmps58
  go_wp2
  go_ret
  exact ⟨rfl, balloc (balloc (Below.refl _ _))⟩
end Go.Proofs.Ytgdkionmeacalaa
end
section
namespace Go.Proofs.Ytgdkionmeacalaa
open Go.RowKit
set_option linter.unusedVariables false
set_option maxHeartbeats 2000000
attribute [local go_sem] growUpon_value growUpon_skip growUpon_enter
set_option maxRecDepth 100000 in
theorem eqNode_same (n : Nd) (ca : Option Addr) (cc : Nat) (ra : Option Addr) (rc : Nat) (da : Option Addr) (dc : Nat) (sa : Option Addr) (sc : Nat) (w : World) (h1 : LnV w ca n.cs) (h2 : LnV w ra n.rs) (k1 : LnV w da n.cs) (k2 : LnV w sa n.rs) (m1 : n.cs.length ≤ 1048576) (m2 : n.rs.length ≤ 1048576) :
    Calls Try.prog 41 #[.agg (valsNr ⟨n, ca, cc, ra, rc⟩).toArray, .agg (valsNr ⟨n, da, dc, sa, sc⟩).toArray] w fun e w' => e = .returned (.bool true) ∧ Below w.heap.size w w' := by
  have hB0 : Below w.heap.size w ((w.alloc (.cells (valsNr ⟨n, ca, cc, ra, rc⟩).toArray 71 (0, 0))).alloc (.cells (valsNr ⟨n, da, dc, sa, sc⟩).toArray 71 (0, 0))) := balloc (balloc (Below.refl _ _))
  have HX := Lib.hid ((Below.heap_alloc _ (.cells (valsNr ⟨n, da, dc, sa, sc⟩).toArray 71 (0, 0)) w.heap.size (by simp)).trans (newS w (.cells (valsNr ⟨n, ca, cc, ra, rc⟩).toArray 71 (0, 0))))
  have HY := Lib.hid (newS1T w (.cells (valsNr ⟨n, ca, cc, ra, rc⟩).toArray 71 (0, 0)) (.cells (valsNr ⟨n, da, dc, sa, sc⟩).toArray 71 (0, 0)))
  have HV1 := Lib.hid (h1.keep hB0)
  have HV2 := Lib.hid (h2.keep hB0)
  have HK1 := Lib.hid (k1.keep hB0)
  have HK2 := Lib.hid (k2.keep hB0)
  have HB := Lib.hid hB0
  clear hB0 h1 h2 k1 k2
  have x0 : ((w.alloc (.cells (valsNr ⟨n, ca, cc, ra, rc⟩).toArray 71 (0, 0))).alloc (.cells (valsNr ⟨n, da, dc, sa, sc⟩).toArray 71 (0, 0))).cell? ⟨w.heap.size, 0, none⟩ = some (.int .i64 n.pa) := cellS HX.out 0
  have y0 : ((w.alloc (.cells (valsNr ⟨n, ca, cc, ra, rc⟩).toArray 71 (0, 0))).alloc (.cells (valsNr ⟨n, da, dc, sa, sc⟩).toArray 71 (0, 0))).cell? ⟨w.heap.size + 1, 0, none⟩ = some (.int .i64 n.pa) := cellS HY.out 0
  have x1 : ((w.alloc (.cells (valsNr ⟨n, ca, cc, ra, rc⟩).toArray 71 (0, 0))).alloc (.cells (valsNr ⟨n, da, dc, sa, sc⟩).toArray 71 (0, 0))).cell? ⟨w.heap.size, 1, none⟩ = some (.int .i64 n.ww) := cellS HX.out 1
  have y1 : ((w.alloc (.cells (valsNr ⟨n, ca, cc, ra, rc⟩).toArray 71 (0, 0))).alloc (.cells (valsNr ⟨n, da, dc, sa, sc⟩).toArray 71 (0, 0))).cell? ⟨w.heap.size + 1, 1, none⟩ = some (.int .i64 n.ww) := cellS HY.out 1
  have x2 : ((w.alloc (.cells (valsNr ⟨n, ca, cc, ra, rc⟩).toArray 71 (0, 0))).alloc (.cells (valsNr ⟨n, da, dc, sa, sc⟩).toArray 71 (0, 0))).cell? ⟨w.heap.size, 2, none⟩ = some (.int .i64 n.hh) := cellS HX.out 2
  have y2 : ((w.alloc (.cells (valsNr ⟨n, ca, cc, ra, rc⟩).toArray 71 (0, 0))).alloc (.cells (valsNr ⟨n, da, dc, sa, sc⟩).toArray 71 (0, 0))).cell? ⟨w.heap.size + 1, 2, none⟩ = some (.int .i64 n.hh) := cellS HY.out 2
  have x3 : ((w.alloc (.cells (valsNr ⟨n, ca, cc, ra, rc⟩).toArray 71 (0, 0))).alloc (.cells (valsNr ⟨n, da, dc, sa, sc⟩).toArray 71 (0, 0))).cell? ⟨w.heap.size, 3, none⟩ = some (.bool n.ke) := cellS HX.out 3
  have y3 : ((w.alloc (.cells (valsNr ⟨n, ca, cc, ra, rc⟩).toArray 71 (0, 0))).alloc (.cells (valsNr ⟨n, da, dc, sa, sc⟩).toArray 71 (0, 0))).cell? ⟨w.heap.size + 1, 3, none⟩ = some (.bool n.ke) := cellS HY.out 3
  have x4 : ((w.alloc (.cells (valsNr ⟨n, ca, cc, ra, rc⟩).toArray 71 (0, 0))).alloc (.cells (valsNr ⟨n, da, dc, sa, sc⟩).toArray 71 (0, 0))).cell? ⟨w.heap.size, 4, none⟩ = some (.int .i64 n.ki) := cellS HX.out 4
  have y4 : ((w.alloc (.cells (valsNr ⟨n, ca, cc, ra, rc⟩).toArray 71 (0, 0))).alloc (.cells (valsNr ⟨n, da, dc, sa, sc⟩).toArray 71 (0, 0))).cell? ⟨w.heap.size + 1, 4, none⟩ = some (.int .i64 n.ki) := cellS HY.out 4
  have x5 : ((w.alloc (.cells (valsNr ⟨n, ca, cc, ra, rc⟩).toArray 71 (0, 0))).alloc (.cells (valsNr ⟨n, da, dc, sa, sc⟩).toArray 71 (0, 0))).cell? ⟨w.heap.size, 5, none⟩ = some (.slice ca n.cs.length cc) := cellS HX.out 5
  have y5 : ((w.alloc (.cells (valsNr ⟨n, ca, cc, ra, rc⟩).toArray 71 (0, 0))).alloc (.cells (valsNr ⟨n, da, dc, sa, sc⟩).toArray 71 (0, 0))).cell? ⟨w.heap.size + 1, 5, none⟩ = some (.slice da n.cs.length dc) := cellS HY.out 5
  go_enter Try.func41, Try.ntmps41
  go_wp2_with fail
  with_reducible refine (eqLnS_same ca da cc dc n.cs _ HV1.out HK1.out m1).mono ?_
  rintro e w1 ⟨rfl, hb⟩
  clear x0 y0 x1 y1 x2 y2 x3 y3 x4 y4 x5 y5
  replace HX := Lib.hid ((hb.block _ (Array.getElem?_eq_some_iff.1 HX.out).1).trans HX.out)
  replace HY := Lib.hid ((hb.block _ (Array.getElem?_eq_some_iff.1 HY.out).1).trans HY.out)
  replace HV2 := Lib.hid (HV2.out.keep hb)
  replace HK2 := Lib.hid (HK2.out.keep hb)
  replace HB := Lib.hid (bkeep2 HB.out hb)
  clear hb
  have x6 : w1.cell? ⟨w.heap.size, 6, none⟩ = some (.slice ra n.rs.length rc) := cellS HX.out 6
  have y6 : w1.cell? ⟨w.heap.size + 1, 6, none⟩ = some (.slice sa n.rs.length sc) := cellS HY.out 6
  go_wp2_with fail
  with_reducible refine (eqLnS_same ra sa rc sc n.rs _ HV2.out HK2.out m2).mono ?_
  rintro e w2 ⟨rfl, hb⟩
  clear x6 y6
  replace HX := Lib.hid ((hb.block _ (Array.getElem?_eq_some_iff.1 HX.out).1).trans HX.out)
  replace HY := Lib.hid ((hb.block _ (Array.getElem?_eq_some_iff.1 HY.out).1).trans HY.out)
  replace HB := Lib.hid (bkeep2 HB.out hb)
  clear hb
  have hx := node_pk (nodeAt HX.out)
  have hy := node_pk (nodeAt HY.out)
  simp only [Nat.zero_add] at hx hy
  have HRX := Lib.hid hx
  have HRY := Lib.hid hy
  clear hx hy
  go_wp2_with (first | (refine wpList_load_mid rfl 67 _ rfl w.heap.size 7 rfl [.int .i64 n.pk.w, .int .i64 n.pk.h, .int .i64 n.pk.s, .bool n.pk.fx, .bool n.pk.fy, .bool n.pk.ex, .int .i64 n.pk.an, .int .i64 n.pk.px, .int .i64 n.pk.py] _ HRX.out Try.underlying67 rfl (by kernel_rfl) ?_) | (refine wpList_load_mid rfl 67 _ rfl (w.heap.size + 1) 7 rfl [.int .i64 n.pk.w, .int .i64 n.pk.h, .int .i64 n.pk.s, .bool n.pk.fx, .bool n.pk.fy, .bool n.pk.ex, .int .i64 n.pk.an, .int .i64 n.pk.px, .int .i64 n.pk.py] _ HRY.out Try.underlying67 rfl (by kernel_rfl) ?_))
  with_reducible refine (eqPack_same n.pk _).mono ?_
  rintro e w3 ⟨rfl, hb⟩
  clear HRX HRY
  replace HX := Lib.hid ((hb.block _ (Array.getElem?_eq_some_iff.1 HX.out).1).trans HX.out)
  replace HY := Lib.hid ((hb.block _ (Array.getElem?_eq_some_iff.1 HY.out).1).trans HY.out)
  replace HB := Lib.hid (bkeep2 HB.out hb)
  clear hb
  have hx := node_ce (nodeAt HX.out)
  have hy := node_ce (nodeAt HY.out)
  simp only [Nat.zero_add] at hx hy
  have HRX := Lib.hid hx
  have HRY := Lib.hid hy
  clear hx hy
  go_wp2_with (first | (refine wpList_load_mid rfl 68 _ rfl w.heap.size 16 rfl [.int .i64 n.ce.co, .int .i64 n.ce.ro, .int .i64 n.ce.mc, .int .i64 n.ce.mr, .int .i64 n.ce.cw, .int .i64 n.ce.ch, .int .i64 n.ce.sk, .int .i64 n.ce.px, .int .i64 n.ce.py] _ HRX.out Try.underlying68 rfl (by kernel_rfl) ?_) | (refine wpList_load_mid rfl 68 _ rfl (w.heap.size + 1) 16 rfl [.int .i64 n.ce.co, .int .i64 n.ce.ro, .int .i64 n.ce.mc, .int .i64 n.ce.mr, .int .i64 n.ce.cw, .int .i64 n.ce.ch, .int .i64 n.ce.sk, .int .i64 n.ce.px, .int .i64 n.ce.py] _ HRY.out Try.underlying68 rfl (by kernel_rfl) ?_))
  with_reducible refine (eqCe_same n.ce _).mono ?_
  rintro e w4 ⟨rfl, hb⟩
  clear HRX HRY
  replace HX := Lib.hid ((hb.block _ (Array.getElem?_eq_some_iff.1 HX.out).1).trans HX.out)
  replace HY := Lib.hid ((hb.block _ (Array.getElem?_eq_some_iff.1 HY.out).1).trans HY.out)
  replace HB := Lib.hid (bkeep2 HB.out hb)
  clear hb
  have hx := node_pl (nodeAt HX.out)
  have hy := node_pl (nodeAt HY.out)
  simp only [Nat.zero_add] at hx hy
  have HRX := Lib.hid hx
  have HRY := Lib.hid hy
  clear hx hy
  go_wp2_with (first | (refine wpList_load_mid rfl 69 _ rfl w.heap.size 25 rfl [.int .i64 n.pl.x, .int .i64 n.pl.y, .int .i64 n.pl.rx, .int .i64 n.pl.ry, .int .i64 n.pl.ww, .int .i64 n.pl.hh, .int .i64 n.pl.qw, .int .i64 n.pl.qh, .int .i64 n.pl.an] _ HRX.out Try.underlying69 rfl (by kernel_rfl) ?_) | (refine wpList_load_mid rfl 69 _ rfl (w.heap.size + 1) 25 rfl [.int .i64 n.pl.x, .int .i64 n.pl.y, .int .i64 n.pl.rx, .int .i64 n.pl.ry, .int .i64 n.pl.ww, .int .i64 n.pl.hh, .int .i64 n.pl.qw, .int .i64 n.pl.qh, .int .i64 n.pl.an] _ HRY.out Try.underlying69 rfl (by kernel_rfl) ?_))
  with_reducible refine (eqPlace_same n.pl _).mono ?_
  rintro e w5 ⟨rfl, hb⟩
  clear HRX HRY
  replace HX := Lib.hid ((hb.block _ (Array.getElem?_eq_some_iff.1 HX.out).1).trans HX.out)
  replace HY := Lib.hid ((hb.block _ (Array.getElem?_eq_some_iff.1 HY.out).1).trans HY.out)
  replace HB := Lib.hid (bkeep2 HB.out hb)
  clear hb
  go_wp2
  go_ret
  exact ⟨rfl, HB.out⟩
theorem eqN_w (p q : Nr) (w : World) (hn : q.n = p.n) (hp : RdN w p) (hq : RdN w q) (m1 : p.n.cs.length ≤ 1048576) (m2 : p.n.rs.length ≤ 1048576) :
    Calls Try.prog 41 #[.agg (valsNr p).toArray, .agg (valsNr q).toArray] w fun e w' => e = .returned (.bool true) ∧ Below w.heap.size w w' := by
  obtain ⟨n, ca, cc, ra, rc⟩ := p
  obtain ⟨n', da, dc, sa, sc⟩ := q
  obtain rfl : n' = n := hn
  exact eqNode_same n' ca cc ra rc da dc sa sc w hp.c hp.r hq.c hq.r m1 m2
set_option maxRecDepth 100000 in
theorem eqNodeS_same (A B : Option Addr) (c c' : Nat) (R S : List Nr) (w : World) (hn : S.map Nr.n = R.map Nr.n) (h : NrV w A R) (h' : NrV w B S) (hr : RdR w R) (hs : RdR w S) (hL : R.length ≤ 1048576) (hm : ∀ p ∈ R, p.n.cs.length ≤ 1048576 ∧ p.n.rs.length ≤ 1048576) (k : Nat) (hk : k = R.length) :
    Calls Try.prog 25 #[.slice A k c, .slice B k c'] w fun e w' => e = .returned (.bool true) ∧ Below w.heap.size w w' := by
  subst hk
  have hls : S.length = R.length := by have := congrArg List.length hn; simpa using this
  have HN := Lib.hid hn
  have HR := Lib.hid hr
  have HS := Lib.hid hs
  have HM := Lib.hid hm
  have HLS := Lib.hid hls
  clear hn hr hs hm hls
  go_enter Try.func25, Try.ntmps25
  go_wp2_with fail
  go_loopw [5] (fun i wr => ∃ k : Nat, k ≤ R.length ∧ i = .int .i64 k ∧ Below w.heap.size w wr) (fun i _ => R.length - (intOf i).toNat)
  case atStart => exact ⟨0, by omega, rfl, Below.refl _ _⟩
  case round =>
    obtain ⟨k, hk, rfl, hB⟩ := hrel
    by_cases hlt : k < R.length
    · have hd : decide ((k : Int) < (R.length : Int)) = true := by simpa using hlt
      have hlt' : k < S.length := by rw [HLS.out]; exact hlt
      obtain ⟨b, off, rfl, hb, hp⟩ := (h.keep hB).cells (by omega)
      obtain ⟨b', off', rfl, hb', hp'⟩ := (h'.keep hB).cells (by omega)
      have hg1 : R[k]? = some R[k] := List.getElem?_eq_getElem hlt
      have hg2 : S[k]? = some S[k] := List.getElem?_eq_getElem hlt'
      have hr1 := hp k _ hg1
      have hr2 := hp' k _ hg2
      have hnn : (S[k]).n = (R[k]).n := by
        have := congrArg (fun l => l[k]?) HN.out
        simpa [List.getElem?_map, hg1, hg2] using this
      have hrd1 := (HR.out.keep hB) _ (List.mem_of_getElem? hg1)
      have hrd2 := (HS.out.keep hB) _ (List.mem_of_getElem? hg2)
      have hmm := HM.out _ (List.mem_of_getElem? hg1)
      generalize R[k] = p at *
      generalize S[k] = q at *
      have HR1 := Lib.hid hr1
      have HR2 := Lib.hid hr2
      have HNN := Lib.hid hnn
      have HBB := Lib.hid hB
      have HD1 := Lib.hid hrd1
      have HD2 := Lib.hid hrd2
      obtain ⟨mm1, mm2⟩ := hmm
      clear hr1 hr2 hnn hB hg1 hg2 hp hp' hrd1 hrd2 hlt'
      go_wp2_with fail
      refine wp_region_grow 10 0 (· < 10) (by kernel_rfl) (by kernel_rfl) rfl ?_
      iterate 10 (refine wpG_step (fun K hK => ?_); first | (refine grow_ldN _ p b (off + k * 34) rfl rfl rfl hb (rangeB HR1.out rfl) ?_; refine hK _ ?_; clear hK K) | (refine grow_ldN _ q b' (off' + k * 34) rfl rfl rfl hb' (rangeB HR2.out rfl) ?_; refine hK _ ?_; clear hK K) | (refine grow_skip rfl ?_; go_simp; refine hK _ ?_; clear hK K) | (apply Exists.intro; refine ⟨.inl ⟨rfl, fun w' hw' => ?_⟩, ?_⟩; (focus ((obtain ⟨hc, hf⟩ := bcell hw'.out); (have hcS := bcellS hw'.out); go_simp <;> first | rfl | (go_at_call 41; exact eqN_w p q _ HNN.out (HD1.out.keep (bdrewn hw'.out)) (HD2.out.keep (bdrewn hw'.out)) mm1 mm2))); (go_simp; refine hK _ ?_; clear hK K)))
      refine wpG_nil ?_
      refine wpK_tail (by kernel_rfl) (fun w1 hg1 => ?_)
      have hb1 := bdrewn hg1.out
      refine wpAny_end (by kernel_rfl) ?_
      refine NoPan.thn ?_
      clear hg1
      replace HBB := Lib.hid (HBB.out.trans (hb1.mono HBB.out.size))
      clear hb1
      go_wp2
      go_roundw
      case rel => exact ⟨k + 1, by omega, by go_num, HBB.out⟩
      case measure => simp [intOf]; omega
    · have hd : decide ((k : Int) < (R.length : Int)) = false := decide_eq_false (by omega)
      have HBB := Lib.hid hB
      clear hB
      go_wp2
      go_ret
      exact ⟨rfl, HBB.out⟩
set_option maxRecDepth 100000 in
theorem eqTree_same (A B : Option Addr) (c c' : Nat) (R S : List Nr) (w : World) (hn : S.map Nr.n = R.map Nr.n) (h : NrV w A R) (h' : NrV w B S) (hr : RdR w R) (hs : RdR w S) (hL : R.length ≤ 1048576) (hm : ∀ p ∈ R, p.n.cs.length ≤ 1048576 ∧ p.n.rs.length ≤ 1048576) (k : Nat) (hk : k = R.length) :
    Calls Try.prog 9 #[.agg #[.slice A k c], .agg #[.slice B k c']] w fun e w' => e = .returned (.bool true) ∧ Below w.heap.size w w' := by
  have hB0 : Below w.heap.size w ((w.alloc (.cells #[.slice A k c] 28 (0, 0))).alloc (.cells #[.slice B k c'] 28 (0, 0))) := balloc (balloc (Below.refl _ _))
  have hx := (Below.heap_alloc _ (.cells #[.slice B k c'] 28 (0, 0)) w.heap.size (by simp)).trans (newS w (.cells #[.slice A k c] 28 (0, 0)))
  have hy := newS1T w (.cells #[.slice A k c] 28 (0, 0)) (.cells #[.slice B k c'] 28 (0, 0))
  have x0 := cellS hx 0
  have y0 := cellS hy 0
  have HA := Lib.hid (And.intro (h.keep hB0) (And.intro (h'.keep hB0) (And.intro (hr.keep hB0) (hs.keep hB0))))
  have HN := Lib.hid (And.intro hn (And.intro hm hk))
  have HB := Lib.hid hB0
  clear hB0 hx hy hn h h' hr hs hm hk
  go_enter Try.func9, Try.ntmps9
  go_wp2_with fail
  with_reducible refine (eqNodeS_same A B c c' R S _ HN.out.1 HA.out.1 HA.out.2.1 HA.out.2.2.1 HA.out.2.2.2 hL HN.out.2.1 k HN.out.2.2).mono ?_
  rintro e w1 ⟨rfl, hb⟩
  clear x0 y0
  replace HB := Lib.hid (bkeep2 HB.out hb)
  clear hb
  go_wp2
  go_ret
  exact ⟨rfl, HB.out⟩
end Go.Proofs.Ytgdkionmeacalaa
end
section
namespace Go.Proofs.Ytgdkionmeacalaa
open Go.RowKit
set_option linter.unusedVariables false
set_option maxHeartbeats 1000000
def nvalsW (L : List Int) : List Value := L.map (Value.int .i64)
theorem nvalsW_snoc (L : List Int) (x : Int) : nvalsW L ++ [.int .i64 x] = nvalsW (L ++ [x]) := by simp [nvalsW]
/-- a block with room: what it holds ahead -/
def OB (w : World) (g cap : Nat) (L : List Int) : Prop := L.length ≤ cap ∧ ∃ cs : Array Value, w.heap[g]? = some (.cells cs 3 (0, 0)) ∧ cs.size = cap ∧ ∀ (i : Nat) (x : Int), L[i]? = some x → cs[i]? = some (Value.int .i64 x)
theorem OB.lt {w : World} {g cap : Nat} {L : List Int} (h : OB w g cap L) : g < w.heap.size := by obtain ⟨_, cs, hh, _⟩ := h; exact ltS hh
theorem OB.keep {w w' : World} {g cap : Nat} {L : List Int} (h : OB w g cap L) (hb : Below w.heap.size w w') : OB w' g cap L := by
  obtain ⟨hl, cs, hh, hs, hc⟩ := h
  exact ⟨hl, cs, (hb.block g (ltS hh)).trans hh, hs, hc⟩
theorem OB.cell {w : World} {g cap i : Nat} {L : List Int} {x : Int} (h : OB w g cap L) (hx : L[i]? = some x) : w.cell? ⟨g, i, none⟩ = some (.int .i64 x) := by
  obtain ⟨hl, cs, hh, hs, hc⟩ := h
  exact (cellS hh i).trans (hc i x hx)
theorem OB.frozen {w : World} {g cap : Nat} {L : List Int} (h : OB w g cap L) (i : Nat) : w.frozen? ⟨g, i, none⟩ = false := by
  obtain ⟨hl, cs, hh, hs, hc⟩ := h
  exact frozenS hh i
theorem OB.set {w : World} {g cap : Nat} {L : List Int} (h : OB w g cap L) (i : Nat) (y : Int) (hi : i < L.length) : OB (w.setCell ⟨g, i, none⟩ (.int .i64 y)) g cap (L.set i y) := by
  obtain ⟨hl, cs, hh, hs, hc⟩ := h
  refine ⟨by rw [List.length_set]; exact hl, _, putS hh _, by simp [hs], fun k x hk => ?_⟩
  by_cases e : i = k
  · subst e
    rw [List.getElem?_set_self hi] at hk
    obtain rfl := Option.some.inj hk
    rw [Array.getElem?_setIfInBounds_self_of_lt (by omega)]
  · rw [List.getElem?_set_ne e] at hk
    rw [Array.getElem?_setIfInBounds_ne e]
    exact hc k x hk
theorem OB.nv {w : World} {g cap : Nat} {L : List Int} (h : OB w g cap L) : NV w (some ⟨g, 0, none⟩) L :=
  ⟨fun _ => ⟨g, 0, rfl, h.lt, fun i x hx => by rw [Nat.zero_add]; exact h.cell hx⟩⟩
theorem own_inW {w : World} {base n : Nat} {v : Value} {M : List Int} (h : w.ownsRow base 3 1 v n (nvalsW M)) (hn : n = M.length) :
    (v = .slice none 0 0 ∧ M = []) ∨ ∃ g cap, v = .slice (some ⟨g, 0, none⟩) n cap ∧ base ≤ g ∧ OB w g cap M := by
  rcases h.2 with ⟨rfl, h0⟩ | ⟨g, cap, cur, rfl, hb, hg, hc, _, hs, ht⟩
  · exact .inl ⟨rfl, List.length_eq_zero_iff.1 (by omega)⟩
  · refine .inr ⟨g, cap, rfl, hb, by omega, cur, hg, by omega, fun i x hx => ?_⟩
    have e : (nvalsW M)[i]? = some (Value.int .i64 x) := by simp [nvalsW, hx]
    have hi := (List.getElem?_eq_some_iff.1 hx).1
    rw [← ht, List.getElem?_take] at e
    rw [if_pos (by omega)] at e
    simpa using e
theorem int_infoW : ∃ (i : TypeInfo) (z : Value), Try.prog.info? 3 = some i ∧ i.zero = some z ∧ i.size = 1 ∧ i.bytes = 8 ∧ z.cells.size = 1 := by
  have hinfo : (Try.prog.info? 3).map (fun i => (i.zero, i.size, i.bytes)) = some (some (.int .i64 0), 1, 8) := by kernel_rfl
  obtain ⟨i, hi, h1, h2, h3⟩ := info_parts hinfo
  exact ⟨i, _, hi, h1, h2, h3, rfl⟩
theorem newW (W : World) (x : Int) (T : TypeId) : ∀ (j : Nat) (u : Value), [Value.int .i64 x][j]? = some u → (W.alloc (.cells #[.int .i64 x] T)).cell? ((⟨W.heap.size, 0, none⟩ : Addr).add j) = some u := fun j u h => by
  have hadd : (⟨W.heap.size, 0, none⟩ : Addr).add j = ⟨W.heap.size, j, none⟩ := by unfold Addr.add; split <;> simp_all
  rw [hadd]
  exact (cellS (newS W _) j).trans (by simpa using h)
theorem below_own {n : Nat} {a W w5 : World} {v : Value} {o : Obj} {lo hi : Nat} (h : Below n a W) (hg : (W.alloc o).grownBy w5 v.ownBlock) (hob : ∀ k, v.ownBlock = some k → lo ≤ k ∧ k < hi) (hlo : n ≤ lo) (hn : n ≤ a.heap.size) : Below n a w5 :=
  have h' : Below n a (W.alloc o) := h.alloc (Nat.le_trans hn h.size) o
  ⟨hg.os.trans h'.os, hg.tape.trans h'.tape, hg.output.trans h'.output, Nat.le_trans h'.size hg.size, fun k hk => (hg.block k (Nat.lt_of_lt_of_le (Nat.lt_of_lt_of_le hk hn) h'.size) (fun e => by have := hob k e.symm; omega)).trans (h'.block k hk)⟩
end Go.Proofs.Ytgdkionmeacalaa
end
section
namespace Go.Proofs.Ytgdkionmeacalaa
open Go.RowKit
set_option linter.unusedVariables false
set_option maxHeartbeats 1000000
attribute [local go_sem] growUpon_value growUpon_skip growUpon_enter
structure Sp where
  sa : Int
  many : Int
  need : Int
def valsSp (p : Sp) : List Value := [.int .i64 p.sa, .int .i64 p.many, .int .i64 p.need]
/-- a slice that reads as this list -/
structure SpV (w : World) (A : Option Addr) (L : List Sp) : Prop where
  cells : 0 < L.length → ∃ b off, A = some ⟨b, off, none⟩ ∧ b < w.heap.size ∧ ∀ i p, L[i]? = some p → w.cell? ⟨b, off + i * 3, none⟩ = some (.int .i64 p.sa) ∧ w.cell? ⟨b, off + i * 3 + 1, none⟩ = some (.int .i64 p.many) ∧ w.cell? ⟨b, off + i * 3 + 2, none⟩ = some (.int .i64 p.need)
theorem SpV.keep {w w' : World} {A : Option Addr} {L : List Sp} (h : SpV w A L) (hb : Below w.heap.size w w') : SpV w' A L :=
  ⟨fun h0 => let ⟨b, off, e, hl, hp⟩ := h.cells h0; ⟨b, off, e, Nat.lt_of_lt_of_le hl hb.size, fun i p hi => by
    obtain ⟨c0, c1, c2⟩ := hp i p hi
    exact ⟨(hb.cell (p := ⟨b, off + i * 3, none⟩) hl).trans c0, (hb.cell (p := ⟨b, off + i * 3 + 1, none⟩) hl).trans c1, (hb.cell (p := ⟨b, off + i * 3 + 2, none⟩) hl).trans c2⟩⟩⟩
theorem SpV.nil (w : World) (A : Option Addr) : SpV w A [] := ⟨fun h => absurd h (by simp)⟩
/-- what a new block holds -/
def SpB (w : World) (g : Nat) (L : List Sp) : Prop := ∃ cs : Array Value, w.heap[g]? = some (.cells cs 127 (0, 0)) ∧ cs.size = L.length * 3 ∧ ∀ i p, L[i]? = some p → InS cs (i * 3) (valsSp p)
theorem SpB.v {w : World} {g : Nat} {L : List Sp} (h : SpB w g L) : SpV w (some ⟨g, 0, none⟩) L := by
  obtain ⟨cs, hh, hs, hc⟩ := h
  refine ⟨fun _ => ⟨g, 0, rfl, ltS hh, fun i p hp => ?_⟩⟩
  have hi := hc i p hp
  simp only [Nat.zero_add]
  exact ⟨(cellS hh _).trans (hi 0 _ rfl), (cellS hh _).trans (hi 1 _ rfl), (cellS hh _).trans (hi 2 _ rfl)⟩
theorem SpB.lt {w : World} {g : Nat} {L : List Sp} (h : SpB w g L) : g < w.heap.size := by obtain ⟨cs, hh, _⟩ := h; exact ltS hh
theorem SpB.keep {w w' : World} {g : Nat} {L : List Sp} (h : SpB w g L) (hb : Below w.heap.size w w') : SpB w' g L := by
  obtain ⟨cs, hh, hs, hc⟩ := h
  exact ⟨cs, (hb.block g (ltS hh)).trans hh, hs, hc⟩
theorem SpB.but {w w' : World} {g h : Nat} {L : List Sp} (hi : SpB w h L) (hg : w.grownBy w' (some g)) (hne : h ≠ g) : SpB w' h L := by
  obtain ⟨cs, hh, hs, hc⟩ := hi
  exact ⟨cs, (hg.block h (ltS hh) (fun e => hne (Option.some.inj e))).trans hh, hs, hc⟩
theorem putSp {w : World} {b : Nat} {cs : Array Value} {T : TypeId} {fz : Nat × Nat} (h : w.heap[b]? = some (.cells cs T fz)) (o : Nat) (p : Sp) :
    ((((w.setCell ⟨b, o, none⟩ (.int .i64 p.sa)).setCell ⟨b, o + 1, none⟩ (.int .i64 p.many)).setCell ⟨b, o + 2, none⟩ (.int .i64 p.need))).heap[b]? = some (.cells (wrAt cs o (valsSp p)) T fz) :=
  putS (putS (putS h _) _) _
theorem putSpb {B b : Nat} {a w : World} (h : Below B a w) (hb : B ≤ b) (o : Nat) (p : Sp) : Below B a ((((w.setCell ⟨b, o, none⟩ (.int .i64 p.sa)).setCell ⟨b, o + 1, none⟩ (.int .i64 p.many)).setCell ⟨b, o + 2, none⟩ (.int .i64 p.need))) :=
  (((h).setCell hb _).setCell hb _).setCell hb _
end Go.Proofs.Ytgdkionmeacalaa
end
section
namespace Go.Proofs.Ytgdkionmeacalaa
set_option linter.unusedVariables false
/-- each part, without a rest -/
def baseM (n S : Int) (ws : List Int) : List Int := ws.map (fun x => n * x / S)
/-- the first ones that have a weight get 1 more, as many as are missing -/
def onesM : Int → List Int → List Int → List Int
  | m, x :: ws, b :: bs => if 0 < x ∧ 0 < m then (b + 1) :: onesM (m - 1) ws bs else b :: onesM m ws bs
  | _, _, bs => bs
def spreadM (n : Int) (ws : List Int) : List Int :=
  if sumI ws = 0 then (List.replicate ws.length 0).set (ws.length - 1) n
  else onesM (n - sumI (baseM n (sumI ws) ws)) ws (baseM n (sumI ws) ws)
theorem baseM_len (n S : Int) (ws : List Int) : (baseM n S ws).length = ws.length := by simp [baseM]
theorem onesM_len : ∀ {m : Int} {ws bs : List Int}, (onesM m ws bs).length = bs.length
  | m, [], bs => by simp [onesM]
  | m, x :: ws, [] => by simp [onesM]
  | m, x :: ws, b :: bs => by
    unfold onesM
    split <;> simp [onesM_len]
theorem spreadM_len {n : Int} {ws : List Int} : (spreadM n ws).length = ws.length := by
  unfold spreadM
  split
  · simp
  · rw [onesM_len, baseM_len]
theorem onesM_zero : ∀ {m : Int} {ws bs : List Int}, m ≤ 0 → onesM m ws bs = bs
  | m, [], bs, h => by simp [onesM]
  | m, x :: ws, [], h => by simp [onesM]
  | m, x :: ws, b :: bs, h => by
    unfold onesM
    rw [if_neg (by omega), onesM_zero h]
/-- how many have a weight -/
def cntP : List Int → Int
  | [] => 0
  | x :: t => (if 0 < x then 1 else 0) + cntP t
theorem cntP_bd : ∀ ws : List Int, 0 ≤ cntP ws ∧ cntP ws ≤ ws.length
  | [] => by simp [cntP]
  | x :: t => by
    have := cntP_bd t
    simp only [cntP, List.length_cons]
    split <;> omega
theorem sumI_nonneg {L : List Int} (h : ∀ x ∈ L, 0 ≤ x) : 0 ≤ sumI L := by
  induction L with
  | nil => exact Int.le_refl _
  | cons x t ih =>
    have h1 := h x List.mem_cons_self
    have h2 := ih (fun q hq => h q (List.mem_cons_of_mem _ hq))
    simp only [sumI]; omega
theorem mul_sum (n : Int) : ∀ ws : List Int, n * sumI ws = sumI (ws.map (fun x => n * x))
  | [] => by simp [sumI]
  | x :: t => by simp only [sumI, List.map_cons, Int.mul_add, mul_sum n t]
/-- what the parts without a rest leave: at least 0, and less than the positive weights are many, or 0 -/
theorem left_bd {n S : Int} (hn : 0 ≤ n) (hS : 0 < S) : ∀ {ws : List Int}, (∀ x ∈ ws, 0 ≤ x) → 0 ≤ n * sumI ws - S * sumI (baseM n S ws) ∧ n * sumI ws - S * sumI (baseM n S ws) ≤ (S - 1) * cntP ws
  | [], _ => by simp [sumI, baseM, cntP]
  | x :: t, h => by
    have ih := left_bd hn hS (ws := t) (fun q hq => h q (List.mem_cons_of_mem _ hq))
    have hx := h x List.mem_cons_self
    have e := Int.mul_ediv_add_emod (n * x) S
    have r0 := Int.emod_nonneg (n * x) (show S ≠ 0 by omega)
    have r1 := Int.emod_lt_of_pos (n * x) hS
    have eb : sumI (baseM n S (x :: t)) = n * x / S + sumI (baseM n S t) := rfl
    rw [eb]
    simp only [sumI, cntP, Int.mul_add]
    generalize n * x / S = q at *
    generalize (n * x) % S = r at *
    generalize n * sumI t = u at *
    generalize S * sumI (baseM n S t) = v at *
    generalize (S - 1) * cntP t = z at *
    by_cases hp : 0 < x
    · simp only [if_pos hp, Int.mul_one]
      omega
    · have hx0 : x = 0 := by omega
      subst hx0
      simp only [Int.mul_zero] at e ⊢
      simp only [Int.lt_irrefl, if_false, Int.mul_zero]
      have hsq : S * q = 0 ∨ S * q ≠ 0 := by omega
      have hr : r = 0 := by
        have : S * q + r = 0 := e
        rcases Int.lt_or_le q 0 with hq | hq
        · have : S * q ≤ S * (-1) := Int.mul_le_mul_of_nonneg_left (by omega) (by omega)
          omega
        · have : 0 ≤ S * q := Int.mul_nonneg (by omega) hq
          omega
      omega
theorem miss_bd {n : Int} {ws : List Int} (hn : 0 ≤ n) (h : ∀ x ∈ ws, 0 ≤ x) (hS : sumI ws ≠ 0) : 0 ≤ n - sumI (baseM n (sumI ws) ws) ∧ n - sumI (baseM n (sumI ws) ws) ≤ cntP ws := by
  have h0 := sumI_nonneg h
  have hS' : 0 < sumI ws := by omega
  obtain ⟨a1, a2⟩ := left_bd hn hS' h
  have hc := (cntP_bd ws).1
  generalize sumI (baseM n (sumI ws) ws) = B at *
  generalize hs : sumI ws = S at *
  have e : n * S - S * B = S * (n - B) := by rw [Int.mul_sub, Int.mul_comm n S]
  rw [e] at a1 a2
  have e2 : (S - 1) * cntP ws = S * cntP ws - cntP ws := by rw [Int.sub_mul, Int.one_mul]
  rw [e2] at a2
  generalize cntP ws = C at *
  constructor
  · rcases Int.lt_or_le (n - B) 0 with hq | hq
    · have : S * (n - B) ≤ S * (-1) := Int.mul_le_mul_of_nonneg_left (by omega) (by omega)
      omega
    · exact hq
  · rcases Int.lt_or_le C (n - B) with hq | hq
    · have : S * (C + 1) ≤ S * (n - B) := Int.mul_le_mul_of_nonneg_left (by omega) (by omega)
      rw [Int.mul_add, Int.mul_one] at this
      omega
    · exact hq
theorem base_bd {n S x : Int} (hn : 0 ≤ n) (hS : 0 < S) (h0 : 0 ≤ x) (hx : x ≤ S) : 0 ≤ n * x / S ∧ n * x / S ≤ n := by
  refine ⟨Int.ediv_nonneg (Int.mul_nonneg hn h0) (by omega), ?_⟩
  have h1 : n * x ≤ n * S := Int.mul_le_mul_of_nonneg_left hx hn
  have h2 := Int.ediv_le_ediv hS h1
  rwa [Int.mul_ediv_cancel _ (by omega)] at h2
theorem mem_le_sum : ∀ {ws : List Int}, (∀ x ∈ ws, 0 ≤ x) → ∀ x ∈ ws, x ≤ sumI ws
  | [], _, x, hx => by cases hx
  | y :: t, h, x, hx => by
    have h1 := h y List.mem_cons_self
    have h2 := sumI_nonneg (L := t) (fun q hq => h q (List.mem_cons_of_mem _ hq))
    simp only [sumI]
    rcases List.mem_cons.1 hx with rfl | hx
    · omega
    · have := mem_le_sum (ws := t) (fun q hq => h q (List.mem_cons_of_mem _ hq)) x hx
      omega
end Go.Proofs.Ytgdkionmeacalaa
end
section
namespace Go.Proofs.Ytgdkionmeacalaa
open Go.RowKit
set_option linter.unusedVariables false
set_option maxHeartbeats 1000000
/-- weights of lines -/
def wsOK (ws : List Int) : Prop := (∀ x ∈ ws, 0 ≤ x ∧ x ≤ 5) ∧ 1 ≤ ws.length ∧ ws.length ≤ 5
theorem wsOK.sum {ws : List Int} (h : wsOK ws) : 0 ≤ sumI ws ∧ sumI ws ≤ 25 := by
  have := sumI_bd h.1
  have := h.2.2
  omega
theorem wsOK.smal {ws : List Int} (h : wsOK ws) : Smal 1000000000000000 ws := smal_of (b := 5) (fun x hx => by have := h.1 x hx; omega) (by omega) (by have := h.2.2; omega)
theorem wsOK.nn {ws : List Int} (h : wsOK ws) : ∀ x ∈ ws, 0 ≤ x := fun x hx => (h.1 x hx).1
theorem base_get {n S : Int} {ws : List Int} {k : Nat} {x : Int} (h : ws[k]? = some x) : (baseM n S ws)[k]? = some (n * x / S) := by
  simp [baseM, h]
/-- so far, and 0 -/
def mixM (B : List Int) (k : Nat) : List Int := B.take k ++ List.replicate (B.length - k) 0
theorem mixM_zero (B : List Int) : mixM B 0 = List.replicate B.length 0 := by simp [mixM]
theorem mixM_all (B : List Int) : mixM B B.length = B := by simp [mixM]
theorem mixM_set {B : List Int} {k : Nat} {b : Int} (h : B[k]? = some b) : (mixM B k).set k b = mixM B (k + 1) := by
  obtain ⟨hk, e⟩ := List.getElem?_eq_some_iff.1 h
  unfold mixM
  rw [List.set_append_right _ _ (by rw [List.length_take]; omega)]
  have h1 : B.length - k = (B.length - (k + 1)) + 1 := by omega
  rw [h1, List.replicate_succ]
  have h2 : k - (B.take k).length = 0 := by rw [List.length_take]; omega
  rw [h2, List.set_cons_zero, List.take_succ_eq_append_getElem hk, e]
  simp
theorem mixM_get {B : List Int} {k : Nat} (hk : k < B.length) : ∃ x, (mixM B k)[k]? = some x := by
  unfold mixM
  rw [List.getElem?_append_right (by rw [List.length_take]; omega)]
  have : k - (B.take k).length = 0 := by rw [List.length_take]; omega
  rw [this]
  exact ⟨0, by rw [List.getElem?_replicate, if_pos (by omega)]⟩
theorem mixM_get' {B : List Int} {k : Nat} {b : Int} (h : B[k]? = some b) : (mixM B (k + 1))[k]? = some b := by
  obtain ⟨hk, e⟩ := List.getElem?_eq_some_iff.1 h
  unfold mixM
  rw [List.getElem?_append_left (by rw [List.length_take]; omega), List.getElem?_take, if_pos (by omega), h]
theorem smal_base {n : Int} {ws : List Int} (hn : 0 ≤ n) (hn2 : n ≤ 100000000000000) (h : wsOK ws) (hS : sumI ws ≠ 0) : Smal 1000000000000000 (baseM n (sumI ws) ws) := by
  refine smal_of (b := 100000000000000) (fun x hx => ?_) (by omega) (by rw [baseM_len]; have := h.2.2; omega)
  obtain ⟨y, hy, rfl⟩ := List.mem_map.1 hx
  have h0 := h.sum
  have := base_bd (n := n) (S := sumI ws) (x := y) hn (by omega) (h.nn y hy) (mem_le_sum h.nn y hy)
  omega
theorem last_set {n : Int} {ws : List Int} {j : Nat} (hj : ws.length = j + 1) (h0 : sumI ws = 0) : (List.replicate ws.length (0 : Int)).set j n = spreadM n ws := by
  unfold spreadM
  rw [if_pos h0]
  congr 1
  omega
theorem wadd_mul {n x : Int} (hn : 0 ≤ n) (hn2 : n ≤ 100000000000000) (h0 : 0 ≤ x) (h5 : x ≤ 5) : 0 ≤ n * x ∧ n * x ≤ 500000000000000 :=
  ⟨Int.mul_nonneg hn h0, Int.le_trans (Int.mul_le_mul hn2 h5 h0 (by omega)) (by omega)⟩
theorem drop_consI {L : List Int} {k : Nat} {p : Int} (h : L[k]? = some p) : L.drop k = p :: L.drop (k + 1) := by
  have hk := (List.getElem?_eq_some_iff.1 h).1
  have e := (List.getElem?_eq_some_iff.1 h).2
  rw [List.drop_eq_getElem_cons hk, e]
theorem set_here {P R : List Int} {k : Nat} {y z : Int} (h : P.length = k) : (P ++ y :: R).set k z = P ++ z :: R := by
  rw [List.set_append_right _ _ (by omega)]
  have : k - P.length = 0 := by omega
  rw [this, List.set_cons_zero]
theorem onesM_nil (m : Int) (ws : List Int) : onesM m ws [] = [] := by cases ws <;> simp [onesM]
end Go.Proofs.Ytgdkionmeacalaa
end
section
namespace Go.Proofs.Ytgdkionmeacalaa
open Go.RowKit
set_option linter.unusedVariables false
set_option maxHeartbeats 1000000
end Go.Proofs.Ytgdkionmeacalaa
end
section
namespace Go.Proofs.Ytgdkionmeacalaa
open Go.RowKit
set_option linter.unusedVariables false
set_option maxHeartbeats 1000000
attribute [local go_sem] growUpon_value growUpon_skip growUpon_enter
def wB (x : Int) : Bool := rng x 0 5
def sbB (n : Int) (ws : List Int) : Bool := rng n 0 400 && (rng ws.length 1 5 && ws.all wB)
theorem sbB_yes {n : Int} {ws : List Int} (h : sbB n ws = true) : wsOK ws ∧ 0 ≤ n ∧ n ≤ 400 := by
  simp only [sbB, Bool.and_eq_true, rng_iff, List.all_eq_true, wB] at h
  exact ⟨⟨h.2.2, by omega, by omega⟩, h.1⟩
theorem within_w (n a b : Int) (t : Bool) (w : World) (h : rng n a b = t) : Calls Try.prog 35 #[.int .i64 n, .int .i64 a, .int .i64 b] w fun e w' => e = .returned (.bool t) ∧ w = w' := by rw [← h]; exact within_any n a b w
theorem inRange_w (n a b : Int) (t : Bool) (w : World) (h : rng n a b = t) : Calls Try.prog 33 #[.int .i64 n, .int .i64 a, .int .i64 b] w fun e w' => e = .returned (.bool t) ∧ w = w' := by rw [← h]; exact inRange_any n a b w
theorem inRange_b (n : Int) (t : Bool) (w : World) (h : wB n = t) : Calls Try.prog 33 #[.int .i64 n, .int .i64 0, .int .i64 5] w fun e w' => e = .returned (.bool t) ∧ w = w' := inRange_w n 0 5 t w h
theorem validWeight_w (n : Int) (t : Bool) (w : World) (h : wB n = t) : Calls Try.prog 80 #[.int .i64 n] w fun e w' => e = .returned (.bool t) ∧ w = w' := by
  go_enter Try.func80, Try.ntmps80
  go_wp2_with (go_at_call 35; refine (within_w _ _ _ t _ h).mono ?_; rintro e w' ⟨rfl, rfl⟩)
  go_ret
  exact ⟨rfl, rfl⟩
theorem all_snocI {f : Int → Bool} {L : List Int} {k : Nat} {p : Int} (h : L[k]? = some p) : (L.take (k + 1)).all f = ((L.take k).all f && f p) := by
  have hk : k < L.length := (List.getElem?_eq_some_iff.1 h).1
  have e : L[k] = p := (List.getElem?_eq_some_iff.1 h).2
  rw [List.take_succ_eq_append_getElem hk, e]
  simp
set_option maxRecDepth 100000 in
theorem allOfI_any (A : Option Addr) (c : Nat) (L : List Int) (w : World) (h : NV w A L) (hL : L.length ≤ 1048576) :
    Calls Try.prog 66 #[.slice A L.length c, .func (.func 80) #[] #[]] w fun e w' => e = .returned (.bool (L.all wB)) ∧ w = w' := by
  go_enter Try.func66, Try.ntmps66
  go_wp2_with fail
  go_loop [9] (fun i => ∃ k : Nat, k ≤ L.length ∧ i = .int .i64 k ∧ (L.take k).all wB = true) (fun i => L.length - (intOf i).toNat)
  case atStart => exact ⟨0, by omega, rfl, rfl⟩
  case round =>
    obtain ⟨k, hk, rfl, hok⟩ := hrel
    by_cases hlt : k < L.length
    · have hd : decide ((k : Int) < (L.length : Int)) = true := by simpa using hlt
      obtain ⟨b, off, rfl, hb, hp⟩ := h.cells (by omega)
      have hget : L[k]? = some L[k] := List.getElem?_eq_getElem hlt
      have c0 := hp k _ hget
      generalize hx : L[k] = p at *
      have HG := Lib.hid hget
      have HX := Lib.hid hx
      have HO := Lib.hid hok
      have HP := Lib.hid hp
      clear hget hx hok hp
      cases hv : wB p
      all_goals
        have Hv := Lib.hid hv
        clear hv
        go_wp2_with fail
        first | (with_reducible refine (validWeight_w p false _ Hv.out).mono ?_) | (with_reducible refine (validWeight_w p true _ Hv.out).mono ?_)
        rintro e w1 ⟨rfl, rfl⟩
        go_wp2
      · go_ret
        exact ⟨ret_bool (by
          symm
          rw [Bool.eq_false_iff]
          intro hh
          have h1 := List.all_eq_true.1 hh p (List.mem_of_getElem? HG.out)
          rw [Hv.out] at h1
          cases h1), rfl⟩
      · go_round
        case rel => exact ⟨k + 1, by omega, by go_num, by rw [all_snocI HG.out, HO.out, Hv.out]; rfl⟩
        case measure => simp [intOf]; omega
    · have hd : decide ((k : Int) < (L.length : Int)) = false := by simp; omega
      have he : L.take k = L := List.take_of_length_le (by omega)
      rw [he] at hok
      have HO := Lib.hid hok
      clear hok he
      go_wp2
      go_ret
      exact ⟨ret_bool HO.out.symm, rfl⟩
theorem allOfI_v (A : Option Addr) (c : Nat) (L : List Int) (b : Bool) (w : World) (h : NV w A L) (hL : L.length ≤ 1048576) (hb : L.all wB = b) :
    Calls Try.prog 66 #[.slice A L.length c, .func (.func 80) #[] #[]] w fun e w' => e = .returned (.bool b) ∧ w = w' := by rw [← hb]; exact allOfI_any A c L w h hL
end Go.Proofs.Ytgdkionmeacalaa
end
section
namespace Go.Proofs.Ytgdkionmeacalaa
open Go.RowKit
set_option linter.unusedVariables false
set_option maxHeartbeats 1000000
def lineB (l : Ln) : Bool := wB l.wt && rng l.mi 0 30
def linesB (L : List Ln) : Bool := rng L.length 1 5 && L.all lineB
def runB (a m n : Int) : Bool := rng a 0 (n - 1) && rng m 1 (n - a)
def spanB (n : Int) (s : Sp) : Bool := runB s.sa s.many n && rng s.need 0 50
def spansB (n : Int) (L : List Sp) : Bool := decide ((L.length : Int) ≤ 8) && L.all (spanB n)
theorem all_snocG {α : Type} {f : α → Bool} {L : List α} {k : Nat} {p : α} (h : L[k]? = some p) : (L.take (k + 1)).all f = ((L.take k).all f && f p) := by
  have hk : k < L.length := (List.getElem?_eq_some_iff.1 h).1
  have e : L[k] = p := (List.getElem?_eq_some_iff.1 h).2
  rw [List.take_succ_eq_append_getElem hk, e]
  simp
theorem all_falseG {α : Type} {f : α → Bool} {L : List α} {k : Nat} {p : α} (h : L[k]? = some p) (hp : f p = false) : L.all f = false := by
  rw [Bool.eq_false_iff]
  intro hh
  have h1 := List.all_eq_true.1 hh p (List.mem_of_getElem? h)
  rw [hp] at h1
  cases h1
theorem validLine_v (l : Ln) (b : Bool) (w : World) (hb : lineB l = b) : Calls Try.prog 76 #[.agg #[.int .i64 l.wt, .int .i64 l.mi]] w fun e w' => e = .returned (.bool b) ∧ Below w.heap.size w w' := by
  cases h1 : wB l.wt
  · have hbf : b = false := by rw [← hb]; simp [lineB, h1]
    subst hbf
    go_enter Try.func76, Try.ntmps76
    go_wp2_with fail
    with_reducible refine (validWeight_w _ false _ h1).mono ?_
    rintro e w1 ⟨rfl, rfl⟩
    go_wp2
    go_ret
    exact ⟨rfl, balloc (Below.refl _ _)⟩
  · have h2 : rng l.mi 0 30 = b := by rw [← hb]; simp [lineB, h1]
    cases b
    all_goals
      go_enter Try.func76, Try.ntmps76
      go_wp2_with fail
      with_reducible refine (validWeight_w _ true _ h1).mono ?_
      rintro e w1 ⟨rfl, rfl⟩
      go_wp2_with fail
      with_reducible refine (within_w _ 0 30 _ _ h2).mono ?_
      rintro e w1 ⟨rfl, rfl⟩
      go_wp2
      go_ret
      exact ⟨rfl, balloc (Below.refl _ _)⟩
set_option maxRecDepth 100000 in
theorem allOfLn_v (A : Option Addr) (c : Nat) (L : List Ln) (b : Bool) (w : World) (h : LnV w A L) (hL : L.length ≤ 1048576) (hb0 : L.all lineB = b) :
    Calls Try.prog 75 #[.slice A L.length c, .func (.func 76) #[] #[]] w fun e w' => e = .returned (.bool b) ∧ Below w.heap.size w w' := by
  have HB0 := Lib.hid hb0
  clear hb0
  go_enter Try.func75, Try.ntmps75
  go_wp2_with fail
  go_loopw [9] (fun i wr => ∃ k : Nat, k ≤ L.length ∧ i = .int .i64 k ∧ (L.take k).all lineB = true ∧ Below w.heap.size w wr) (fun i _ => L.length - (intOf i).toNat)
  case atStart => exact ⟨0, by omega, rfl, rfl, Below.refl _ _⟩
  case round =>
    obtain ⟨k, hk, rfl, hok, hB⟩ := hrel
    by_cases hlt : k < L.length
    · have hd : decide ((k : Int) < (L.length : Int)) = true := by simpa using hlt
      obtain ⟨b', off, rfl, hb', hp⟩ := (h.keep hB).cells (by omega)
      have hget : L[k]? = some L[k] := List.getElem?_eq_getElem hlt
      obtain ⟨c0, c1⟩ := hp k _ hget
      generalize hx : L[k] = p at *
      have HG := Lib.hid hget
      have HX := Lib.hid hx
      have HO := Lib.hid hok
      have HBB := Lib.hid hB
      clear hget hx hok hB hp
      cases hv : lineB p
      all_goals
        have Hv := Lib.hid hv
        clear hv
        go_wp2_with fail
        first | (with_reducible refine (validLine_v p false _ Hv.out).mono ?_) | (with_reducible refine (validLine_v p true _ Hv.out).mono ?_)
        rintro e w1 ⟨rfl, hb1⟩
        replace HBB := Lib.hid (bkeep2 (balloc HBB.out) hb1)
        clear hb1 c0 c1
        go_wp2
      · go_ret
        exact ⟨ret_bool (by rw [← HB0.out]; exact (all_falseG HG.out Hv.out).symm), HBB.out⟩
      · go_roundw
        case rel => exact ⟨k + 1, by omega, by go_num, by rw [all_snocG HG.out, HO.out, Hv.out]; rfl, HBB.out⟩
        case measure => simp [intOf]; omega
    · have hd : decide ((k : Int) < (L.length : Int)) = false := decide_eq_false (by omega)
      have he : L.take k = L := List.take_of_length_le (by omega)
      rw [he] at hok
      have HO := Lib.hid hok
      have HBB := Lib.hid hB
      clear hok hB he
      go_wp2
      go_ret
      exact ⟨ret_bool (by rw [← HB0.out, HO.out]), HBB.out⟩
theorem validLines_v (A : Option Addr) (c : Nat) (L : List Ln) (b : Bool) (w : World) (h : LnV w A L) (hL : L.length ≤ 1048576) (hb : linesB L = b) :
    Calls Try.prog 63 #[.slice A L.length c] w fun e w' => e = .returned (.bool b) ∧ Below w.heap.size w w' := by
  cases h1 : rng (L.length : Int) 1 5
  · have hbf : b = false := by rw [← hb]; simp [linesB, h1]
    subst hbf
    go_enter Try.func63, Try.ntmps63
    go_wp2_with fail
    with_reducible refine (within_w _ 1 5 false _ h1).mono ?_
    rintro e w1 ⟨rfl, rfl⟩
    go_wp2
    go_ret
    exact ⟨rfl, Below.refl _ _⟩
  · have h2 : L.all lineB = b := by rw [← hb]; simp [linesB, h1]
    cases b
    all_goals
      go_enter Try.func63, Try.ntmps63
      go_wp2_with fail
      with_reducible refine (within_w _ 1 5 true _ h1).mono ?_
      rintro e w1 ⟨rfl, rfl⟩
      go_wp2_with fail
      with_reducible refine (allOfLn_v A c L _ _ h hL h2).mono ?_
      rintro e w1 ⟨rfl, hb1⟩
      have HB := Lib.hid hb1
      clear hb1
      go_wp2
      go_ret
      exact ⟨rfl, HB.out⟩
theorem validRun_v (a m n : Int) (b : Bool) (w : World) (hn : 1 ≤ n) (hn5 : n ≤ 5) (hb : runB a m n = b) : Calls Try.prog 69 #[.int .i64 a, .int .i64 m, .int .i64 n] w fun e w' => e = .returned (.bool b) ∧ w = w' := by
  cases h1 : rng a 0 (n - 1)
  · have hbf : b = false := by rw [← hb]; simp [runB, h1]
    subst hbf
    go_enter Try.func69, Try.ntmps69
    go_wp2_with fail
    with_reducible refine (within_w _ 0 (n - 1) false _ h1).mono ?_
    rintro e w1 ⟨rfl, rfl⟩
    go_wp2
    go_ret
    exact ⟨rfl, rfl⟩
  · have h2 : rng m 1 (n - a) = b := by rw [← hb]; simp [runB, h1]
    have ha := rng_iff.1 h1
    cases b
    all_goals
      go_enter Try.func69, Try.ntmps69
      go_wp2_with fail
      with_reducible refine (within_w _ 0 (n - 1) true _ h1).mono ?_
      rintro e w1 ⟨rfl, rfl⟩
      go_wp2_with fail
      with_reducible refine (within_w _ 1 (n - a) _ _ h2).mono ?_
      rintro e w1 ⟨rfl, rfl⟩
      go_wp2
      go_ret
      exact ⟨rfl, rfl⟩
end Go.Proofs.Ytgdkionmeacalaa
end
section
namespace Go.Proofs.Ytgdkionmeacalaa
open Go.RowKit
set_option linter.unusedVariables false
set_option maxHeartbeats 1000000
theorem svalidLine_v (l : Ln) (b : Bool) (w : World) (hb : lineB l = b) : Calls Try.prog 79 #[.agg #[.int .i64 l.wt, .int .i64 l.mi]] w fun e w' => e = .returned (.bool b) ∧ Below w.heap.size w w' := by
  cases h1 : wB l.wt
  · have hbf : b = false := by rw [← hb]; simp [lineB, h1]
    subst hbf
    go_enter Try.func79, Try.ntmps79
    go_wp2_with fail
    with_reducible refine (inRange_b _ false _ h1).mono ?_
    rintro e w1 ⟨rfl, rfl⟩
    go_wp2
    go_ret
    exact ⟨rfl, balloc (Below.refl _ _)⟩
  · have h2 : rng l.mi 0 30 = b := by rw [← hb]; simp [lineB, h1]
    cases b
    all_goals
      go_enter Try.func79, Try.ntmps79
      go_wp2_with fail
      with_reducible refine (inRange_b _ true _ h1).mono ?_
      rintro e w1 ⟨rfl, rfl⟩
      go_wp2_with fail
      with_reducible refine (inRange_w _ 0 30 _ _ h2).mono ?_
      rintro e w1 ⟨rfl, rfl⟩
      go_wp2
      go_ret
      exact ⟨rfl, balloc (Below.refl _ _)⟩
set_option maxRecDepth 100000 in
theorem svalidLines_v (A : Option Addr) (c : Nat) (L : List Ln) (b : Bool) (w : World) (h : LnV w A L) (hL : L.length ≤ 1048576) (hb0 : linesB L = b) :
    Calls Try.prog 73 #[.slice A L.length c] w fun e w' => e = .returned (.bool b) ∧ Below w.heap.size w w' := by
  have HB0 := Lib.hid hb0
  clear hb0
  go_enter Try.func73, Try.ntmps73
  go_wp2_with fail
  go_loopw [3] (fun i wr => ∃ k : Nat, k ≤ L.length ∧ i = .int .i64 k ∧ (L.take k).all lineB = true ∧ Below w.heap.size w wr) (fun i _ => L.length - (intOf i).toNat)
  case atStart => exact ⟨0, by omega, rfl, rfl, Below.refl _ _⟩
  case round =>
    obtain ⟨k, hk, rfl, hok, hB⟩ := hrel
    by_cases hlt : k < L.length
    · have hd : decide ((k : Int) < (L.length : Int)) = true := by simpa using hlt
      obtain ⟨b', off, rfl, hb', hp⟩ := (h.keep hB).cells (by omega)
      have hget : L[k]? = some L[k] := List.getElem?_eq_getElem hlt
      obtain ⟨c0, c1⟩ := hp k _ hget
      generalize hx : L[k] = p at *
      have HG := Lib.hid hget
      have HX := Lib.hid hx
      have HO := Lib.hid hok
      have HBB := Lib.hid hB
      clear hget hx hok hB hp
      cases hv : lineB p
      all_goals
        have Hv := Lib.hid hv
        clear hv
        go_wp2_with fail
        first | (with_reducible refine (svalidLine_v p false _ Hv.out).mono ?_) | (with_reducible refine (svalidLine_v p true _ Hv.out).mono ?_)
        rintro e w1 ⟨rfl, hb1⟩
        replace HBB := Lib.hid (bkeep2 HBB.out hb1)
        clear hb1 c0 c1
        go_wp2
      · go_ret
        exact ⟨ret_bool (by rw [← HB0.out]; simp [linesB, all_falseG HG.out Hv.out]), HBB.out⟩
      · go_roundw
        case rel => exact ⟨k + 1, by omega, by go_num, by rw [all_snocG HG.out, HO.out, Hv.out]; rfl, HBB.out⟩
        case measure => simp [intOf]; omega
    · have hd : decide ((k : Int) < (L.length : Int)) = false := decide_eq_false (by omega)
      have he : L.take k = L := List.take_of_length_le (by omega)
      rw [he] at hok
      have h1 : rng (L.length : Int) 1 5 = b := by rw [← HB0.out]; simp [linesB, hok]
      have HBB := Lib.hid hB
      have H1 := Lib.hid h1
      clear hok hB he h1
      go_wp2_with fail
      with_reducible refine (inRange_w _ 1 5 b _ H1.out).mono ?_
      rintro e w1 ⟨rfl, rfl⟩
      go_wp2
      go_ret
      exact ⟨rfl, HBB.out⟩
def addP : List Int → List Int → List Int
  | o :: os, p :: ps => (o + p) :: addP os ps
  | os, _ => os
theorem addP_nil (O : List Int) : addP O [] = O := by cases O <;> rfl
theorem addP_len : ∀ (O P : List Int), (addP O P).length = O.length
  | [], P => by simp [addP]
  | o :: os, [] => rfl
  | o :: os, p :: ps => by simp [addP, addP_len os ps]
theorem addP_get : ∀ {O P : List Int} {i : Nat} {o : Int}, O[i]? = some o → P.length ≤ i → (addP O P)[i]? = some o
  | [], P, i, o, h, _ => by simp at h
  | x :: os, [], i, o, h, _ => h
  | x :: os, p :: ps, 0, o, h, hl => by simp at hl
  | x :: os, p :: ps, i + 1, o, h, hl => by
    simp at h hl
    simpa [addP] using addP_get h hl
theorem addP_snoc : ∀ {O P : List Int} {i : Nat} {o p : Int}, O[i]? = some o → P[i]? = some p → (addP O (P.take i)).set i (o + p) = addP O (P.take (i + 1))
  | [], P, i, o, p, h, _ => by simp at h
  | x :: os, [], i, o, p, _, h => by simp at h
  | x :: os, q :: ps, 0, o, p, h, hp => by
    simp at h hp
    subst h hp
    simp [addP, addP_nil]
  | x :: os, q :: ps, i + 1, o, p, h, hp => by
    simp at h hp
    simp [addP, addP_snoc h hp]
def addAt (O : List Int) (k : Nat) (P : List Int) : List Int := O.take k ++ addP (O.drop k) P
theorem addAt_len (O : List Int) (k : Nat) (P : List Int) : (addAt O k P).length = O.length := by
  unfold addAt
  rw [List.length_append, addP_len, List.length_take, List.length_drop]; omega
theorem addAt_nil (O : List Int) (k : Nat) : addAt O k [] = O := by simp [addAt, addP_nil]
theorem addAt_get {O P : List Int} {k i : Nat} {o : Int} (h : O[k + i]? = some o) (hl : P.length ≤ i) : (addAt O k P)[k + i]? = some o := by
  have hk := (List.getElem?_eq_some_iff.1 h).1
  have e : (O.take k).length = k := by rw [List.length_take]; omega
  unfold addAt
  rw [List.getElem?_append_right (by omega), e, Nat.add_sub_cancel_left]
  exact addP_get (by rw [List.getElem?_drop]; exact h) hl
theorem addAt_snoc {O P : List Int} {k i : Nat} {o p : Int} (h : O[k + i]? = some o) (hp : P[i]? = some p) : (addAt O k (P.take i)).set (k + i) (o + p) = addAt O k (P.take (i + 1)) := by
  have hk := (List.getElem?_eq_some_iff.1 h).1
  have e : (O.take k).length = k := by rw [List.length_take]; omega
  unfold addAt
  rw [List.set_append_right _ _ (by omega), e, Nat.add_sub_cancel_left, addP_snoc (by rw [List.getElem?_drop]; exact h) hp]
end Go.Proofs.Ytgdkionmeacalaa
end
