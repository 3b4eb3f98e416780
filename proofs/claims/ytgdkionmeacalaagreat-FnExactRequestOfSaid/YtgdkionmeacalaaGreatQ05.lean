import Derived.Test.YtgdkionmeacalaaGreatQ04
import Derived.LoopTactic
import Derived.OwnWalk
import Derived.Deep.RegionHeld3
import Derived.Deep.DrawnRows
import Derived.RangeFuncNested
import Derived.RangeFuncBound
import Derived.RangeFuncCalls
import Derived.RangeFuncLeaves
import Derived.Shelf.Abstract
import Derived.Shelf.RegionOpen
import Derived.WalkKit
import Derived.OwnWalkIn
import Derived.TacticsInMore
import Derived.LoopNIn
import Derived.LoopIn
section
set_option linter.unusedVariables false
namespace Go.Proofs.YtgdkionmeacalaaGreat
def Pk.ok (p : Pk) : Bool := vpB p.w p.h p.s p.an p.px p.py
def vpsB (L : List Pk) : Bool := L.all Pk.ok && decide (L.length ≤ 7)
theorem vpsB_iff {L : List Pk} : vpsB L = true ↔ (∀ p ∈ L, p.ok = true) ∧ L.length ≤ 7 := by simp [vpsB, List.all_eq_true]
def Pk.down (p : Pk) : Bool := decide (p.s = 0 ∨ p.s = 1)
def Pk.need (p : Pk) (d : Bool) : Int := if d then p.h + 2 * p.py else p.w + 2 * p.px
theorem Pk.need_bd {p : Pk} (h : p.ok = true) (d : Bool) : 0 ≤ p.need d ∧ p.need d ≤ 50 := by
  have := vpB_iff.1 h
  unfold Pk.need
  split <;> omega
theorem all_snoc {L : List Pk} {k : Nat} {p : Pk} (h : L[k]? = some p) : (L.take (k + 1)).all Pk.ok = ((L.take k).all Pk.ok && p.ok) := by
  have hk : k < L.length := (List.getElem?_eq_some_iff.1 h).1
  have e : L[k] = p := (List.getElem?_eq_some_iff.1 h).2
  rw [List.take_succ_eq_append_getElem hk, e]
  simp
/-- an item whose size is not too great -/
def Pk.big (p : Pk) : Prop := ((0 ≤ p.w ∧ p.w ≤ 1000000000000) ∧ (0 ≤ p.h ∧ p.h ≤ 1000000000000) ∧ (0 ≤ p.s ∧ p.s ≤ 3) ∧ (0 ≤ p.an ∧ p.an ≤ 8) ∧ (0 ≤ p.px ∧ p.px ≤ 10) ∧ (0 ≤ p.py ∧ p.py ≤ 10))
theorem Pk.ok_big {p : Pk} (h : p.ok = true) : p.big := by
  have := vpB_iff.1 h
  unfold Pk.big
  omega
theorem Pk.need_bdW {p : Pk} (h : p.big) (d : Bool) : 0 ≤ p.need d ∧ p.need d ≤ 1000000000020 := by
  unfold Pk.big at h
  unfold Pk.need
  split <;> omega
end Go.Proofs.YtgdkionmeacalaaGreat
end
section
namespace Go.Proofs.YtgdkionmeacalaaGreat
open Go.RowKit
set_option linter.unusedVariables false
set_option maxHeartbeats 1000000
/-- nine cells hold this item -/
def Cells9 (w : World) (b o : Nat) (p : Pk) : Prop :=
  w.cell? ⟨b, o, none⟩ = some (.int .i64 p.w) ∧ w.cell? ⟨b, o + 1, none⟩ = some (.int .i64 p.h) ∧ w.cell? ⟨b, o + 2, none⟩ = some (.int .i64 p.s) ∧ w.cell? ⟨b, o + 3, none⟩ = some (.bool p.fx) ∧ w.cell? ⟨b, o + 4, none⟩ = some (.bool p.fy) ∧
  w.cell? ⟨b, o + 5, none⟩ = some (.bool p.ex) ∧ w.cell? ⟨b, o + 6, none⟩ = some (.int .i64 p.an) ∧ w.cell? ⟨b, o + 7, none⟩ = some (.int .i64 p.px) ∧ w.cell? ⟨b, o + 8, none⟩ = some (.int .i64 p.py)
def PS (w : World) (b off : Nat) (L : List Pk) : Prop := ∀ i p, L[i]? = some p → Cells9 w b (off + i * 9) p
/-- a slice that reads as this list of items -/
structure PV (w : World) (A : Option Addr) (L : List Pk) : Prop where
  cells : 0 < L.length → ∃ b off, A = some ⟨b, off, none⟩ ∧ b < w.heap.size ∧ PS w b off L
theorem Cells9.keep {w w' : World} {b o : Nat} {p : Pk} (h : Cells9 w b o p) (hb : w'.heap[b]? = w.heap[b]?) : Cells9 w' b o p := by
  have e : ∀ i, w'.cell? ⟨b, i, none⟩ = w.cell? ⟨b, i, none⟩ := fun i => World.cell?_of_block (a := ⟨b, i, none⟩) hb
  unfold Cells9 at *
  simpa only [e] using h
theorem PV.keep {w w' : World} {A : Option Addr} {L : List Pk} (h : PV w A L) (hb : Below w.heap.size w w') : PV w' A L :=
  ⟨fun h0 => let ⟨b, off, e, hl, hp⟩ := h.cells h0; ⟨b, off, e, Nat.lt_of_lt_of_le hl hb.size, fun i p hi => (hp i p hi).keep (hb.block b hl)⟩⟩
theorem svp_v (p : Pk) (b : Bool) (h : p.ok = b) (w : World) : Calls Tryz.prog 93 #[.agg #[.int .i64 p.w, .int .i64 p.h, .int .i64 p.s, .bool p.fx, .bool p.fy, .bool p.ex, .int .i64 p.an, .int .i64 p.px, .int .i64 p.py]] w fun e w' => e = .returned (.bool b) ∧ Below w.heap.size w w' := by
  rw [← h]; exact specValidPack_any _ _ _ _ _ _ _ _ _ _
theorem vp_v (p : Pk) (b : Bool) (h : p.ok = b) (w : World) : Calls Tryz.prog 82 #[.agg #[.int .i64 p.w, .int .i64 p.h, .int .i64 p.s, .bool p.fx, .bool p.fy, .bool p.ex, .int .i64 p.an, .int .i64 p.px, .int .i64 p.py]] w fun e w' => e = .returned (.bool b) ∧ Below w.heap.size w w' := by
  rw [← h]; exact validPack_any _ _ _ _ _ _ _ _ _ _
end Go.Proofs.YtgdkionmeacalaaGreat
end
section
namespace Go.Proofs.YtgdkionmeacalaaGreat
open Go.RowKit
set_option linter.unusedVariables false
set_option maxHeartbeats 1000000
end Go.Proofs.YtgdkionmeacalaaGreat
end
section
namespace Go.Proofs.YtgdkionmeacalaaGreat
open Go.RowKit
set_option linter.unusedVariables false
set_option maxHeartbeats 1000000
/-- values written side by side -/
def writeAt (cs : Array Value) (o : Nat) : List Value → Array Value
  | [] => cs
  | v :: r => writeAt (cs.setIfInBounds o v) (o + 1) r
theorem writeAt_size : ∀ (vs : List Value) (cs : Array Value) (o : Nat), (writeAt cs o vs).size = cs.size
  | [], cs, o => rfl
  | v :: r, cs, o => by unfold writeAt; rw [writeAt_size r]; simp
theorem writeAt_lo : ∀ (vs : List Value) (cs : Array Value) (o i : Nat), i < o → (writeAt cs o vs)[i]? = cs[i]?
  | [], cs, o, i, _ => rfl
  | v :: r, cs, o, i, h => by unfold writeAt; rw [writeAt_lo r _ _ _ (by omega), Array.getElem?_setIfInBounds_ne (by omega)]
theorem writeAt_hi : ∀ (vs : List Value) (cs : Array Value) (o i : Nat), o + vs.length ≤ i → (writeAt cs o vs)[i]? = cs[i]?
  | [], cs, o, i, _ => rfl
  | v :: r, cs, o, i, h => by
    simp only [List.length_cons] at h
    unfold writeAt; rw [writeAt_hi r _ _ _ (by omega), Array.getElem?_setIfInBounds_ne (by omega)]
theorem writeAt_in : ∀ (vs : List Value) (cs : Array Value) (o j : Nat), o + vs.length ≤ cs.size → j < vs.length → (writeAt cs o vs)[o + j]? = vs[j]?
  | [], cs, o, j, _, h => by simp at h
  | v :: r, cs, o, 0, h, _ => by
    simp only [List.length_cons] at h
    unfold writeAt; rw [writeAt_lo r _ _ _ (by omega), Nat.add_zero, Array.getElem?_setIfInBounds_self_of_lt (by omega)]
    rfl
  | v :: r, cs, o, j + 1, h, hj => by
    simp only [List.length_cons] at h hj
    unfold writeAt
    rw [show o + (j + 1) = o + 1 + j from by omega, writeAt_in r _ _ _ (by simp; omega) (by omega)]
    simp
def vals (p : Pk) : List Value := [.int .i64 p.w, .int .i64 p.h, .int .i64 p.s, .bool p.fx, .bool p.fy, .bool p.ex, .int .i64 p.an, .int .i64 p.px, .int .i64 p.py]
/-- the items lie in the cells from o on -/
def In9 (cs : Array Value) (o : Nat) (p : Pk) : Prop := ∀ j, j < 9 → cs[o + j]? = (vals p)[j]?
theorem In9.cells {w : World} {b : Nat} {cs : Array Value} {T : TypeId} {fz : Nat × Nat} {o : Nat} {p : Pk} (hh : w.heap[b]? = some (.cells cs T fz)) (h : In9 cs o p) : Cells9 w b o p := by
  have e : ∀ j, j < 9 → w.cell? ⟨b, o + j, none⟩ = (vals p)[j]? := fun j hj => (cellH hh _).trans (h j hj)
  exact ⟨e 0 (by omega), e 1 (by omega), e 2 (by omega), e 3 (by omega), e 4 (by omega), e 5 (by omega), e 6 (by omega), e 7 (by omega), e 8 (by omega)⟩
theorem In9.write {cs : Array Value} {o : Nat} (p : Pk) (h : o + 9 ≤ cs.size) : In9 (writeAt cs o (vals p)) o p := fun j hj => writeAt_in _ _ _ _ h hj
theorem In9.keep {cs : Array Value} {o o' : Nat} {p q : Pk} (h : In9 cs o' q) (hd : o' + 9 ≤ o ∨ o + 9 ≤ o') : In9 (writeAt cs o (vals p)) o' q := fun j hj => by
  rcases hd with hd | hd
  · rw [writeAt_lo _ _ _ _ (by omega)]; exact h j hj
  · rw [writeAt_hi _ _ _ _ (by simp [vals]; omega)]; exact h j hj
theorem pput1 {w : World} {b i : Nat} {cs : Array Value} {T : TypeId} {fz : Nat × Nat} (h : w.heap[b]? = some (.cells cs T fz)) (u : Value) : (w.setCell ⟨b, i, none⟩ u).heap[b]? = some (.cells (cs.setIfInBounds i u) T fz) := by
  simp [World.setCell, Array.getElem?_modify, h]
/-- nine stores into one block -/
theorem pput9 {w : World} {b : Nat} {cs : Array Value} {T : TypeId} {fz : Nat × Nat} (h : w.heap[b]? = some (.cells cs T fz)) (o : Nat) (p : Pk) :
    ((((((((((w.setCell ⟨b, o, none⟩ (.int .i64 p.w)).setCell ⟨b, o + 1, none⟩ (.int .i64 p.h)).setCell ⟨b, o + 2, none⟩ (.int .i64 p.s)).setCell ⟨b, o + 3, none⟩ (.bool p.fx)).setCell ⟨b, o + 4, none⟩ (.bool p.fy)).setCell ⟨b, o + 5, none⟩ (.bool p.ex)).setCell ⟨b, o + 6, none⟩ (.int .i64 p.an)).setCell ⟨b, o + 7, none⟩ (.int .i64 p.px)).setCell ⟨b, o + 8, none⟩ (.int .i64 p.py))).heap[b]? = some (.cells (writeAt cs o (vals p)) T fz) :=
  pput1 (pput1 (pput1 (pput1 (pput1 (pput1 (pput1 (pput1 (pput1 h _) _) _) _) _) _) _) _) _
theorem pput9b {B b : Nat} {a w : World} (h : Below B a w) (hb : B ≤ b) (o : Nat) (p : Pk) : Below B a ((((((((((w.setCell ⟨b, o, none⟩ (.int .i64 p.w)).setCell ⟨b, o + 1, none⟩ (.int .i64 p.h)).setCell ⟨b, o + 2, none⟩ (.int .i64 p.s)).setCell ⟨b, o + 3, none⟩ (.bool p.fx)).setCell ⟨b, o + 4, none⟩ (.bool p.fy)).setCell ⟨b, o + 5, none⟩ (.bool p.ex)).setCell ⟨b, o + 6, none⟩ (.int .i64 p.an)).setCell ⟨b, o + 7, none⟩ (.int .i64 p.px)).setCell ⟨b, o + 8, none⟩ (.int .i64 p.py))) :=
  ((((((((h.setCell hb _).setCell hb _).setCell hb _).setCell hb _).setCell hb _).setCell hb _).setCell hb _).setCell hb _).setCell hb _
/-- cells of a block that are there -/
theorem there {w : World} {b : Nat} {cs : Array Value} {T : TypeId} {fz : Nat × Nat} (h : w.heap[b]? = some (.cells cs T fz)) {i : Nat} (hi : i < cs.size) : ∃ v, w.cell? ⟨b, i, none⟩ = some v :=
  ⟨cs[i], (cellH h i).trans (by simp [hi])⟩
theorem frozenH {w : World} {b : Nat} {cs : Array Value} {T : TypeId} (h : w.heap[b]? = some (.cells cs T (0, 0))) (i : Nat) : w.frozen? ⟨b, i, none⟩ = false := by simp [World.frozen?, h]
theorem made9 : ∃ f : Nat → Array Value, (∀ n, (f n).size = n * 9) ∧ ∀ (n : Nat) (w : World), n ≤ 1048576 → (Instr.makeSlice 87 (.int .i64 (n : Int)) (.int .i64 (n : Int))).run Tryz.prog w = .ok (.slice (some ⟨w.heap.size, 0, none⟩) n n) (w.alloc (.cells (f n) 80)) := by
  have hinfo : (Tryz.prog.info? 80).map (fun i => (i.zero, i.size, i.bytes)) = some (some (.agg #[.int .i64 0, .int .i64 0, .int .i64 0, .bool false, .bool false, .bool false, .int .i64 0, .int .i64 0, .int .i64 0]), 9, 56) := by kernel_rfl
  obtain ⟨i, hi, h1, h2, h3⟩ := info_parts hinfo
  refine ⟨fun n => madeCells (Value.agg #[.int .i64 0, .int .i64 0, .int .i64 0, .bool false, .bool false, .bool false, .int .i64 0, .int .i64 0, .int .i64 0]).cells (n * 9), fun n => size_madeCells _ _, fun n w hn => ?_⟩
  have hr := run_make (P := Tryz.prog) w 87 80 i _ Tryz.underlying87 hi h1 .i64 .i64 n n (by omega) (Int.le_refl _) (by rw [h3]; omega) (by omega)
  rw [h2] at hr
  simpa using hr
end Go.Proofs.YtgdkionmeacalaaGreat
end
section
namespace Go.Proofs.YtgdkionmeacalaaGreat
open Go.RowKit
set_option linter.unusedVariables false
set_option maxHeartbeats 1000000
theorem toPack_v (p : Pk) (w : World) : Calls Tryz.prog 78 #[.agg #[.int .i64 p.w, .int .i64 p.h, .int .i64 p.s, .bool p.fx, .bool p.fy, .bool p.ex, .int .i64 p.an, .int .i64 p.px, .int .i64 p.py]] w fun e w' => e = .returned (.agg #[.int .i64 p.w, .int .i64 p.h, .int .i64 p.s, .bool p.fx, .bool p.fy, .bool p.ex, .int .i64 p.an, .int .i64 p.px, .int .i64 p.py]) ∧ Below w.heap.size w w' := toPack_any _ _ _ _ _ _ _ _ _ _
/-- what a new block of items holds -/
def Blk9 (w : World) (g : Nat) (L : List Pk) : Prop := ∃ cs : Array Value, w.heap[g]? = some (.cells cs 80 (0, 0)) ∧ cs.size = L.length * 9 ∧ ∀ i p, L[i]? = some p → In9 cs (i * 9) p
theorem Blk9.pv {w : World} {g : Nat} {L : List Pk} (h : Blk9 w g L) : PV w (some ⟨g, 0, none⟩) L := by
  obtain ⟨cs, hh, hs, hc⟩ := h
  refine ⟨fun _ => ⟨g, 0, rfl, (Array.getElem?_eq_some_iff.1 hh).1, fun i p hp => ?_⟩⟩
  have := (hc i p hp).cells hh
  simpa using this
theorem Blk9.keep {w w' : World} {g : Nat} {L : List Pk} (h : Blk9 w g L) (hb : Below w.heap.size w w') : Blk9 w' g L := by
  obtain ⟨cs, hh, hs, hc⟩ := h
  exact ⟨cs, (hb.block g (Array.getElem?_eq_some_iff.1 hh).1).trans hh, hs, hc⟩
theorem Blk9.lt {w : World} {g : Nat} {L : List Pk} (h : Blk9 w g L) : g < w.heap.size := by obtain ⟨cs, hh, _⟩ := h; exact (Array.getElem?_eq_some_iff.1 hh).1
end Go.Proofs.YtgdkionmeacalaaGreat
end
section
namespace Go.Proofs.YtgdkionmeacalaaGreat
open Go.RowKit
set_option linter.unusedVariables false
set_option maxHeartbeats 1000000
attribute [local go_sem] growUpon_value growUpon_skip growUpon_enter
set_option maxRecDepth 100000 in
theorem eqPack_same (p : Pk) (w : World) : Calls Tryz.prog 88 #[.agg #[.int .i64 p.w, .int .i64 p.h, .int .i64 p.s, .bool p.fx, .bool p.fy, .bool p.ex, .int .i64 p.an, .int .i64 p.px, .int .i64 p.py], .agg #[.int .i64 p.w, .int .i64 p.h, .int .i64 p.s, .bool p.fx, .bool p.fy, .bool p.ex, .int .i64 p.an, .int .i64 p.px, .int .i64 p.py]] w fun e w' => e = .returned (.bool true) ∧ Below w.heap.size w w' := by
  go_enter Tryz.func88, Tryz.ntmps88
  go_wp2
  go_ret
  exact ⟨rfl, balloc (balloc (Below.refl _ _))⟩
end Go.Proofs.YtgdkionmeacalaaGreat
end
section
namespace Go.Proofs.YtgdkionmeacalaaGreat
open Go.RowKit
set_option linter.unusedVariables false
set_option maxHeartbeats 2000000
attribute [local go_sem] growUpon_value growUpon_skip growUpon_enter
set_option maxRecDepth 100000 in
theorem eqNode_same (n : Nd) (ca : Option Addr) (cc : Nat) (ra : Option Addr) (rc : Nat) (da : Option Addr) (dc : Nat) (sa : Option Addr) (sc : Nat) (w : World) (h1 : LnV w ca n.cs) (h2 : LnV w ra n.rs) (k1 : LnV w da n.cs) (k2 : LnV w sa n.rs) (m1 : n.cs.length ≤ 1048576) (m2 : n.rs.length ≤ 1048576) :
    Calls Tryz.prog 60 #[.agg (valsNr ⟨n, ca, cc, ra, rc⟩).toArray, .agg (valsNr ⟨n, da, dc, sa, sc⟩).toArray] w fun e w' => e = .returned (.bool true) ∧ Below w.heap.size w w' := by
  have hB0 : Below w.heap.size w ((w.alloc (.cells (valsNr ⟨n, ca, cc, ra, rc⟩).toArray 84 (0, 0))).alloc (.cells (valsNr ⟨n, da, dc, sa, sc⟩).toArray 84 (0, 0))) := balloc (balloc (Below.refl _ _))
  have HX := Lib.hid ((Below.heap_alloc _ (.cells (valsNr ⟨n, da, dc, sa, sc⟩).toArray 84 (0, 0)) w.heap.size (by simp)).trans (newS w (.cells (valsNr ⟨n, ca, cc, ra, rc⟩).toArray 84 (0, 0))))
  have HY := Lib.hid (newS1T w (.cells (valsNr ⟨n, ca, cc, ra, rc⟩).toArray 84 (0, 0)) (.cells (valsNr ⟨n, da, dc, sa, sc⟩).toArray 84 (0, 0)))
  have HV1 := Lib.hid (h1.keep hB0)
  have HV2 := Lib.hid (h2.keep hB0)
  have HK1 := Lib.hid (k1.keep hB0)
  have HK2 := Lib.hid (k2.keep hB0)
  have HB := Lib.hid hB0
  clear hB0 h1 h2 k1 k2
  have x0 : ((w.alloc (.cells (valsNr ⟨n, ca, cc, ra, rc⟩).toArray 84 (0, 0))).alloc (.cells (valsNr ⟨n, da, dc, sa, sc⟩).toArray 84 (0, 0))).cell? ⟨w.heap.size, 0, none⟩ = some (.int .i64 n.pa) := cellS HX.out 0
  have y0 : ((w.alloc (.cells (valsNr ⟨n, ca, cc, ra, rc⟩).toArray 84 (0, 0))).alloc (.cells (valsNr ⟨n, da, dc, sa, sc⟩).toArray 84 (0, 0))).cell? ⟨w.heap.size + 1, 0, none⟩ = some (.int .i64 n.pa) := cellS HY.out 0
  have x1 : ((w.alloc (.cells (valsNr ⟨n, ca, cc, ra, rc⟩).toArray 84 (0, 0))).alloc (.cells (valsNr ⟨n, da, dc, sa, sc⟩).toArray 84 (0, 0))).cell? ⟨w.heap.size, 1, none⟩ = some (.int .i64 n.ww) := cellS HX.out 1
  have y1 : ((w.alloc (.cells (valsNr ⟨n, ca, cc, ra, rc⟩).toArray 84 (0, 0))).alloc (.cells (valsNr ⟨n, da, dc, sa, sc⟩).toArray 84 (0, 0))).cell? ⟨w.heap.size + 1, 1, none⟩ = some (.int .i64 n.ww) := cellS HY.out 1
  have x2 : ((w.alloc (.cells (valsNr ⟨n, ca, cc, ra, rc⟩).toArray 84 (0, 0))).alloc (.cells (valsNr ⟨n, da, dc, sa, sc⟩).toArray 84 (0, 0))).cell? ⟨w.heap.size, 2, none⟩ = some (.int .i64 n.hh) := cellS HX.out 2
  have y2 : ((w.alloc (.cells (valsNr ⟨n, ca, cc, ra, rc⟩).toArray 84 (0, 0))).alloc (.cells (valsNr ⟨n, da, dc, sa, sc⟩).toArray 84 (0, 0))).cell? ⟨w.heap.size + 1, 2, none⟩ = some (.int .i64 n.hh) := cellS HY.out 2
  have x3 : ((w.alloc (.cells (valsNr ⟨n, ca, cc, ra, rc⟩).toArray 84 (0, 0))).alloc (.cells (valsNr ⟨n, da, dc, sa, sc⟩).toArray 84 (0, 0))).cell? ⟨w.heap.size, 3, none⟩ = some (.bool n.ke) := cellS HX.out 3
  have y3 : ((w.alloc (.cells (valsNr ⟨n, ca, cc, ra, rc⟩).toArray 84 (0, 0))).alloc (.cells (valsNr ⟨n, da, dc, sa, sc⟩).toArray 84 (0, 0))).cell? ⟨w.heap.size + 1, 3, none⟩ = some (.bool n.ke) := cellS HY.out 3
  have x4 : ((w.alloc (.cells (valsNr ⟨n, ca, cc, ra, rc⟩).toArray 84 (0, 0))).alloc (.cells (valsNr ⟨n, da, dc, sa, sc⟩).toArray 84 (0, 0))).cell? ⟨w.heap.size, 4, none⟩ = some (.int .i64 n.ki) := cellS HX.out 4
  have y4 : ((w.alloc (.cells (valsNr ⟨n, ca, cc, ra, rc⟩).toArray 84 (0, 0))).alloc (.cells (valsNr ⟨n, da, dc, sa, sc⟩).toArray 84 (0, 0))).cell? ⟨w.heap.size + 1, 4, none⟩ = some (.int .i64 n.ki) := cellS HY.out 4
  have x5 : ((w.alloc (.cells (valsNr ⟨n, ca, cc, ra, rc⟩).toArray 84 (0, 0))).alloc (.cells (valsNr ⟨n, da, dc, sa, sc⟩).toArray 84 (0, 0))).cell? ⟨w.heap.size, 5, none⟩ = some (.slice ca n.cs.length cc) := cellS HX.out 5
  have y5 : ((w.alloc (.cells (valsNr ⟨n, ca, cc, ra, rc⟩).toArray 84 (0, 0))).alloc (.cells (valsNr ⟨n, da, dc, sa, sc⟩).toArray 84 (0, 0))).cell? ⟨w.heap.size + 1, 5, none⟩ = some (.slice da n.cs.length dc) := cellS HY.out 5
  go_enter Tryz.func60, Tryz.ntmps60
  go_wp2_with fail
  with_reducible refine (eqLnS_same ca da cc dc n.cs _ HV1.out HK1.out m1).mono ?_
  rintro e w1 ⟨rfl, hb⟩
  clear x0 y0 x1 y1 x2 y2 x3 y3 x4 y4 x5 y5
  replace HX := Lib.hid ((hb.block _ (Array.getElem?_eq_some_iff.1 HX.out).1).trans HX.out)
  replace HY := Lib.hid ((hb.block _ (Array.getElem?_eq_some_iff.1 HY.out).1).trans HY.out)
  replace HV2 := Lib.hid (HV2.out.keep hb)
  replace HK2 := Lib.hid (HK2.out.keep hb)
  replace HB := Lib.hid (bkeep2 HB.out hb)
  clear hb
  have x6 : w1.cell? ⟨w.heap.size, 6, none⟩ = some (.slice ra n.rs.length rc) := cellS HX.out 6
  have y6 : w1.cell? ⟨w.heap.size + 1, 6, none⟩ = some (.slice sa n.rs.length sc) := cellS HY.out 6
  go_wp2_with fail
  with_reducible refine (eqLnS_same ra sa rc sc n.rs _ HV2.out HK2.out m2).mono ?_
  rintro e w2 ⟨rfl, hb⟩
  clear x6 y6
  replace HX := Lib.hid ((hb.block _ (Array.getElem?_eq_some_iff.1 HX.out).1).trans HX.out)
  replace HY := Lib.hid ((hb.block _ (Array.getElem?_eq_some_iff.1 HY.out).1).trans HY.out)
  replace HB := Lib.hid (bkeep2 HB.out hb)
  clear hb
  have hx := node_pk (nodeAt HX.out)
  have hy := node_pk (nodeAt HY.out)
  simp only [Nat.zero_add] at hx hy
  have HRX := Lib.hid hx
  have HRY := Lib.hid hy
  clear hx hy
  go_wp2_with (first | (refine wpList_load_mid rfl 80 _ rfl w.heap.size 7 rfl [.int .i64 n.pk.w, .int .i64 n.pk.h, .int .i64 n.pk.s, .bool n.pk.fx, .bool n.pk.fy, .bool n.pk.ex, .int .i64 n.pk.an, .int .i64 n.pk.px, .int .i64 n.pk.py] _ HRX.out Tryz.underlying80 rfl (by kernel_rfl) ?_) | (refine wpList_load_mid rfl 80 _ rfl (w.heap.size + 1) 7 rfl [.int .i64 n.pk.w, .int .i64 n.pk.h, .int .i64 n.pk.s, .bool n.pk.fx, .bool n.pk.fy, .bool n.pk.ex, .int .i64 n.pk.an, .int .i64 n.pk.px, .int .i64 n.pk.py] _ HRY.out Tryz.underlying80 rfl (by kernel_rfl) ?_))
  with_reducible refine (eqPack_same n.pk _).mono ?_
  rintro e w3 ⟨rfl, hb⟩
  clear HRX HRY
  replace HX := Lib.hid ((hb.block _ (Array.getElem?_eq_some_iff.1 HX.out).1).trans HX.out)
  replace HY := Lib.hid ((hb.block _ (Array.getElem?_eq_some_iff.1 HY.out).1).trans HY.out)
  replace HB := Lib.hid (bkeep2 HB.out hb)
  clear hb
  have hx := node_ce (nodeAt HX.out)
  have hy := node_ce (nodeAt HY.out)
  simp only [Nat.zero_add] at hx hy
  have HRX := Lib.hid hx
  have HRY := Lib.hid hy
  clear hx hy
  go_wp2_with (first | (refine wpList_load_mid rfl 81 _ rfl w.heap.size 16 rfl [.int .i64 n.ce.co, .int .i64 n.ce.ro, .int .i64 n.ce.mc, .int .i64 n.ce.mr, .int .i64 n.ce.cw, .int .i64 n.ce.ch, .int .i64 n.ce.sk, .int .i64 n.ce.px, .int .i64 n.ce.py] _ HRX.out Tryz.underlying81 rfl (by kernel_rfl) ?_) | (refine wpList_load_mid rfl 81 _ rfl (w.heap.size + 1) 16 rfl [.int .i64 n.ce.co, .int .i64 n.ce.ro, .int .i64 n.ce.mc, .int .i64 n.ce.mr, .int .i64 n.ce.cw, .int .i64 n.ce.ch, .int .i64 n.ce.sk, .int .i64 n.ce.px, .int .i64 n.ce.py] _ HRY.out Tryz.underlying81 rfl (by kernel_rfl) ?_))
  with_reducible refine (eqCe_same n.ce _).mono ?_
  rintro e w4 ⟨rfl, hb⟩
  clear HRX HRY
  replace HX := Lib.hid ((hb.block _ (Array.getElem?_eq_some_iff.1 HX.out).1).trans HX.out)
  replace HY := Lib.hid ((hb.block _ (Array.getElem?_eq_some_iff.1 HY.out).1).trans HY.out)
  replace HB := Lib.hid (bkeep2 HB.out hb)
  clear hb
  have hx := node_pl (nodeAt HX.out)
  have hy := node_pl (nodeAt HY.out)
  simp only [Nat.zero_add] at hx hy
  have HRX := Lib.hid hx
  have HRY := Lib.hid hy
  clear hx hy
  go_wp2_with (first | (refine wpList_load_mid rfl 82 _ rfl w.heap.size 25 rfl [.int .i64 n.pl.x, .int .i64 n.pl.y, .int .i64 n.pl.rx, .int .i64 n.pl.ry, .int .i64 n.pl.ww, .int .i64 n.pl.hh, .int .i64 n.pl.qw, .int .i64 n.pl.qh, .int .i64 n.pl.an] _ HRX.out Tryz.underlying82 rfl (by kernel_rfl) ?_) | (refine wpList_load_mid rfl 82 _ rfl (w.heap.size + 1) 25 rfl [.int .i64 n.pl.x, .int .i64 n.pl.y, .int .i64 n.pl.rx, .int .i64 n.pl.ry, .int .i64 n.pl.ww, .int .i64 n.pl.hh, .int .i64 n.pl.qw, .int .i64 n.pl.qh, .int .i64 n.pl.an] _ HRY.out Tryz.underlying82 rfl (by kernel_rfl) ?_))
  with_reducible refine (eqPlace_same n.pl _).mono ?_
  rintro e w5 ⟨rfl, hb⟩
  clear HRX HRY
  replace HX := Lib.hid ((hb.block _ (Array.getElem?_eq_some_iff.1 HX.out).1).trans HX.out)
  replace HY := Lib.hid ((hb.block _ (Array.getElem?_eq_some_iff.1 HY.out).1).trans HY.out)
  replace HB := Lib.hid (bkeep2 HB.out hb)
  clear hb
  go_wp2
  go_ret
  exact ⟨rfl, HB.out⟩
theorem eqN_w (p q : Nr) (w : World) (hn : q.n = p.n) (hp : RdN w p) (hq : RdN w q) (m1 : p.n.cs.length ≤ 1048576) (m2 : p.n.rs.length ≤ 1048576) :
    Calls Tryz.prog 60 #[.agg (valsNr p).toArray, .agg (valsNr q).toArray] w fun e w' => e = .returned (.bool true) ∧ Below w.heap.size w w' := by
  obtain ⟨n, ca, cc, ra, rc⟩ := p
  obtain ⟨n', da, dc, sa, sc⟩ := q
  obtain rfl : n' = n := hn
  exact eqNode_same n' ca cc ra rc da dc sa sc w hp.c hp.r hq.c hq.r m1 m2
set_option maxRecDepth 100000 in
theorem eqNodeS_same (A B : Option Addr) (c c' : Nat) (R S : List Nr) (w : World) (hn : S.map Nr.n = R.map Nr.n) (h : NrV w A R) (h' : NrV w B S) (hr : RdR w R) (hs : RdR w S) (hL : R.length ≤ 1048576) (hm : ∀ p ∈ R, p.n.cs.length ≤ 1048576 ∧ p.n.rs.length ≤ 1048576) (k : Nat) (hk : k = R.length) :
    Calls Tryz.prog 32 #[.slice A k c, .slice B k c'] w fun e w' => e = .returned (.bool true) ∧ Below w.heap.size w w' := by
  subst hk
  have hls : S.length = R.length := by have := congrArg List.length hn; simpa using this
  have HN := Lib.hid hn
  have HR := Lib.hid hr
  have HS := Lib.hid hs
  have HM := Lib.hid hm
  have HLS := Lib.hid hls
  clear hn hr hs hm hls
  go_enter Tryz.func32, Tryz.ntmps32
  go_wp2_with fail
  go_loopw [5] (fun i wr => ∃ k : Nat, k ≤ R.length ∧ i = .int .i64 k ∧ Below w.heap.size w wr) (fun i _ => R.length - (intOf i).toNat)
  case atStart => exact ⟨0, by omega, rfl, Below.refl _ _⟩
  case round =>
    obtain ⟨k, hk, rfl, hB⟩ := hrel
    by_cases hlt : k < R.length
    · have hd : decide ((k : Int) < (R.length : Int)) = true := by simpa using hlt
      have hlt' : k < S.length := by rw [HLS.out]; exact hlt
      obtain ⟨b, off, rfl, hb, hp⟩ := (h.keep hB).cells (by omega)
      obtain ⟨b', off', rfl, hb', hp'⟩ := (h'.keep hB).cells (by omega)
      have hg1 : R[k]? = some R[k] := List.getElem?_eq_getElem hlt
      have hg2 : S[k]? = some S[k] := List.getElem?_eq_getElem hlt'
      have hr1 := hp k _ hg1
      have hr2 := hp' k _ hg2
      have hnn : (S[k]).n = (R[k]).n := by
        have := congrArg (fun l => l[k]?) HN.out
        simpa [List.getElem?_map, hg1, hg2] using this
      have hrd1 := (HR.out.keep hB) _ (List.mem_of_getElem? hg1)
      have hrd2 := (HS.out.keep hB) _ (List.mem_of_getElem? hg2)
      have hmm := HM.out _ (List.mem_of_getElem? hg1)
      generalize R[k] = p at *
      generalize S[k] = q at *
      have HR1 := Lib.hid hr1
      have HR2 := Lib.hid hr2
      have HNN := Lib.hid hnn
      have HBB := Lib.hid hB
      have HD1 := Lib.hid hrd1
      have HD2 := Lib.hid hrd2
      obtain ⟨mm1, mm2⟩ := hmm
      clear hr1 hr2 hnn hB hg1 hg2 hp hp' hrd1 hrd2 hlt'
      go_wp2_with fail
      refine wp_region_grow 10 0 (· < 10) (by kernel_rfl) (by kernel_rfl) rfl ?_
      iterate 10 (refine wpG_step (fun K hK => ?_); first | (refine grow_ldN _ p b (off + k * 34) rfl rfl rfl hb (rangeB HR1.out rfl) ?_; refine hK _ ?_; clear hK K) | (refine grow_ldN _ q b' (off' + k * 34) rfl rfl rfl hb' (rangeB HR2.out rfl) ?_; refine hK _ ?_; clear hK K) | (refine grow_skip rfl ?_; go_simp; refine hK _ ?_; clear hK K) | (apply Exists.intro; refine ⟨.inl ⟨rfl, fun w' hw' => ?_⟩, ?_⟩; (focus ((obtain ⟨hc, hf⟩ := bcell hw'.out); (have hcS := bcellS hw'.out); go_simp <;> first | rfl | (go_at_call 60; exact eqN_w p q _ HNN.out (HD1.out.keep (bdrewn hw'.out)) (HD2.out.keep (bdrewn hw'.out)) mm1 mm2))); (go_simp; refine hK _ ?_; clear hK K)))
      refine wpG_nil ?_
      refine wpK_tail (by kernel_rfl) (fun w1 hg1 => ?_)
      have hb1 := bdrewn hg1.out
      refine wpAny_end (by kernel_rfl) ?_
      refine NoPan.thn ?_
      clear hg1
      replace HBB := Lib.hid (HBB.out.trans (hb1.mono HBB.out.size))
      clear hb1
      go_wp2
      go_roundw
      case rel => exact ⟨k + 1, by omega, by go_num, HBB.out⟩
      case measure => simp [intOf]; omega
    · have hd : decide ((k : Int) < (R.length : Int)) = false := decide_eq_false (by omega)
      have HBB := Lib.hid hB
      clear hB
      go_wp2
      go_ret
      exact ⟨rfl, HBB.out⟩
set_option maxRecDepth 100000 in
theorem eqTree_same (A B : Option Addr) (c c' : Nat) (R S : List Nr) (w : World) (hn : S.map Nr.n = R.map Nr.n) (h : NrV w A R) (h' : NrV w B S) (hr : RdR w R) (hs : RdR w S) (hL : R.length ≤ 1048576) (hm : ∀ p ∈ R, p.n.cs.length ≤ 1048576 ∧ p.n.rs.length ≤ 1048576) (k : Nat) (hk : k = R.length) :
    Calls Tryz.prog 11 #[.agg #[.slice A k c], .agg #[.slice B k c']] w fun e w' => e = .returned (.bool true) ∧ Below w.heap.size w w' := by
  have hB0 : Below w.heap.size w ((w.alloc (.cells #[.slice A k c] 30 (0, 0))).alloc (.cells #[.slice B k c'] 30 (0, 0))) := balloc (balloc (Below.refl _ _))
  have hx := (Below.heap_alloc _ (.cells #[.slice B k c'] 30 (0, 0)) w.heap.size (by simp)).trans (newS w (.cells #[.slice A k c] 30 (0, 0)))
  have hy := newS1T w (.cells #[.slice A k c] 30 (0, 0)) (.cells #[.slice B k c'] 30 (0, 0))
  have x0 := cellS hx 0
  have y0 := cellS hy 0
  have HA := Lib.hid (And.intro (h.keep hB0) (And.intro (h'.keep hB0) (And.intro (hr.keep hB0) (hs.keep hB0))))
  have HN := Lib.hid (And.intro hn (And.intro hm hk))
  have HB := Lib.hid hB0
  clear hB0 hx hy hn h h' hr hs hm hk
  go_enter Tryz.func11, Tryz.ntmps11
  go_wp2_with fail
  with_reducible refine (eqNodeS_same A B c c' R S _ HN.out.1 HA.out.1 HA.out.2.1 HA.out.2.2.1 HA.out.2.2.2 hL HN.out.2.1 k HN.out.2.2).mono ?_
  rintro e w1 ⟨rfl, hb⟩
  clear x0 y0
  replace HB := Lib.hid (bkeep2 HB.out hb)
  clear hb
  go_wp2
  go_ret
  exact ⟨rfl, HB.out⟩
end Go.Proofs.YtgdkionmeacalaaGreat
end
section
set_option linter.unusedVariables false
namespace Go.Proofs.YtgdkionmeacalaaGreat
/-- the share of the first item: what is left of the answer, the room, the count -/
def shareGo : List Pk → Bool → Int → Int → Int → Int
  | [], d, sh, rm, n => mn sh (mx rm 0 / n)
  | p :: r, d, sh, rm, n => if p.down = d then shareGo r d sh (rm - p.need d) (if p.ex then n + 1 else n) else shareGo r d (mn sh (mx (rm - p.need d) 0 / n)) rm n
theorem shareGo_same {p : Pk} {r : List Pk} {d : Bool} {sh rm n : Int} (h : p.down = d) (hx : p.ex = true) : shareGo (p :: r) d sh rm n = shareGo r d sh (rm - p.need d) (n + 1) := by
  rw [shareGo, if_pos h, hx]; rfl
theorem shareGo_plain {p : Pk} {r : List Pk} {d : Bool} {sh rm n : Int} (h : p.down = d) (hx : p.ex = false) : shareGo (p :: r) d sh rm n = shareGo r d sh (rm - p.need d) n := by
  rw [shareGo, if_pos h, hx]; rfl
theorem shareGo_other {p : Pk} {r : List Pk} {d : Bool} {sh rm n : Int} (h : ¬ p.down = d) : shareGo (p :: r) d sh rm n = shareGo r d (mn sh (mx (rm - p.need d) 0 / n)) rm n := by
  rw [shareGo, if_neg h]
def halfI (r n : Int) : Int := if r < 0 then 0 else r / n
theorem halfI_eq {r n : Int} : halfI r n = mx r 0 / n := by
  unfold halfI mx
  by_cases h : r < 0
  · rw [if_pos h, if_pos (by omega), Int.zero_ediv]
  · rw [if_neg h, if_neg (by omega)]
theorem part_bd {r n : Int} (h1 : r ≤ 400) (h2 : 1 ≤ n) : 0 ≤ mx r 0 / n ∧ mx r 0 / n ≤ 400 := by
  have := mx_spec r 0
  have h3 : 0 ≤ mx r 0 := by omega
  refine ⟨Int.ediv_nonneg h3 (by omega), ?_⟩
  have := Int.ediv_le_self n h3
  omega
theorem drop_cons {L : List Pk} {k : Nat} {p : Pk} (h : L[k]? = some p) : L.drop k = p :: L.drop (k + 1) := by
  have hk := (List.getElem?_eq_some_iff.1 h).1
  have e := (List.getElem?_eq_some_iff.1 h).2
  rw [List.drop_eq_getElem_cons hk, e]
theorem shareGo_bd : ∀ {L : List Pk} {d : Bool} {sh rm n : Int}, (∀ p ∈ L, p.ok = true) → 0 ≤ sh → sh ≤ 400 → rm ≤ 400 → 1 ≤ n → 0 ≤ shareGo L d sh rm n ∧ shareGo L d sh rm n ≤ 400
  | [], d, sh, rm, n, _, h1, h2, h3, h4 => by
    have := part_bd h3 h4
    have := mn_spec sh (mx rm 0 / n)
    simp only [shareGo]; omega
  | p :: r, d, sh, rm, n, hL, h1, h2, h3, h4 => by
    have hp := hL p List.mem_cons_self
    have nb := Pk.need_bd hp d
    have hr : ∀ p ∈ r, p.ok = true := fun q hq => hL q (List.mem_cons_of_mem _ hq)
    unfold shareGo
    split
    · exact shareGo_bd hr h1 h2 (by omega) (by split <;> omega)
    · have := part_bd (r := rm - p.need d) (n := n) (by omega) h4
      have := mn_spec sh (mx (rm - p.need d) 0 / n)
      exact shareGo_bd hr (by omega) (by omega) h3 h4
end Go.Proofs.YtgdkionmeacalaaGreat
end
section
namespace Go.Proofs.YtgdkionmeacalaaGreat
open Go.RowKit
set_option linter.unusedVariables false
set_option maxHeartbeats 1000000
attribute [local go_sem 5000] run_mx run_mn
theorem belowN' {B : Nat} {a w : World} (h : Below B a w) (n : Nat) : Below B a (w.drewN n) := ⟨h.os, h.tape, h.output, h.size, h.block⟩
theorem pbd {p : Pk} (h : p.ok = true) : ((0 ≤ p.w ∧ p.w ≤ 30) ∧ (0 ≤ p.h ∧ p.h ≤ 30) ∧ (0 ≤ p.s ∧ p.s ≤ 3) ∧ (0 ≤ p.an ∧ p.an ≤ 8) ∧ (0 ≤ p.px ∧ p.px ≤ 10) ∧ (0 ≤ p.py ∧ p.py ≤ 10)) := vpB_iff.1 h
theorem isDown_x (p : Pk) (ex : Bool) (w : World) : Calls Tryz.prog 156 #[.agg #[.int .i64 p.w, .int .i64 p.h, .int .i64 p.s, .bool p.fx, .bool p.fy, .bool ex, .int .i64 p.an, .int .i64 p.px, .int .i64 p.py]] w fun e w' => e = .returned (.bool p.down) ∧ Below w.heap.size w w' := by
  by_cases h0 : p.s = 0
  · have e0 : (p.s == 0) = true := by simpa using h0
    go_enter Tryz.func156, Tryz.ntmps156
    go_wp2
    go_ret
    exact ⟨ret_bool (by simp [Pk.down, h0]), balloc (Below.refl _ _)⟩
  · have e0 : (p.s == 0) = false := by simpa using h0
    by_cases h1 : p.s = 1
    · have e1 : (p.s == 1) = true := by simpa using h1
      go_enter Tryz.func156, Tryz.ntmps156
      go_wp2
      go_ret
      exact ⟨ret_bool (by simp [Pk.down, h1]), balloc (Below.refl _ _)⟩
    · have e1 : (p.s == 1) = false := by simpa using h1
      go_enter Tryz.func156, Tryz.ntmps156
      go_wp2
      go_ret
      exact ⟨ret_bool (by simp [Pk.down, h0, h1]), balloc (Below.refl _ _)⟩
theorem isDown_v (p : Pk) (w : World) : Calls Tryz.prog 156 #[.agg #[.int .i64 p.w, .int .i64 p.h, .int .i64 p.s, .bool p.fx, .bool p.fy, .bool p.ex, .int .i64 p.an, .int .i64 p.px, .int .i64 p.py]] w fun e w' => e = .returned (.bool p.down) ∧ Below w.heap.size w w' := isDown_x p p.ex w
theorem upright_v (s : Int) (w : World) : Calls Tryz.prog 72 #[.int .i64 s] w fun e w' => e = .returned (.bool (decide (s = 0 ∨ s = 1))) ∧ w = w' := by
  by_cases h0 : s = 0
  · have e0 : (s == 0) = true := by simpa using h0
    go_enter Tryz.func72, Tryz.ntmps72
    go_wp2
    go_ret
    exact ⟨ret_bool (by simp [h0]), rfl⟩
  · have e0 : (s == 0) = false := by simpa using h0
    by_cases h1 : s = 1
    · have e1 : (s == 1) = true := by simpa using h1
      go_enter Tryz.func72, Tryz.ntmps72
      go_wp2
      go_ret
      exact ⟨ret_bool (by simp [h1]), rfl⟩
    · have e1 : (s == 1) = false := by simpa using h1
      go_enter Tryz.func72, Tryz.ntmps72
      go_wp2
      go_ret
      exact ⟨ret_bool (by simp [h0, h1]), rfl⟩
theorem need_w (p : Pk) (d : Bool) (w : World) (h : p.big) : Calls Tryz.prog 197 #[.agg #[.int .i64 p.w, .int .i64 p.h, .int .i64 p.s, .bool p.fx, .bool p.fy, .bool p.ex, .int .i64 p.an, .int .i64 p.px, .int .i64 p.py], .bool d] w fun e w' => e = .returned (.int .i64 (p.need d)) ∧ Below w.heap.size w w' := by
  obtain ⟨⟨a1, a2⟩, ⟨a3, a4⟩, _, _, ⟨a5, a6⟩, ⟨a7, a8⟩⟩ := h
  cases d
  all_goals
    go_enter Tryz.func197, Tryz.ntmps197
    go_wp2
    go_ret
    exact ⟨ret_int rfl, balloc (Below.refl _ _)⟩
theorem need_v (p : Pk) (d : Bool) (w : World) (h : p.ok = true) : Calls Tryz.prog 197 #[.agg #[.int .i64 p.w, .int .i64 p.h, .int .i64 p.s, .bool p.fx, .bool p.fy, .bool p.ex, .int .i64 p.an, .int .i64 p.px, .int .i64 p.py], .bool d] w fun e w' => e = .returned (.int .i64 (p.need d)) ∧ Below w.heap.size w w' := need_w p d w (Pk.ok_big h)
theorem outer_w (p : Pk) (w : World) (h : p.big) : Calls Tryz.prog 71 #[.agg #[.int .i64 p.w, .int .i64 p.h, .int .i64 p.s, .bool p.fx, .bool p.fy, .bool p.ex, .int .i64 p.an, .int .i64 p.px, .int .i64 p.py]] w fun e w' => e = .returned (.tuple #[.int .i64 (p.need false), .int .i64 (p.need true)]) ∧ Below w.heap.size w w' := by
  obtain ⟨⟨a1, a2⟩, ⟨a3, a4⟩, _, _, ⟨a5, a6⟩, ⟨a7, a8⟩⟩ := h
  have e1 : IntKind.i64.wrap (2 * p.px) = 2 * p.px := IntWalk.i64_in _ (by omega)
  have e2 : IntKind.i64.wrap (2 * p.py) = 2 * p.py := IntWalk.i64_in _ (by omega)
  have e3 : IntKind.i64.wrap (p.w + 2 * p.px) = p.w + 2 * p.px := IntWalk.i64_in _ (by omega)
  have e4 : IntKind.i64.wrap (p.h + 2 * p.py) = p.h + 2 * p.py := IntWalk.i64_in _ (by omega)
  go_enter Tryz.func71, Tryz.ntmps71
  go_wp2_with fail
  go_quiet (fail)
  clear e1 e2 e3 e4
  go_wp2
  go_ret2
  exact ⟨rfl, belowN' (balloc (Below.refl _ _)) _⟩
theorem outer_v (p : Pk) (w : World) (h : p.ok = true) : Calls Tryz.prog 71 #[.agg #[.int .i64 p.w, .int .i64 p.h, .int .i64 p.s, .bool p.fx, .bool p.fy, .bool p.ex, .int .i64 p.an, .int .i64 p.px, .int .i64 p.py]] w fun e w' => e = .returned (.tuple #[.int .i64 (p.need false), .int .i64 (p.need true)]) ∧ Below w.heap.size w w' := outer_w p w (Pk.ok_big h)
theorem half_v (r n : Int) (w : World) (h1 : -1000 ≤ r) (h2 : r ≤ 1000) (h3 : 1 ≤ n) (h4 : n ≤ 1000) : Calls Tryz.prog 138 #[.int .i64 r, .int .i64 n] w fun e w' => e = .returned (.int .i64 (mx r 0 / n)) ∧ w = w' := by
  rw [← halfI_eq]
  by_cases h : r < 0
  · go_enter Tryz.func138, Tryz.ntmps138
    go_wp2
    go_ret
    exact ⟨ret_int (by unfold halfI; rw [if_pos h]), rfl⟩
  · have hd : decide (r < 0) = false := by simpa using h
    have h0 : 0 ≤ r := by omega
    have hn : ¬ n = 0 := by omega
    go_enter Tryz.func138, Tryz.ntmps138
    go_wp2
    go_ret
    exact ⟨ret_int (by unfold halfI; rw [if_neg (by omega)]), rfl⟩
end Go.Proofs.YtgdkionmeacalaaGreat
end
section
set_option linter.unusedVariables false
namespace Go.Proofs.YtgdkionmeacalaaGreat
structure Rc where
  x : Int
  y : Int
  u : Int
  v : Int
def Rc.ok (r : Rc) : Bool := vr r.x r.y r.u r.v
/-- the piece at a side, and the rest -/
def cutP (r : Rc) (s n : Int) : Rc × Rc :=
  if s = 0 then (⟨r.x, r.y, r.u, mn n r.v⟩, ⟨r.x, r.y + mn n r.v, r.u, r.v - mn n r.v⟩)
  else if s = 1 then (⟨r.x, r.y + (r.v - mn n r.v), r.u, mn n r.v⟩, ⟨r.x, r.y, r.u, r.v - mn n r.v⟩)
  else if s = 2 then (⟨r.x, r.y, mn n r.u, r.v⟩, ⟨r.x + mn n r.u, r.y, r.u - mn n r.u, r.v⟩)
  else (⟨r.x + (r.u - mn n r.u), r.y, mn n r.u, r.v⟩, ⟨r.x, r.y, r.u - mn n r.u, r.v⟩)
theorem cutP_ok {r : Rc} {s n : Int} (h : r.ok = true) (hn : 0 ≤ n) : (cutP r s n).1.ok = true ∧ (cutP r s n).2.ok = true := by
  obtain ⟨a1, a2, a3, a4, a5, a6, a7, a8⟩ := vr_iff.1 h
  have m1 := mn_spec n r.u
  have m2 := mn_spec n r.v
  unfold cutP
  split
  · exact ⟨vr_iff.2 (by dsimp only; omega), vr_iff.2 (by dsimp only; omega)⟩
  · split
    · exact ⟨vr_iff.2 (by dsimp only; omega), vr_iff.2 (by dsimp only; omega)⟩
    · split
      · exact ⟨vr_iff.2 (by dsimp only; omega), vr_iff.2 (by dsimp only; omega)⟩
      · exact ⟨vr_iff.2 (by dsimp only; omega), vr_iff.2 (by dsimp only; omega)⟩
def Rc.size (r : Rc) (d : Bool) : Int := if d then r.v else r.u
theorem Rc.size_bd {r : Rc} (h : r.ok = true) (d : Bool) : 0 ≤ r.size d ∧ r.size d ≤ 400 := by
  obtain ⟨a1, a2, a3, a4, a5, a6, a7, a8⟩ := vr_iff.1 h
  unfold Rc.size; split <;> omega
/-- how much the first item has more -/
def moreOf : List Pk → Rc → Int
  | [], _ => 0
  | p :: r, z => if p.ex then shareGo (p :: r) p.down (z.size p.down) (z.size p.down) 0 else 0
def takeOf (p : Pk) (r : List Pk) (z : Rc) : Int := p.need p.down + moreOf (p :: r) z
def parcM : List Pk → Rc → List Rc × Rc
  | [], z => ([], z)
  | p :: r, z => ((cutP z p.s (takeOf p r z)).1 :: (parcM r (cutP z p.s (takeOf p r z)).2).1, (parcM r (cutP z p.s (takeOf p r z)).2).2)
theorem parcM_len : ∀ {L : List Pk} {z : Rc}, (parcM L z).1.length = L.length
  | [], z => rfl
  | p :: r, z => by simp [parcM, parcM_len (L := r)]
theorem moreOf_bd {p : Pk} {r : List Pk} {z : Rc} (hL : ∀ q ∈ p :: r, q.ok = true) (hz : z.ok = true) : 0 ≤ moreOf (p :: r) z ∧ moreOf (p :: r) z ≤ 400 := by
  obtain ⟨b1, b2⟩ := Rc.size_bd hz p.down
  simp only [moreOf]
  cases hx : p.ex
  · simp
  · have nb := Pk.need_bd (hL p List.mem_cons_self) p.down
    simp only [if_true]
    rw [shareGo_same rfl hx]
    exact shareGo_bd (fun q hq => hL q (List.mem_cons_of_mem _ hq)) b1 b2 (by omega) (by omega)
theorem takeOf_bd {p : Pk} {r : List Pk} {z : Rc} (hL : ∀ q ∈ p :: r, q.ok = true) (hz : z.ok = true) : 0 ≤ takeOf p r z ∧ takeOf p r z ≤ 450 := by
  have := moreOf_bd hL hz
  have := Pk.need_bd (hL p List.mem_cons_self) p.down
  unfold takeOf; omega
end Go.Proofs.YtgdkionmeacalaaGreat
end
section
set_option linter.unusedVariables false
namespace Go.Proofs.YtgdkionmeacalaaGreat
/-- what items need together: across, down -/
def reqM : List Pk → Int × Int
  | [] => (0, 0)
  | p :: t => if p.down then (mx (reqM t).1 (p.need false), (reqM t).2 + p.need true) else ((reqM t).1 + p.need false, mx (reqM t).2 (p.need true))
def reqD (L : List Pk) (d : Bool) : Int := if d then (reqM L).2 else (reqM L).1
theorem reqD_nil (d : Bool) : reqD [] d = 0 := by cases d <;> rfl
theorem reqD_same {p : Pk} {t : List Pk} {d : Bool} (h : p.down = d) : reqD (p :: t) d = reqD t d + p.need d := by
  cases d <;> simp [reqD, reqM, h]
theorem reqD_other {p : Pk} {t : List Pk} {d : Bool} (h : ¬ p.down = d) : reqD (p :: t) d = mx (reqD t d) (p.need d) := by
  cases d
  · have h' : p.down = true := by simpa using h
    simp [reqD, reqM, h']
  · have h' : p.down = false := by simpa using h
    simp [reqD, reqM, h']
theorem reqM_bd : ∀ {L : List Pk}, (∀ p ∈ L, p.ok = true) → 0 ≤ (reqM L).1 ∧ (reqM L).1 ≤ 50 * L.length ∧ 0 ≤ (reqM L).2 ∧ (reqM L).2 ≤ 50 * L.length
  | [], _ => by simp [reqM]
  | p :: t, h => by
    obtain ⟨a1, a2, a3, a4⟩ := reqM_bd (L := t) (fun q hq => h q (List.mem_cons_of_mem _ hq))
    have n1 := Pk.need_bd (h p List.mem_cons_self) false
    have n2 := Pk.need_bd (h p List.mem_cons_self) true
    have m1 := mx_spec (reqM t).1 (p.need false)
    have m2 := mx_spec (reqM t).2 (p.need true)
    simp only [reqM, List.length_cons]
    split <;> (dsimp only; omega)
theorem reqM_bdW : ∀ {L : List Pk}, (∀ p ∈ L, p.big) → 0 ≤ (reqM L).1 ∧ (reqM L).1 ≤ 1000000000020 * L.length ∧ 0 ≤ (reqM L).2 ∧ (reqM L).2 ≤ 1000000000020 * L.length
  | [], _ => by simp [reqM]
  | p :: t, h => by
    obtain ⟨a1, a2, a3, a4⟩ := reqM_bdW (L := t) (fun q hq => h q (List.mem_cons_of_mem _ hq))
    have n1 := Pk.need_bdW (h p List.mem_cons_self) false
    have n2 := Pk.need_bdW (h p List.mem_cons_self) true
    have m1 := mx_spec (reqM t).1 (p.need false)
    have m2 := mx_spec (reqM t).2 (p.need true)
    simp only [reqM, List.length_cons]
    split <;> (dsimp only; omega)
theorem reqD_bd {L : List Pk} (h : ∀ p ∈ L, p.ok = true) (d : Bool) : 0 ≤ reqD L d ∧ reqD L d ≤ 50 * L.length := by
  obtain ⟨a1, a2, a3, a4⟩ := reqM_bd h
  unfold reqD; split <;> omega
theorem reqM_tail {p : Pk} {t : List Pk} (h : ∀ q ∈ p :: t, q.ok = true) : (reqM t).1 ≤ (reqM (p :: t)).1 ∧ (reqM t).2 ≤ (reqM (p :: t)).2 := by
  have n1 := Pk.need_bd (h p List.mem_cons_self) false
  have n2 := Pk.need_bd (h p List.mem_cons_self) true
  have m1 := mx_spec (reqM t).1 (p.need false)
  have m2 := mx_spec (reqM t).2 (p.need true)
  simp only [reqM]
  split <;> (dsimp only; omega)
/-- the item at the other end -/
def Pk.flip (p : Pk) : Pk := { p with s := if p.s = 0 then 1 else if p.s = 1 then 0 else if p.s = 2 then 3 else 2 }
theorem Pk.flip_ok {p : Pk} (h : p.ok = true) : p.flip.ok = true := by
  have := vpB_iff.1 h
  refine vpB_iff.2 ?_
  unfold Pk.flip
  dsimp only
  refine ⟨this.1, this.2.1, ?_, this.2.2.2⟩
  split
  · omega
  · split
    · omega
    · split <;> omega
theorem Pk.flip_down {p : Pk} (h : p.ok = true) : p.flip.down = p.down := by
  have := vpB_iff.1 h
  unfold Pk.down Pk.flip
  dsimp only
  by_cases h0 : p.s = 0
  · simp [h0]
  · by_cases h1 : p.s = 1
    · simp [h1]
    · by_cases h2 : p.s = 2
      · simp [h2]
      · simp [h0, h1, h2]
theorem Pk.flip_need (p : Pk) (d : Bool) : p.flip.need d = p.need d := by cases d <;> rfl
theorem reqM_flip : ∀ {L : List Pk}, (∀ p ∈ L, p.ok = true) → reqM (L.map Pk.flip) = reqM L
  | [], _ => rfl
  | p :: t, h => by
    have ih := reqM_flip (L := t) (fun q hq => h q (List.mem_cons_of_mem _ hq))
    simp only [List.map_cons, reqM, ih, Pk.flip_need, Pk.flip_down (h p List.mem_cons_self)]
/-- a share is no more than what it begins with -/
theorem shareGo_le : ∀ {L : List Pk} {d : Bool} {sh rm n : Int}, shareGo L d sh rm n ≤ sh
  | [], d, sh, rm, n => (mn_spec _ _).1
  | p :: r, d, sh, rm, n => by
    unfold shareGo
    split
    · exact shareGo_le
    · exact Int.le_trans shareGo_le (mn_spec _ _).1
theorem part_le {x n : Int} (hn : 1 ≤ n) : mx x 0 / n ≤ mx x 0 := Int.ediv_le_self n (by have := mx_spec x 0; omega)
theorem shareGo_room : ∀ {L : List Pk} {d : Bool} {sh rm n : Int}, (∀ p ∈ L, p.ok = true) → 1 ≤ n → shareGo L d sh rm n ≤ mx (rm - reqD L d) 0
  | [], d, sh, rm, n, _, hn => by
    rw [reqD_nil]
    have := mn_spec sh (mx rm 0 / n)
    have := part_le (x := rm) hn
    simp only [shareGo, Int.sub_zero]; omega
  | p :: r, d, sh, rm, n, hL, hn => by
    have hr : ∀ p ∈ r, p.ok = true := fun q hq => hL q (List.mem_cons_of_mem _ hq)
    by_cases h : p.down = d
    · rw [reqD_same h, shareGo, if_pos h]
      have := shareGo_room (L := r) (d := d) (sh := sh) (rm := rm - p.need d) (n := if p.ex then n + 1 else n) hr (by split <;> omega)
      rwa [show rm - p.need d - reqD r d = rm - (reqD r d + p.need d) by omega] at this
    · rw [reqD_other h, shareGo, if_neg h]
      have h1 := shareGo_room (L := r) (d := d) (sh := mn sh (mx (rm - p.need d) 0 / n)) (rm := rm) (n := n) hr hn
      have h2 := shareGo_le (L := r) (d := d) (sh := mn sh (mx (rm - p.need d) 0 / n)) (rm := rm) (n := n)
      have := mn_spec sh (mx (rm - p.need d) 0 / n)
      have := part_le (x := rm - p.need d) hn
      have := mx_spec (reqD r d) (p.need d)
      have := mx_spec (rm - p.need d) 0
      have := mx_spec (rm - reqD r d) 0
      have := mx_spec (rm - mx (reqD r d) (p.need d)) 0
      omega
/-- the share of the first item, which expands in this direction -/
theorem share_room {p : Pk} {t : List Pk} {rm : Int} (hL : ∀ q ∈ p :: t, q.ok = true) (hx : p.ex = true) (h0 : 0 ≤ rm) :
    shareGo (p :: t) p.down rm rm 0 ≤ rm ∧ shareGo (p :: t) p.down rm rm 0 ≤ mx (rm - reqD (p :: t) p.down) 0 := by
  refine ⟨shareGo_le, ?_⟩
  rw [shareGo_same rfl hx, reqD_same rfl]
  have := shareGo_room (L := t) (d := p.down) (sh := rm) (rm := rm - p.need p.down) (n := 0 + 1) (fun q hq => hL q (List.mem_cons_of_mem _ hq)) (by omega)
  rwa [show rm - p.need p.down - reqD t p.down = rm - (reqD t p.down + p.need p.down) by omega] at this
/-- the parcels ahead of the last one do not know of it, if none expands -/
theorem parcM_noex : ∀ {L : List Pk} {z : Rc}, (∀ p ∈ L, p.ex = false) → ∀ n, (parcM (L.take n) z).1 = (parcM L z).1.take n
  | [], z, _, n => by cases n <;> simp [parcM]
  | p :: r, z, h, 0 => by simp [parcM]
  | p :: r, z, h, n + 1 => by
    have hp := h p List.mem_cons_self
    have e : ∀ q, takeOf p q z = p.need p.down + 0 := fun q => by simp [takeOf, moreOf, hp]
    simp only [List.take_succ_cons, parcM, e]
    rw [parcM_noex (fun q hq => h q (List.mem_cons_of_mem _ hq)) n]
/-- a rectangle in another one -/
def Rc.inn (a b : Rc) : Prop := a.x ≤ b.x ∧ a.y ≤ b.y ∧ b.x + b.u ≤ a.x + a.u ∧ b.y + b.v ≤ a.y + a.v
theorem Rc.inn_refl (a : Rc) : a.inn a := by unfold Rc.inn; omega
theorem Rc.inn_trans {a b c : Rc} (h1 : a.inn b) (h2 : b.inn c) : a.inn c := by unfold Rc.inn at *; omega
theorem cutP_inn {r : Rc} {s n : Int} (hr : r.ok = true) (hn : 0 ≤ n) : r.inn (cutP r s n).1 ∧ r.inn (cutP r s n).2 := by
  obtain ⟨a1, a2, a3, a4, a5, a6, a7, a8⟩ := vr_iff.1 hr
  have m1 := mn_spec n r.u
  have m2 := mn_spec n r.v
  unfold cutP Rc.inn
  split
  · dsimp only; omega
  · split
    · dsimp only; omega
    · split
      · dsimp only; omega
      · dsimp only; omega
/-- they have a common point -/
def Rc.met (a b : Rc) : Prop := 0 < mn (a.x + a.u) (b.x + b.u) - mx a.x b.x ∧ 0 < mn (a.y + a.v) (b.y + b.v) - mx a.y b.y
theorem met_inn {a b c d : Rc} (h1 : a.inn c) (h2 : b.inn d) (h : ¬ a.met b) : ¬ c.met d := by
  unfold Rc.met Rc.inn at *
  have := mn_spec (a.x + a.u) (b.x + b.u); have := mx_spec a.x b.x; have := mn_spec (a.y + a.v) (b.y + b.v); have := mx_spec a.y b.y
  have := mn_spec (c.x + c.u) (d.x + d.u); have := mx_spec c.x d.x; have := mn_spec (c.y + c.v) (d.y + d.v); have := mx_spec c.y d.y
  omega
theorem cutP_apart {r : Rc} {s n : Int} (hr : r.ok = true) (hn : 0 ≤ n) : ¬ (cutP r s n).1.met (cutP r s n).2 := by
  obtain ⟨a1, a2, a3, a4, a5, a6, a7, a8⟩ := vr_iff.1 hr
  have m1 := mn_spec n r.u
  have m2 := mn_spec n r.v
  generalize hp : cutP r s n = pr
  have q1 := mn_spec (pr.1.x + pr.1.u) (pr.2.x + pr.2.u); have q2 := mx_spec pr.1.x pr.2.x
  have q3 := mn_spec (pr.1.y + pr.1.v) (pr.2.y + pr.2.v); have q4 := mx_spec pr.1.y pr.2.y
  unfold Rc.met
  unfold cutP at hp
  split at hp
  · subst hp; dsimp only at *; omega
  · split at hp
    · subst hp; dsimp only at *; omega
    · split at hp
      · subst hp; dsimp only at *; omega
      · subst hp; dsimp only at *; omega
def Rc.area (r : Rc) : Int := r.u * r.v
theorem cutP_area (r : Rc) (s n : Int) : (cutP r s n).1.area + (cutP r s n).2.area = r.area := by
  unfold cutP Rc.area
  split
  · dsimp only; rw [← Int.mul_add]; congr 1; omega
  · split
    · dsimp only; rw [← Int.mul_add]; congr 1; omega
    · split
      · dsimp only; rw [← Int.add_mul]; congr 1; omega
      · dsimp only; rw [← Int.add_mul]; congr 1; omega
def areas : List Rc → Int
  | [] => 0
  | r :: t => r.area + areas t
/-- all parcels and what is left: in the rectangle, apart, and all of it -/
theorem parcM_all : ∀ {L : List Pk} {z : Rc}, (∀ p ∈ L, p.ok = true) → z.ok = true →
    (∀ r ∈ (parcM L z).1 ++ [(parcM L z).2], z.inn r) ∧ ((parcM L z).1 ++ [(parcM L z).2]).Pairwise (fun a b => ¬ a.met b) ∧ areas ((parcM L z).1 ++ [(parcM L z).2]) = z.area ∧ (∀ r ∈ (parcM L z).1 ++ [(parcM L z).2], r.ok = true)
  | [], z, _, hz => by
    refine ⟨?_, ?_, ?_, ?_⟩
    · intro r hr; simp [parcM] at hr; subst hr; exact Rc.inn_refl _
    · simp [parcM]
    · simp [parcM, areas]
    · intro r hr; simp [parcM] at hr; subst hr; exact hz
  | p :: t, z, hL, hz => by
    obtain ⟨b1, b2⟩ := takeOf_bd hL hz
    obtain ⟨o1, o2⟩ := cutP_ok (s := p.s) hz b1
    obtain ⟨i1, i2⟩ := cutP_inn (s := p.s) hz b1
    have ha := cutP_apart (s := p.s) hz b1
    have har := cutP_area z p.s (takeOf p t z)
    obtain ⟨h1, h2, h3, h4⟩ := parcM_all (L := t) (z := (cutP z p.s (takeOf p t z)).2) (fun q hq => hL q (List.mem_cons_of_mem _ hq)) o2
    simp only [parcM, List.cons_append]
    refine ⟨?_, ?_, ?_, ?_⟩
    · intro r hr
      rcases List.mem_cons.1 hr with rfl | hr
      · exact i1
      · exact Rc.inn_trans i2 (h1 r hr)
    · refine List.pairwise_cons.2 ⟨fun r hr => ?_, h2⟩
      exact met_inn (Rc.inn_refl _) (h1 r hr) ha
    · simp only [areas, h3]; exact har
    · intro r hr
      rcases List.mem_cons.1 hr with rfl | hr
      · exact o1
      · exact h4 r hr
/-- what is left has no points if the last item expands -/
theorem parcM_last : ∀ {L : List Pk} {z : Rc} (p : Pk), (∀ q ∈ L ++ [p], q.ok = true) → z.ok = true → p.ex = true → (parcM (L ++ [p]) z).2.area = 0
  | [], z, p, hL, hz, hx => by
    have hp : p.ok = true := hL p (by simp)
    obtain ⟨a1, a2, a3, a4, a5, a6, a7, a8⟩ := vr_iff.1 hz
    have hs := (vpB_iff.1 hp).2.2.1
    have nb := Pk.need_bd hp p.down
    have e : takeOf p [] z = p.need p.down + mn (z.size p.down) (mx (z.size p.down - p.need p.down) 0 / 1) := by
      simp [takeOf, moreOf, hx, shareGo]
    rw [Int.ediv_one] at e
    have m1 := mn_spec (z.size p.down) (mx (z.size p.down - p.need p.down) 0)
    have m2 := mx_spec (z.size p.down - p.need p.down) 0
    have hsz := Rc.size_bd hz p.down
    simp only [List.nil_append, parcM]
    have ht : z.size p.down ≤ takeOf p [] z := by rw [e]; omega
    generalize takeOf p [] z = n at *
    have m3 := mn_spec n z.u
    have m4 := mn_spec n z.v
    unfold cutP Rc.area
    by_cases h0 : p.s = 0
    · have hd : p.down = true := by simp [Pk.down, h0]
      rw [hd] at ht; simp [Rc.size] at ht
      rw [if_pos h0]; dsimp only
      rw [show z.v - mn n z.v = 0 by omega, Int.mul_zero]
    · rw [if_neg h0]
      by_cases h1 : p.s = 1
      · have hd : p.down = true := by simp [Pk.down, h1]
        rw [hd] at ht; simp [Rc.size] at ht
        rw [if_pos h1]; dsimp only
        rw [show z.v - mn n z.v = 0 by omega, Int.mul_zero]
      · have hd : p.down = false := by simp [Pk.down, h0, h1]
        rw [hd] at ht; simp [Rc.size] at ht
        rw [if_neg h1]
        split
        · dsimp only; rw [show z.u - mn n z.u = 0 by omega, Int.zero_mul]
        · dsimp only; rw [show z.u - mn n z.u = 0 by omega, Int.zero_mul]
  | q :: t, z, p, hL, hz, hx => by
    have hL' : ∀ r ∈ q :: (t ++ [p]), r.ok = true := hL
    obtain ⟨b1, b2⟩ := takeOf_bd hL' hz
    obtain ⟨o1, o2⟩ := cutP_ok (s := q.s) hz b1
    show (parcM (q :: (t ++ [p])) z).2.area = 0
    simp only [parcM]
    exact parcM_last (L := t) p (fun r hr => hL' r (List.mem_cons_of_mem _ hr)) o2 hx
end Go.Proofs.YtgdkionmeacalaaGreat
end
section
namespace Go.Proofs.YtgdkionmeacalaaGreat
open Go.RowKit
set_option linter.unusedVariables false
set_option maxHeartbeats 4000000
attribute [local go_sem 5000] run_mx run_mn
attribute [local go_sem] Oper.semAt_some
/-- what comes: an index, and a valid item -/
structure BkE where
  i : Int
  p : Pk
  ok : p.big
def encB (x : BkE) : Array Value := #[.int .i64 x.i, .agg #[.int .i64 x.p.w, .int .i64 x.p.h, .int .i64 x.p.s, .bool x.p.fx, .bool x.p.fy, .bool x.p.ex, .int .i64 x.p.an, .int .i64 x.p.px, .int .i64 x.p.py]]
/-- what a round must keep -/
def KpB (n0 Bs : Nat) (W W' : World) : Prop := Below n0 W W' ∧ W'.heap[Bs]? = W.heap[Bs]?
theorem KpB.cell {n0 Bs : Nat} {W W' : World} (h : KpB n0 Bs W W') (o : Nat) : W'.cell? ⟨Bs, o, none⟩ = W.cell? ⟨Bs, o, none⟩ := World.cell?_of_block h.2
theorem KpB.refl (n0 Bs : Nat) (W : World) : KpB n0 Bs W W := ⟨Below.refl _ _, rfl⟩
theorem KpB.trans {n0 Bs : Nat} {A B C : World} (h : KpB n0 Bs A B) (k : KpB n0 Bs B C) : KpB n0 Bs A C := ⟨h.1.trans k.1, k.2.trans h.2⟩
/-- the slice reads as the list, in a block below n0 -/
def PVn (n0 : Nat) (W : World) (A : Option Addr) (L : List Pk) : Prop := 0 < L.length → ∃ b off, A = some ⟨b, off, none⟩ ∧ b < n0 ∧ PS W b off L
theorem PVn.below {n0 : Nat} {W W' : World} {A : Option Addr} {L : List Pk} (h : PVn n0 W A L) (hb : Below n0 W W') : PVn n0 W' A L := fun h0 =>
  let ⟨b, off, e, hl, hp⟩ := h h0; ⟨b, off, e, hl, fun i p hi => (hp i p hi).keep (hb.block b hl)⟩
set_option maxRecDepth 100000 in
theorem bk1_in (F : Fence) (n : Nat) (hF : F.fn 202) (hro : F.round = none) (hn : 1 ≤ n) (l Bs n0 : Nat) (A : Option Addr) (c : Nat) (L : List Pk) (hL : L.length ≤ 10) (hok : ∀ p ∈ L, p.big) (J Jx : List BkE → World → Prop)
    (hY : ∀ pre x W, J pre W → pre.length < L.length → YieldAt F (n - 1) Tryz.prog l (encB x) W fun e W' =>
      (e = .returned (.bool true) ∧ J (pre ++ [x]) W' ∧ KpB n0 Bs W W') ∨ (e = .returned (.bool false) ∧ Jx (pre ++ [x]) W'))
    (W : World) (hBs : W.cell? ⟨Bs, 0, none⟩ = some (.slice A L.length c)) (hp : PVn n0 W A L) (h0 : J [] W) :
    CallsIn F n Tryz.prog 202 #[.func (.yield l) #[] #[], .pointer (some ⟨Bs, 0, none⟩)] W fun e W' => (∃ v, e = .returned v) ∧
      ((∃ ys, ys.map BkE.p = L.reverse ∧ J ys W') ∨ (∃ pre, True ∧ Jx pre W')) := by
  refine callsIn_of_wp Tryz.func202 rfl hF ?_ hro
  simp only [Tryz.ntmps202, List.size_toArray, List.length_cons, List.length_nil, Nat.reduceAdd, Nat.reduceSub, Array.replicate_succ, Array.replicate_zero, List.push_toArray, List.append_toArray, List.nil_append, List.cons_append]
  gi_wp2
  gi_loopw [3] (fun i wr => ∃ k : Nat, k ≤ L.length ∧ i = .int .i64 ((k : Int) - 1) ∧ (∃ ys, ys.map BkE.p = (L.drop k).reverse ∧ J ys wr) ∧ KpB n0 Bs W wr)
    (fun i _ => (intOf i + 1).toNat)
  case atStart => exact ⟨L.length, Nat.le_refl _, rfl, ⟨[], by simp, h0⟩, KpB.refl _ _ _⟩
  case round =>
    obtain ⟨k, hk, rfl, ⟨ys, hys, hJs⟩, hK⟩ := hrel
    rcases k with _ | j
    · have hd : decide (((0 : Nat) : Int) - 1 ≥ 0) = false := by simp
      rw [List.drop_zero] at hys
      have HYS := Lib.hid hys
      clear hys
      gi_wp2
      go_end0
      exact ⟨⟨_, rfl⟩, .inl ⟨ys, HYS.out, hJs⟩⟩
    · have e1 : ((j + 1 : Nat) : Int) - 1 = (j : Int) := by omega
      rw [e1]
      have hlt : j < L.length := by omega
      have hd : decide ((j : Int) ≥ 0) = true := by simp
      have hd2 : decide ((0 : Int) ≤ (j : Int)) = true := by simp
      obtain ⟨b, off, rfl, hb, hps⟩ := hp.below hK.1 (by omega)
      have hget : L[j]? = some L[j] := List.getElem?_eq_getElem hlt
      obtain ⟨c0, c1, c2, c3, c4, c5, c6, c7, c8⟩ := hps j _ hget
      have hpok : L[j].big := hok _ (List.getElem_mem hlt)
      have hdrop := drop_cons hget
      generalize hx : L[j] = p at *
      have hl : ys.length < L.length := by
        have := congrArg List.length hys
        simp at this; omega
      have hcs := (hK.cell 0).trans hBs
      obtain ⟨fn, tmps, assign, body, hy, hR⟩ := hY ys ⟨j, p, hpok⟩ wr hJs hl
      dsimp only [encB] at hy
      have HYS := Lib.hid hys
      have HD := Lib.hid hdrop
      have HK := Lib.hid hK
      have HG := Lib.hid hget
      have HX := Lib.hid hx
      have HPS := Lib.hid hps
      clear hys hdrop hK hget hx hps e1
      have hjs : IntKind.i64.wrap ((j : Int) - 1) = (j : Int) - 1 := IntWalk.i64_in _ (by omega)
      gi_wp2
      refine hR.mono ?_
      rintro e W3 (⟨rfl, hJ3, hk3⟩ | ⟨rfl, hJx3⟩)
      · gi_wp2
        go_roundw
        case rel => exact ⟨j, by omega, by go_num, ⟨_, by rw [HD.out, List.reverse_cons, List.map_append, HYS.out]; rfl, hJ3⟩, HK.out.trans hk3⟩
        case measure => simp [intOf]
      · gi_wp2
        refine bodyPost_ret (results_none rfl _ _ _) rfl ?_
        exact ⟨⟨_, rfl⟩, .inr ⟨_, trivial, hJx3⟩⟩
end Go.Proofs.YtgdkionmeacalaaGreat
end
