import Derived.Test.YtgdkionmeacalabGreatQ08
import Derived.LoopTactic
import Derived.OwnWalk
import Derived.Deep.RegionHeld3
import Derived.Deep.DrawnRows
import Derived.RangeFuncNested
import Derived.RangeFuncBound
import Derived.RangeFuncCalls
import Derived.RangeFuncLeaves
import Derived.Shelf.Abstract
import Derived.Shelf.RegionOpen
import Derived.WalkKit
import Derived.OwnWalkIn
import Derived.TacticsInMore
import Derived.LoopNIn
import Derived.LoopIn
section
namespace Go.Proofs.YtgdkionmeacalabGreat
open Go.RowKit
set_option linter.unusedVariables false
set_option maxHeartbeats 1000000
/-- nine cells hold this item -/
def Cells9 (w : World) (b o : Nat) (p : Pk) : Prop :=
  w.cell? ⟨b, o, none⟩ = some (.int .i64 p.w) ∧ w.cell? ⟨b, o + 1, none⟩ = some (.int .i64 p.h) ∧ w.cell? ⟨b, o + 2, none⟩ = some (.int .i64 p.s) ∧ w.cell? ⟨b, o + 3, none⟩ = some (.bool p.fx) ∧ w.cell? ⟨b, o + 4, none⟩ = some (.bool p.fy) ∧
  w.cell? ⟨b, o + 5, none⟩ = some (.bool p.ex) ∧ w.cell? ⟨b, o + 6, none⟩ = some (.int .i64 p.an) ∧ w.cell? ⟨b, o + 7, none⟩ = some (.int .i64 p.px) ∧ w.cell? ⟨b, o + 8, none⟩ = some (.int .i64 p.py)
def PS (w : World) (b off : Nat) (L : List Pk) : Prop := ∀ i p, L[i]? = some p → Cells9 w b (off + i * 9) p
/-- a slice that reads as this list of items -/
structure PV (w : World) (A : Option Addr) (L : List Pk) : Prop where
  cells : 0 < L.length → ∃ b off, A = some ⟨b, off, none⟩ ∧ b < w.heap.size ∧ PS w b off L
theorem Cells9.keep {w w' : World} {b o : Nat} {p : Pk} (h : Cells9 w b o p) (hb : w'.heap[b]? = w.heap[b]?) : Cells9 w' b o p := by
  have e : ∀ i, w'.cell? ⟨b, i, none⟩ = w.cell? ⟨b, i, none⟩ := fun i => World.cell?_of_block (a := ⟨b, i, none⟩) hb
  unfold Cells9 at *
  simpa only [e] using h
theorem PV.keep {w w' : World} {A : Option Addr} {L : List Pk} (h : PV w A L) (hb : Below w.heap.size w w') : PV w' A L :=
  ⟨fun h0 => let ⟨b, off, e, hl, hp⟩ := h.cells h0; ⟨b, off, e, Nat.lt_of_lt_of_le hl hb.size, fun i p hi => (hp i p hi).keep (hb.block b hl)⟩⟩
theorem svp_v (p : Pk) (b : Bool) (h : p.ok = b) (w : World) : Calls Tryz.prog 91 #[.agg #[.int .i64 p.w, .int .i64 p.h, .int .i64 p.s, .bool p.fx, .bool p.fy, .bool p.ex, .int .i64 p.an, .int .i64 p.px, .int .i64 p.py]] w fun e w' => e = .returned (.bool b) ∧ Below w.heap.size w w' := by
  rw [← h]; exact specValidPack_any _ _ _ _ _ _ _ _ _ _
theorem vp_v (p : Pk) (b : Bool) (h : p.ok = b) (w : World) : Calls Tryz.prog 70 #[.agg #[.int .i64 p.w, .int .i64 p.h, .int .i64 p.s, .bool p.fx, .bool p.fy, .bool p.ex, .int .i64 p.an, .int .i64 p.px, .int .i64 p.py]] w fun e w' => e = .returned (.bool b) ∧ Below w.heap.size w w' := by
  rw [← h]; exact validPack_any _ _ _ _ _ _ _ _ _ _
end Go.Proofs.YtgdkionmeacalabGreat
end
section
namespace Go.Proofs.YtgdkionmeacalabGreat
open Go.RowKit
set_option linter.unusedVariables false
set_option maxHeartbeats 1000000
end Go.Proofs.YtgdkionmeacalabGreat
end
section
namespace Go.Proofs.YtgdkionmeacalabGreat
open Go.RowKit
set_option linter.unusedVariables false
set_option maxHeartbeats 1000000
/-- values written side by side -/
def writeAt (cs : Array Value) (o : Nat) : List Value → Array Value
  | [] => cs
  | v :: r => writeAt (cs.setIfInBounds o v) (o + 1) r
theorem writeAt_size : ∀ (vs : List Value) (cs : Array Value) (o : Nat), (writeAt cs o vs).size = cs.size
  | [], cs, o => rfl
  | v :: r, cs, o => by unfold writeAt; rw [writeAt_size r]; simp
theorem writeAt_lo : ∀ (vs : List Value) (cs : Array Value) (o i : Nat), i < o → (writeAt cs o vs)[i]? = cs[i]?
  | [], cs, o, i, _ => rfl
  | v :: r, cs, o, i, h => by unfold writeAt; rw [writeAt_lo r _ _ _ (by omega), Array.getElem?_setIfInBounds_ne (by omega)]
theorem writeAt_hi : ∀ (vs : List Value) (cs : Array Value) (o i : Nat), o + vs.length ≤ i → (writeAt cs o vs)[i]? = cs[i]?
  | [], cs, o, i, _ => rfl
  | v :: r, cs, o, i, h => by
    simp only [List.length_cons] at h
    unfold writeAt; rw [writeAt_hi r _ _ _ (by omega), Array.getElem?_setIfInBounds_ne (by omega)]
theorem writeAt_in : ∀ (vs : List Value) (cs : Array Value) (o j : Nat), o + vs.length ≤ cs.size → j < vs.length → (writeAt cs o vs)[o + j]? = vs[j]?
  | [], cs, o, j, _, h => by simp at h
  | v :: r, cs, o, 0, h, _ => by
    simp only [List.length_cons] at h
    unfold writeAt; rw [writeAt_lo r _ _ _ (by omega), Nat.add_zero, Array.getElem?_setIfInBounds_self_of_lt (by omega)]
    rfl
  | v :: r, cs, o, j + 1, h, hj => by
    simp only [List.length_cons] at h hj
    unfold writeAt
    rw [show o + (j + 1) = o + 1 + j from by omega, writeAt_in r _ _ _ (by simp; omega) (by omega)]
    simp
def vals (p : Pk) : List Value := [.int .i64 p.w, .int .i64 p.h, .int .i64 p.s, .bool p.fx, .bool p.fy, .bool p.ex, .int .i64 p.an, .int .i64 p.px, .int .i64 p.py]
/-- the items lie in the cells from o on -/
def In9 (cs : Array Value) (o : Nat) (p : Pk) : Prop := ∀ j, j < 9 → cs[o + j]? = (vals p)[j]?
theorem In9.cells {w : World} {b : Nat} {cs : Array Value} {T : TypeId} {fz : Nat × Nat} {o : Nat} {p : Pk} (hh : w.heap[b]? = some (.cells cs T fz)) (h : In9 cs o p) : Cells9 w b o p := by
  have e : ∀ j, j < 9 → w.cell? ⟨b, o + j, none⟩ = (vals p)[j]? := fun j hj => (cellH hh _).trans (h j hj)
  exact ⟨e 0 (by omega), e 1 (by omega), e 2 (by omega), e 3 (by omega), e 4 (by omega), e 5 (by omega), e 6 (by omega), e 7 (by omega), e 8 (by omega)⟩
theorem In9.write {cs : Array Value} {o : Nat} (p : Pk) (h : o + 9 ≤ cs.size) : In9 (writeAt cs o (vals p)) o p := fun j hj => writeAt_in _ _ _ _ h hj
theorem In9.keep {cs : Array Value} {o o' : Nat} {p q : Pk} (h : In9 cs o' q) (hd : o' + 9 ≤ o ∨ o + 9 ≤ o') : In9 (writeAt cs o (vals p)) o' q := fun j hj => by
  rcases hd with hd | hd
  · rw [writeAt_lo _ _ _ _ (by omega)]; exact h j hj
  · rw [writeAt_hi _ _ _ _ (by simp [vals]; omega)]; exact h j hj
theorem pput1 {w : World} {b i : Nat} {cs : Array Value} {T : TypeId} {fz : Nat × Nat} (h : w.heap[b]? = some (.cells cs T fz)) (u : Value) : (w.setCell ⟨b, i, none⟩ u).heap[b]? = some (.cells (cs.setIfInBounds i u) T fz) := by
  simp [World.setCell, Array.getElem?_modify, h]
/-- nine stores into one block -/
theorem pput9 {w : World} {b : Nat} {cs : Array Value} {T : TypeId} {fz : Nat × Nat} (h : w.heap[b]? = some (.cells cs T fz)) (o : Nat) (p : Pk) :
    ((((((((((w.setCell ⟨b, o, none⟩ (.int .i64 p.w)).setCell ⟨b, o + 1, none⟩ (.int .i64 p.h)).setCell ⟨b, o + 2, none⟩ (.int .i64 p.s)).setCell ⟨b, o + 3, none⟩ (.bool p.fx)).setCell ⟨b, o + 4, none⟩ (.bool p.fy)).setCell ⟨b, o + 5, none⟩ (.bool p.ex)).setCell ⟨b, o + 6, none⟩ (.int .i64 p.an)).setCell ⟨b, o + 7, none⟩ (.int .i64 p.px)).setCell ⟨b, o + 8, none⟩ (.int .i64 p.py))).heap[b]? = some (.cells (writeAt cs o (vals p)) T fz) :=
  pput1 (pput1 (pput1 (pput1 (pput1 (pput1 (pput1 (pput1 (pput1 h _) _) _) _) _) _) _) _) _
theorem pput9b {B b : Nat} {a w : World} (h : Below B a w) (hb : B ≤ b) (o : Nat) (p : Pk) : Below B a ((((((((((w.setCell ⟨b, o, none⟩ (.int .i64 p.w)).setCell ⟨b, o + 1, none⟩ (.int .i64 p.h)).setCell ⟨b, o + 2, none⟩ (.int .i64 p.s)).setCell ⟨b, o + 3, none⟩ (.bool p.fx)).setCell ⟨b, o + 4, none⟩ (.bool p.fy)).setCell ⟨b, o + 5, none⟩ (.bool p.ex)).setCell ⟨b, o + 6, none⟩ (.int .i64 p.an)).setCell ⟨b, o + 7, none⟩ (.int .i64 p.px)).setCell ⟨b, o + 8, none⟩ (.int .i64 p.py))) :=
  ((((((((h.setCell hb _).setCell hb _).setCell hb _).setCell hb _).setCell hb _).setCell hb _).setCell hb _).setCell hb _).setCell hb _
/-- cells of a block that are there -/
theorem there {w : World} {b : Nat} {cs : Array Value} {T : TypeId} {fz : Nat × Nat} (h : w.heap[b]? = some (.cells cs T fz)) {i : Nat} (hi : i < cs.size) : ∃ v, w.cell? ⟨b, i, none⟩ = some v :=
  ⟨cs[i], (cellH h i).trans (by simp [hi])⟩
theorem frozenH {w : World} {b : Nat} {cs : Array Value} {T : TypeId} (h : w.heap[b]? = some (.cells cs T (0, 0))) (i : Nat) : w.frozen? ⟨b, i, none⟩ = false := by simp [World.frozen?, h]
theorem made9 : ∃ f : Nat → Array Value, (∀ n, (f n).size = n * 9) ∧ ∀ (n : Nat) (w : World), n ≤ 1048576 → (Instr.makeSlice 93 (.int .i64 (n : Int)) (.int .i64 (n : Int))).run Tryz.prog w = .ok (.slice (some ⟨w.heap.size, 0, none⟩) n n) (w.alloc (.cells (f n) 32)) := by
  have hinfo : (Tryz.prog.info? 32).map (fun i => (i.zero, i.size, i.bytes)) = some (some (.agg #[.int .i64 0, .int .i64 0, .int .i64 0, .bool false, .bool false, .bool false, .int .i64 0, .int .i64 0, .int .i64 0]), 9, 56) := by kernel_rfl
  obtain ⟨i, hi, h1, h2, h3⟩ := info_parts hinfo
  refine ⟨fun n => madeCells (Value.agg #[.int .i64 0, .int .i64 0, .int .i64 0, .bool false, .bool false, .bool false, .int .i64 0, .int .i64 0, .int .i64 0]).cells (n * 9), fun n => size_madeCells _ _, fun n w hn => ?_⟩
  have hr := run_make (P := Tryz.prog) w 93 32 i _ Tryz.underlying93 hi h1 .i64 .i64 n n (by omega) (Int.le_refl _) (by rw [h3]; omega) (by omega)
  rw [h2] at hr
  simpa using hr
end Go.Proofs.YtgdkionmeacalabGreat
end
section
namespace Go.Proofs.YtgdkionmeacalabGreat
open Go.RowKit
set_option linter.unusedVariables false
set_option maxHeartbeats 1000000
def Blk9 (w : World) (g : Nat) (L : List Pk) : Prop := ∃ cs : Array Value, w.heap[g]? = some (.cells cs 32 (0, 0)) ∧ cs.size = L.length * 9 ∧ ∀ i p, L[i]? = some p → In9 cs (i * 9) p
theorem Blk9.pv {w : World} {g : Nat} {L : List Pk} (h : Blk9 w g L) : PV w (some ⟨g, 0, none⟩) L := by
  obtain ⟨cs, hh, hs, hc⟩ := h
  refine ⟨fun _ => ⟨g, 0, rfl, (Array.getElem?_eq_some_iff.1 hh).1, fun i p hp => ?_⟩⟩
  have := (hc i p hp).cells hh
  simpa using this
theorem Blk9.keep {w w' : World} {g : Nat} {L : List Pk} (h : Blk9 w g L) (hb : Below w.heap.size w w') : Blk9 w' g L := by
  obtain ⟨cs, hh, hs, hc⟩ := h
  exact ⟨cs, (hb.block g (Array.getElem?_eq_some_iff.1 hh).1).trans hh, hs, hc⟩
theorem Blk9.lt {w : World} {g : Nat} {L : List Pk} (h : Blk9 w g L) : g < w.heap.size := by obtain ⟨cs, hh, _⟩ := h; exact (Array.getElem?_eq_some_iff.1 hh).1
end Go.Proofs.YtgdkionmeacalabGreat
end
section
namespace Go.Proofs.YtgdkionmeacalabGreat
open Go.RowKit
set_option linter.unusedVariables false
set_option maxHeartbeats 1000000
attribute [local go_sem] growUpon_value growUpon_skip growUpon_enter
end Go.Proofs.YtgdkionmeacalabGreat
end
section
set_option linter.unusedVariables false
namespace Go.Proofs.YtgdkionmeacalabGreat
/-- the share of the first item: what is left of the answer, the room, the count -/
def shareGo : List Pk → Bool → Int → Int → Int → Int
  | [], d, sh, rm, n => mn sh (mx rm 0 / n)
  | p :: r, d, sh, rm, n => if p.down = d then shareGo r d sh (rm - p.need d) (if p.ex then n + 1 else n) else shareGo r d (mn sh (mx (rm - p.need d) 0 / n)) rm n
theorem shareGo_same {p : Pk} {r : List Pk} {d : Bool} {sh rm n : Int} (h : p.down = d) (hx : p.ex = true) : shareGo (p :: r) d sh rm n = shareGo r d sh (rm - p.need d) (n + 1) := by
  rw [shareGo, if_pos h, hx]; rfl
theorem shareGo_plain {p : Pk} {r : List Pk} {d : Bool} {sh rm n : Int} (h : p.down = d) (hx : p.ex = false) : shareGo (p :: r) d sh rm n = shareGo r d sh (rm - p.need d) n := by
  rw [shareGo, if_pos h, hx]; rfl
theorem shareGo_other {p : Pk} {r : List Pk} {d : Bool} {sh rm n : Int} (h : ¬ p.down = d) : shareGo (p :: r) d sh rm n = shareGo r d (mn sh (mx (rm - p.need d) 0 / n)) rm n := by
  rw [shareGo, if_neg h]
def halfI (r n : Int) : Int := if r < 0 then 0 else r / n
theorem halfI_eq {r n : Int} : halfI r n = mx r 0 / n := by
  unfold halfI mx
  by_cases h : r < 0
  · rw [if_pos h, if_pos (by omega), Int.zero_ediv]
  · rw [if_neg h, if_neg (by omega)]
theorem part_bd {r n : Int} (h1 : r ≤ 400) (h2 : 1 ≤ n) : 0 ≤ mx r 0 / n ∧ mx r 0 / n ≤ 400 := by
  have := mx_spec r 0
  have h3 : 0 ≤ mx r 0 := by omega
  refine ⟨Int.ediv_nonneg h3 (by omega), ?_⟩
  have := Int.ediv_le_self n h3
  omega
theorem drop_cons {L : List Pk} {k : Nat} {p : Pk} (h : L[k]? = some p) : L.drop k = p :: L.drop (k + 1) := by
  have hk := (List.getElem?_eq_some_iff.1 h).1
  have e := (List.getElem?_eq_some_iff.1 h).2
  rw [List.drop_eq_getElem_cons hk, e]
theorem shareGo_bd : ∀ {L : List Pk} {d : Bool} {sh rm n : Int}, (∀ p ∈ L, p.ok = true) → 0 ≤ sh → sh ≤ 400 → rm ≤ 400 → 1 ≤ n → 0 ≤ shareGo L d sh rm n ∧ shareGo L d sh rm n ≤ 400
  | [], d, sh, rm, n, _, h1, h2, h3, h4 => by
    have := part_bd h3 h4
    have := mn_spec sh (mx rm 0 / n)
    simp only [shareGo]; omega
  | p :: r, d, sh, rm, n, hL, h1, h2, h3, h4 => by
    have hp := hL p List.mem_cons_self
    have nb := Pk.need_bd hp d
    have hr : ∀ p ∈ r, p.ok = true := fun q hq => hL q (List.mem_cons_of_mem _ hq)
    unfold shareGo
    split
    · exact shareGo_bd hr h1 h2 (by omega) (by split <;> omega)
    · have := part_bd (r := rm - p.need d) (n := n) (by omega) h4
      have := mn_spec sh (mx (rm - p.need d) 0 / n)
      exact shareGo_bd hr (by omega) (by omega) h3 h4
end Go.Proofs.YtgdkionmeacalabGreat
end
section
namespace Go.Proofs.YtgdkionmeacalabGreat
open Go.RowKit
set_option linter.unusedVariables false
set_option maxHeartbeats 1000000
attribute [local go_sem 5000] run_mx run_mn
theorem belowN' {B : Nat} {a w : World} (h : Below B a w) (n : Nat) : Below B a (w.drewN n) := ⟨h.os, h.tape, h.output, h.size, h.block⟩
theorem pbd {p : Pk} (h : p.ok = true) : ((0 ≤ p.w ∧ p.w ≤ 30) ∧ (0 ≤ p.h ∧ p.h ≤ 30) ∧ (0 ≤ p.s ∧ p.s ≤ 3) ∧ (0 ≤ p.an ∧ p.an ≤ 8) ∧ (0 ≤ p.px ∧ p.px ≤ 10) ∧ (0 ≤ p.py ∧ p.py ≤ 10)) := vpB_iff.1 h
theorem isDown_x (p : Pk) (ex : Bool) (w : World) : Calls Tryz.prog 146 #[.agg #[.int .i64 p.w, .int .i64 p.h, .int .i64 p.s, .bool p.fx, .bool p.fy, .bool ex, .int .i64 p.an, .int .i64 p.px, .int .i64 p.py]] w fun e w' => e = .returned (.bool p.down) ∧ Below w.heap.size w w' := by
  by_cases h0 : p.s = 0
  · have e0 : (p.s == 0) = true := by simpa using h0
    go_enter Tryz.func146, Tryz.ntmps146
    go_wp2
    go_ret
    exact ⟨ret_bool (by simp [Pk.down, h0]), balloc (Below.refl _ _)⟩
  · have e0 : (p.s == 0) = false := by simpa using h0
    by_cases h1 : p.s = 1
    · have e1 : (p.s == 1) = true := by simpa using h1
      go_enter Tryz.func146, Tryz.ntmps146
      go_wp2
      go_ret
      exact ⟨ret_bool (by simp [Pk.down, h1]), balloc (Below.refl _ _)⟩
    · have e1 : (p.s == 1) = false := by simpa using h1
      go_enter Tryz.func146, Tryz.ntmps146
      go_wp2
      go_ret
      exact ⟨ret_bool (by simp [Pk.down, h0, h1]), balloc (Below.refl _ _)⟩
theorem isDown_v (p : Pk) (w : World) : Calls Tryz.prog 146 #[.agg #[.int .i64 p.w, .int .i64 p.h, .int .i64 p.s, .bool p.fx, .bool p.fy, .bool p.ex, .int .i64 p.an, .int .i64 p.px, .int .i64 p.py]] w fun e w' => e = .returned (.bool p.down) ∧ Below w.heap.size w w' := isDown_x p p.ex w
theorem upright_v (s : Int) (w : World) : Calls Tryz.prog 76 #[.int .i64 s] w fun e w' => e = .returned (.bool (decide (s = 0 ∨ s = 1))) ∧ w = w' := by
  by_cases h0 : s = 0
  · have e0 : (s == 0) = true := by simpa using h0
    go_enter Tryz.func76, Tryz.ntmps76
    go_wp2
    go_ret
    exact ⟨ret_bool (by simp [h0]), rfl⟩
  · have e0 : (s == 0) = false := by simpa using h0
    by_cases h1 : s = 1
    · have e1 : (s == 1) = true := by simpa using h1
      go_enter Tryz.func76, Tryz.ntmps76
      go_wp2
      go_ret
      exact ⟨ret_bool (by simp [h1]), rfl⟩
    · have e1 : (s == 1) = false := by simpa using h1
      go_enter Tryz.func76, Tryz.ntmps76
      go_wp2
      go_ret
      exact ⟨ret_bool (by simp [h0, h1]), rfl⟩
theorem need_w (p : Pk) (d : Bool) (w : World) (h : p.big) : Calls Tryz.prog 189 #[.agg #[.int .i64 p.w, .int .i64 p.h, .int .i64 p.s, .bool p.fx, .bool p.fy, .bool p.ex, .int .i64 p.an, .int .i64 p.px, .int .i64 p.py], .bool d] w fun e w' => e = .returned (.int .i64 (p.need d)) ∧ Below w.heap.size w w' := by
  obtain ⟨⟨a1, a2⟩, ⟨a3, a4⟩, _, _, ⟨a5, a6⟩, ⟨a7, a8⟩⟩ := h
  cases d
  all_goals
    go_enter Tryz.func189, Tryz.ntmps189
    go_wp2
    go_ret
    exact ⟨ret_int rfl, balloc (Below.refl _ _)⟩
theorem need_v (p : Pk) (d : Bool) (w : World) (h : p.ok = true) : Calls Tryz.prog 189 #[.agg #[.int .i64 p.w, .int .i64 p.h, .int .i64 p.s, .bool p.fx, .bool p.fy, .bool p.ex, .int .i64 p.an, .int .i64 p.px, .int .i64 p.py], .bool d] w fun e w' => e = .returned (.int .i64 (p.need d)) ∧ Below w.heap.size w w' := need_w p d w (Pk.ok_big h)
theorem outer_w (p : Pk) (w : World) (h : p.big) : Calls Tryz.prog 75 #[.agg #[.int .i64 p.w, .int .i64 p.h, .int .i64 p.s, .bool p.fx, .bool p.fy, .bool p.ex, .int .i64 p.an, .int .i64 p.px, .int .i64 p.py]] w fun e w' => e = .returned (.tuple #[.int .i64 (p.need false), .int .i64 (p.need true)]) ∧ Below w.heap.size w w' := by
  obtain ⟨⟨a1, a2⟩, ⟨a3, a4⟩, _, _, ⟨a5, a6⟩, ⟨a7, a8⟩⟩ := h
  have e1 : IntKind.i64.wrap (2 * p.px) = 2 * p.px := IntWalk.i64_in _ (by omega)
  have e2 : IntKind.i64.wrap (2 * p.py) = 2 * p.py := IntWalk.i64_in _ (by omega)
  have e3 : IntKind.i64.wrap (p.w + 2 * p.px) = p.w + 2 * p.px := IntWalk.i64_in _ (by omega)
  have e4 : IntKind.i64.wrap (p.h + 2 * p.py) = p.h + 2 * p.py := IntWalk.i64_in _ (by omega)
  go_enter Tryz.func75, Tryz.ntmps75
  go_wp2_with fail
  go_quiet (fail)
  clear e1 e2 e3 e4
  go_wp2
  go_ret2
  exact ⟨rfl, belowN' (balloc (Below.refl _ _)) _⟩
theorem outer_v (p : Pk) (w : World) (h : p.ok = true) : Calls Tryz.prog 75 #[.agg #[.int .i64 p.w, .int .i64 p.h, .int .i64 p.s, .bool p.fx, .bool p.fy, .bool p.ex, .int .i64 p.an, .int .i64 p.px, .int .i64 p.py]] w fun e w' => e = .returned (.tuple #[.int .i64 (p.need false), .int .i64 (p.need true)]) ∧ Below w.heap.size w w' := outer_w p w (Pk.ok_big h)
theorem half_v (r n : Int) (w : World) (h1 : -1000 ≤ r) (h2 : r ≤ 1000) (h3 : 1 ≤ n) (h4 : n ≤ 1000) : Calls Tryz.prog 130 #[.int .i64 r, .int .i64 n] w fun e w' => e = .returned (.int .i64 (mx r 0 / n)) ∧ w = w' := by
  rw [← halfI_eq]
  by_cases h : r < 0
  · go_enter Tryz.func130, Tryz.ntmps130
    go_wp2
    go_ret
    exact ⟨ret_int (by unfold halfI; rw [if_pos h]), rfl⟩
  · have hd : decide (r < 0) = false := by simpa using h
    have h0 : 0 ≤ r := by omega
    have hn : ¬ n = 0 := by omega
    go_enter Tryz.func130, Tryz.ntmps130
    go_wp2
    go_ret
    exact ⟨ret_int (by unfold halfI; rw [if_neg (by omega)]), rfl⟩
end Go.Proofs.YtgdkionmeacalabGreat
end
section
set_option linter.unusedVariables false
namespace Go.Proofs.YtgdkionmeacalabGreat
structure Rc where
  x : Int
  y : Int
  u : Int
  v : Int
def Rc.ok (r : Rc) : Bool := vr r.x r.y r.u r.v
/-- the piece at a side, and the rest -/
def cutP (r : Rc) (s n : Int) : Rc × Rc :=
  if s = 0 then (⟨r.x, r.y, r.u, mn n r.v⟩, ⟨r.x, r.y + mn n r.v, r.u, r.v - mn n r.v⟩)
  else if s = 1 then (⟨r.x, r.y + (r.v - mn n r.v), r.u, mn n r.v⟩, ⟨r.x, r.y, r.u, r.v - mn n r.v⟩)
  else if s = 2 then (⟨r.x, r.y, mn n r.u, r.v⟩, ⟨r.x + mn n r.u, r.y, r.u - mn n r.u, r.v⟩)
  else (⟨r.x + (r.u - mn n r.u), r.y, mn n r.u, r.v⟩, ⟨r.x, r.y, r.u - mn n r.u, r.v⟩)
theorem cutP_ok {r : Rc} {s n : Int} (h : r.ok = true) (hn : 0 ≤ n) : (cutP r s n).1.ok = true ∧ (cutP r s n).2.ok = true := by
  obtain ⟨a1, a2, a3, a4, a5, a6, a7, a8⟩ := vr_iff.1 h
  have m1 := mn_spec n r.u
  have m2 := mn_spec n r.v
  unfold cutP
  split
  · exact ⟨vr_iff.2 (by dsimp only; omega), vr_iff.2 (by dsimp only; omega)⟩
  · split
    · exact ⟨vr_iff.2 (by dsimp only; omega), vr_iff.2 (by dsimp only; omega)⟩
    · split
      · exact ⟨vr_iff.2 (by dsimp only; omega), vr_iff.2 (by dsimp only; omega)⟩
      · exact ⟨vr_iff.2 (by dsimp only; omega), vr_iff.2 (by dsimp only; omega)⟩
def Rc.size (r : Rc) (d : Bool) : Int := if d then r.v else r.u
theorem Rc.size_bd {r : Rc} (h : r.ok = true) (d : Bool) : 0 ≤ r.size d ∧ r.size d ≤ 400 := by
  obtain ⟨a1, a2, a3, a4, a5, a6, a7, a8⟩ := vr_iff.1 h
  unfold Rc.size; split <;> omega
/-- how much the first item has more -/
def moreOf : List Pk → Rc → Int
  | [], _ => 0
  | p :: r, z => if p.ex then shareGo (p :: r) p.down (z.size p.down) (z.size p.down) 0 else 0
def takeOf (p : Pk) (r : List Pk) (z : Rc) : Int := p.need p.down + moreOf (p :: r) z
def parcM : List Pk → Rc → List Rc × Rc
  | [], z => ([], z)
  | p :: r, z => ((cutP z p.s (takeOf p r z)).1 :: (parcM r (cutP z p.s (takeOf p r z)).2).1, (parcM r (cutP z p.s (takeOf p r z)).2).2)
theorem parcM_len : ∀ {L : List Pk} {z : Rc}, (parcM L z).1.length = L.length
  | [], z => rfl
  | p :: r, z => by simp [parcM, parcM_len (L := r)]
theorem moreOf_bd {p : Pk} {r : List Pk} {z : Rc} (hL : ∀ q ∈ p :: r, q.ok = true) (hz : z.ok = true) : 0 ≤ moreOf (p :: r) z ∧ moreOf (p :: r) z ≤ 400 := by
  obtain ⟨b1, b2⟩ := Rc.size_bd hz p.down
  simp only [moreOf]
  cases hx : p.ex
  · simp
  · have nb := Pk.need_bd (hL p List.mem_cons_self) p.down
    simp only [if_true]
    rw [shareGo_same rfl hx]
    exact shareGo_bd (fun q hq => hL q (List.mem_cons_of_mem _ hq)) b1 b2 (by omega) (by omega)
theorem takeOf_bd {p : Pk} {r : List Pk} {z : Rc} (hL : ∀ q ∈ p :: r, q.ok = true) (hz : z.ok = true) : 0 ≤ takeOf p r z ∧ takeOf p r z ≤ 450 := by
  have := moreOf_bd hL hz
  have := Pk.need_bd (hL p List.mem_cons_self) p.down
  unfold takeOf; omega
end Go.Proofs.YtgdkionmeacalabGreat
end
section
set_option linter.unusedVariables false
namespace Go.Proofs.YtgdkionmeacalabGreat
/-- what items need together: across, down -/
def reqM : List Pk → Int × Int
  | [] => (0, 0)
  | p :: t => if p.down then (mx (reqM t).1 (p.need false), (reqM t).2 + p.need true) else ((reqM t).1 + p.need false, mx (reqM t).2 (p.need true))
def reqD (L : List Pk) (d : Bool) : Int := if d then (reqM L).2 else (reqM L).1
theorem reqD_nil (d : Bool) : reqD [] d = 0 := by cases d <;> rfl
theorem reqD_same {p : Pk} {t : List Pk} {d : Bool} (h : p.down = d) : reqD (p :: t) d = reqD t d + p.need d := by
  cases d <;> simp [reqD, reqM, h]
theorem reqD_other {p : Pk} {t : List Pk} {d : Bool} (h : ¬ p.down = d) : reqD (p :: t) d = mx (reqD t d) (p.need d) := by
  cases d
  · have h' : p.down = true := by simpa using h
    simp [reqD, reqM, h']
  · have h' : p.down = false := by simpa using h
    simp [reqD, reqM, h']
theorem reqM_bd : ∀ {L : List Pk}, (∀ p ∈ L, p.ok = true) → 0 ≤ (reqM L).1 ∧ (reqM L).1 ≤ 50 * L.length ∧ 0 ≤ (reqM L).2 ∧ (reqM L).2 ≤ 50 * L.length
  | [], _ => by simp [reqM]
  | p :: t, h => by
    obtain ⟨a1, a2, a3, a4⟩ := reqM_bd (L := t) (fun q hq => h q (List.mem_cons_of_mem _ hq))
    have n1 := Pk.need_bd (h p List.mem_cons_self) false
    have n2 := Pk.need_bd (h p List.mem_cons_self) true
    have m1 := mx_spec (reqM t).1 (p.need false)
    have m2 := mx_spec (reqM t).2 (p.need true)
    simp only [reqM, List.length_cons]
    split <;> (dsimp only; omega)
theorem reqM_bdW : ∀ {L : List Pk}, (∀ p ∈ L, p.big) → 0 ≤ (reqM L).1 ∧ (reqM L).1 ≤ 1000000000020 * L.length ∧ 0 ≤ (reqM L).2 ∧ (reqM L).2 ≤ 1000000000020 * L.length
  | [], _ => by simp [reqM]
  | p :: t, h => by
    obtain ⟨a1, a2, a3, a4⟩ := reqM_bdW (L := t) (fun q hq => h q (List.mem_cons_of_mem _ hq))
    have n1 := Pk.need_bdW (h p List.mem_cons_self) false
    have n2 := Pk.need_bdW (h p List.mem_cons_self) true
    have m1 := mx_spec (reqM t).1 (p.need false)
    have m2 := mx_spec (reqM t).2 (p.need true)
    simp only [reqM, List.length_cons]
    split <;> (dsimp only; omega)
theorem reqD_bd {L : List Pk} (h : ∀ p ∈ L, p.ok = true) (d : Bool) : 0 ≤ reqD L d ∧ reqD L d ≤ 50 * L.length := by
  obtain ⟨a1, a2, a3, a4⟩ := reqM_bd h
  unfold reqD; split <;> omega
theorem reqM_tail {p : Pk} {t : List Pk} (h : ∀ q ∈ p :: t, q.ok = true) : (reqM t).1 ≤ (reqM (p :: t)).1 ∧ (reqM t).2 ≤ (reqM (p :: t)).2 := by
  have n1 := Pk.need_bd (h p List.mem_cons_self) false
  have n2 := Pk.need_bd (h p List.mem_cons_self) true
  have m1 := mx_spec (reqM t).1 (p.need false)
  have m2 := mx_spec (reqM t).2 (p.need true)
  simp only [reqM]
  split <;> (dsimp only; omega)
/-- the item at the other end -/
def Pk.flip (p : Pk) : Pk := { p with s := if p.s = 0 then 1 else if p.s = 1 then 0 else if p.s = 2 then 3 else 2 }
theorem Pk.flip_ok {p : Pk} (h : p.ok = true) : p.flip.ok = true := by
  have := vpB_iff.1 h
  refine vpB_iff.2 ?_
  unfold Pk.flip
  dsimp only
  refine ⟨this.1, this.2.1, ?_, this.2.2.2⟩
  split
  · omega
  · split
    · omega
    · split <;> omega
theorem Pk.flip_down {p : Pk} (h : p.ok = true) : p.flip.down = p.down := by
  have := vpB_iff.1 h
  unfold Pk.down Pk.flip
  dsimp only
  by_cases h0 : p.s = 0
  · simp [h0]
  · by_cases h1 : p.s = 1
    · simp [h1]
    · by_cases h2 : p.s = 2
      · simp [h2]
      · simp [h0, h1, h2]
theorem Pk.flip_need (p : Pk) (d : Bool) : p.flip.need d = p.need d := by cases d <;> rfl
theorem reqM_flip : ∀ {L : List Pk}, (∀ p ∈ L, p.ok = true) → reqM (L.map Pk.flip) = reqM L
  | [], _ => rfl
  | p :: t, h => by
    have ih := reqM_flip (L := t) (fun q hq => h q (List.mem_cons_of_mem _ hq))
    simp only [List.map_cons, reqM, ih, Pk.flip_need, Pk.flip_down (h p List.mem_cons_self)]
/-- a share is no more than what it begins with -/
theorem shareGo_le : ∀ {L : List Pk} {d : Bool} {sh rm n : Int}, shareGo L d sh rm n ≤ sh
  | [], d, sh, rm, n => (mn_spec _ _).1
  | p :: r, d, sh, rm, n => by
    unfold shareGo
    split
    · exact shareGo_le
    · exact Int.le_trans shareGo_le (mn_spec _ _).1
theorem part_le {x n : Int} (hn : 1 ≤ n) : mx x 0 / n ≤ mx x 0 := Int.ediv_le_self n (by have := mx_spec x 0; omega)
theorem shareGo_room : ∀ {L : List Pk} {d : Bool} {sh rm n : Int}, (∀ p ∈ L, p.ok = true) → 1 ≤ n → shareGo L d sh rm n ≤ mx (rm - reqD L d) 0
  | [], d, sh, rm, n, _, hn => by
    rw [reqD_nil]
    have := mn_spec sh (mx rm 0 / n)
    have := part_le (x := rm) hn
    simp only [shareGo, Int.sub_zero]; omega
  | p :: r, d, sh, rm, n, hL, hn => by
    have hr : ∀ p ∈ r, p.ok = true := fun q hq => hL q (List.mem_cons_of_mem _ hq)
    by_cases h : p.down = d
    · rw [reqD_same h, shareGo, if_pos h]
      have := shareGo_room (L := r) (d := d) (sh := sh) (rm := rm - p.need d) (n := if p.ex then n + 1 else n) hr (by split <;> omega)
      rwa [show rm - p.need d - reqD r d = rm - (reqD r d + p.need d) by omega] at this
    · rw [reqD_other h, shareGo, if_neg h]
      have h1 := shareGo_room (L := r) (d := d) (sh := mn sh (mx (rm - p.need d) 0 / n)) (rm := rm) (n := n) hr hn
      have h2 := shareGo_le (L := r) (d := d) (sh := mn sh (mx (rm - p.need d) 0 / n)) (rm := rm) (n := n)
      have := mn_spec sh (mx (rm - p.need d) 0 / n)
      have := part_le (x := rm - p.need d) hn
      have := mx_spec (reqD r d) (p.need d)
      have := mx_spec (rm - p.need d) 0
      have := mx_spec (rm - reqD r d) 0
      have := mx_spec (rm - mx (reqD r d) (p.need d)) 0
      omega
/-- the share of the first item, which expands in this direction -/
theorem share_room {p : Pk} {t : List Pk} {rm : Int} (hL : ∀ q ∈ p :: t, q.ok = true) (hx : p.ex = true) (h0 : 0 ≤ rm) :
    shareGo (p :: t) p.down rm rm 0 ≤ rm ∧ shareGo (p :: t) p.down rm rm 0 ≤ mx (rm - reqD (p :: t) p.down) 0 := by
  refine ⟨shareGo_le, ?_⟩
  rw [shareGo_same rfl hx, reqD_same rfl]
  have := shareGo_room (L := t) (d := p.down) (sh := rm) (rm := rm - p.need p.down) (n := 0 + 1) (fun q hq => hL q (List.mem_cons_of_mem _ hq)) (by omega)
  rwa [show rm - p.need p.down - reqD t p.down = rm - (reqD t p.down + p.need p.down) by omega] at this
/-- the parcels ahead of the last one do not know of it, if none expands -/
theorem parcM_noex : ∀ {L : List Pk} {z : Rc}, (∀ p ∈ L, p.ex = false) → ∀ n, (parcM (L.take n) z).1 = (parcM L z).1.take n
  | [], z, _, n => by cases n <;> simp [parcM]
  | p :: r, z, h, 0 => by simp [parcM]
  | p :: r, z, h, n + 1 => by
    have hp := h p List.mem_cons_self
    have e : ∀ q, takeOf p q z = p.need p.down + 0 := fun q => by simp [takeOf, moreOf, hp]
    simp only [List.take_succ_cons, parcM, e]
    rw [parcM_noex (fun q hq => h q (List.mem_cons_of_mem _ hq)) n]
/-- a rectangle in another one -/
def Rc.inn (a b : Rc) : Prop := a.x ≤ b.x ∧ a.y ≤ b.y ∧ b.x + b.u ≤ a.x + a.u ∧ b.y + b.v ≤ a.y + a.v
theorem Rc.inn_refl (a : Rc) : a.inn a := by unfold Rc.inn; omega
theorem Rc.inn_trans {a b c : Rc} (h1 : a.inn b) (h2 : b.inn c) : a.inn c := by unfold Rc.inn at *; omega
theorem cutP_inn {r : Rc} {s n : Int} (hr : r.ok = true) (hn : 0 ≤ n) : r.inn (cutP r s n).1 ∧ r.inn (cutP r s n).2 := by
  obtain ⟨a1, a2, a3, a4, a5, a6, a7, a8⟩ := vr_iff.1 hr
  have m1 := mn_spec n r.u
  have m2 := mn_spec n r.v
  unfold cutP Rc.inn
  split
  · dsimp only; omega
  · split
    · dsimp only; omega
    · split
      · dsimp only; omega
      · dsimp only; omega
/-- they have a common point -/
def Rc.met (a b : Rc) : Prop := 0 < mn (a.x + a.u) (b.x + b.u) - mx a.x b.x ∧ 0 < mn (a.y + a.v) (b.y + b.v) - mx a.y b.y
theorem met_inn {a b c d : Rc} (h1 : a.inn c) (h2 : b.inn d) (h : ¬ a.met b) : ¬ c.met d := by
  unfold Rc.met Rc.inn at *
  have := mn_spec (a.x + a.u) (b.x + b.u); have := mx_spec a.x b.x; have := mn_spec (a.y + a.v) (b.y + b.v); have := mx_spec a.y b.y
  have := mn_spec (c.x + c.u) (d.x + d.u); have := mx_spec c.x d.x; have := mn_spec (c.y + c.v) (d.y + d.v); have := mx_spec c.y d.y
  omega
theorem cutP_apart {r : Rc} {s n : Int} (hr : r.ok = true) (hn : 0 ≤ n) : ¬ (cutP r s n).1.met (cutP r s n).2 := by
  obtain ⟨a1, a2, a3, a4, a5, a6, a7, a8⟩ := vr_iff.1 hr
  have m1 := mn_spec n r.u
  have m2 := mn_spec n r.v
  generalize hp : cutP r s n = pr
  have q1 := mn_spec (pr.1.x + pr.1.u) (pr.2.x + pr.2.u); have q2 := mx_spec pr.1.x pr.2.x
  have q3 := mn_spec (pr.1.y + pr.1.v) (pr.2.y + pr.2.v); have q4 := mx_spec pr.1.y pr.2.y
  unfold Rc.met
  unfold cutP at hp
  split at hp
  · subst hp; dsimp only at *; omega
  · split at hp
    · subst hp; dsimp only at *; omega
    · split at hp
      · subst hp; dsimp only at *; omega
      · subst hp; dsimp only at *; omega
def Rc.area (r : Rc) : Int := r.u * r.v
theorem cutP_area (r : Rc) (s n : Int) : (cutP r s n).1.area + (cutP r s n).2.area = r.area := by
  unfold cutP Rc.area
  split
  · dsimp only; rw [← Int.mul_add]; congr 1; omega
  · split
    · dsimp only; rw [← Int.mul_add]; congr 1; omega
    · split
      · dsimp only; rw [← Int.add_mul]; congr 1; omega
      · dsimp only; rw [← Int.add_mul]; congr 1; omega
def areas : List Rc → Int
  | [] => 0
  | r :: t => r.area + areas t
/-- all parcels and what is left: in the rectangle, apart, and all of it -/
theorem parcM_all : ∀ {L : List Pk} {z : Rc}, (∀ p ∈ L, p.ok = true) → z.ok = true →
    (∀ r ∈ (parcM L z).1 ++ [(parcM L z).2], z.inn r) ∧ ((parcM L z).1 ++ [(parcM L z).2]).Pairwise (fun a b => ¬ a.met b) ∧ areas ((parcM L z).1 ++ [(parcM L z).2]) = z.area ∧ (∀ r ∈ (parcM L z).1 ++ [(parcM L z).2], r.ok = true)
  | [], z, _, hz => by
    refine ⟨?_, ?_, ?_, ?_⟩
    · intro r hr; simp [parcM] at hr; subst hr; exact Rc.inn_refl _
    · simp [parcM]
    · simp [parcM, areas]
    · intro r hr; simp [parcM] at hr; subst hr; exact hz
  | p :: t, z, hL, hz => by
    obtain ⟨b1, b2⟩ := takeOf_bd hL hz
    obtain ⟨o1, o2⟩ := cutP_ok (s := p.s) hz b1
    obtain ⟨i1, i2⟩ := cutP_inn (s := p.s) hz b1
    have ha := cutP_apart (s := p.s) hz b1
    have har := cutP_area z p.s (takeOf p t z)
    obtain ⟨h1, h2, h3, h4⟩ := parcM_all (L := t) (z := (cutP z p.s (takeOf p t z)).2) (fun q hq => hL q (List.mem_cons_of_mem _ hq)) o2
    simp only [parcM, List.cons_append]
    refine ⟨?_, ?_, ?_, ?_⟩
    · intro r hr
      rcases List.mem_cons.1 hr with rfl | hr
      · exact i1
      · exact Rc.inn_trans i2 (h1 r hr)
    · refine List.pairwise_cons.2 ⟨fun r hr => ?_, h2⟩
      exact met_inn (Rc.inn_refl _) (h1 r hr) ha
    · simp only [areas, h3]; exact har
    · intro r hr
      rcases List.mem_cons.1 hr with rfl | hr
      · exact o1
      · exact h4 r hr
/-- what is left has no points if the last item expands -/
theorem parcM_last : ∀ {L : List Pk} {z : Rc} (p : Pk), (∀ q ∈ L ++ [p], q.ok = true) → z.ok = true → p.ex = true → (parcM (L ++ [p]) z).2.area = 0
  | [], z, p, hL, hz, hx => by
    have hp : p.ok = true := hL p (by simp)
    obtain ⟨a1, a2, a3, a4, a5, a6, a7, a8⟩ := vr_iff.1 hz
    have hs := (vpB_iff.1 hp).2.2.1
    have nb := Pk.need_bd hp p.down
    have e : takeOf p [] z = p.need p.down + mn (z.size p.down) (mx (z.size p.down - p.need p.down) 0 / 1) := by
      simp [takeOf, moreOf, hx, shareGo]
    rw [Int.ediv_one] at e
    have m1 := mn_spec (z.size p.down) (mx (z.size p.down - p.need p.down) 0)
    have m2 := mx_spec (z.size p.down - p.need p.down) 0
    have hsz := Rc.size_bd hz p.down
    simp only [List.nil_append, parcM]
    have ht : z.size p.down ≤ takeOf p [] z := by rw [e]; omega
    generalize takeOf p [] z = n at *
    have m3 := mn_spec n z.u
    have m4 := mn_spec n z.v
    unfold cutP Rc.area
    by_cases h0 : p.s = 0
    · have hd : p.down = true := by simp [Pk.down, h0]
      rw [hd] at ht; simp [Rc.size] at ht
      rw [if_pos h0]; dsimp only
      rw [show z.v - mn n z.v = 0 by omega, Int.mul_zero]
    · rw [if_neg h0]
      by_cases h1 : p.s = 1
      · have hd : p.down = true := by simp [Pk.down, h1]
        rw [hd] at ht; simp [Rc.size] at ht
        rw [if_pos h1]; dsimp only
        rw [show z.v - mn n z.v = 0 by omega, Int.mul_zero]
      · have hd : p.down = false := by simp [Pk.down, h0, h1]
        rw [hd] at ht; simp [Rc.size] at ht
        rw [if_neg h1]
        split
        · dsimp only; rw [show z.u - mn n z.u = 0 by omega, Int.zero_mul]
        · dsimp only; rw [show z.u - mn n z.u = 0 by omega, Int.zero_mul]
  | q :: t, z, p, hL, hz, hx => by
    have hL' : ∀ r ∈ q :: (t ++ [p]), r.ok = true := hL
    obtain ⟨b1, b2⟩ := takeOf_bd hL' hz
    obtain ⟨o1, o2⟩ := cutP_ok (s := q.s) hz b1
    show (parcM (q :: (t ++ [p])) z).2.area = 0
    simp only [parcM]
    exact parcM_last (L := t) p (fun r hr => hL' r (List.mem_cons_of_mem _ hr)) o2 hx
end Go.Proofs.YtgdkionmeacalabGreat
end
section
namespace Go.Proofs.YtgdkionmeacalabGreat
open Go.RowKit
set_option linter.unusedVariables false
set_option maxHeartbeats 4000000
attribute [local go_sem 5000] run_mx run_mn
attribute [local go_sem] Oper.semAt_some
/-- what comes: an index, and a valid item -/
structure BkE where
  i : Int
  p : Pk
  ok : p.big
def encB (x : BkE) : Array Value := #[.int .i64 x.i, .agg #[.int .i64 x.p.w, .int .i64 x.p.h, .int .i64 x.p.s, .bool x.p.fx, .bool x.p.fy, .bool x.p.ex, .int .i64 x.p.an, .int .i64 x.p.px, .int .i64 x.p.py]]
/-- what a round must keep -/
def KpB (n0 Bs : Nat) (W W' : World) : Prop := Below n0 W W' ∧ W'.heap[Bs]? = W.heap[Bs]?
theorem KpB.cell {n0 Bs : Nat} {W W' : World} (h : KpB n0 Bs W W') (o : Nat) : W'.cell? ⟨Bs, o, none⟩ = W.cell? ⟨Bs, o, none⟩ := World.cell?_of_block h.2
theorem KpB.refl (n0 Bs : Nat) (W : World) : KpB n0 Bs W W := ⟨Below.refl _ _, rfl⟩
theorem KpB.trans {n0 Bs : Nat} {A B C : World} (h : KpB n0 Bs A B) (k : KpB n0 Bs B C) : KpB n0 Bs A C := ⟨h.1.trans k.1, k.2.trans h.2⟩
/-- the slice reads as the list, in a block below n0 -/
def PVn (n0 : Nat) (W : World) (A : Option Addr) (L : List Pk) : Prop := 0 < L.length → ∃ b off, A = some ⟨b, off, none⟩ ∧ b < n0 ∧ PS W b off L
theorem PVn.below {n0 : Nat} {W W' : World} {A : Option Addr} {L : List Pk} (h : PVn n0 W A L) (hb : Below n0 W W') : PVn n0 W' A L := fun h0 =>
  let ⟨b, off, e, hl, hp⟩ := h h0; ⟨b, off, e, hl, fun i p hi => (hp i p hi).keep (hb.block b hl)⟩
set_option maxRecDepth 100000 in
theorem bk1_in (F : Fence) (n : Nat) (hF : F.fn 194) (hro : F.round = none) (hn : 1 ≤ n) (l Bs n0 : Nat) (A : Option Addr) (c : Nat) (L : List Pk) (hL : L.length ≤ 10) (hok : ∀ p ∈ L, p.big) (J Jx : List BkE → World → Prop)
    (hY : ∀ pre x W, J pre W → pre.length < L.length → YieldAt F (n - 1) Tryz.prog l (encB x) W fun e W' =>
      (e = .returned (.bool true) ∧ J (pre ++ [x]) W' ∧ KpB n0 Bs W W') ∨ (e = .returned (.bool false) ∧ Jx (pre ++ [x]) W'))
    (W : World) (hBs : W.cell? ⟨Bs, 0, none⟩ = some (.slice A L.length c)) (hp : PVn n0 W A L) (h0 : J [] W) :
    CallsIn F n Tryz.prog 194 #[.func (.yield l) #[] #[], .pointer (some ⟨Bs, 0, none⟩)] W fun e W' => (∃ v, e = .returned v) ∧
      ((∃ ys, ys.map BkE.p = L.reverse ∧ J ys W') ∨ (∃ pre, True ∧ Jx pre W')) := by
  refine callsIn_of_wp Tryz.func194 rfl hF ?_ hro
  simp only [Tryz.ntmps194, List.size_toArray, List.length_cons, List.length_nil, Nat.reduceAdd, Nat.reduceSub, Array.replicate_succ, Array.replicate_zero, List.push_toArray, List.append_toArray, List.nil_append, List.cons_append]
  gi_wp2
  gi_loopw [3] (fun i wr => ∃ k : Nat, k ≤ L.length ∧ i = .int .i64 ((k : Int) - 1) ∧ (∃ ys, ys.map BkE.p = (L.drop k).reverse ∧ J ys wr) ∧ KpB n0 Bs W wr)
    (fun i _ => (intOf i + 1).toNat)
  case atStart => exact ⟨L.length, Nat.le_refl _, rfl, ⟨[], by simp, h0⟩, KpB.refl _ _ _⟩
  case round =>
    obtain ⟨k, hk, rfl, ⟨ys, hys, hJs⟩, hK⟩ := hrel
    rcases k with _ | j
    · have hd : decide (((0 : Nat) : Int) - 1 ≥ 0) = false := by simp
      rw [List.drop_zero] at hys
      have HYS := Lib.hid hys
      clear hys
      gi_wp2
      go_end0
      exact ⟨⟨_, rfl⟩, .inl ⟨ys, HYS.out, hJs⟩⟩
    · have e1 : ((j + 1 : Nat) : Int) - 1 = (j : Int) := by omega
      rw [e1]
      have hlt : j < L.length := by omega
      have hd : decide ((j : Int) ≥ 0) = true := by simp
      have hd2 : decide ((0 : Int) ≤ (j : Int)) = true := by simp
      obtain ⟨b, off, rfl, hb, hps⟩ := hp.below hK.1 (by omega)
      have hget : L[j]? = some L[j] := List.getElem?_eq_getElem hlt
      obtain ⟨c0, c1, c2, c3, c4, c5, c6, c7, c8⟩ := hps j _ hget
      have hpok : L[j].big := hok _ (List.getElem_mem hlt)
      have hdrop := drop_cons hget
      generalize hx : L[j] = p at *
      have hl : ys.length < L.length := by
        have := congrArg List.length hys
        simp at this; omega
      have hcs := (hK.cell 0).trans hBs
      obtain ⟨fn, tmps, assign, body, hy, hR⟩ := hY ys ⟨j, p, hpok⟩ wr hJs hl
      dsimp only [encB] at hy
      have HYS := Lib.hid hys
      have HD := Lib.hid hdrop
      have HK := Lib.hid hK
      have HG := Lib.hid hget
      have HX := Lib.hid hx
      have HPS := Lib.hid hps
      clear hys hdrop hK hget hx hps e1
      have hjs : IntKind.i64.wrap ((j : Int) - 1) = (j : Int) - 1 := IntWalk.i64_in _ (by omega)
      gi_wp2
      refine hR.mono ?_
      rintro e W3 (⟨rfl, hJ3, hk3⟩ | ⟨rfl, hJx3⟩)
      · gi_wp2
        go_roundw
        case rel => exact ⟨j, by omega, by go_num, ⟨_, by rw [HD.out, List.reverse_cons, List.map_append, HYS.out]; rfl, hJ3⟩, HK.out.trans hk3⟩
        case measure => simp [intOf]
      · gi_wp2
        refine bodyPost_ret (results_none rfl _ _ _) rfl ?_
        exact ⟨⟨_, rfl⟩, .inr ⟨_, trivial, hJx3⟩⟩
end Go.Proofs.YtgdkionmeacalabGreat
end
section
namespace Go.Proofs.YtgdkionmeacalabGreat
open Go.RowKit
set_option linter.unusedVariables false
set_option maxHeartbeats 4000000
attribute [local go_sem 5000] run_mx run_mn
attribute [local go_sem] Oper.semAt_some
set_option maxRecDepth 100000 in
theorem backward_in (F : Fence) (n : Nat) (hF : F.fn 188) (hro : F.round = none) (a : Option Addr) (len cap : Nat) (w : World) :
    CallsIn F n Tryz.prog 188 #[.slice a len cap] w fun e w' => e = .returned (.func (.func 194) #[] #[.pointer (some ⟨w.heap.size, 0, none⟩)]) ∧ w' = w.alloc (.cells #[.slice a len cap] 93) := by
  refine callsIn_of_wp Tryz.func188 rfl hF ?_ hro
  simp only [Tryz.ntmps188, List.size_toArray, List.length_cons, List.length_nil, Nat.reduceAdd, Nat.reduceSub, Array.replicate_succ, Array.replicate_zero, List.push_toArray, List.append_toArray, List.nil_append, List.cons_append]
  gi_wp2
  go_ret
  exact ⟨rfl, rfl⟩
theorem bk_stops (F : Fence) (n : Nat) (hF : F.fn 194) (hro : F.round = none) (hn : 1 ≤ n) (Bs n0 : Nat) (A : Option Addr) (c : Nat) (L : List Pk) (hL : L.length ≤ 10) (hok : ∀ p ∈ L, p.big) (w : World) (hBs : Bs < w.heap.size) (hn0 : n0 ≤ w.heap.size)
    (hc : w.cell? ⟨Bs, 0, none⟩ = some (.slice A L.length c)) (hp : PVn n0 w A L) :
    SeqStopsK F n Tryz.prog 194 #[.pointer (some ⟨Bs, 0, none⟩)] encB (KpB n0 Bs) (fun ys => ys.map BkE.p = L.reverse) (fun _ => True) L.length w := fun l J Jx W hW _ _ hY h0 =>
  bk1_in F n hF hro hn l Bs n0 A c L hL hok J Jx hY W ((hW.cell (p := ⟨Bs, 0, none⟩) hBs).trans hc) (hp.below (hW.mono hn0)) h0
/-- what the items that have come need -/
def accB (d : Bool) : List BkE → Int
  | [] => 0
  | x :: t => if x.p.down = d then accB d t + x.p.need d else mx (accB d t) (x.p.need d)
theorem accB_bd (d : Bool) : ∀ ys : List BkE, 0 ≤ accB d ys ∧ accB d ys ≤ 1000000000020 * ys.length
  | [] => by simp [accB]
  | x :: t => by
    have := accB_bd d t
    have nb := Pk.need_bdW x.ok d
    have m := mx_spec (accB d t) (x.p.need d)
    simp only [accB, List.length_cons]
    split <;> omega
def acc (d : Bool) (ys : List BkE) : Int := accB d ys.reverse
theorem acc_bd (d : Bool) (ys : List BkE) : 0 ≤ acc d ys ∧ acc d ys ≤ 1000000000020 * ys.length := by have := accB_bd d ys.reverse; rwa [List.length_reverse] at this
theorem acc_same {d : Bool} {ys : List BkE} {x : BkE} (h : x.p.down = d) : acc d (ys ++ [x]) = acc d ys + x.p.need d := by
  simp [acc, accB, h]
theorem acc_other {d : Bool} {ys : List BkE} {x : BkE} (h : ¬ x.p.down = d) : acc d (ys ++ [x]) = mx (acc d ys) (x.p.need d) := by
  simp only [acc, List.reverse_append, List.reverse_cons, List.reverse_nil, List.nil_append, List.cons_append, accB, if_neg h]
theorem accB_req {d : Bool} : ∀ {ys : List BkE} {L : List Pk}, ys.map BkE.p = L → accB d ys = reqD L d
  | [], L, h => by
    simp at h; subst h
    rw [reqD_nil]; rfl
  | x :: t, L, h => by
    simp at h
    subst h
    have ih := accB_req (d := d) (ys := t) rfl
    by_cases hd : x.p.down = d
    · rw [reqD_same hd, ← ih, accB, if_pos hd]
    · rw [reqD_other hd, ← ih, accB, if_neg hd]
theorem acc_req {d : Bool} {ys : List BkE} {L : List Pk} (h : ys.map BkE.p = L.reverse) : acc d ys = reqD L d := by
  refine accB_req ?_
  rw [List.map_reverse, h, List.reverse_reverse]
theorem isDown_b (p : Pk) (b : Bool) (h : p.down = b) (w : World) : Calls Tryz.prog 146 #[.agg #[.int .i64 p.w, .int .i64 p.h, .int .i64 p.s, .bool p.fx, .bool p.fy, .bool p.ex, .int .i64 p.an, .int .i64 p.px, .int .i64 p.py]] w fun e w' => e = .returned (.bool b) ∧ Below w.heap.size w w' := by rw [← h]; exact isDown_v p w
theorem bdr {W w' : World} (h : Below W.drew.heap.size W.drew w') : Below W.heap.size W w' := (Below.refl _ _).drew.trans h
theorem keepsFrom_below {B : Nat} {W W' : World} (h : Below W.heap.size W W') : KeepsFrom B W W' := ⟨h.size, fun k o _ hk _ => (h.block k (Array.getElem?_eq_some_iff.1 hk).1).trans hk⟩
theorem kpB_below {n0 Bs : Nat} {W W' : World} (h : Below W.heap.size W W') (h0 : n0 ≤ W.heap.size) (hs : Bs < W.heap.size) : KpB n0 Bs W W' := ⟨h.mono h0, h.block Bs hs⟩
theorem round_end {w W w2 : World} {B0 : Nat} {A : Option Addr} {c : Nat} {L : List Pk} {d : Bool} {pre : List BkE} {x : BkE} {v u : Int} {T1 T2 T3 : TypeId} (b2 : Below W.heap.size W w2) (bS : Boxed W (w.heap.size + 1) T1 (.int .i64 u)) (bD : Boxed W w.heap.size T2 (.bool d)) (bL : Boxed W (w.heap.size + 1 + 1) T3 (.slice A L.length c)) (hB : Below w.heap.size w W) (hl : w.heap.size ≤ W.heap.size) (hv : acc d (pre ++ [x]) = v) :
    KeepsFrom B0 W (w2.setCell ⟨w.heap.size + 1, 0, none⟩ (.int .i64 v)) ∧ KpB w.heap.size (w.heap.size + 1 + 1) W (w2.setCell ⟨w.heap.size + 1, 0, none⟩ (.int .i64 v)) ∧
      ((Boxed (w2.setCell ⟨w.heap.size + 1, 0, none⟩ (.int .i64 v)) (w.heap.size + 1) T1 (.int .i64 (acc d (pre ++ [x]))) ∧ (Boxed (w2.setCell ⟨w.heap.size + 1, 0, none⟩ (.int .i64 v)) w.heap.size T2 (.bool d) ∧ Boxed (w2.setCell ⟨w.heap.size + 1, 0, none⟩ (.int .i64 v)) (w.heap.size + 1 + 1) T3 (.slice A L.length c))) ∧
        Below w.heap.size w (w2.setCell ⟨w.heap.size + 1, 0, none⟩ (.int .i64 v))) := by
  have cS : Boxed w2 (w.heap.size + 1) T1 (.int .i64 u) := (b2.block _ bS.lt).trans bS
  have cD : Boxed w2 w.heap.size T2 (.bool d) := (b2.block _ bD.lt).trans bD
  have cL : Boxed w2 (w.heap.size + 1 + 1) T3 (.slice A L.length c) := (b2.block _ bL.lt).trans bL
  refine ⟨(keepsFrom_below b2).trans ((KeepsOthers.setCell _ _ _).from _), (kpB_below b2 hl bL.lt).trans ⟨(Below.refl _ _).setCell (p := ⟨w.heap.size + 1, 0, none⟩) (by simp) _, Below.heap_setCell _ ⟨w.heap.size + 1, 0, none⟩ _ _ (by simp)⟩, ⟨⟨by rw [hv]; exact cS.set _, cD.other (by omega) _, cL.other (by omega) _⟩, (hB.trans (b2.mono hl)).setCell (p := ⟨w.heap.size + 1, 0, none⟩) (by simp) _⟩⟩
set_option maxRecDepth 100000 in
theorem packRequest_w (A : Option Addr) (c : Nat) (L : List Pk) (d : Bool) (w : World) (h : PV w A L) (hok : ∀ p ∈ L, p.big) (h7 : L.length ≤ 10) :
    Calls Tryz.prog 185 #[.slice A L.length c, .bool d] w fun e W' => e = .returned (.int .i64 (reqD L d)) ∧ Below w.heap.size w W' := by
  have HOK := Lib.hid hok
  clear hok
  refine (callsIn_wide (n := 6)).1 ?_
  refine callsIn_of_wp_marks Tryz.func185 rfl trivial ?_ rfl
  simp only [Tryz.ntmps185, List.size_toArray, List.length_cons, List.length_nil, Nat.reduceAdd, Nat.reduceSub, Array.replicate_succ, Array.replicate_zero, List.push_toArray, List.append_toArray, List.nil_append, List.cons_append]
  gi_wp2_with (refine ⟨trivial, ?_⟩; gi_at_call 188; refine (backward_in Fence.wide _ trivial rfl _ _ _ _).mono ?_; rintro e w' ⟨rfl, rfl⟩)
  have bL := Boxed.new ((w.alloc (.cells #[.bool d] 4)).alloc (.cells #[.int .i64 0] 3)) 93 (.slice A L.length c)
  have bS := (Boxed.new (w.alloc (.cells #[.bool d] 4)) 3 (.int .i64 0)).alloc (.cells #[.slice A L.length c] 93)
  have bD := ((Boxed.new w 4 (.bool d)).alloc (.cells #[.int .i64 0] 3)).alloc (.cells #[.slice A L.length c] 93)
  simp only [World.size_alloc] at bL bS bD
  have hB0 : Below w.heap.size w (((w.alloc (.cells #[.bool d] 4)).alloc (.cells #[.int .i64 0] 3)).alloc (.cells #[.slice A L.length c] 93)) := (((Below.refl _ w).alloc (Nat.le_refl _) _).alloc (by simp) _).alloc (by simp; omega) _
  have hsz : (((w.alloc (.cells #[.bool d] 4)).alloc (.cells #[.int .i64 0] 3)).alloc (.cells #[.slice A L.length c] 93)).heap.size = w.heap.size + 3 := by simp
  obtain ⟨W0, hW0⟩ : ∃ W0, ((w.alloc (.cells #[.bool d] 4)).alloc (.cells #[.int .i64 0] 3)).alloc (.cells #[.slice A L.length c] 93) = W0 := ⟨_, rfl⟩
  rw [hW0] at bL bS bD hB0 hsz ⊢
  clear hW0
  have hp0 : PVn w.heap.size W0 A L := PVn.below (fun h0 => let ⟨b, off, e, hl, hp⟩ := h.cells h0; ⟨b, off, e, hl, hp⟩) hB0
  refine wpIn_rangeFunc_ownH rfl (by omega) (gf := 194) (lb := #[.pointer (some ⟨w.heap.size + 1 + 1, 0, none⟩)]) rfl trivial (enters_of Tryz.func194 (by kernel_rfl) rfl)
    (bk_stops Fence.wide _ trivial rfl (by omega) (w.heap.size + 1 + 1) w.heap.size A c L h7 HOK.out W0 (by omega) (by omega) bL.cell hp0) KpB.trans
    (fun W l o o' hl ho hc hw => ⟨belowK_b (w := W0) (by omega) W l o o' hl ho hc hw, World.putObj_heap_other (by omega)⟩) (Below.refl _ _) (fun _ => rfl)
    (fun pre W => (Boxed W (w.heap.size + 1) 3 (.int .i64 (acc d pre)) ∧ (Boxed W w.heap.size 4 (.bool d) ∧ Boxed W (w.heap.size + 1 + 1) 93 (.slice A L.length c))) ∧ Below w.heap.size w W)
    (fun _ _ _ => False)
    (OwnFrom.and (OwnFrom.and (Own.from (boxed_own _ _ _) _) (OwnFrom.and (Own.from (boxed_own _ _ _) _) (Own.from (boxed_own _ _ _) _))) (ownFrom_below (Nat.le_refl _) (by omega)))
    (fun _ _ _ _ _ hs _ _ => hs)
    ⟨⟨bS, bD, bL⟩, hB0⟩
    (fun x a' W => ∃ Bx, w.heap.size + 2 < Bx ∧ W.heap[Bx]? = some (.cells #[.int .i64 x.p.w, .int .i64 x.p.h, .int .i64 x.p.s, .bool x.p.fx, .bool x.p.fy, .bool x.p.ex, .int .i64 x.p.an, .int .i64 x.p.px, .int .i64 x.p.py] 32 (0, 0)) ∧ a' = { tmps := #[.slice A L.length c, .bool d, undef, .pointer (some ⟨w.heap.size, 0, none⟩), .int .i64 0, .pointer (some ⟨w.heap.size + 1, 0, none⟩), undef, .pointer (some ⟨Bx, 0, none⟩), .slice A L.length c, .func (.func 194) #[] #[.pointer (some ⟨w.heap.size + 1 + 1, 0, none⟩)], .int .i64 x.i, .agg #[.int .i64 x.p.w, .int .i64 x.p.h, .int .i64 x.p.s, .bool x.p.fx, .bool x.p.fy, .bool x.p.ex, .int .i64 x.p.an, .int .i64 x.p.px, .int .i64 x.p.py], undef, undef, undef, undef, undef, undef, undef, undef, undef, undef, undef, undef, undef, undef, undef], defers := [] })
    (fun x a' _ X Y row hs hg hr => by
      obtain ⟨Bx, h1, h2, h3⟩ := hs
      exact ⟨Bx, h1, (hg.block Bx (Array.getElem?_eq_some_iff.1 h2).1 (fun e => by
        obtain ⟨_, o, ho, hoc⟩ := hr Bx e.symm
        rw [h2] at ho
        obtain rfl := Option.some.inj ho
        simp [Obj.isCells] at hoc)).trans h2, h3⟩)
    ?assign ?body ?done ?stop
  case assign =>
    rintro l pre x W K ⟨⟨bS1, bD1, bL1⟩, hB1⟩ hK
    have hlt2 := bL1.lt
    simp only [encB]
    gi_wp2
    refine hK _ _ ((KeepsOthers.alloc _ _).from _) ⟨(Below.refl _ W).alloc hB1.size _, Below.heap_alloc _ _ _ (by omega)⟩ ⟨⟨bS1.alloc _, bD1.alloc _, bL1.alloc _⟩, hB1.alloc hB1.size _⟩ ⟨W.heap.size, by omega, heap_new _ _, rfl⟩
  case body =>
    rintro l pre x a' W hl ⟨r, hr⟩ ⟨⟨bS1, bD1, bL1⟩, hB1⟩ ⟨Bx, hBx, hX, rfl⟩ hlt
    have cS := bS1.cell
    have fS := bS1.frozen
    have cD := bD1.cell
    have sS := bS1.lt
    have sD := bD1.lt
    have sL := bL1.lt
    have sX : Bx < W.heap.size := (Array.getElem?_eq_some_iff.1 hX).1
    obtain ⟨a1, a2⟩ := acc_bd d pre
    have nb := Pk.need_bdW x.ok d
    obtain ⟨c0, c1, c2, c3, c4, c5, c6, c7, c8⟩ := b9c hX
    have hmx : Tryz.prog.follows .mixedOrders = true := by kernel_rfl
    have hn1 : 1 ≤ 6 - 1 - 1 := by omega
    have hl0 : w.heap.size ≤ W.heap.size := hB1.size
    cases d <;> cases hdn : x.p.down
    · have hacc := acc_same (ys := pre) (x := x) (d := false) hdn
      have HA := Lib.hid hacc
      clear hacc
      gi_wp2
      gi_region_with_o (refine ⟨trivial, ?_⟩; gi_at_call 146; refine (CallsIn.inRound l (callsIn_wide.2 (isDown_b x.p false hdn _))).mono ?_; rintro e w1 ⟨rfl, hb1⟩; have b1 := bdr hb1; have kD := (b1.cell (p := ⟨w.heap.size, 0, none⟩) sD).trans cD; have kS := (b1.cell (p := ⟨w.heap.size + 1, 0, none⟩) sS).trans cS; have kX := (b1.block Bx sX).trans hX; obtain ⟨k0, k1, k2, k3, k4, k5, k6, k7, k8⟩ := b9c kX; have z1 := b1.size; have tS := Nat.lt_of_lt_of_le sS z1; have tD := Nat.lt_of_lt_of_le sD z1)
      all_goals
        gi_wp2
        gi_region_with_o (refine ⟨trivial, ?_⟩; gi_at_call 189; refine (CallsIn.inRound l (callsIn_wide.2 (need_w x.p false _ x.ok))).mono ?_; rintro e w2 ⟨rfl, hb2⟩; have b2 := b1.trans ((bdr hb2).mono z1); have jD := (b2.cell (p := ⟨w.heap.size, 0, none⟩) sD).trans cD; have jS := (b2.cell (p := ⟨w.heap.size + 1, 0, none⟩) sS).trans cS; have fS2 := (b2.frozen (p := ⟨w.heap.size + 1, 0, none⟩) sS).trans fS; clear kS kD k0 k1 k2 k3 k4 k5 k6 k7 k8)
        all_goals
          gi_wp2
          all_goals (try go_bits)
          all_goals exact round_end b2 bS1 bD1 bL1 hB1 hl0 HA.out
    · have hacc := acc_other (ys := pre) (x := x) (d := false) (by simp [hdn])
      have HA := Lib.hid hacc
      clear hacc
      gi_wp2
      gi_region_with_o (refine ⟨trivial, ?_⟩; gi_at_call 146; refine (CallsIn.inRound l (callsIn_wide.2 (isDown_b x.p true hdn _))).mono ?_; rintro e w1 ⟨rfl, hb1⟩; have b1 := bdr hb1; have kD := (b1.cell (p := ⟨w.heap.size, 0, none⟩) sD).trans cD; have kS := (b1.cell (p := ⟨w.heap.size + 1, 0, none⟩) sS).trans cS; have kX := (b1.block Bx sX).trans hX; obtain ⟨k0, k1, k2, k3, k4, k5, k6, k7, k8⟩ := b9c kX; have z1 := b1.size; have tS := Nat.lt_of_lt_of_le sS z1; have tD := Nat.lt_of_lt_of_le sD z1)
      all_goals
        gi_wp2
        gi_region_with_o (refine ⟨trivial, ?_⟩; gi_at_call 189; refine (CallsIn.inRound l (callsIn_wide.2 (need_w x.p false _ x.ok))).mono ?_; rintro e w2 ⟨rfl, hb2⟩; have b2 := b1.trans ((bdr hb2).mono z1); have jD := (b2.cell (p := ⟨w.heap.size, 0, none⟩) sD).trans cD; have jS := (b2.cell (p := ⟨w.heap.size + 1, 0, none⟩) sS).trans cS; have fS2 := (b2.frozen (p := ⟨w.heap.size + 1, 0, none⟩) sS).trans fS; clear kS kD k0 k1 k2 k3 k4 k5 k6 k7 k8)
        all_goals
          gi_wp2
          all_goals (try go_bits)
          all_goals exact round_end b2 bS1 bD1 bL1 hB1 hl0 HA.out
    · have hacc := acc_other (ys := pre) (x := x) (d := true) (by simp [hdn])
      have HA := Lib.hid hacc
      clear hacc
      gi_wp2
      gi_region_with_o (refine ⟨trivial, ?_⟩; gi_at_call 146; refine (CallsIn.inRound l (callsIn_wide.2 (isDown_b x.p false hdn _))).mono ?_; rintro e w1 ⟨rfl, hb1⟩; have b1 := bdr hb1; have kD := (b1.cell (p := ⟨w.heap.size, 0, none⟩) sD).trans cD; have kS := (b1.cell (p := ⟨w.heap.size + 1, 0, none⟩) sS).trans cS; have kX := (b1.block Bx sX).trans hX; obtain ⟨k0, k1, k2, k3, k4, k5, k6, k7, k8⟩ := b9c kX; have z1 := b1.size; have tS := Nat.lt_of_lt_of_le sS z1; have tD := Nat.lt_of_lt_of_le sD z1)
      all_goals
        gi_wp2
        gi_region_with_o (refine ⟨trivial, ?_⟩; gi_at_call 189; refine (CallsIn.inRound l (callsIn_wide.2 (need_w x.p true _ x.ok))).mono ?_; rintro e w2 ⟨rfl, hb2⟩; have b2 := b1.trans ((bdr hb2).mono z1); have jD := (b2.cell (p := ⟨w.heap.size, 0, none⟩) sD).trans cD; have jS := (b2.cell (p := ⟨w.heap.size + 1, 0, none⟩) sS).trans cS; have fS2 := (b2.frozen (p := ⟨w.heap.size + 1, 0, none⟩) sS).trans fS; clear kS kD k0 k1 k2 k3 k4 k5 k6 k7 k8)
        all_goals
          gi_wp2
          all_goals (try go_bits)
          all_goals exact round_end b2 bS1 bD1 bL1 hB1 hl0 HA.out
    · have hacc := acc_same (ys := pre) (x := x) (d := true) hdn
      have HA := Lib.hid hacc
      clear hacc
      gi_wp2
      gi_region_with_o (refine ⟨trivial, ?_⟩; gi_at_call 146; refine (CallsIn.inRound l (callsIn_wide.2 (isDown_b x.p true hdn _))).mono ?_; rintro e w1 ⟨rfl, hb1⟩; have b1 := bdr hb1; have kD := (b1.cell (p := ⟨w.heap.size, 0, none⟩) sD).trans cD; have kS := (b1.cell (p := ⟨w.heap.size + 1, 0, none⟩) sS).trans cS; have kX := (b1.block Bx sX).trans hX; obtain ⟨k0, k1, k2, k3, k4, k5, k6, k7, k8⟩ := b9c kX; have z1 := b1.size; have tS := Nat.lt_of_lt_of_le sS z1; have tD := Nat.lt_of_lt_of_le sD z1)
      all_goals
        gi_wp2
        gi_region_with_o (refine ⟨trivial, ?_⟩; gi_at_call 189; refine (CallsIn.inRound l (callsIn_wide.2 (need_w x.p true _ x.ok))).mono ?_; rintro e w2 ⟨rfl, hb2⟩; have b2 := b1.trans ((bdr hb2).mono z1); have jD := (b2.cell (p := ⟨w.heap.size, 0, none⟩) sD).trans cD; have jS := (b2.cell (p := ⟨w.heap.size + 1, 0, none⟩) sS).trans cS; have fS2 := (b2.frozen (p := ⟨w.heap.size + 1, 0, none⟩) sS).trans fS; clear kS kD k0 k1 k2 k3 k4 k5 k6 k7 k8)
        all_goals
          gi_wp2
          all_goals (try go_bits)
          all_goals exact round_end b2 bS1 bD1 bL1 hB1 hl0 HA.out
  case done =>
    rintro D ys W hD hys ⟨⟨bS1, bD1, bL1⟩, hB1⟩ hK
    have cS := bS1.cell
    rw [acc_req hys] at cS
    gi_wp2
    refine ⟨by simp, .inl ⟨_, _, rfl, run_takeDeferred hK, ?_⟩⟩
    exact ⟨_, results_tmp rfl _ _ _, rfl, hB1.trans (belowK_b (w := w) (Nat.le_refl _) W D _ _ (by omega) hK rfl rfl)⟩
  case stop =>
    rintro D c pre W _ _ h _
    exact h.elim
theorem packRequest_v (A : Option Addr) (c : Nat) (L : List Pk) (d : Bool) (w : World) (h : PV w A L) (hL : vpsB L = true) :
    Calls Tryz.prog 185 #[.slice A L.length c, .bool d] w fun e W' => e = .returned (.int .i64 (reqD L d)) ∧ Below w.heap.size w W' := by
  obtain ⟨hok, h7⟩ := vpsB_iff.1 hL
  exact packRequest_w A c L d w h (fun p hp => Pk.ok_big (hok p hp)) (by omega)
end Go.Proofs.YtgdkionmeacalabGreat
end
section
namespace Go.Proofs.YtgdkionmeacalabGreat
open Go Go.RowKit
set_option linter.unusedVariables false
section
variable {P : Program}
def XV (u : Value) : Value → World → Prop := fun v _ => v = u
def XT : Value → World → Prop := fun _ _ => True
/-- what stays true when memory is made -/
def Stay (T : Value → World → Prop) : Prop := ∀ v a b, T v a → Gr a b → T v b
theorem stay_V (u : Value) : Stay (XV u) := fun _ _ _ h _ => h
theorem stay_T : Stay XT := fun _ _ _ _ _ => trivial
theorem stay_of {F : Value → World → Prop} (h : ∀ v a b, F v a → Below a.heap.size a b → F v b) : Stay F := fun v a b x g => h v a b x g.out
theorem stay_list {l : List (Value → World → Prop)} (h : ∀ T ∈ l, Stay T) : ∀ k v a b, (l.getD k XT) v a → Gr a b → (l.getD k XT) v b := by
  intro k v a b hv g
  rw [List.getD_eq_getElem?_getD] at *
  cases hk : l[k]? with
  | none => trivial
  | some T => rw [hk] at hv; exact h T (List.mem_of_getElem? hk) v a b hv g
def GIx (_ : Nat) (_ : World) : Prop := True
theorem gx_gen {K : Value → World → Prop} {r : Result Next} (h : ∀ K' : Value → World → Prop, (∀ v w', K v w' → K' v w') → givesUpon P K' r) : givesUpon P K r := h K fun _ _ h => h
theorem lookD_imp {T : Nat → Value → World → Prop} {a0 a : Act} {w : World} {G G' : Prop} (hG : G → G') : ∀ {ds : List (Tmp × Option Nat)}, lookD T a0 a w ds G → lookD T a0 a w ds G'
  | [], h => hG h
  | (t, some j) :: r, h => fun x => lookD_imp (ds := r) hG (h x)
  | (t, none) :: r, h => fun x => lookD_imp (ds := r) hG (h x)
theorem givesUpon_imp {K K' : Value → World → Prop} (hK : ∀ v w, K v w → K' v w) {r : Result Next} (h : givesUpon P K r) : givesUpon P K' r := by
  unfold givesUpon at *
  split at h
  · exact hK _ _ h
  · exact hK _ _ h
  · exact h.mono fun e w' ⟨v, e1, e2⟩ => ⟨v, e1, hK _ _ e2⟩
  · exact h.elim
theorem opOK_rx {ops : List Oper} {T : Nat → Value → World → Prop} {a0 : Act} {w0 : World} {k : Nat} {o : Oper} (ds : List (Tmp × Option Nat)) (hB : dsB ops o ds = true) (hg : o.guard = none)
    (h : ∀ (a : Act) (w : World), Gr w0 w → lookD T a0 a w ds (givesUpon P (fun v w' => T k v w' ∧ Gr w w') ((execOp a.eval o).run P w))) : opOK P ops T Gr GIx a0 w0 k o :=
  opOK_ds ds hB hg fun m a w _ hR _ => lookD_imp (fun x => givesUpon_imp (fun v w' ⟨h1, h2⟩ => ⟨h1, h2, trivial⟩) x) (h a w hR)
theorem wp_region_rx {id : Nat} {l : List Oper} {Q : Exit → Act → World → Prop} {a0 : Act} {w : World} (tl : List (Value → World → Prop))
    (hm : P.follows .mixedOrders = true) (hB : rgB l a0.tmps.size = true) (hTs : ∀ T ∈ tl, Stay T)
    (hops : opsOK P l (fun k => tl.getD k XT) Gr GIx a0 w.drew l 0) (hfin : ∀ w', Gr w.drew w' → finP (fun k => tl.getD k XT) w' (fun a' => Q .normal a' w') l 0 a0) : (Code.region id l.toArray true).wp P Q a0 w :=
  wp_region_rgl (fun k => tl.getD k XT) Gr GIx hm hB Gr.refl (fun _ _ _ h k => h.trans k) (stay_list hTs) trivial hops fun w' h _ => hfin w' h
end
end Go.Proofs.YtgdkionmeacalabGreat
end
