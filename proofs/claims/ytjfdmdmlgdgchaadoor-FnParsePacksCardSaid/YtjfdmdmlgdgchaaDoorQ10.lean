import Derived.Test.YtjfdmdmlgdgchaaDoorQ09
import Derived.Lib.CutLaws
import Derived.OwnWalk
import Derived.Lay
section
namespace Go.Proofs.YtjfdmdmlgdgchaaDoor
open Go.RowKit
set_option linter.unusedVariables false
set_option linter.unusedSimpArgs false
set_option maxHeartbeats 2000000
attribute [local go_sem] growUpon_value growUpon_skip growUpon_enter
/-! spec.ParsePack. -/
theorem sParsePack_v (l : List UInt8) (hs : l.length ≤ 1048576) (w : World) : Calls Tryd.prog 8 #[tx l] w fun e w' => e = .returned (ansV (prs l)) ∧ Below w.heap.size w w' := by
  have HS := Lib.hid (fun w => parsePack_v l hs w)
  obtain ⟨R, hR⟩ : ∃ R, prs l = R := ⟨_, rfl⟩
  rw [hR] at HS ⊢
  clear hR
  go_enter Tryd.func8, Tryd.ntmps8
  go_upto_region 1 with (fail)
  refine wp_PK (fun W => W.heap[w.heap.size]? = some (.cells #[.int .i64 0, .int .i64 0, .int .i64 0, .bool false, .bool false, .bool false, .int .i64 0, .int .i64 0, .int .i64 0] 23 (0, 0)) ∧ Below w.heap.size w W) ⟨newS w _, balloc (Below.refl _ _)⟩ ?_
  rintro W0 ⟨hz, hB⟩
  have HX := Lib.hid hz
  have HB := Lib.hid hB
  clear hz hB
  go_wp2_with fail
  with_reducible refine (HS.out _).mono ?_
  rintro e w1 ⟨⟨p, ok, rfl, hy, hn⟩, hb⟩
  replace HX := Lib.hid ((hb.block _ (Array.getElem?_eq_some_iff.1 HX.out).1).trans HX.out)
  replace HB := Lib.hid (bkeep2 HB.out hb)
  clear hb
  have HY := Lib.hid hy
  have HN := Lib.hid hn
  clear hy hn HS
  have hl1 := ltS HX.out
  go_upto_region 2 with (fail)
  refine wp_PK (fun W => W.heap[w.heap.size]? = some (.cells #[.int .i64 0, .int .i64 0, .int .i64 0, .bool false, .bool false, .bool false, .int .i64 0, .int .i64 0, .int .i64 0] 23 (0, 0)) ∧ Below w.heap.size w W ∧ W.heap[w1.heap.size]? = some (.cells #[.int .i64 p.w0, .int .i64 p.h0, .int .i64 p.s, .bool p.fx, .bool p.fy, .bool p.ex, .int .i64 p.an, .int .i64 p.px, .int .i64 p.py] 23 (0, 0))) ⟨(Below.heap_alloc _ _ _ hl1).trans HX.out, balloc HB.out, newS w1 _⟩ ?_
  rintro W2 ⟨hz, hB, hp⟩
  replace HX := Lib.hid hz
  replace HB := Lib.hid hB
  have HP := Lib.hid hp
  clear hz hB hp
  obtain ⟨q0, q1, q2, q3, q4, q5, q6, q7, q8⟩ := b9c HX.out
  have f0 := frozenS HX.out 0
  have f1 := frozenS HX.out 1
  have f2 := frozenS HX.out 2
  have f3 := frozenS HX.out 3
  have f4 := frozenS HX.out 4
  have f5 := frozenS HX.out 5
  have f6 := frozenS HX.out 6
  have f7 := frozenS HX.out 7
  have f8 := frozenS HX.out 8
  cases ok
  · obtain rfl := HN.out rfl
    go_wp2
    exact bodyPost_ret (v := ansV none) (by simp only [results, Tryd.results8]; go_simp; rfl) rfl ⟨rfl, bput (bput (bput (bput (bput (bput (bput (bput (bput (HB.out) (by show w.heap.size ≤ _; omega)) (by show w.heap.size ≤ _; omega)) (by show w.heap.size ≤ _; omega)) (by show w.heap.size ≤ _; omega)) (by show w.heap.size ≤ _; omega)) (by show w.heap.size ≤ _; omega)) (by show w.heap.size ≤ _; omega)) (by show w.heap.size ≤ _; omega)) (by show w.heap.size ≤ _; omega)⟩
  · obtain rfl := HY.out rfl
    obtain ⟨p0, p1, p2, p3, p4, p5, p6, p7, p8⟩ := b9c HP.out
    go_wp2
    exact bodyPost_ret (v := ansV (some p)) (by simp only [results, Tryd.results8]; go_simp; rfl) rfl ⟨rfl, bput (bput (bput (bput (bput (bput (bput (bput (bput (HB.out) (by show w.heap.size ≤ _; omega)) (by show w.heap.size ≤ _; omega)) (by show w.heap.size ≤ _; omega)) (by show w.heap.size ≤ _; omega)) (by show w.heap.size ≤ _; omega)) (by show w.heap.size ≤ _; omega)) (by show w.heap.size ≤ _; omega)) (by show w.heap.size ≤ _; omega)) (by show w.heap.size ≤ _; omega)⟩
end Go.Proofs.YtjfdmdmlgdgchaaDoor
end
section
namespace Go.Proofs.YtjfdmdmlgdgchaaDoor
open Go.RowKit
set_option linter.unusedVariables false
set_option linter.unusedSimpArgs false
/-! The items of lines. -/
def PKV.pk (p : PKV) : Pk := ⟨p.w0, p.h0, p.s, p.fx, p.fy, p.ex, p.an, p.px, p.py⟩
def pkU : List (List UInt8) → Option (List Pk)
  | [] => none
  | x :: L => if L = [] then (if x = [] then some [] else none) else match prs x with
    | none => none
    | some p => (pkU L).map (p.pk :: ·)
theorem pkU_end : pkU [[]] = some [] := by simp [pkU]
theorem pkU_one {x : List UInt8} (h : x ≠ []) : pkU [x] = none := by simp [pkU, h]
theorem pkU_no {x : List UInt8} {L : List (List UInt8)} (hL : L ≠ []) (h : prs x = none) : pkU (x :: L) = none := by rw [pkU, if_neg hL, h]
theorem pkU_yes {x : List UInt8} {L : List (List UInt8)} {p : PKV} (hL : L ≠ []) (h : prs x = some p) : pkU (x :: L) = (pkU L).map (p.pk :: ·) := by rw [pkU, if_neg hL, h]
def pks (l : List UInt8) : Option (List Pk) := match pkU (splitL 10 l) with
  | some L => if L.length ≤ 7 then some L else none
  | none => none
theorem pks_none {l : List UInt8} (h : pkU (splitL 10 l) = none) : pks l = none := by unfold pks; rw [h]
theorem pks_some {l : List UInt8} {L : List Pk} (h : pkU (splitL 10 l) = some L) (h7 : L.length ≤ 7) : pks l = some L := by unfold pks; rw [h]; exact if_pos h7
theorem pks_long {l : List UInt8} {L : List Pk} (h : pkU (splitL 10 l) = some L) (h7 : ¬ L.length ≤ 7) : pks l = none := by unfold pks; rw [h]; exact if_neg h7
/-- what has been read so far, before what is left -/
def PkAt (l : List UInt8) (A : List Pk) (r : List (List UInt8)) : Prop := pkU (splitL 10 l) = (pkU r).map (A ++ ·)
theorem PkAt.start (l : List UInt8) : PkAt l [] (splitL 10 l) := by
  unfold PkAt
  cases pkU (splitL 10 l) <;> simp
theorem PkAt.step {l : List UInt8} {A : List Pk} {x : List UInt8} {r : List (List UInt8)} {p : PKV} (h : PkAt l A (x :: r)) (hr : r ≠ []) (hp : prs x = some p) : PkAt l (A ++ [p.pk]) r := by
  unfold PkAt at *
  rw [h, pkU_yes hr hp]
  cases pkU r <;> simp
theorem PkAt.none {l : List UInt8} {A : List Pk} {x : List UInt8} {r : List (List UInt8)} (h : PkAt l A (x :: r)) (hr : r ≠ []) (hp : prs x = none) : pks l = none := pks_none (by
  unfold PkAt at h
  rw [h, pkU_no hr hp]; rfl)
theorem PkAt.last {l : List UInt8} {A : List Pk} {x : List UInt8} (h : PkAt l A [x]) (hx : x ≠ []) : pks l = Option.none := pks_none (by
  unfold PkAt at h
  rw [h, pkU_one hx]; rfl)
theorem PkAt.done {l : List UInt8} {A : List Pk} (h : PkAt l A [[]]) (h7 : A.length ≤ 7) : pks l = some A := pks_some (by
  unfold PkAt at h
  rw [h, pkU_end]; simp) h7
theorem PkAt.over {l : List UInt8} {A : List Pk} (h : PkAt l A [[]]) (h7 : ¬ A.length ≤ 7) : pks l = Option.none := pks_long (by
  unfold PkAt at h
  rw [h, pkU_end]; simp) h7
theorem PkAt.full {l : List UInt8} {A : List Pk} {x : List UInt8} {r : List (List UInt8)} {p : PKV} (h : PkAt l A (x :: r)) (hr : r ≠ []) (hp : prs x = some p) (h7 : A.length = 7) : pks l = Option.none := by
  unfold PkAt at h
  rw [pkU_yes hr hp] at h
  cases hu : pkU r with
  | none => rw [hu] at h; exact pks_none h
  | some L => rw [hu] at h; exact pks_long h (by simp; omega)
theorem pks_len {l : List UInt8} {L : List Pk} (h : pks l = some L) : L.length ≤ 7 := by
  unfold pks at h
  split at h
  · split at h
    · cases h; assumption
    · cases h
  · cases h
theorem pkU_ok : ∀ {W : List (List UInt8)} {L : List Pk}, pkU W = some L → ∀ p ∈ L, p.ok = true
  | [], L, h => by simp [pkU] at h
  | x :: W, L, h => by
    by_cases hW : W = []
    · subst hW
      by_cases hx : x = []
      · subst hx; rw [pkU_end] at h; cases h; simp
      · rw [pkU_one hx] at h; cases h
    · cases hp : prs x with
      | none => rw [pkU_no hW hp] at h; cases h
      | some q =>
        rw [pkU_yes hW hp] at h
        cases hu : pkU W with
        | none => rw [hu] at h; cases h
        | some L' =>
          rw [hu] at h
          cases h
          intro p hpm
          rcases List.mem_cons.1 hpm with rfl | hpm
          · exact (prs_iff.1 hp).1
          · exact pkU_ok hu p hpm
theorem cut_cases (l : List UInt8) : ((10 : UInt8) ∉ l ∧ Lib.cut l [10] = (l, [], false)) ∨ ∃ p r, l = p ++ 10 :: r ∧ (10 : UInt8) ∉ p ∧ Lib.cut l [10] = (p, r, true) := by
  rcases index_byte 10 l with ⟨h1, h2⟩ | ⟨p, r, rfl, h2, h3⟩
  · exact .inl ⟨h2, by unfold Lib.cut; rw [h1]; rfl⟩
  · refine .inr ⟨p, r, rfl, h2, ?_⟩
    unfold Lib.cut
    rw [h3, if_pos (by omega)]
    simp [List.drop_append]
end Go.Proofs.YtjfdmdmlgdgchaaDoor
end
section
namespace Go.Proofs.YtjfdmdmlgdgchaaDoor
open Go.RowKit
set_option linter.unusedVariables false
set_option maxHeartbeats 1000000
end Go.Proofs.YtjfdmdmlgdgchaaDoor
end
section
namespace Go.Proofs.YtjfdmdmlgdgchaaDoor
open Go.RowKit
set_option linter.unusedVariables false
set_option maxHeartbeats 1000000
/-- values written side by side -/
def writeAt (cs : Array Value) (o : Nat) : List Value → Array Value
  | [] => cs
  | v :: r => writeAt (cs.setIfInBounds o v) (o + 1) r
theorem writeAt_size : ∀ (vs : List Value) (cs : Array Value) (o : Nat), (writeAt cs o vs).size = cs.size
  | [], cs, o => rfl
  | v :: r, cs, o => by unfold writeAt; rw [writeAt_size r]; simp
theorem writeAt_lo : ∀ (vs : List Value) (cs : Array Value) (o i : Nat), i < o → (writeAt cs o vs)[i]? = cs[i]?
  | [], cs, o, i, _ => rfl
  | v :: r, cs, o, i, h => by unfold writeAt; rw [writeAt_lo r _ _ _ (by omega), Array.getElem?_setIfInBounds_ne (by omega)]
theorem writeAt_hi : ∀ (vs : List Value) (cs : Array Value) (o i : Nat), o + vs.length ≤ i → (writeAt cs o vs)[i]? = cs[i]?
  | [], cs, o, i, _ => rfl
  | v :: r, cs, o, i, h => by
    simp only [List.length_cons] at h
    unfold writeAt; rw [writeAt_hi r _ _ _ (by omega), Array.getElem?_setIfInBounds_ne (by omega)]
theorem writeAt_in : ∀ (vs : List Value) (cs : Array Value) (o j : Nat), o + vs.length ≤ cs.size → j < vs.length → (writeAt cs o vs)[o + j]? = vs[j]?
  | [], cs, o, j, _, h => by simp at h
  | v :: r, cs, o, 0, h, _ => by
    simp only [List.length_cons] at h
    unfold writeAt; rw [writeAt_lo r _ _ _ (by omega), Nat.add_zero, Array.getElem?_setIfInBounds_self_of_lt (by omega)]
    rfl
  | v :: r, cs, o, j + 1, h, hj => by
    simp only [List.length_cons] at h hj
    unfold writeAt
    rw [show o + (j + 1) = o + 1 + j from by omega, writeAt_in r _ _ _ (by simp; omega) (by omega)]
    simp
def vals (p : Pk) : List Value := [.int .i64 p.w, .int .i64 p.h, .int .i64 p.s, .bool p.fx, .bool p.fy, .bool p.ex, .int .i64 p.an, .int .i64 p.px, .int .i64 p.py]
/-- the items lie in the cells from o on -/
def In9 (cs : Array Value) (o : Nat) (p : Pk) : Prop := ∀ j, j < 9 → cs[o + j]? = (vals p)[j]?
theorem In9.cells {w : World} {b : Nat} {cs : Array Value} {T : TypeId} {fz : Nat × Nat} {o : Nat} {p : Pk} (hh : w.heap[b]? = some (.cells cs T fz)) (h : In9 cs o p) : Cells9 w b o p := by
  have e : ∀ j, j < 9 → w.cell? ⟨b, o + j, none⟩ = (vals p)[j]? := fun j hj => (cellH hh _).trans (h j hj)
  exact ⟨e 0 (by omega), e 1 (by omega), e 2 (by omega), e 3 (by omega), e 4 (by omega), e 5 (by omega), e 6 (by omega), e 7 (by omega), e 8 (by omega)⟩
theorem In9.write {cs : Array Value} {o : Nat} (p : Pk) (h : o + 9 ≤ cs.size) : In9 (writeAt cs o (vals p)) o p := fun j hj => writeAt_in _ _ _ _ h hj
theorem In9.keep {cs : Array Value} {o o' : Nat} {p q : Pk} (h : In9 cs o' q) (hd : o' + 9 ≤ o ∨ o + 9 ≤ o') : In9 (writeAt cs o (vals p)) o' q := fun j hj => by
  rcases hd with hd | hd
  · rw [writeAt_lo _ _ _ _ (by omega)]; exact h j hj
  · rw [writeAt_hi _ _ _ _ (by simp [vals]; omega)]; exact h j hj
theorem pput1 {w : World} {b i : Nat} {cs : Array Value} {T : TypeId} {fz : Nat × Nat} (h : w.heap[b]? = some (.cells cs T fz)) (u : Value) : (w.setCell ⟨b, i, none⟩ u).heap[b]? = some (.cells (cs.setIfInBounds i u) T fz) := by
  simp [World.setCell, Array.getElem?_modify, h]
/-- nine stores into one block -/
theorem pput9 {w : World} {b : Nat} {cs : Array Value} {T : TypeId} {fz : Nat × Nat} (h : w.heap[b]? = some (.cells cs T fz)) (o : Nat) (p : Pk) :
    ((((((((((w.setCell ⟨b, o, none⟩ (.int .i64 p.w)).setCell ⟨b, o + 1, none⟩ (.int .i64 p.h)).setCell ⟨b, o + 2, none⟩ (.int .i64 p.s)).setCell ⟨b, o + 3, none⟩ (.bool p.fx)).setCell ⟨b, o + 4, none⟩ (.bool p.fy)).setCell ⟨b, o + 5, none⟩ (.bool p.ex)).setCell ⟨b, o + 6, none⟩ (.int .i64 p.an)).setCell ⟨b, o + 7, none⟩ (.int .i64 p.px)).setCell ⟨b, o + 8, none⟩ (.int .i64 p.py))).heap[b]? = some (.cells (writeAt cs o (vals p)) T fz) :=
  pput1 (pput1 (pput1 (pput1 (pput1 (pput1 (pput1 (pput1 (pput1 h _) _) _) _) _) _) _) _) _
theorem pput9b {B b : Nat} {a w : World} (h : Below B a w) (hb : B ≤ b) (o : Nat) (p : Pk) : Below B a ((((((((((w.setCell ⟨b, o, none⟩ (.int .i64 p.w)).setCell ⟨b, o + 1, none⟩ (.int .i64 p.h)).setCell ⟨b, o + 2, none⟩ (.int .i64 p.s)).setCell ⟨b, o + 3, none⟩ (.bool p.fx)).setCell ⟨b, o + 4, none⟩ (.bool p.fy)).setCell ⟨b, o + 5, none⟩ (.bool p.ex)).setCell ⟨b, o + 6, none⟩ (.int .i64 p.an)).setCell ⟨b, o + 7, none⟩ (.int .i64 p.px)).setCell ⟨b, o + 8, none⟩ (.int .i64 p.py))) :=
  ((((((((h.setCell hb _).setCell hb _).setCell hb _).setCell hb _).setCell hb _).setCell hb _).setCell hb _).setCell hb _).setCell hb _
/-- cells of a block that are there -/
theorem there {w : World} {b : Nat} {cs : Array Value} {T : TypeId} {fz : Nat × Nat} (h : w.heap[b]? = some (.cells cs T fz)) {i : Nat} (hi : i < cs.size) : ∃ v, w.cell? ⟨b, i, none⟩ = some v :=
  ⟨cs[i], (cellH h i).trans (by simp [hi])⟩
theorem frozenH {w : World} {b : Nat} {cs : Array Value} {T : TypeId} (h : w.heap[b]? = some (.cells cs T (0, 0))) (i : Nat) : w.frozen? ⟨b, i, none⟩ = false := by simp [World.frozen?, h]
theorem made9 : ∃ f : Nat → Array Value, (∀ n, (f n).size = n * 9) ∧ ∀ (n : Nat) (w : World), n ≤ 1048576 → (Instr.makeSlice 28 (.int .i64 (n : Int)) (.int .i64 (n : Int))).run Tryd.prog w = .ok (.slice (some ⟨w.heap.size, 0, none⟩) n n) (w.alloc (.cells (f n) 23)) := by
  have hinfo : (Tryd.prog.info? 23).map (fun i => (i.zero, i.size, i.bytes)) = some (some (.agg #[.int .i64 0, .int .i64 0, .int .i64 0, .bool false, .bool false, .bool false, .int .i64 0, .int .i64 0, .int .i64 0]), 9, 56) := by kernel_rfl
  obtain ⟨i, hi, h1, h2, h3⟩ := info_parts hinfo
  refine ⟨fun n => madeCells (Value.agg #[.int .i64 0, .int .i64 0, .int .i64 0, .bool false, .bool false, .bool false, .int .i64 0, .int .i64 0, .int .i64 0]).cells (n * 9), fun n => size_madeCells _ _, fun n w hn => ?_⟩
  have hr := run_make (P := Tryd.prog) w 28 23 i _ Tryd.underlying28 hi h1 .i64 .i64 n n (by omega) (Int.le_refl _) (by rw [h3]; omega) (by omega)
  rw [h2] at hr
  simpa using hr
end Go.Proofs.YtjfdmdmlgdgchaaDoor
end
section
namespace Go.Proofs.YtjfdmdmlgdgchaaDoor
open Go.RowKit
set_option linter.unusedVariables false
set_option maxHeartbeats 1000000
def Blk9 (w : World) (g : Nat) (L : List Pk) : Prop := ∃ cs : Array Value, w.heap[g]? = some (.cells cs 23 (0, 0)) ∧ cs.size = L.length * 9 ∧ ∀ i p, L[i]? = some p → In9 cs (i * 9) p
theorem Blk9.pv {w : World} {g : Nat} {L : List Pk} (h : Blk9 w g L) : PV w (some ⟨g, 0, none⟩) L := by
  obtain ⟨cs, hh, hs, hc⟩ := h
  refine ⟨fun _ => ⟨g, 0, rfl, (Array.getElem?_eq_some_iff.1 hh).1, fun i p hp => ?_⟩⟩
  have := (hc i p hp).cells hh
  simpa using this
theorem Blk9.keep {w w' : World} {g : Nat} {L : List Pk} (h : Blk9 w g L) (hb : Below w.heap.size w w') : Blk9 w' g L := by
  obtain ⟨cs, hh, hs, hc⟩ := h
  exact ⟨cs, (hb.block g (Array.getElem?_eq_some_iff.1 hh).1).trans hh, hs, hc⟩
theorem Blk9.lt {w : World} {g : Nat} {L : List Pk} (h : Blk9 w g L) : g < w.heap.size := by obtain ⟨cs, hh, _⟩ := h; exact (Array.getElem?_eq_some_iff.1 hh).1
end Go.Proofs.YtjfdmdmlgdgchaaDoor
end
section
namespace Go.Proofs.YtjfdmdmlgdgchaaDoor
open Go.RowKit
set_option linter.unusedVariables false
set_option maxHeartbeats 2000000
set_option linter.unusedSimpArgs false
/-! Lists of items with room, marked. -/
def BZ (z : Int) : Bool := z % 3 == 0
def mkP9 (k : Nat) : List Value := [.int .i64 ((k : Int) * 9 + 1), .int .i64 ((k : Int) * 9 + 1 + 1), .int .i64 ((k : Int) * 9 + 1 + 1 + 1), .bool (BZ ((k : Int) * 9 + 1 + 1 + 1 + 1)), .bool (BZ ((k : Int) * 9 + 1 + 1 + 1 + 1 + 1)), .bool (BZ ((k : Int) * 9 + 1 + 1 + 1 + 1 + 1 + 1)), .int .i64 ((k : Int) * 9 + 1 + 1 + 1 + 1 + 1 + 1 + 1), .int .i64 ((k : Int) * 9 + 1 + 1 + 1 + 1 + 1 + 1 + 1 + 1), .int .i64 ((k : Int) * 9 + 1 + 1 + 1 + 1 + 1 + 1 + 1 + 1 + 1)]
theorem mkP9_len (k : Nat) : (mkP9 k).length = 9 := rfl
/-- a block of items, of which the first are these -/
def PB9 (w : World) (g cap : Nat) (L : List Pk) : Prop := L.length ≤ cap ∧ ∃ cs : Array Value, w.heap[g]? = some (.cells cs 23 (0, 0)) ∧ cs.size = cap * 9 ∧ ∀ i p, L[i]? = some p → In9 cs (i * 9) p
theorem PB9.lt {w : World} {g cap : Nat} {L : List Pk} (h : PB9 w g cap L) : g < w.heap.size := by obtain ⟨_, cs, hh, _⟩ := h; exact ltS hh
theorem PB9.keep {w w' : World} {g cap : Nat} {L : List Pk} (h : PB9 w g cap L) (hb : Below w.heap.size w w') : PB9 w' g cap L := by
  obtain ⟨hl, cs, hh, hs, hc⟩ := h
  exact ⟨hl, cs, (hb.block g (ltS hh)).trans hh, hs, hc⟩
theorem PB9.pv {w : World} {g cap : Nat} {L : List Pk} (h : PB9 w g cap L) : PV w (some ⟨g, 0, none⟩) L := by
  obtain ⟨hl, cs, hh, hs, hc⟩ := h
  exact ⟨fun _ => ⟨g, 0, rfl, ltS hh, fun i p hp => by
    have hi := hc i p hp
    rw [Nat.zero_add]
    exact ⟨(cellS hh _).trans (hi 0 (by omega)), (cellS hh _).trans (hi 1 (by omega)), (cellS hh _).trans (hi 2 (by omega)), (cellS hh _).trans (hi 3 (by omega)), (cellS hh _).trans (hi 4 (by omega)), (cellS hh _).trans (hi 5 (by omega)), (cellS hh _).trans (hi 6 (by omega)), (cellS hh _).trans (hi 7 (by omega)), (cellS hh _).trans (hi 8 (by omega))⟩⟩⟩
/-- the marked block -/
def PM9 (w : World) (g cap n : Nat) : Prop := n ≤ cap ∧ ∃ cs : Array Value, w.heap[g]? = some (.cells cs 23 (0, 0)) ∧ cs.size = cap * 9 ∧ ∀ i, i < n → InS cs (i * 9) (mkP9 i)
theorem PM9.keep {w w' : World} {g cap n : Nat} (h : PM9 w g cap n) (hb : Below w.heap.size w w') : PM9 w' g cap n := by
  obtain ⟨hl, cs, hh, hs, hc⟩ := h
  exact ⟨hl, cs, (hb.block g (ltS hh)).trans hh, hs, hc⟩
theorem put9S {w : World} {g : Nat} {cs : Array Value} {T : TypeId} {fz : Nat × Nat} (h : w.heap[g]? = some (.cells cs T fz)) (o : Nat) (v0 v1 v2 v3 v4 v5 v6 v7 v8 : Value) :
    (((((((((w.setCell ⟨g, o, none⟩ v0).setCell ⟨g, o + 1, none⟩ v1).setCell ⟨g, o + 1 + 1, none⟩ v2).setCell ⟨g, o + 1 + 1 + 1, none⟩ v3).setCell ⟨g, o + 1 + 1 + 1 + 1, none⟩ v4).setCell ⟨g, o + 1 + 1 + 1 + 1 + 1, none⟩ v5).setCell ⟨g, o + 1 + 1 + 1 + 1 + 1 + 1, none⟩ v6).setCell ⟨g, o + 1 + 1 + 1 + 1 + 1 + 1 + 1, none⟩ v7).setCell ⟨g, o + 1 + 1 + 1 + 1 + 1 + 1 + 1 + 1, none⟩ v8).heap[g]? = some (.cells (wrAt cs o [v0, v1, v2, v3, v4, v5, v6, v7, v8]) T fz) :=
  putS (putS (putS (putS (putS (putS (putS (putS (putS h v0) v1) v2) v3) v4) v5) v6) v7) v8
set_option maxRecDepth 100000 in
theorem markP9_v (g cap n : Nat) (w : World) (hn : n ≤ cap) (h : ∃ cs : Array Value, w.heap[g]? = some (.cells cs 23 (0, 0)) ∧ cs.size = cap * 9) (hL : n ≤ 1000) :
    Calls Tryd.prog 14 #[.slice (some ⟨g, 0, none⟩) n cap, .int .i64 1] w fun e w' => e = .returned (.int .i64 ((n : Int) * 9 + 1)) ∧ PM9 w' g cap n ∧ w.grownBy w' (some g) := by
  obtain ⟨cs0, hh0, hs0⟩ := h
  have H0 := Lib.hid (And.intro hh0 hs0)
  clear hh0 hs0
  go_enter Tryd.func14, Tryd.ntmps14
  go_wp2_with fail
  go_loopw [1, 5] (fun kk i wr => ∃ k : Nat, k ≤ n ∧ i = .int .i64 k ∧ kk = .int .i64 ((k : Int) * 9 + 1) ∧ (∃ cs : Array Value, wr.heap[g]? = some (.cells cs 23 (0, 0)) ∧ cs.size = cap * 9 ∧ ∀ i, i < k → InS cs (i * 9) (mkP9 i)) ∧ w.grownBy wr (some g)) (fun _ i _ => n - (intOf i).toNat)
  case atStart => exact ⟨0, by omega, rfl, rfl, ⟨_, H0.out.1, H0.out.2, fun i hi => absurd hi (by omega)⟩, greflS _ _⟩
  case round =>
    obtain ⟨k, hk, rfl, rfl, ⟨cs, hh, hs, hc⟩, hB⟩ := hrel
    clear H0
    by_cases hlt : k < n
    · have hd : decide ((k : Int) < (n : Int)) = true := by simpa using hlt
      have hsz : k * 9 + 9 ≤ cs.size := by rw [hs]; omega
      obtain ⟨y0, d0⟩ := thereS hh (i := k * 9) (by omega)
      obtain ⟨y1, d1⟩ := thereS hh (i := k * 9 + 1) (by omega)
      obtain ⟨y2, d2⟩ := thereS hh (i := k * 9 + 2) (by omega)
      obtain ⟨y3, d3⟩ := thereS hh (i := k * 9 + 3) (by omega)
      obtain ⟨y4, d4⟩ := thereS hh (i := k * 9 + 4) (by omega)
      obtain ⟨y5, d5⟩ := thereS hh (i := k * 9 + 5) (by omega)
      obtain ⟨y6, d6⟩ := thereS hh (i := k * 9 + 6) (by omega)
      obtain ⟨y7, d7⟩ := thereS hh (i := k * 9 + 7) (by omega)
      obtain ⟨y8, d8⟩ := thereS hh (i := k * 9 + 8) (by omega)
      have f0 := frozenS hh (k * 9)
      have f1 := frozenS hh (k * 9 + 1)
      have f2 := frozenS hh (k * 9 + 2)
      have f3 := frozenS hh (k * 9 + 3)
      have f4 := frozenS hh (k * 9 + 4)
      have f5 := frozenS hh (k * 9 + 5)
      have f6 := frozenS hh (k * 9 + 6)
      have f7 := frozenS hh (k * 9 + 7)
      have f8 := frozenS hh (k * 9 + 8)
      have HS := Lib.hid hs
      have HC := Lib.hid hc
      have HB := Lib.hid hB
      have E1 := Lib.hid (put9S hh (k * 9) (.int .i64 ((k : Int) * 9 + 1)) (.int .i64 ((k : Int) * 9 + 1 + 1)) (.int .i64 ((k : Int) * 9 + 1 + 1 + 1)) (.bool (BZ ((k : Int) * 9 + 1 + 1 + 1 + 1))) (.bool (BZ ((k : Int) * 9 + 1 + 1 + 1 + 1 + 1))) (.bool (BZ ((k : Int) * 9 + 1 + 1 + 1 + 1 + 1 + 1))) (.int .i64 ((k : Int) * 9 + 1 + 1 + 1 + 1 + 1 + 1 + 1)) (.int .i64 ((k : Int) * 9 + 1 + 1 + 1 + 1 + 1 + 1 + 1 + 1)) (.int .i64 ((k : Int) * 9 + 1 + 1 + 1 + 1 + 1 + 1 + 1 + 1 + 1)))
      clear hh hs hc hB
      go_wp2_with fail
      go_roundw
      case rel =>
        refine ⟨k + 1, by omega, by go_num, by go_num, ⟨_, E1.out, (wrAt_size _ _ _).trans HS.out, fun i hi => ?_⟩, ?_⟩
        · by_cases e : i = k
          · subst e; exact InS.write (by simp only [mkP9, List.length_cons, List.length_nil]; omega)
          · exact (HC.out i (by omega)).keepS (.inl (by simp only [mkP9, List.length_cons, List.length_nil]; omega))
        · exact gsetS (gsetS (gsetS (gsetS (gsetS (gsetS (gsetS (gsetS (gsetS (HB.out) _ _) _ _) _ _) _ _) _ _) _ _) _ _) _ _) _ _
      case measure => simp [intOf]; omega
    · have hd : decide ((k : Int) < (n : Int)) = false := by simp; omega
      obtain rfl : k = n := by omega
      have HK := Lib.hid (show PM9 wr g cap k from ⟨hn, cs, hh, hs, hc⟩)
      have HB := Lib.hid hB
      clear hh hs hB hc
      go_wp2
      go_ret
      exact ⟨rfl, HK.out, HB.out⟩
set_option maxRecDepth 100000 in
theorem heldP9_v (g cap n : Nat) (w : World) (h : PM9 w g cap n) (hL : n ≤ 1000) :
    Calls Tryd.prog 15 #[.slice (some ⟨g, 0, none⟩) n cap, .int .i64 1] w fun e w' => e = .returned (.int .i64 ((n : Int) * 9 + 1)) ∧ Below w.heap.size w w' := by
  have H := Lib.hid h
  clear h
  go_enter Tryd.func15, Tryd.ntmps15
  go_wp2_with fail
  go_loopw [1, 5] (fun kk i wr => ∃ k : Nat, k ≤ n ∧ i = .int .i64 k ∧ kk = .int .i64 ((k : Int) * 9 + 1) ∧ Below w.heap.size w wr) (fun _ i _ => n - (intOf i).toNat)
  case atStart => exact ⟨0, by omega, rfl, rfl, Below.refl _ _⟩
  case round =>
    obtain ⟨k, hk, rfl, rfl, hB⟩ := hrel
    by_cases hlt : k < n
    · have hd : decide ((k : Int) < (n : Int)) = true := by simpa using hlt
      obtain ⟨hcap, cs, hh, hs, hc⟩ := H.out.keep hB
      have hi := hc k hlt
      have c0 : wr.cell? ⟨g, k * 9, none⟩ = some (.int .i64 ((k : Int) * 9 + 1)) := (cellS hh _).trans (hi 0 _ rfl)
      have c1 : wr.cell? ⟨g, k * 9 + 1, none⟩ = some (.int .i64 ((k : Int) * 9 + 1 + 1)) := (cellS hh _).trans (hi 1 _ rfl)
      have c2 : wr.cell? ⟨g, k * 9 + 2, none⟩ = some (.int .i64 ((k : Int) * 9 + 1 + 1 + 1)) := (cellS hh _).trans (hi 2 _ rfl)
      have c3 : wr.cell? ⟨g, k * 9 + 3, none⟩ = some (.bool (((k : Int) * 9 + 1 + 1 + 1 + 1) % 3 == 0)) := (cellS hh _).trans (hi 3 _ rfl)
      have c4 : wr.cell? ⟨g, k * 9 + 4, none⟩ = some (.bool (((k : Int) * 9 + 1 + 1 + 1 + 1 + 1) % 3 == 0)) := (cellS hh _).trans (hi 4 _ rfl)
      have c5 : wr.cell? ⟨g, k * 9 + 5, none⟩ = some (.bool (((k : Int) * 9 + 1 + 1 + 1 + 1 + 1 + 1) % 3 == 0)) := (cellS hh _).trans (hi 5 _ rfl)
      have c6 : wr.cell? ⟨g, k * 9 + 6, none⟩ = some (.int .i64 ((k : Int) * 9 + 1 + 1 + 1 + 1 + 1 + 1 + 1)) := (cellS hh _).trans (hi 6 _ rfl)
      have c7 : wr.cell? ⟨g, k * 9 + 7, none⟩ = some (.int .i64 ((k : Int) * 9 + 1 + 1 + 1 + 1 + 1 + 1 + 1 + 1)) := (cellS hh _).trans (hi 7 _ rfl)
      have c8 : wr.cell? ⟨g, k * 9 + 8, none⟩ = some (.int .i64 ((k : Int) * 9 + 1 + 1 + 1 + 1 + 1 + 1 + 1 + 1 + 1)) := (cellS hh _).trans (hi 8 _ rfl)
      have HB := Lib.hid hB
      clear hB hh hs hc hi
      go_wp2_with fail
      go_roundw
      case rel => exact ⟨k + 1, by omega, by go_num, by go_num, HB.out⟩
      case measure => simp [intOf]; omega
    · have hd : decide ((k : Int) < (n : Int)) = false := by simp; omega
      obtain rfl : k = n := by omega
      have HB := Lib.hid hB
      clear hB
      go_wp2
      go_ret
      exact ⟨rfl, HB.out⟩
set_option maxRecDepth 100000 in
theorem markP9_nil (w : World) : Calls Tryd.prog 14 #[.slice none 0 0, .int .i64 1] w fun e w' => e = .returned (.int .i64 1) ∧ w' = w := by
  go_enter Tryd.func14, Tryd.ntmps14
  go_wp2_with fail
  go_loopw [1, 5] (fun kk i wr => i = .int .i64 0 ∧ kk = .int .i64 1 ∧ wr = w) (fun _ i _ => 0)
  case atStart => exact ⟨rfl, rfl, rfl⟩
  case round =>
    obtain ⟨rfl, rfl, rfl⟩ := hrel
    go_wp2
    go_ret
    exact ⟨rfl, rfl⟩
set_option maxRecDepth 100000 in
theorem heldP9_nil (w : World) : Calls Tryd.prog 15 #[.slice none 0 0, .int .i64 1] w fun e w' => e = .returned (.int .i64 1) ∧ w' = w := by
  go_enter Tryd.func15, Tryd.ntmps15
  go_wp2_with fail
  go_loopw [1, 5] (fun kk i wr => i = .int .i64 0 ∧ kk = .int .i64 1 ∧ wr = w) (fun _ i _ => 0)
  case atStart => exact ⟨rfl, rfl, rfl⟩
  case round =>
    obtain ⟨rfl, rfl, rfl⟩ := hrel
    go_wp2
    go_ret
    exact ⟨rfl, rfl⟩
end Go.Proofs.YtjfdmdmlgdgchaaDoor
end
section
namespace Go.Proofs.YtjfdmdmlgdgchaaDoor
open Go.RowKit
set_option linter.unusedVariables false
set_option maxHeartbeats 1000000
def isIn (lo hi : Int) : Value → Bool | .int .i64 z => decide (lo ≤ z ∧ z ≤ hi) | _ => false
theorem isIn_ex {lo hi : Int} {v : Value} (h : isIn lo hi v = true) : ∃ z, v = .int .i64 z ∧ lo ≤ z ∧ z ≤ hi := by
  unfold isIn at h
  split at h
  · exact ⟨_, rfl, by simpa using h⟩
  · cases h
/-- one of a literal's numbers, with their bounds -/
theorem one_lit_in (lo hi : Int) {B rb : Nat} {A : Option Addr} {l c m k : Nat} {cs : Array Value} {T : TypeId} (w : World) (h : Rd B rb A l c m w) (hm : m ≤ 1000000) (hk : cs.size = k) (h1 : 1 ≤ k) (h2 : k ≤ 100) (ha : cs.toList.all (isIn lo hi) = true) :
    Calls Tryd.prog 55 #[.pointer (some ⟨rb, 0, none⟩), .slice (some ⟨w.heap.size, 0, none⟩) k k] (w.alloc (.cells cs T)) fun e w' => (∃ z, e = .returned (.int .i64 z) ∧ lo ≤ z ∧ z ≤ hi) ∧ Rd B rb A l c (m + 1) w' ∧ Chg [rb] w w' := by
  have hlt := h.lt
  have hg4 : ∀ j, j < k → ∃ z, (w.alloc (.cells cs T)).cell? ⟨w.heap.size, j, none⟩ = some (.int .i64 z) ∧ lo ≤ z ∧ z ≤ hi := fun j hj => by
    have hc : cs[j]? = some cs[j] := by simp [hk, hj]
    obtain ⟨z, hz, hb⟩ := isIn_ex (List.all_eq_true.1 ha cs[j] (by simp))
    refine ⟨z, ?_, hb⟩
    rw [← hz, ← hc]
    exact cell_of_heap (heap_alloc_new w (.cells cs T)) j
  go_enter Tryd.func55, Tryd.ntmps55
  go_wp2_with fail
  refine (pick_any _ _ (h.alloc _) hm).mono ?_
  rintro e w1 ⟨⟨v, rfl, hv⟩, hr, hc⟩
  obtain ⟨v0, v1⟩ := hv (by omega)
  obtain ⟨j, rfl⟩ := Int.eq_ofNat_of_zero_le v0
  obtain ⟨z, hz, hb⟩ := hg4 j (by omega)
  have hz' := (hc.cell (p := ⟨w.heap.size, j, none⟩) (by simp) (by simp; omega)).trans hz
  have hjk : j < k := by omega
  have Hr := Lib.hid hr
  have Hc := Lib.hid (((Chg.refl [rb] w).alloc (.cells cs T)).trans hc)
  clear hr hc hv hz hg4 h
  go_wp2
  go_ret
  exact ⟨⟨_, rfl, hb⟩, Hr.out, Hc.out⟩
end Go.Proofs.YtjfdmdmlgdgchaaDoor
end
section
namespace Go.Proofs.YtjfdmdmlgdgchaaDoor
open Go.RowKit
set_option linter.unusedVariables false
set_option maxHeartbeats 1000000
def pvals : List Pk → List Value
  | [] => []
  | p :: t => [.int .i64 p.w, .int .i64 p.h, .int .i64 p.s, .bool p.fx, .bool p.fy, .bool p.ex, .int .i64 p.an, .int .i64 p.px, .int .i64 p.py] ++ pvals t
theorem pvals_append (A B : List Pk) : pvals (A ++ B) = pvals A ++ pvals B := by
  induction A with
  | nil => rfl
  | cons r t ih => simp [pvals, ih]
theorem own_chg {w w' : World} {base rb : Nat} {e : TypeId} {size : Nat} {v : Value} {n : Nat} {xs : List Value} (h : w.ownsRow base e size v n xs) (hc : Chg [rb] w w') (hr : rb < base) : w'.ownsRow base e size v n xs :=
  h.kept (row := some rb) ⟨hc.os, hc.tape, hc.output, hc.size, fun k hk hne => hc.block k hk (by simp; exact fun e => hne (by rw [e]))⟩ (by
    cases hv : v.ownBlock with
    | none => exact .inl rfl
    | some g => exact .inr (fun e => by have := h.lt g hv; cases e; omega))
theorem pack_info : ∃ (i : TypeInfo) (z : Value), Tryd.prog.info? 23 = some i ∧ i.zero = some z ∧ i.size = 9 ∧ i.bytes = 56 ∧ z.cells.size = 9 := by
  have hinfo : (Tryd.prog.info? 23).map (fun i => (i.zero, i.size, i.bytes)) = some (some (.agg #[.int .i64 0, .int .i64 0, .int .i64 0, .bool false, .bool false, .bool false, .int .i64 0, .int .i64 0, .int .i64 0]), 9, 56) := by kernel_rfl
  obtain ⟨i, hi, h1, h2, h3⟩ := info_parts hinfo
  exact ⟨i, _, hi, h1, h2, h3, rfl⟩
def vals9 (p : Pk) : List Value := [.int .i64 p.w, .int .i64 p.h, .int .i64 p.s, .bool p.fx, .bool p.fy, .bool p.ex, .int .i64 p.an, .int .i64 p.px, .int .i64 p.py]
theorem pvals_snoc (L : List Pk) (p : Pk) : pvals L ++ vals9 p = pvals (L ++ [p]) := by rw [pvals_append]; simp [pvals, vals9]
theorem new9 (W : World) (p : Pk) (T : TypeId) : ∀ (j : Nat) (u : Value), (vals9 p)[j]? = some u → (W.alloc (.cells #[.int .i64 p.w, .int .i64 p.h, .int .i64 p.s, .bool p.fx, .bool p.fy, .bool p.ex, .int .i64 p.an, .int .i64 p.px, .int .i64 p.py] T)).cell? ((⟨W.heap.size, 0, none⟩ : Addr).add j) = some u := fun j u h => by
  have hadd : (⟨W.heap.size, 0, none⟩ : Addr).add j = ⟨W.heap.size, j, none⟩ := by unfold Addr.add; split <;> simp_all
  rw [hadd]
  exact (cell_of_heap (heap_alloc_new W _) j).trans (by simpa [vals9] using h)
theorem vals9_one (p : Pk) : ∀ u ∈ vals9 p, u.oneCell' = true := by intro u hu; simp [vals9] at hu; rcases hu with rfl | rfl | rfl | rfl | rfl | rfl | rfl | rfl | rfl <;> rfl
theorem chg_grown {S : List Nat} {a W w5 : World} {v : Value} {o : Obj} {lo hi : Nat} (h : Chg S a W) (hg : (W.alloc o).grownBy w5 v.ownBlock) (hob : ∀ k, v.ownBlock = some k → lo ≤ k ∧ k < hi) (hlo : a.heap.size ≤ lo) : Chg S a w5 :=
  ⟨hg.os.trans (h.alloc o).os, hg.tape.trans (h.alloc o).tape, hg.output.trans (h.alloc o).output, Nat.le_trans (h.alloc o).size hg.size, fun k hk hs => (hg.block k (Nat.lt_of_lt_of_le hk (h.alloc o).size) (fun e => by have := hob k e.symm; omega)).trans ((h.alloc o).block k hk hs)⟩
theorem rd_grown {B rb : Nat} {A : Option Addr} {n c m : Nat} {W w5 : World} {v : Value} {o : Obj} {lo hi : Nat} (h : Rd B rb A n c m W) (hg : (W.alloc o).grownBy w5 v.ownBlock) (hob : ∀ k, v.ownBlock = some k → lo ≤ k ∧ k < hi) (hlo : rb < lo) : Rd B rb A n c m w5 := by
  have hb := h.base
  cases hv : v.ownBlock with
  | none =>
    rw [hv] at hg
    exact h.keep (S := []) ⟨hg.os, hg.tape, hg.output, Nat.le_trans (by simp) hg.size, fun k hk _ => (hg.block k (by simp; omega) (fun e => by cases e)).trans (Below.heap_alloc _ _ _ hk)⟩ (by simp)
  | some g =>
    have := hob g hv
    rw [hv] at hg
    exact h.keep (S := [g]) (Chg.of_grown ((Chg.refl [g] W).alloc o) hg (.inl (by simp))) (by simp; omega)
end Go.Proofs.YtjfdmdmlgdgchaaDoor
end
section
namespace Go.Proofs.YtjfdmdmlgdgchaaDoor
open Go.RowKit
set_option linter.unusedVariables false
set_option linter.unusedSimpArgs false
set_option maxHeartbeats 2000000
attribute [local go_sem] growUpon_value growUpon_skip growUpon_enter
/-! ParsePacks, both sides. -/
theorem pvals_getP : ∀ {M : List Pk} {i : Nat} {r : Pk}, M[i]? = some r → ∀ j, j < 9 → (pvals M)[i * 9 + j]? = (vals9 r)[j]?
  | [], i, r, h, _, _ => by simp at h
  | q :: t, 0, r, h, j, hj => by
    simp at h; subst h
    show (vals9 q ++ pvals t)[0 * 9 + j]? = _
    rw [List.getElem?_append_left (by simp [vals9]; omega)]; simp
  | q :: t, i + 1, r, h, j, hj => by
    show (vals9 q ++ pvals t)[(i + 1) * 9 + j]? = _
    rw [List.getElem?_append_right (by simp [vals9]; omega)]
    have := pvals_getP (M := t) (i := i) (r := r) (by simpa using h) j hj
    rw [← this]; congr 1; simp [vals9]; omega
/-- items of one's own -/
def OWP (base : Nat) (L : List Pk) (w : World) (v : Value) : Prop := base ≤ w.heap.size ∧ w.ownsRow base 23 9 v L.length (pvals L)
theorem OWP.keep {base : Nat} {L : List Pk} {w w' : World} {v : Value} (h : OWP base L w v) (hb : Below w.heap.size w w') : OWP base L w' v :=
  ⟨Nat.le_trans h.1 hb.size, h.2.kept (row := none) ⟨hb.os, hb.tape, hb.output, hb.size, fun k hk _ => hb.block k hk⟩ (by cases e : v.ownBlock <;> simp)⟩
theorem OWP.slice {base : Nat} {L : List Pk} {w : World} {v : Value} (h : OWP base L w v) : ∃ A c, v = .slice A L.length c := by
  rcases h.2.2 with ⟨rfl, h0⟩ | ⟨g, cap, cur, rfl, _⟩
  · exact ⟨none, 0, by rw [h0]⟩
  · exact ⟨_, _, rfl⟩
/-- a list in a block from lo on that has room, or none -/
def GPO (lo : Nat) (w : World) (v : Value) (M : List Pk) : Prop := (v = .slice none 0 0 ∧ M = []) ∨ ∃ g cap n, v = .slice (some ⟨g, 0, none⟩) n cap ∧ n = M.length ∧ lo ≤ g ∧ PB9 w g cap M
theorem OWP.go {base : Nat} {L : List Pk} {w : World} {v : Value} (h : OWP base L w v) : GPO base w v L := by
  rcases h.2.2 with ⟨rfl, h0⟩ | ⟨g, cap, cur, rfl, hb, hg, hc, _, hs, ht⟩
  · exact .inl ⟨rfl, List.length_eq_zero_iff.1 (by omega)⟩
  · refine .inr ⟨g, cap, L.length, rfl, rfl, hb, hc, cur, hg, hs, fun i r hr j hj => ?_⟩
    have e : (vals r)[j]? = (vals9 r)[j]? := rfl
    rw [e, ← pvals_getP hr j hj, ← ht, List.getElem?_take]
    have : i < L.length := (List.getElem?_eq_some_iff.1 hr).1
    rw [if_pos (by omega)]; simp
theorem GPO.keep {lo : Nat} {w w' : World} {v : Value} {M : List Pk} (h : GPO lo w v M) (hb : Below w.heap.size w w') : GPO lo w' v M := h.imp id fun ⟨g, cap, n, h1, h2, h3, hk⟩ => ⟨g, cap, n, h1, h2, h3, hk.keep hb⟩
/-- a value that reads as items -/
def PRd (w : World) (v : Value) (M : List Pk) : Prop := ∃ A c n, v = .slice A n c ∧ n = M.length ∧ n ≤ c ∧ PV w A M
theorem GPO.rd {lo : Nat} {w : World} {v : Value} {M : List Pk} (h : GPO lo w v M) : PRd w v M := by
  rcases h with ⟨rfl, rfl⟩ | ⟨g, cap, n, rfl, hn, _, hk⟩
  · exact ⟨none, 0, 0, rfl, rfl, Nat.le_refl _, ⟨fun h => absurd h (by simp)⟩⟩
  · exact ⟨_, _, _, rfl, hn, by have := hk.1; omega, hk.pv⟩
theorem PRd.keep {w w' : World} {v : Value} {M : List Pk} (h : PRd w v M) (hb : Below w.heap.size w w') : PRd w' v M := let ⟨A, c, n, h1, h2, h3, hk⟩ := h; ⟨A, c, n, h1, h2, h3, hk.keep hb⟩
theorem neq_nil (w : World) : (binOp .neq 9 (tx []) (.string ⟨#[]⟩)).run Tryd.prog w = .ok (.bool false) w := by
  unfold tx
  go_simp
theorem neq_no (a : List UInt8) (h : a ≠ []) (w : World) : (binOp .neq 9 (tx a) (.string ⟨#[]⟩)).run Tryd.prog w = .ok (.bool true) w := by
  have h' := txs_ne h
  unfold tx
  go_simp
def slen : Value → Nat
  | .string s => s.size
  | _ => 0
theorem slen_tx (l : List UInt8) : slen (tx l) = l.length := by simp [slen, tx, ByteArray.size]
theorem below_drewN {B : Nat} {a w : World} (h : Below B a w) (n : Nat) : Below B a (w.drewN n) := ⟨h.os, h.tape, h.output, h.size, h.block⟩
theorem cut_nl (r x q : List UInt8) (f : Bool) (hc : Lib.cut r [10] = (x, q, f)) (w : World) (hl : r.length ≤ 1048576) (hm : MLN w) : Calls Tryd.prog 28 #[tx r, .string ⟨#[10]⟩] w fun e w' => e = .returned (.tuple #[tx x, tx q, .bool f]) ∧ Below w.heap.size w w' := by
  obtain ⟨m, hm⟩ := hm
  refine (Tryd.strings_Cut ⟨r.toArray⟩ ⟨#[10]⟩ m w (by show r.toArray.size < _; simp; omega) hm).mono ?_
  rintro e w' ⟨rfl, n, rfl⟩
  have e1 : Lib.cut (⟨r.toArray⟩ : ByteArray).data.toList (⟨#[10]⟩ : ByteArray).data.toList = (x, q, f) := hc
  rw [e1]
  exact ⟨rfl, below_drewN (Below.refl _ _) n⟩
theorem ansV_ex (R : Option PKV) : ∃ (p : PKV) (b : Bool), ansV R = .tuple #[.agg #[.int .i64 p.w0, .int .i64 p.h0, .int .i64 p.s, .bool p.fx, .bool p.fy, .bool p.ex, .int .i64 p.an, .int .i64 p.px, .int .i64 p.py], .bool b] ∧ (b = true → R = some p) ∧ (b = false → R = none) := by
  cases R with
  | none => exact ⟨⟨0, 0, 0, false, false, false, 0, 0, 0⟩, false, rfl, (by simp), (by simp)⟩
  | some p => exact ⟨p, true, rfl, (by simp), (by simp)⟩
theorem parse_ex (x : List UInt8) (hx : x.length ≤ 1048576) : ∃ (p : PKV) (b : Bool), (b = true → prs x = some p) ∧ (b = false → prs x = none) ∧ ∀ w, LT.TW w → MLN w → Calls Tryd.prog 9 #[tx x] w fun e w' => e = .returned (.tuple #[.agg #[.int .i64 p.w0, .int .i64 p.h0, .int .i64 p.s, .bool p.fx, .bool p.fy, .bool p.ex, .int .i64 p.an, .int .i64 p.px, .int .i64 p.py], .bool b]) ∧ Below w.heap.size w w' := by
  obtain ⟨p, b, e, h1, h2⟩ := ansV_ex (prs x)
  exact ⟨p, b, h1, h2, fun w ht hm => by rw [← e]; exact ParsePack_v x w hx ht hm⟩
theorem below_ownK {n : Nat} {a W w5 : World} {v : Value} {o : Obj} {lo hi : Nat} (h : Below n a W) (hg : (W.alloc o).grownBy w5 v.ownBlock) (hob : ∀ k, v.ownBlock = some k → lo ≤ k ∧ k < hi) (hlo : n ≤ lo) (hn : n ≤ a.heap.size) : Below n a w5 :=
  have h' : Below n a (W.alloc o) := h.alloc (Nat.le_trans hn h.size) o
  ⟨hg.os.trans h'.os, hg.tape.trans h'.tape, hg.output.trans h'.output, Nat.le_trans h'.size hg.size, fun k hk => (hg.block k (Nat.lt_of_lt_of_le (Nat.lt_of_lt_of_le hk hn) h'.size) (fun e => by have := hob k e.symm; omega)).trans (h'.block k hk)⟩
/-- what is answered -/
def PKR (lo : Nat) (w : World) (v : Value) (b : Bool) (l : List UInt8) : Prop := (∃ L, b = true ∧ pks l = some L ∧ GPO lo w v L) ∨ (b = false ∧ pks l = none ∧ v = .slice none 0 0)
set_option maxRecDepth 100000 in
theorem ParsePacks_v (l : List UInt8) (w : World) (hl : l.length ≤ 1048576) (hT : LT.TW w) (hm : MLN w) :
    Calls Tryd.prog 12 #[tx l] w fun e w' => (∃ v b, e = .returned (.tuple #[v, .bool b]) ∧ PKR w.heap.size w' v b l) ∧ Below w.heap.size w w' := by
  obtain ⟨ti, tz, ti1, ti2, ti3, ti4, ti5⟩ := pack_info
  have HT := Lib.hid hT
  have HM := Lib.hid hm
  clear hT hm
  go_enter Tryd.func12, Tryd.ntmps12
  go_wp2_with fail
  go_loopw [0, 4] (fun sv v wr => ∃ (r : List UInt8) (A : List Pk), sv = tx r ∧ r.length ≤ l.length ∧ A.length ≤ 7 ∧ PkAt l A (splitL 10 r) ∧ OWP w.heap.size A wr v ∧ Below w.heap.size w wr) (fun sv _ _ => slen sv)
  case atStart => exact ⟨l, [], rfl, Nat.le_refl _, by simp, PkAt.start l, ⟨Nat.le_refl _, World.ownsRow_nil _ _ _ _⟩, Below.refl _ _⟩
  case round =>
    obtain ⟨r, A, rfl, hrl, hA, hPk, ho, hB⟩ := hrel
    obtain ⟨a0, c0, rfl⟩ := ho.slice
    have HO := Lib.hid ho
    have HB := Lib.hid hB
    have HP := Lib.hid hPk
    have e1 := fun s t w => eqg_cc .neq s t r ⟨#[]⟩ w
    clear ho hB hPk
    by_cases hr : r = []
    · subst hr
      have e2 := neq_nil
      go_wp2
      exact bodyPost_ret (v := .tuple #[.slice a0 A.length c0, .bool true]) (by simp only [results, Tryd.results12]; go_simp) rfl ⟨⟨_, _, rfl, .inl ⟨A, rfl, HP.out.done hA, HO.out.go⟩⟩, HB.out⟩
    · have e2 := neq_no r hr
      have HRR := Lib.hid hr
      clear hr
      rcases cut_cases r with ⟨hno, hcut⟩ | ⟨x, q, hrq, hno, hcut⟩
      · have HN := Lib.hid hno
        have HCT := Lib.hid hcut
        obtain ⟨p, b, hp1, hp2, hpc⟩ := parse_ex r (by omega)
        have HPC := Lib.hid hpc
        have hlr : r.length ≤ 1048576 := by omega
        clear hno hcut hp1 hp2 hpc
        go_wp2_with fail
        with_reducible refine (cut_nl r r [] false HCT.out _ hlr (HM.out.keep HB.out)).mono ?_
        rintro e w1 ⟨rfl, hb⟩
        clear e1 e2
        replace HB := Lib.hid (bkeep2 HB.out hb)
        clear hb
        go_wp2_with fail
        with_reducible refine (HPC.out _ (HT.out.keep HB.out) (HM.out.keep HB.out)).mono ?_
        rintro e w2 ⟨rfl, hb⟩
        replace HB := Lib.hid (bkeep2 HB.out hb)
        clear hb
        go_wp2
        exact bodyPost_ret (v := .tuple #[.slice none 0 0, .bool false]) (by simp only [results, Tryd.results12]; go_simp) rfl ⟨⟨_, _, rfl, .inr ⟨rfl, (show PkAt l A [r] from splitL_miss HN.out ▸ HP.out).last HRR.out, rfl⟩⟩, balloc HB.out⟩
      · have hlx : x.length ≤ 1048576 := by have := congrArg List.length hrq; simp at this; omega
        have hlq : q.length + 1 ≤ r.length := by have := congrArg List.length hrq; simp at this; omega
        have HP2 := Lib.hid (show PkAt l A (x :: splitL 10 q) from by have := HP.out; rw [hrq, splitL_hit hno] at this; exact this)
        have HCT := Lib.hid hcut
        obtain ⟨p, b, hp1, hp2, hpc⟩ := parse_ex x hlx
        have HP1 := Lib.hid hp1
        have HPN := Lib.hid hp2
        have HPC := Lib.hid hpc
        have hlr : r.length ≤ 1048576 := by omega
        clear hno hcut hp1 hp2 hpc hrq
        go_wp2_with fail
        with_reducible refine (cut_nl r x q true HCT.out _ hlr (HM.out.keep HB.out)).mono ?_
        rintro e w1 ⟨rfl, hb⟩
        clear e1 e2
        replace HO := Lib.hid (HO.out.keep hb)
        replace HB := Lib.hid (bkeep2 HB.out hb)
        clear hb
        go_wp2_with fail
        with_reducible refine (HPC.out _ (HT.out.keep HB.out) (HM.out.keep HB.out)).mono ?_
        rintro e w2 ⟨rfl, hb⟩
        replace HO := Lib.hid (HO.out.keep hb)
        replace HB := Lib.hid (bkeep2 HB.out hb)
        clear hb
        cases b
        · go_wp2
          exact bodyPost_ret (v := .tuple #[.slice none 0 0, .bool false]) (by simp only [results, Tryd.results12]; go_simp) rfl ⟨⟨_, _, rfl, .inr ⟨rfl, HP2.out.none (splitL_ne 10 q) (HPN.out trivial), rfl⟩⟩, balloc HB.out⟩
        · have hp := HP1.out rfl
          by_cases h7 : A.length = 7
          · have h7b : ((A.length : Int) == 7) = true := by rw [beq_iff_eq]; omega
            have h7i : (A.length : Int) = 7 := by omega
            have HPF := Lib.hid (HP2.out.full (splitL_ne 10 q) hp h7)
            clear hp h7
            go_wp2
            exact bodyPost_ret (v := .tuple #[.slice none 0 0, .bool false]) (by simp only [results, Tryd.results12]; go_simp) rfl ⟨⟨_, _, rfl, .inr ⟨rfl, HPF.out, rfl⟩⟩, balloc HB.out⟩
          · have h7b : ((A.length : Int) == 7) = false := by rw [beq_eq_false_iff_ne]; omega
            have h7i : ¬ (A.length : Int) = 7 := by omega
            have HPS := Lib.hid (HP2.out.step (splitL_ne 10 q) hp)
            have hb2 : Below w2.heap.size w2 (w2.alloc (.cells #[.int .i64 p.w0, .int .i64 p.h0, .int .i64 p.s, .bool p.fx, .bool p.fy, .bool p.ex, .int .i64 p.an, .int .i64 p.px, .int .i64 p.py] 23 (0, 0))) := balloc (Below.refl _ _)
            have HO2 := Lib.hid (HO.out.keep hb2)
            have HB2 := Lib.hid (bkeep2 HB.out hb2)
            have hX := newS w2 (.cells #[.int .i64 p.w0, .int .i64 p.h0, .int .i64 p.s, .bool p.fx, .bool p.fy, .bool p.ex, .int .i64 p.an, .int .i64 p.px, .int .i64 p.py] 23 (0, 0))
            go_upto_region 5 with (fail)
            refine wp_PK (fun W => W.heap[w2.heap.size]? = some (.cells #[.int .i64 p.w0, .int .i64 p.h0, .int .i64 p.s, .bool p.fx, .bool p.fy, .bool p.ex, .int .i64 p.an, .int .i64 p.px, .int .i64 p.py] 23 (0, 0)) ∧ OWP w.heap.size A W (.slice a0 A.length c0) ∧ Below w.heap.size w W) ⟨hX, HO2.out, HB2.out⟩ ?_
            rintro W3 ⟨hx3, ho3, hB3⟩
            obtain ⟨p0, p1, p2, p3, p4, p5, p6, p7, p8⟩ := b9c hx3
            have hob := ho3.2.lt
            have hsz := hB3.size
            have HO3 := Lib.hid ho3
            have HB3 := Lib.hid hB3
            clear hx3 ho3 hB3 hX HO2 HB2 hb2 HO HB
            go_wp2_with (at_builtin; refine wpList_append_own _ rfl _ _ 28 rfl w.heap.size 23 ti tz 9 56 Tryd.underlying28 ti1 ti2 ti3 ti4 ti5 (by decide) _ _ _ rfl (HO3.out.2.alloc _) ⟨W3.heap.size, 0, none⟩ 1 1 (vals9 p.pk) rfl rfl (new9 _ p.pk _) (vals9_one _) (by simp only [maxLen]; omega) (by omega) (by simp; omega) ?_)
            intro v5 w5 how5 hgr5 _
            rw [pvals_snoc] at how5
            have HB5 := Lib.hid (below_ownK (n := w.heap.size) HB3.out hgr5 (lo := w.heap.size) (hi := W3.heap.size) (fun k hk => by have := hob k hk; omega) (Nat.le_refl _) (Nat.le_refl _))
            have HO5 := Lib.hid (show OWP w.heap.size (A ++ [p.pk]) w5 v5 from ⟨by have := HB5.out.size; omega, by rw [List.length_append]; exact how5⟩)
            clear how5 hgr5 hob p0 p1 p2 p3 p4 p5 p6 p7 p8
            go_wp2
            go_roundw
            case rel => exact ⟨q, A ++ [p.pk], rfl, by omega, by simp; omega, HPS.out, HO5.out, HB5.out⟩
            case measure => rw [slen_tx, slen_tx]; omega
theorem blk_ne {w : World} {b : Nat} {cs : Array Value} {T e : TypeId} (hh : w.heap[b]? = some (.cells cs T (0, 0))) (hne : T ≠ e) {base size n : Nat} {v : Value} {xs : List Value} (ho : w.ownsRow base e size v n xs) : some b ≠ v.ownBlock := by
  rcases ho.2 with ⟨rfl, _⟩ | ⟨g, cap, cur, rfl, _, hg, _⟩
  · simp [Value.ownBlock]
  · intro e'
    obtain rfl : b = g := by simpa [Value.ownBlock] using e'
    rw [hh] at hg
    simp at hg
    exact hne hg.2
theorem OWN.blk {base : Nat} {L : List (List UInt8)} {w : World} {v : Value} (h : OWN base L w v) (hn : L ≠ []) : ∃ (g cap : Nat) (cur : Array Value), v = .slice (some ⟨g, 0, none⟩) L.length cap ∧ w.heap[g]? = some (.cells cur 9 (0, 0)) ∧ (∀ (i : Nat) (x : List UInt8), L[i]? = some x → cur[i]? = some (tx x)) ∧ base ≤ g ∧ L.length ≤ cap := by
  obtain ⟨_, _, h⟩ := h
  have h0 : L.length ≠ 0 := fun e => hn (List.length_eq_zero_iff.1 e)
  rcases h with ⟨rfl, h⟩ | ⟨g, cap, cur, rfl, hb, hg, hc, hm, hs, ht⟩
  · omega
  · refine ⟨g, cap, cur, rfl, hg, fun j x hj => ?_, hb, hc⟩
    have e : (tvals L)[j]? = some (tx x) := by simp [tvals, hj]
    have hi := (List.getElem?_eq_some_iff.1 hj).1
    rw [← ht, List.getElem?_take, if_pos (by omega)] at e
    simpa using e
theorem drop_two {W : List (List UInt8)} {k : Nat} (h : k + 1 < W.length) : ∃ x, W[k]? = some x ∧ W.drop k = x :: W.drop (k + 1) ∧ W.drop (k + 1) ≠ [] := by
  have hk : k < W.length := by omega
  refine ⟨W[k], List.getElem?_eq_getElem hk, List.drop_eq_getElem_cons hk, fun e => ?_⟩
  have := congrArg List.length e
  simp at this; omega
theorem drop_one {W : List (List UInt8)} {k : Nat} (h : k + 1 = W.length) : ∃ x, W[k]? = some x ∧ W.drop k = [x] := by
  have hk : k < W.length := by omega
  refine ⟨W[k], List.getElem?_eq_getElem hk, ?_⟩
  rw [List.drop_eq_getElem_cons hk, List.drop_of_length_le (by omega)]
def PKE (lo : Nat) (l : List UInt8) (e : Ending) (w : World) : Prop := ∃ v b, e = .returned (.tuple #[v, .bool b]) ∧ (b = true → ∃ L, pks l = some L ∧ GPO lo w v L) ∧ (b = false → pks l = none)
theorem PKE.yes {lo : Nat} {l : List UInt8} {w : World} {v : Value} {L : List Pk} (h : pks l = some L) (hg : GPO lo w v L) : PKE lo l (.returned (.tuple #[v, .bool true])) w := ⟨v, true, rfl, fun _ => ⟨L, h, hg⟩, fun h => by cases h⟩
theorem PKE.no {lo : Nat} {l : List UInt8} {w : World} {v : Value} (h : pks l = none) : PKE lo l (.returned (.tuple #[v, .bool false])) w := ⟨v, false, rfl, (fun h => by cases h), fun _ => h⟩
set_option maxRecDepth 100000 in
theorem packsIn_v (l : List UInt8) (w : World) (hl : l.length ≤ 1048576) :
    Calls Tryd.prog 27 #[tx l] w fun e w' => PKE w.heap.size l e w' ∧ Below w.heap.size w w' := by
  obtain ⟨ti, tz, ti1, ti2, ti3, ti4, ti5⟩ := pack_info
  obtain ⟨W, hW⟩ : ∃ W, splitL 10 l = W := ⟨_, rfl⟩
  have hWn : W ≠ [] := by rw [← hW]; exact splitL_ne 10 l
  have hWl : 1 ≤ W.length := by rcases W with _ | _; exact absurd rfl hWn; simp
  have hWm : W.length ≤ 1048577 := by rw [← hW]; have := splitL_len 10 l; omega
  have HX := Lib.hid (show ∀ x ∈ W, x.length ≤ 1048576 from fun x hx => by rw [← hW] at hx; have := splitL_mem 10 l x hx; omega)
  have HWN := Lib.hid hWn
  have HS := Lib.hid (fun w => splitAt_x l 10 10 rfl hl w)
  have HP0 := Lib.hid (show PkAt l [] W from hW ▸ PkAt.start l)
  rw [hW] at HS
  clear hW hWn
  have HO := Lib.hid (show OWP w.heap.size [] (w.alloc (.cells #[] 23 (0, 0))) (.slice (some ⟨w.heap.size, 0, none⟩) 0 0) from ⟨by simp, World.ownsRow_lit (base := w.heap.size) (e := 23) (size := 9) w #[] 0 (Nat.le_refl _) (by decide) rfl⟩)
  have HB := Lib.hid (balloc (o := .cells #[] 23 (0, 0)) (Below.refl w.heap.size w))
  go_enter Tryd.func27, Tryd.ntmps27
  go_wp2_with fail
  with_reducible refine (HS.out _).mono ?_
  rintro e w1 ⟨⟨v, rfl, how⟩, hb⟩
  obtain ⟨gw, cw, CW, rfl, hsl, hcws, hgw, hcw⟩ := how.blk HWN.out
  have HCW := Lib.hid hcws
  have HSL := Lib.hid hsl
  clear how hsl HS hcws
  replace HO := Lib.hid (HO.out.keep hb)
  replace HB := Lib.hid (bkeep2 HB.out hb)
  clear hb
  go_wp2_with fail
  go_loopw [4, 6] (fun v iv wr => ∃ (k : Nat) (A : List Pk), iv = .int .i64 k ∧ k + 1 ≤ W.length ∧ A.length = k ∧ PkAt l A (W.drop k) ∧ OWP w.heap.size A wr v ∧ wr.heap[gw]? = some (.cells CW 9 (0, 0)) ∧ Below w.heap.size w wr) (fun _ iv _ => W.length - (intOf iv).toNat)
  case atStart => exact ⟨0, [], rfl, by omega, rfl, by simpa using HP0.out, HO.out, HSL.out, HB.out⟩
  case round =>
    obtain ⟨k, A, rfl, hk, hA, hPk, ho, hsl, hB⟩ := hrel
    have HA := Lib.hid hA
    have hAl : A.length ≤ 1048577 := by omega
    clear hA
    obtain ⟨a0, c0, rfl⟩ := ho.slice
    clear HO HB HSL HP0
    have HO := Lib.hid ho
    have HB := Lib.hid hB
    have HSL := Lib.hid hsl
    have wP : IntKind.i64.wrap ((k : Int) + 1) = (k : Int) + 1 := IntWalk.i64_in _ (by omega)
    by_cases hlt : k + 1 < W.length
    · have hd : decide ((k : Int) + 1 < (W.length : Int)) = true := decide_eq_true (by omega)
      obtain ⟨x, hx, hdr, hne⟩ := drop_two hlt
      have cx : wr.cell? ⟨gw, k, none⟩ = some (tx x) := (cellS hsl k).trans (HCW.out k x hx)
      have hkw : (k : Int) < (W.length : Int) := by omega
      have hxl := HX.out x (List.mem_of_getElem? hx)
      have HPK := Lib.hid (show PkAt l A (x :: W.drop (k + 1)) from hdr ▸ hPk)
      have HNE := Lib.hid hne
      clear ho hB hsl hPk hx hdr hne
      go_wp2_with fail
      with_reducible refine (parsePack_v x hxl _).mono ?_
      rintro e w2 ⟨⟨p, b, rfl, h1, h2⟩, hb⟩
      have H1 := Lib.hid h1
      have H2 := Lib.hid h2
      clear h1 h2 cx
      replace HSL := Lib.hid ((hb.block _ (Array.getElem?_eq_some_iff.1 HSL.out).1).trans HSL.out)
      replace HO := Lib.hid (HO.out.keep hb)
      replace HB := Lib.hid (bkeep2 HB.out hb)
      clear hb
      have hb2 : Below w2.heap.size w2 (w2.alloc (.cells #[.int .i64 p.w0, .int .i64 p.h0, .int .i64 p.s, .bool p.fx, .bool p.fy, .bool p.ex, .int .i64 p.an, .int .i64 p.px, .int .i64 p.py] 23 (0, 0))) := balloc (Below.refl _ _)
      have HO2 := Lib.hid (HO.out.keep hb2)
      have HSL2 := Lib.hid ((hb2.block gw (ltS HSL.out)).trans HSL.out)
      have HB2 := Lib.hid (bkeep2 HB.out hb2)
      have hX := newS w2 (.cells #[.int .i64 p.w0, .int .i64 p.h0, .int .i64 p.s, .bool p.fx, .bool p.fy, .bool p.ex, .int .i64 p.an, .int .i64 p.px, .int .i64 p.py] 23 (0, 0))
      go_upto_region 7 with (fail)
      refine wp_PK (fun W3 => W3.heap[w2.heap.size]? = some (.cells #[.int .i64 p.w0, .int .i64 p.h0, .int .i64 p.s, .bool p.fx, .bool p.fy, .bool p.ex, .int .i64 p.an, .int .i64 p.px, .int .i64 p.py] 23 (0, 0)) ∧ OWP w.heap.size A W3 (.slice a0 A.length c0) ∧ W3.heap[gw]? = some (.cells CW 9 (0, 0)) ∧ Below w.heap.size w W3) ⟨hX, HO2.out, HSL2.out, HB2.out⟩ ?_
      rintro W3 ⟨hx3, ho3, hsl3, hB3⟩
      obtain ⟨p0, p1, p2, p3, p4, p5, p6, p7, p8⟩ := b9c hx3
      have hob := ho3.2.lt
      have hsz := hB3.size
      have HO3 := Lib.hid ho3
      have HSL3 := Lib.hid hsl3
      have HB3 := Lib.hid hB3
      clear hx3 ho3 hB3 hX HO2 HB2 hb2 HO HB HSL HSL2 hsl3
      cases b
      · go_wp2
        exact bodyPost_ret (v := .tuple #[.slice none 0 0, .bool false]) (by simp only [results, Tryd.results27]; go_simp) rfl ⟨PKE.no (HPK.out.none HNE.out (by have := H2.out; simpa using this)), HB3.out⟩
      · have hp : prs x = some p := by have := H1.out; simpa using this
        have HPS := Lib.hid (HPK.out.step HNE.out hp)
        clear hp
        go_wp2_with (at_builtin; refine wpList_append_own _ rfl _ _ 28 rfl w.heap.size 23 ti tz 9 56 Tryd.underlying28 ti1 ti2 ti3 ti4 ti5 (by decide) _ _ _ rfl (HO3.out.2.alloc _) ⟨W3.heap.size, 0, none⟩ 1 1 (vals9 p.pk) rfl rfl (new9 _ p.pk _) (vals9_one _) (by simp only [maxLen]; omega) (by omega) (by simp; omega) ?_)
        intro v5 w5 how5 hgr5 _
        rw [pvals_snoc] at how5
        have HSL5 := Lib.hid ((hgr5.block gw (by have := ltS HSL3.out; simp; omega) (blk_ne HSL3.out (by decide) HO3.out.2)).trans ((Below.heap_alloc _ _ gw (ltS HSL3.out)).trans HSL3.out))
        have HB5 := Lib.hid (below_ownK (n := w.heap.size) HB3.out hgr5 (lo := w.heap.size) (hi := W3.heap.size) (fun k hk => by have := hob k hk; omega) (Nat.le_refl _) (Nat.le_refl _))
        have HO5 := Lib.hid (show OWP w.heap.size (A ++ [p.pk]) w5 v5 from ⟨by have := HB5.out.size; omega, by rw [List.length_append]; exact how5⟩)
        clear how5 hgr5 hob p0 p1 p2 p3 p4 p5 p6 p7 p8
        go_wp2
        go_roundw
        case rel => exact ⟨k + 1, A ++ [p.pk], by go_num, by omega, by simp [HA.out], HPS.out, HO5.out, HSL5.out, HB5.out⟩
        case measure => simp [intOf]; omega
    · have hd : decide ((k : Int) + 1 < (W.length : Int)) = false := decide_eq_false (by omega)
      obtain ⟨x, hx, hdr⟩ := drop_one (W := W) (k := k) (by omega)
      have hwk : (W.length : Int) = (k : Int) + 1 := by omega
      have cx : wr.cell? ⟨gw, k, none⟩ = some (tx x) := (cellS hsl k).trans (HCW.out k x hx)
      have HPK := Lib.hid (show PkAt l A [x] from hdr ▸ hPk)
      clear ho hB hsl hPk hx hdr
      have e1 := fun s t w => eqg_cc .eql s t x ⟨#[]⟩ w
      have wM : IntKind.i64.wrap ((W.length : Int) - 1) = (k : Int) := (IntWalk.i64_in _ (by omega)).trans (by omega)
      by_cases hx0 : x = []
      · subst hx0
        have e2 := eql_nil
        by_cases h7 : A.length ≤ 7
        · have hd7 : decide ((A.length : Int) ≤ 7) = true := decide_eq_true (by omega)
          go_wp2
          exact bodyPost_ret (v := .tuple #[.slice a0 A.length c0, .bool true]) (by simp only [results, Tryd.results27]; go_simp) rfl ⟨PKE.yes (HPK.out.done h7) HO.out.go, HB.out⟩
        · have hd7 : decide ((A.length : Int) ≤ 7) = false := decide_eq_false (by omega)
          go_wp2
          exact bodyPost_ret (v := .tuple #[.slice a0 A.length c0, .bool false]) (by simp only [results, Tryd.results27]; go_simp) rfl ⟨PKE.no (HPK.out.over h7), HB.out⟩
      · have e2 := eql_no x hx0
        go_wp2
        exact bodyPost_ret (v := .tuple #[.slice a0 A.length c0, .bool false]) (by simp only [results, Tryd.results27]; go_simp) rfl ⟨PKE.no (HPK.out.last hx0), HB.out⟩
set_option maxRecDepth 100000 in
theorem sParsePacks_v (l : List UInt8) (w : World) (hl : l.length ≤ 1048576) :
    Calls Tryd.prog 11 #[tx l] w fun e w' => (∃ v b, e = .returned (.tuple #[v, .bool b]) ∧ PKR w.heap.size w' v b l) ∧ Below w.heap.size w w' := by
  go_enter Tryd.func11, Tryd.ntmps11
  go_wp2_with fail
  with_reducible refine (packsIn_v l _ hl).mono ?_
  rintro e w1 ⟨⟨v, b, rfl, h1, h2⟩, hb⟩
  have H1 := Lib.hid h1
  have H2 := Lib.hid h2
  clear h1 h2
  cases b
  · go_wp2
    exact bodyPost_ret (v := .tuple #[.slice none 0 0, .bool false]) (by simp only [results, Tryd.results11]; go_simp) rfl ⟨⟨_, _, rfl, .inr ⟨rfl, by have := H2.out; simpa using this, rfl⟩⟩, hb⟩
  · obtain ⟨L, hL, hg⟩ : ∃ L, pks l = some L ∧ GPO w.heap.size w1 v L := by have := H1.out; simpa using this
    clear H1 H2
    go_wp2
    exact bodyPost_ret (v := .tuple #[v, .bool true]) (by simp only [results, Tryd.results11]; go_simp) rfl ⟨⟨_, _, rfl, .inl ⟨L, rfl, hL, hg⟩⟩, hb⟩
end Go.Proofs.YtjfdmdmlgdgchaaDoor
end
section
namespace Go.Proofs.YtjfdmdmlgdgchaaDoor
open Go.RowKit
set_option linter.unusedVariables false
set_option linter.unusedSimpArgs false
/-! The lines that items make. -/
def Pk.txt (p : Pk) : List UInt8 := pkT p.w p.h p.s p.fx p.fy p.ex p.an p.px p.py
def linesT : List Pk → List UInt8
  | [] => []
  | p :: L => p.txt ++ 10 :: linesT L
theorem linesT_snoc (L : List Pk) (p : Pk) : linesT (L ++ [p]) = linesT L ++ p.txt ++ [10] := by
  induction L with
  | nil => simp [linesT]
  | cons q L ih => simp only [List.cons_append, linesT, ih]; simp
theorem pkU_text (n : Nat) : ∀ (l : List UInt8) (L : List Pk), l.length ≤ n → pkU (splitL 10 l) = some L → l = linesT L := by
  induction n with
  | zero =>
    intro l L hl h
    obtain rfl : l = [] := List.length_eq_zero_iff.1 (by omega)
    have e : splitL 10 [] = [[]] := rfl
    rw [e, pkU_end] at h
    cases h; rfl
  | succ n ih =>
    intro l L hl h
    rcases index_byte 10 l with ⟨_, h2⟩ | ⟨p, r, rfl, h2, _⟩
    · rw [splitL_miss h2] at h
      by_cases hl0 : l = []
      · subst hl0; rw [pkU_end] at h; cases h; rfl
      · rw [pkU_one hl0] at h; cases h
    · rw [splitL_hit h2] at h
      cases hp : prs p with
      | none => rw [pkU_no (splitL_ne _ _) hp] at h; cases h
      | some q =>
        rw [pkU_yes (splitL_ne _ _) hp] at h
        cases hu : pkU (splitL 10 r) with
        | none => rw [hu] at h; cases h
        | some L' =>
          rw [hu] at h
          cases h
          have := ih r L' (by simp at hl; omega) hu
          obtain ⟨_, hq⟩ := prs_iff.1 hp
          show p ++ 10 :: r = q.pk.txt ++ 10 :: linesT L'
          rw [← this]
          congr 1
          exact hq.symm
theorem pks_U {l : List UInt8} {L : List Pk} (h : pks l = some L) : pkU (splitL 10 l) = some L := by
  unfold pks at h
  split at h
  · split at h
    · cases h; assumption
    · cases h
  · cases h
theorem pks_text {l : List UInt8} {L : List Pk} (h : pks l = some L) : l = linesT L := pkU_text l.length l L (Nat.le_refl _) (pks_U h)
theorem pks_ok {l : List UInt8} {L : List Pk} (h : pks l = some L) : ∀ p ∈ L, p.ok = true := pkU_ok (pks_U h)
theorem txt_len {p : Pk} (h : p.ok = true) : p.txt.length ≤ 700 := pkT_len h
theorem linesT_len {L : List Pk} (h : ∀ p ∈ L, p.ok = true) : (linesT L).length ≤ 701 * L.length := by
  induction L with
  | nil => simp [linesT]
  | cons p L ih =>
    have h1 := txt_len (h p List.mem_cons_self)
    have h2 := ih (fun q hq => h q (List.mem_cons_of_mem _ hq))
    simp only [linesT, List.length_append, List.length_cons]
    omega
end Go.Proofs.YtjfdmdmlgdgchaaDoor
end
section
namespace Go.Proofs.YtjfdmdmlgdgchaaDoor
open Go.ChangeShapes Go.WideShapes Go.ChangeAt Go.RowKit
namespace LT
noncomputable def world5ps (os : Os) : World := World.laidAll Tryd.prog os Rows.fnParsePacksRow.laid
theorem met5ps (os : Os) (args : Array Value) : laidMetH Tryd.prog Rows.fnParsePacksRow.laid ((world5ps os).forCall (fun _ _ => 0) ⟨#[], args, []⟩).memory := by
  rw [MakeChecks.laidMetH_plain _ _ _ (by kernel_rfl)]
  exact laidMet_laidAll _ (by kernel_rfl) (by kernel_rfl)
theorem opens5ps {W : World} (h : laidMetH Tryd.prog Rows.fnParsePacksRow.laid W) : TW W := by
  rw [MakeChecks.laidMetH_plain _ _ _ (by kernel_rfl)] at h
  exact opens3 h
end LT
end Go.Proofs.YtjfdmdmlgdgchaaDoor
end
