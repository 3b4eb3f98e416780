import Derived.Test.YtjdjahckdgbkbabQ01
import Derived.LoopTactic
import Derived.OwnWalk
import Derived.Deep.RegionHeld3
import Derived.Deep.DrawnRows
section
namespace Go.Proofs.Ytjdjahckdgbkbab
open Go.RowKit
set_option linter.unusedVariables false
set_option maxHeartbeats 1000000
theorem pvalidSide_any (k : Int) (w : World) : Calls Try.prog 61 #[.int .i64 k] w fun e w' => e = .returned (.bool (rng k 0 3)) ∧ w = w' := by
  go_enter Try.func61, Try.ntmps61
  go_wp2_with (go_at_call 47; refine (within_any _ _ _ _).mono ?_; rintro e w' ⟨rfl, rfl⟩)
  go_ret
  exact ⟨ret_bool rfl, rfl⟩
theorem pvalidAnchor_any (k : Int) (w : World) : Calls Try.prog 62 #[.int .i64 k] w fun e w' => e = .returned (.bool (rng k 0 8)) ∧ w = w' := by
  go_enter Try.func62, Try.ntmps62
  go_wp2_with (go_at_call 47; refine (within_any _ _ _ _).mono ?_; rintro e w' ⟨rfl, rfl⟩)
  go_ret
  exact ⟨ret_bool rfl, rfl⟩
theorem psvalidSide_any (k : Int) (w : World) : Calls Try.prog 78 #[.int .i64 k] w fun e w' => e = .returned (.bool (rng k 0 3)) ∧ w = w' := by
  go_enter Try.func78, Try.ntmps78
  go_wp2_with (go_at_call 52; refine (inRange_any _ _ _ _).mono ?_; rintro e w' ⟨rfl, rfl⟩)
  go_ret
  exact ⟨ret_bool rfl, rfl⟩
theorem psvalidAnchor_any (k : Int) (w : World) : Calls Try.prog 79 #[.int .i64 k] w fun e w' => e = .returned (.bool (rng k 0 8)) ∧ w = w' := by
  go_enter Try.func79, Try.ntmps79
  go_wp2_with (go_at_call 52; refine (inRange_any _ _ _ _).mono ?_; rintro e w' ⟨rfl, rfl⟩)
  go_ret
  exact ⟨ret_bool rfl, rfl⟩
theorem vp_n12 {w h s an px py : Int} (h1 : (rng w 0 30 && rng h 0 30) = false) : vpB w h s an px py = false := by
  cases a : rng w 0 30 <;> cases b : rng h 0 30 <;> simp [vpB, a, b] at h1 ⊢
set_option maxRecDepth 100000 in
theorem validPack_any (w0 h0 s : Int) (fx fy ex : Bool) (an px py : Int) (w : World) : Calls Try.prog 43 #[.agg #[.int .i64 w0, .int .i64 h0, .int .i64 s, .bool fx, .bool fy, .bool ex, .int .i64 an, .int .i64 px, .int .i64 py]] w fun e w' => e = .returned (.bool (vpB w0 h0 s an px py)) ∧ Below w.heap.size w w' := by
  cases hw : (rng w0 0 30 && rng h0 0 30)
  · go_enter Try.func43, Try.ntmps43
    go_wp2_with (first | (go_at_call 60; refine (validWish_w _ _ _ _ hw).mono ?_; rintro e w' ⟨rfl, rfl⟩) | (go_at_call 47; refine (within_any _ _ _ _).mono ?_; rintro e w' ⟨rfl, rfl⟩) | (go_at_call 61; refine (pvalidSide_any _ _).mono ?_; rintro e w' ⟨rfl, rfl⟩) | (go_at_call 62; refine (pvalidAnchor_any _ _).mono ?_; rintro e w' ⟨rfl, rfl⟩))
    go_ret
    exact ⟨ret_bool (by rw [vp_n12 hw]), (Below.refl _ _).alloc (Nat.le_refl _) _⟩
  have h1 : rng w0 0 30 = true := (Bool.and_eq_true _ _ ▸ hw).1
  have h2 : rng h0 0 30 = true := (Bool.and_eq_true _ _ ▸ hw).2
  cases h3 : rng s 0 3
  · go_enter Try.func43, Try.ntmps43
    go_wp2_with (first | (go_at_call 60; refine (validWish_w _ _ _ _ hw).mono ?_; rintro e w' ⟨rfl, rfl⟩) | (go_at_call 47; refine (within_any _ _ _ _).mono ?_; rintro e w' ⟨rfl, rfl⟩) | (go_at_call 61; refine (pvalidSide_any _ _).mono ?_; rintro e w' ⟨rfl, rfl⟩) | (go_at_call 62; refine (pvalidAnchor_any _ _).mono ?_; rintro e w' ⟨rfl, rfl⟩))
    go_ret
    exact ⟨ret_bool (by rw [vp_n3 h3]), (Below.refl _ _).alloc (Nat.le_refl _) _⟩
  cases h4 : rng an 0 8
  · go_enter Try.func43, Try.ntmps43
    go_wp2_with (first | (go_at_call 60; refine (validWish_w _ _ _ _ hw).mono ?_; rintro e w' ⟨rfl, rfl⟩) | (go_at_call 47; refine (within_any _ _ _ _).mono ?_; rintro e w' ⟨rfl, rfl⟩) | (go_at_call 61; refine (pvalidSide_any _ _).mono ?_; rintro e w' ⟨rfl, rfl⟩) | (go_at_call 62; refine (pvalidAnchor_any _ _).mono ?_; rintro e w' ⟨rfl, rfl⟩))
    go_ret
    exact ⟨ret_bool (by rw [vp_n4 h4]), (Below.refl _ _).alloc (Nat.le_refl _) _⟩
  cases h5 : rng px 0 10
  · go_enter Try.func43, Try.ntmps43
    go_wp2_with (first | (go_at_call 60; refine (validWish_w _ _ _ _ hw).mono ?_; rintro e w' ⟨rfl, rfl⟩) | (go_at_call 47; refine (within_any _ _ _ _).mono ?_; rintro e w' ⟨rfl, rfl⟩) | (go_at_call 61; refine (pvalidSide_any _ _).mono ?_; rintro e w' ⟨rfl, rfl⟩) | (go_at_call 62; refine (pvalidAnchor_any _ _).mono ?_; rintro e w' ⟨rfl, rfl⟩))
    go_ret
    exact ⟨ret_bool (by rw [vp_n5 h5]), (Below.refl _ _).alloc (Nat.le_refl _) _⟩
  go_enter Try.func43, Try.ntmps43
  go_wp2_with (first | (go_at_call 60; refine (validWish_w _ _ _ _ hw).mono ?_; rintro e w' ⟨rfl, rfl⟩) | (go_at_call 47; refine (within_any _ _ _ _).mono ?_; rintro e w' ⟨rfl, rfl⟩) | (go_at_call 61; refine (pvalidSide_any _ _).mono ?_; rintro e w' ⟨rfl, rfl⟩) | (go_at_call 62; refine (pvalidAnchor_any _ _).mono ?_; rintro e w' ⟨rfl, rfl⟩))
  go_ret
  exact ⟨ret_bool (by rw [vp_n6 h1 h2 h3 h4 h5]), (Below.refl _ _).alloc (Nat.le_refl _) _⟩
set_option maxRecDepth 100000 in
theorem specValidPack_any (w0 h0 s : Int) (fx fy ex : Bool) (an px py : Int) (w : World) : Calls Try.prog 51 #[.agg #[.int .i64 w0, .int .i64 h0, .int .i64 s, .bool fx, .bool fy, .bool ex, .int .i64 an, .int .i64 px, .int .i64 py]] w fun e w' => e = .returned (.bool (vpB w0 h0 s an px py)) ∧ Below w.heap.size w w' := by
  cases h1 : rng w0 0 30
  · go_enter Try.func51, Try.ntmps51
    go_wp2_with (first | (go_at_call 52; refine (inRange_any _ _ _ _).mono ?_; rintro e w' ⟨rfl, rfl⟩) | (go_at_call 78; refine (psvalidSide_any _ _).mono ?_; rintro e w' ⟨rfl, rfl⟩) | (go_at_call 79; refine (psvalidAnchor_any _ _).mono ?_; rintro e w' ⟨rfl, rfl⟩))
    go_ret
    exact ⟨ret_bool (by rw [vp_n1 h1]), (Below.refl _ _).alloc (Nat.le_refl _) _⟩
  cases h2 : rng h0 0 30
  · go_enter Try.func51, Try.ntmps51
    go_wp2_with (first | (go_at_call 52; refine (inRange_any _ _ _ _).mono ?_; rintro e w' ⟨rfl, rfl⟩) | (go_at_call 78; refine (psvalidSide_any _ _).mono ?_; rintro e w' ⟨rfl, rfl⟩) | (go_at_call 79; refine (psvalidAnchor_any _ _).mono ?_; rintro e w' ⟨rfl, rfl⟩))
    go_ret
    exact ⟨ret_bool (by rw [vp_n2 h2]), (Below.refl _ _).alloc (Nat.le_refl _) _⟩
  cases h3 : rng s 0 3
  · go_enter Try.func51, Try.ntmps51
    go_wp2_with (first | (go_at_call 52; refine (inRange_any _ _ _ _).mono ?_; rintro e w' ⟨rfl, rfl⟩) | (go_at_call 78; refine (psvalidSide_any _ _).mono ?_; rintro e w' ⟨rfl, rfl⟩) | (go_at_call 79; refine (psvalidAnchor_any _ _).mono ?_; rintro e w' ⟨rfl, rfl⟩))
    go_ret
    exact ⟨ret_bool (by rw [vp_n3 h3]), (Below.refl _ _).alloc (Nat.le_refl _) _⟩
  cases h4 : rng an 0 8
  · go_enter Try.func51, Try.ntmps51
    go_wp2_with (first | (go_at_call 52; refine (inRange_any _ _ _ _).mono ?_; rintro e w' ⟨rfl, rfl⟩) | (go_at_call 78; refine (psvalidSide_any _ _).mono ?_; rintro e w' ⟨rfl, rfl⟩) | (go_at_call 79; refine (psvalidAnchor_any _ _).mono ?_; rintro e w' ⟨rfl, rfl⟩))
    go_ret
    exact ⟨ret_bool (by rw [vp_n4 h4]), (Below.refl _ _).alloc (Nat.le_refl _) _⟩
  cases h5 : rng px 0 10
  · go_enter Try.func51, Try.ntmps51
    go_wp2_with (first | (go_at_call 52; refine (inRange_any _ _ _ _).mono ?_; rintro e w' ⟨rfl, rfl⟩) | (go_at_call 78; refine (psvalidSide_any _ _).mono ?_; rintro e w' ⟨rfl, rfl⟩) | (go_at_call 79; refine (psvalidAnchor_any _ _).mono ?_; rintro e w' ⟨rfl, rfl⟩))
    go_ret
    exact ⟨ret_bool (by rw [vp_n5 h5]), (Below.refl _ _).alloc (Nat.le_refl _) _⟩
  go_enter Try.func51, Try.ntmps51
  go_wp2_with (first | (go_at_call 52; refine (inRange_any _ _ _ _).mono ?_; rintro e w' ⟨rfl, rfl⟩) | (go_at_call 78; refine (psvalidSide_any _ _).mono ?_; rintro e w' ⟨rfl, rfl⟩) | (go_at_call 79; refine (psvalidAnchor_any _ _).mono ?_; rintro e w' ⟨rfl, rfl⟩))
  go_ret
  exact ⟨ret_bool (by rw [vp_n6 h1 h2 h3 h4 h5]), (Below.refl _ _).alloc (Nat.le_refl _) _⟩
end Go.Proofs.Ytjdjahckdgbkbab
end
section
namespace Go.Proofs.Ytjdjahckdgbkbab
open Go.RowKit
set_option linter.unusedVariables false
set_option maxHeartbeats 1000000
theorem cellH {w : World} {b : Nat} {cs : Array Value} {T : TypeId} {fz : Nat × Nat} (h : w.heap[b]? = some (.cells cs T fz)) (i : Nat) : w.cell? ⟨b, i, none⟩ = cs[i]? := by simp [World.cell?, h]
theorem heap_new (w : World) (o : Obj) : (w.alloc o).heap[w.heap.size]? = some o := by
  show (w.heap.push o)[w.heap.size]? = some o
  simp
theorem b9c {w : World} {b : Nat} {a0 a1 a2 a3 a4 a5 a6 a7 a8 : Value} {T : TypeId} {fz : Nat × Nat} (h : w.heap[b]? = some (.cells #[a0, a1, a2, a3, a4, a5, a6, a7, a8] T fz)) :
    w.cell? ⟨b, 0, none⟩ = some a0 ∧ w.cell? ⟨b, 1, none⟩ = some a1 ∧ w.cell? ⟨b, 2, none⟩ = some a2 ∧ w.cell? ⟨b, 3, none⟩ = some a3 ∧ w.cell? ⟨b, 4, none⟩ = some a4 ∧ w.cell? ⟨b, 5, none⟩ = some a5 ∧ w.cell? ⟨b, 6, none⟩ = some a6 ∧ w.cell? ⟨b, 7, none⟩ = some a7 ∧ w.cell? ⟨b, 8, none⟩ = some a8 :=
  ⟨cellH h 0, cellH h 1, cellH h 2, cellH h 3, cellH h 4, cellH h 5, cellH h 6, cellH h 7, cellH h 8⟩
set_option maxRecDepth 100000 in
theorem toPack_any (w0 h0 s : Int) (fx fy ex : Bool) (an px py : Int) (w : World) : Calls Try.prog 36 #[.agg #[.int .i64 w0, .int .i64 h0, .int .i64 s, .bool fx, .bool fy, .bool ex, .int .i64 an, .int .i64 px, .int .i64 py]] w fun e w' => e = .returned (.agg #[.int .i64 w0, .int .i64 h0, .int .i64 s, .bool fx, .bool fy, .bool ex, .int .i64 an, .int .i64 px, .int .i64 py]) ∧ Below w.heap.size w w' := by
  go_enter Try.func36, Try.ntmps36
  go_wp2
  exact bodyPost_ret (v := .agg #[.int .i64 w0, .int .i64 h0, .int .i64 s, .bool fx, .bool fy, .bool ex, .int .i64 an, .int .i64 px, .int .i64 py]) (by simp only [results, Try.results36]; go_simp) rfl ⟨rfl, (by repeat (first | with_reducible exact Below.refl _ _ | with_reducible assumption | with_reducible refine balloc ?_ | (with_reducible refine bset ?_ ?_; rotate_left; ((try dsimp only); omega)) | refine bkeep2 ?_ (by assumption) | with_reducible refine Below.drew ?_))⟩
end Go.Proofs.Ytjdjahckdgbkbab
end
section
set_option linter.unusedVariables false
namespace Go.Proofs.Ytjdjahckdgbkbab
def Pk.ok (p : Pk) : Bool := vpB p.w p.h p.s p.an p.px p.py
def vpsB (L : List Pk) : Bool := L.all Pk.ok && decide (L.length ≤ 7)
theorem vpsB_iff {L : List Pk} : vpsB L = true ↔ (∀ p ∈ L, p.ok = true) ∧ L.length ≤ 7 := by simp [vpsB, List.all_eq_true]
def Pk.down (p : Pk) : Bool := decide (p.s = 0 ∨ p.s = 1)
def Pk.need (p : Pk) (d : Bool) : Int := if d then p.h + 2 * p.py else p.w + 2 * p.px
theorem Pk.need_bd {p : Pk} (h : p.ok = true) (d : Bool) : 0 ≤ p.need d ∧ p.need d ≤ 50 := by
  have := vpB_iff.1 h
  unfold Pk.need
  split <;> omega
theorem all_snoc {L : List Pk} {k : Nat} {p : Pk} (h : L[k]? = some p) : (L.take (k + 1)).all Pk.ok = ((L.take k).all Pk.ok && p.ok) := by
  have hk : k < L.length := (List.getElem?_eq_some_iff.1 h).1
  have e : L[k] = p := (List.getElem?_eq_some_iff.1 h).2
  rw [List.take_succ_eq_append_getElem hk, e]
  simp
/-- an item whose size is not too great -/
def Pk.big (p : Pk) : Prop := ((0 ≤ p.w ∧ p.w ≤ 1000000000000) ∧ (0 ≤ p.h ∧ p.h ≤ 1000000000000) ∧ (0 ≤ p.s ∧ p.s ≤ 3) ∧ (0 ≤ p.an ∧ p.an ≤ 8) ∧ (0 ≤ p.px ∧ p.px ≤ 10) ∧ (0 ≤ p.py ∧ p.py ≤ 10))
theorem Pk.ok_big {p : Pk} (h : p.ok = true) : p.big := by
  have := vpB_iff.1 h
  unfold Pk.big
  omega
theorem Pk.need_bdW {p : Pk} (h : p.big) (d : Bool) : 0 ≤ p.need d ∧ p.need d ≤ 1000000000020 := by
  unfold Pk.big at h
  unfold Pk.need
  split <;> omega
end Go.Proofs.Ytjdjahckdgbkbab
end
section
namespace Go.Proofs.Ytjdjahckdgbkbab
open Go.RowKit
set_option linter.unusedVariables false
set_option maxHeartbeats 1000000
/-- nine cells hold this item -/
def Cells9 (w : World) (b o : Nat) (p : Pk) : Prop :=
  w.cell? ⟨b, o, none⟩ = some (.int .i64 p.w) ∧ w.cell? ⟨b, o + 1, none⟩ = some (.int .i64 p.h) ∧ w.cell? ⟨b, o + 2, none⟩ = some (.int .i64 p.s) ∧ w.cell? ⟨b, o + 3, none⟩ = some (.bool p.fx) ∧ w.cell? ⟨b, o + 4, none⟩ = some (.bool p.fy) ∧
  w.cell? ⟨b, o + 5, none⟩ = some (.bool p.ex) ∧ w.cell? ⟨b, o + 6, none⟩ = some (.int .i64 p.an) ∧ w.cell? ⟨b, o + 7, none⟩ = some (.int .i64 p.px) ∧ w.cell? ⟨b, o + 8, none⟩ = some (.int .i64 p.py)
def PS (w : World) (b off : Nat) (L : List Pk) : Prop := ∀ i p, L[i]? = some p → Cells9 w b (off + i * 9) p
/-- a slice that reads as this list of items -/
structure PV (w : World) (A : Option Addr) (L : List Pk) : Prop where
  cells : 0 < L.length → ∃ b off, A = some ⟨b, off, none⟩ ∧ b < w.heap.size ∧ PS w b off L
theorem Cells9.keep {w w' : World} {b o : Nat} {p : Pk} (h : Cells9 w b o p) (hb : w'.heap[b]? = w.heap[b]?) : Cells9 w' b o p := by
  have e : ∀ i, w'.cell? ⟨b, i, none⟩ = w.cell? ⟨b, i, none⟩ := fun i => World.cell?_of_block (a := ⟨b, i, none⟩) hb
  unfold Cells9 at *
  simpa only [e] using h
theorem PV.keep {w w' : World} {A : Option Addr} {L : List Pk} (h : PV w A L) (hb : Below w.heap.size w w') : PV w' A L :=
  ⟨fun h0 => let ⟨b, off, e, hl, hp⟩ := h.cells h0; ⟨b, off, e, Nat.lt_of_lt_of_le hl hb.size, fun i p hi => (hp i p hi).keep (hb.block b hl)⟩⟩
theorem svp_v (p : Pk) (b : Bool) (h : p.ok = b) (w : World) : Calls Try.prog 51 #[.agg #[.int .i64 p.w, .int .i64 p.h, .int .i64 p.s, .bool p.fx, .bool p.fy, .bool p.ex, .int .i64 p.an, .int .i64 p.px, .int .i64 p.py]] w fun e w' => e = .returned (.bool b) ∧ Below w.heap.size w w' := by
  rw [← h]; exact specValidPack_any _ _ _ _ _ _ _ _ _ _
theorem vp_v (p : Pk) (b : Bool) (h : p.ok = b) (w : World) : Calls Try.prog 43 #[.agg #[.int .i64 p.w, .int .i64 p.h, .int .i64 p.s, .bool p.fx, .bool p.fy, .bool p.ex, .int .i64 p.an, .int .i64 p.px, .int .i64 p.py]] w fun e w' => e = .returned (.bool b) ∧ Below w.heap.size w w' := by
  rw [← h]; exact validPack_any _ _ _ _ _ _ _ _ _ _
set_option maxRecDepth 100000 in
theorem svalidPacks_any (A : Option Addr) (c : Nat) (L : List Pk) (w : World) (h : PV w A L) (hL : L.length ≤ 1048576) :
    Calls Try.prog 33 #[.slice A L.length c] w fun e w' => e = .returned (.bool (vpsB L)) ∧ Below w.heap.size w w' := by
  go_enter Try.func33, Try.ntmps33
  go_wp2_with fail
  go_loopw [3] (fun i wr => ∃ k : Nat, k ≤ L.length ∧ i = .int .i64 k ∧ (L.take k).all Pk.ok = true ∧ Below w.heap.size w wr) (fun i _ => L.length - (intOf i).toNat)
  case atStart => exact ⟨0, by omega, rfl, rfl, Below.refl _ _⟩
  case round =>
    obtain ⟨k, hk, rfl, hok, hB⟩ := hrel
    by_cases hlt : k < L.length
    · have hd : decide ((k : Int) < (L.length : Int)) = true := by simpa using hlt
      obtain ⟨b, off, rfl, hb, hp⟩ := (h.keep hB).cells (by omega)
      obtain ⟨c0, c1, c2, c3, c4, c5, c6, c7, c8⟩ := hp k _ (List.getElem?_eq_getElem hlt)
      have hget : L[k]? = some L[k] := List.getElem?_eq_getElem hlt
      generalize hx : L[k] = p at *
      have HG := Lib.hid hget
      have HX := Lib.hid hx
      have HO := Lib.hid hok
      have HBB := Lib.hid hB
      clear hget hx hok hB
      cases hv : p.ok
      · have Hv := Lib.hid hv
        clear hv
        go_wp2_with fail
        refine (svp_v p false Hv.out _).mono ?_
        rintro e w1 ⟨rfl, hb1⟩
        replace HBB := Lib.hid (HBB.out.trans (hb1.mono HBB.out.size))
        clear hb1 c0 c1 c2 c3 c4 c5 c6 c7 c8
        go_wp2
        go_ret
        exact ⟨ret_bool (by
          symm
          rw [Bool.eq_false_iff]
          intro hh
          have h1 := (vpsB_iff.1 hh).1 p (List.mem_of_getElem? HG.out)
          rw [Hv.out] at h1
          cases h1), HBB.out⟩
      · have Hv := Lib.hid hv
        clear hv
        go_wp2_with fail
        refine (svp_v p true Hv.out _).mono ?_
        rintro e w1 ⟨rfl, hb1⟩
        replace HBB := Lib.hid (HBB.out.trans (hb1.mono HBB.out.size))
        clear hb1 c0 c1 c2 c3 c4 c5 c6 c7 c8
        go_wp2
        go_roundw
        case rel => exact ⟨k + 1, by omega, by go_num, by rw [all_snoc HG.out, HO.out, Hv.out]; rfl, HBB.out⟩
        case measure => simp [intOf]; omega
    · have hd : decide ((k : Int) < (L.length : Int)) = false := by simp; omega
      have he : L.take k = L := List.take_of_length_le (by omega)
      rw [he] at hok
      have HO := Lib.hid hok
      have HBB := Lib.hid hB
      clear hok hB he
      by_cases h7 : L.length ≤ 7
      · have h7' : decide ((L.length : Int) ≤ 7) = true := by simp; omega
        go_wp2
        go_ret
        exact ⟨ret_bool (by symm; exact vpsB_iff.2 ⟨fun p hp => List.all_eq_true.1 HO.out p hp, h7⟩), HBB.out⟩
      · have h7' : decide ((L.length : Int) ≤ 7) = false := by simp; omega
        go_wp2
        go_ret
        exact ⟨ret_bool (by symm; rw [Bool.eq_false_iff]; intro hh; exact h7 (vpsB_iff.1 hh).2), HBB.out⟩
end Go.Proofs.Ytjdjahckdgbkbab
end
section
namespace Go.Proofs.Ytjdjahckdgbkbab
open Go.RowKit
set_option linter.unusedVariables false
set_option maxHeartbeats 1000000
set_option maxRecDepth 100000 in
theorem allOfPack_any (A : Option Addr) (c : Nat) (L : List Pk) (w : World) (h : PV w A L) (hL : L.length ≤ 1048576) :
    Calls Try.prog 54 #[.slice A L.length c, .func (.func 43) #[] #[]] w fun e w' => e = .returned (.bool (L.all Pk.ok)) ∧ Below w.heap.size w w' := by
  go_enter Try.func54, Try.ntmps54
  go_wp2_with fail
  go_loopw [9] (fun i wr => ∃ k : Nat, k ≤ L.length ∧ i = .int .i64 k ∧ (L.take k).all Pk.ok = true ∧ Below w.heap.size w wr) (fun i _ => L.length - (intOf i).toNat)
  case atStart => exact ⟨0, by omega, rfl, rfl, Below.refl _ _⟩
  case round =>
    obtain ⟨k, hk, rfl, hok, hB⟩ := hrel
    by_cases hlt : k < L.length
    · have hd : decide ((k : Int) < (L.length : Int)) = true := by simpa using hlt
      obtain ⟨b, off, rfl, hb, hp⟩ := (h.keep hB).cells (by omega)
      obtain ⟨c0, c1, c2, c3, c4, c5, c6, c7, c8⟩ := hp k _ (List.getElem?_eq_getElem hlt)
      have hget : L[k]? = some L[k] := List.getElem?_eq_getElem hlt
      generalize hx : L[k] = p at *
      have HG := Lib.hid hget
      have HX := Lib.hid hx
      have HO := Lib.hid hok
      have HBB := Lib.hid hB
      clear hget hx hok hB
      cases hv : p.ok
      all_goals
        have Hv := Lib.hid hv
        clear hv
        go_wp2_with fail
        first | (with_reducible refine (vp_v p false Hv.out _).mono ?_) | (with_reducible refine (vp_v p true Hv.out _).mono ?_)
        rintro e w1 ⟨rfl, hb1⟩
        replace HBB := Lib.hid (bkeep2 (balloc HBB.out) hb1)
        clear hb1 c0 c1 c2 c3 c4 c5 c6 c7 c8
        go_wp2
      · go_ret
        exact ⟨ret_bool (by
          symm
          rw [Bool.eq_false_iff]
          intro hh
          have h1 := List.all_eq_true.1 hh p (List.mem_of_getElem? HG.out)
          rw [Hv.out] at h1
          cases h1), HBB.out⟩
      · go_roundw
        case rel => exact ⟨k + 1, by omega, by go_num, by rw [all_snoc HG.out, HO.out, Hv.out]; rfl, HBB.out⟩
        case measure => simp [intOf]; omega
    · have hd : decide ((k : Int) < (L.length : Int)) = false := by simp; omega
      have he : L.take k = L := List.take_of_length_le (by omega)
      rw [he] at hok
      have HO := Lib.hid hok
      have HBB := Lib.hid hB
      clear hok hB he
      go_wp2
      go_ret
      exact ⟨ret_bool HO.out.symm, HBB.out⟩
theorem validPacks_any (A : Option Addr) (c : Nat) (L : List Pk) (w : World) (h : PV w A L) (hL : L.length ≤ 1048576) :
    Calls Try.prog 37 #[.slice A L.length c] w fun e w' => e = .returned (.bool (vpsB L)) ∧ Below w.heap.size w w' := by
  by_cases h7 : L.length ≤ 7
  · have h7' : decide ((L.length : Int) ≤ 7) = true := by simp; omega
    cases ha : L.all Pk.ok
    all_goals
      have Ha := Lib.hid ha
      clear ha
      go_enter Try.func37, Try.ntmps37
      go_wp2_with fail
      refine (allOfPack_any A c L _ h hL).mono ?_
      rintro e w1 ⟨rfl, hb⟩
      rw [Ha.out]
      have HB := Lib.hid hb
      clear hb
      go_wp2
      go_ret
      exact ⟨ret_bool (by simp [vpsB, Ha.out, h7]), HB.out⟩
  · have h7' : decide ((L.length : Int) ≤ 7) = false := by simp; omega
    go_enter Try.func37, Try.ntmps37
    go_wp2
    go_ret
    exact ⟨ret_bool (by simp [vpsB, h7]), Below.refl _ _⟩
end Go.Proofs.Ytjdjahckdgbkbab
end
section
namespace Go.Proofs.Ytjdjahckdgbkbab
open Go.RowKit
set_option linter.unusedVariables false
set_option maxHeartbeats 1000000
/-- values written side by side -/
def writeAt (cs : Array Value) (o : Nat) : List Value → Array Value
  | [] => cs
  | v :: r => writeAt (cs.setIfInBounds o v) (o + 1) r
theorem writeAt_size : ∀ (vs : List Value) (cs : Array Value) (o : Nat), (writeAt cs o vs).size = cs.size
  | [], cs, o => rfl
  | v :: r, cs, o => by unfold writeAt; rw [writeAt_size r]; simp
theorem writeAt_lo : ∀ (vs : List Value) (cs : Array Value) (o i : Nat), i < o → (writeAt cs o vs)[i]? = cs[i]?
  | [], cs, o, i, _ => rfl
  | v :: r, cs, o, i, h => by unfold writeAt; rw [writeAt_lo r _ _ _ (by omega), Array.getElem?_setIfInBounds_ne (by omega)]
theorem writeAt_hi : ∀ (vs : List Value) (cs : Array Value) (o i : Nat), o + vs.length ≤ i → (writeAt cs o vs)[i]? = cs[i]?
  | [], cs, o, i, _ => rfl
  | v :: r, cs, o, i, h => by
    simp only [List.length_cons] at h
    unfold writeAt; rw [writeAt_hi r _ _ _ (by omega), Array.getElem?_setIfInBounds_ne (by omega)]
theorem writeAt_in : ∀ (vs : List Value) (cs : Array Value) (o j : Nat), o + vs.length ≤ cs.size → j < vs.length → (writeAt cs o vs)[o + j]? = vs[j]?
  | [], cs, o, j, _, h => by simp at h
  | v :: r, cs, o, 0, h, _ => by
    simp only [List.length_cons] at h
    unfold writeAt; rw [writeAt_lo r _ _ _ (by omega), Nat.add_zero, Array.getElem?_setIfInBounds_self_of_lt (by omega)]
    rfl
  | v :: r, cs, o, j + 1, h, hj => by
    simp only [List.length_cons] at h hj
    unfold writeAt
    rw [show o + (j + 1) = o + 1 + j from by omega, writeAt_in r _ _ _ (by simp; omega) (by omega)]
    simp
def vals (p : Pk) : List Value := [.int .i64 p.w, .int .i64 p.h, .int .i64 p.s, .bool p.fx, .bool p.fy, .bool p.ex, .int .i64 p.an, .int .i64 p.px, .int .i64 p.py]
/-- the items lie in the cells from o on -/
def In9 (cs : Array Value) (o : Nat) (p : Pk) : Prop := ∀ j, j < 9 → cs[o + j]? = (vals p)[j]?
theorem In9.cells {w : World} {b : Nat} {cs : Array Value} {T : TypeId} {fz : Nat × Nat} {o : Nat} {p : Pk} (hh : w.heap[b]? = some (.cells cs T fz)) (h : In9 cs o p) : Cells9 w b o p := by
  have e : ∀ j, j < 9 → w.cell? ⟨b, o + j, none⟩ = (vals p)[j]? := fun j hj => (cellH hh _).trans (h j hj)
  exact ⟨e 0 (by omega), e 1 (by omega), e 2 (by omega), e 3 (by omega), e 4 (by omega), e 5 (by omega), e 6 (by omega), e 7 (by omega), e 8 (by omega)⟩
theorem In9.write {cs : Array Value} {o : Nat} (p : Pk) (h : o + 9 ≤ cs.size) : In9 (writeAt cs o (vals p)) o p := fun j hj => writeAt_in _ _ _ _ h hj
theorem In9.keep {cs : Array Value} {o o' : Nat} {p q : Pk} (h : In9 cs o' q) (hd : o' + 9 ≤ o ∨ o + 9 ≤ o') : In9 (writeAt cs o (vals p)) o' q := fun j hj => by
  rcases hd with hd | hd
  · rw [writeAt_lo _ _ _ _ (by omega)]; exact h j hj
  · rw [writeAt_hi _ _ _ _ (by simp [vals]; omega)]; exact h j hj
theorem pput1 {w : World} {b i : Nat} {cs : Array Value} {T : TypeId} {fz : Nat × Nat} (h : w.heap[b]? = some (.cells cs T fz)) (u : Value) : (w.setCell ⟨b, i, none⟩ u).heap[b]? = some (.cells (cs.setIfInBounds i u) T fz) := by
  simp [World.setCell, Array.getElem?_modify, h]
/-- nine stores into one block -/
theorem pput9 {w : World} {b : Nat} {cs : Array Value} {T : TypeId} {fz : Nat × Nat} (h : w.heap[b]? = some (.cells cs T fz)) (o : Nat) (p : Pk) :
    ((((((((((w.setCell ⟨b, o, none⟩ (.int .i64 p.w)).setCell ⟨b, o + 1, none⟩ (.int .i64 p.h)).setCell ⟨b, o + 2, none⟩ (.int .i64 p.s)).setCell ⟨b, o + 3, none⟩ (.bool p.fx)).setCell ⟨b, o + 4, none⟩ (.bool p.fy)).setCell ⟨b, o + 5, none⟩ (.bool p.ex)).setCell ⟨b, o + 6, none⟩ (.int .i64 p.an)).setCell ⟨b, o + 7, none⟩ (.int .i64 p.px)).setCell ⟨b, o + 8, none⟩ (.int .i64 p.py))).heap[b]? = some (.cells (writeAt cs o (vals p)) T fz) :=
  pput1 (pput1 (pput1 (pput1 (pput1 (pput1 (pput1 (pput1 (pput1 h _) _) _) _) _) _) _) _) _
theorem pput9b {B b : Nat} {a w : World} (h : Below B a w) (hb : B ≤ b) (o : Nat) (p : Pk) : Below B a ((((((((((w.setCell ⟨b, o, none⟩ (.int .i64 p.w)).setCell ⟨b, o + 1, none⟩ (.int .i64 p.h)).setCell ⟨b, o + 2, none⟩ (.int .i64 p.s)).setCell ⟨b, o + 3, none⟩ (.bool p.fx)).setCell ⟨b, o + 4, none⟩ (.bool p.fy)).setCell ⟨b, o + 5, none⟩ (.bool p.ex)).setCell ⟨b, o + 6, none⟩ (.int .i64 p.an)).setCell ⟨b, o + 7, none⟩ (.int .i64 p.px)).setCell ⟨b, o + 8, none⟩ (.int .i64 p.py))) :=
  ((((((((h.setCell hb _).setCell hb _).setCell hb _).setCell hb _).setCell hb _).setCell hb _).setCell hb _).setCell hb _).setCell hb _
/-- cells of a block that are there -/
theorem there {w : World} {b : Nat} {cs : Array Value} {T : TypeId} {fz : Nat × Nat} (h : w.heap[b]? = some (.cells cs T fz)) {i : Nat} (hi : i < cs.size) : ∃ v, w.cell? ⟨b, i, none⟩ = some v :=
  ⟨cs[i], (cellH h i).trans (by simp [hi])⟩
theorem frozenH {w : World} {b : Nat} {cs : Array Value} {T : TypeId} (h : w.heap[b]? = some (.cells cs T (0, 0))) (i : Nat) : w.frozen? ⟨b, i, none⟩ = false := by simp [World.frozen?, h]
theorem made9 : ∃ f : Nat → Array Value, (∀ n, (f n).size = n * 9) ∧ ∀ (n : Nat) (w : World), n ≤ 1048576 → (Instr.makeSlice 25 (.int .i64 (n : Int)) (.int .i64 (n : Int))).run Try.prog w = .ok (.slice (some ⟨w.heap.size, 0, none⟩) n n) (w.alloc (.cells (f n) 35)) := by
  have hinfo : (Try.prog.info? 35).map (fun i => (i.zero, i.size, i.bytes)) = some (some (.agg #[.int .i64 0, .int .i64 0, .int .i64 0, .bool false, .bool false, .bool false, .int .i64 0, .int .i64 0, .int .i64 0]), 9, 56) := by kernel_rfl
  obtain ⟨i, hi, h1, h2, h3⟩ := info_parts hinfo
  refine ⟨fun n => madeCells (Value.agg #[.int .i64 0, .int .i64 0, .int .i64 0, .bool false, .bool false, .bool false, .int .i64 0, .int .i64 0, .int .i64 0]).cells (n * 9), fun n => size_madeCells _ _, fun n w hn => ?_⟩
  have hr := run_make (P := Try.prog) w 25 35 i _ Try.underlying25 hi h1 .i64 .i64 n n (by omega) (Int.le_refl _) (by rw [h3]; omega) (by omega)
  rw [h2] at hr
  simpa using hr
end Go.Proofs.Ytjdjahckdgbkbab
end
section
namespace Go.Proofs.Ytjdjahckdgbkbab
open Go.RowKit
set_option linter.unusedVariables false
set_option maxHeartbeats 1000000
theorem toPack_v (p : Pk) (w : World) : Calls Try.prog 36 #[.agg #[.int .i64 p.w, .int .i64 p.h, .int .i64 p.s, .bool p.fx, .bool p.fy, .bool p.ex, .int .i64 p.an, .int .i64 p.px, .int .i64 p.py]] w fun e w' => e = .returned (.agg #[.int .i64 p.w, .int .i64 p.h, .int .i64 p.s, .bool p.fx, .bool p.fy, .bool p.ex, .int .i64 p.an, .int .i64 p.px, .int .i64 p.py]) ∧ Below w.heap.size w w' := toPack_any _ _ _ _ _ _ _ _ _ _
/-- what a new block of items holds -/
def Blk9 (w : World) (g : Nat) (L : List Pk) : Prop := ∃ cs : Array Value, w.heap[g]? = some (.cells cs 35 (0, 0)) ∧ cs.size = L.length * 9 ∧ ∀ i p, L[i]? = some p → In9 cs (i * 9) p
theorem Blk9.pv {w : World} {g : Nat} {L : List Pk} (h : Blk9 w g L) : PV w (some ⟨g, 0, none⟩) L := by
  obtain ⟨cs, hh, hs, hc⟩ := h
  refine ⟨fun _ => ⟨g, 0, rfl, (Array.getElem?_eq_some_iff.1 hh).1, fun i p hp => ?_⟩⟩
  have := (hc i p hp).cells hh
  simpa using this
theorem Blk9.keep {w w' : World} {g : Nat} {L : List Pk} (h : Blk9 w g L) (hb : Below w.heap.size w w') : Blk9 w' g L := by
  obtain ⟨cs, hh, hs, hc⟩ := h
  exact ⟨cs, (hb.block g (Array.getElem?_eq_some_iff.1 hh).1).trans hh, hs, hc⟩
theorem Blk9.lt {w : World} {g : Nat} {L : List Pk} (h : Blk9 w g L) : g < w.heap.size := by obtain ⟨cs, hh, _⟩ := h; exact (Array.getElem?_eq_some_iff.1 hh).1
set_option maxRecDepth 100000 in
theorem toPackS_any (A : Option Addr) (c : Nat) (L : List Pk) (w : World) (h : PV w A L) (hL : L.length ≤ 1048576) :
    Calls Try.prog 11 #[.slice A L.length c] w fun e w' => e = .returned (.slice (some ⟨w.heap.size, 0, none⟩) L.length L.length) ∧ Blk9 w' w.heap.size L ∧ Below w.heap.size w w' := by
  obtain ⟨f, hf, hmk0⟩ := made9
  have hmk : ∀ w : World, (Instr.makeSlice 25 (.int .i64 (L.length : Int)) (.int .i64 (L.length : Int))).run Try.prog w = .ok (.slice (some ⟨w.heap.size, 0, none⟩) L.length L.length) (w.alloc (.cells (f L.length) 35)) := fun w => hmk0 L.length w hL
  go_enter Try.func11, Try.ntmps11
  go_wp2_with fail
  have HW : ∃ cs : Array Value, (w.alloc (.cells (f L.length) 35)).heap[w.heap.size]? = some (.cells cs 35 (0, 0)) ∧ cs.size = L.length * 9 ∧ ∀ i p, i < 0 → L[i]? = some p → In9 cs (i * 9) p := ⟨_, heap_new _ _, hf _, fun i p hi => absurd hi (by omega)⟩
  have HWW := Lib.hid HW
  clear HW hmk hmk0 hf
  go_loopw [4] (fun i wr => ∃ k : Nat, k ≤ L.length ∧ i = .int .i64 k ∧ (∃ cs : Array Value, wr.heap[w.heap.size]? = some (.cells cs 35 (0, 0)) ∧ cs.size = L.length * 9 ∧ ∀ i p, i < k → L[i]? = some p → In9 cs (i * 9) p) ∧ Below w.heap.size w wr) (fun i _ => L.length - (intOf i).toNat)
  case atStart => exact ⟨0, by omega, rfl, HWW.out, balloc (Below.refl _ _)⟩
  case round =>
    obtain ⟨k, hk, rfl, ⟨cs, hh, hs, hc⟩, hB⟩ := hrel
    clear HWW
    by_cases hlt : k < L.length
    · have hd : decide ((k : Int) < (L.length : Int)) = true := by simpa using hlt
      obtain ⟨b, off, rfl, hb, hp⟩ := (h.keep hB).cells (by omega)
      obtain ⟨c0, c1, c2, c3, c4, c5, c6, c7, c8⟩ := hp k _ (List.getElem?_eq_getElem hlt)
      have hget : L[k]? = some L[k] := List.getElem?_eq_getElem hlt
      generalize hx : L[k] = p at *
      have HG := Lib.hid hget
      have HX := Lib.hid hx
      have HH := Lib.hid hh
      have HS := Lib.hid hs
      have HC := Lib.hid hc
      have HBB := Lib.hid hB
      have HP := Lib.hid hp
      clear hget hx hh hs hc hB hp
      go_wp2_with fail
      refine (toPack_v p _).mono ?_
      rintro e w1 ⟨rfl, hb1⟩
      have hlg : w.heap.size < wr.heap.size := (Array.getElem?_eq_some_iff.1 HH.out).1
      replace HH := Lib.hid ((hb1.block _ hlg).trans HH.out)
      replace HBB := Lib.hid (HBB.out.trans (hb1.mono HBB.out.size))
      clear hb1 c0 c1 c2 c3 c4 c5 c6 c7 c8 hlg
      have hsz : k * 9 + 9 ≤ cs.size := by rw [HS.out]; omega
      obtain ⟨y0, d0⟩ := there HH.out (i := k * 9) (by omega)
      obtain ⟨y1, d1⟩ := there HH.out (i := k * 9 + 1) (by omega)
      obtain ⟨y2, d2⟩ := there HH.out (i := k * 9 + 2) (by omega)
      obtain ⟨y3, d3⟩ := there HH.out (i := k * 9 + 3) (by omega)
      obtain ⟨y4, d4⟩ := there HH.out (i := k * 9 + 4) (by omega)
      obtain ⟨y5, d5⟩ := there HH.out (i := k * 9 + 5) (by omega)
      obtain ⟨y6, d6⟩ := there HH.out (i := k * 9 + 6) (by omega)
      obtain ⟨y7, d7⟩ := there HH.out (i := k * 9 + 7) (by omega)
      obtain ⟨y8, d8⟩ := there HH.out (i := k * 9 + 8) (by omega)
      have f0 := frozenH HH.out (k * 9)
      have f1 := frozenH HH.out (k * 9 + 1)
      have f2 := frozenH HH.out (k * 9 + 2)
      have f3 := frozenH HH.out (k * 9 + 3)
      have f4 := frozenH HH.out (k * 9 + 4)
      have f5 := frozenH HH.out (k * 9 + 5)
      have f6 := frozenH HH.out (k * 9 + 6)
      have f7 := frozenH HH.out (k * 9 + 7)
      have f8 := frozenH HH.out (k * 9 + 8)
      have E1 := Lib.hid (pput9 HH.out (k * 9) p)
      have E2 := Lib.hid (pput9b HBB.out (Nat.le_refl _) (k * 9) p)
      go_wp2
      go_roundw
      case rel => exact ⟨k + 1, by omega, by go_num, ⟨_, E1.out, (writeAt_size _ _ _).trans HS.out, fun i q hi hq => by
        by_cases e : i = k
        · subst e
          obtain rfl : p = q := by have := HG.out; rw [this] at hq; exact Option.some.inj hq
          exact In9.write p hsz
        · exact (HC.out i q (by omega) hq).keep (.inl (by omega))⟩, E2.out⟩
      case measure => simp [intOf]; omega
    · have hd : decide ((k : Int) < (L.length : Int)) = false := by simp; omega
      obtain rfl : k = L.length := by omega
      have HR := Lib.hid (show Blk9 wr w.heap.size L from ⟨cs, hh, hs, fun i p hp => hc i p (List.getElem?_eq_some_iff.1 hp).1 hp⟩)
      have HBB := Lib.hid hB
      clear hh hs hc hB
      go_wp2
      go_ret
      exact ⟨rfl, HR.out, HBB.out⟩
end Go.Proofs.Ytjdjahckdgbkbab
end
section
namespace Go.Proofs.Ytjdjahckdgbkbab
open Go.RowKit
set_option linter.unusedVariables false
set_option maxHeartbeats 1000000
attribute [local go_sem] growUpon_value growUpon_skip growUpon_enter
set_option maxRecDepth 100000 in
theorem eqPack_same (p : Pk) (w : World) : Calls Try.prog 40 #[.agg #[.int .i64 p.w, .int .i64 p.h, .int .i64 p.s, .bool p.fx, .bool p.fy, .bool p.ex, .int .i64 p.an, .int .i64 p.px, .int .i64 p.py], .agg #[.int .i64 p.w, .int .i64 p.h, .int .i64 p.s, .bool p.fx, .bool p.fy, .bool p.ex, .int .i64 p.an, .int .i64 p.px, .int .i64 p.py]] w fun e w' => e = .returned (.bool true) ∧ Below w.heap.size w w' := by
  go_enter Try.func40, Try.ntmps40
  go_wp2
  go_ret
  exact ⟨rfl, balloc (balloc (Below.refl _ _))⟩
set_option maxRecDepth 100000 in
theorem eqPackS_same (A B : Option Addr) (c c' : Nat) (L : List Pk) (w : World) (h : PV w A L) (h' : PV w B L) (hL : L.length ≤ 1048576) :
    Calls Try.prog 13 #[.slice A L.length c, .slice B L.length c'] w fun e w' => e = .returned (.bool true) ∧ Below w.heap.size w w' := by
  go_enter Try.func13, Try.ntmps13
  go_wp2_with fail
  go_loopw [5] (fun i wr => ∃ k : Nat, k ≤ L.length ∧ i = .int .i64 k ∧ Below w.heap.size w wr) (fun i _ => L.length - (intOf i).toNat)
  case atStart => exact ⟨0, by omega, rfl, Below.refl _ _⟩
  case round =>
    obtain ⟨k, hk, rfl, hB⟩ := hrel
    by_cases hlt : k < L.length
    · have hd : decide ((k : Int) < (L.length : Int)) = true := by simpa using hlt
      have h1 := h.keep hB
      have h2 := h'.keep hB
      obtain ⟨b, off, rfl, hb, hp⟩ := h1.cells (by omega)
      obtain ⟨b', off', rfl, hb', hp'⟩ := h2.cells (by omega)
      obtain ⟨c0, c1, c2, c3, c4, c5, c6, c7, c8⟩ := hp k _ (List.getElem?_eq_getElem hlt)
      obtain ⟨d0, d1, d2, d3, d4, d5, d6, d7, d8⟩ := hp' k _ (List.getElem?_eq_getElem hlt)
      generalize hx : L[k] = p at *
      have HX := Lib.hid hx
      have HP := Lib.hid hp
      have HP' := Lib.hid hp'
      have HBB := Lib.hid hB
      clear hx hp hp' hB h1 h2
      go_wp2_with fail
      refine wp_region_grow 10 0 (· < 10) (by kernel_rfl) (by kernel_rfl) rfl ?_
      iterate 10 (refine wpG_step (fun K hK => ?_); apply Exists.intro; refine ⟨.inl ⟨rfl, fun w' hw' => ?_⟩, ?_⟩; (focus ((obtain ⟨hc, hf⟩ := bcell hw'.out); (have hcS := bcellS hw'.out); go_simp <;> first | rfl | (go_at_call 40; exact eqPack_same p _))); (go_simp; refine hK _ ?_; clear hK K))
      refine wpG_nil ?_
      refine wpK_tail (by kernel_rfl) (fun w1 hg1 => ?_)
      refine wpAny_end (by kernel_rfl) ?_
      refine NoPan.thn ?_
      have hb1 := hg1.out
      replace HBB := Lib.hid (HBB.out.trans ((Below.refl wr.heap.size wr).drew.trans hb1 |>.mono HBB.out.size))
      clear hb1 hg1 c0 c1 c2 c3 c4 c5 c6 c7 c8 d0 d1 d2 d3 d4 d5 d6 d7 d8
      go_wp2
      go_roundw
      case rel => exact ⟨k + 1, by omega, by go_num, HBB.out⟩
      case measure => simp [intOf]; omega
    · have hd : decide ((k : Int) < (L.length : Int)) = false := by simp; omega
      have HBB := Lib.hid hB
      clear hB
      go_wp2
      go_ret
      exact ⟨rfl, HBB.out⟩
theorem szPackS_yes (A : Option Addr) (c n : Nat) (w : World) (h : n ≤ 1048576) : Calls Try.prog 9 #[.slice A n c, .int .i64 1048576] w fun e w' => (∃ r : Int, e = .returned (.int .i64 r) ∧ 0 ≤ r) ∧ w' = w := by
  have h1 : decide ((1048576 : Int) - (n : Int) < 0) = false := by simp; omega
  go_enter Try.func9, Try.ntmps9
  go_wp2
  go_ret
  exact ⟨⟨_, rfl, by omega⟩, rfl⟩
theorem szPackS_no (A : Option Addr) (c n : Nat) (w : World) (h : ¬ n ≤ 1048576) (hn : n ≤ maxLen) : Calls Try.prog 9 #[.slice A n c, .int .i64 1048576] w fun e w' => e = .returned (.int .i64 (-1)) ∧ w' = w := by
  unfold maxLen at hn
  have h1 : decide ((1048576 : Int) - (n : Int) < 0) = true := by simp; omega
  go_enter Try.func9, Try.ntmps9
  go_wp2
  go_ret
  exact ⟨rfl, rfl⟩
end Go.Proofs.Ytjdjahckdgbkbab
end
section
set_option linter.unusedVariables false
namespace Go.Proofs.Ytjdjahckdgbkbab
/-- the share of the first item: what is left of the answer, the room, the count -/
def shareGo : List Pk → Bool → Int → Int → Int → Int
  | [], d, sh, rm, n => mn sh (mx rm 0 / n)
  | p :: r, d, sh, rm, n => if p.down = d then shareGo r d sh (rm - p.need d) (if p.ex then n + 1 else n) else shareGo r d (mn sh (mx (rm - p.need d) 0 / n)) rm n
theorem shareGo_same {p : Pk} {r : List Pk} {d : Bool} {sh rm n : Int} (h : p.down = d) (hx : p.ex = true) : shareGo (p :: r) d sh rm n = shareGo r d sh (rm - p.need d) (n + 1) := by
  rw [shareGo, if_pos h, hx]; rfl
theorem shareGo_plain {p : Pk} {r : List Pk} {d : Bool} {sh rm n : Int} (h : p.down = d) (hx : p.ex = false) : shareGo (p :: r) d sh rm n = shareGo r d sh (rm - p.need d) n := by
  rw [shareGo, if_pos h, hx]; rfl
theorem shareGo_other {p : Pk} {r : List Pk} {d : Bool} {sh rm n : Int} (h : ¬ p.down = d) : shareGo (p :: r) d sh rm n = shareGo r d (mn sh (mx (rm - p.need d) 0 / n)) rm n := by
  rw [shareGo, if_neg h]
def halfI (r n : Int) : Int := if r < 0 then 0 else r / n
theorem halfI_eq {r n : Int} : halfI r n = mx r 0 / n := by
  unfold halfI mx
  by_cases h : r < 0
  · rw [if_pos h, if_pos (by omega), Int.zero_ediv]
  · rw [if_neg h, if_neg (by omega)]
theorem part_bd {r n : Int} (h1 : r ≤ 400) (h2 : 1 ≤ n) : 0 ≤ mx r 0 / n ∧ mx r 0 / n ≤ 400 := by
  have := mx_spec r 0
  have h3 : 0 ≤ mx r 0 := by omega
  refine ⟨Int.ediv_nonneg h3 (by omega), ?_⟩
  have := Int.ediv_le_self n h3
  omega
theorem drop_cons {L : List Pk} {k : Nat} {p : Pk} (h : L[k]? = some p) : L.drop k = p :: L.drop (k + 1) := by
  have hk := (List.getElem?_eq_some_iff.1 h).1
  have e := (List.getElem?_eq_some_iff.1 h).2
  rw [List.drop_eq_getElem_cons hk, e]
theorem shareGo_bd : ∀ {L : List Pk} {d : Bool} {sh rm n : Int}, (∀ p ∈ L, p.ok = true) → 0 ≤ sh → sh ≤ 400 → rm ≤ 400 → 1 ≤ n → 0 ≤ shareGo L d sh rm n ∧ shareGo L d sh rm n ≤ 400
  | [], d, sh, rm, n, _, h1, h2, h3, h4 => by
    have := part_bd h3 h4
    have := mn_spec sh (mx rm 0 / n)
    simp only [shareGo]; omega
  | p :: r, d, sh, rm, n, hL, h1, h2, h3, h4 => by
    have hp := hL p List.mem_cons_self
    have nb := Pk.need_bd hp d
    have hr : ∀ p ∈ r, p.ok = true := fun q hq => hL q (List.mem_cons_of_mem _ hq)
    unfold shareGo
    split
    · exact shareGo_bd hr h1 h2 (by omega) (by split <;> omega)
    · have := part_bd (r := rm - p.need d) (n := n) (by omega) h4
      have := mn_spec sh (mx (rm - p.need d) 0 / n)
      exact shareGo_bd hr (by omega) (by omega) h3 h4
end Go.Proofs.Ytjdjahckdgbkbab
end
section
namespace Go.Proofs.Ytjdjahckdgbkbab
open Go.RowKit
set_option linter.unusedVariables false
set_option maxHeartbeats 1000000
attribute [local go_sem 5000] run_mx run_mn
theorem belowN' {B : Nat} {a w : World} (h : Below B a w) (n : Nat) : Below B a (w.drewN n) := ⟨h.os, h.tape, h.output, h.size, h.block⟩
theorem pbd {p : Pk} (h : p.ok = true) : ((0 ≤ p.w ∧ p.w ≤ 30) ∧ (0 ≤ p.h ∧ p.h ≤ 30) ∧ (0 ≤ p.s ∧ p.s ≤ 3) ∧ (0 ≤ p.an ∧ p.an ≤ 8) ∧ (0 ≤ p.px ∧ p.px ≤ 10) ∧ (0 ≤ p.py ∧ p.py ≤ 10)) := vpB_iff.1 h
theorem isDown_x (p : Pk) (ex : Bool) (w : World) : Calls Try.prog 64 #[.agg #[.int .i64 p.w, .int .i64 p.h, .int .i64 p.s, .bool p.fx, .bool p.fy, .bool ex, .int .i64 p.an, .int .i64 p.px, .int .i64 p.py]] w fun e w' => e = .returned (.bool p.down) ∧ Below w.heap.size w w' := by
  by_cases h0 : p.s = 0
  · have e0 : (p.s == 0) = true := by simpa using h0
    go_enter Try.func64, Try.ntmps64
    go_wp2
    go_ret
    exact ⟨ret_bool (by simp [Pk.down, h0]), balloc (Below.refl _ _)⟩
  · have e0 : (p.s == 0) = false := by simpa using h0
    by_cases h1 : p.s = 1
    · have e1 : (p.s == 1) = true := by simpa using h1
      go_enter Try.func64, Try.ntmps64
      go_wp2
      go_ret
      exact ⟨ret_bool (by simp [Pk.down, h1]), balloc (Below.refl _ _)⟩
    · have e1 : (p.s == 1) = false := by simpa using h1
      go_enter Try.func64, Try.ntmps64
      go_wp2
      go_ret
      exact ⟨ret_bool (by simp [Pk.down, h0, h1]), balloc (Below.refl _ _)⟩
theorem isDown_v (p : Pk) (w : World) : Calls Try.prog 64 #[.agg #[.int .i64 p.w, .int .i64 p.h, .int .i64 p.s, .bool p.fx, .bool p.fy, .bool p.ex, .int .i64 p.an, .int .i64 p.px, .int .i64 p.py]] w fun e w' => e = .returned (.bool p.down) ∧ Below w.heap.size w w' := isDown_x p p.ex w
theorem upright_v (s : Int) (w : World) : Calls Try.prog 72 #[.int .i64 s] w fun e w' => e = .returned (.bool (decide (s = 0 ∨ s = 1))) ∧ w = w' := by
  by_cases h0 : s = 0
  · have e0 : (s == 0) = true := by simpa using h0
    go_enter Try.func72, Try.ntmps72
    go_wp2
    go_ret
    exact ⟨ret_bool (by simp [h0]), rfl⟩
  · have e0 : (s == 0) = false := by simpa using h0
    by_cases h1 : s = 1
    · have e1 : (s == 1) = true := by simpa using h1
      go_enter Try.func72, Try.ntmps72
      go_wp2
      go_ret
      exact ⟨ret_bool (by simp [h1]), rfl⟩
    · have e1 : (s == 1) = false := by simpa using h1
      go_enter Try.func72, Try.ntmps72
      go_wp2
      go_ret
      exact ⟨ret_bool (by simp [h0, h1]), rfl⟩
theorem need_w (p : Pk) (d : Bool) (w : World) (h : p.big) : Calls Try.prog 65 #[.agg #[.int .i64 p.w, .int .i64 p.h, .int .i64 p.s, .bool p.fx, .bool p.fy, .bool p.ex, .int .i64 p.an, .int .i64 p.px, .int .i64 p.py], .bool d] w fun e w' => e = .returned (.int .i64 (p.need d)) ∧ Below w.heap.size w w' := by
  obtain ⟨⟨a1, a2⟩, ⟨a3, a4⟩, _, _, ⟨a5, a6⟩, ⟨a7, a8⟩⟩ := h
  cases d
  all_goals
    go_enter Try.func65, Try.ntmps65
    go_wp2
    go_ret
    exact ⟨ret_int rfl, balloc (Below.refl _ _)⟩
theorem need_v (p : Pk) (d : Bool) (w : World) (h : p.ok = true) : Calls Try.prog 65 #[.agg #[.int .i64 p.w, .int .i64 p.h, .int .i64 p.s, .bool p.fx, .bool p.fy, .bool p.ex, .int .i64 p.an, .int .i64 p.px, .int .i64 p.py], .bool d] w fun e w' => e = .returned (.int .i64 (p.need d)) ∧ Below w.heap.size w w' := need_w p d w (Pk.ok_big h)
theorem outer_w (p : Pk) (w : World) (h : p.big) : Calls Try.prog 71 #[.agg #[.int .i64 p.w, .int .i64 p.h, .int .i64 p.s, .bool p.fx, .bool p.fy, .bool p.ex, .int .i64 p.an, .int .i64 p.px, .int .i64 p.py]] w fun e w' => e = .returned (.tuple #[.int .i64 (p.need false), .int .i64 (p.need true)]) ∧ Below w.heap.size w w' := by
  obtain ⟨⟨a1, a2⟩, ⟨a3, a4⟩, _, _, ⟨a5, a6⟩, ⟨a7, a8⟩⟩ := h
  have e1 : IntKind.i64.wrap (2 * p.px) = 2 * p.px := IntWalk.i64_in _ (by omega)
  have e2 : IntKind.i64.wrap (2 * p.py) = 2 * p.py := IntWalk.i64_in _ (by omega)
  have e3 : IntKind.i64.wrap (p.w + 2 * p.px) = p.w + 2 * p.px := IntWalk.i64_in _ (by omega)
  have e4 : IntKind.i64.wrap (p.h + 2 * p.py) = p.h + 2 * p.py := IntWalk.i64_in _ (by omega)
  go_enter Try.func71, Try.ntmps71
  go_wp2_with fail
  go_quiet (fail)
  clear e1 e2 e3 e4
  go_wp2
  go_ret2
  exact ⟨rfl, belowN' (balloc (Below.refl _ _)) _⟩
theorem outer_v (p : Pk) (w : World) (h : p.ok = true) : Calls Try.prog 71 #[.agg #[.int .i64 p.w, .int .i64 p.h, .int .i64 p.s, .bool p.fx, .bool p.fy, .bool p.ex, .int .i64 p.an, .int .i64 p.px, .int .i64 p.py]] w fun e w' => e = .returned (.tuple #[.int .i64 (p.need false), .int .i64 (p.need true)]) ∧ Below w.heap.size w w' := outer_w p w (Pk.ok_big h)
theorem half_v (r n : Int) (w : World) (h1 : -1000 ≤ r) (h2 : r ≤ 1000) (h3 : 1 ≤ n) (h4 : n ≤ 1000) : Calls Try.prog 87 #[.int .i64 r, .int .i64 n] w fun e w' => e = .returned (.int .i64 (mx r 0 / n)) ∧ w = w' := by
  rw [← halfI_eq]
  by_cases h : r < 0
  · go_enter Try.func87, Try.ntmps87
    go_wp2
    go_ret
    exact ⟨ret_int (by unfold halfI; rw [if_pos h]), rfl⟩
  · have hd : decide (r < 0) = false := by simpa using h
    have h0 : 0 ≤ r := by omega
    have hn : ¬ n = 0 := by omega
    go_enter Try.func87, Try.ntmps87
    go_wp2
    go_ret
    exact ⟨ret_int (by unfold halfI; rw [if_neg (by omega)]), rfl⟩
end Go.Proofs.Ytjdjahckdgbkbab
end
section
namespace Go.Proofs.Ytjdjahckdgbkbab
open Go.RowKit
set_option linter.unusedVariables false
set_option maxHeartbeats 1000000
attribute [local go_sem 5000] run_mx run_mn
set_option maxRecDepth 100000 in
theorem expandShare_v (A : Option Addr) (c : Nat) (L : List Pk) (room : Int) (d : Bool) (w : World) (h : PV w A L) (hL : vpsB L = true) (p0 : Pk) (r0 : List Pk) (hp0 : L = p0 :: r0) (hd0 : p0.down = d) (hx0 : p0.ex = true) (hr : 0 ≤ room) (hr' : room ≤ 400) :
    Calls Try.prog 67 #[.slice A L.length c, .int .i64 room, .bool d] w fun e w' => e = .returned (.int .i64 (shareGo L d room room 0)) ∧ Below w.heap.size w w' := by
  obtain ⟨hok, h7⟩ := vpsB_iff.1 hL
  have H0 := Lib.hid (And.intro hp0 (And.intro hd0 hx0))
  have HL := Lib.hid hok
  clear hp0 hd0 hx0 hok hL
  obtain ⟨R, hR⟩ : ∃ R, shareGo L d room room 0 = R := ⟨_, rfl⟩
  rw [hR]
  have HR := Lib.hid hR
  clear hR
  go_enter Try.func67, Try.ntmps67
  go_wp2_with fail
  go_loopw [1, 7, 8, 14] (fun rm sh n i wr => ∃ (k : Nat) (a b q : Int), k ≤ L.length ∧ rm = .int .i64 a ∧ sh = .int .i64 b ∧ n = .int .i64 q ∧ i = .int .i64 k ∧ shareGo (L.drop k) d b a q = R ∧ (-(50 * (k : Int)) ≤ a ∧ a ≤ 400) ∧ (0 ≤ b ∧ b ≤ 400) ∧ (0 ≤ q ∧ q ≤ k) ∧ (1 ≤ k → 1 ≤ q) ∧ Below w.heap.size w wr) (fun _ _ _ i _ => L.length - (intOf i).toNat)
  case atStart => exact ⟨0, room, room, 0, by omega, rfl, rfl, rfl, rfl, HR.out, by omega, by omega, by omega, by omega, Below.refl _ _⟩
  case round =>
    obtain ⟨k, a, b, q, hk, rfl, rfl, rfl, rfl, hS, ⟨ha1, ha2⟩, ⟨hb1, hb2⟩, ⟨hq1, hq2⟩, hkq, hB⟩ := hrel
    have HBB := Lib.hid hB
    have HS := Lib.hid hS
    clear HR hB hS
    by_cases hlt : k < L.length
    · have hd : decide ((k : Int) < (L.length : Int)) = true := by simpa using hlt
      obtain ⟨g, off, rfl, hg, hp⟩ := (h.keep HBB.out).cells (by omega)
      obtain ⟨c0, c1, c2, c3, c4, c5, c6, c7, c8⟩ := hp k _ (List.getElem?_eq_getElem hlt)
      have hget : L[k]? = some L[k] := List.getElem?_eq_getElem hlt
      generalize hx : L[k] = p at *
      have hpk : p.ok = true := HL.out p (List.mem_of_getElem? hget)
      have nb := Pk.need_bd hpk d
      have hfst : k = 0 → p.down = d ∧ p.ex = true := by
        rintro rfl
        obtain ⟨e1, e2, e3⟩ := H0.out
        have e4 : p = p0 := by rw [e1] at hget; simpa using hget.symm
        rw [e4]; exact ⟨e2, e3⟩
      have HG := Lib.hid hget
      have HX := Lib.hid hx
      have HP := Lib.hid hp
      have HPK := Lib.hid hpk
      clear hget hx hp hpk
      by_cases hdn : p.down = d
      · have hne : (p.down != d) = false := by simp [hdn]
        have heq : (p.down == d) = true := by simp [hdn]
        have HDN := Lib.hid hdn
        have HF := Lib.hid hfst
        clear hdn hfst
        cases hex : p.ex
        all_goals
          have HEX := Lib.hid hex
          rw [hex] at c5
          clear hex
          go_wp2_with fail
          rw [← HEX.out]
          refine (isDown_v p _).mono ?_
          rintro e w1 ⟨rfl, hbb⟩
          have hv := (hbb.block wr.heap.size (by simp)).trans (heap_new wr _)
          replace HBB := Lib.hid (HBB.out.trans ((Below.refl wr.heap.size wr).alloc (Nat.le_refl _) _ |>.trans (hbb.mono (by simp)) |>.mono HBB.out.size))
          have HV := Lib.hid hv
          obtain ⟨v0, v1, v2, v3, v4, v5, v6, v7, v8⟩ := b9c hv
          clear hbb hv c0 c1 c2 c3 c4 c5 c6 c7 c8
          go_wp2_with fail
          refine (need_v p d _ HPK.out).mono ?_
          rintro e w2 ⟨rfl, hbb⟩
          have hv := (hbb.block wr.heap.size (Array.getElem?_eq_some_iff.1 HV.out).1).trans HV.out
          replace HBB := Lib.hid (HBB.out.trans (hbb.mono HBB.out.size))
          clear v0 v1 v2 v3 v4 v5 v6 v7 v8
          obtain ⟨v0, v1, v2, v3, v4, v5, v6, v7, v8⟩ := b9c hv
          rw [HEX.out] at v5
          clear hbb hv HV
          go_wp2
          go_roundw
        case rel => exact ⟨k + 1, _, _, _, by omega, rfl, rfl, rfl, by go_num, by rw [← HS.out, drop_cons HG.out, shareGo_plain HDN.out HEX.out], by omega, by omega, by omega, fun _ => hkq (by
          rcases Nat.eq_zero_or_pos k with e | e
          · have h9 := (HF.out e).2
            rw [HEX.out] at h9
            cases h9
          · exact e), HBB.out⟩
        case measure => simp [intOf]; omega
        case rel => exact ⟨k + 1, _, _, _, by omega, rfl, rfl, rfl, by go_num, by rw [← HS.out, drop_cons HG.out, shareGo_same HDN.out HEX.out], by omega, by omega, by omega, by omega, HBB.out⟩
        case measure => simp [intOf]; omega
      · have hne : (p.down != d) = true := by simpa using hdn
        have heq : (p.down == d) = false := by simpa using hdn
        have hk1 : 1 ≤ k := by
          rcases Nat.eq_zero_or_pos k with e | e
          · exact absurd (hfst e).1 hdn
          · exact e
        have hq3 : 1 ≤ q := hkq hk1
        have HDN := Lib.hid hdn
        have pb := part_bd (r := a - p.need d) (n := q) (by omega) hq3
        have mb := mx_spec (a - p.need d) 0
        have m0 : 0 ≤ mx (a - p.need d) 0 := by omega
        have nb2 := mn_spec b (mx (a - p.need d) 0 / q)
        have hq0 : ¬ q = 0 := by omega
        clear hdn hfst hkq
        go_wp2_with fail
        refine (isDown_v p _).mono ?_
        rintro e w1 ⟨rfl, hbb⟩
        have hv := (hbb.block wr.heap.size (by simp)).trans (heap_new wr _)
        replace HBB := Lib.hid (HBB.out.trans ((Below.refl wr.heap.size wr).alloc (Nat.le_refl _) _ |>.trans (hbb.mono (by simp)) |>.mono HBB.out.size))
        have HV := Lib.hid hv
        obtain ⟨v0, v1, v2, v3, v4, v5, v6, v7, v8⟩ := b9c hv
        clear hbb hv c0 c1 c2 c3 c4 c5 c6 c7 c8
        go_wp2_with fail
        refine (need_v p d _ HPK.out).mono ?_
        rintro e w2 ⟨rfl, hbb⟩
        replace HBB := Lib.hid (HBB.out.trans (hbb.mono HBB.out.size))
        clear v0 v1 v2 v3 v4 v5 v6 v7 v8 hbb HV
        go_wp2
        go_roundw
        case rel => exact ⟨k + 1, _, _, _, by omega, rfl, rfl, rfl, by go_num, by rw [← HS.out, drop_cons HG.out, shareGo_other HDN.out], by omega, by omega, by omega, by omega, HBB.out⟩
        case measure => simp [intOf]; omega
    · have hd : decide ((k : Int) < (L.length : Int)) = false := by simp; omega
      obtain rfl : k = L.length := by omega
      have hk1 : 1 ≤ L.length := by rw [H0.out.1]; simp
      have hq3 : 1 ≤ q := hkq hk1
      have hSS := HS.out
      rw [List.drop_length] at hSS
      have HS2 := Lib.hid hSS
      have pb := part_bd (r := a) (n := q) (by omega) hq3
      have mb := mx_spec a 0
      have m0 : 0 ≤ mx a 0 := by omega
      have hq0 : ¬ q = 0 := by omega
      clear hSS HS hkq
      go_wp2
      go_ret
      exact ⟨ret_int (by rw [← HS2.out]; rfl), HBB.out⟩
end Go.Proofs.Ytjdjahckdgbkbab
end
section
namespace Go.Proofs.Ytjdjahckdgbkbab
open Go.RowKit
set_option linter.unusedVariables false
set_option maxHeartbeats 1000000
attribute [local go_sem 5000] run_mx run_mn
theorem upright_p (p : Pk) (w : World) : Calls Try.prog 72 #[.int .i64 p.s] w fun e w' => e = .returned (.bool p.down) ∧ w = w' := upright_v p.s w
theorem mx_pos {a : Int} (h : 0 ≤ a) : mx a 0 = a := by have := mx_spec a 0; omega
set_option maxRecDepth 100000 in
theorem share_v (A : Option Addr) (c : Nat) (L : List Pk) (room : Int) (d : Bool) (w : World) (h : PV w A L) (hL : vpsB L = true) (p0 : Pk) (r0 : List Pk) (hp0 : L = p0 :: r0) (hd0 : p0.down = d) (hx0 : p0.ex = true) (hr : 0 ≤ room) (hr' : room ≤ 400) :
    Calls Try.prog 73 #[.slice A L.length c, .int .i64 room, .bool d] w fun e w' => e = .returned (.int .i64 (shareGo L d room room 0)) ∧ Below w.heap.size w w' := by
  obtain ⟨hok, h7⟩ := vpsB_iff.1 hL
  have H0 := Lib.hid (And.intro hp0 (And.intro hd0 hx0))
  have HL := Lib.hid hok
  clear hp0 hd0 hx0 hok hL
  obtain ⟨R, hR⟩ : ∃ R, shareGo L d room room 0 = R := ⟨_, rfl⟩
  rw [hR]
  have HR := Lib.hid hR
  clear hR
  go_enter Try.func73, Try.ntmps73
  go_wp2_with fail
  go_loopw [1, 7, 8, 9] (fun rm sh n i wr => ∃ (k : Nat) (a b q : Int), k ≤ L.length ∧ rm = .int .i64 a ∧ sh = .int .i64 b ∧ n = .int .i64 q ∧ i = .int .i64 k ∧ shareGo (L.drop k) d b a q = R ∧ (-(50 * (k : Int)) ≤ a ∧ a ≤ 400) ∧ (0 ≤ b ∧ b ≤ 400) ∧ (0 ≤ q ∧ q ≤ k) ∧ (1 ≤ k → 1 ≤ q) ∧ Below w.heap.size w wr) (fun _ _ _ i _ => L.length - (intOf i).toNat)
  case atStart => exact ⟨0, room, room, 0, by omega, rfl, rfl, rfl, rfl, HR.out, by omega, by omega, by omega, by omega, Below.refl _ _⟩
  case round =>
    obtain ⟨k, a, b, q, hk, rfl, rfl, rfl, rfl, hS, ⟨ha1, ha2⟩, ⟨hb1, hb2⟩, ⟨hq1, hq2⟩, hkq, hB⟩ := hrel
    have HBB := Lib.hid hB
    have HS := Lib.hid hS
    clear HR hB hS
    by_cases hlt : k < L.length
    · have hd : decide ((k : Int) < (L.length : Int)) = true := by simpa using hlt
      obtain ⟨g, off, rfl, hg, hp⟩ := (h.keep HBB.out).cells (by omega)
      obtain ⟨c0, c1, c2, c3, c4, c5, c6, c7, c8⟩ := hp k _ (List.getElem?_eq_getElem hlt)
      have hget : L[k]? = some L[k] := List.getElem?_eq_getElem hlt
      generalize hx : L[k] = p at *
      have hpk : p.ok = true := HL.out p (List.mem_of_getElem? hget)
      have nb := Pk.need_bd hpk d
      have hfst : k = 0 → p.down = d ∧ p.ex = true := by
        rintro rfl
        obtain ⟨e1, e2, e3⟩ := H0.out
        have e4 : p = p0 := by rw [e1] at hget; simpa using hget.symm
        rw [e4]; exact ⟨e2, e3⟩
      have HG := Lib.hid hget
      have HX := Lib.hid hx
      have HP := Lib.hid hp
      have HPK := Lib.hid hpk
      clear hget hx hp hpk
      by_cases hdn : p.down = d
      · have heq : (p.down == d) = true := by simp [hdn]
        have HDN := Lib.hid hdn
        have HF := Lib.hid hfst
        clear hdn hfst
        cases hex : p.ex
        all_goals
          have HEX := Lib.hid hex
          have HC5 := Lib.hid c5
          clear hex
          go_wp2_with fail
          refine (outer_v p _ HPK.out).mono ?_
          rintro e w1 ⟨rfl, hbb⟩
          obtain ⟨d0, d1, d2, d3, d4, d5, d6, d7, d8⟩ := (HP.out k p HG.out).keep (hbb.block g hg)
          rw [HEX.out] at d5
          replace HBB := Lib.hid (HBB.out.trans (hbb.mono HBB.out.size))
          clear hbb c0 c1 c2 c3 c4 c5 c6 c7 c8
          cases d
          all_goals
            go_wp2_with fail
            refine (upright_p p _).mono ?_
            rintro e w2 ⟨rfl, rfl⟩
            go_wp2
            go_roundw
        case rel => exact ⟨k + 1, _, _, _, by omega, rfl, rfl, rfl, by go_num, by rw [← HS.out, drop_cons HG.out, shareGo_plain HDN.out HEX.out], by omega, by omega, by omega, fun _ => hkq (by
          rcases Nat.eq_zero_or_pos k with e | e
          · have h9 := (HF.out e).2
            rw [HEX.out] at h9
            cases h9
          · exact e), HBB.out⟩
        case measure => simp [intOf]; omega
        case rel => exact ⟨k + 1, _, _, _, by omega, rfl, rfl, rfl, by go_num, by rw [← HS.out, drop_cons HG.out, shareGo_plain HDN.out HEX.out], by omega, by omega, by omega, fun _ => hkq (by
          rcases Nat.eq_zero_or_pos k with e | e
          · have h9 := (HF.out e).2
            rw [HEX.out] at h9
            cases h9
          · exact e), HBB.out⟩
        case measure => simp [intOf]; omega
        case rel => exact ⟨k + 1, _, _, _, by omega, rfl, rfl, rfl, by go_num, by rw [← HS.out, drop_cons HG.out, shareGo_same HDN.out HEX.out], by omega, by omega, by omega, by omega, HBB.out⟩
        case measure => simp [intOf]; omega
        case rel => exact ⟨k + 1, _, _, _, by omega, rfl, rfl, rfl, by go_num, by rw [← HS.out, drop_cons HG.out, shareGo_same HDN.out HEX.out], by omega, by omega, by omega, by omega, HBB.out⟩
        case measure => simp [intOf]; omega
      · have heq : (p.down == d) = false := by simpa using hdn
        have hk1 : 1 ≤ k := by
          rcases Nat.eq_zero_or_pos k with e | e
          · exact absurd (hfst e).1 hdn
          · exact e
        have hq3 : 1 ≤ q := hkq hk1
        have HDN := Lib.hid hdn
        have pb := part_bd (r := a - p.need d) (n := q) (by omega) hq3
        have nb2 := mn_spec b (mx (a - p.need d) 0 / q)
        have hq0 : decide (0 < q) = true := by simp; omega
        clear hdn hfst hkq
        go_wp2_with fail
        refine (outer_v p _ HPK.out).mono ?_
        rintro e w1 ⟨rfl, hbb⟩
        obtain ⟨d0, d1, d2, d3, d4, d5, d6, d7, d8⟩ := (HP.out k p HG.out).keep (hbb.block g hg)
        replace HBB := Lib.hid (HBB.out.trans (hbb.mono HBB.out.size))
        clear hbb c0 c1 c2 c3 c4 c5 c6 c7 c8
        cases d
        all_goals
          go_wp2_with fail
          refine (upright_p p _).mono ?_
          rintro e w2 ⟨rfl, rfl⟩
          go_wp2_with fail
          first | refine (half_v (a - p.need false) q _ (by omega) (by omega) hq3 (by omega)).mono ?_ | refine (half_v (a - p.need true) q _ (by omega) (by omega) hq3 (by omega)).mono ?_
          rintro e w3 ⟨rfl, rfl⟩
          go_wp2
          go_roundw
          case rel => exact ⟨k + 1, _, _, _, by omega, rfl, rfl, rfl, by go_num, by rw [← HS.out, drop_cons HG.out, shareGo_other HDN.out], by omega, by omega, by omega, by omega, HBB.out⟩
          case measure => simp [intOf]; omega
    · have hd : decide ((k : Int) < (L.length : Int)) = false := by simp; omega
      obtain rfl : k = L.length := by omega
      have hk1 : 1 ≤ L.length := by rw [H0.out.1]; simp
      have hq3 : 1 ≤ q := hkq hk1
      have hSS := HS.out
      rw [List.drop_length] at hSS
      have HS2 := Lib.hid hSS
      have pb := part_bd (r := a) (n := q) (by omega) hq3
      have nb2 := mn_spec b (mx a 0 / q)
      have hq0 : decide (0 < q) = true := by simp; omega
      have hmx : mx (mn b (mx a 0 / q)) 0 = mn b (mx a 0 / q) := mx_pos (by omega)
      have HMX := Lib.hid hmx
      clear hSS HS hkq hmx
      go_wp2_with fail
      refine (half_v a q _ (by omega) (by omega) hq3 (by omega)).mono ?_
      rintro e w3 ⟨rfl, rfl⟩
      go_wp2
      go_ret
      exact ⟨ret_int (by rw [HMX.out, ← HS2.out]; rfl), HBB.out⟩
end Go.Proofs.Ytjdjahckdgbkbab
end
