import Derived.Test.YtjfdmdmlgdgchaaDoorQ07
import Derived.Lib.CutLaws
import Derived.Deep.Draws
import Derived.Laws.OwnMore
import Derived.Test.YtjfdmdmlgdgchaaDoorRows
import Derived.WalkKit
import Derived.Lib.Hide
import Derived.Outline
import Derived.RegionTactic
import Derived.Deep.QuietTactic
import Derived.BigQuiet
import Derived.IntWalk
import Derived.Deep.Cut
import Derived.Laws.Bits64
section
namespace Go.Proofs.YtjfdmdmlgdgchaaDoor
open Go.RowKit
set_option linter.unusedVariables false
set_option linter.unusedSimpArgs false
set_option maxHeartbeats 2000000
attribute [local go_sem] growUpon_value growUpon_skip growUpon_enter
/-! spec.ParsePack. -/
theorem sParsePack_v (l : List UInt8) (hs : l.length ≤ 1048576) (w : World) : Calls Tryd.prog 8 #[tx l] w fun e w' => e = .returned (ansV (prs l)) ∧ Below w.heap.size w w' := by
  have HS := Lib.hid (fun w => parsePack_v l hs w)
  obtain ⟨R, hR⟩ : ∃ R, prs l = R := ⟨_, rfl⟩
  rw [hR] at HS ⊢
  clear hR
  go_enter Tryd.func8, Tryd.ntmps8
  go_upto_region 1 with (fail)
  refine wp_PK (fun W => W.heap[w.heap.size]? = some (.cells #[.int .i64 0, .int .i64 0, .int .i64 0, .bool false, .bool false, .bool false, .int .i64 0, .int .i64 0, .int .i64 0] 23 (0, 0)) ∧ Below w.heap.size w W) ⟨newS w _, balloc (Below.refl _ _)⟩ ?_
  rintro W0 ⟨hz, hB⟩
  have HX := Lib.hid hz
  have HB := Lib.hid hB
  clear hz hB
  go_wp2_with fail
  with_reducible refine (HS.out _).mono ?_
  rintro e w1 ⟨⟨p, ok, rfl, hy, hn⟩, hb⟩
  replace HX := Lib.hid ((hb.block _ (Array.getElem?_eq_some_iff.1 HX.out).1).trans HX.out)
  replace HB := Lib.hid (bkeep2 HB.out hb)
  clear hb
  have HY := Lib.hid hy
  have HN := Lib.hid hn
  clear hy hn HS
  have hl1 := ltS HX.out
  go_upto_region 2 with (fail)
  refine wp_PK (fun W => W.heap[w.heap.size]? = some (.cells #[.int .i64 0, .int .i64 0, .int .i64 0, .bool false, .bool false, .bool false, .int .i64 0, .int .i64 0, .int .i64 0] 23 (0, 0)) ∧ Below w.heap.size w W ∧ W.heap[w1.heap.size]? = some (.cells #[.int .i64 p.w0, .int .i64 p.h0, .int .i64 p.s, .bool p.fx, .bool p.fy, .bool p.ex, .int .i64 p.an, .int .i64 p.px, .int .i64 p.py] 23 (0, 0))) ⟨(Below.heap_alloc _ _ _ hl1).trans HX.out, balloc HB.out, newS w1 _⟩ ?_
  rintro W2 ⟨hz, hB, hp⟩
  replace HX := Lib.hid hz
  replace HB := Lib.hid hB
  have HP := Lib.hid hp
  clear hz hB hp
  obtain ⟨q0, q1, q2, q3, q4, q5, q6, q7, q8⟩ := b9c HX.out
  have f0 := frozenS HX.out 0
  have f1 := frozenS HX.out 1
  have f2 := frozenS HX.out 2
  have f3 := frozenS HX.out 3
  have f4 := frozenS HX.out 4
  have f5 := frozenS HX.out 5
  have f6 := frozenS HX.out 6
  have f7 := frozenS HX.out 7
  have f8 := frozenS HX.out 8
  cases ok
  · obtain rfl := HN.out rfl
    go_wp2
    exact bodyPost_ret (v := ansV none) (by simp only [results, Tryd.results8]; go_simp; rfl) rfl ⟨rfl, bput (bput (bput (bput (bput (bput (bput (bput (bput (HB.out) (by show w.heap.size ≤ _; omega)) (by show w.heap.size ≤ _; omega)) (by show w.heap.size ≤ _; omega)) (by show w.heap.size ≤ _; omega)) (by show w.heap.size ≤ _; omega)) (by show w.heap.size ≤ _; omega)) (by show w.heap.size ≤ _; omega)) (by show w.heap.size ≤ _; omega)) (by show w.heap.size ≤ _; omega)⟩
  · obtain rfl := HY.out rfl
    obtain ⟨p0, p1, p2, p3, p4, p5, p6, p7, p8⟩ := b9c HP.out
    go_wp2
    exact bodyPost_ret (v := ansV (some p)) (by simp only [results, Tryd.results8]; go_simp; rfl) rfl ⟨rfl, bput (bput (bput (bput (bput (bput (bput (bput (bput (HB.out) (by show w.heap.size ≤ _; omega)) (by show w.heap.size ≤ _; omega)) (by show w.heap.size ≤ _; omega)) (by show w.heap.size ≤ _; omega)) (by show w.heap.size ≤ _; omega)) (by show w.heap.size ≤ _; omega)) (by show w.heap.size ≤ _; omega)) (by show w.heap.size ≤ _; omega)) (by show w.heap.size ≤ _; omega)⟩
end Go.Proofs.YtjfdmdmlgdgchaaDoor
end
section
namespace Go.Proofs.YtjfdmdmlgdgchaaDoor
open Go.RowKit
set_option linter.unusedVariables false
set_option linter.unusedSimpArgs false
/-! The items of lines. -/
def PKV.pk (p : PKV) : Pk := ⟨p.w0, p.h0, p.s, p.fx, p.fy, p.ex, p.an, p.px, p.py⟩
def pkU : List (List UInt8) → Option (List Pk)
  | [] => none
  | x :: L => if L = [] then (if x = [] then some [] else none) else match prs x with
    | none => none
    | some p => (pkU L).map (p.pk :: ·)
theorem pkU_end : pkU [[]] = some [] := by simp [pkU]
theorem pkU_one {x : List UInt8} (h : x ≠ []) : pkU [x] = none := by simp [pkU, h]
theorem pkU_no {x : List UInt8} {L : List (List UInt8)} (hL : L ≠ []) (h : prs x = none) : pkU (x :: L) = none := by rw [pkU, if_neg hL, h]
theorem pkU_yes {x : List UInt8} {L : List (List UInt8)} {p : PKV} (hL : L ≠ []) (h : prs x = some p) : pkU (x :: L) = (pkU L).map (p.pk :: ·) := by rw [pkU, if_neg hL, h]
def pks (l : List UInt8) : Option (List Pk) := match pkU (splitL 10 l) with
  | some L => if L.length ≤ 7 then some L else none
  | none => none
theorem pks_none {l : List UInt8} (h : pkU (splitL 10 l) = none) : pks l = none := by unfold pks; rw [h]
theorem pks_some {l : List UInt8} {L : List Pk} (h : pkU (splitL 10 l) = some L) (h7 : L.length ≤ 7) : pks l = some L := by unfold pks; rw [h]; exact if_pos h7
theorem pks_long {l : List UInt8} {L : List Pk} (h : pkU (splitL 10 l) = some L) (h7 : ¬ L.length ≤ 7) : pks l = none := by unfold pks; rw [h]; exact if_neg h7
/-- what has been read so far, before what is left -/
def PkAt (l : List UInt8) (A : List Pk) (r : List (List UInt8)) : Prop := pkU (splitL 10 l) = (pkU r).map (A ++ ·)
theorem PkAt.start (l : List UInt8) : PkAt l [] (splitL 10 l) := by
  unfold PkAt
  cases pkU (splitL 10 l) <;> simp
theorem PkAt.step {l : List UInt8} {A : List Pk} {x : List UInt8} {r : List (List UInt8)} {p : PKV} (h : PkAt l A (x :: r)) (hr : r ≠ []) (hp : prs x = some p) : PkAt l (A ++ [p.pk]) r := by
  unfold PkAt at *
  rw [h, pkU_yes hr hp]
  cases pkU r <;> simp
theorem PkAt.none {l : List UInt8} {A : List Pk} {x : List UInt8} {r : List (List UInt8)} (h : PkAt l A (x :: r)) (hr : r ≠ []) (hp : prs x = none) : pks l = none := pks_none (by
  unfold PkAt at h
  rw [h, pkU_no hr hp]; rfl)
theorem PkAt.last {l : List UInt8} {A : List Pk} {x : List UInt8} (h : PkAt l A [x]) (hx : x ≠ []) : pks l = Option.none := pks_none (by
  unfold PkAt at h
  rw [h, pkU_one hx]; rfl)
theorem PkAt.done {l : List UInt8} {A : List Pk} (h : PkAt l A [[]]) (h7 : A.length ≤ 7) : pks l = some A := pks_some (by
  unfold PkAt at h
  rw [h, pkU_end]; simp) h7
theorem PkAt.over {l : List UInt8} {A : List Pk} (h : PkAt l A [[]]) (h7 : ¬ A.length ≤ 7) : pks l = Option.none := pks_long (by
  unfold PkAt at h
  rw [h, pkU_end]; simp) h7
theorem PkAt.full {l : List UInt8} {A : List Pk} {x : List UInt8} {r : List (List UInt8)} {p : PKV} (h : PkAt l A (x :: r)) (hr : r ≠ []) (hp : prs x = some p) (h7 : A.length = 7) : pks l = Option.none := by
  unfold PkAt at h
  rw [pkU_yes hr hp] at h
  cases hu : pkU r with
  | none => rw [hu] at h; exact pks_none h
  | some L => rw [hu] at h; exact pks_long h (by simp; omega)
theorem pks_len {l : List UInt8} {L : List Pk} (h : pks l = some L) : L.length ≤ 7 := by
  unfold pks at h
  split at h
  · split at h
    · cases h; assumption
    · cases h
  · cases h
theorem pkU_ok : ∀ {W : List (List UInt8)} {L : List Pk}, pkU W = some L → ∀ p ∈ L, p.ok = true
  | [], L, h => by simp [pkU] at h
  | x :: W, L, h => by
    by_cases hW : W = []
    · subst hW
      by_cases hx : x = []
      · subst hx; rw [pkU_end] at h; cases h; simp
      · rw [pkU_one hx] at h; cases h
    · cases hp : prs x with
      | none => rw [pkU_no hW hp] at h; cases h
      | some q =>
        rw [pkU_yes hW hp] at h
        cases hu : pkU W with
        | none => rw [hu] at h; cases h
        | some L' =>
          rw [hu] at h
          cases h
          intro p hpm
          rcases List.mem_cons.1 hpm with rfl | hpm
          · exact (prs_iff.1 hp).1
          · exact pkU_ok hu p hpm
theorem cut_cases (l : List UInt8) : ((10 : UInt8) ∉ l ∧ Lib.cut l [10] = (l, [], false)) ∨ ∃ p r, l = p ++ 10 :: r ∧ (10 : UInt8) ∉ p ∧ Lib.cut l [10] = (p, r, true) := by
  rcases index_byte 10 l with ⟨h1, h2⟩ | ⟨p, r, rfl, h2, h3⟩
  · exact .inl ⟨h2, by unfold Lib.cut; rw [h1]; rfl⟩
  · refine .inr ⟨p, r, rfl, h2, ?_⟩
    unfold Lib.cut
    rw [h3, if_pos (by omega)]
    simp [List.drop_append]
end Go.Proofs.YtjfdmdmlgdgchaaDoor
end
section
namespace Go.Proofs.YtjfdmdmlgdgchaaDoor
open Go.RowKit
set_option linter.unusedVariables false
set_option maxHeartbeats 2000000
set_option linter.unusedSimpArgs false
/-! Lists of items with room, marked. -/
def BZ (z : Int) : Bool := z % 3 == 0
def mkP9 (k : Nat) : List Value := [.int .i64 ((k : Int) * 9 + 1), .int .i64 ((k : Int) * 9 + 1 + 1), .int .i64 ((k : Int) * 9 + 1 + 1 + 1), .bool (BZ ((k : Int) * 9 + 1 + 1 + 1 + 1)), .bool (BZ ((k : Int) * 9 + 1 + 1 + 1 + 1 + 1)), .bool (BZ ((k : Int) * 9 + 1 + 1 + 1 + 1 + 1 + 1)), .int .i64 ((k : Int) * 9 + 1 + 1 + 1 + 1 + 1 + 1 + 1), .int .i64 ((k : Int) * 9 + 1 + 1 + 1 + 1 + 1 + 1 + 1 + 1), .int .i64 ((k : Int) * 9 + 1 + 1 + 1 + 1 + 1 + 1 + 1 + 1 + 1)]
theorem mkP9_len (k : Nat) : (mkP9 k).length = 9 := rfl
/-- a block of items, of which the first are these -/
def PB9 (w : World) (g cap : Nat) (L : List Pk) : Prop := L.length ≤ cap ∧ ∃ cs : Array Value, w.heap[g]? = some (.cells cs 23 (0, 0)) ∧ cs.size = cap * 9 ∧ ∀ i p, L[i]? = some p → In9 cs (i * 9) p
theorem PB9.lt {w : World} {g cap : Nat} {L : List Pk} (h : PB9 w g cap L) : g < w.heap.size := by obtain ⟨_, cs, hh, _⟩ := h; exact ltS hh
theorem PB9.keep {w w' : World} {g cap : Nat} {L : List Pk} (h : PB9 w g cap L) (hb : Below w.heap.size w w') : PB9 w' g cap L := by
  obtain ⟨hl, cs, hh, hs, hc⟩ := h
  exact ⟨hl, cs, (hb.block g (ltS hh)).trans hh, hs, hc⟩
theorem PB9.pv {w : World} {g cap : Nat} {L : List Pk} (h : PB9 w g cap L) : PV w (some ⟨g, 0, none⟩) L := by
  obtain ⟨hl, cs, hh, hs, hc⟩ := h
  exact ⟨fun _ => ⟨g, 0, rfl, ltS hh, fun i p hp => by
    have hi := hc i p hp
    rw [Nat.zero_add]
    exact ⟨(cellS hh _).trans (hi 0 (by omega)), (cellS hh _).trans (hi 1 (by omega)), (cellS hh _).trans (hi 2 (by omega)), (cellS hh _).trans (hi 3 (by omega)), (cellS hh _).trans (hi 4 (by omega)), (cellS hh _).trans (hi 5 (by omega)), (cellS hh _).trans (hi 6 (by omega)), (cellS hh _).trans (hi 7 (by omega)), (cellS hh _).trans (hi 8 (by omega))⟩⟩⟩
/-- the marked block -/
def PM9 (w : World) (g cap n : Nat) : Prop := n ≤ cap ∧ ∃ cs : Array Value, w.heap[g]? = some (.cells cs 23 (0, 0)) ∧ cs.size = cap * 9 ∧ ∀ i, i < n → InS cs (i * 9) (mkP9 i)
theorem PM9.keep {w w' : World} {g cap n : Nat} (h : PM9 w g cap n) (hb : Below w.heap.size w w') : PM9 w' g cap n := by
  obtain ⟨hl, cs, hh, hs, hc⟩ := h
  exact ⟨hl, cs, (hb.block g (ltS hh)).trans hh, hs, hc⟩
theorem put9S {w : World} {g : Nat} {cs : Array Value} {T : TypeId} {fz : Nat × Nat} (h : w.heap[g]? = some (.cells cs T fz)) (o : Nat) (v0 v1 v2 v3 v4 v5 v6 v7 v8 : Value) :
    (((((((((w.setCell ⟨g, o, none⟩ v0).setCell ⟨g, o + 1, none⟩ v1).setCell ⟨g, o + 1 + 1, none⟩ v2).setCell ⟨g, o + 1 + 1 + 1, none⟩ v3).setCell ⟨g, o + 1 + 1 + 1 + 1, none⟩ v4).setCell ⟨g, o + 1 + 1 + 1 + 1 + 1, none⟩ v5).setCell ⟨g, o + 1 + 1 + 1 + 1 + 1 + 1, none⟩ v6).setCell ⟨g, o + 1 + 1 + 1 + 1 + 1 + 1 + 1, none⟩ v7).setCell ⟨g, o + 1 + 1 + 1 + 1 + 1 + 1 + 1 + 1, none⟩ v8).heap[g]? = some (.cells (wrAt cs o [v0, v1, v2, v3, v4, v5, v6, v7, v8]) T fz) :=
  putS (putS (putS (putS (putS (putS (putS (putS (putS h v0) v1) v2) v3) v4) v5) v6) v7) v8
set_option maxRecDepth 100000 in
theorem markP9_v (g cap n : Nat) (w : World) (hn : n ≤ cap) (h : ∃ cs : Array Value, w.heap[g]? = some (.cells cs 23 (0, 0)) ∧ cs.size = cap * 9) (hL : n ≤ 1000) :
    Calls Tryd.prog 14 #[.slice (some ⟨g, 0, none⟩) n cap, .int .i64 1] w fun e w' => e = .returned (.int .i64 ((n : Int) * 9 + 1)) ∧ PM9 w' g cap n ∧ w.grownBy w' (some g) := by
  obtain ⟨cs0, hh0, hs0⟩ := h
  have H0 := Lib.hid (And.intro hh0 hs0)
  clear hh0 hs0
  go_enter Tryd.func14, Tryd.ntmps14
  go_wp2_with fail
  go_loopw [1, 5] (fun kk i wr => ∃ k : Nat, k ≤ n ∧ i = .int .i64 k ∧ kk = .int .i64 ((k : Int) * 9 + 1) ∧ (∃ cs : Array Value, wr.heap[g]? = some (.cells cs 23 (0, 0)) ∧ cs.size = cap * 9 ∧ ∀ i, i < k → InS cs (i * 9) (mkP9 i)) ∧ w.grownBy wr (some g)) (fun _ i _ => n - (intOf i).toNat)
  case atStart => exact ⟨0, by omega, rfl, rfl, ⟨_, H0.out.1, H0.out.2, fun i hi => absurd hi (by omega)⟩, greflS _ _⟩
  case round =>
    obtain ⟨k, hk, rfl, rfl, ⟨cs, hh, hs, hc⟩, hB⟩ := hrel
    clear H0
    by_cases hlt : k < n
    · have hd : decide ((k : Int) < (n : Int)) = true := by simpa using hlt
      have hsz : k * 9 + 9 ≤ cs.size := by rw [hs]; omega
      obtain ⟨y0, d0⟩ := thereS hh (i := k * 9) (by omega)
      obtain ⟨y1, d1⟩ := thereS hh (i := k * 9 + 1) (by omega)
      obtain ⟨y2, d2⟩ := thereS hh (i := k * 9 + 2) (by omega)
      obtain ⟨y3, d3⟩ := thereS hh (i := k * 9 + 3) (by omega)
      obtain ⟨y4, d4⟩ := thereS hh (i := k * 9 + 4) (by omega)
      obtain ⟨y5, d5⟩ := thereS hh (i := k * 9 + 5) (by omega)
      obtain ⟨y6, d6⟩ := thereS hh (i := k * 9 + 6) (by omega)
      obtain ⟨y7, d7⟩ := thereS hh (i := k * 9 + 7) (by omega)
      obtain ⟨y8, d8⟩ := thereS hh (i := k * 9 + 8) (by omega)
      have f0 := frozenS hh (k * 9)
      have f1 := frozenS hh (k * 9 + 1)
      have f2 := frozenS hh (k * 9 + 2)
      have f3 := frozenS hh (k * 9 + 3)
      have f4 := frozenS hh (k * 9 + 4)
      have f5 := frozenS hh (k * 9 + 5)
      have f6 := frozenS hh (k * 9 + 6)
      have f7 := frozenS hh (k * 9 + 7)
      have f8 := frozenS hh (k * 9 + 8)
      have HS := Lib.hid hs
      have HC := Lib.hid hc
      have HB := Lib.hid hB
      have E1 := Lib.hid (put9S hh (k * 9) (.int .i64 ((k : Int) * 9 + 1)) (.int .i64 ((k : Int) * 9 + 1 + 1)) (.int .i64 ((k : Int) * 9 + 1 + 1 + 1)) (.bool (BZ ((k : Int) * 9 + 1 + 1 + 1 + 1))) (.bool (BZ ((k : Int) * 9 + 1 + 1 + 1 + 1 + 1))) (.bool (BZ ((k : Int) * 9 + 1 + 1 + 1 + 1 + 1 + 1))) (.int .i64 ((k : Int) * 9 + 1 + 1 + 1 + 1 + 1 + 1 + 1)) (.int .i64 ((k : Int) * 9 + 1 + 1 + 1 + 1 + 1 + 1 + 1 + 1)) (.int .i64 ((k : Int) * 9 + 1 + 1 + 1 + 1 + 1 + 1 + 1 + 1 + 1)))
      clear hh hs hc hB
      go_wp2_with fail
      go_roundw
      case rel =>
        refine ⟨k + 1, by omega, by go_num, by go_num, ⟨_, E1.out, (wrAt_size _ _ _).trans HS.out, fun i hi => ?_⟩, ?_⟩
        · by_cases e : i = k
          · subst e; exact InS.write (by simp only [mkP9, List.length_cons, List.length_nil]; omega)
          · exact (HC.out i (by omega)).keepS (.inl (by simp only [mkP9, List.length_cons, List.length_nil]; omega))
        · exact gsetS (gsetS (gsetS (gsetS (gsetS (gsetS (gsetS (gsetS (gsetS (HB.out) _ _) _ _) _ _) _ _) _ _) _ _) _ _) _ _) _ _
      case measure => simp [intOf]; omega
    · have hd : decide ((k : Int) < (n : Int)) = false := by simp; omega
      obtain rfl : k = n := by omega
      have HK := Lib.hid (show PM9 wr g cap k from ⟨hn, cs, hh, hs, hc⟩)
      have HB := Lib.hid hB
      clear hh hs hB hc
      go_wp2
      go_ret
      exact ⟨rfl, HK.out, HB.out⟩
set_option maxRecDepth 100000 in
theorem heldP9_v (g cap n : Nat) (w : World) (h : PM9 w g cap n) (hL : n ≤ 1000) :
    Calls Tryd.prog 15 #[.slice (some ⟨g, 0, none⟩) n cap, .int .i64 1] w fun e w' => e = .returned (.int .i64 ((n : Int) * 9 + 1)) ∧ Below w.heap.size w w' := by
  have H := Lib.hid h
  clear h
  go_enter Tryd.func15, Tryd.ntmps15
  go_wp2_with fail
  go_loopw [1, 5] (fun kk i wr => ∃ k : Nat, k ≤ n ∧ i = .int .i64 k ∧ kk = .int .i64 ((k : Int) * 9 + 1) ∧ Below w.heap.size w wr) (fun _ i _ => n - (intOf i).toNat)
  case atStart => exact ⟨0, by omega, rfl, rfl, Below.refl _ _⟩
  case round =>
    obtain ⟨k, hk, rfl, rfl, hB⟩ := hrel
    by_cases hlt : k < n
    · have hd : decide ((k : Int) < (n : Int)) = true := by simpa using hlt
      obtain ⟨hcap, cs, hh, hs, hc⟩ := H.out.keep hB
      have hi := hc k hlt
      have c0 : wr.cell? ⟨g, k * 9, none⟩ = some (.int .i64 ((k : Int) * 9 + 1)) := (cellS hh _).trans (hi 0 _ rfl)
      have c1 : wr.cell? ⟨g, k * 9 + 1, none⟩ = some (.int .i64 ((k : Int) * 9 + 1 + 1)) := (cellS hh _).trans (hi 1 _ rfl)
      have c2 : wr.cell? ⟨g, k * 9 + 2, none⟩ = some (.int .i64 ((k : Int) * 9 + 1 + 1 + 1)) := (cellS hh _).trans (hi 2 _ rfl)
      have c3 : wr.cell? ⟨g, k * 9 + 3, none⟩ = some (.bool (((k : Int) * 9 + 1 + 1 + 1 + 1) % 3 == 0)) := (cellS hh _).trans (hi 3 _ rfl)
      have c4 : wr.cell? ⟨g, k * 9 + 4, none⟩ = some (.bool (((k : Int) * 9 + 1 + 1 + 1 + 1 + 1) % 3 == 0)) := (cellS hh _).trans (hi 4 _ rfl)
      have c5 : wr.cell? ⟨g, k * 9 + 5, none⟩ = some (.bool (((k : Int) * 9 + 1 + 1 + 1 + 1 + 1 + 1) % 3 == 0)) := (cellS hh _).trans (hi 5 _ rfl)
      have c6 : wr.cell? ⟨g, k * 9 + 6, none⟩ = some (.int .i64 ((k : Int) * 9 + 1 + 1 + 1 + 1 + 1 + 1 + 1)) := (cellS hh _).trans (hi 6 _ rfl)
      have c7 : wr.cell? ⟨g, k * 9 + 7, none⟩ = some (.int .i64 ((k : Int) * 9 + 1 + 1 + 1 + 1 + 1 + 1 + 1 + 1)) := (cellS hh _).trans (hi 7 _ rfl)
      have c8 : wr.cell? ⟨g, k * 9 + 8, none⟩ = some (.int .i64 ((k : Int) * 9 + 1 + 1 + 1 + 1 + 1 + 1 + 1 + 1 + 1)) := (cellS hh _).trans (hi 8 _ rfl)
      have HB := Lib.hid hB
      clear hB hh hs hc hi
      go_wp2_with fail
      go_roundw
      case rel => exact ⟨k + 1, by omega, by go_num, by go_num, HB.out⟩
      case measure => simp [intOf]; omega
    · have hd : decide ((k : Int) < (n : Int)) = false := by simp; omega
      obtain rfl : k = n := by omega
      have HB := Lib.hid hB
      clear hB
      go_wp2
      go_ret
      exact ⟨rfl, HB.out⟩
set_option maxRecDepth 100000 in
theorem markP9_nil (w : World) : Calls Tryd.prog 14 #[.slice none 0 0, .int .i64 1] w fun e w' => e = .returned (.int .i64 1) ∧ w' = w := by
  go_enter Tryd.func14, Tryd.ntmps14
  go_wp2_with fail
  go_loopw [1, 5] (fun kk i wr => i = .int .i64 0 ∧ kk = .int .i64 1 ∧ wr = w) (fun _ i _ => 0)
  case atStart => exact ⟨rfl, rfl, rfl⟩
  case round =>
    obtain ⟨rfl, rfl, rfl⟩ := hrel
    go_wp2
    go_ret
    exact ⟨rfl, rfl⟩
set_option maxRecDepth 100000 in
theorem heldP9_nil (w : World) : Calls Tryd.prog 15 #[.slice none 0 0, .int .i64 1] w fun e w' => e = .returned (.int .i64 1) ∧ w' = w := by
  go_enter Tryd.func15, Tryd.ntmps15
  go_wp2_with fail
  go_loopw [1, 5] (fun kk i wr => i = .int .i64 0 ∧ kk = .int .i64 1 ∧ wr = w) (fun _ i _ => 0)
  case atStart => exact ⟨rfl, rfl, rfl⟩
  case round =>
    obtain ⟨rfl, rfl, rfl⟩ := hrel
    go_wp2
    go_ret
    exact ⟨rfl, rfl⟩
end Go.Proofs.YtjfdmdmlgdgchaaDoor
end
section
namespace Go.Proofs.YtjfdmdmlgdgchaaDoor
open Go Go.RowKit
set_option linter.unusedVariables false
/-- of the blocks that there were, only these may have changed -/
structure Chg (S : List Nat) (w w' : World) : Prop where
  os : w'.os = w.os
  tape : w'.tape = w.tape
  output : w'.output = w.output
  size : w.heap.size ≤ w'.heap.size
  block : ∀ k, k < w.heap.size → k ∉ S → w'.heap[k]? = w.heap[k]?
theorem Chg.refl (S : List Nat) (w : World) : Chg S w w := ⟨rfl, rfl, rfl, Nat.le_refl _, fun _ _ _ => rfl⟩
theorem Chg.trans {S : List Nat} {a b c : World} (h : Chg S a b) (k : Chg S b c) : Chg S a c :=
  ⟨k.os.trans h.os, k.tape.trans h.tape, k.output.trans h.output, Nat.le_trans h.size k.size, fun i hi hs => (k.block i (Nat.lt_of_lt_of_le hi h.size) hs).trans (h.block i hi hs)⟩
theorem Chg.mono {S S' : List Nat} {w w' : World} (h : Chg S w w') (hs : ∀ x ∈ S, x ∈ S') : Chg S' w w' := ⟨h.os, h.tape, h.output, h.size, fun k hk hn => h.block k hk fun hx => hn (hs k hx)⟩
theorem Chg.drew {S : List Nat} {a w : World} (h : Chg S a w) : Chg S a w.drew := ⟨h.os, h.tape, h.output, h.size, h.block⟩
theorem Chg.drewN {S : List Nat} {a w : World} (h : Chg S a w) (n : Nat) : Chg S a (w.drewN n) := ⟨h.os, h.tape, h.output, h.size, h.block⟩
theorem Chg.alloc {S : List Nat} {a w : World} (h : Chg S a w) (o : Obj) : Chg S a (w.alloc o) :=
  h.trans ⟨rfl, rfl, rfl, by simp, fun k hk _ => Below.heap_alloc _ _ _ hk⟩
theorem Chg.setCell {S : List Nat} {a w : World} (h : Chg S a w) {p : Addr} (hp : p.block ∈ S ∨ a.heap.size ≤ p.block) (u : Value) : Chg S a (w.setCell p u) :=
  ⟨h.os, h.tape, h.output, by simpa [World.setCell] using h.size, fun k hk hs => (Below.heap_setCell w p u k (by
    rintro rfl
    rcases hp with hp | hp
    · exact hs hp
    · omega)).trans (h.block k hk hs)⟩
theorem Chg.below {S : List Nat} {w w' : World} {B : Nat} (h : Chg S w w') (hB : B ≤ w.heap.size) (hs : ∀ x ∈ S, B ≤ x) : Below B w w' :=
  ⟨h.os, h.tape, h.output, h.size, fun k hk => h.block k (by omega) fun hx => by have := hs k hx; omega⟩
theorem Chg.of_below {S : List Nat} {a w w' : World} (h : Chg S a w) (hb : Below w.heap.size w w') : Chg S a w' :=
  h.trans ⟨hb.os, hb.tape, hb.output, hb.size, fun k hk _ => hb.block k hk⟩
theorem Chg.of_grown {S : List Nat} {a w w' : World} {g : Nat} (h : Chg S a w) (hb : w.grownBy w' (some g)) (hg : g ∈ S ∨ a.heap.size ≤ g) : Chg S a w' :=
  ⟨hb.os.trans h.os, hb.tape.trans h.tape, hb.output.trans h.output, Nat.le_trans h.size hb.size, fun k hk hs => (hb.block k (Nat.lt_of_lt_of_le hk h.size) (fun e => by
    injection e with e
    subst e
    rcases hg with hg | hg
    · exact hs hg
    · omega)).trans (h.block k hk hs)⟩
/-- steps in a world that came later -/
theorem Chg.more {S S' : List Nat} {a w w' : World} (h : Chg S a w) (hb : Chg S' w w') (hs : ∀ x ∈ S', x ∈ S ∨ a.heap.size ≤ x) : Chg S a w' :=
  ⟨hb.os.trans h.os, hb.tape.trans h.tape, hb.output.trans h.output, Nat.le_trans h.size hb.size, fun k hk hn => (hb.block k (Nat.lt_of_lt_of_le hk h.size) (fun hx => by
    rcases hs k hx with h1 | h1
    · exact hn h1
    · omega)).trans (h.block k hk hn)⟩
theorem Chg.cell {S : List Nat} {w w' : World} (h : Chg S w w') {p : Addr} (hp : p.block < w.heap.size) (hs : p.block ∉ S) : w'.cell? p = w.cell? p := World.cell?_of_block (h.block _ hp hs)
theorem lt_of_heap {w : World} {g : Nat} {o : Obj} (h : w.heap[g]? = some o) : g < w.heap.size := (Array.getElem?_eq_some_iff.1 h).1
theorem Chg.set1 (w : World) (g o : Nat) (u : Value) : Chg [g] w (w.setCell ⟨g, o, none⟩ u) := (Chg.refl _ _).setCell (.inl (by simp)) u
/-- the reader lies in block rb: the bytes that it was given, and a place of at most m -/
structure Rd (B rb : Nat) (A : Option Addr) (n c : Nat) (m : Nat) (w : World) : Prop where
  base : B ≤ rb
  len : n ≤ 2000
  box : ∃ p : Nat, p ≤ m ∧ w.heap[rb]? = some (.cells #[.slice A n c, .int .i64 p] 68 (0, 0))
  bytes : 0 < n → ∃ ad, A = some ad ∧ ad.block < B ∧ ∀ i, i < n → ∃ z : Int, 0 ≤ z ∧ z < 256 ∧ w.cell? (ad.add i) = some (.int .u8 z)
section
variable {B rb : Nat} {A : Option Addr} {n c m : Nat} {w w' : World}
theorem block_add (a : Addr) (i : Nat) : (a.add i).block = a.block := by unfold Addr.add; split <;> rfl
theorem Rd.lt (h : Rd B rb A n c m w) : rb < w.heap.size := by obtain ⟨p, _, hp⟩ := h.box; exact lt_of_heap hp
theorem Rd.keep (h : Rd B rb A n c m w) {S : List Nat} (hc : Chg S w w') (hs : ∀ x ∈ S, B ≤ x ∧ x ≠ rb) : Rd B rb A n c m w' := by
  have hlt := h.lt
  refine ⟨h.base, h.len, ?_, fun hn => ?_⟩
  · obtain ⟨p, hp, hh⟩ := h.box
    exact ⟨p, hp, (hc.block rb hlt fun hx => (hs rb hx).2 rfl).trans hh⟩
  · obtain ⟨ad, e, hb, hcell⟩ := h.bytes hn
    refine ⟨ad, e, hb, fun i hi => ?_⟩
    obtain ⟨z, z0, z1, hz⟩ := hcell i hi
    exact ⟨z, z0, z1, (hc.cell (by rw [block_add]; have := h.base; omega) (by rw [block_add]; intro hx; have := (hs _ hx).1; omega)).trans hz⟩
theorem Rd.mono {m' : Nat} (h : Rd B rb A n c m w) (hm : m ≤ m') : Rd B rb A n c m' w := ⟨h.base, h.len, let ⟨p, hp, hh⟩ := h.box; ⟨p, by omega, hh⟩, h.bytes⟩
theorem Rd.drew (h : Rd B rb A n c m w) : Rd B rb A n c m w.drew := ⟨h.base, h.len, h.box, h.bytes⟩
theorem Rd.drewN (h : Rd B rb A n c m w) (k : Nat) : Rd B rb A n c m (w.drewN k) := ⟨h.base, h.len, h.box, h.bytes⟩
theorem Rd.alloc (h : Rd B rb A n c m w) (o : Obj) : Rd B rb A n c m (w.alloc o) := h.keep (S := []) ((Chg.refl _ _).alloc o) (by simp)
theorem Rd.setCell (h : Rd B rb A n c m w) {p : Addr} (hB : B ≤ p.block) (hp : p.block ≠ rb) (u : Value) : Rd B rb A n c m (w.setCell p u) :=
  h.keep (S := [p.block]) ((Chg.refl _ _).setCell (.inl List.mem_cons_self) u) (by simp; exact ⟨hB, hp⟩)
theorem Rd.below (h : Rd B rb A n c m w) (hb : Below w.heap.size w w') : Rd B rb A n c m w' := h.keep (S := []) ((Chg.refl _ _).of_below hb) (by simp)
end
/-- a slice of bytes that came in -/
def Bts (w : World) (A : Option Addr) (n : Nat) : Prop := 0 < n → ∃ ad, A = some ad ∧ ad.block < w.heap.size ∧ ∀ i, i < n → ∃ z : Int, 0 ≤ z ∧ z < 256 ∧ w.cell? (ad.add i) = some (.int .u8 z)
theorem Bts.rd {w : World} {A : Option Addr} {n k c : Nat} (h : Bts w A n) (hk : k ≤ n) (h2 : k ≤ 2000) : Rd w.heap.size w.heap.size A k c 0 (w.alloc (.cells #[.slice A k c, .int .i64 0] 68)) := by
  refine ⟨Nat.le_refl _, h2, ⟨0, Nat.le_refl _, ?_⟩, fun hn => ?_⟩
  · show (w.heap.push _)[w.heap.size]? = _
    simp
  · obtain ⟨ad, e, hb, hc⟩ := h (by omega)
    refine ⟨ad, e, hb, fun i hi => ?_⟩
    obtain ⟨z, z0, z1, hz⟩ := hc i (by omega)
    exact ⟨z, z0, z1, (World.cell?_of_block (Below.heap_alloc _ _ _ (by rw [block_add]; exact hb))).trans hz⟩
/-! what a value is good for -/
def TI : Value → World → Prop := fun v _ => ∃ z, v = .int .i64 z
def TIr (lo hi : Int) : Value → World → Prop := fun v _ => ∃ z, v = .int .i64 z ∧ lo ≤ z ∧ z < hi
def TB : Value → World → Prop := fun v _ => ∃ b, v = .bool b
def TV (u : Value) : Value → World → Prop := fun v _ => v = u
def TT0 : Value → World → Prop := fun _ _ => True
def TRect : Value → World → Prop := fun v _ => ∃ x y u q, v = .agg #[.int .i64 (x), .int .i64 (y), .int .i64 (u), .int .i64 (q)]
/-- a slice of k ints of the call's own, not the reader's, nor one of those that are written -/
def TL (B : Nat) (S : List Nat) (k : Nat) : Value → World → Prop := fun v w => ∃ g, v = .slice (some ⟨g, 0, none⟩) k k ∧ B ≤ g ∧ g ∉ S ∧ g < w.heap.size ∧ ∀ i, i < k → ∃ z, w.cell? ⟨g, i, none⟩ = some (.int .i64 z)
theorem TL.keep {B : Nat} {S : List Nat} {k : Nat} {v : Value} {a b : World} (h : TL B S k v a) (hc : Chg S a b) : TL B S k v b := by
  obtain ⟨g, e, h0, h1, h2, h3⟩ := h
  exact ⟨g, e, h0, h1, Nat.lt_of_lt_of_le h2 hc.size, fun i hi => let ⟨z, hz⟩ := h3 i hi; ⟨z, (hc.cell (p := ⟨g, i, none⟩) h2 h1).trans hz⟩⟩
theorem cell_of_heap {w : World} {b : Nat} {cs : Array Value} {T : TypeId} {fz : Nat × Nat} (h : w.heap[b]? = some (.cells cs T fz)) (i : Nat) : w.cell? ⟨b, i, none⟩ = cs[i]? := by simp [World.cell?, h]
theorem frozen_of_heap {w : World} {b : Nat} {cs : Array Value} {T : TypeId} (h : w.heap[b]? = some (.cells cs T (0, 0))) (i : Nat) : w.frozen? ⟨b, i, none⟩ = false := by simp [World.frozen?, h]
theorem end4 {B rb b : Nat} {A : Option Addr} {n c m : Nat} {w w8 : World} (hr : Rd B rb A n c m w8) (hc : Chg [rb] w w8) (h1 : B ≤ b) (h2 : b ≠ rb) (h3 : w.heap.size ≤ b) (u0 u1 u2 u3 : Value) :
    Rd B rb A n c m ((((w8.setCell ⟨b, 0, none⟩ u0).setCell ⟨b, 1, none⟩ u1).setCell ⟨b, 2, none⟩ u2).setCell ⟨b, 3, none⟩ u3) ∧ Chg [rb] w ((((w8.setCell ⟨b, 0, none⟩ u0).setCell ⟨b, 1, none⟩ u1).setCell ⟨b, 2, none⟩ u2).setCell ⟨b, 3, none⟩ u3) :=
  ⟨(((hr.setCell h1 h2 _).setCell h1 h2 _).setCell h1 h2 _).setCell h1 h2 _, (((hc.setCell (.inr h3) _).setCell (.inr h3) _).setCell (.inr h3) _).setCell (.inr h3) _⟩
theorem b4 {w : World} {b : Nat} {a0 a1 a2 a3 : Value} {T : TypeId} (h : w.heap[b]? = some (.cells #[a0, a1, a2, a3] T (0, 0))) :
    w.cell? ⟨b, 0, none⟩ = some a0 ∧ w.cell? ⟨b, 1, none⟩ = some a1 ∧ w.cell? ⟨b, 2, none⟩ = some a2 ∧ w.cell? ⟨b, 3, none⟩ = some a3 ∧ w.frozen? ⟨b, 0, none⟩ = false ∧ w.frozen? ⟨b, 1, none⟩ = false ∧ w.frozen? ⟨b, 2, none⟩ = false ∧ w.frozen? ⟨b, 3, none⟩ = false :=
  ⟨cell_of_heap h 0, cell_of_heap h 1, cell_of_heap h 2, cell_of_heap h 3, frozen_of_heap h 0, frozen_of_heap h 1, frozen_of_heap h 2, frozen_of_heap h 3⟩
def isI : Value → Bool | .int .i64 _ => true | _ => false
theorem isI_ex {v : Value} (h : isI v = true) : ∃ z, v = .int .i64 z := by
  unfold isI at h
  split at h
  · exact ⟨_, rfl⟩
  · cases h
theorem TL.lit {B : Nat} {S : List Nat} {k : Nat} {w : World} {cs : Array Value} {T : TypeId} (hB : B ≤ w.heap.size) (hS : ∀ x ∈ S, x < w.heap.size) (hk : cs.size = k) (ha : cs.toList.all isI = true) :
    TL B S k (.slice (some ⟨w.heap.size, 0, none⟩) k k) (w.alloc (.cells cs T)) := by
  refine ⟨w.heap.size, rfl, hB, fun hx => by have := hS _ hx; omega, by simp, fun i hi => ?_⟩
  have hc : cs[i]? = some cs[i] := by simp [hk, hi]
  obtain ⟨z, hz⟩ := isI_ex (List.all_eq_true.1 ha cs[i] (by simp))
  refine ⟨z, ?_⟩
  rw [← hz, ← hc]
  have hh : (w.alloc (.cells cs T)).heap[w.heap.size]? = some (.cells cs T (0, 0)) := by show (w.heap.push _)[w.heap.size]? = _; simp
  unfold World.cell?
  rw [hh]
  rfl
end Go.Proofs.YtjfdmdmlgdgchaaDoor
end
section
namespace Go.Proofs.YtjfdmdmlgdgchaaDoor
open Go.RowKit
set_option linter.unusedVariables false
set_option maxHeartbeats 1000000
theorem ret_i {k : IntKind} {a b : Int} (h : a = b) : Ending.returned (.int k a) = .returned (.int k b) := by rw [h]
theorem wp_genG {P : Program} {c : Code} {Q : Exit → Act → World → Prop} {a : Act} {W : World} (F : World → Prop) (hF : F W) (h : ∀ W0, F W0 → c.wp P Q a W0) : c.wp P Q a W := h W hF
section
variable {B rb : Nat} {A : Option Addr} {n c m : Nat} {w w' : World}
theorem Rd.cells (h : Rd B rb A n c m w) : ∃ p : Nat, p ≤ m ∧ w.cell? ⟨rb, 0, none⟩ = some (.slice A n c) ∧ w.cell? ⟨rb, 1, none⟩ = some (.int .i64 p) ∧ w.frozen? ⟨rb, 1, none⟩ = false := by
  obtain ⟨p, hp, hh⟩ := h.box
  exact ⟨p, hp, by simp [World.cell?, hh], by simp [World.cell?, hh], by simp [World.frozen?, hh]⟩
theorem Rd.step (h : Rd B rb A n c m w) {p : Nat} (hp : p ≤ m) (hc : w.cell? ⟨rb, 1, none⟩ = some (.int .i64 p)) : Rd B rb A n c (m + 1) (w.setCell ⟨rb, 1, none⟩ (.int .i64 (p + 1))) := by
  obtain ⟨p', hp', hh⟩ := h.box
  have : p' = p := by
    simp [World.cell?, hh] at hc
    exact_mod_cast hc
  subst this
  refine ⟨h.base, h.len, ⟨p' + 1, by omega, ?_⟩, fun hn => ?_⟩
  · simp [World.setCell, Array.getElem?_modify, hh]
  · obtain ⟨ad, e, hb, hcell⟩ := h.bytes hn
    refine ⟨ad, e, hb, fun i hi => ?_⟩
    obtain ⟨z, z0, z1, hz⟩ := hcell i hi
    exact ⟨z, z0, z1, (World.cell?_of_block (Below.heap_setCell _ _ _ _ (by rw [block_add]; have := h.base; simp; omega))).trans hz⟩
end
theorem xor_nat (a b : Nat) (ha : a < 9223372036854775808) (hb : b < 9223372036854775808) : bits .xor .i64 (a : Int) (b : Int) = ((a ^^^ b : Nat) : Int) := by
  have hx : a ^^^ b < 2 ^ 63 := Nat.xor_lt_two_pow (by omega) (by omega)
  have h1 : (BitVec.ofInt 64 (a : Int)).toNat = a := by
    rw [BitVec.ofInt_natCast, BitVec.toNat_ofNat]; exact Nat.mod_eq_of_lt (by omega)
  have h2 : (BitVec.ofInt 64 (b : Int)).toNat = b := by
    rw [BitVec.ofInt_natCast, BitVec.toNat_ofNat]; exact Nat.mod_eq_of_lt (by omega)
  show IntKind.i64.wrap ((BitVec.ofInt 64 (a : Int) ^^^ BitVec.ofInt 64 (b : Int)).toNat : Int) = _
  rw [BitVec.toNat_xor, h1, h2]
  exact IntWalk.i64_in _ (by omega)
theorem xor_ex (x y : Int) (h1 : 0 ≤ x) (h2 : x < 1000000000000) (h3 : 0 ≤ y) (h4 : y < 1000000000000) : ∃ v, bits .xor .i64 x y = v ∧ 0 ≤ v := by
  obtain ⟨a, rfl⟩ := Int.eq_ofNat_of_zero_le h1
  obtain ⟨b, rfl⟩ := Int.eq_ofNat_of_zero_le h3
  exact ⟨_, xor_nat a b (by omega) (by omega), by omega⟩
theorem pick_lo {B rb : Nat} {A : Option Addr} {l c m : Nat} (n : Int) (w : World) (h : Rd B rb A l c m w) (hm : m ≤ 1000000) (hn : n < 1) :
    Calls Tryd.prog 36 #[.pointer (some ⟨rb, 0, none⟩), .int .i64 n] w fun e w' => e = .returned (.int .i64 0) ∧ Rd B rb A l c (m + 1) w' ∧ Chg [rb] w w' := by
  obtain ⟨p, hp, c0, c1, f1⟩ := h.cells
  have hst := h.step hp c1
  have hch : Chg [rb] w (w.setCell ⟨rb, 1, none⟩ (.int .i64 (p + 1))) := Chg.set1 _ _ _ _
  have Hst := Lib.hid hst
  have Hch := Lib.hid hch
  clear hst hch
  go_enter Tryd.func36, Tryd.ntmps36
  go_wp2
  go_ret
  exact ⟨rfl, Hst.out, Hch.out⟩
theorem newReader_le (A : Option Addr) (n c : Nat) (w : World) (h : Bts w A n) (hn : n ≤ c) (hc : c ≤ maxLen) :
    Calls Tryd.prog 30 #[.slice A n c] w fun e w' => ∃ n', n' ≤ n ∧ e = .returned (.pointer (some ⟨w.heap.size, 0, none⟩)) ∧ Rd w.heap.size w.heap.size A n' c 0 w' ∧ Chg [] w w' := by
  unfold maxLen at hc
  by_cases h0 : n ≤ 2000
  · have H := Lib.hid (h.rd (c := c) (Nat.le_refl _) h0)
    clear h
    go_enter Tryd.func30, Tryd.ntmps30
    go_wp2
    go_ret
    exact ⟨n, Nat.le_refl _, rfl, H.out, (Chg.refl _ _).alloc _⟩
  · have H := Lib.hid (h.rd (c := c) (k := 2000) (by omega) (by omega))
    clear h
    have h1 : (2000 : Int) < n := by omega
    go_enter Tryd.func30, Tryd.ntmps30
    go_wp2
    go_ret
    exact ⟨2000, by omega, rfl, H.out, (Chg.refl _ _).alloc _⟩
theorem newReader_any (A : Option Addr) (n c : Nat) (w : World) (h : Bts w A n) (hn : n ≤ c) (hc : c ≤ maxLen) :
    Calls Tryd.prog 30 #[.slice A n c] w fun e w' => ∃ n', e = .returned (.pointer (some ⟨w.heap.size, 0, none⟩)) ∧ Rd w.heap.size w.heap.size A n' c 0 w' ∧ Chg [] w w' :=
  (newReader_le A n c w h hn hc).mono fun e w' ⟨n', _, h⟩ => ⟨n', h⟩
/-- the bytes lie below an older size -/
theorem newReader_low {w0 : World} (A : Option Addr) (n c : Nat) (w : World) (h0 : Bts w0 A n) (hs : w0.heap.size ≤ w.heap.size) (h : Bts w A n) (hn : n ≤ c) (hc : c ≤ maxLen) :
    Calls Tryd.prog 30 #[.slice A n c] w fun e w' => ∃ n', e = .returned (.pointer (some ⟨w.heap.size, 0, none⟩)) ∧ Rd w0.heap.size w.heap.size A n' c 0 w' ∧ Chg [] w w' :=
  (newReader_le A n c w h hn hc).mono fun e w' ⟨n', hle, he, hr, hc⟩ => ⟨n', he, ⟨hs, hr.len, hr.box, fun hn' => by
    obtain ⟨ad, e1, _, hcell⟩ := hr.bytes hn'
    obtain ⟨ad', e2, hb, _⟩ := h0 (by omega)
    rw [e1] at e2
    injection e2 with e2
    subst e2
    exact ⟨ad, e1, hb, hcell⟩⟩, hc⟩
theorem pick_nil {B rb : Nat} {A : Option Addr} {c m : Nat} (n : Int) (w : World) (h : Rd B rb A 0 c m w) (hm : m ≤ 1000000) (hn : 1 ≤ n) :
    Calls Tryd.prog 36 #[.pointer (some ⟨rb, 0, none⟩), .int .i64 n] w fun e w' => e = .returned (.int .i64 0) ∧ Rd B rb A 0 c (m + 1) w' ∧ Chg [rb] w w' := by
  obtain ⟨p, hp, c0, c1, f1⟩ := h.cells
  have hst := h.step hp c1
  have hch : Chg [rb] w (w.setCell ⟨rb, 1, none⟩ (.int .i64 (p + 1))) := Chg.set1 _ _ _ _
  have Hst := Lib.hid hst
  have Hch := Lib.hid hch
  clear hst hch
  have hd : decide (n < 1) = false := by simp; omega
  go_enter Tryd.func36, Tryd.ntmps36
  go_wp2
  go_ret
  exact ⟨rfl, Hst.out, Hch.out⟩
theorem pick_in {B rb : Nat} {A : Option Addr} {l c m : Nat} (n : Int) (w : World) (h : Rd B rb A l c m w) (hm : m ≤ 1000000) (hn : 1 ≤ n) (hl : 0 < l) :
    Calls Tryd.prog 36 #[.pointer (some ⟨rb, 0, none⟩), .int .i64 n] w fun e w' => (∃ v, e = .returned (.int .i64 v) ∧ 0 ≤ v ∧ v < n) ∧ Rd B rb A l c (m + 1) w' ∧ Chg [rb] w w' := by
  have hlen := h.len
  obtain ⟨ad, rfl, hb, hby⟩ := h.bytes hl
  obtain ⟨p, hp, c0, c1, f1⟩ := h.cells
  have hbase := h.base
  have hst := h.step hp c1
  have hch : Chg [rb] w (w.setCell ⟨rb, 1, none⟩ (.int .i64 (p + 1))) := Chg.set1 _ _ _ _
  have Hst := Lib.hid hst
  have Hch := Lib.hid hch
  clear hst hch
  have hd : decide (n < 1) = false := by simp; omega
  have hl0 : ((l : Int) == 0) = false := by simp; omega
  have hF : ∃ W0 : World, W0 = w.setCell ⟨rb, 1, none⟩ (.int .i64 (p + 1)) ∧ W0.cell? ⟨rb, 0, none⟩ = some (.slice (some ad) l c) ∧ W0.cell? ⟨rb, 1, none⟩ = some (.int .i64 (p + 1)) ∧ (∀ i, i < l → ∃ z : Int, 0 ≤ z ∧ z < 256 ∧ W0.cell? (ad.add i) = some (.int .u8 z)) := by
    obtain ⟨q, hq, g0, g1, g2⟩ := Hst.out.cells
    clear h
    refine ⟨_, rfl, g0, by clear g0 g1 g2; go_simp, fun i hi => ?_⟩
    obtain ⟨ad', e, _, hby'⟩ := Hst.out.bytes hl
    injection e with e
    subst e
    exact hby' i hi
  obtain ⟨W0, hW0, g0, g1, hby0⟩ := hF
  rw [← hW0] at Hst Hch
  have HW := Lib.hid hW0
  clear hW0 h hby
  by_cases hk : p < l
  · have hkk : decide ((p : Int) < (l : Int)) = true := by simpa using hk
    obtain ⟨z, z0, z1, hz⟩ := hby0 p hk
    clear hby0
    go_enter Tryd.func36, Tryd.ntmps36
    go_upto_region 2 with (fail)
    rw [← HW.out]
    clear HW c0 c1 f1
    go_wp2
    go_ret
    exact ⟨⟨_, rfl, Int.emod_nonneg _ (by omega), Int.emod_lt_of_pos _ (by omega)⟩, Hst.out, Hch.out⟩
  · have hkk : decide ((p : Int) < (l : Int)) = false := by simp; omega
    have hl1 : ¬ l = 0 := by omega
    obtain ⟨q1, hq1, e1⟩ : ∃ q : Nat, q < l ∧ (p : Int).tmod (l : Int) = (q : Int) := ⟨p % l, Nat.mod_lt _ hl, rfl⟩
    obtain ⟨q2, hq2, e2⟩ : ∃ q : Nat, q < l ∧ ((p : Int) * 7 + 3).tmod (l : Int) = (q : Int) := ⟨(p * 7 + 3) % l, Nat.mod_lt _ hl, rfl⟩
    obtain ⟨q3, hq3, e3⟩ : ∃ q : Nat, q ≤ p ∧ (p : Int).tdiv (l : Int) = (q : Int) := ⟨p / l, Nat.div_le_self _ _, rfl⟩
    obtain ⟨y1, a1, a2, hy1⟩ := hby0 q1 hq1
    obtain ⟨y2, a3, a4, hy2⟩ := hby0 q2 hq2
    clear hby0
    go_enter Tryd.func36, Tryd.ntmps36
    go_upto_region 2 with (fail)
    rw [← HW.out]
    clear HW c0 c1 f1
    go_upto_region 7 with (fail)
    go_quiet (fail)
    go_upto_region 8 with (fail)
    have hX : ∃ X : Int, X = y1 * 131 + y2 * 1117 + (p : Int) * 29 + (q3 : Int) * 53 ∧ 0 ≤ X ∧ X < 1000000000000 := ⟨_, rfl, by omega, by omega⟩
    obtain ⟨X, eX, x0, x1⟩ := hX
    rw [← eX]
    clear eX
    obtain ⟨V, eV, v0⟩ := xor_ex X (X / 64) x0 x1 (by omega) (by omega)
    clear e1 e2 e3
    go_wp2
    go_ret
    exact ⟨⟨_, rfl, Int.emod_nonneg _ (by omega), Int.emod_lt_of_pos _ (by omega)⟩, Hst.out.drewN _, Hch.out.drewN _⟩
theorem pick_any {B rb : Nat} {A : Option Addr} {l c m : Nat} (n : Int) (w : World) (h : Rd B rb A l c m w) (hm : m ≤ 1000000) :
    Calls Tryd.prog 36 #[.pointer (some ⟨rb, 0, none⟩), .int .i64 n] w fun e w' => (∃ v, e = .returned (.int .i64 v) ∧ (1 ≤ n → 0 ≤ v ∧ v < n)) ∧ Rd B rb A l c (m + 1) w' ∧ Chg [rb] w w' := by
  by_cases hn : 1 ≤ n
  · rcases Nat.eq_zero_or_pos l with rfl | hl
    · exact (pick_nil n w h hm hn).mono fun e w' ⟨he, h1, h2⟩ => ⟨⟨0, he, fun _ => ⟨by omega, by omega⟩⟩, h1, h2⟩
    · exact (pick_in n w h hm hn hl).mono fun e w' ⟨⟨v, he, h3⟩, h1, h2⟩ => ⟨⟨v, he, fun _ => h3⟩, h1, h2⟩
  · exact (pick_lo n w h hm (by omega)).mono fun e w' ⟨he, h1, h2⟩ => ⟨⟨0, he, fun h => absurd h hn⟩, h1, h2⟩
end Go.Proofs.YtjfdmdmlgdgchaaDoor
end
section
namespace Go.Proofs.YtjfdmdmlgdgchaaDoor
open Go.RowKit
set_option linter.unusedVariables false
set_option maxHeartbeats 1000000
theorem one_any {B rb : Nat} {A : Option Addr} {l c m k : Nat} {v : Value} (w : World) (h : Rd B rb A l c m w) (hm : m ≤ 1000000) (hT : TL B [rb] k v w) (hk : 1 ≤ k) (hk2 : k ≤ 100) :
    Calls Tryd.prog 55 #[.pointer (some ⟨rb, 0, none⟩), v] w fun e w' => (∃ z, e = .returned (.int .i64 z)) ∧ Rd B rb A l c (m + 1) w' ∧ Chg [rb] w w' := by
  obtain ⟨g, rfl, hg1, hg2, hg3, hg4⟩ := hT
  go_enter Tryd.func55, Tryd.ntmps55
  go_wp2_with fail
  refine (pick_any _ _ h hm).mono ?_
  rintro e w1 ⟨⟨v, rfl, hv⟩, hr, hc⟩
  obtain ⟨v0, v1⟩ := hv (by omega)
  obtain ⟨j, rfl⟩ := Int.eq_ofNat_of_zero_le v0
  obtain ⟨z, hz⟩ := hg4 j (by omega)
  have hz' := (hc.cell (p := ⟨g, j, none⟩) hg3 hg2).trans hz
  have hjk : j < k := by omega
  have Hr := Lib.hid hr
  have Hc := Lib.hid hc
  clear hr hc hv hz hg4 h
  go_wp2
  go_ret
  exact ⟨⟨_, rfl⟩, Hr.out, Hc.out⟩
theorem one_lit {B rb : Nat} {A : Option Addr} {l c m k : Nat} {cs : Array Value} {T : TypeId} (w : World) (h : Rd B rb A l c m w) (hm : m ≤ 1000000) (hk : cs.size = k) (h1 : 1 ≤ k) (h2 : k ≤ 100) (ha : cs.toList.all isI = true) :
    Calls Tryd.prog 55 #[.pointer (some ⟨rb, 0, none⟩), .slice (some ⟨w.heap.size, 0, none⟩) k k] (w.alloc (.cells cs T)) fun e w' => (∃ z, e = .returned (.int .i64 z)) ∧ Rd B rb A l c (m + 1) w' ∧ Chg [rb] w w' :=
  (one_any _ (h.alloc _) hm (TL.lit (by have := h.lt; have := h.base; omega) (by have := h.lt; simpa using this) hk ha) h1 h2).mono fun e w' ⟨h1, h2, h3⟩ => ⟨h1, h2, ((Chg.refl _ _).alloc _).trans h3⟩
end Go.Proofs.YtjfdmdmlgdgchaaDoor
end
section
namespace Go.Proofs.YtjfdmdmlgdgchaaDoor
open Go.RowKit
set_option linter.unusedVariables false
set_option maxHeartbeats 1000000
theorem Bts.alloc {w : World} {A : Option Addr} {n : Nat} (h : Bts w A n) (o : Obj) : Bts (w.alloc o) A n := by
  intro hn
  obtain ⟨ad, e, hb, hc⟩ := h hn
  refine ⟨ad, e, by simp; omega, fun i hi => ?_⟩
  obtain ⟨z, z0, z1, hz⟩ := hc i hi
  exact ⟨z, z0, z1, (World.cell?_of_block (Below.heap_alloc _ _ _ (by rw [block_add]; exact hb))).trans hz⟩
theorem Chg.toBelow {w w1 : World} {rb : Nat} (h : Chg [rb] w w1) (hr : w.heap.size ≤ rb) : Below w.heap.size w w1 := h.below (Nat.le_refl _) (by simpa using hr)
end Go.Proofs.YtjfdmdmlgdgchaaDoor
end
section
namespace Go.Proofs.YtjfdmdmlgdgchaaDoor
open Go.RowKit
set_option linter.unusedVariables false
set_option maxHeartbeats 1000000
theorem bp_gen {P : Program} {f : Func} {R : Ending → World → Prop} {e : Exit} {a : Act} {W : World} (F : World → Prop) (hF : F W) (h : ∀ W0, F W0 → bodyPost P f R e a W0) : bodyPost P f R e a W := h W hF
theorem heap_alloc2 (w : World) (o o' : Obj) : ((w.alloc o).alloc o').heap[w.heap.size + 1]? = some o' := by have := heap_alloc_new (w.alloc o) o'; rwa [World.size_alloc] at this
theorem put1h {w : World} {b i : Nat} {cs : Array Value} {T : TypeId} {fz : Nat × Nat} (h : w.heap[b]? = some (.cells cs T fz)) (u : Value) : (w.setCell ⟨b, i, none⟩ u).heap[b]? = some (.cells (cs.setIfInBounds i u) T fz) := by
  simp [World.setCell, Array.getElem?_modify, h]
theorem put4h {w : World} {b : Nat} {a0 a1 a2 a3 : Value} {T : TypeId} {fz : Nat × Nat} (h : w.heap[b]? = some (.cells #[a0, a1, a2, a3] T fz)) (x0 x1 x2 x3 : Value) :
    ((((w.setCell ⟨b, 0, none⟩ x0).setCell ⟨b, 1, none⟩ x1).setCell ⟨b, 2, none⟩ x2).setCell ⟨b, 3, none⟩ x3).heap[b]? = some (.cells #[x0, x1, x2, x3] T fz) := by
  rw [put1h (put1h (put1h (put1h h x0) x1) x2) x3]; rfl
theorem put4o {w : World} {b b' : Nat} (h : b' ≠ b) (x0 x1 x2 x3 : Value) :
    ((((w.setCell ⟨b, 0, none⟩ x0).setCell ⟨b, 1, none⟩ x1).setCell ⟨b, 2, none⟩ x2).setCell ⟨b, 3, none⟩ x3).heap[b']? = w.heap[b']? := by
  rw [Below.heap_setCell _ _ _ _ h, Below.heap_setCell _ _ _ _ h, Below.heap_setCell _ _ _ _ h, Below.heap_setCell _ _ _ _ h]
theorem put4b {B b : Nat} {a w : World} (h : Below B a w) (hb : B ≤ b) (x0 x1 x2 x3 : Value) : Below B a ((((w.setCell ⟨b, 0, none⟩ x0).setCell ⟨b, 1, none⟩ x1).setCell ⟨b, 2, none⟩ x2).setCell ⟨b, 3, none⟩ x3) :=
  (((h.setCell hb _).setCell hb _).setCell hb _).setCell hb _
end Go.Proofs.YtjfdmdmlgdgchaaDoor
end
