import Derived.Test.YtgdkionmeacalabGreatQ25
import Derived.OwnWalk
import Derived.WalkSpells
import Derived.Laws.Cover3
section
namespace Go.Proofs.YtgdkionmeacalabGreat
open Go.RowKit
theorem ValidTree_n (A : Option Addr) (c k : Nat) (R : List Nr) (b : Bool) (w : World) (hk : k = R.length) (h : NrV w A R) (hr : RdR w R) (hL : R.length ≤ 1048576) (hm : ∀ p ∈ R, p.n.cs.length ≤ 1048576 ∧ p.n.rs.length ≤ 1048576) (hb : treeB (R.map Nr.n) = b) :
    Calls Tryz.prog 23 #[.agg #[.slice A k c]] w fun e w' => e = .returned (.bool b) ∧ Below w.heap.size w w' := by
  subst hk; exact ValidTree_v A c R b w h hr hL hm hb
theorem svalidTree_n (A : Option Addr) (c k : Nat) (R : List Nr) (b : Bool) (w : World) (hk : k = R.length) (h : NrV w A R) (hr : RdR w R) (hL : R.length ≤ 1048576) (hm : ∀ p ∈ R, p.n.cs.length ≤ 1048576 ∧ p.n.rs.length ≤ 1048576) (hb : treeB (R.map Nr.n) = b) :
    Calls Tryz.prog 39 #[.agg #[.slice A k c]] w fun e w' => e = .returned (.bool b) ∧ Below w.heap.size w w' := by
  subst hk; exact svalidTree_v A c R b w h hr hL hm hb
end Go.Proofs.YtgdkionmeacalabGreat
end
section
namespace Go.Proofs.YtgdkionmeacalabGreat
open Go.RowKit
set_option linter.unusedVariables false
set_option maxHeartbeats 2000000
attribute [local go_sem] growUpon_value growUpon_skip growUpon_enter
/-! WayUp, both sides. -/
theorem rangeUp {w w' : World} {b o : Nat} {cs : List Value} (h : w.rangeAt b o cs) (hb : Below w.heap.size w w') (hl : b < w.heap.size) : w'.rangeAt b o cs := rangeB h (hb.block b hl)
theorem inRange_u (n a b : Int) (r : Bool) (w : World) (h : rng n a b = r) : Calls Tryz.prog 52 #[.int .i64 n, .int .i64 a, .int .i64 b] w fun e w' => e = .returned (.bool r) ∧ w = w' := by
  rw [← h]; exact inRange_any n a b w
set_option maxRecDepth 100000 in
theorem has_v (A : Option Addr) (c k : Nat) (i : Int) (r : Bool) (w : World) (hk : k ≤ 1048576) (h : rng i 0 ((k : Int) - 1) = r) : Calls Tryz.prog 24 #[.agg #[.slice A k c], .int .i64 i] w fun e w' => e = .returned (.bool r) ∧ Below w.heap.size w w' := by
  go_enter Tryz.func24, Tryz.ntmps24
  go_wp2_with fail
  with_reducible refine (within_w i 0 ((k : Int) - 1) r _ h).mono ?_
  rintro e w' ⟨rfl, rfl⟩
  go_wp2
  go_ret
  exact ⟨rfl, balloc (Below.refl _ _)⟩
set_option maxRecDepth 100000 in
theorem goodNode_v (A : Option Addr) (c k : Nat) (R : List Nr) (i : Int) (b : Bool) (w : World) (hk : k = R.length) (h : NrV w A R) (hr : RdR w R) (hL : R.length ≤ 1048576) (hm : ∀ p ∈ R, p.n.cs.length ≤ 1048576 ∧ p.n.rs.length ≤ 1048576) (hb : (treeB (R.map Nr.n) && rng i 0 ((k : Int) - 1)) = b) :
    Calls Tryz.prog 26 #[.agg #[.slice A k c], .int .i64 i] w fun e w' => e = .returned (.bool b) ∧ Below w.heap.size w w' := by
  have hkl : k ≤ 1048576 := by omega
  have hB0 : Below w.heap.size w (w.alloc (.cells #[.slice A k c] 25 (0, 0))) := balloc (Below.refl _ _)
  have HX := Lib.hid (newS w (.cells #[.slice A k c] 25 (0, 0)))
  have HB := Lib.hid hB0
  have HV := Lib.hid (h.keep hB0)
  have HR := Lib.hid (hr.keep hB0)
  have HM := Lib.hid hm
  have HK := Lib.hid hk
  have x0 := cellS HX.out 0
  clear hB0 h hr hm hk
  cases ht : treeB (R.map Nr.n)
  · obtain rfl : false = b := by rw [← hb, ht]; rfl
    have HT := Lib.hid ht
    clear hb ht
    go_enter Tryz.func26, Tryz.ntmps26
    go_wp2_with fail
    with_reducible refine (svalidTree_n A c k R false _ HK.out HV.out HR.out hL HM.out HT.out).mono ?_
    rintro e w1 ⟨rfl, hb⟩
    clear x0
    replace HX := Lib.hid ((hb.block _ (Array.getElem?_eq_some_iff.1 HX.out).1).trans HX.out)
    replace HB := Lib.hid (bkeep2 HB.out hb)
    clear hb
    have x0 := cellS HX.out 0
    go_wp2
    go_ret
    exact ⟨rfl, HB.out⟩
  · have hb2 : rng i 0 ((k : Int) - 1) = b := by rw [← hb, ht]; rfl
    have HT := Lib.hid ht
    have HBB := Lib.hid hb2
    clear hb ht hb2
    go_enter Tryz.func26, Tryz.ntmps26
    go_wp2_with fail
    with_reducible refine (svalidTree_n A c k R true _ HK.out HV.out HR.out hL HM.out HT.out).mono ?_
    rintro e w1 ⟨rfl, hb⟩
    clear x0
    replace HX := Lib.hid ((hb.block _ (Array.getElem?_eq_some_iff.1 HX.out).1).trans HX.out)
    replace HB := Lib.hid (bkeep2 HB.out hb)
    clear hb
    have x0 := cellS HX.out 0
    go_wp2_with fail
    with_reducible refine (inRange_u i 0 ((k : Int) - 1) b _ HBB.out).mono ?_
    rintro e w2 ⟨rfl, rfl⟩
    go_wp2
    go_ret
    exact ⟨rfl, HB.out⟩
set_option maxRecDepth 100000 in
theorem WayUp_yes (A : Option Addr) (c k : Nat) (R : List Nr) (j : Nat) (xs : List Int) (w : World) (hk : k = R.length) (h : NrV w A R) (hr : RdR w R) (hL : R.length ≤ 1048576) (hm : ∀ p ∈ R, p.n.cs.length ≤ 1048576 ∧ p.n.rs.length ≤ 1048576) (ht : treeB (R.map Nr.n) = true) (hj : j < R.length) (hup : IsUp (R.map Nr.n) (j : Int) xs) (hxl : xs.length ≤ 20) :
    Calls Tryz.prog 13 #[.agg #[.slice A k c], .int .i64 j] w fun e w' => (∃ v, e = .returned v ∧ GO w.heap.size w' v xs) ∧ Below w.heap.size w w' := by
  have hkl : k ≤ 1048576 := by omega
  have hB0 : Below w.heap.size w (w.alloc (.cells #[.slice A k c] 25 (0, 0))) := balloc (Below.refl _ _)
  have HX := Lib.hid (newS w (.cells #[.slice A k c] 25 (0, 0)))
  have HB := Lib.hid hB0
  have HV := Lib.hid (h.keep hB0)
  have HR := Lib.hid (hr.keep hB0)
  have HM := Lib.hid hm
  have HK := Lib.hid hk
  have HT := Lib.hid ht
  have HBB := Lib.hid (show rng (j : Int) 0 ((k : Int) - 1) = true by rw [rng_iff]; omega)
  have HUP := Lib.hid hup
  have x0 := cellS HX.out 0
  clear hB0 h hr hm hk ht hup
  go_enter Tryz.func13, Tryz.ntmps13
  go_wp2_with fail
  with_reducible refine (ValidTree_n A c k R true _ HK.out HV.out HR.out hL HM.out HT.out).mono ?_
  rintro e w1 ⟨rfl, hb⟩
  clear x0
  replace HX := Lib.hid ((hb.block _ (Array.getElem?_eq_some_iff.1 HX.out).1).trans HX.out)
  replace HV := Lib.hid (HV.out.keep hb)
  replace HB := Lib.hid (bkeep2 HB.out hb)
  clear hb
  have x0 := cellS HX.out 0
  go_wp2_with fail
  with_reducible refine (has_v A c k j true _ hkl HBB.out).mono ?_
  rintro e w2 ⟨rfl, hb⟩
  clear x0
  replace HX := Lib.hid ((hb.block _ (Array.getElem?_eq_some_iff.1 HX.out).1).trans HX.out)
  replace HV := Lib.hid (HV.out.keep hb)
  replace HB := Lib.hid (bkeep2 HB.out hb)
  clear hb
  have x0 := cellS HX.out 0
  go_wp2_with fail
  with_reducible refine (upFrom_v A k c (j : Int) _).mono ?_
  rintro e w3 ⟨rfl, rfl⟩
  obtain ⟨b, off, rfl, hbl, hc⟩ := HV.out.cells (by omega)
  have hb3 : Below w2.heap.size w2 ((w2.alloc (.cells #[.slice (some ⟨b, off, none⟩) k c] 25)).alloc (.cells #[.int .i64 (j : Int)] 3)) := balloc (balloc (Below.refl _ _))
  have HU := Lib.hid (show UpAt ((w2.alloc (.cells #[.slice (some ⟨b, off, none⟩) k c] 25)).alloc (.cells #[.int .i64 (j : Int)] 3)) (w2.heap.size + 1) w2.heap.size b off k c (j : Int) R from
    ⟨cellS (newS1T w2 _ _) 0, cellS ((Below.heap_alloc _ _ w2.heap.size (by simp)).trans (newS w2 _)) 0, fun m p hp => rangeUp (hc m p hp) hb3 hbl⟩)
  replace HB := Lib.hid (bkeep2 HB.out hb3)
  have hws : ((w2.alloc (.cells #[.slice (some ⟨b, off, none⟩) k c] 25)).alloc (.cells #[.int .i64 (j : Int)] 3)).heap.size = w2.heap.size + 2 := by simp
  generalize ((w2.alloc (.cells #[.slice (some ⟨b, off, none⟩) k c] 25)).alloc (.cells #[.int .i64 (j : Int)] 3)) = W3 at *
  clear hb3 hc x0 HX
  go_wp2_with fail
  with_reducible refine (collect_up _ _ b off k c R (j : Int) xs HK.out hL HUP.out hxl _ (by omega) (by omega) (by omega) HU.out).mono ?_
  rintro e w4 ⟨⟨v, rfl, ho⟩, hb⟩
  have hsz := HB.out.size
  replace HB := Lib.hid (bkeep2 HB.out hb)
  have HO := Lib.hid ((GO.of ho rfl).mono hsz)
  clear ho hb
  go_wp2
  go_ret
  exact ⟨⟨_, rfl, HO.out⟩, HB.out⟩
end Go.Proofs.YtgdkionmeacalabGreat
end
section
namespace Go.Proofs.YtgdkionmeacalabGreat
open Go Go.RowKit
set_option linter.unusedVariables false
set_option linter.unusedSimpArgs false
set_option maxHeartbeats 4000000
attribute [local go_sem] growUpon_value growUpon_skip growUpon_enter
theorem trOK_of {L : List Nd} (h : treeB L = true) : TrOK L where
  l1 := (tree_len h).1
  l10 := (tree_len h).2
  up := fun k n hn => by
    obtain ⟨_, hu, _⟩ := tree_nok h hn
    unfold upB at hu
    split at hu
    · rename_i e; exact .inl ⟨e, by simpa using hu⟩
    · rename_i e; rw [rng_iff] at hu; right; omega
  sz := fun k n hn => by
    obtain ⟨hd, _, _⟩ := tree_nok h hn
    simp only [ndB, Bool.and_eq_true, rng_iff] at hd
    obtain ⟨⟨h1, h2⟩, h3, _⟩ := hd
    exact ⟨h1, h2, by omega⟩
  pk := fun k n hn => by
    obtain ⟨hd, _, _⟩ := tree_nok h hn
    simp only [ndB, Bool.and_eq_true] at hd
    exact hd.2.2.2.1
  li := fun k n hn h1 => own_lines (tree_nok h hn).1 h1
  ce := fun k n u hn h0 hu h1 => by
    obtain ⟨_, _, hc⟩ := tree_nok h hn
    unfold clB at hc
    rw [if_neg (by omega), hu] at hc
    simpa [h1] using hc
/-- what all nodes ask for, in memory of its own -/
def WsV (lo : Nat) (w : World) (R : List Nr) (v : Value) : Prop := ∃ g : Nat, v = .slice (some ⟨g, 0, none⟩) R.length R.length ∧ lo ≤ g ∧ RbK 2 w g 62 ((List.range R.length).map fun k => valsWi (szM (R.map Nr.n) k))
theorem WsV.keep {lo : Nat} {w w' : World} {R : List Nr} {v : Value} (h : WsV lo w R v) (hb : Below w.heap.size w w') : WsV lo w' R v := let ⟨g, e, hl, k⟩ := h; ⟨g, e, hl, k.keep hb⟩
theorem WsV.mono {lo lo' : Nat} {w : World} {R : List Nr} {v : Value} (h : WsV lo w R v) (hl : lo' ≤ lo) : WsV lo' w R v := let ⟨g, e, h1, k⟩ := h; ⟨g, e, by omega, k⟩
theorem wishes_eq {w : World} {R : List Nr} {X : List Wd} (hl : X.length = R.length) (hx : ∀ i x, X[i]? = some x → WdK 0 w R i x) : (X.map fun y => valsWi (y.sw, y.sh)) = (List.range R.length).map fun k => valsWi (szM (R.map Nr.n) k) := by
  refine List.ext_getElem? fun i => ?_
  rw [List.getElem?_map, List.getElem?_map]
  by_cases hi : i < R.length
  · have e : X[i]? = some X[i] := List.getElem?_eq_getElem (by omega)
    obtain ⟨p, _, _, e2, _⟩ := hx i _ e
    rw [e, List.getElem?_range hi]
    simp only [Option.map_some]
    rw [e2]
  · rw [List.getElem?_eq_none (by omega), List.getElem?_eq_none (by simp; omega)]; rfl
set_option maxRecDepth 100000 in
theorem requests_v (A : Option Addr) (c k : Nat) (R : List Nr) (w : World) (hT : TrOK (R.map Nr.n)) (hk : k = R.length) (h : NrV w A R) (hr : RdR w R) :
    Calls Tryz.prog 25 #[.agg #[.slice A k c]] w fun e w' => (∃ v, e = .returned v ∧ WsV w.heap.size w' R v) ∧ Below w.heap.size w w' := by
  subst hk
  have hL : R.length ≤ 10 := by have := hT.l10; rwa [List.length_map] at this
  have hB0 : Below w.heap.size w (w.alloc (.cells #[.slice A R.length c] 25 (0, 0))) := balloc (Below.refl _ _)
  have HX := Lib.hid (newS w (.cells #[.slice A R.length c] 25 (0, 0)))
  have HB := Lib.hid hB0
  have HV := Lib.hid (h.keep hB0)
  have HR := Lib.hid (hr.keep hB0)
  have x0 := cellS HX.out 0
  clear hB0 h hr
  go_enter Tryz.func25, Tryz.ntmps25
  go_wp2_with fail
  with_reducible refine (settled_v A c R hT _ HV.out HR.out hL).mono ?_
  rintro e w1 ⟨⟨v, rfl, g, X, rfl, hg, X1, X2, X3⟩, hb⟩
  clear x0
  replace HX := Lib.hid ((hb.block _ (Array.getElem?_eq_some_iff.1 HX.out).1).trans HX.out)
  replace HB := Lib.hid (bkeep2 HB.out hb)
  clear hb
  have HX2 := Lib.hid X2.v
  have HE := Lib.hid (wishes_eq X1 X3)
  have HX1 := Lib.hid X1
  clear X1 X2 X3 hg
  go_wp2_with fail
  with_reducible refine (each_wishes _ _ R.length X _ HX2.out HX1.out.symm (by omega)).mono ?_
  rintro e w2 ⟨rfl, hq, hb⟩
  rw [HE.out] at hq
  have HQ := Lib.hid hq
  have hs1 := HB.out.size
  clear hq
  replace HB := Lib.hid (bkeep2 HB.out hb)
  clear hb
  go_wp2
  go_ret
  exact ⟨⟨_, rfl, _, rfl, hs1, HQ.out⟩, HB.out⟩
/-- what a node asks for, -1 and -1 if there is none -/
def rqM (L : List Nd) (i : Int) : Int × Int := if (treeB L && rng i 0 ((L.length : Int) - 1)) = true then szM L i.toNat else (-1, -1)
theorem WsV.at {lo : Nat} {w : World} {R : List Nr} {g : Nat} (h : RbK 2 w g 62 ((List.range R.length).map fun k => valsWi (szM (R.map Nr.n) k))) {j : Nat} (hj : j < R.length) : w.cell? ⟨g, j * 2, none⟩ = some (.int .i64 (szM (R.map Nr.n) j).1) ∧ w.cell? ⟨g, j * 2 + 1, none⟩ = some (.int .i64 (szM (R.map Nr.n) j).2) := by
  obtain ⟨cs, hh, hs, hc⟩ := h
  have := hc j (valsWi (szM (R.map Nr.n) j)) (by simpa using hj) (by rw [List.getElem?_map, List.getElem?_range hj]; rfl)
  exact ⟨(cellS hh _).trans (this 0 _ rfl), (cellS hh _).trans (this 1 _ rfl)⟩
end Go.Proofs.YtgdkionmeacalabGreat
end
section
namespace Go.Proofs.YtgdkionmeacalabGreat
open Go Go.RowKit
set_option linter.unusedVariables false
set_option linter.unusedSimpArgs false
set_option maxHeartbeats 4000000
attribute [local go_sem] growUpon_value growUpon_skip growUpon_enter
attribute [local go_sem] givesUpon_value givesUpon_skip givesUpon_enter
theorem afAdd (b off n : Nat) : (⟨b, off, none⟩ : Addr).add n = ⟨b, off + n, none⟩ := by
  unfold Addr.add
  split
  · rename_i h; subst h; rfl
  · rfl
theorem eqlLn (a : Option Addr) (l c : Nat) (w : World) : (binOp .eql 30 (.slice a l c) (.slice none 0 0)).run Tryz.prog w = .ok (.bool a.isNone) w := by
  simp only [binOp]
  simp [run_equal_slice_nil (P := Tryz.prog) w 30 150 a l c Tryz.underlying30]
theorem afFlat {k : Nat} : ∀ {R : List (List Value)} {i j : Nat} {vs : List Value} {u : Value}, (∀ vs ∈ R, vs.length = k) → R[i]? = some vs → vs[j]? = some u → R.flatten[i * k + j]? = some u
  | x :: t, 0, j, vs, u, hl, h, hj => by
    simp at h
    subst h
    have := (List.getElem?_eq_some_iff.1 hj).1
    rw [Nat.zero_mul, Nat.zero_add, List.flatten_cons, List.getElem?_append_left this]
    exact hj
  | x :: t, i + 1, j, vs, u, hl, h, hj => by
    have hx := hl x List.mem_cons_self
    rw [List.getElem?_cons_succ] at h
    have := afFlat (fun vs hv => hl vs (List.mem_cons_of_mem _ hv)) h hj
    rw [List.flatten_cons, List.getElem?_append_right (by rw [hx, Nat.add_mul]; omega), hx, show (i + 1) * k + j - k = i * k + j from by rw [Nat.add_mul]; omega]
    exact this
theorem afOwn {w : World} {base k n : Nat} {T : TypeId} {v : Value} {R : List (List Value)} (h : w.ownsRow base T k v n R.flatten) (hn : n = R.length) (hl : ∀ vs ∈ R, vs.length = k) : ∃ A c, v = .slice A n c ∧ (0 < R.length → ∃ b, A = some ⟨b, 0, none⟩ ∧ base ≤ b ∧ b < w.heap.size ∧ ∀ i vs, R[i]? = some vs → w.rangeAt b (0 + i * k) vs) ∧ n ≤ c := by
  rcases h.2 with ⟨rfl, h0⟩ | ⟨g, cap, cur, rfl, hb, hg, hc, _, hs, ht⟩
  · have : R = [] := List.length_eq_zero_iff.1 (by omega)
    subst this
    exact ⟨none, 0, by rw [h0], fun h => absurd h (by simp), by omega⟩
  · refine ⟨_, cap, rfl, fun _ => ⟨g, rfl, hb, ltS hg, fun i vs hi j u hj => ?_⟩, hc⟩
    have e := afFlat hl hi hj
    rw [← ht, List.getElem?_take] at e
    split at e
    · rw [Nat.zero_add]
      exact (cellS hg _).trans (by simpa using e)
    · cases e
def lvals (L : List Ln) : List Value := (L.map valsLn).flatten
theorem lvals_len : ∀ L : List Ln, (lvals L).length = L.length * 2
  | [] => rfl
  | p :: t => by
    have := lvals_len t
    show (valsLn p ++ lvals t).length = _
    rw [List.length_append, this, List.length_cons]
    show 2 + _ = _
    omega
theorem lvals_one (L : List Ln) : ∀ u ∈ lvals L, u.oneCell' = true := by
  intro u hu
  unfold lvals at hu
  obtain ⟨vs, h1, h2⟩ := List.mem_flatten.1 hu
  obtain ⟨p, _, rfl⟩ := List.mem_map.1 h1
  simp only [valsLn, List.mem_cons, List.not_mem_nil, or_false] at h2
  rcases h2 with rfl | rfl <;> rfl
theorem lvals_at : ∀ (L : List Ln) (j : Nat) (u : Value), (lvals L)[j]? = some u → ∃ (i : Nat) (p : Ln), L[i]? = some p ∧ ((j = i * 2 ∧ u = .int .i64 p.wt) ∨ (j = i * 2 + 1 ∧ u = .int .i64 p.mi))
  | [], j, u, h => by simp [lvals] at h
  | p :: t, 0, u, h => ⟨0, p, rfl, .inl ⟨rfl, (Option.some.inj (h : some _ = some u)).symm⟩⟩
  | p :: t, 1, u, h => ⟨0, p, rfl, .inr ⟨rfl, (Option.some.inj (h : some _ = some u)).symm⟩⟩
  | p :: t, j + 2, u, h => by
    obtain ⟨i, q, h1, h2⟩ := lvals_at t j u h
    refine ⟨i + 1, q, by simpa using h1, ?_⟩
    rcases h2 with ⟨rfl, e⟩ | ⟨rfl, e⟩
    · exact .inl ⟨by omega, e⟩
    · exact .inr ⟨by omega, e⟩
/-- lines in a block from lo on -/
def LnW (lo : Nat) (w : World) (A : Option Addr) (L : List Ln) : Prop := 0 < L.length → ∃ b off, A = some ⟨b, off, none⟩ ∧ lo ≤ b ∧ b < w.heap.size ∧ ∀ i p, L[i]? = some p → w.cell? ⟨b, off + i * 2, none⟩ = some (.int .i64 p.wt) ∧ w.cell? ⟨b, off + i * 2 + 1, none⟩ = some (.int .i64 p.mi)
theorem LnW.v {lo : Nat} {w : World} {A : Option Addr} {L : List Ln} (h : LnW lo w A L) : LnV w A L := ⟨fun h0 => let ⟨b, off, e, _, hb, hp⟩ := h h0; ⟨b, off, e, hb, hp⟩⟩
theorem LnW.same {lo : Nat} {w w' : World} {A : Option Addr} {L : List Ln} (h : LnW lo w A L) (hs : ∀ b, lo ≤ b → b < w.heap.size → w'.heap[b]? = w.heap[b]?) (hl : w.heap.size ≤ w'.heap.size) : LnW lo w' A L := fun h0 => by
  obtain ⟨b, off, e, h1, h2, hp⟩ := h h0
  refine ⟨b, off, e, h1, by omega, fun i p hi => ?_⟩
  obtain ⟨c0, c1⟩ := hp i p hi
  exact ⟨(World.cell?_of_block (a := ⟨b, _, none⟩) (hs b h1 h2)).trans c0, (World.cell?_of_block (a := ⟨b, _, none⟩) (hs b h1 h2)).trans c1⟩
theorem LnW.keep {lo : Nat} {w w' : World} {A : Option Addr} {L : List Ln} (h : LnW lo w A L) (hb : Below w.heap.size w w') : LnW lo w' A L := h.same (fun b _ hl => hb.block b hl) hb.size
theorem LnW.set {lo g o : Nat} {w : World} {A : Option Addr} {L : List Ln} (h : LnW lo w A L) (hg : g < lo) (v : Value) : LnW lo (w.setCell ⟨g, o, none⟩ v) A L := h.same (fun b h1 _ => Below.heap_setCell _ ⟨g, o, none⟩ _ _ (by simp; omega)) (by simp [World.setCell])
theorem LnW.mono {lo lo' : Nat} {w : World} {A : Option Addr} {L : List Ln} (h : LnW lo w A L) (hl : lo' ≤ lo) : LnW lo' w A L := fun h0 => let ⟨b, off, e, h1, h2⟩ := h h0; ⟨b, off, e, by omega, h2⟩
/-- a slice that reads as these lines, with room or none -/
def LnR (lo : Nat) (w : World) (v : Value) (L : List Ln) : Prop := ∃ A c, v = .slice A L.length c ∧ LnW lo w A L ∧ L.length ≤ c
theorem LnR.keep {lo : Nat} {w w' : World} {v : Value} {L : List Ln} (h : LnR lo w v L) (hb : Below w.heap.size w w') : LnR lo w' v L := let ⟨A, c, e, k, l⟩ := h; ⟨A, c, e, k.keep hb, l⟩
theorem LnR.mono {lo lo' : Nat} {w : World} {v : Value} {L : List Ln} (h : LnR lo w v L) (hl : lo' ≤ lo) : LnR lo' w v L := let ⟨A, c, e, k, l⟩ := h; ⟨A, c, e, k.mono hl, l⟩
theorem LnR.own {w : World} {base : Nat} {v : Value} {L : List Ln} (h : w.ownsRow base 150 2 v L.length (lvals L)) : LnR base w v L := by
  obtain ⟨A, c, e, hr, hc⟩ := afOwn h (by rw [List.length_map]) (fun vs hv => by obtain ⟨p, _, rfl⟩ := List.mem_map.1 hv; rfl)
  refine ⟨A, c, e, fun h0 => ?_, hc⟩
  obtain ⟨b, e, h1, h2, hp⟩ := hr (by rwa [List.length_map])
  refine ⟨b, 0, e, h1, h2, fun i p hi => ?_⟩
  have hr := hp i (valsLn p) (by rw [List.getElem?_map, hi]; rfl)
  exact ⟨hr 0 _ rfl, hr 1 _ rfl⟩
theorem line_info : ∃ (i : TypeInfo) (z : Value), Tryz.prog.info? 150 = some i ∧ i.zero = some z ∧ i.size = 2 ∧ i.bytes = 16 ∧ z.cells.size = 2 := by
  have h : (Tryz.prog.info? 150).map (fun i => (i.size, i.bytes, i.zero.map (fun z => z.cells.size))) = some (2, 16, some 2) := by kernel_rfl
  cases hq : Tryz.prog.info? 150 with
  | none => rw [hq] at h; cases h
  | some i =>
    rw [hq] at h
    simp only [Option.map_some, Option.some.injEq, Prod.mk.injEq] at h
    obtain ⟨e1, e2, e3⟩ := h
    cases hz : i.zero with
    | none => rw [hz] at e3; cases e3
    | some z => rw [hz] at e3; exact ⟨i, z, rfl, hz, e1, e2, by simpa using e3⟩
theorem ln_src {w w' : World} {b off : Nat} {L : List Ln} (hb : b < w.heap.size) (hp : ∀ i p, L[i]? = some p → w.cell? ⟨b, off + i * 2, none⟩ = some (.int .i64 p.wt) ∧ w.cell? ⟨b, off + i * 2 + 1, none⟩ = some (.int .i64 p.mi)) (h : Below w.heap.size w w') : ∀ j u, (lvals L)[j]? = some u → w'.cell? ((⟨b, off, none⟩ : Addr).add j) = some u := fun j u hj => by
  obtain ⟨i, p, h1, h2⟩ := lvals_at L j u hj
  obtain ⟨c0, c1⟩ := hp i p h1
  rw [afAdd]
  rcases h2 with ⟨rfl, rfl⟩ | ⟨rfl, rfl⟩
  · exact (h.cell (p := ⟨b, off + i * 2, none⟩) hb).trans c0
  · rw [← Nat.add_assoc]
    exact (h.cell (p := ⟨b, off + i * 2 + 1, none⟩) hb).trans c1
theorem LnV.none_nil {w : World} {L : List Ln} (h : LnV w none L) : L = [] := by
  cases L with
  | nil => rfl
  | cons p t =>
    obtain ⟨b, off, e, _⟩ := h.cells (by simp)
    cases e
set_option maxRecDepth 100000 in
theorem cloneLn_v (A : Option Addr) (c n : Nat) (L : List Ln) (w : World) (h : LnV w A L) (hn : n = L.length) (hL : L.length ≤ 1048576) :
    Calls Tryz.prog 113 #[.slice A n c] w fun e w' => (∃ v, e = .returned v ∧ LnR w.heap.size w' v L) ∧ Below w.heap.size w w' := by
  subst hn
  cases A with
  | none =>
    obtain rfl := h.none_nil
    have hen : ∀ w, (binOp .eql 30 (.slice none 0 c) (.slice none 0 0)).run Tryz.prog w = .ok (.bool true) w := fun w => eqlLn none 0 c w
    clear h
    go_enter Tryz.func113, Tryz.ntmps113
    go_wp2
    go_ret
    exact ⟨⟨_, rfl, none, 0, rfl, fun h => absurd h (by simp), Nat.le_refl _⟩, Below.refl _ _⟩
  | some a =>
    have hen : ∀ w, (binOp .eql 30 (.slice (some a) L.length c) (.slice none 0 0)).run Tryz.prog w = .ok (.bool false) w := fun w => eqlLn (some a) L.length c w
    obtain ⟨ti, tz, ti1, ti2, ti3, ti4, ti5⟩ := line_info
    have hB0 : Below w.heap.size w (w.alloc (.cells #[] 150 (0, 0))) := balloc (Below.refl _ _)
    have ho0 : (w.alloc (.cells #[] 150 (0, 0))).ownsRow w.heap.size 150 2 (.slice (some ⟨w.heap.size, 0, none⟩) 0 0) 0 (lvals []) := World.ownsRow_lit (base := w.heap.size) (e := 150) (size := 2) w #[] 0 (Nat.le_refl _) (by decide) rfl
    have hsrc : ∀ j u, (lvals L)[j]? = some u → (w.alloc (.cells #[] 150 (0, 0))).cell? (a.add j) = some u := fun j u hj => by
      by_cases hl : 0 < L.length
      · obtain ⟨b, off, e, hb, hp⟩ := h.cells hl
        obtain rfl := Option.some.inj e
        exact ln_src hb hp hB0 j u hj
      · obtain rfl : L = [] := List.length_eq_zero_iff.1 (by omega)
        simp [lvals] at hj
    have hob := ho0.lt
    have HO := Lib.hid ho0
    have HSRC := Lib.hid hsrc
    have HNV := Lib.hid (lvals_len L)
    have h1c := Lib.hid (lvals_one L)
    clear hsrc hB0 ho0 h
    go_enter Tryz.func113, Tryz.ntmps113
    go_wp2_with (at_builtin; refine wpList_append_own _ rfl _ _ 30 rfl w.heap.size 150 ti tz 2 16 Tryz.underlying30 ti1 ti2 ti3 ti4 ti5 (by decide) _ _ _ rfl HO.out a L.length c (lvals L) rfl HNV.out HSRC.out h1c.out (by simp only [maxLen]; omega) (by omega) (by simp) ?_)
    intro v5 w5 how5 hgr5 _
    have hnv0 : lvals [] ++ lvals L = lvals L := by simp [lvals]
    simp only [hnv0, Nat.zero_add] at how5
    have HB5 := Lib.hid (below_own (o := .cells #[] 150 (0, 0)) (W := w) (a := w) (n := w.heap.size) (Below.refl _ _) hgr5 hob (Nat.le_refl _) (Nat.le_refl _))
    have HR := Lib.hid (LnR.own how5)
    clear how5 hgr5 hnv0 HO HSRC hob h1c hen
    go_wp2
    go_ret
    exact ⟨⟨_, rfl, HR.out⟩, HB5.out⟩
theorem afRet {P : Program} {fn : Func} {R : Ending → World → Prop} {a : Act} {w : World} (t : Nat) (T : TypeId) (g : Nat) (vs : List Value) {d : TypeDesc} (hr : fn.results = #[.cell t T]) (ht : a.tmps.getD t undef = .pointer (some ⟨g, 0, none⟩)) (hc : w.rangeAt g 0 vs) (hu : P.underlying T = some d) (hd : d.isRow = true) (hi : (P.info? T).map (·.size) = some vs.length) (h0 : a.defers = []) (hR : R (.returned (.agg vs.toArray)) w) : bodyPost P fn R .ret a w := by
  refine bodyPost_ret (v := .agg vs.toArray) ?_ h0 hR
  have ht' : a.tmps[t]?.getD undef = .pointer (some ⟨g, 0, none⟩) := by rw [← Array.getD_eq_getD_getElem?]; exact ht
  simp [results, hr, ht', asAddr, run_loadVar_mid w g 0 T vs d hc hu hd hi]
/-- the lines of a widget lie from lo on -/
structure RdW (lo : Nat) (w : World) (p : Nr) : Prop where
  c : LnW lo w p.ca p.n.cs
  cl : p.n.cs.length ≤ p.cc
  r : LnW lo w p.ra p.n.rs
  rl : p.n.rs.length ≤ p.rc
theorem RdW.v {lo : Nat} {w : World} {p : Nr} (h : RdW lo w p) : RdN w p := ⟨h.c.v, h.cl, h.r.v, h.rl⟩
theorem RdW.keep {lo : Nat} {w w' : World} {p : Nr} (h : RdW lo w p) (hb : Below w.heap.size w w') : RdW lo w' p := ⟨h.c.keep hb, h.cl, h.r.keep hb, h.rl⟩
theorem RdW.mono {lo lo' : Nat} {w : World} {p : Nr} (h : RdW lo w p) (hl : lo' ≤ lo) : RdW lo' w p := ⟨h.c.mono hl, h.cl, h.r.mono hl, h.rl⟩
theorem RdW.sets {lo g : Nat} {w : World} {p : Nr} (h : RdW lo w p) (hg : g < lo) (o : Nat) (vs : List Value) : RdW lo (w.setCells g o vs) p := ⟨h.c.same (fun k hk _ => heap_setCells_ne (by omega) _ _ _) (by rw [size_setCellsT]; exact Nat.le_refl _), h.cl, h.r.same (fun k hk _ => heap_setCells_ne (by omega) _ _ _) (by rw [size_setCellsT]; exact Nat.le_refl _), h.rl⟩
theorem RdW.set {lo g : Nat} {w : World} {p : Nr} (h : RdW lo w p) (hg : g < lo) (o : Nat) (v : Value) : RdW lo (w.setCell ⟨g, o, none⟩ v) p := ⟨h.c.set hg v, h.cl, h.r.set hg v, h.rl⟩
/-- the node with lines of its own -/
def zeroNrF : Nr := ⟨⟨0, 0, 0, false, 0, [], [], ⟨0, 0, 0, false, false, false, 0, 0, 0⟩, ⟨0, 0, 0, 0, 0, 0, 0, 0, 0⟩, ⟨0, 0, 0, 0, 0, 0, 0, 0, 0⟩⟩, none, 0, none, 0⟩
def reN (p : Nr) (a : Option Addr) (ac : Nat) (b : Option Addr) (bc : Nat) : Nr := ⟨p.n, a, ac, b, bc⟩
theorem af_full {w : World} {g : Nat} {p : Nr} {T : TypeId} (h : w.heap[g]? = some (.cells (valsNr p).toArray T (0, 0))) (a : Option Addr) (ac : Nat) (b : Option Addr) (bc : Nat) : ((w.setCell ⟨g, 5, none⟩ (.slice a p.n.cs.length ac)).setCell ⟨g, 6, none⟩ (.slice b p.n.rs.length bc)).heap[g]? = some (.cells (valsNr (reN p a ac b bc)).toArray T (0, 0)) := putS (putS h _) _
set_option maxRecDepth 100000 in
theorem copied_v (p : Nr) (w : World) (h : RdN w p) (m1 : p.n.cs.length ≤ 1048576) (m2 : p.n.rs.length ≤ 1048576) :
    Calls Tryz.prog 82 #[.agg (valsNr p).toArray] w fun e w' => (∃ q : Nr, e = .returned (.agg (valsNr q).toArray) ∧ q.n = p.n ∧ RdW w.heap.size w' q) ∧ Below w.heap.size w w' := by
  have HD := Lib.hid h
  clear h
  go_enter Tryz.func82, Tryz.ntmps82
  go_upto_region 1 with fail
  refine wp_genGG (fun W => W.heap[w.heap.size]? = some (.cells (valsNr p).toArray 38 (0, 0)) ∧ (∃ z : Array Value, W.heap[w.heap.size + 1]? = some (.cells z 38 (0, 0)) ∧ z.size = 34) ∧ Below w.heap.size w W) ⟨(Below.heap_alloc _ _ _ (by simp)).trans (newS _ _), ⟨_, by have := newS (w.alloc (.cells (valsNr p).toArray 38)) (.cells (valsNr zeroNrF).toArray 38); rw [World.size_alloc] at this; exact this, rfl⟩, (balloc (Below.refl _ _)).trans ((balloc (Below.refl _ _)).mono (by simp))⟩ (fun W1 h1 => ?_)
  obtain ⟨hn, ⟨z, hz, hzs⟩, hb⟩ := h1
  have hw1 : w.heap.size + 2 ≤ W1.heap.size := ltS hz
  have HN := Lib.hid hn
  have HZ := Lib.hid hz
  have HB := Lib.hid hb
  replace HD := Lib.hid (HD.out.keep hb)
  have x5 : W1.cell? ⟨w.heap.size, 5, none⟩ = some (.slice p.ca p.n.cs.length p.cc) := cellS hn 5
  have x6 : W1.cell? ⟨w.heap.size, 6, none⟩ = some (.slice p.ra p.n.rs.length p.rc) := cellS hn 6
  have lx := ltS hn
  clear hn hz hb
  refine wp_region_any (by kernel_rfl) ?_
  refine wpAny_rxp 7 3 #[true, true, true, true, true, true, true, false, false, false] (by kernel_rfl) (by kernel_rfl) (XV (.pointer (some ⟨w.heap.size, 5, none⟩)) :: XV (.slice p.ca p.n.cs.length p.cc) :: (fun v z => LnR (w.heap.size + 2) z v p.n.cs) :: XV (.pointer (some ⟨w.heap.size, 6, none⟩)) :: XV (.slice p.ra p.n.rs.length p.rc) :: (fun v z => LnR (w.heap.size + 2) z v p.n.rs) :: XV (.pointer (some ⟨w.heap.size, 5, none⟩)) :: []) (by kernel_rfl) (by kernel_rfl) ?hTs ?hops ?hfin
  case hTs =>
    intro T hT
    simp only [List.mem_cons, List.not_mem_nil, or_false] at hT
    rcases hT with rfl | rfl | rfl | rfl | rfl | rfl | rfl <;> first | exact stay_V _ | exact stay_T | exact stay_of (fun v a b x g => x.keep g) | exact stay_of (fun v a b x g => x)
  case hops =>
    refine ⟨opOK_rx [(1, none)] (by kernel_rfl) rfl ?_, ?_⟩
    · intro act w' hw' h1
      have hk : ∀ v, act.eval (.const v) = v := fun _ => rfl
      have hf : ∀ f, act.eval (.func f) = .func (.func f) #[] #[] := fun _ => rfl
      generalize act.eval = ρ at *
      replace h1 : ρ (.tmp 1) = .pointer (some ⟨w.heap.size, 0, none⟩) := h1
      refine gx_gen (fun K hK => ?_)
      obtain ⟨hc, hf'⟩ := bcell (bdrewn hw'.out)
      go_simp
      exact hK _ _ ⟨rfl, Gr.refl _⟩
    refine ⟨opOK_rx [(3, some 0)] (by kernel_rfl) rfl ?_, ?_⟩
    · intro act w' hw' h1
      have hk : ∀ v, act.eval (.const v) = v := fun _ => rfl
      have hf : ∀ f, act.eval (.func f) = .func (.func f) #[] #[] := fun _ => rfl
      generalize act.eval = ρ at *
      replace h1 : ρ (.tmp 3) = .pointer (some ⟨w.heap.size, 5, none⟩) := h1
      refine gx_gen (fun K hK => ?_)
      obtain ⟨hc, hf'⟩ := bcell (bdrewn hw'.out)
      go_simp
      exact hK _ _ ⟨rfl, Gr.refl _⟩
    refine ⟨opOK_rx [(4, some 1)] (by kernel_rfl) rfl ?_, ?_⟩
    · intro act w' hw' h1
      have hk : ∀ v, act.eval (.const v) = v := fun _ => rfl
      have hf : ∀ f, act.eval (.func f) = .func (.func f) #[] #[] := fun _ => rfl
      generalize act.eval = ρ at *
      replace h1 : ρ (.tmp 4) = .slice p.ca p.n.cs.length p.cc := h1
      refine gx_gen (fun K hK => ?_)
      obtain ⟨hc, hf'⟩ := bcell (bdrewn hw'.out)
      go_simp
      (refine (cloneLn_v p.ca p.cc _ p.n.cs _ (HD.out.c.keep (bdrewn hw'.out)) rfl m1).mono ?_); rintro e w1 ⟨⟨v, rfl, hv⟩, hb1⟩; exact ⟨_, rfl, hK _ _ ⟨hv.mono (Nat.le_trans hw1 (bdrewn hw'.out).size), hb1⟩⟩
    refine ⟨opOK_rx [(1, none)] (by kernel_rfl) rfl ?_, ?_⟩
    · intro act w' hw' h1
      have hk : ∀ v, act.eval (.const v) = v := fun _ => rfl
      have hf : ∀ f, act.eval (.func f) = .func (.func f) #[] #[] := fun _ => rfl
      generalize act.eval = ρ at *
      replace h1 : ρ (.tmp 1) = .pointer (some ⟨w.heap.size, 0, none⟩) := h1
      refine gx_gen (fun K hK => ?_)
      obtain ⟨hc, hf'⟩ := bcell (bdrewn hw'.out)
      go_simp
      exact hK _ _ ⟨rfl, Gr.refl _⟩
    refine ⟨opOK_rx [(6, some 3)] (by kernel_rfl) rfl ?_, ?_⟩
    · intro act w' hw' h1
      have hk : ∀ v, act.eval (.const v) = v := fun _ => rfl
      have hf : ∀ f, act.eval (.func f) = .func (.func f) #[] #[] := fun _ => rfl
      generalize act.eval = ρ at *
      replace h1 : ρ (.tmp 6) = .pointer (some ⟨w.heap.size, 6, none⟩) := h1
      refine gx_gen (fun K hK => ?_)
      obtain ⟨hc, hf'⟩ := bcell (bdrewn hw'.out)
      go_simp
      exact hK _ _ ⟨rfl, Gr.refl _⟩
    refine ⟨opOK_rx [(7, some 4)] (by kernel_rfl) rfl ?_, ?_⟩
    · intro act w' hw' h1
      have hk : ∀ v, act.eval (.const v) = v := fun _ => rfl
      have hf : ∀ f, act.eval (.func f) = .func (.func f) #[] #[] := fun _ => rfl
      generalize act.eval = ρ at *
      replace h1 : ρ (.tmp 7) = .slice p.ra p.n.rs.length p.rc := h1
      refine gx_gen (fun K hK => ?_)
      obtain ⟨hc, hf'⟩ := bcell (bdrewn hw'.out)
      go_simp
      (refine (cloneLn_v p.ra p.rc _ p.n.rs _ (HD.out.r.keep (bdrewn hw'.out)) rfl m2).mono ?_); rintro e w1 ⟨⟨v, rfl, hv⟩, hb1⟩; exact ⟨_, rfl, hK _ _ ⟨hv.mono (Nat.le_trans hw1 (bdrewn hw'.out).size), hb1⟩⟩
    refine ⟨opOK_rx [(1, none)] (by kernel_rfl) rfl ?_, ?_⟩
    · intro act w' hw' h1
      have hk : ∀ v, act.eval (.const v) = v := fun _ => rfl
      have hf : ∀ f, act.eval (.func f) = .func (.func f) #[] #[] := fun _ => rfl
      generalize act.eval = ρ at *
      replace h1 : ρ (.tmp 1) = .pointer (some ⟨w.heap.size, 0, none⟩) := h1
      refine gx_gen (fun K hK => ?_)
      obtain ⟨hc, hf'⟩ := bcell (bdrewn hw'.out)
      go_simp
      exact hK _ _ ⟨rfl, Gr.refl _⟩
    exact trivial
  case hfin =>
    intro w1 hg1
    intro v3 t3
    replace t3 : v3 = .pointer (some ⟨w.heap.size, 5, none⟩) := t3
    subst t3
    intro v4 t4
    replace t4 : v4 = .slice p.ca p.n.cs.length p.cc := t4
    subst t4
    intro v5 t5
    replace t5 : (fun v z => LnR (w.heap.size + 2) z v p.n.cs) v5 w1 := t5
    intro v6 t6
    replace t6 : v6 = .pointer (some ⟨w.heap.size, 6, none⟩) := t6
    subst t6
    intro v7 t7
    replace t7 : v7 = .slice p.ra p.n.rs.length p.rc := t7
    subst t7
    intro v8 t8
    replace t8 : (fun v z => LnR (w.heap.size + 2) z v p.n.rs) v8 w1 := t8
    intro v9 t9
    replace t9 : v9 = .pointer (some ⟨w.heap.size, 5, none⟩) := t9
    subst t9
    have hb1 := bdrewn hg1.out
    clear hg1
    simp only [finP, List.take_succ_cons, List.take_zero, Act.put, List.setIfInBounds_toArray, List.set_cons_succ, List.set_cons_zero]
    obtain ⟨a, ac, rfl, la, lac⟩ := t5
    obtain ⟨b, bc, rfl, lb, lbc⟩ := t8
    replace HN := Lib.hid ((hb1.block _ lx).trans HN.out)
    replace HZ := Lib.hid ((hb1.block _ (ltS HZ.out)).trans HZ.out)
    replace HB := Lib.hid (bkeep2 HB.out hb1)
    have LA := Lib.hid la
    have LB := Lib.hid lb
    have f5 := frozenS HN.out 5
    have f6 := frozenS HN.out 6
    obtain ⟨y5, z5⟩ := thereS HN.out (i := 5) (by show 5 < 34; omega)
    obtain ⟨y6, z6⟩ := thereS HN.out (i := 6) (by show 6 < 34; omega)
    clear x5 x6 la lb hb1
    refine wpAny_one (i := 7) (by kernel_rfl) rfl rfl ?_
    go_simp
    refine wpAny_one (i := 8) (by kernel_rfl) rfl rfl ?_
    go_simp
    refine wpAny_one (i := 9) (by kernel_rfl) rfl rfl ?_
    go_simp
    refine wpAny_end (by kernel_rfl) ?_
    simp only [Exit.then]
    go_step
    refine wp_genGG (fun W => W.heap[w.heap.size]? = some (.cells (valsNr (reN p a ac b bc)).toArray 38 (0, 0)) ∧ (∃ z : Array Value, W.heap[w.heap.size + 1]? = some (.cells z 38 (0, 0)) ∧ z.size = 34) ∧ LnW (w.heap.size + 2) W a p.n.cs ∧ LnW (w.heap.size + 2) W b p.n.rs ∧ Below w.heap.size w W) ⟨af_full HN.out a ac b bc, ⟨z, (Below.heap_setCell _ ⟨w.heap.size, _, none⟩ _ _ (by simp)).trans ((Below.heap_setCell _ ⟨w.heap.size, _, none⟩ _ _ (by simp)).trans HZ.out), hzs⟩, ?_, ?_, (HB.out.setCell (p := ⟨w.heap.size, _, none⟩) (by simp) _).setCell (p := ⟨w.heap.size, _, none⟩) (by simp) _⟩ (fun W2 h2 => ?_)
    · exact (LA.out.set (by omega) _).set (by omega) _
    · exact (LB.out.set (by omega) _).set (by omega) _
    obtain ⟨hn, ⟨z, hz, hzs⟩, hl1, hl2, hb⟩ := h2
    have HN := Lib.hid hn
    have HZ := Lib.hid hz
    have HL1 := Lib.hid hl1
    have HL2 := Lib.hid hl2
    have HB := Lib.hid hb
    clear hn hz hl1 hl2 hb f5 f6 y5 z5 y6 z6 LA LB
    go_wp2_with (first | (refine ldN _ (reN p a ac b bc) w.heap.size 0 rfl rfl rfl (nodeAt HN.out) ?_) | (refine stN (.tmp 2) (.tmp 11) (reN p a ac b bc) (w.heap.size + 1) 0 rfl rfl rfl rfl HZ.out (by rw [hzs]; omega) ?_))
    have hbf := below_setCells (B := w.heap.size) (g := w.heap.size + 1) (by omega) (valsNr (reN p a ac b bc)) 0 _ HB.out
    have hth : W2.there (w.heap.size + 1) 0 (valsNr (reN p a ac b bc)).length := thereB HZ.out (by rw [hzs]; show 0 + 34 ≤ 34; omega)
    have hkl : ∀ {X : Option Addr} {L : List Ln}, LnW (w.heap.size + 2) W2 X L → LnW w.heap.size (W2.setCells (w.heap.size + 1) 0 (valsNr (reN p a ac b bc))) X L := fun h => (h.same (fun k hk _ => heap_setCells_ne (by omega) _ _ _) (by rw [size_setCellsT]; exact Nat.le_refl _)).mono (by omega)
    refine afRet 2 38 (w.heap.size + 1) (valsNr (reN p a ac b bc)) Tryz.results82 rfl (World.rangeAt_setCells_same _ _ _ _ hth) Tryz.underlying38 rfl (by rw [valsNr_len]; kernel_rfl) rfl ⟨⟨_, rfl, rfl, ⟨hkl HL1.out, lac, hkl HL2.out, lbc⟩⟩, hbf⟩
end Go.Proofs.YtgdkionmeacalabGreat
end
section
namespace Go.Proofs.YtgdkionmeacalabGreat
open Go Go.RowKit
set_option linter.unusedVariables false
set_option linter.unusedSimpArgs false
set_option maxHeartbeats 4000000
/-- the nodes made so far -/
def PtN (w : World) (g n : Nat) (S : List Nr) : Prop := ∃ cs : Array Value, w.heap[g]? = some (.cells cs 38 (0, 0)) ∧ cs.size = n * 34 ∧ ∀ i q, S[i]? = some q → InS cs (i * 34) (valsNr q)
theorem stCells {w : World} {b o : Nat} {q : Nr} {cs : Array Value} {T : TypeId} (h : w.heap[b]? = some (.cells cs T (0, 0))) (hn : o + 34 ≤ cs.size) : (storeCells ⟨b, o, none⟩ (valsNr q)).run Tryz.prog w = .ok () (w.setCells b o (valsNr q)) := by
  have ht : w.there b o 34 := thereB h hn
  have := run_storeCells_cells (P := Tryz.prog) b o (valsNr q) 0 w (fun j hj => by rw [valsNr_len] at hj; simpa using (ht j hj).1) (fun j hj => by rw [valsNr_len] at hj; simpa using (ht j hj).2) (valsNr_one q)
  simpa using this
theorem PtN.lt {w : World} {g n : Nat} {S : List Nr} (h : PtN w g n S) : g < w.heap.size := by obtain ⟨cs, hh, _⟩ := h; exact ltS hh
theorem PtN.keep {w w' : World} {g n : Nat} {S : List Nr} (h : PtN w g n S) (hb : Below w.heap.size w w') : PtN w' g n S := by
  obtain ⟨cs, hh, r⟩ := h
  exact ⟨cs, (hb.block g (ltS hh)).trans hh, r⟩
theorem PtN.snoc {w : World} {g n k : Nat} {S : List Nr} (h : PtN w g n S) (hk : S.length = k) (hn : k < n) (q : Nr) : PtN (w.setCells g (k * 34) (valsNr q)) g n (S ++ [q]) := by
  obtain ⟨cs, hh, hs, hc⟩ := h
  have e : (k + 1) * 34 ≤ n * 34 := Nat.mul_le_mul_right 34 hn
  refine ⟨_, heap_setCells _ (k * 34) _ _ hh, by rw [wrAt_size, hs], fun i u hu => ?_⟩
  by_cases hi : i < S.length
  · rw [List.getElem?_append_left hi] at hu
    exact (hc i u hu).keepS (.inl (by rw [valsNr_len]; omega))
  · rw [List.getElem?_append_right (by omega)] at hu
    have h0 := (List.getElem?_eq_some_iff.1 hu).1
    simp at h0
    have hik : i = k := by omega
    subst hik
    have : i - S.length = 0 := by omega
    rw [this] at hu
    obtain rfl := Option.some.inj hu
    exact InS.write (by rw [valsNr_len, hs]; omega)
theorem map_snocN {R S : List Nr} {k : Nat} {p q : Nr} (h : S.map Nr.n = (R.take k).map Nr.n) (hp : R[k]? = some p) (hq : q.n = p.n) : (S ++ [q]).map Nr.n = (R.take (k + 1)).map Nr.n := by
  have hk := (List.getElem?_eq_some_iff.1 hp).1
  rw [List.map_append, h, List.take_add_one, hp, List.map_append]
  simp [hq]
set_option maxRecDepth 100000 in
theorem each_copied (A : Option Addr) (c n : Nat) (R : List Nr) (w : World) (h : NrV w A R) (hr : RdR w R) (hn : n = R.length) (hL : n ≤ 1048576) (hm : ∀ p ∈ R, p.n.cs.length ≤ 1048576 ∧ p.n.rs.length ≤ 1048576) :
    Calls Tryz.prog 81 #[.slice A n c, .func (.func 82) #[] #[]] w fun e w' => (∃ g S, e = .returned (.slice (some ⟨g, 0, none⟩) n n) ∧ w.heap.size ≤ g ∧ PtN w' g n S ∧ S.map Nr.n = R.map Nr.n ∧ ∀ q ∈ S, RdW (g + 1) w' q) ∧ Below w.heap.size w w' := by
  obtain ⟨fm, hfm, hmk0⟩ := madeK 23 38 34 (by omega) Tryz.underlying23 (by kernel_rfl)
  have hmk := fun w => hmk0 n w hL
  have HFM := Lib.hid hfm
  have HV := Lib.hid h
  have HR := Lib.hid hr
  have HN := Lib.hid hn
  have HM := Lib.hid hm
  clear hmk0 hfm h hr hm hn
  go_enter Tryz.func81, Tryz.ntmps81
  go_wp2_with fail
  clear hmk
  go_loopw [13] (fun i wr => ∃ (k : Nat) (S : List Nr), k ≤ n ∧ i = .int .i64 (k : Int) ∧ S.map Nr.n = (R.take k).map Nr.n ∧ S.length = k ∧ PtN wr w.heap.size n S ∧ (∀ q ∈ S, RdW (w.heap.size + 1) wr q) ∧ Below w.heap.size w wr) (fun i _ => n - (intOf i).toNat)
  case atStart => exact ⟨0, [], by omega, rfl, rfl, rfl, ⟨_, newS _ _, HFM.out n, fun i q hq => by simp at hq⟩, fun q hq => by simp at hq, balloc (Below.refl _ _)⟩
  case round =>
    obtain ⟨k, S, hk, rfl, hS, hl, hP, hW, hB⟩ := hrel
    have HS := Lib.hid hS
    have HP := Lib.hid hP
    have HW := Lib.hid hW
    have HB := Lib.hid hB
    have HSL := Lib.hid hl
    clear hS hP hW hB hl
    by_cases hlt : k < n
    · have hd : decide ((k : Int) < (n : Int)) = true := by simpa using hlt
      have hkn : (k : Int) < (n : Int) := by omega
      have hkr : k < R.length := by have := HN.out; omega
      have hget : R[k]? = some R[k] := List.getElem?_eq_getElem hkr
      obtain ⟨b, off, rfl, hb, hp⟩ := HV.out.cells (by have := HN.out; omega)
      have hLR := rangeB (hp k _ hget) (HB.out.block b hb)
      have hrd := (HR.out _ (List.mem_of_getElem? hget)).keep HB.out
      have hmm := HM.out _ (List.mem_of_getElem? hget)
      generalize R[k] = p at *
      obtain ⟨m1, m2⟩ := hmm
      have HLR := Lib.hid hLR
      have HD := Lib.hid hrd
      have HG := Lib.hid hget
      have lw := HP.out.lt
      clear hLR hrd hget hp
      go_upto_region 5 with (first | (refine ldN _ p b (off + k * 34) rfl rfl rfl HLR.out ?_) | (refine stN (.tmp 7) (.tmp 17) p wr.heap.size 0 rfl rfl rfl rfl (newS _ _) (by show (0 + 34 : Nat) ≤ 34; omega) ?_))
      refine wp_genGG (fun W => W.heap[wr.heap.size]? = some (.cells (valsNr p).toArray 38 (0, 0)) ∧ Below wr.heap.size wr W) ⟨new_full p rfl rfl, below_setCells (Nat.le_refl _) _ _ _ (balloc (Below.refl _ _))⟩ (fun W h0 => ?_)
      obtain ⟨hnn, hbb⟩ := h0
      have HNN := Lib.hid hnn
      have lw1 : w.heap.size < W.heap.size := Nat.lt_of_lt_of_le lw hbb.size
      replace HP := Lib.hid (HP.out.keep hbb)
      replace HW := Lib.hid (show ∀ q ∈ S, RdW (w.heap.size + 1) W q from fun q hq => (HW.out q hq).keep hbb)
      replace HD := Lib.hid (HD.out.keep hbb)
      replace HB := Lib.hid (bkeep2 HB.out hbb)
      clear hnn hbb HLR hd
      go_wp2_with (refine ldN _ p wr.heap.size 0 rfl rfl rfl (nodeAt HNN.out) ?_)
      with_reducible refine (copied_v p _ HD.out m1 m2).mono ?_
      rintro e W2 ⟨⟨q, rfl, hqn, hqd⟩, hb2⟩
      replace HP := Lib.hid (HP.out.keep hb2)
      replace HW := Lib.hid (show ∀ q ∈ S, RdW (w.heap.size + 1) W2 q from fun q hq => (HW.out q hq).keep hb2)
      replace HB := Lib.hid (bkeep2 HB.out hb2)
      have HQ := Lib.hid (hqd.mono (lo' := w.heap.size + 1) lw1)
      have HQN := Lib.hid hqn
      clear hb2 hqd hqn HNN
      obtain ⟨cs, hcs, hss⟩ : ∃ cs : Array Value, W2.heap[w.heap.size]? = some (.cells cs 38 (0, 0)) ∧ cs.size = n * 34 := let ⟨cs, a, b, _⟩ := HP.out; ⟨cs, a, b⟩
      have HCS := Lib.hid hcs
      have hle : k * 34 + 34 ≤ cs.size := by rw [hss]; omega
      have HLE := Lib.hid hle
      clear hcs hss hle
      have hst := stCells (q := q) HCS.out HLE.out
      go_wp2_with fail
      clear hst
      have hP2 := HP.out.snoc HSL.out hlt q
      have hW2 : ∀ u ∈ S ++ [q], RdW (w.heap.size + 1) (W2.setCells w.heap.size (k * 34) (valsNr q)) u := fun u hu => by
        rcases List.mem_append.1 hu with hu | hu
        · exact (HW.out u hu).sets (by omega) _ _
        · obtain rfl := List.mem_singleton.1 hu
          exact HQ.out.sets (by omega) _ _
      have hB2 : Below w.heap.size w (W2.setCells w.heap.size (k * 34) (valsNr q)) := below_setCells (Nat.le_refl _) _ _ _ HB.out
      have hl2 : (S ++ [q]).length = k + 1 := by rw [List.length_append, HSL.out]; rfl
      have hm2 := map_snocN HS.out HG.out HQN.out
      have HP2 := Lib.hid hP2
      have HW2 := Lib.hid hW2
      have HB2 := Lib.hid hB2
      have HL2 := Lib.hid hl2
      have HM2 := Lib.hid hm2
      clear hP2 hW2 hB2 hl2 hm2 HP HW HB HCS
      go_wp2
      go_roundw
      case rel => exact ⟨k + 1, S ++ [q], by omega, by go_num, HM2.out, HL2.out, HP2.out, HW2.out, HB2.out⟩
      case measure => simp [intOf]; omega
    · have hd : decide ((k : Int) < (n : Int)) = false := decide_eq_false (by omega)
      obtain rfl : k = n := by omega
      go_wp2
      go_ret
      exact ⟨⟨_, S, rfl, Nat.le_refl _, HP.out, by rw [HS.out, HN.out, List.take_length], HW.out⟩, HB.out⟩
end Go.Proofs.YtgdkionmeacalabGreat
end
section
namespace Go.Proofs.YtgdkionmeacalabGreat
open Go Go.RowKit
set_option linter.unusedVariables false
set_option linter.unusedSimpArgs false
set_option maxHeartbeats 4000000
attribute [local go_sem] growUpon_value growUpon_skip growUpon_enter
def wishD (n : Nd) (u v : Int) : Nd := { n with ww := u, hh := v }
def askM (L : List Nd) (j : Nat) (u v : Int) : List Nd := match L[j]? with
  | some n => L.set j (wishD n u v)
  | none => L
theorem askM_at {L : List Nd} {j : Nat} {n : Nd} {u v : Int} (h : L[j]? = some n) : askM L j u v = L.set j (wishD n u v) := by unfold askM; rw [h]
theorem askM_len (L : List Nd) (j : Nat) (u v : Int) : (askM L j u v).length = L.length := by
  unfold askM
  split
  · rw [List.length_set]
  · rfl
def wishR (p : Nr) (u v : Int) : Nr := { p with n := wishD p.n u v }
theorem wish_cells {cs : Array Value} {o : Nat} {p : Nr} (h : InS cs o (valsNr p)) (hs : o + 34 ≤ cs.size) (u v : Int) : InS ((cs.setIfInBounds (o + 1) (.int .i64 u)).setIfInBounds (o + 2) (.int .i64 v)) o (valsNr (wishR p u v)) := fun m x hm => by
  match m with
  | 0 => rw [Array.getElem?_setIfInBounds_ne (by omega), Array.getElem?_setIfInBounds_ne (by omega)]; exact h 0 x hm
  | 1 =>
    rw [Array.getElem?_setIfInBounds_ne (by omega), Array.getElem?_setIfInBounds_self_of_lt (by omega)]
    exact hm
  | 2 =>
    rw [Array.getElem?_setIfInBounds_self_of_lt (by rw [Array.size_setIfInBounds]; omega)]
    exact hm
  | m + 3 =>
    rw [Array.getElem?_setIfInBounds_ne (by omega), Array.getElem?_setIfInBounds_ne (by omega)]
    exact h (m + 3) x hm
theorem PtN.wish {w : World} {g n j : Nat} {S : List Nr} {q : Nr} (h : PtN w g n S) (hq : S[j]? = some q) (hj : j < n) (u v : Int) : PtN ((w.setCell ⟨g, j * 34 + 1, none⟩ (.int .i64 u)).setCell ⟨g, j * 34 + 2, none⟩ (.int .i64 v)) g n (S.set j (wishR q u v)) := by
  obtain ⟨cs, hh, hs, hc⟩ := h
  have e : (j + 1) * 34 ≤ n * 34 := Nat.mul_le_mul_right 34 hj
  refine ⟨_, putS (putS hh _) _, by rw [Array.size_setIfInBounds, Array.size_setIfInBounds, hs], fun i r hr => ?_⟩
  by_cases hi : i = j
  · subst hi
    rw [List.getElem?_set_self (List.getElem?_eq_some_iff.1 hq).1] at hr
    obtain rfl := Option.some.inj hr
    exact wish_cells (hc i q hq) (by omega) u v
  · rw [List.getElem?_set_ne (fun e => hi e.symm)] at hr
    intro m x hm
    have hml := (List.getElem?_eq_some_iff.1 hm).1
    rw [valsNr_len] at hml
    rw [Array.getElem?_setIfInBounds_ne (by omega), Array.getElem?_setIfInBounds_ne (by omega)]
    exact hc i r hr m x hm
theorem PtN.there {w : World} {g n j o : Nat} {S : List Nr} (h : PtN w g n S) (hj : j < n) (ho : o < 34) : (∃ v, w.cell? ⟨g, j * 34 + o, none⟩ = some v) ∧ w.frozen? ⟨g, j * 34 + o, none⟩ = false := by
  obtain ⟨cs, hh, hs, _⟩ := h
  have e : (j + 1) * 34 ≤ n * 34 := Nat.mul_le_mul_right 34 hj
  exact ⟨thereS hh (by omega), frozenS hh _⟩
theorem PtN.v {w : World} {g n : Nat} {S : List Nr} (h : PtN w g n S) : NrV w (some ⟨g, 0, none⟩) S := by
  obtain ⟨cs, hh, hs, hc⟩ := h
  refine ⟨fun _ => ⟨g, 0, rfl, ltS hh, fun i p hp j v hj => ?_⟩⟩
  simp only [Nat.zero_add]
  exact (cellS hh _).trans (hc i p hp j v hj)
/-- a tree of these nodes, in memory from lo on -/
def TrR (lo : Nat) (w : World) (v : Value) (L : List Nd) : Prop := ∃ (A : Option Addr) (c : Nat) (S : List Nr), v = .agg #[.slice A S.length c] ∧ (0 < S.length → ∃ b off, A = some ⟨b, off, none⟩ ∧ lo ≤ b ∧ b < w.heap.size ∧ ∀ i p, S[i]? = some p → w.rangeAt b (off + i * 34) (valsNr p)) ∧ (∀ q ∈ S, RdW lo w q) ∧ S.map Nr.n = L
theorem TrR.same {lo : Nat} {w w' : World} {v : Value} {L : List Nd} (h : TrR lo w v L) (hs : ∀ b, lo ≤ b → b < w.heap.size → w'.heap[b]? = w.heap[b]?) (hl : w.heap.size ≤ w'.heap.size) : TrR lo w' v L := by
  obtain ⟨A, c, S, e, h1, h2, h3⟩ := h
  refine ⟨A, c, S, e, fun h0 => ?_, fun q hq => ⟨(h2 q hq).c.same hs hl, (h2 q hq).cl, (h2 q hq).r.same hs hl, (h2 q hq).rl⟩, h3⟩
  obtain ⟨b, off, e, l1, l2, hp⟩ := h1 h0
  exact ⟨b, off, e, l1, by omega, fun i p hi => rangeB (hp i p hi) (hs b l1 l2)⟩
theorem TrR.keep {lo : Nat} {w w' : World} {v : Value} {L : List Nd} (h : TrR lo w v L) (hb : Below w.heap.size w w') : TrR lo w' v L := h.same (fun b _ hl => hb.block b hl) hb.size
theorem TrR.set {lo g o : Nat} {w : World} {v x : Value} {L : List Nd} (h : TrR lo w v L) (hg : g < lo) : TrR lo (w.setCell ⟨g, o, none⟩ x) v L := h.same (fun b h1 _ => Below.heap_setCell _ ⟨g, o, none⟩ _ _ (by simp; omega)) (by simp [World.setCell])
theorem TrR.mono {lo lo' : Nat} {w : World} {v : Value} {L : List Nd} (h : TrR lo w v L) (hl : lo' ≤ lo) : TrR lo' w v L := by
  obtain ⟨A, c, S, e, h1, h2, h3⟩ := h
  exact ⟨A, c, S, e, fun h0 => let ⟨b, off, e, l1, l2⟩ := h1 h0; ⟨b, off, e, by omega, l2⟩, fun q hq => (h2 q hq).mono hl, h3⟩
theorem TrR.open {lo : Nat} {w : World} {v : Value} {L : List Nd} (h : TrR lo w v L) : ∃ (A : Option Addr) (c : Nat) (S : List Nr), v = .agg #[.slice A S.length c] ∧ NrV w A S ∧ RdR w S ∧ S.map Nr.n = L := by
  obtain ⟨A, c, S, e, h1, h2, h3⟩ := h
  exact ⟨A, c, S, e, ⟨fun h0 => let ⟨b, off, e, l1, l2, hp⟩ := h1 h0; ⟨b, off, e, l2, hp⟩⟩, fun q hq => (h2 q hq).v, h3⟩
theorem PtN.tree {w : World} {lo g n : Nat} {S : List Nr} {L : List Nd} (h : PtN w g n S) (hg : lo ≤ g) (hn : S.length = n) (hr : ∀ q ∈ S, RdW lo w q) (hL : S.map Nr.n = L) : TrR lo w (.agg #[.slice (some ⟨g, 0, none⟩) n n]) L := by
  subst hn
  obtain ⟨cs, hh, hs, hc⟩ := h
  refine ⟨some ⟨g, 0, none⟩, S.length, S, rfl, fun _ => ⟨g, 0, rfl, hg, ltS hh, fun i p hp j v hj => ?_⟩, hr, hL⟩
  simp only [Nat.zero_add]
  exact (cellS hh _).trans (hc i p hp j v hj)
theorem map_wish {R S : List Nr} (h : S.map Nr.n = R.map Nr.n) {j : Nat} {q : Nr} (hq : S[j]? = some q) (u v : Int) : (S.set j (wishR q u v)).map Nr.n = askM (R.map Nr.n) j u v := by
  rw [askM_at (n := q.n) (by rw [← h, List.getElem?_map, hq]; rfl), ← h, List.map_set]
  rfl
set_option maxRecDepth 100000 in
theorem asking_v (A : Option Addr) (c k : Nat) (R : List Nr) (j : Nat) (u v : Int) (w : World) (hk : k = R.length) (h : NrV w A R) (hr : RdR w R) (hL : R.length ≤ 1048576) (hm : ∀ p ∈ R, p.n.cs.length ≤ 1048576 ∧ p.n.rs.length ≤ 1048576) (hj : j < R.length) :
    Calls Tryz.prog 59 #[.agg #[.slice A k c], .int .i64 j, .int .i64 u, .int .i64 v] w fun e w' => (∃ x, e = .returned x ∧ TrR w.heap.size w' x (askM (R.map Nr.n) j u v)) ∧ Below w.heap.size w w' := by
  have hB0 : Below w.heap.size w ((w.alloc (.cells #[.slice A k c] 25 (0, 0))).alloc (.cells #[.slice none 0 0] 25 (0, 0))) := (balloc (Below.refl _ _)).trans ((balloc (Below.refl _ _)).mono (by simp))
  have HX := Lib.hid (show ((w.alloc (.cells #[.slice A k c] 25 (0, 0))).alloc (.cells #[.slice none 0 0] 25 (0, 0))).heap[w.heap.size]? = some (.cells #[.slice A k c] 25 (0, 0)) from (Below.heap_alloc _ _ _ (by simp)).trans (newS _ _))
  have HY := Lib.hid (show ((w.alloc (.cells #[.slice A k c] 25 (0, 0))).alloc (.cells #[.slice none 0 0] 25 (0, 0))).heap[w.heap.size + 1]? = some (.cells #[.slice none 0 0] 25 (0, 0)) from by have := newS (w.alloc (.cells #[.slice A k c] 25 (0, 0))) (.cells #[.slice none 0 0] 25 (0, 0)); rw [World.size_alloc] at this; exact this)
  have HB := Lib.hid hB0
  have HV := Lib.hid (h.keep hB0)
  have HR := Lib.hid (hr.keep hB0)
  have HM := Lib.hid hm
  have HK := Lib.hid hk
  have x0 := cellS HX.out 0
  have hkl : k ≤ 1048576 := by omega
  clear hB0 h hr hm hk
  go_enter Tryz.func59, Tryz.ntmps59
  go_wp2_with fail
  with_reducible refine (each_copied A c k R _ HV.out HR.out HK.out hkl HM.out).mono ?_
  rintro e W1 ⟨⟨g, S, rfl, hg, hP, hS, hW⟩, hb⟩
  clear x0
  replace HX := Lib.hid ((hb.block _ (Array.getElem?_eq_some_iff.1 HX.out).1).trans HX.out)
  replace HY := Lib.hid ((hb.block _ (Array.getElem?_eq_some_iff.1 HY.out).1).trans HY.out)
  replace HB := Lib.hid (bkeep2 HB.out hb)
  clear hb
  have hsl : S.length = k := by have := congrArg List.length hS; rw [List.length_map, List.length_map] at this; have := HK.out; omega
  have hjk : j < k := by have := HK.out; omega
  have hjl : (j : Int) < (k : Int) := by omega
  have hq : S[j]? = some S[j] := List.getElem?_eq_getElem (by omega)
  generalize S[j] = q at *
  obtain ⟨⟨c1, y1⟩, f1⟩ := hP.there (o := 1) hjk (by omega)
  obtain ⟨⟨c2, y2⟩, f2⟩ := hP.there (o := 2) hjk (by omega)
  have lg := hP.lt
  have ly := ltS HY.out
  have hgy : w.heap.size + 2 ≤ g := by simpa using hg
  have HP := Lib.hid hP
  have HW := Lib.hid hW
  have HS := Lib.hid hS
  have HQ := Lib.hid hq
  have HSL := Lib.hid hsl
  clear hP hS hW hg hq hsl
  go_upto_region 3 with fail
  refine wp_genGG (fun W => PtN W g k (S.set j (wishR q u v)) ∧ (∀ r ∈ S, RdW (g + 1) W r) ∧ W.heap[w.heap.size + 1]? = some (.cells #[.slice none 0 0] 25 (0, 0)) ∧ Below w.heap.size w W) ⟨HP.out.wish HQ.out hjk u v, fun r hr => ((HW.out r hr).set (by omega) _ _).set (by omega) _ _, (Below.heap_setCell _ ⟨g, _, none⟩ _ _ (by simp; omega)).trans ((Below.heap_setCell _ ⟨g, _, none⟩ _ _ (by simp; omega)).trans HY.out), (HB.out.setCell (p := ⟨g, _, none⟩) (by simp; omega) _).setCell (p := ⟨g, _, none⟩) (by simp; omega) _⟩ (fun W2 h2 => ?_)
  obtain ⟨hP, hW, hY, hB⟩ := h2
  have z0 := cellS hY 0
  have fz := frozenS hY 0
  have HP2 := Lib.hid hP
  have HW2 := Lib.hid hW
  have HB2 := Lib.hid hB
  clear hP hW hY hB y1 y2 f1 f2 HP HW HB
  go_wp2
  have lg2 := HP2.out.lt
  have hTR : TrR (w.heap.size + 2) W2 (.agg #[.slice (some ⟨g, 0, none⟩) k k]) (askM (R.map Nr.n) j u v) := HP2.out.tree hgy (by rw [List.length_set, HSL.out]) (fun r hr => by
    rcases List.mem_or_eq_of_mem_set hr with hr | rfl
    · exact (HW2.out r hr).mono (by omega)
    · have := (HW2.out q (List.mem_of_getElem? HQ.out)).mono (lo' := w.heap.size + 2) (by omega)
      exact ⟨this.c, this.cl, this.r, this.rl⟩) (map_wish HS.out HQ.out u v)
  exact bodyPost_ret (v := .agg #[.slice (some ⟨g, 0, none⟩) k k]) (by simp only [results, Tryz.results59]; go_simp) rfl ⟨⟨_, rfl, (hTR.set (by omega)).mono (by omega)⟩, HB2.out.setCell (p := ⟨w.heap.size + 1, _, none⟩) (by simp) _⟩
def askB (L : List Nd) (k : Nat) (i u v : Int) : Bool := (treeB L && rng i 0 ((k : Int) - 1)) && (rng u 0 30 && rng v 0 30)
set_option maxRecDepth 100000 in
theorem AskFor_yes (A : Option Addr) (c k : Nat) (R : List Nr) (j : Nat) (u v : Int) (w : World) (hk : k = R.length) (h : NrV w A R) (hr : RdR w R) (hL : R.length ≤ 1048576) (hm : ∀ p ∈ R, p.n.cs.length ≤ 1048576 ∧ p.n.rs.length ≤ 1048576) (ht : treeB (R.map Nr.n) = true) (hj : j < R.length) (hw : (rng u 0 30 && rng v 0 30) = true) :
    Calls Tryz.prog 29 #[.agg #[.slice A k c], .int .i64 j, .int .i64 u, .int .i64 v] w fun e w' => (∃ x, e = .returned (.tuple #[x, .bool true]) ∧ TrR w.heap.size w' x (askM (R.map Nr.n) j u v)) ∧ Below w.heap.size w w' := by
  have hkl : k ≤ 1048576 := by omega
  have hB0 : Below w.heap.size w ((w.alloc (.cells #[.slice A k c] 25 (0, 0))).alloc (.cells #[.slice none 0 0] 25 (0, 0))) := (balloc (Below.refl _ _)).trans ((balloc (Below.refl _ _)).mono (by simp))
  have HX := Lib.hid (show ((w.alloc (.cells #[.slice A k c] 25 (0, 0))).alloc (.cells #[.slice none 0 0] 25 (0, 0))).heap[w.heap.size]? = some (.cells #[.slice A k c] 25 (0, 0)) from (Below.heap_alloc _ _ _ (by simp)).trans (newS _ _))
  have HY := Lib.hid (show ((w.alloc (.cells #[.slice A k c] 25 (0, 0))).alloc (.cells #[.slice none 0 0] 25 (0, 0))).heap[w.heap.size + 1]? = some (.cells #[.slice none 0 0] 25 (0, 0)) from by have := newS (w.alloc (.cells #[.slice A k c] 25 (0, 0))) (.cells #[.slice none 0 0] 25 (0, 0)); rw [World.size_alloc] at this; exact this)
  have HB := Lib.hid hB0
  have HV := Lib.hid (h.keep hB0)
  have HR := Lib.hid (hr.keep hB0)
  have HM := Lib.hid hm
  have HK := Lib.hid hk
  have HT := Lib.hid ht
  have HWI := Lib.hid hw
  have HBB := Lib.hid (show rng (j : Int) 0 ((k : Int) - 1) = true by rw [rng_iff]; omega)
  have x0 := cellS HX.out 0
  clear hB0 h hr hm hk ht hw
  go_enter Tryz.func29, Tryz.ntmps29
  go_wp2_with fail
  with_reducible refine (ValidTree_n A c k R true _ HK.out HV.out HR.out hL HM.out HT.out).mono ?_
  rintro e w1 ⟨rfl, hb⟩
  clear x0
  replace HX := Lib.hid ((hb.block _ (Array.getElem?_eq_some_iff.1 HX.out).1).trans HX.out)
  replace HY := Lib.hid ((hb.block _ (Array.getElem?_eq_some_iff.1 HY.out).1).trans HY.out)
  replace HV := Lib.hid (HV.out.keep hb)
  replace HR := Lib.hid (HR.out.keep hb)
  replace HB := Lib.hid (bkeep2 HB.out hb)
  clear hb
  have x0 := cellS HX.out 0
  go_wp2_with fail
  with_reducible refine (has_v A c k j true _ hkl HBB.out).mono ?_
  rintro e w2 ⟨rfl, hb⟩
  clear x0
  replace HX := Lib.hid ((hb.block _ (Array.getElem?_eq_some_iff.1 HX.out).1).trans HX.out)
  replace HY := Lib.hid ((hb.block _ (Array.getElem?_eq_some_iff.1 HY.out).1).trans HY.out)
  replace HV := Lib.hid (HV.out.keep hb)
  replace HR := Lib.hid (HR.out.keep hb)
  replace HB := Lib.hid (bkeep2 HB.out hb)
  clear hb
  have x0 := cellS HX.out 0
  go_wp2_with fail
  with_reducible refine (validWish_w u v true _ HWI.out).mono ?_
  rintro e w3 ⟨rfl, rfl⟩
  have hlo3 : w.heap.size + 2 ≤ w2.heap.size := ltS HY.out
  go_wp2_with fail
  with_reducible refine (asking_v A c k R j u v _ HK.out HV.out HR.out hL HM.out hj).mono ?_
  rintro e w4 ⟨⟨x, rfl, hx⟩, hb⟩
  clear x0
  replace HY := Lib.hid ((hb.block _ (Array.getElem?_eq_some_iff.1 HY.out).1).trans HY.out)
  replace HB := Lib.hid (bkeep2 HB.out hb)
  clear hb
  have y0 := cellS HY.out 0
  have fy := frozenS HY.out 0
  have ly := ltS HY.out
  have hw4 : w.heap.size + 1 < w4.heap.size := ly
  have hx2 := hx.mono (lo' := w.heap.size + 2) hlo3
  obtain ⟨A2, c2, S, rfl, -⟩ := hx.open
  have HT4 := Lib.hid hx2
  clear hx hx2
  go_wp2
  exact bodyPost_ret (v := .tuple #[.agg #[.slice A2 S.length c2], .bool true]) (by simp only [results, Tryz.results29]; go_simp) rfl ⟨⟨_, rfl, (HT4.out.set (by omega)).mono (by omega)⟩, HB.out.setCell (p := ⟨w.heap.size + 1, _, none⟩) (by simp) _⟩
end Go.Proofs.YtgdkionmeacalabGreat
end
