import Derived.Test.YtgdkionmeacalaaGreatQ25
section
namespace Go.Proofs.YtgdkionmeacalaaGreat
open Go.RowKit
theorem ValidTree_n (A : Option Addr) (c k : Nat) (R : List Nr) (b : Bool) (w : World) (hk : k = R.length) (h : NrV w A R) (hr : RdR w R) (hL : R.length ≤ 1048576) (hm : ∀ p ∈ R, p.n.cs.length ≤ 1048576 ∧ p.n.rs.length ≤ 1048576) (hb : treeB (R.map Nr.n) = b) :
    Calls Tryz.prog 29 #[.agg #[.slice A k c]] w fun e w' => e = .returned (.bool b) ∧ Below w.heap.size w w' := by
  subst hk; exact ValidTree_v A c R b w h hr hL hm hb
theorem svalidTree_n (A : Option Addr) (c k : Nat) (R : List Nr) (b : Bool) (w : World) (hk : k = R.length) (h : NrV w A R) (hr : RdR w R) (hL : R.length ≤ 1048576) (hm : ∀ p ∈ R, p.n.cs.length ≤ 1048576 ∧ p.n.rs.length ≤ 1048576) (hb : treeB (R.map Nr.n) = b) :
    Calls Tryz.prog 39 #[.agg #[.slice A k c]] w fun e w' => e = .returned (.bool b) ∧ Below w.heap.size w w' := by
  subst hk; exact svalidTree_v A c R b w h hr hL hm hb
end Go.Proofs.YtgdkionmeacalaaGreat
end
section
namespace Go.Proofs.YtgdkionmeacalaaGreat
open Go.RowKit
set_option linter.unusedVariables false
set_option maxHeartbeats 2000000
attribute [local go_sem] growUpon_value growUpon_skip growUpon_enter
/-! WayUp, both sides. -/
theorem rangeUp {w w' : World} {b o : Nat} {cs : List Value} (h : w.rangeAt b o cs) (hb : Below w.heap.size w w') (hl : b < w.heap.size) : w'.rangeAt b o cs := rangeB h (hb.block b hl)
theorem inRange_u (n a b : Int) (r : Bool) (w : World) (h : rng n a b = r) : Calls Tryz.prog 46 #[.int .i64 n, .int .i64 a, .int .i64 b] w fun e w' => e = .returned (.bool r) ∧ w = w' := by
  rw [← h]; exact inRange_any n a b w
set_option maxRecDepth 100000 in
theorem has_v (A : Option Addr) (c k : Nat) (i : Int) (r : Bool) (w : World) (hk : k ≤ 1048576) (h : rng i 0 ((k : Int) - 1) = r) : Calls Tryz.prog 30 #[.agg #[.slice A k c], .int .i64 i] w fun e w' => e = .returned (.bool r) ∧ Below w.heap.size w w' := by
  go_enter Tryz.func30, Tryz.ntmps30
  go_wp2_with fail
  with_reducible refine (within_w i 0 ((k : Int) - 1) r _ h).mono ?_
  rintro e w' ⟨rfl, rfl⟩
  go_wp2
  go_ret
  exact ⟨rfl, balloc (Below.refl _ _)⟩
set_option maxRecDepth 100000 in
theorem goodNode_v (A : Option Addr) (c k : Nat) (R : List Nr) (i : Int) (b : Bool) (w : World) (hk : k = R.length) (h : NrV w A R) (hr : RdR w R) (hL : R.length ≤ 1048576) (hm : ∀ p ∈ R, p.n.cs.length ≤ 1048576 ∧ p.n.rs.length ≤ 1048576) (hb : (treeB (R.map Nr.n) && rng i 0 ((k : Int) - 1)) = b) :
    Calls Tryz.prog 26 #[.agg #[.slice A k c], .int .i64 i] w fun e w' => e = .returned (.bool b) ∧ Below w.heap.size w w' := by
  have hkl : k ≤ 1048576 := by omega
  have hB0 : Below w.heap.size w (w.alloc (.cells #[.slice A k c] 30 (0, 0))) := balloc (Below.refl _ _)
  have HX := Lib.hid (newS w (.cells #[.slice A k c] 30 (0, 0)))
  have HB := Lib.hid hB0
  have HV := Lib.hid (h.keep hB0)
  have HR := Lib.hid (hr.keep hB0)
  have HM := Lib.hid hm
  have HK := Lib.hid hk
  have x0 := cellS HX.out 0
  clear hB0 h hr hm hk
  cases ht : treeB (R.map Nr.n)
  · obtain rfl : false = b := by rw [← hb, ht]; rfl
    have HT := Lib.hid ht
    clear hb ht
    go_enter Tryz.func26, Tryz.ntmps26
    go_wp2_with fail
    with_reducible refine (svalidTree_n A c k R false _ HK.out HV.out HR.out hL HM.out HT.out).mono ?_
    rintro e w1 ⟨rfl, hb⟩
    clear x0
    replace HX := Lib.hid ((hb.block _ (Array.getElem?_eq_some_iff.1 HX.out).1).trans HX.out)
    replace HB := Lib.hid (bkeep2 HB.out hb)
    clear hb
    have x0 := cellS HX.out 0
    go_wp2
    go_ret
    exact ⟨rfl, HB.out⟩
  · have hb2 : rng i 0 ((k : Int) - 1) = b := by rw [← hb, ht]; rfl
    have HT := Lib.hid ht
    have HBB := Lib.hid hb2
    clear hb ht hb2
    go_enter Tryz.func26, Tryz.ntmps26
    go_wp2_with fail
    with_reducible refine (svalidTree_n A c k R true _ HK.out HV.out HR.out hL HM.out HT.out).mono ?_
    rintro e w1 ⟨rfl, hb⟩
    clear x0
    replace HX := Lib.hid ((hb.block _ (Array.getElem?_eq_some_iff.1 HX.out).1).trans HX.out)
    replace HB := Lib.hid (bkeep2 HB.out hb)
    clear hb
    have x0 := cellS HX.out 0
    go_wp2_with fail
    with_reducible refine (inRange_u i 0 ((k : Int) - 1) b _ HBB.out).mono ?_
    rintro e w2 ⟨rfl, rfl⟩
    go_wp2
    go_ret
    exact ⟨rfl, HB.out⟩
end Go.Proofs.YtgdkionmeacalaaGreat
end
section
namespace Go.Proofs.YtgdkionmeacalaaGreat
open Go Go.RowKit
set_option linter.unusedVariables false
set_option linter.unusedSimpArgs false
set_option maxHeartbeats 4000000
attribute [local go_sem] growUpon_value growUpon_skip growUpon_enter
theorem trOK_of {L : List Nd} (h : treeB L = true) : TrOK L where
  l1 := (tree_len h).1
  l10 := (tree_len h).2
  up := fun k n hn => by
    obtain ⟨_, hu, _⟩ := tree_nok h hn
    unfold upB at hu
    split at hu
    · rename_i e; exact .inl ⟨e, by simpa using hu⟩
    · rename_i e; rw [rng_iff] at hu; right; omega
  sz := fun k n hn => by
    obtain ⟨hd, _, _⟩ := tree_nok h hn
    simp only [ndB, Bool.and_eq_true, rng_iff] at hd
    obtain ⟨⟨h1, h2⟩, h3, _⟩ := hd
    exact ⟨h1, h2, by omega⟩
  pk := fun k n hn => by
    obtain ⟨hd, _, _⟩ := tree_nok h hn
    simp only [ndB, Bool.and_eq_true] at hd
    exact hd.2.2.2.1
  li := fun k n hn h1 => own_lines (tree_nok h hn).1 h1
  ce := fun k n u hn h0 hu h1 => by
    obtain ⟨_, _, hc⟩ := tree_nok h hn
    unfold clB at hc
    rw [if_neg (by omega), hu] at hc
    simpa [h1] using hc
/-- what all nodes ask for, in memory of its own -/
def WsV (lo : Nat) (w : World) (R : List Nr) (v : Value) : Prop := ∃ g : Nat, v = .slice (some ⟨g, 0, none⟩) R.length R.length ∧ lo ≤ g ∧ RbK 2 w g 53 ((List.range R.length).map fun k => valsWi (szM (R.map Nr.n) k))
theorem WsV.keep {lo : Nat} {w w' : World} {R : List Nr} {v : Value} (h : WsV lo w R v) (hb : Below w.heap.size w w') : WsV lo w' R v := let ⟨g, e, hl, k⟩ := h; ⟨g, e, hl, k.keep hb⟩
theorem WsV.mono {lo lo' : Nat} {w : World} {R : List Nr} {v : Value} (h : WsV lo w R v) (hl : lo' ≤ lo) : WsV lo' w R v := let ⟨g, e, h1, k⟩ := h; ⟨g, e, by omega, k⟩
theorem wishes_eq {w : World} {R : List Nr} {X : List Wd} (hl : X.length = R.length) (hx : ∀ i x, X[i]? = some x → WdK 0 w R i x) : (X.map fun y => valsWi (y.sw, y.sh)) = (List.range R.length).map fun k => valsWi (szM (R.map Nr.n) k) := by
  refine List.ext_getElem? fun i => ?_
  rw [List.getElem?_map, List.getElem?_map]
  by_cases hi : i < R.length
  · have e : X[i]? = some X[i] := List.getElem?_eq_getElem (by omega)
    obtain ⟨p, _, _, e2, _⟩ := hx i _ e
    rw [e, List.getElem?_range hi]
    simp only [Option.map_some]
    rw [e2]
  · rw [List.getElem?_eq_none (by omega), List.getElem?_eq_none (by simp; omega)]; rfl
set_option maxRecDepth 100000 in
theorem requests_v (A : Option Addr) (c k : Nat) (R : List Nr) (w : World) (hT : TrOK (R.map Nr.n)) (hk : k = R.length) (h : NrV w A R) (hr : RdR w R) :
    Calls Tryz.prog 31 #[.agg #[.slice A k c]] w fun e w' => (∃ v, e = .returned v ∧ WsV w.heap.size w' R v) ∧ Below w.heap.size w w' := by
  subst hk
  have hL : R.length ≤ 10 := by have := hT.l10; rwa [List.length_map] at this
  have hB0 : Below w.heap.size w (w.alloc (.cells #[.slice A R.length c] 30 (0, 0))) := balloc (Below.refl _ _)
  have HX := Lib.hid (newS w (.cells #[.slice A R.length c] 30 (0, 0)))
  have HB := Lib.hid hB0
  have HV := Lib.hid (h.keep hB0)
  have HR := Lib.hid (hr.keep hB0)
  have x0 := cellS HX.out 0
  clear hB0 h hr
  go_enter Tryz.func31, Tryz.ntmps31
  go_wp2_with fail
  with_reducible refine (settled_v A c R hT _ HV.out HR.out hL).mono ?_
  rintro e w1 ⟨⟨v, rfl, g, X, rfl, hg, X1, X2, X3⟩, hb⟩
  clear x0
  replace HX := Lib.hid ((hb.block _ (Array.getElem?_eq_some_iff.1 HX.out).1).trans HX.out)
  replace HB := Lib.hid (bkeep2 HB.out hb)
  clear hb
  have HX2 := Lib.hid X2.v
  have HE := Lib.hid (wishes_eq X1 X3)
  have HX1 := Lib.hid X1
  clear X1 X2 X3 hg
  go_wp2_with fail
  with_reducible refine (each_wishes _ _ R.length X _ HX2.out HX1.out.symm (by omega)).mono ?_
  rintro e w2 ⟨rfl, hq, hb⟩
  rw [HE.out] at hq
  have HQ := Lib.hid hq
  have hs1 := HB.out.size
  clear hq
  replace HB := Lib.hid (bkeep2 HB.out hb)
  clear hb
  go_wp2
  go_ret
  exact ⟨⟨_, rfl, _, rfl, hs1, HQ.out⟩, HB.out⟩
/-- what a node asks for, -1 and -1 if there is none -/
def rqM (L : List Nd) (i : Int) : Int × Int := if (treeB L && rng i 0 ((L.length : Int) - 1)) = true then szM L i.toNat else (-1, -1)
theorem rqM_no {L : List Nd} {i : Int} (h : (treeB L && rng i 0 ((L.length : Int) - 1)) = false) : rqM L i = (-1, -1) := by unfold rqM; rw [h]; rfl
theorem rqM_yes {L : List Nd} {j : Nat} (h : treeB L = true) (hj : j < L.length) : rqM L (j : Int) = szM L j := by
  unfold rqM
  rw [if_pos (by rw [h, Bool.true_and, rng_iff]; omega)]
  rfl
theorem WsV.at {lo : Nat} {w : World} {R : List Nr} {g : Nat} (h : RbK 2 w g 53 ((List.range R.length).map fun k => valsWi (szM (R.map Nr.n) k))) {j : Nat} (hj : j < R.length) : w.cell? ⟨g, j * 2, none⟩ = some (.int .i64 (szM (R.map Nr.n) j).1) ∧ w.cell? ⟨g, j * 2 + 1, none⟩ = some (.int .i64 (szM (R.map Nr.n) j).2) := by
  obtain ⟨cs, hh, hs, hc⟩ := h
  have := hc j (valsWi (szM (R.map Nr.n) j)) (by simpa using hj) (by rw [List.getElem?_map, List.getElem?_range hj]; rfl)
  exact ⟨(cellS hh _).trans (this 0 _ rfl), (cellS hh _).trans (this 1 _ rfl)⟩
set_option maxRecDepth 100000 in
theorem RequestOf_no (A : Option Addr) (c k : Nat) (R : List Nr) (i : Int) (w : World) (hk : k = R.length) (h : NrV w A R) (hr : RdR w R) (hL : R.length ≤ 1048576) (hm : ∀ p ∈ R, p.n.cs.length ≤ 1048576 ∧ p.n.rs.length ≤ 1048576) (hb : (treeB (R.map Nr.n) && rng i 0 ((k : Int) - 1)) = false) :
    Calls Tryz.prog 10 #[.agg #[.slice A k c], .int .i64 i] w fun e w' => e = .returned (.tuple #[.int .i64 (-1), .int .i64 (-1)]) ∧ Below w.heap.size w w' := by
  have hkl : k ≤ 1048576 := by omega
  have hB0 : Below w.heap.size w (w.alloc (.cells #[.slice A k c] 30 (0, 0))) := balloc (Below.refl _ _)
  have HX := Lib.hid (newS w (.cells #[.slice A k c] 30 (0, 0)))
  have HB := Lib.hid hB0
  have HV := Lib.hid (h.keep hB0)
  have HR := Lib.hid (hr.keep hB0)
  have HM := Lib.hid hm
  have HK := Lib.hid hk
  have x0 := cellS HX.out 0
  clear hB0 h hr hm hk
  cases ht : treeB (R.map Nr.n)
  · have HT := Lib.hid ht
    clear hb ht
    go_enter Tryz.func10, Tryz.ntmps10
    go_wp2_with fail
    with_reducible refine (ValidTree_n A c k R false _ HK.out HV.out HR.out hL HM.out HT.out).mono ?_
    rintro e w1 ⟨rfl, hb⟩
    clear x0
    replace HX := Lib.hid ((hb.block _ (Array.getElem?_eq_some_iff.1 HX.out).1).trans HX.out)
    replace HB := Lib.hid (bkeep2 HB.out hb)
    clear hb
    have x0 := cellS HX.out 0
    go_wp2
    go_ret2
    exact ⟨rfl, HB.out⟩
  · have hb2 : rng i 0 ((k : Int) - 1) = false := by rw [ht] at hb; simpa using hb
    have HT := Lib.hid ht
    have HBB := Lib.hid hb2
    clear hb ht hb2
    go_enter Tryz.func10, Tryz.ntmps10
    go_wp2_with fail
    with_reducible refine (ValidTree_n A c k R true _ HK.out HV.out HR.out hL HM.out HT.out).mono ?_
    rintro e w1 ⟨rfl, hb⟩
    clear x0
    replace HX := Lib.hid ((hb.block _ (Array.getElem?_eq_some_iff.1 HX.out).1).trans HX.out)
    replace HB := Lib.hid (bkeep2 HB.out hb)
    clear hb
    have x0 := cellS HX.out 0
    go_wp2_with fail
    with_reducible refine (has_v A c k i false _ hkl HBB.out).mono ?_
    rintro e w2 ⟨rfl, hb⟩
    clear x0
    replace HX := Lib.hid ((hb.block _ (Array.getElem?_eq_some_iff.1 HX.out).1).trans HX.out)
    replace HB := Lib.hid (bkeep2 HB.out hb)
    clear hb
    have x0 := cellS HX.out 0
    go_wp2
    go_ret2
    exact ⟨rfl, HB.out⟩
set_option maxRecDepth 100000 in
theorem RequestOf_yes (A : Option Addr) (c k : Nat) (R : List Nr) (j : Nat) (w : World) (hk : k = R.length) (h : NrV w A R) (hr : RdR w R) (hL : R.length ≤ 1048576) (hm : ∀ p ∈ R, p.n.cs.length ≤ 1048576 ∧ p.n.rs.length ≤ 1048576) (ht : treeB (R.map Nr.n) = true) (hj : j < R.length) :
    Calls Tryz.prog 10 #[.agg #[.slice A k c], .int .i64 j] w fun e w' => e = .returned (.tuple #[.int .i64 (szM (R.map Nr.n) j).1, .int .i64 (szM (R.map Nr.n) j).2]) ∧ Below w.heap.size w w' := by
  have hkn : (j : Int) < (k : Int) := by omega
  have hkl : k ≤ 1048576 := by omega
  have hB0 : Below w.heap.size w (w.alloc (.cells #[.slice A k c] 30 (0, 0))) := balloc (Below.refl _ _)
  have HX := Lib.hid (newS w (.cells #[.slice A k c] 30 (0, 0)))
  have HB := Lib.hid hB0
  have HV := Lib.hid (h.keep hB0)
  have HR := Lib.hid (hr.keep hB0)
  have HM := Lib.hid hm
  have HK := Lib.hid hk
  have x0 := cellS HX.out 0
  clear hB0 h hr hm hk
  have HT := Lib.hid ht
  have HBB := Lib.hid (show rng (j : Int) 0 ((k : Int) - 1) = true by rw [rng_iff]; omega)
  clear ht
  go_enter Tryz.func10, Tryz.ntmps10
  go_wp2_with fail
  with_reducible refine (ValidTree_n A c k R true _ HK.out HV.out HR.out hL HM.out HT.out).mono ?_
  rintro e w1 ⟨rfl, hb⟩
  clear x0
  replace HX := Lib.hid ((hb.block _ (Array.getElem?_eq_some_iff.1 HX.out).1).trans HX.out)
  replace HV := Lib.hid (HV.out.keep hb)
  replace HR := Lib.hid (HR.out.keep hb)
  replace HB := Lib.hid (bkeep2 HB.out hb)
  clear hb
  have x0 := cellS HX.out 0
  go_wp2_with fail
  with_reducible refine (has_v A c k j true _ hkl HBB.out).mono ?_
  rintro e w2 ⟨rfl, hb⟩
  clear x0
  replace HX := Lib.hid ((hb.block _ (Array.getElem?_eq_some_iff.1 HX.out).1).trans HX.out)
  replace HV := Lib.hid (HV.out.keep hb)
  replace HR := Lib.hid (HR.out.keep hb)
  replace HB := Lib.hid (bkeep2 HB.out hb)
  clear hb
  have x0 := cellS HX.out 0
  go_wp2_with fail
  with_reducible refine (requests_v A c k R _ (trOK_of HT.out) HK.out HV.out HR.out).mono ?_
  rintro e w3 ⟨⟨v, rfl, g, rfl, hg, hq⟩, hb⟩
  clear x0
  replace HX := Lib.hid ((hb.block _ (Array.getElem?_eq_some_iff.1 HX.out).1).trans HX.out)
  replace HB := Lib.hid (bkeep2 HB.out hb)
  clear hb
  obtain ⟨y0, y1⟩ := WsV.at (lo := 0) hq hj
  have hgl : g < w3.heap.size := RpK.lt hq
  have hd : (j : Int) < (R.length : Int) := by omega
  clear hq
  obtain ⟨q1, hq1⟩ : ∃ q1, (szM (R.map Nr.n) j).1 = q1 := ⟨_, rfl⟩
  obtain ⟨q2, hq2⟩ : ∃ q2, (szM (R.map Nr.n) j).2 = q2 := ⟨_, rfl⟩
  rw [hq1] at y0
  rw [hq2] at y1
  have HQ1 := Lib.hid hq1
  have HQ2 := Lib.hid hq2
  clear hq1 hq2
  go_upto_region 4 with fail
  refine wp_genGG (fun W => W.cell? ⟨w3.heap.size, 0, none⟩ = some (.int .i64 q1) ∧ W.cell? ⟨w3.heap.size, 1, none⟩ = some (.int .i64 q2) ∧ Below w3.heap.size w3 W) ⟨by go_simp, by go_simp, (by repeat (first | with_reducible exact Below.refl _ _ | with_reducible assumption | with_reducible refine balloc ?_ | (with_reducible refine bset ?_ ?_; rotate_left; ((try dsimp only); omega)) | refine bkeep2 ?_ (by assumption) | with_reducible refine Below.drew ?_))⟩ (fun W4 h4 => ?_)
  obtain ⟨z0, z1, hb4⟩ := h4
  clear y0 y1
  replace HB := Lib.hid (bkeep2 HB.out hb4)
  clear hb4
  go_quiet (fail)
  go_wp2
  go_ret2
  exact ⟨ret_tup2 HQ1.out.symm HQ2.out.symm, belowN' HB.out _⟩
set_option maxRecDepth 100000 in
theorem sRequestOf_no (A : Option Addr) (c k : Nat) (R : List Nr) (i : Int) (w : World) (hk : k = R.length) (h : NrV w A R) (hr : RdR w R) (hL : R.length ≤ 1048576) (hm : ∀ p ∈ R, p.n.cs.length ≤ 1048576 ∧ p.n.rs.length ≤ 1048576) (hb : (treeB (R.map Nr.n) && rng i 0 ((k : Int) - 1)) = false) :
    Calls Tryz.prog 8 #[.agg #[.slice A k c], .int .i64 i] w fun e w' => e = .returned (.tuple #[.int .i64 (-1), .int .i64 (-1)]) ∧ Below w.heap.size w w' := by
  have hkl : k ≤ 1048576 := by omega
  have hB0 : Below w.heap.size w (w.alloc (.cells #[.slice A k c] 30 (0, 0))) := balloc (Below.refl _ _)
  have HX := Lib.hid (newS w (.cells #[.slice A k c] 30 (0, 0)))
  have HB := Lib.hid hB0
  have HV := Lib.hid (h.keep hB0)
  have HR := Lib.hid (hr.keep hB0)
  have HM := Lib.hid hm
  have HK := Lib.hid hk
  have x0 := cellS HX.out 0
  clear hB0 h hr hm hk
  have HBB := Lib.hid hb
  clear hb
  go_enter Tryz.func8, Tryz.ntmps8
  go_wp2_with fail
  with_reducible refine (goodNode_v A c k R i false _ HK.out HV.out HR.out hL HM.out HBB.out).mono ?_
  rintro e w1 ⟨rfl, hb⟩
  clear x0
  replace HX := Lib.hid ((hb.block _ (Array.getElem?_eq_some_iff.1 HX.out).1).trans HX.out)
  replace HB := Lib.hid (bkeep2 HB.out hb)
  clear hb
  go_wp2
  go_ret2
  exact ⟨rfl, HB.out⟩
set_option maxRecDepth 100000 in
theorem sRequestOf_yes (A : Option Addr) (c k : Nat) (R : List Nr) (j : Nat) (w : World) (hk : k = R.length) (h : NrV w A R) (hr : RdR w R) (hL : R.length ≤ 1048576) (hm : ∀ p ∈ R, p.n.cs.length ≤ 1048576 ∧ p.n.rs.length ≤ 1048576) (ht : treeB (R.map Nr.n) = true) (hj : j < R.length) :
    Calls Tryz.prog 8 #[.agg #[.slice A k c], .int .i64 j] w fun e w' => e = .returned (.tuple #[.int .i64 (szM (R.map Nr.n) j).1, .int .i64 (szM (R.map Nr.n) j).2]) ∧ Below w.heap.size w w' := by
  have hbb : (treeB (R.map Nr.n) && rng (j : Int) 0 ((k : Int) - 1)) = true := by rw [ht, Bool.true_and, rng_iff]; omega
  have hkl : k ≤ 1048576 := by omega
  have hB0 : Below w.heap.size w (w.alloc (.cells #[.slice A k c] 30 (0, 0))) := balloc (Below.refl _ _)
  have HX := Lib.hid (newS w (.cells #[.slice A k c] 30 (0, 0)))
  have HB := Lib.hid hB0
  have HV := Lib.hid (h.keep hB0)
  have HR := Lib.hid (hr.keep hB0)
  have HM := Lib.hid hm
  have HK := Lib.hid hk
  have x0 := cellS HX.out 0
  clear hB0 h hr hm hk
  have HT := Lib.hid ht
  have HBB := Lib.hid hbb
  have HSZ := Lib.hid (HK.out ▸ sizeOf_v A c R (trOK_of ht) R.length j)
  clear ht hbb
  go_enter Tryz.func8, Tryz.ntmps8
  go_wp2_with fail
  with_reducible refine (goodNode_v A c k R j true _ HK.out HV.out HR.out hL HM.out HBB.out).mono ?_
  rintro e w1 ⟨rfl, hb⟩
  clear x0
  replace HX := Lib.hid ((hb.block _ (Array.getElem?_eq_some_iff.1 HX.out).1).trans HX.out)
  replace HV := Lib.hid (HV.out.keep hb)
  replace HR := Lib.hid (HR.out.keep hb)
  replace HB := Lib.hid (bkeep2 HB.out hb)
  clear hb
  have x0 := cellS HX.out 0
  go_wp2_with fail
  with_reducible refine (HSZ.out _ (by have := HK.out; omega) (by have := HK.out; omega) HV.out HR.out).mono ?_
  rintro e w2 ⟨rfl, hb⟩
  clear x0
  replace HX := Lib.hid ((hb.block _ (Array.getElem?_eq_some_iff.1 HX.out).1).trans HX.out)
  replace HB := Lib.hid (bkeep2 HB.out hb)
  clear hb
  go_wp2
  go_ret2
  exact ⟨rfl, HB.out⟩
end Go.Proofs.YtgdkionmeacalaaGreat
end
