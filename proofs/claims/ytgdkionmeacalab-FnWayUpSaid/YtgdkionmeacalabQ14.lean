import Derived.Test.YtgdkionmeacalabQ13
section
namespace Go.Proofs.Ytgdkionmeacalab
open Go.RowKit
theorem ValidTree_n (A : Option Addr) (c k : Nat) (R : List Nr) (b : Bool) (w : World) (hk : k = R.length) (h : NrV w A R) (hr : RdR w R) (hL : R.length ≤ 1048576) (hm : ∀ p ∈ R, p.n.cs.length ≤ 1048576 ∧ p.n.rs.length ≤ 1048576) (hb : treeB (R.map Nr.n) = b) :
    Calls Try.prog 11 #[.agg #[.slice A k c]] w fun e w' => e = .returned (.bool b) ∧ Below w.heap.size w w' := by
  subst hk; exact ValidTree_v A c R b w h hr hL hm hb
theorem sValidTree_n (A : Option Addr) (c k : Nat) (R : List Nr) (b : Bool) (w : World) (hk : k = R.length) (h : NrV w A R) (hr : RdR w R) (hL : R.length ≤ 1048576) (hm : ∀ p ∈ R, p.n.cs.length ≤ 1048576 ∧ p.n.rs.length ≤ 1048576) (hb : treeB (R.map Nr.n) = b) :
    Calls Try.prog 17 #[.agg #[.slice A k c]] w fun e w' => e = .returned (.bool b) ∧ Below w.heap.size w w' := by
  subst hk; exact sValidTree_v A c R b w h hr hL hm hb
theorem svalidTree_n (A : Option Addr) (c k : Nat) (R : List Nr) (b : Bool) (w : World) (hk : k = R.length) (h : NrV w A R) (hr : RdR w R) (hL : R.length ≤ 1048576) (hm : ∀ p ∈ R, p.n.cs.length ≤ 1048576 ∧ p.n.rs.length ≤ 1048576) (hb : treeB (R.map Nr.n) = b) :
    Calls Try.prog 37 #[.agg #[.slice A k c]] w fun e w' => e = .returned (.bool b) ∧ Below w.heap.size w w' := by
  subst hk; exact svalidTree_v A c R b w h hr hL hm hb
end Go.Proofs.Ytgdkionmeacalab
end
section
namespace Go.Proofs.Ytgdkionmeacalab
open Go.RowKit
set_option linter.unusedVariables false
set_option maxHeartbeats 2000000
attribute [local go_sem] growUpon_value growUpon_skip growUpon_enter
/-! WayUp, both sides. -/
theorem rangeUp {w w' : World} {b o : Nat} {cs : List Value} (h : w.rangeAt b o cs) (hb : Below w.heap.size w w') (hl : b < w.heap.size) : w'.rangeAt b o cs := rangeB h (hb.block b hl)
theorem inRange_u (n a b : Int) (r : Bool) (w : World) (h : rng n a b = r) : Calls Try.prog 41 #[.int .i64 n, .int .i64 a, .int .i64 b] w fun e w' => e = .returned (.bool r) ∧ w = w' := by
  rw [← h]; exact inRange_any n a b w
set_option maxRecDepth 100000 in
theorem has_v (A : Option Addr) (c k : Nat) (i : Int) (r : Bool) (w : World) (hk : k ≤ 1048576) (h : rng i 0 ((k : Int) - 1) = r) : Calls Try.prog 21 #[.agg #[.slice A k c], .int .i64 i] w fun e w' => e = .returned (.bool r) ∧ Below w.heap.size w w' := by
  go_enter Try.func21, Try.ntmps21
  go_wp2_with fail
  with_reducible refine (within_w i 0 ((k : Int) - 1) r _ h).mono ?_
  rintro e w' ⟨rfl, rfl⟩
  go_wp2
  go_ret
  exact ⟨rfl, balloc (Below.refl _ _)⟩
set_option maxRecDepth 100000 in
theorem goodNode_v (A : Option Addr) (c k : Nat) (R : List Nr) (i : Int) (b : Bool) (w : World) (hk : k = R.length) (h : NrV w A R) (hr : RdR w R) (hL : R.length ≤ 1048576) (hm : ∀ p ∈ R, p.n.cs.length ≤ 1048576 ∧ p.n.rs.length ≤ 1048576) (hb : (treeB (R.map Nr.n) && rng i 0 ((k : Int) - 1)) = b) :
    Calls Try.prog 34 #[.agg #[.slice A k c], .int .i64 i] w fun e w' => e = .returned (.bool b) ∧ Below w.heap.size w w' := by
  have hkl : k ≤ 1048576 := by omega
  have hB0 : Below w.heap.size w (w.alloc (.cells #[.slice A k c] 25 (0, 0))) := balloc (Below.refl _ _)
  have HX := Lib.hid (newS w (.cells #[.slice A k c] 25 (0, 0)))
  have HB := Lib.hid hB0
  have HV := Lib.hid (h.keep hB0)
  have HR := Lib.hid (hr.keep hB0)
  have HM := Lib.hid hm
  have HK := Lib.hid hk
  have x0 := cellS HX.out 0
  clear hB0 h hr hm hk
  cases ht : treeB (R.map Nr.n)
  · obtain rfl : false = b := by rw [← hb, ht]; rfl
    have HT := Lib.hid ht
    clear hb ht
    go_enter Try.func34, Try.ntmps34
    go_wp2_with fail
    with_reducible refine (svalidTree_n A c k R false _ HK.out HV.out HR.out hL HM.out HT.out).mono ?_
    rintro e w1 ⟨rfl, hb⟩
    clear x0
    replace HX := Lib.hid ((hb.block _ (Array.getElem?_eq_some_iff.1 HX.out).1).trans HX.out)
    replace HB := Lib.hid (bkeep2 HB.out hb)
    clear hb
    have x0 := cellS HX.out 0
    go_wp2
    go_ret
    exact ⟨rfl, HB.out⟩
  · have hb2 : rng i 0 ((k : Int) - 1) = b := by rw [← hb, ht]; rfl
    have HT := Lib.hid ht
    have HBB := Lib.hid hb2
    clear hb ht hb2
    go_enter Try.func34, Try.ntmps34
    go_wp2_with fail
    with_reducible refine (svalidTree_n A c k R true _ HK.out HV.out HR.out hL HM.out HT.out).mono ?_
    rintro e w1 ⟨rfl, hb⟩
    clear x0
    replace HX := Lib.hid ((hb.block _ (Array.getElem?_eq_some_iff.1 HX.out).1).trans HX.out)
    replace HB := Lib.hid (bkeep2 HB.out hb)
    clear hb
    have x0 := cellS HX.out 0
    go_wp2_with fail
    with_reducible refine (inRange_u i 0 ((k : Int) - 1) b _ HBB.out).mono ?_
    rintro e w2 ⟨rfl, rfl⟩
    go_wp2
    go_ret
    exact ⟨rfl, HB.out⟩
set_option maxRecDepth 100000 in
theorem WayUp_no (A : Option Addr) (c k : Nat) (R : List Nr) (i : Int) (w : World) (hk : k = R.length) (h : NrV w A R) (hr : RdR w R) (hL : R.length ≤ 1048576) (hm : ∀ p ∈ R, p.n.cs.length ≤ 1048576 ∧ p.n.rs.length ≤ 1048576) (hb : (treeB (R.map Nr.n) && rng i 0 ((k : Int) - 1)) = false) :
    Calls Try.prog 13 #[.agg #[.slice A k c], .int .i64 i] w fun e w' => e = .returned (.slice none 0 0) ∧ Below w.heap.size w w' := by
  have hkl : k ≤ 1048576 := by omega
  have hB0 : Below w.heap.size w (w.alloc (.cells #[.slice A k c] 25 (0, 0))) := balloc (Below.refl _ _)
  have HX := Lib.hid (newS w (.cells #[.slice A k c] 25 (0, 0)))
  have HB := Lib.hid hB0
  have HV := Lib.hid (h.keep hB0)
  have HR := Lib.hid (hr.keep hB0)
  have HM := Lib.hid hm
  have HK := Lib.hid hk
  have x0 := cellS HX.out 0
  clear hB0 h hr hm hk
  cases ht : treeB (R.map Nr.n)
  · have HT := Lib.hid ht
    clear hb ht
    go_enter Try.func13, Try.ntmps13
    go_wp2_with fail
    with_reducible refine (ValidTree_n A c k R false _ HK.out HV.out HR.out hL HM.out HT.out).mono ?_
    rintro e w1 ⟨rfl, hb⟩
    clear x0
    replace HX := Lib.hid ((hb.block _ (Array.getElem?_eq_some_iff.1 HX.out).1).trans HX.out)
    replace HB := Lib.hid (bkeep2 HB.out hb)
    clear hb
    have x0 := cellS HX.out 0
    go_wp2
    go_ret
    exact ⟨rfl, HB.out⟩
  · have hb2 : rng i 0 ((k : Int) - 1) = false := by rw [ht] at hb; simpa using hb
    have HT := Lib.hid ht
    have HBB := Lib.hid hb2
    clear hb ht hb2
    go_enter Try.func13, Try.ntmps13
    go_wp2_with fail
    with_reducible refine (ValidTree_n A c k R true _ HK.out HV.out HR.out hL HM.out HT.out).mono ?_
    rintro e w1 ⟨rfl, hb⟩
    clear x0
    replace HX := Lib.hid ((hb.block _ (Array.getElem?_eq_some_iff.1 HX.out).1).trans HX.out)
    replace HB := Lib.hid (bkeep2 HB.out hb)
    clear hb
    have x0 := cellS HX.out 0
    go_wp2_with fail
    with_reducible refine (has_v A c k i false _ hkl HBB.out).mono ?_
    rintro e w2 ⟨rfl, hb⟩
    clear x0
    replace HX := Lib.hid ((hb.block _ (Array.getElem?_eq_some_iff.1 HX.out).1).trans HX.out)
    replace HB := Lib.hid (bkeep2 HB.out hb)
    clear hb
    have x0 := cellS HX.out 0
    go_wp2
    go_ret
    exact ⟨rfl, HB.out⟩
set_option maxRecDepth 100000 in
theorem WayUp_yes (A : Option Addr) (c k : Nat) (R : List Nr) (j : Nat) (xs : List Int) (w : World) (hk : k = R.length) (h : NrV w A R) (hr : RdR w R) (hL : R.length ≤ 1048576) (hm : ∀ p ∈ R, p.n.cs.length ≤ 1048576 ∧ p.n.rs.length ≤ 1048576) (ht : treeB (R.map Nr.n) = true) (hj : j < R.length) (hup : IsUp (R.map Nr.n) (j : Int) xs) (hxl : xs.length ≤ 20) :
    Calls Try.prog 13 #[.agg #[.slice A k c], .int .i64 j] w fun e w' => (∃ v, e = .returned v ∧ GO w.heap.size w' v xs) ∧ Below w.heap.size w w' := by
  have hkl : k ≤ 1048576 := by omega
  have hB0 : Below w.heap.size w (w.alloc (.cells #[.slice A k c] 25 (0, 0))) := balloc (Below.refl _ _)
  have HX := Lib.hid (newS w (.cells #[.slice A k c] 25 (0, 0)))
  have HB := Lib.hid hB0
  have HV := Lib.hid (h.keep hB0)
  have HR := Lib.hid (hr.keep hB0)
  have HM := Lib.hid hm
  have HK := Lib.hid hk
  have HT := Lib.hid ht
  have HBB := Lib.hid (show rng (j : Int) 0 ((k : Int) - 1) = true by rw [rng_iff]; omega)
  have HUP := Lib.hid hup
  have x0 := cellS HX.out 0
  clear hB0 h hr hm hk ht hup
  go_enter Try.func13, Try.ntmps13
  go_wp2_with fail
  with_reducible refine (ValidTree_n A c k R true _ HK.out HV.out HR.out hL HM.out HT.out).mono ?_
  rintro e w1 ⟨rfl, hb⟩
  clear x0
  replace HX := Lib.hid ((hb.block _ (Array.getElem?_eq_some_iff.1 HX.out).1).trans HX.out)
  replace HV := Lib.hid (HV.out.keep hb)
  replace HB := Lib.hid (bkeep2 HB.out hb)
  clear hb
  have x0 := cellS HX.out 0
  go_wp2_with fail
  with_reducible refine (has_v A c k j true _ hkl HBB.out).mono ?_
  rintro e w2 ⟨rfl, hb⟩
  clear x0
  replace HX := Lib.hid ((hb.block _ (Array.getElem?_eq_some_iff.1 HX.out).1).trans HX.out)
  replace HV := Lib.hid (HV.out.keep hb)
  replace HB := Lib.hid (bkeep2 HB.out hb)
  clear hb
  have x0 := cellS HX.out 0
  go_wp2_with fail
  with_reducible refine (upFrom_v A k c (j : Int) _).mono ?_
  rintro e w3 ⟨rfl, rfl⟩
  obtain ⟨b, off, rfl, hbl, hc⟩ := HV.out.cells (by omega)
  have hb3 : Below w2.heap.size w2 ((w2.alloc (.cells #[.slice (some ⟨b, off, none⟩) k c] 25)).alloc (.cells #[.int .i64 (j : Int)] 3)) := balloc (balloc (Below.refl _ _))
  have HU := Lib.hid (show UpAt ((w2.alloc (.cells #[.slice (some ⟨b, off, none⟩) k c] 25)).alloc (.cells #[.int .i64 (j : Int)] 3)) (w2.heap.size + 1) w2.heap.size b off k c (j : Int) R from
    ⟨cellS (newS1T w2 _ _) 0, cellS ((Below.heap_alloc _ _ w2.heap.size (by simp)).trans (newS w2 _)) 0, fun m p hp => rangeUp (hc m p hp) hb3 hbl⟩)
  replace HB := Lib.hid (bkeep2 HB.out hb3)
  have hws : ((w2.alloc (.cells #[.slice (some ⟨b, off, none⟩) k c] 25)).alloc (.cells #[.int .i64 (j : Int)] 3)).heap.size = w2.heap.size + 2 := by simp
  generalize ((w2.alloc (.cells #[.slice (some ⟨b, off, none⟩) k c] 25)).alloc (.cells #[.int .i64 (j : Int)] 3)) = W3 at *
  clear hb3 hc x0 HX
  go_wp2_with fail
  with_reducible refine (collect_up _ _ b off k c R (j : Int) xs HK.out hL HUP.out hxl _ (by omega) (by omega) (by omega) HU.out).mono ?_
  rintro e w4 ⟨⟨v, rfl, ho⟩, hb⟩
  have hsz := HB.out.size
  replace HB := Lib.hid (bkeep2 HB.out hb)
  have HO := Lib.hid ((GO.of ho rfl).mono hsz)
  clear ho hb
  go_wp2
  go_ret
  exact ⟨⟨_, rfl, HO.out⟩, HB.out⟩
set_option maxRecDepth 100000 in
theorem ancestors_v (A : Option Addr) (c k : Nat) (R : List Nr) (j : Nat) (xs : List Int) (w : World) (hk : k = R.length) (h : NrV w A R) (hL : R.length ≤ 1048576) (hj : j < R.length) (hup : IsUp (R.map Nr.n) (j : Int) xs) (hxl : xs.length ≤ 20) :
    Calls Try.prog 35 #[.agg #[.slice A k c], .int .i64 j] w fun e w' => (∃ v, e = .returned v ∧ NR w' v xs) ∧ Below w.heap.size w w' := by
  obtain ⟨ti, tz, ti1, ti2, ti3, ti4, ti5⟩ := int_infoW
  obtain ⟨b, off, rfl, hbl, hc⟩ := h.cells (by omega)
  have HC := Lib.hid hc
  have HK := Lib.hid hk
  have HUP := Lib.hid hup
  have HB := Lib.hid (balloc (o := .cells #[] 3 (0, 0)) (balloc (o := .cells #[.slice (some ⟨b, off, none⟩) k c] 25 (0, 0)) (Below.refl w.heap.size w)))
  have HX := Lib.hid ((Below.heap_alloc (w.alloc (.cells #[.slice (some ⟨b, off, none⟩) k c] 25 (0, 0))) (.cells #[] 3 (0, 0)) w.heap.size (by simp)).trans (newS w (.cells #[.slice (some ⟨b, off, none⟩) k c] 25 (0, 0))))
  have HO := Lib.hid (show ((w.alloc (.cells #[.slice (some ⟨b, off, none⟩) k c] 25 (0, 0))).alloc (.cells #[] 3 (0, 0))).ownsRow (w.heap.size + 1) 3 1 (.slice (some ⟨w.heap.size + 1, 0, none⟩) 0 0) 0 (nvalsW []) from by
    have := World.ownsRow_lit (base := w.heap.size + 1) (e := 3) (size := 1) (w.alloc (.cells #[.slice (some ⟨b, off, none⟩) k c] 25 (0, 0))) #[] 0 (by simp) (by decide) rfl
    rwa [World.size_alloc] at this)
  clear hc hk hup h
  go_enter Try.func35, Try.ntmps35
  go_wp2_with fail
  go_loopw [1, 5] (fun iv out wr => ∃ (pre rest : List Int) (q : Int), iv = .int .i64 q ∧ xs = pre ++ rest ∧ IsUp (R.map Nr.n) q rest ∧ -1 ≤ q ∧ wr.ownsRow (w.heap.size + 1) 3 1 out pre.length (nvalsW pre) ∧ wr.heap[w.heap.size]? = some (.cells #[.slice (some ⟨b, off, none⟩) k c] 25 (0, 0)) ∧ Below w.heap.size w wr) (fun iv _ _ => (intOf iv + 1).toNat)
  case atStart => exact ⟨[], xs, (j : Int), rfl, rfl, HUP.out, by omega, HO.out, HX.out, HB.out⟩
  case round =>
    obtain ⟨pre, rest, q, rfl, hx, hl, hq1, ho, hxx, hB⟩ := hrel
    clear HO HB HX
    have HB := Lib.hid hB
    have HO := Lib.hid ho
    have HX := Lib.hid hxx
    have hob := ho.lt
    have hw3 : w.heap.size ≤ wr.heap.size := hB.size
    have hsx := ltS hxx
    clear ho hB hxx
    cases rest with
    | nil =>
      obtain rfl : q = -1 := hl
      have HXX := Lib.hid hx
      clear hx
      go_wp2
      go_ret
      exact ⟨⟨_, rfl, (GO.of HO.out (by rfl)).nr |> fun h => by have e := HXX.out; rw [List.append_nil] at e; rw [e]; exact h⟩, HB.out⟩
    | cons x rest =>
      obtain ⟨rfl, h0q, nd, hnd, hlt, hge, hr⟩ := hl
      obtain ⟨m, rfl⟩ := Int.eq_ofNat_of_zero_le h0q
      rw [Int.toNat_natCast, List.getElem?_map] at hnd
      obtain ⟨p, hp, rfl⟩ := Option.map_eq_some_iff.1 hnd
      have hkl : m < R.length := (List.getElem?_eq_some_iff.1 hp).1
      have hkl' : (m : Int) < (k : Int) := by have := HK.out; omega
      have hd : decide ((m : Int) ≥ 0) = true := decide_eq_true (by omega)
      have hd2 : decide ((0 : Int) ≤ (m : Int)) = true := decide_eq_true (by omega)
      have hpl : pre.length ≤ 20 := by have := congrArg List.length hx; rw [List.length_append] at this; omega
      have HXX := Lib.hid hx
      have HP := Lib.hid hp
      have HRR := Lib.hid hr
      obtain ⟨z, hz⟩ : ∃ z, p.n.pa = z := ⟨_, rfl⟩
      have HZ := Lib.hid hz
      rw [hz] at hlt hge
      have cp : wr.cell? ⟨b, off + m * 34, none⟩ = some (.int .i64 z) := by
        have := rangeB (HC.out m p HP.out) (HB.out.block b hbl) 0 _ rfl
        rw [hz] at this; exact this
      have x0 := cellS HX.out 0
      clear hx hp hr hnd hz
      go_wp2_with (at_builtin; refine wpList_append_own _ rfl _ _ 46 rfl (w.heap.size + 1) 3 ti tz 1 8 Try.underlying46 ti1 ti2 ti3 ti4 ti5 (by decide) _ _ _ rfl (HO.out.alloc _) ⟨wr.heap.size, 0, none⟩ 1 1 [.int .i64 (m : Int)] rfl rfl (newW _ _ _) (by simp [Value.oneCell']) (by simp only [maxLen]; omega) (by omega) (by simp; omega) ?_)
      intro v5 w5 how5 hgr5 _
      rw [nvalsW_snoc] at how5
      have hX5 := (hgr5.block w.heap.size (by simp; omega) (fun e => by have := hob _ e.symm; omega)).trans ((Below.heap_alloc _ _ w.heap.size hsx).trans HX.out)
      have cp5 := (hgr5.block b (by simp; omega) (fun e => by have := hob _ e.symm; omega)).trans (Below.heap_alloc wr (.cells #[.int .i64 (m : Int)] 3 (0, 0)) b (by omega))
      replace cp5 := (World.cell?_of_block (a := ⟨b, off + m * 34, none⟩) cp5).trans cp
      have HB5 := Lib.hid (below_own (n := w.heap.size) HB.out hgr5 (lo := w.heap.size) (hi := wr.heap.size) (fun k hk => by have := hob k hk; omega) (Nat.le_refl _) (Nat.le_refl _))
      have HO5 := Lib.hid how5
      have HX5 := Lib.hid hX5
      have x5 := cellS HX5.out 0
      clear how5 hgr5 hob cp x0 hX5 HB HO HX
      go_wp2
      go_roundw
      case rel => exact ⟨pre ++ [(m : Int)], rest, z, rfl, by rw [HXX.out]; simp, by have := HRR.out; rwa [HZ.out] at this, by omega, by simpa using HO5.out, HX5.out, HB5.out⟩
      case measure => simp [intOf]; omega
set_option maxRecDepth 100000 in
theorem sWayUp_no (A : Option Addr) (c k : Nat) (R : List Nr) (i : Int) (w : World) (hk : k = R.length) (h : NrV w A R) (hr : RdR w R) (hL : R.length ≤ 1048576) (hm : ∀ p ∈ R, p.n.cs.length ≤ 1048576 ∧ p.n.rs.length ≤ 1048576) (hb : (treeB (R.map Nr.n) && rng i 0 ((k : Int) - 1)) = false) :
    Calls Try.prog 15 #[.agg #[.slice A k c], .int .i64 i] w fun e w' => e = .returned (.slice none 0 0) ∧ Below w.heap.size w w' := by
  have hB0 : Below w.heap.size w (w.alloc (.cells #[.slice A k c] 25 (0, 0))) := balloc (Below.refl _ _)
  have HX := Lib.hid (newS w (.cells #[.slice A k c] 25 (0, 0)))
  have HB := Lib.hid hB0
  have HV := Lib.hid (h.keep hB0)
  have HR := Lib.hid (hr.keep hB0)
  have HM := Lib.hid hm
  have HK := Lib.hid hk
  have HBB := Lib.hid hb
  have x0 := cellS HX.out 0
  clear hB0 h hr hm hk hb
  go_enter Try.func15, Try.ntmps15
  go_wp2_with fail
  with_reducible refine (goodNode_v A c k R i false _ HK.out HV.out HR.out hL HM.out HBB.out).mono ?_
  rintro e w1 ⟨rfl, hb⟩
  clear x0
  replace HX := Lib.hid ((hb.block _ (Array.getElem?_eq_some_iff.1 HX.out).1).trans HX.out)
  replace HB := Lib.hid (bkeep2 HB.out hb)
  clear hb
  go_wp2
  go_ret
  exact ⟨rfl, HB.out⟩
set_option maxRecDepth 100000 in
theorem sWayUp_yes (A : Option Addr) (c k : Nat) (R : List Nr) (j : Nat) (xs : List Int) (w : World) (hk : k = R.length) (h : NrV w A R) (hr : RdR w R) (hL : R.length ≤ 1048576) (hm : ∀ p ∈ R, p.n.cs.length ≤ 1048576 ∧ p.n.rs.length ≤ 1048576) (ht : treeB (R.map Nr.n) = true) (hj : j < R.length) (hup : IsUp (R.map Nr.n) (j : Int) xs) (hxl : xs.length ≤ 20) :
    Calls Try.prog 15 #[.agg #[.slice A k c], .int .i64 j] w fun e w' => (∃ v, e = .returned v ∧ NR w' v xs) ∧ Below w.heap.size w w' := by
  have hB0 : Below w.heap.size w (w.alloc (.cells #[.slice A k c] 25 (0, 0))) := balloc (Below.refl _ _)
  have HX := Lib.hid (newS w (.cells #[.slice A k c] 25 (0, 0)))
  have HB := Lib.hid hB0
  have HV := Lib.hid (h.keep hB0)
  have HR := Lib.hid (hr.keep hB0)
  have HM := Lib.hid hm
  have HK := Lib.hid hk
  have HBB := Lib.hid (show (treeB (R.map Nr.n) && rng (j : Int) 0 ((k : Int) - 1)) = true by rw [ht, Bool.true_and, rng_iff]; omega)
  have HUP := Lib.hid hup
  have x0 := cellS HX.out 0
  clear hB0 h hr hm hk ht hup
  go_enter Try.func15, Try.ntmps15
  go_wp2_with fail
  with_reducible refine (goodNode_v A c k R j true _ HK.out HV.out HR.out hL HM.out HBB.out).mono ?_
  rintro e w1 ⟨rfl, hb⟩
  clear x0
  replace HX := Lib.hid ((hb.block _ (Array.getElem?_eq_some_iff.1 HX.out).1).trans HX.out)
  replace HV := Lib.hid (HV.out.keep hb)
  replace HB := Lib.hid (bkeep2 HB.out hb)
  clear hb
  have x0 := cellS HX.out 0
  go_wp2_with fail
  with_reducible refine (ancestors_v A c k R j xs _ HK.out HV.out hL hj HUP.out hxl).mono ?_
  rintro e w2 ⟨⟨v, rfl, ho⟩, hb⟩
  replace HB := Lib.hid (bkeep2 HB.out hb)
  have HO := Lib.hid ho
  clear ho hb x0
  go_wp2
  go_ret
  exact ⟨⟨_, rfl, HO.out⟩, HB.out⟩
end Go.Proofs.Ytgdkionmeacalab
end
