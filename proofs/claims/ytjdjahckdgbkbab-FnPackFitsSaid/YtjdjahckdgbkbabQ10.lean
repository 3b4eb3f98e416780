import Derived.Test.YtjdjahckdgbkbabQ09
import Derived.RangeFuncNested
import Derived.RangeFuncBound
import Derived.RangeFuncCalls
import Derived.RangeFuncLeaves
import Derived.Shelf.Abstract
import Derived.Shelf.RegionOpen
import Derived.WalkKit
import Derived.OwnWalkIn
import Derived.TacticsInMore
import Derived.LoopNIn
import Derived.LoopIn
section
namespace Go.Proofs.Ytjdjahckdgbkbab
open Go.RowKit
set_option linter.unusedVariables false
set_option maxHeartbeats 1000000
set_option maxRecDepth 100000 in
theorem PackRects_yes (A : Option Addr) (c : Nat) (L : List Pk) (u v : Int) (w : World) (h : PV w A L) (hcap : L.length ≤ c) (hL : L.length ≤ 1048576) (hv : vpsB L = true) (hr : rmB u v = true) (M : List Rc) (Z : Rc) (hM : parcM L ⟨0, 0, u, v⟩ = (M, Z)) :
    Calls Try.prog 18 #[.slice A L.length c, .int .i64 u, .int .i64 v] w fun e w' => (∃ g, e = .returned (.slice (some ⟨g, 0, none⟩) L.length L.length) ∧ w.heap.size ≤ g ∧ Blk4 w' g (setL L M)) ∧ Below w.heap.size w w' := by
  have HM := Lib.hid hM
  clear hM
  go_enter Try.func18, Try.ntmps18
  go_wp2_with fail
  with_reducible refine (vps_v _ c L true _ h hL hv).mono ?_
  rintro e w1 ⟨rfl, hbb⟩
  have HB := Lib.hid hbb
  clear hbb
  go_wp2_with fail
  with_reducible refine (validRoom_v _ _ true _ hr).mono ?_
  rintro e w2 ⟨rfl, rfl⟩
  go_wp2_with fail
  refine (packRects_v A c L ⟨0, 0, u, v⟩ _ (h.keep HB.out) hcap hv (rmB_ok hr) M Z HM.out).mono ?_
  rintro e w3 ⟨⟨g, rfl, hg, hk⟩, hbb⟩
  replace hg := Nat.le_trans HB.out.size hg
  replace HB := Lib.hid (bkeep2 HB.out hbb)
  have HK := Lib.hid hk
  clear hbb hk
  go_wp2
  go_ret
  exact ⟨⟨_, rfl, hg, HK.out⟩, HB.out⟩
set_option maxRecDepth 100000 in
theorem PackRects_no (A : Option Addr) (c : Nat) (L : List Pk) (u v : Int) (w : World) (h : PV w A L) (hcap : L.length ≤ c) (hL : L.length ≤ 1048576) (hn : vpsB L = false ∨ (vpsB L = true ∧ rmB u v = false)) :
    Calls Try.prog 18 #[.slice A L.length c, .int .i64 u, .int .i64 v] w fun e w' => e = .returned (.slice none 0 0) ∧ Below w.heap.size w w' := by
  rcases hn with hv | ⟨hv, hr⟩
  · go_enter Try.func18, Try.ntmps18
    go_wp2_with fail
    with_reducible refine (vps_v _ c L false _ h hL hv).mono ?_
    rintro e w1 ⟨rfl, hbb⟩
    have HB := Lib.hid hbb
    clear hbb
    go_wp2
    go_ret
    exact ⟨rfl, HB.out⟩
  · go_enter Try.func18, Try.ntmps18
    go_wp2_with fail
    with_reducible refine (vps_v _ c L true _ h hL hv).mono ?_
    rintro e w1 ⟨rfl, hbb⟩
    have HB := Lib.hid hbb
    clear hbb
    go_wp2_with fail
    with_reducible refine (validRoom_v _ _ false _ hr).mono ?_
    rintro e w2 ⟨rfl, rfl⟩
    go_wp2
    go_ret
    exact ⟨rfl, HB.out⟩
set_option maxRecDepth 100000 in
theorem sPackRects_yes (A : Option Addr) (c : Nat) (L : List Pk) (u v : Int) (w : World) (h : PV w A L) (hcap : L.length ≤ c) (hL : L.length ≤ 1048576) (hv : vpsB L = true) (hr : rmB u v = true) (M : List Rc) (Z : Rc) (hM : parcM L ⟨0, 0, u, v⟩ = (M, Z)) :
    Calls Try.prog 20 #[.slice A L.length c, .int .i64 u, .int .i64 v] w fun e w' => (∃ v, e = .returned v ∧ RV w' v (setL L M)) ∧ Below w.heap.size w w' := by
  have HM := Lib.hid hM
  clear hM
  go_enter Try.func20, Try.ntmps20
  go_wp2_with fail
  with_reducible refine (svps_v _ c L true _ h hL hv).mono ?_
  rintro e w1 ⟨rfl, hbb⟩
  have HB := Lib.hid hbb
  clear hbb
  go_wp2_with fail
  with_reducible refine (goodRoom_v _ _ true _ hr).mono ?_
  rintro e w2 ⟨rfl, rfl⟩
  go_wp2_with fail
  refine (packed_v A c L ⟨0, 0, u, v⟩ _ (h.keep HB.out) hcap hv (rmB_ok hr) M Z HM.out).mono ?_
  rintro e w3 ⟨⟨rv, rfl, hk⟩, hbb⟩
  replace HB := Lib.hid (bkeep2 HB.out hbb)
  have HK := Lib.hid hk
  clear hbb hk
  go_wp2
  go_ret
  exact ⟨⟨_, rfl, HK.out⟩, HB.out⟩
set_option maxRecDepth 100000 in
theorem sPackRects_no (A : Option Addr) (c : Nat) (L : List Pk) (u v : Int) (w : World) (h : PV w A L) (hcap : L.length ≤ c) (hL : L.length ≤ 1048576) (hn : vpsB L = false ∨ (vpsB L = true ∧ rmB u v = false)) :
    Calls Try.prog 20 #[.slice A L.length c, .int .i64 u, .int .i64 v] w fun e w' => e = .returned (.slice none 0 0) ∧ Below w.heap.size w w' := by
  rcases hn with hv | ⟨hv, hr⟩
  · go_enter Try.func20, Try.ntmps20
    go_wp2_with fail
    with_reducible refine (svps_v _ c L false _ h hL hv).mono ?_
    rintro e w1 ⟨rfl, hbb⟩
    have HB := Lib.hid hbb
    clear hbb
    go_wp2
    go_ret
    exact ⟨rfl, HB.out⟩
  · go_enter Try.func20, Try.ntmps20
    go_wp2_with fail
    with_reducible refine (svps_v _ c L true _ h hL hv).mono ?_
    rintro e w1 ⟨rfl, hbb⟩
    have HB := Lib.hid hbb
    clear hbb
    go_wp2_with fail
    with_reducible refine (goodRoom_v _ _ false _ hr).mono ?_
    rintro e w2 ⟨rfl, rfl⟩
    go_wp2
    go_ret
    exact ⟨rfl, HB.out⟩
end Go.Proofs.Ytjdjahckdgbkbab
end
section
namespace Go.Proofs.Ytjdjahckdgbkbab
open Go.RowKit
set_option linter.unusedVariables false
set_option maxHeartbeats 1000000
def fitB : List Pk → List Rc → Bool
  | p :: t, r :: s => decide (p.w ≤ r.u) && (decide (p.h ≤ r.v) && fitB t s)
  | _, _ => true
theorem fit_step {L : List Pk} {R : List Rc} {k : Nat} {p : Pk} {r : Rc} (hp : L[k]? = some p) (hr : R[k]? = some r) : fitB (L.drop k) (R.drop k) = (decide (p.w ≤ r.u) && (decide (p.h ≤ r.v) && fitB (L.drop (k + 1)) (R.drop (k + 1)))) := by
  obtain ⟨hl, e⟩ := List.getElem?_eq_some_iff.1 hp
  obtain ⟨hl', e'⟩ := List.getElem?_eq_some_iff.1 hr
  rw [List.drop_eq_getElem_cons hl, List.drop_eq_getElem_cons hl', e, e']; rfl
theorem fit_end {L : List Pk} {R : List Rc} : fitB (L.drop L.length) R = true := by rw [List.drop_length]; unfold fitB; rfl
def fitsB (L : List Pk) (u v : Int) : Bool := vpsB L && (rmB u v && fitB L (setL L (parcM L ⟨0, 0, u, v⟩).1))
set_option maxRecDepth 100000 in
theorem PackFits_yes (A : Option Addr) (c : Nat) (L : List Pk) (u v : Int) (w : World) (h : PV w A L) (hcap : L.length ≤ c) (hL : L.length ≤ 1048576) (hv : vpsB L = true) (hr : rmB u v = true) (B : Bool) (hB : fitB L (setL L (parcM L ⟨0, 0, u, v⟩).1) = B) :
    Calls Try.prog 12 #[.slice A L.length c, .int .i64 u, .int .i64 v] w fun e w' => e = .returned (.bool B) ∧ Below w.heap.size w w' := by
  have hML := parcM_len (L := L) (z := ⟨0, 0, u, v⟩)
  generalize hR : setL L (parcM L ⟨0, 0, u, v⟩).1 = R at hB
  have hRL : R.length = L.length := by rw [← hR]; exact setL_len hML
  have HR := Lib.hid hR
  have HBV := Lib.hid hB
  clear hML hR hB
  go_enter Try.func12, Try.ntmps12
  go_wp2_with fail
  with_reducible refine (vps_v _ c L true _ h hL hv).mono ?_
  rintro e w1 ⟨rfl, hbb⟩
  have HB := Lib.hid hbb
  clear hbb
  go_wp2_with fail
  with_reducible refine (validRoom_v _ _ true _ hr).mono ?_
  rintro e w2 ⟨rfl, rfl⟩
  go_wp2_with fail
  refine (packRects_v A c L ⟨0, 0, u, v⟩ _ (h.keep HB.out) hcap hv (rmB_ok hr) _ _ rfl).mono ?_
  rintro e w3 ⟨⟨g, rfl, hg, hk⟩, hbb⟩
  replace HB := Lib.hid (bkeep2 HB.out hbb)
  rw [HR.out] at hk
  have HK := Lib.hid hk
  clear hbb hk hg
  go_wp2_with fail
  go_loopw [24] (fun i wr => ∃ k : Nat, k ≤ L.length ∧ i = .int .i64 k ∧ fitB (L.drop k) (R.drop k) = B ∧ Below w3.heap.size w3 wr) (fun i _ => L.length - (intOf i).toNat)
  case atStart => exact ⟨0, by omega, rfl, by simpa using HBV.out, Below.refl _ _⟩
  case round =>
    obtain ⟨k, hk, rfl, hf, hB⟩ := hrel
    by_cases hlt : k < L.length
    · have hd : decide ((k : Int) < (L.length : Int)) = true := by simpa using hlt
      obtain ⟨b, off, rfl, hb, hps⟩ := ((h.keep HB.out).keep hB).cells (by omega)
      have hget : L[k]? = some L[k] := List.getElem?_eq_getElem hlt
      obtain ⟨c0, c1, c2, c3, c4, c5, c6, c7, c8⟩ := hps k _ hget
      generalize hx : L[k] = p at *
      obtain ⟨cs, hh, hs, hc⟩ := HK.out.keep hB
      have hkR : k < R.length := by omega
      have hgetR : R[k]? = some R[k] := List.getElem?_eq_getElem hkR
      obtain ⟨r0, r1, r2, r3⟩ := (hc k _ hgetR).cells hh
      generalize hy : R[k] = r at *
      rw [fit_step hget hgetR] at hf
      have hgl : g < wr.heap.size := (Array.getElem?_eq_some_iff.1 hh).1
      have hgn : ¬ g = wr.heap.size := by omega
      have hbn : ¬ b = wr.heap.size := by omega
      have HBB := Lib.hid hB
      have HF := Lib.hid hf
      clear hget hx hgetR hy hh hs hc hB hps hf
      by_cases h1 : r.u < p.w
      · have d1 : decide (r.u < p.w) = true := by simpa using h1
        have hBf : B = false := by rw [← HF.out]; simp; omega
        subst hBf
        go_wp2_with fail
        go_region
        go_wp2
        go_ret
        exact ⟨rfl, HB.out.trans ((bkeep2 HBB.out (Below.drew (balloc (Below.refl _ _)))).mono HB.out.size)⟩
      · have d1 : decide (r.u < p.w) = false := by simpa using h1
        by_cases h2 : r.v < p.h
        · have d2 : decide (r.v < p.h) = true := by simpa using h2
          have hBf : B = false := by rw [← HF.out]; simp; omega
          subst hBf
          go_wp2_with fail
          go_region
          go_wp2
          try (go_region; go_wp2)
          go_ret
          exact ⟨rfl, HB.out.trans ((bkeep2 HBB.out (Below.drew (balloc (Below.refl _ _)))).mono HB.out.size)⟩
        · have d2 : decide (r.v < p.h) = false := by simpa using h2
          have e1 : decide (p.w ≤ r.u) = true := by simp; omega
          have e2 : decide (p.h ≤ r.v) = true := by simp; omega
          have HF2 : Hid (fitB (L.drop (k + 1)) (R.drop (k + 1)) = B) := Lib.hid (by have := HF.out; rw [e1, e2] at this; simpa using this)
          clear e1 e2
          go_wp2_with fail
          go_region
          go_wp2
          try (go_region; go_wp2)
          go_roundw
          case rel => exact ⟨k + 1, by omega, by go_num, HF2.out, Below.drew (balloc HBB.out)⟩
          case measure => simp [intOf]; omega
    · have hd : decide ((k : Int) < (L.length : Int)) = false := by simp; omega
      obtain rfl : k = L.length := by omega
      rw [fit_end] at hf
      subst hf
      have HBB := Lib.hid hB
      clear hB
      go_wp2
      go_ret
      exact ⟨rfl, HB.out.trans (HBB.out.mono HB.out.size)⟩
set_option maxRecDepth 100000 in
theorem PackFits_no (A : Option Addr) (c : Nat) (L : List Pk) (u v : Int) (w : World) (h : PV w A L) (hcap : L.length ≤ c) (hL : L.length ≤ 1048576) (hn : vpsB L = false ∨ (vpsB L = true ∧ rmB u v = false)) :
    Calls Try.prog 12 #[.slice A L.length c, .int .i64 u, .int .i64 v] w fun e w' => e = .returned (.bool false) ∧ Below w.heap.size w w' := by
  rcases hn with hv | ⟨hv, hr⟩
  · go_enter Try.func12, Try.ntmps12
    go_wp2_with fail
    with_reducible refine (vps_v _ c L false _ h hL hv).mono ?_
    rintro e w1 ⟨rfl, hbb⟩
    have HB := Lib.hid hbb
    clear hbb
    go_wp2
    go_ret
    exact ⟨rfl, HB.out⟩
  · go_enter Try.func12, Try.ntmps12
    go_wp2_with fail
    with_reducible refine (vps_v _ c L true _ h hL hv).mono ?_
    rintro e w1 ⟨rfl, hbb⟩
    have HB := Lib.hid hbb
    clear hbb
    go_wp2_with fail
    with_reducible refine (validRoom_v _ _ false _ hr).mono ?_
    rintro e w2 ⟨rfl, rfl⟩
    go_wp2
    go_ret
    exact ⟨rfl, HB.out⟩
set_option maxRecDepth 100000 in
theorem sPackFits_no (A : Option Addr) (c : Nat) (L : List Pk) (u v : Int) (w : World) (h : PV w A L) (hcap : L.length ≤ c) (hL : L.length ≤ 1048576) (hn : vpsB L = false ∨ (vpsB L = true ∧ rmB u v = false)) :
    Calls Try.prog 10 #[.slice A L.length c, .int .i64 u, .int .i64 v] w fun e w' => e = .returned (.bool false) ∧ Below w.heap.size w w' := by
  rcases hn with hv | ⟨hv, hr⟩
  · go_enter Try.func10, Try.ntmps10
    go_wp2_with fail
    with_reducible refine (svps_v _ c L false _ h hL hv).mono ?_
    rintro e w1 ⟨rfl, hbb⟩
    have HB := Lib.hid hbb
    clear hbb
    go_wp2
    go_ret
    exact ⟨rfl, HB.out⟩
  · go_enter Try.func10, Try.ntmps10
    go_wp2_with fail
    with_reducible refine (svps_v _ c L true _ h hL hv).mono ?_
    rintro e w1 ⟨rfl, hbb⟩
    have HB := Lib.hid hbb
    clear hbb
    go_wp2_with fail
    with_reducible refine (goodRoom_v _ _ false _ hr).mono ?_
    rintro e w2 ⟨rfl, rfl⟩
    go_wp2
    go_ret
    exact ⟨rfl, HB.out⟩
end Go.Proofs.Ytjdjahckdgbkbab
end
section
namespace Go.Proofs.Ytjdjahckdgbkbab
open Go.RowKit
set_option linter.unusedVariables false
set_option maxHeartbeats 1000000
set_option maxRecDepth 100000 in
theorem sPackFits_yes (A : Option Addr) (c : Nat) (L : List Pk) (u v : Int) (w : World) (h : PV w A L) (hcap : L.length ≤ c) (hL : L.length ≤ 1048576) (hv : vpsB L = true) (hr : rmB u v = true) (B : Bool) (hB : fitB L (setL L (parcM L ⟨0, 0, u, v⟩).1) = B) :
    Calls Try.prog 10 #[.slice A L.length c, .int .i64 u, .int .i64 v] w fun e w' => e = .returned (.bool B) ∧ Below w.heap.size w w' := by
  have hML := parcM_len (L := L) (z := ⟨0, 0, u, v⟩)
  generalize hR : setL L (parcM L ⟨0, 0, u, v⟩).1 = R at hB
  have hRL : R.length = L.length := by rw [← hR]; exact setL_len hML
  have HR := Lib.hid hR
  have HBV := Lib.hid hB
  clear hML hR hB
  go_enter Try.func10, Try.ntmps10
  go_wp2_with fail
  with_reducible refine (svps_v _ c L true _ h hL hv).mono ?_
  rintro e w1 ⟨rfl, hbb⟩
  have HB := Lib.hid hbb
  clear hbb
  go_wp2_with fail
  with_reducible refine (goodRoom_v _ _ true _ hr).mono ?_
  rintro e w2 ⟨rfl, rfl⟩
  go_wp2_with fail
  refine (packed_v A c L ⟨0, 0, u, v⟩ _ (h.keep HB.out) hcap hv (rmB_ok hr) _ _ rfl).mono ?_
  rintro e w3 ⟨⟨x, rfl, hk⟩, hbb⟩
  replace HB := Lib.hid (bkeep2 HB.out hbb)
  rw [HR.out] at hk
  obtain ⟨G, cg, rfl, hk⟩ := hk
  have HK := Lib.hid hk
  rw [hRL]
  clear hbb hk
  go_wp2_with fail
  go_loopw [8] (fun i wr => ∃ k : Nat, k ≤ L.length ∧ i = .int .i64 k ∧ fitB (L.drop k) (R.drop k) = B ∧ Below w3.heap.size w3 wr) (fun i _ => L.length - (intOf i).toNat)
  case atStart => exact ⟨0, by omega, rfl, by simpa using HBV.out, Below.refl _ _⟩
  case round =>
    obtain ⟨k, hk, rfl, hf, hB⟩ := hrel
    by_cases hlt : k < L.length
    · have hd : decide ((k : Int) < (L.length : Int)) = true := by simpa using hlt
      obtain ⟨b, off, rfl, hb, hps⟩ := ((h.keep HB.out).keep hB).cells (by omega)
      have hget : L[k]? = some L[k] := List.getElem?_eq_getElem hlt
      obtain ⟨c0, c1, c2, c3, c4, c5, c6, c7, c8⟩ := hps k _ hget
      generalize hx : L[k] = p at *
      have hkR : k < R.length := by omega
      obtain ⟨g, rfl, hgl3, hc⟩ := HK.out (by omega)
      have hgetR : R[k]? = some R[k] := List.getElem?_eq_getElem hkR
      obtain ⟨r0, r1, r2, r3⟩ := (hc k _ hgetR).at (hB.block g hgl3)
      generalize hy : R[k] = r at *
      rw [fit_step hget hgetR] at hf
      have HBB := Lib.hid hB
      have HF := Lib.hid hf
      clear hget hx hgetR hy hc hB hps hf
      by_cases h1 : r.u < p.w
      · have d1 : decide (r.u < p.w) = true := by simpa using h1
        have hBf : B = false := by rw [← HF.out]; simp; omega
        subst hBf
        go_wp2_with fail
        go_region
        go_wp2
        go_ret
        exact ⟨rfl, HB.out.trans ((Below.drew HBB.out).mono HB.out.size)⟩
      · have d1 : decide (r.u < p.w) = false := by simpa using h1
        by_cases h2 : r.v < p.h
        · have d2 : decide (r.v < p.h) = true := by simpa using h2
          have hBf : B = false := by rw [← HF.out]; simp; omega
          subst hBf
          go_wp2_with fail
          go_region
          go_wp2
          try (go_region; go_wp2)
          go_ret
          exact ⟨rfl, HB.out.trans ((Below.drew HBB.out).mono HB.out.size)⟩
        · have d2 : decide (r.v < p.h) = false := by simpa using h2
          have e1 : decide (p.w ≤ r.u) = true := by simp; omega
          have e2 : decide (p.h ≤ r.v) = true := by simp; omega
          have HF2 : Hid (fitB (L.drop (k + 1)) (R.drop (k + 1)) = B) := Lib.hid (by have := HF.out; rw [e1, e2] at this; simpa using this)
          clear e1 e2
          go_wp2_with fail
          go_region
          go_wp2
          try (go_region; go_wp2)
          go_roundw
          case rel => exact ⟨k + 1, by omega, by go_num, HF2.out, Below.drew HBB.out⟩
          case measure => simp [intOf]; omega
    · have hd : decide ((k : Int) < (L.length : Int)) = false := by simp; omega
      obtain rfl : k = L.length := by omega
      rw [fit_end] at hf
      subst hf
      have HBB := Lib.hid hB
      clear hB
      go_wp2
      go_ret
      exact ⟨rfl, HB.out.trans (HBB.out.mono HB.out.size)⟩
end Go.Proofs.Ytjdjahckdgbkbab
end
section
set_option linter.unusedVariables false
namespace Go.Proofs.Ytjdjahckdgbkbab
theorem half_bd {a k : Int} (h0 : 0 ≤ a) (h1 : 0 ≤ k) (h2 : k ≤ 2) : 0 ≤ a * k / 2 ∧ a * k / 2 ≤ a := by
  have e : k = 0 ∨ k = 1 ∨ k = 2 := by omega
  rcases e with rfl | rfl | rfl <;> omega
theorem insP_inn {p : Pk} {r : Rc} (h : p.ok = true) (hr : r.ok = true) : r.inn (insP r p.px p.py) := by
  obtain ⟨_, _, _, _, h5, h6⟩ := ok_all h
  have a5 := rng_iff.1 h5
  have a6 := rng_iff.1 h6
  obtain ⟨a1, a2, a3, a4, b1, b2, b3, b4⟩ := vr_iff.1 hr
  have m1 := mn_spec p.px (r.u / 2)
  have m2 := mn_spec p.py (r.v / 2)
  have m3 := mx_spec (r.u - 2 * p.px) 0
  have m4 := mx_spec (r.v - 2 * p.py) 0
  unfold Rc.inn
  dsimp only [insP]
  omega
theorem ancP_inn {r : Rc} {a b k : Int} (hr : r.ok = true) (ha : 0 ≤ a) (hb : 0 ≤ b) (h0 : 0 ≤ k) (h8 : k ≤ 8) : r.inn (ancP r a b k) := by
  obtain ⟨a1, a2, a3, a4, b1, b2, b3, b4⟩ := vr_iff.1 hr
  have m1 := mn_spec a r.u
  have m2 := mn_spec b r.v
  have e1 := half_bd (a := r.u - mn a r.u) (k := k % 3) (by omega) (by omega) (by omega)
  have e2 := half_bd (a := r.v - mn b r.v) (k := k / 3) (by omega) (by omega) (by omega)
  unfold Rc.inn
  dsimp only [ancP]
  omega
theorem wP_bd {p : Pk} {r : Rc} (h : p.ok = true) (hr : r.ok = true) : 0 ≤ wP p r ∧ 0 ≤ hP p r := by
  obtain ⟨h1, h2, _, _, _, _⟩ := ok_all h
  have a1 := rng_iff.1 h1
  have a2 := rng_iff.1 h2
  obtain ⟨b1, b2, b3, b4, _⟩ := vr_iff.1 (ins_ok h hr)
  unfold wP hP
  exact ⟨by split <;> omega, by split <;> omega⟩
theorem setP_inn {p : Pk} {r : Rc} (h : p.ok = true) (hr : r.ok = true) : r.inn (setP p r) := by
  obtain ⟨_, _, _, h4, _, _⟩ := ok_all h
  have a4 := rng_iff.1 h4
  obtain ⟨w0, w1⟩ := wP_bd h hr
  exact Rc.inn_trans (insP_inn h hr) (ancP_inn (ins_ok h hr) w0 w1 a4.1 a4.2)
theorem setP_u {p : Pk} {r : Rc} (hf : p.fx = false) : (setP p r).u ≤ p.w := by
  have := mn_spec (wP p r) (insP r p.px p.py).u
  show mn (wP p r) (insP r p.px p.py).u ≤ p.w
  simp only [wP, hf] at *
  simpa using (mn_spec p.w (insP r p.px p.py).u).1
theorem setP_v {p : Pk} {r : Rc} (hf : p.fy = false) : (setP p r).v ≤ p.h := by
  show mn (hP p r) (insP r p.px p.py).v ≤ p.h
  simp only [hP, hf]
  simpa using (mn_spec p.h (insP r p.px p.py).v).1
theorem mn_self (a : Int) : mn a a = a := by unfold mn; split <;> rfl
theorem setP_fill {p : Pk} {r : Rc} (h1 : p.fx = true) (h2 : p.fy = true) : setP p r = insP r p.px p.py := by
  simp [setP, ancP, wP, hP, h1, h2, mn_self]
/-- the item fits exactly if its parcel is great enough -/
theorem setP_fit {p : Pk} {r : Rc} (h : p.ok = true) (hr : r.ok = true) :
    (p.need false ≤ r.u → p.w ≤ (setP p r).u) ∧ (p.need true ≤ r.v → p.h ≤ (setP p r).v) ∧ (0 < p.w → p.w ≤ (setP p r).u → p.need false ≤ r.u) ∧ (0 < p.h → p.h ≤ (setP p r).v → p.need true ≤ r.v) := by
  have hv := vpB_iff.1 h
  obtain ⟨a1, a2, a3, a4, b1, b2, b3, b4⟩ := vr_iff.1 hr
  have e1 : (setP p r).u = mn (wP p r) (mx (r.u - 2 * p.px) 0) := rfl
  have e2 : (setP p r).v = mn (hP p r) (mx (r.v - 2 * p.py) 0) := rfl
  have f1 : wP p r = p.w ∨ wP p r = mx (r.u - 2 * p.px) 0 := by unfold wP; split; exact .inr rfl; exact .inl rfl
  have f2 : hP p r = p.h ∨ hP p r = mx (r.v - 2 * p.py) 0 := by unfold hP; split; exact .inr rfl; exact .inl rfl
  have m1 := mn_spec (wP p r) (mx (r.u - 2 * p.px) 0)
  have m2 := mn_spec (hP p r) (mx (r.v - 2 * p.py) 0)
  have m3 := mx_spec (r.u - 2 * p.px) 0
  have m4 := mx_spec (r.v - 2 * p.py) 0
  rw [e1, e2]
  have n1 : p.need false = p.w + 2 * p.px := rfl
  have n2 : p.need true = p.h + 2 * p.py := rfl
  rw [n1, n2]
  refine ⟨fun _ => ?_, fun _ => ?_, fun _ _ => ?_, fun _ _ => ?_⟩ <;> omega
theorem fitB_cons {p : Pk} {t : List Pk} {r : Rc} {s : List Rc} : fitB (p :: t) (r :: s) = true ↔ p.w ≤ r.u ∧ p.h ≤ r.v ∧ fitB t s = true := by
  simp [fitB]
theorem setL_cons {p : Pk} {t : List Pk} {r : Rc} {s : List Rc} : setL (p :: t) (r :: s) = setP p r :: setL t s := rfl
theorem reqD_eq (L : List Pk) : reqD L false = (reqM L).1 ∧ reqD L true = (reqM L).2 := ⟨rfl, rfl⟩
theorem takeOf_ge {p : Pk} {t : List Pk} {z : Rc} (hL : ∀ q ∈ p :: t, q.ok = true) (hz : z.ok = true) : p.need p.down ≤ takeOf p t z := by
  have := moreOf_bd hL hz
  unfold takeOf; omega
theorem takeOf_le {p : Pk} {t : List Pk} {z : Rc} (hL : ∀ q ∈ p :: t, q.ok = true) (hz : z.ok = true) (h : reqD (p :: t) p.down ≤ z.size p.down) : takeOf p t z ≤ z.size p.down - reqD t p.down := by
  have hs := Rc.size_bd hz p.down
  have e := reqD_same (p := p) (t := t) (d := p.down) rfl
  unfold takeOf
  simp only [moreOf]
  cases hx : p.ex
  · simp; omega
  · have := (share_room (rm := z.size p.down) hL hx hs.1).2
    have m := mx_spec (z.size p.down - reqD (p :: t) p.down) 0
    simp only [if_true]; omega
/-- the piece and the rest, by direction -/
theorem cutP_size {r : Rc} {s n : Int} (h0 : 0 ≤ s) (h3 : s ≤ 3) (p : Pk) (hs : p.s = s) :
    (cutP r s n).1.size p.down = mn n (r.size p.down) ∧ (cutP r s n).2.size p.down = r.size p.down - mn n (r.size p.down) ∧ (cutP r s n).1.size (!p.down) = r.size (!p.down) ∧ (cutP r s n).2.size (!p.down) = r.size (!p.down) := by
  unfold cutP
  by_cases e0 : s = 0
  · have hd : p.down = true := by simp [Pk.down, hs, e0]
    rw [hd, if_pos e0]; simp [Rc.size]
  · by_cases e1 : s = 1
    · have hd : p.down = true := by simp [Pk.down, hs, e1]
      rw [hd, if_neg e0, if_pos e1]; simp [Rc.size]
    · have hd : p.down = false := by simp [Pk.down, hs, e0, e1]
      rw [hd, if_neg e0, if_neg e1]
      split <;> simp [Rc.size]
theorem need_all {p : Pk} {r : Rc} (h1 : p.need p.down ≤ r.size p.down) (h2 : p.need (!p.down) ≤ r.size (!p.down)) : p.need false ≤ r.u ∧ p.need true ≤ r.v := by
  cases hd : p.down <;> simp [hd, Rc.size] at h1 h2 <;> exact ⟨by assumption, by assumption⟩
theorem need_of {p : Pk} {r : Rc} (h1 : p.need false ≤ r.u) (h2 : p.need true ≤ r.v) : p.need p.down ≤ r.size p.down ∧ p.need (!p.down) ≤ r.size (!p.down) := by
  cases hd : p.down <;> simp [Rc.size] <;> exact ⟨by assumption, by assumption⟩
theorem req_of (L : List Pk) (z : Rc) (d : Bool) : (reqD L d ≤ z.size d ∧ reqD L (!d) ≤ z.size (!d)) ↔ ((reqM L).1 ≤ z.u ∧ (reqM L).2 ≤ z.v) := by
  cases d <;> simp [reqD, Rc.size] <;> exact And.comm
theorem fits_if : ∀ {L : List Pk} {z : Rc}, (∀ p ∈ L, p.ok = true) → z.ok = true → (reqM L).1 ≤ z.u → (reqM L).2 ≤ z.v → fitB L (setL L (parcM L z).1) = true
  | [], z, _, _, _, _ => by simp [parcM, setL, fitB]
  | p :: t, z, hL, hz, h1, h2 => by
    have hp := hL p List.mem_cons_self
    have ht : ∀ q ∈ t, q.ok = true := fun q hq => hL q (List.mem_cons_of_mem _ hq)
    obtain ⟨b1, b2⟩ := takeOf_bd hL hz
    obtain ⟨o1, o2⟩ := cutP_ok (s := p.s) hz b1
    have hs := (vpB_iff.1 hp).2.2.1
    obtain ⟨c1, c2, c3, c4⟩ := cutP_size (r := z) (n := takeOf p t z) hs.1 hs.2 p rfl
    obtain ⟨q1, q2⟩ := (req_of (p :: t) z p.down).2 ⟨h1, h2⟩
    have g1 := takeOf_ge hL hz
    have g2 := takeOf_le hL hz q1
    have e1 := reqD_same (p := p) (t := t) (d := p.down) rfl
    have e2 : reqD (p :: t) (!p.down) = mx (reqD t (!p.down)) (p.need (!p.down)) := reqD_other (by simp)
    have m := mx_spec (reqD t (!p.down)) (p.need (!p.down))
    have mm := mn_spec (takeOf p t z) (z.size p.down)
    have rb := reqD_bd ht p.down
    simp only [parcM, setL_cons, fitB_cons]
    obtain ⟨n1, n2⟩ := need_all (p := p) (r := (cutP z p.s (takeOf p t z)).1) (by omega) (by omega)
    obtain ⟨f1, f2, _, _⟩ := setP_fit hp o1
    refine ⟨f1 n1, f2 n2, ?_⟩
    have hh := (req_of t (cutP z p.s (takeOf p t z)).2 p.down).1 ⟨by omega, by omega⟩
    exact fits_if ht o2 hh.1 hh.2
theorem fits_only : ∀ {L : List Pk} {z : Rc}, (∀ p ∈ L, p.ok = true) → (∀ p ∈ L, 0 < p.w ∧ 0 < p.h) → z.ok = true → fitB L (setL L (parcM L z).1) = true → (reqM L).1 ≤ z.u ∧ (reqM L).2 ≤ z.v
  | [], z, _, _, hz, _ => by
    obtain ⟨a1, a2, a3, a4, b1, b2, b3, b4⟩ := vr_iff.1 hz
    simp [reqM]; omega
  | p :: t, z, hL, h0, hz, hf => by
    have hp := hL p List.mem_cons_self
    have ht : ∀ q ∈ t, q.ok = true := fun q hq => hL q (List.mem_cons_of_mem _ hq)
    obtain ⟨b1, b2⟩ := takeOf_bd hL hz
    obtain ⟨o1, o2⟩ := cutP_ok (s := p.s) hz b1
    have hs := (vpB_iff.1 hp).2.2.1
    obtain ⟨c1, c2, c3, c4⟩ := cutP_size (r := z) (n := takeOf p t z) hs.1 hs.2 p rfl
    simp only [parcM, setL_cons, fitB_cons] at hf
    obtain ⟨f1, f2, f3⟩ := hf
    obtain ⟨_, _, g3, g4⟩ := setP_fit hp o1
    obtain ⟨w0, w1⟩ := h0 p List.mem_cons_self
    obtain ⟨n1, n2⟩ := need_of (g3 w0 f1) (g4 w1 f2)
    obtain ⟨i1, i2⟩ := fits_only ht (fun q hq => h0 q (List.mem_cons_of_mem _ hq)) o2 f3
    obtain ⟨q1, q2⟩ := (req_of t (cutP z p.s (takeOf p t z)).2 p.down).2 ⟨i1, i2⟩
    have e1 := reqD_same (p := p) (t := t) (d := p.down) rfl
    have e2 : reqD (p :: t) (!p.down) = mx (reqD t (!p.down)) (p.need (!p.down)) := reqD_other (by simp)
    have m := mx_spec (reqD t (!p.down)) (p.need (!p.down))
    have mm := mn_spec (takeOf p t z) (z.size p.down)
    exact (req_of (p :: t) z p.down).1 ⟨by omega, by omega⟩
end Go.Proofs.Ytjdjahckdgbkbab
end
section
namespace Go.Proofs.Ytjdjahckdgbkbab
open Go.RowKit
set_option linter.unusedVariables false
set_option maxHeartbeats 1000000
/-- the arguments are good -/
def gpB (L : List Pk) (u v : Int) : Bool := vpsB L && rmB u v
theorem gpB_yes {L : List Pk} {u v : Int} (h : gpB L u v = true) : vpsB L = true ∧ rmB u v = true := by simpa [gpB] using h
theorem gpB_no {L : List Pk} {u v : Int} (h : gpB L u v = false) : vpsB L = false ∨ (vpsB L = true ∧ rmB u v = false) := by
  unfold gpB at h
  cases hv : vpsB L
  · exact .inl rfl
  · rw [hv] at h; exact .inr ⟨rfl, by simpa using h⟩
def leftR (L : List Pk) (u v : Int) : Rc := if gpB L u v then (parcM L ⟨0, 0, u, v⟩).2 else ⟨0, 0, 0, 0⟩
def parL (L : List Pk) (u v : Int) : List Rc := if gpB L u v then (parcM L ⟨0, 0, u, v⟩).1 else []
def recL (L : List Pk) (u v : Int) : List Rc := if gpB L u v then setL L (parcM L ⟨0, 0, u, v⟩).1 else []
theorem parL_len {L : List Pk} {u v : Int} : (parL L u v).length ≤ 7 := by
  unfold parL
  split
  · rename_i h; rw [parcM_len]; exact (vpsB_iff.1 (gpB_yes h).1).2
  · simp
theorem recL_len {L : List Pk} {u v : Int} : (recL L u v).length ≤ 7 := by
  unfold recL
  split
  · rename_i h; rw [setL_len parcM_len]; exact (vpsB_iff.1 (gpB_yes h).1).2
  · simp
theorem PackLeft_c (A : Option Addr) (c : Nat) (L : List Pk) (u v : Int) (w : World) (h : PV w A L) (hcap : L.length ≤ c) (hL : L.length ≤ 1048576) (R : Rc) (hR : leftR L u v = R) :
    Calls Try.prog 25 #[.slice A L.length c, .int .i64 u, .int .i64 v] w fun e w' => e = .returned (.agg #[.int .i64 (R.x), .int .i64 (R.y), .int .i64 (R.u), .int .i64 (R.v)]) ∧ Below w.heap.size w w' := by
  subst hR
  unfold leftR
  cases hg : gpB L u v
  · exact PackLeft_no A c L u v w h hcap hL (gpB_no hg)
  · exact PackLeft_yes A c L u v w h hcap hL (gpB_yes hg).1 (gpB_yes hg).2 _ _ rfl
theorem sPackLeft_c (A : Option Addr) (c : Nat) (L : List Pk) (u v : Int) (w : World) (h : PV w A L) (hcap : L.length ≤ c) (hL : L.length ≤ 1048576) (R : Rc) (hR : leftR L u v = R) :
    Calls Try.prog 27 #[.slice A L.length c, .int .i64 u, .int .i64 v] w fun e w' => e = .returned (.agg #[.int .i64 (R.x), .int .i64 (R.y), .int .i64 (R.u), .int .i64 (R.v)]) ∧ Below w.heap.size w w' := by
  subst hR
  unfold leftR
  cases hg : gpB L u v
  · exact sPackLeft_no A c L u v w h hcap hL (gpB_no hg)
  · exact sPackLeft_yes A c L u v w h hcap hL (gpB_yes hg).1 (gpB_yes hg).2 _ _ rfl
theorem PackParcels_c (A : Option Addr) (c : Nat) (L : List Pk) (u v : Int) (w : World) (h : PV w A L) (hcap : L.length ≤ c) (hL : L.length ≤ 1048576) (M : List Rc) (hM : parL L u v = M) :
    Calls Try.prog 21 #[.slice A L.length c, .int .i64 u, .int .i64 v] w fun e w' => (∃ r, e = .returned r ∧ RV w' r M) ∧ Below w.heap.size w w' := by
  subst hM
  unfold parL
  cases hg : gpB L u v
  · exact (PackParcels_no A c L u v w h hcap hL (gpB_no hg)).mono fun e w' ⟨he, hb⟩ => ⟨⟨_, he, RV.nil _⟩, hb⟩
  · exact (PackParcels_yes A c L u v w h hcap hL (gpB_yes hg).1 (gpB_yes hg).2 _ _ rfl).mono fun e w' ⟨⟨g, he, _, hk⟩, hb⟩ => ⟨⟨_, he, RV.blk hk parcM_len.symm _⟩, hb⟩
theorem sPackParcels_c (A : Option Addr) (c : Nat) (L : List Pk) (u v : Int) (w : World) (h : PV w A L) (hcap : L.length ≤ c) (hL : L.length ≤ 1048576) (M : List Rc) (hM : parL L u v = M) :
    Calls Try.prog 31 #[.slice A L.length c, .int .i64 u, .int .i64 v] w fun e w' => (∃ r, e = .returned r ∧ RV w' r M) ∧ Below w.heap.size w w' := by
  subst hM
  unfold parL
  cases hg : gpB L u v
  · exact (sPackParcels_no A c L u v w h hcap hL (gpB_no hg)).mono fun e w' ⟨he, hb⟩ => ⟨⟨_, he, RV.nil _⟩, hb⟩
  · exact (sPackParcels_yes A c L u v w h hcap hL (gpB_yes hg).1 (gpB_yes hg).2 _ _ rfl).mono fun e w' ⟨⟨r, he, ho⟩, hb⟩ => ⟨⟨_, he, RV.own ho rfl⟩, hb⟩
theorem PackRects_c (A : Option Addr) (c : Nat) (L : List Pk) (u v : Int) (w : World) (h : PV w A L) (hcap : L.length ≤ c) (hL : L.length ≤ 1048576) (M : List Rc) (hM : recL L u v = M) :
    Calls Try.prog 18 #[.slice A L.length c, .int .i64 u, .int .i64 v] w fun e w' => (∃ r, e = .returned r ∧ RV w' r M) ∧ Below w.heap.size w w' := by
  subst hM
  unfold recL
  cases hg : gpB L u v
  · exact (PackRects_no A c L u v w h hcap hL (gpB_no hg)).mono fun e w' ⟨he, hb⟩ => ⟨⟨_, he, RV.nil _⟩, hb⟩
  · exact (PackRects_yes A c L u v w h hcap hL (gpB_yes hg).1 (gpB_yes hg).2 _ _ rfl).mono fun e w' ⟨⟨g, he, _, hk⟩, hb⟩ => ⟨⟨_, he, RV.blk hk (setL_len parcM_len).symm _⟩, hb⟩
theorem sPackRects_c (A : Option Addr) (c : Nat) (L : List Pk) (u v : Int) (w : World) (h : PV w A L) (hcap : L.length ≤ c) (hL : L.length ≤ 1048576) (M : List Rc) (hM : recL L u v = M) :
    Calls Try.prog 20 #[.slice A L.length c, .int .i64 u, .int .i64 v] w fun e w' => (∃ r, e = .returned r ∧ RV w' r M) ∧ Below w.heap.size w w' := by
  subst hM
  unfold recL
  cases hg : gpB L u v
  · exact (sPackRects_no A c L u v w h hcap hL (gpB_no hg)).mono fun e w' ⟨he, hb⟩ => ⟨⟨_, he, RV.nil _⟩, hb⟩
  · exact (sPackRects_yes A c L u v w h hcap hL (gpB_yes hg).1 (gpB_yes hg).2 _ _ rfl).mono fun e w' ⟨⟨r, he, ho⟩, hb⟩ => ⟨⟨_, he, ho⟩, hb⟩
theorem PackFits_c (A : Option Addr) (c : Nat) (L : List Pk) (u v : Int) (w : World) (h : PV w A L) (hcap : L.length ≤ c) (hL : L.length ≤ 1048576) (B : Bool) (hB : (gpB L u v && fitB L (recL L u v)) = B) :
    Calls Try.prog 12 #[.slice A L.length c, .int .i64 u, .int .i64 v] w fun e w' => e = .returned (.bool B) ∧ Below w.heap.size w w' := by
  subst hB
  unfold recL
  cases hg : gpB L u v
  · exact PackFits_no A c L u v w h hcap hL (gpB_no hg)
  · exact PackFits_yes A c L u v w h hcap hL (gpB_yes hg).1 (gpB_yes hg).2 _ rfl
theorem sPackFits_c (A : Option Addr) (c : Nat) (L : List Pk) (u v : Int) (w : World) (h : PV w A L) (hcap : L.length ≤ c) (hL : L.length ≤ 1048576) (B : Bool) (hB : (gpB L u v && fitB L (recL L u v)) = B) :
    Calls Try.prog 10 #[.slice A L.length c, .int .i64 u, .int .i64 v] w fun e w' => e = .returned (.bool B) ∧ Below w.heap.size w w' := by
  subst hB
  unfold recL
  cases hg : gpB L u v
  · exact sPackFits_no A c L u v w h hcap hL (gpB_no hg)
  · exact sPackFits_yes A c L u v w h hcap hL (gpB_yes hg).1 (gpB_yes hg).2 _ rfl
end Go.Proofs.Ytjdjahckdgbkbab
end
section
namespace Go.Proofs.Ytjdjahckdgbkbab
open Go.RowKit
set_option linter.unusedVariables false
set_option maxHeartbeats 4000000
attribute [local go_sem 5000] run_mx run_mn
attribute [local go_sem] Oper.semAt_some
/-- what comes: an index, and a valid item -/
structure BkE where
  i : Int
  p : Pk
  ok : p.big
def encB (x : BkE) : Array Value := #[.int .i64 x.i, .agg #[.int .i64 x.p.w, .int .i64 x.p.h, .int .i64 x.p.s, .bool x.p.fx, .bool x.p.fy, .bool x.p.ex, .int .i64 x.p.an, .int .i64 x.p.px, .int .i64 x.p.py]]
/-- what a round must keep -/
def KpB (n0 Bs : Nat) (W W' : World) : Prop := Below n0 W W' ∧ W'.heap[Bs]? = W.heap[Bs]?
theorem KpB.cell {n0 Bs : Nat} {W W' : World} (h : KpB n0 Bs W W') (o : Nat) : W'.cell? ⟨Bs, o, none⟩ = W.cell? ⟨Bs, o, none⟩ := World.cell?_of_block h.2
theorem KpB.refl (n0 Bs : Nat) (W : World) : KpB n0 Bs W W := ⟨Below.refl _ _, rfl⟩
theorem KpB.trans {n0 Bs : Nat} {A B C : World} (h : KpB n0 Bs A B) (k : KpB n0 Bs B C) : KpB n0 Bs A C := ⟨h.1.trans k.1, k.2.trans h.2⟩
/-- the slice reads as the list, in a block below n0 -/
def PVn (n0 : Nat) (W : World) (A : Option Addr) (L : List Pk) : Prop := 0 < L.length → ∃ b off, A = some ⟨b, off, none⟩ ∧ b < n0 ∧ PS W b off L
theorem PVn.below {n0 : Nat} {W W' : World} {A : Option Addr} {L : List Pk} (h : PVn n0 W A L) (hb : Below n0 W W') : PVn n0 W' A L := fun h0 =>
  let ⟨b, off, e, hl, hp⟩ := h h0; ⟨b, off, e, hl, fun i p hi => (hp i p hi).keep (hb.block b hl)⟩
set_option maxRecDepth 100000 in
theorem bk1_in (F : Fence) (n : Nat) (hF : F.fn 85) (hro : F.round = none) (hn : 1 ≤ n) (l Bs n0 : Nat) (A : Option Addr) (c : Nat) (L : List Pk) (hL : L.length ≤ 10) (hok : ∀ p ∈ L, p.big) (J Jx : List BkE → World → Prop)
    (hY : ∀ pre x W, J pre W → pre.length < L.length → YieldAt F (n - 1) Try.prog l (encB x) W fun e W' =>
      (e = .returned (.bool true) ∧ J (pre ++ [x]) W' ∧ KpB n0 Bs W W') ∨ (e = .returned (.bool false) ∧ Jx (pre ++ [x]) W'))
    (W : World) (hBs : W.cell? ⟨Bs, 0, none⟩ = some (.slice A L.length c)) (hp : PVn n0 W A L) (h0 : J [] W) :
    CallsIn F n Try.prog 85 #[.func (.yield l) #[] #[], .pointer (some ⟨Bs, 0, none⟩)] W fun e W' => (∃ v, e = .returned v) ∧
      ((∃ ys, ys.map BkE.p = L.reverse ∧ J ys W') ∨ (∃ pre, True ∧ Jx pre W')) := by
  refine callsIn_of_wp Try.func85 rfl hF ?_ hro
  simp only [Try.ntmps85, List.size_toArray, List.length_cons, List.length_nil, Nat.reduceAdd, Nat.reduceSub, Array.replicate_succ, Array.replicate_zero, List.push_toArray, List.append_toArray, List.nil_append, List.cons_append]
  gi_wp2
  gi_loopw [3] (fun i wr => ∃ k : Nat, k ≤ L.length ∧ i = .int .i64 ((k : Int) - 1) ∧ (∃ ys, ys.map BkE.p = (L.drop k).reverse ∧ J ys wr) ∧ KpB n0 Bs W wr)
    (fun i _ => (intOf i + 1).toNat)
  case atStart => exact ⟨L.length, Nat.le_refl _, rfl, ⟨[], by simp, h0⟩, KpB.refl _ _ _⟩
  case round =>
    obtain ⟨k, hk, rfl, ⟨ys, hys, hJs⟩, hK⟩ := hrel
    rcases k with _ | j
    · have hd : decide (((0 : Nat) : Int) - 1 ≥ 0) = false := by simp
      rw [List.drop_zero] at hys
      have HYS := Lib.hid hys
      clear hys
      gi_wp2
      go_end0
      exact ⟨⟨_, rfl⟩, .inl ⟨ys, HYS.out, hJs⟩⟩
    · have e1 : ((j + 1 : Nat) : Int) - 1 = (j : Int) := by omega
      rw [e1]
      have hlt : j < L.length := by omega
      have hd : decide ((j : Int) ≥ 0) = true := by simp
      have hd2 : decide ((0 : Int) ≤ (j : Int)) = true := by simp
      obtain ⟨b, off, rfl, hb, hps⟩ := hp.below hK.1 (by omega)
      have hget : L[j]? = some L[j] := List.getElem?_eq_getElem hlt
      obtain ⟨c0, c1, c2, c3, c4, c5, c6, c7, c8⟩ := hps j _ hget
      have hpok : L[j].big := hok _ (List.getElem_mem hlt)
      have hdrop := drop_cons hget
      generalize hx : L[j] = p at *
      have hl : ys.length < L.length := by
        have := congrArg List.length hys
        simp at this; omega
      have hcs := (hK.cell 0).trans hBs
      obtain ⟨fn, tmps, assign, body, hy, hR⟩ := hY ys ⟨j, p, hpok⟩ wr hJs hl
      dsimp only [encB] at hy
      have HYS := Lib.hid hys
      have HD := Lib.hid hdrop
      have HK := Lib.hid hK
      have HG := Lib.hid hget
      have HX := Lib.hid hx
      have HPS := Lib.hid hps
      clear hys hdrop hK hget hx hps e1
      have hjs : IntKind.i64.wrap ((j : Int) - 1) = (j : Int) - 1 := IntWalk.i64_in _ (by omega)
      gi_wp2
      refine hR.mono ?_
      rintro e W3 (⟨rfl, hJ3, hk3⟩ | ⟨rfl, hJx3⟩)
      · gi_wp2
        go_roundw
        case rel => exact ⟨j, by omega, by go_num, ⟨_, by rw [HD.out, List.reverse_cons, List.map_append, HYS.out]; rfl, hJ3⟩, HK.out.trans hk3⟩
        case measure => simp [intOf]
      · gi_wp2
        refine bodyPost_ret (results_none rfl _ _ _) rfl ?_
        exact ⟨⟨_, rfl⟩, .inr ⟨_, trivial, hJx3⟩⟩
end Go.Proofs.Ytjdjahckdgbkbab
end
section
namespace Go.Proofs.Ytjdjahckdgbkbab
open Go.RowKit
set_option linter.unusedVariables false
set_option maxHeartbeats 4000000
attribute [local go_sem 5000] run_mx run_mn
attribute [local go_sem] Oper.semAt_some
set_option maxRecDepth 100000 in
theorem backward_in (F : Fence) (n : Nat) (hF : F.fn 63) (hro : F.round = none) (a : Option Addr) (len cap : Nat) (w : World) :
    CallsIn F n Try.prog 63 #[.slice a len cap] w fun e w' => e = .returned (.func (.func 85) #[] #[.pointer (some ⟨w.heap.size, 0, none⟩)]) ∧ w' = w.alloc (.cells #[.slice a len cap] 25) := by
  refine callsIn_of_wp Try.func63 rfl hF ?_ hro
  simp only [Try.ntmps63, List.size_toArray, List.length_cons, List.length_nil, Nat.reduceAdd, Nat.reduceSub, Array.replicate_succ, Array.replicate_zero, List.push_toArray, List.append_toArray, List.nil_append, List.cons_append]
  gi_wp2
  go_ret
  exact ⟨rfl, rfl⟩
theorem bk_stops (F : Fence) (n : Nat) (hF : F.fn 85) (hro : F.round = none) (hn : 1 ≤ n) (Bs n0 : Nat) (A : Option Addr) (c : Nat) (L : List Pk) (hL : L.length ≤ 10) (hok : ∀ p ∈ L, p.big) (w : World) (hBs : Bs < w.heap.size) (hn0 : n0 ≤ w.heap.size)
    (hc : w.cell? ⟨Bs, 0, none⟩ = some (.slice A L.length c)) (hp : PVn n0 w A L) :
    SeqStopsK F n Try.prog 85 #[.pointer (some ⟨Bs, 0, none⟩)] encB (KpB n0 Bs) (fun ys => ys.map BkE.p = L.reverse) (fun _ => True) L.length w := fun l J Jx W hW _ _ hY h0 =>
  bk1_in F n hF hro hn l Bs n0 A c L hL hok J Jx hY W ((hW.cell (p := ⟨Bs, 0, none⟩) hBs).trans hc) (hp.below (hW.mono hn0)) h0
/-- what the items that have come need -/
def accB (d : Bool) : List BkE → Int
  | [] => 0
  | x :: t => if x.p.down = d then accB d t + x.p.need d else mx (accB d t) (x.p.need d)
theorem accB_bd (d : Bool) : ∀ ys : List BkE, 0 ≤ accB d ys ∧ accB d ys ≤ 1000000000020 * ys.length
  | [] => by simp [accB]
  | x :: t => by
    have := accB_bd d t
    have nb := Pk.need_bdW x.ok d
    have m := mx_spec (accB d t) (x.p.need d)
    simp only [accB, List.length_cons]
    split <;> omega
def acc (d : Bool) (ys : List BkE) : Int := accB d ys.reverse
theorem acc_bd (d : Bool) (ys : List BkE) : 0 ≤ acc d ys ∧ acc d ys ≤ 1000000000020 * ys.length := by have := accB_bd d ys.reverse; rwa [List.length_reverse] at this
theorem acc_same {d : Bool} {ys : List BkE} {x : BkE} (h : x.p.down = d) : acc d (ys ++ [x]) = acc d ys + x.p.need d := by
  simp [acc, accB, h]
theorem acc_other {d : Bool} {ys : List BkE} {x : BkE} (h : ¬ x.p.down = d) : acc d (ys ++ [x]) = mx (acc d ys) (x.p.need d) := by
  simp only [acc, List.reverse_append, List.reverse_cons, List.reverse_nil, List.nil_append, List.cons_append, accB, if_neg h]
theorem accB_req {d : Bool} : ∀ {ys : List BkE} {L : List Pk}, ys.map BkE.p = L → accB d ys = reqD L d
  | [], L, h => by
    simp at h; subst h
    rw [reqD_nil]; rfl
  | x :: t, L, h => by
    simp at h
    subst h
    have ih := accB_req (d := d) (ys := t) rfl
    by_cases hd : x.p.down = d
    · rw [reqD_same hd, ← ih, accB, if_pos hd]
    · rw [reqD_other hd, ← ih, accB, if_neg hd]
theorem acc_req {d : Bool} {ys : List BkE} {L : List Pk} (h : ys.map BkE.p = L.reverse) : acc d ys = reqD L d := by
  refine accB_req ?_
  rw [List.map_reverse, h, List.reverse_reverse]
theorem isDown_b (p : Pk) (b : Bool) (h : p.down = b) (w : World) : Calls Try.prog 64 #[.agg #[.int .i64 p.w, .int .i64 p.h, .int .i64 p.s, .bool p.fx, .bool p.fy, .bool p.ex, .int .i64 p.an, .int .i64 p.px, .int .i64 p.py]] w fun e w' => e = .returned (.bool b) ∧ Below w.heap.size w w' := by rw [← h]; exact isDown_v p w
theorem bdr {W w' : World} (h : Below W.drew.heap.size W.drew w') : Below W.heap.size W w' := (Below.refl _ _).drew.trans h
theorem keepsFrom_below {B : Nat} {W W' : World} (h : Below W.heap.size W W') : KeepsFrom B W W' := ⟨h.size, fun k o _ hk _ => (h.block k (Array.getElem?_eq_some_iff.1 hk).1).trans hk⟩
theorem kpB_below {n0 Bs : Nat} {W W' : World} (h : Below W.heap.size W W') (h0 : n0 ≤ W.heap.size) (hs : Bs < W.heap.size) : KpB n0 Bs W W' := ⟨h.mono h0, h.block Bs hs⟩
theorem round_end {w W w2 : World} {B0 : Nat} {A : Option Addr} {c : Nat} {L : List Pk} {d : Bool} {pre : List BkE} {x : BkE} {v u : Int} {T1 T2 T3 : TypeId} (b2 : Below W.heap.size W w2) (bS : Boxed W (w.heap.size + 1) T1 (.int .i64 u)) (bD : Boxed W w.heap.size T2 (.bool d)) (bL : Boxed W (w.heap.size + 1 + 1) T3 (.slice A L.length c)) (hB : Below w.heap.size w W) (hl : w.heap.size ≤ W.heap.size) (hv : acc d (pre ++ [x]) = v) :
    KeepsFrom B0 W (w2.setCell ⟨w.heap.size + 1, 0, none⟩ (.int .i64 v)) ∧ KpB w.heap.size (w.heap.size + 1 + 1) W (w2.setCell ⟨w.heap.size + 1, 0, none⟩ (.int .i64 v)) ∧
      ((Boxed (w2.setCell ⟨w.heap.size + 1, 0, none⟩ (.int .i64 v)) (w.heap.size + 1) T1 (.int .i64 (acc d (pre ++ [x]))) ∧ (Boxed (w2.setCell ⟨w.heap.size + 1, 0, none⟩ (.int .i64 v)) w.heap.size T2 (.bool d) ∧ Boxed (w2.setCell ⟨w.heap.size + 1, 0, none⟩ (.int .i64 v)) (w.heap.size + 1 + 1) T3 (.slice A L.length c))) ∧
        Below w.heap.size w (w2.setCell ⟨w.heap.size + 1, 0, none⟩ (.int .i64 v))) := by
  have cS : Boxed w2 (w.heap.size + 1) T1 (.int .i64 u) := (b2.block _ bS.lt).trans bS
  have cD : Boxed w2 w.heap.size T2 (.bool d) := (b2.block _ bD.lt).trans bD
  have cL : Boxed w2 (w.heap.size + 1 + 1) T3 (.slice A L.length c) := (b2.block _ bL.lt).trans bL
  refine ⟨(keepsFrom_below b2).trans ((KeepsOthers.setCell _ _ _).from _), (kpB_below b2 hl bL.lt).trans ⟨(Below.refl _ _).setCell (p := ⟨w.heap.size + 1, 0, none⟩) (by simp) _, Below.heap_setCell _ ⟨w.heap.size + 1, 0, none⟩ _ _ (by simp)⟩, ⟨⟨by rw [hv]; exact cS.set _, cD.other (by omega) _, cL.other (by omega) _⟩, (hB.trans (b2.mono hl)).setCell (p := ⟨w.heap.size + 1, 0, none⟩) (by simp) _⟩⟩
set_option maxRecDepth 100000 in
theorem packRequest_w (A : Option Addr) (c : Nat) (L : List Pk) (d : Bool) (w : World) (h : PV w A L) (hok : ∀ p ∈ L, p.big) (h7 : L.length ≤ 10) :
    Calls Try.prog 44 #[.slice A L.length c, .bool d] w fun e W' => e = .returned (.int .i64 (reqD L d)) ∧ Below w.heap.size w W' := by
  have HOK := Lib.hid hok
  clear hok
  refine (callsIn_wide (n := 6)).1 ?_
  refine callsIn_of_wp_marks Try.func44 rfl trivial ?_ rfl
  simp only [Try.ntmps44, List.size_toArray, List.length_cons, List.length_nil, Nat.reduceAdd, Nat.reduceSub, Array.replicate_succ, Array.replicate_zero, List.push_toArray, List.append_toArray, List.nil_append, List.cons_append]
  gi_wp2_with (refine ⟨trivial, ?_⟩; gi_at_call 63; refine (backward_in Fence.wide _ trivial rfl _ _ _ _).mono ?_; rintro e w' ⟨rfl, rfl⟩)
  have bL := Boxed.new ((w.alloc (.cells #[.bool d] 4)).alloc (.cells #[.int .i64 0] 3)) 25 (.slice A L.length c)
  have bS := (Boxed.new (w.alloc (.cells #[.bool d] 4)) 3 (.int .i64 0)).alloc (.cells #[.slice A L.length c] 25)
  have bD := ((Boxed.new w 4 (.bool d)).alloc (.cells #[.int .i64 0] 3)).alloc (.cells #[.slice A L.length c] 25)
  simp only [World.size_alloc] at bL bS bD
  have hB0 : Below w.heap.size w (((w.alloc (.cells #[.bool d] 4)).alloc (.cells #[.int .i64 0] 3)).alloc (.cells #[.slice A L.length c] 25)) := (((Below.refl _ w).alloc (Nat.le_refl _) _).alloc (by simp) _).alloc (by simp; omega) _
  have hsz : (((w.alloc (.cells #[.bool d] 4)).alloc (.cells #[.int .i64 0] 3)).alloc (.cells #[.slice A L.length c] 25)).heap.size = w.heap.size + 3 := by simp
  obtain ⟨W0, hW0⟩ : ∃ W0, ((w.alloc (.cells #[.bool d] 4)).alloc (.cells #[.int .i64 0] 3)).alloc (.cells #[.slice A L.length c] 25) = W0 := ⟨_, rfl⟩
  rw [hW0] at bL bS bD hB0 hsz ⊢
  clear hW0
  have hp0 : PVn w.heap.size W0 A L := PVn.below (fun h0 => let ⟨b, off, e, hl, hp⟩ := h.cells h0; ⟨b, off, e, hl, hp⟩) hB0
  refine wpIn_rangeFunc_ownH rfl (by omega) (gf := 85) (lb := #[.pointer (some ⟨w.heap.size + 1 + 1, 0, none⟩)]) rfl trivial (enters_of Try.func85 (by kernel_rfl) rfl)
    (bk_stops Fence.wide _ trivial rfl (by omega) (w.heap.size + 1 + 1) w.heap.size A c L h7 HOK.out W0 (by omega) (by omega) bL.cell hp0) KpB.trans
    (fun W l o o' hl ho hc hw => ⟨belowK_b (w := W0) (by omega) W l o o' hl ho hc hw, World.putObj_heap_other (by omega)⟩) (Below.refl _ _) (fun _ => rfl)
    (fun pre W => (Boxed W (w.heap.size + 1) 3 (.int .i64 (acc d pre)) ∧ (Boxed W w.heap.size 4 (.bool d) ∧ Boxed W (w.heap.size + 1 + 1) 25 (.slice A L.length c))) ∧ Below w.heap.size w W)
    (fun _ _ _ => False)
    (OwnFrom.and (OwnFrom.and (Own.from (boxed_own _ _ _) _) (OwnFrom.and (Own.from (boxed_own _ _ _) _) (Own.from (boxed_own _ _ _) _))) (ownFrom_below (Nat.le_refl _) (by omega)))
    (fun _ _ _ _ _ hs _ _ => hs)
    ⟨⟨bS, bD, bL⟩, hB0⟩
    (fun x a' W => ∃ Bx, w.heap.size + 2 < Bx ∧ W.heap[Bx]? = some (.cells #[.int .i64 x.p.w, .int .i64 x.p.h, .int .i64 x.p.s, .bool x.p.fx, .bool x.p.fy, .bool x.p.ex, .int .i64 x.p.an, .int .i64 x.p.px, .int .i64 x.p.py] 35 (0, 0)) ∧ a' = { tmps := #[.slice A L.length c, .bool d, undef, .pointer (some ⟨w.heap.size, 0, none⟩), .int .i64 0, .pointer (some ⟨w.heap.size + 1, 0, none⟩), undef, .pointer (some ⟨Bx, 0, none⟩), .slice A L.length c, .func (.func 85) #[] #[.pointer (some ⟨w.heap.size + 1 + 1, 0, none⟩)], .int .i64 x.i, .agg #[.int .i64 x.p.w, .int .i64 x.p.h, .int .i64 x.p.s, .bool x.p.fx, .bool x.p.fy, .bool x.p.ex, .int .i64 x.p.an, .int .i64 x.p.px, .int .i64 x.p.py], undef, undef, undef, undef, undef, undef, undef, undef, undef, undef, undef, undef, undef, undef, undef], defers := [] })
    (fun x a' _ X Y row hs hg hr => by
      obtain ⟨Bx, h1, h2, h3⟩ := hs
      exact ⟨Bx, h1, (hg.block Bx (Array.getElem?_eq_some_iff.1 h2).1 (fun e => by
        obtain ⟨_, o, ho, hoc⟩ := hr Bx e.symm
        rw [h2] at ho
        obtain rfl := Option.some.inj ho
        simp [Obj.isCells] at hoc)).trans h2, h3⟩)
    ?assign ?body ?done ?stop
  case assign =>
    rintro l pre x W K ⟨⟨bS1, bD1, bL1⟩, hB1⟩ hK
    have hlt2 := bL1.lt
    simp only [encB]
    gi_wp2
    refine hK _ _ ((KeepsOthers.alloc _ _).from _) ⟨(Below.refl _ W).alloc hB1.size _, Below.heap_alloc _ _ _ (by omega)⟩ ⟨⟨bS1.alloc _, bD1.alloc _, bL1.alloc _⟩, hB1.alloc hB1.size _⟩ ⟨W.heap.size, by omega, heap_new _ _, rfl⟩
  case body =>
    rintro l pre x a' W hl ⟨r, hr⟩ ⟨⟨bS1, bD1, bL1⟩, hB1⟩ ⟨Bx, hBx, hX, rfl⟩ hlt
    have cS := bS1.cell
    have fS := bS1.frozen
    have cD := bD1.cell
    have sS := bS1.lt
    have sD := bD1.lt
    have sL := bL1.lt
    have sX : Bx < W.heap.size := (Array.getElem?_eq_some_iff.1 hX).1
    obtain ⟨a1, a2⟩ := acc_bd d pre
    have nb := Pk.need_bdW x.ok d
    obtain ⟨c0, c1, c2, c3, c4, c5, c6, c7, c8⟩ := b9c hX
    have hmx : Try.prog.follows .mixedOrders = true := by kernel_rfl
    have hn1 : 1 ≤ 6 - 1 - 1 := by omega
    have hl0 : w.heap.size ≤ W.heap.size := hB1.size
    cases d <;> cases hdn : x.p.down
    · have hacc := acc_same (ys := pre) (x := x) (d := false) hdn
      have HA := Lib.hid hacc
      clear hacc
      gi_wp2
      gi_region_with_o (refine ⟨trivial, ?_⟩; gi_at_call 64; refine (CallsIn.inRound l (callsIn_wide.2 (isDown_b x.p false hdn _))).mono ?_; rintro e w1 ⟨rfl, hb1⟩; have b1 := bdr hb1; have kD := (b1.cell (p := ⟨w.heap.size, 0, none⟩) sD).trans cD; have kS := (b1.cell (p := ⟨w.heap.size + 1, 0, none⟩) sS).trans cS; have kX := (b1.block Bx sX).trans hX; obtain ⟨k0, k1, k2, k3, k4, k5, k6, k7, k8⟩ := b9c kX; have z1 := b1.size; have tS := Nat.lt_of_lt_of_le sS z1; have tD := Nat.lt_of_lt_of_le sD z1)
      all_goals
        gi_wp2
        gi_region_with_o (refine ⟨trivial, ?_⟩; gi_at_call 65; refine (CallsIn.inRound l (callsIn_wide.2 (need_w x.p false _ x.ok))).mono ?_; rintro e w2 ⟨rfl, hb2⟩; have b2 := b1.trans ((bdr hb2).mono z1); have jD := (b2.cell (p := ⟨w.heap.size, 0, none⟩) sD).trans cD; have jS := (b2.cell (p := ⟨w.heap.size + 1, 0, none⟩) sS).trans cS; have fS2 := (b2.frozen (p := ⟨w.heap.size + 1, 0, none⟩) sS).trans fS; clear kS kD k0 k1 k2 k3 k4 k5 k6 k7 k8)
        all_goals
          gi_wp2
          all_goals (try go_bits)
          all_goals exact round_end b2 bS1 bD1 bL1 hB1 hl0 HA.out
    · have hacc := acc_other (ys := pre) (x := x) (d := false) (by simp [hdn])
      have HA := Lib.hid hacc
      clear hacc
      gi_wp2
      gi_region_with_o (refine ⟨trivial, ?_⟩; gi_at_call 64; refine (CallsIn.inRound l (callsIn_wide.2 (isDown_b x.p true hdn _))).mono ?_; rintro e w1 ⟨rfl, hb1⟩; have b1 := bdr hb1; have kD := (b1.cell (p := ⟨w.heap.size, 0, none⟩) sD).trans cD; have kS := (b1.cell (p := ⟨w.heap.size + 1, 0, none⟩) sS).trans cS; have kX := (b1.block Bx sX).trans hX; obtain ⟨k0, k1, k2, k3, k4, k5, k6, k7, k8⟩ := b9c kX; have z1 := b1.size; have tS := Nat.lt_of_lt_of_le sS z1; have tD := Nat.lt_of_lt_of_le sD z1)
      all_goals
        gi_wp2
        gi_region_with_o (refine ⟨trivial, ?_⟩; gi_at_call 65; refine (CallsIn.inRound l (callsIn_wide.2 (need_w x.p false _ x.ok))).mono ?_; rintro e w2 ⟨rfl, hb2⟩; have b2 := b1.trans ((bdr hb2).mono z1); have jD := (b2.cell (p := ⟨w.heap.size, 0, none⟩) sD).trans cD; have jS := (b2.cell (p := ⟨w.heap.size + 1, 0, none⟩) sS).trans cS; have fS2 := (b2.frozen (p := ⟨w.heap.size + 1, 0, none⟩) sS).trans fS; clear kS kD k0 k1 k2 k3 k4 k5 k6 k7 k8)
        all_goals
          gi_wp2
          all_goals (try go_bits)
          all_goals exact round_end b2 bS1 bD1 bL1 hB1 hl0 HA.out
    · have hacc := acc_other (ys := pre) (x := x) (d := true) (by simp [hdn])
      have HA := Lib.hid hacc
      clear hacc
      gi_wp2
      gi_region_with_o (refine ⟨trivial, ?_⟩; gi_at_call 64; refine (CallsIn.inRound l (callsIn_wide.2 (isDown_b x.p false hdn _))).mono ?_; rintro e w1 ⟨rfl, hb1⟩; have b1 := bdr hb1; have kD := (b1.cell (p := ⟨w.heap.size, 0, none⟩) sD).trans cD; have kS := (b1.cell (p := ⟨w.heap.size + 1, 0, none⟩) sS).trans cS; have kX := (b1.block Bx sX).trans hX; obtain ⟨k0, k1, k2, k3, k4, k5, k6, k7, k8⟩ := b9c kX; have z1 := b1.size; have tS := Nat.lt_of_lt_of_le sS z1; have tD := Nat.lt_of_lt_of_le sD z1)
      all_goals
        gi_wp2
        gi_region_with_o (refine ⟨trivial, ?_⟩; gi_at_call 65; refine (CallsIn.inRound l (callsIn_wide.2 (need_w x.p true _ x.ok))).mono ?_; rintro e w2 ⟨rfl, hb2⟩; have b2 := b1.trans ((bdr hb2).mono z1); have jD := (b2.cell (p := ⟨w.heap.size, 0, none⟩) sD).trans cD; have jS := (b2.cell (p := ⟨w.heap.size + 1, 0, none⟩) sS).trans cS; have fS2 := (b2.frozen (p := ⟨w.heap.size + 1, 0, none⟩) sS).trans fS; clear kS kD k0 k1 k2 k3 k4 k5 k6 k7 k8)
        all_goals
          gi_wp2
          all_goals (try go_bits)
          all_goals exact round_end b2 bS1 bD1 bL1 hB1 hl0 HA.out
    · have hacc := acc_same (ys := pre) (x := x) (d := true) hdn
      have HA := Lib.hid hacc
      clear hacc
      gi_wp2
      gi_region_with_o (refine ⟨trivial, ?_⟩; gi_at_call 64; refine (CallsIn.inRound l (callsIn_wide.2 (isDown_b x.p true hdn _))).mono ?_; rintro e w1 ⟨rfl, hb1⟩; have b1 := bdr hb1; have kD := (b1.cell (p := ⟨w.heap.size, 0, none⟩) sD).trans cD; have kS := (b1.cell (p := ⟨w.heap.size + 1, 0, none⟩) sS).trans cS; have kX := (b1.block Bx sX).trans hX; obtain ⟨k0, k1, k2, k3, k4, k5, k6, k7, k8⟩ := b9c kX; have z1 := b1.size; have tS := Nat.lt_of_lt_of_le sS z1; have tD := Nat.lt_of_lt_of_le sD z1)
      all_goals
        gi_wp2
        gi_region_with_o (refine ⟨trivial, ?_⟩; gi_at_call 65; refine (CallsIn.inRound l (callsIn_wide.2 (need_w x.p true _ x.ok))).mono ?_; rintro e w2 ⟨rfl, hb2⟩; have b2 := b1.trans ((bdr hb2).mono z1); have jD := (b2.cell (p := ⟨w.heap.size, 0, none⟩) sD).trans cD; have jS := (b2.cell (p := ⟨w.heap.size + 1, 0, none⟩) sS).trans cS; have fS2 := (b2.frozen (p := ⟨w.heap.size + 1, 0, none⟩) sS).trans fS; clear kS kD k0 k1 k2 k3 k4 k5 k6 k7 k8)
        all_goals
          gi_wp2
          all_goals (try go_bits)
          all_goals exact round_end b2 bS1 bD1 bL1 hB1 hl0 HA.out
  case done =>
    rintro D ys W hD hys ⟨⟨bS1, bD1, bL1⟩, hB1⟩ hK
    have cS := bS1.cell
    rw [acc_req hys] at cS
    gi_wp2
    refine ⟨by simp, .inl ⟨_, _, rfl, run_takeDeferred hK, ?_⟩⟩
    exact ⟨_, results_tmp rfl _ _ _, rfl, hB1.trans (belowK_b (w := w) (Nat.le_refl _) W D _ _ (by omega) hK rfl rfl)⟩
  case stop =>
    rintro D c pre W _ _ h _
    exact h.elim
theorem packRequest_v (A : Option Addr) (c : Nat) (L : List Pk) (d : Bool) (w : World) (h : PV w A L) (hL : vpsB L = true) :
    Calls Try.prog 44 #[.slice A L.length c, .bool d] w fun e W' => e = .returned (.int .i64 (reqD L d)) ∧ Below w.heap.size w W' := by
  obtain ⟨hok, h7⟩ := vpsB_iff.1 hL
  exact packRequest_w A c L d w h (fun p hp => Pk.ok_big (hok p hp)) (by omega)
end Go.Proofs.Ytjdjahckdgbkbab
end
section
namespace Go.Proofs.Ytjdjahckdgbkbab
open Go.RowKit
set_option linter.unusedVariables false
set_option maxHeartbeats 1000000
attribute [local go_sem 5000] run_mx run_mn
def reqP (L : List Pk) : Int × Int := if vpsB L then reqM L else (-1, -1)
set_option maxRecDepth 100000 in
theorem PackRequest_c (A : Option Addr) (c n : Nat) (L : List Pk) (w : World) (h : PV w A L) (hn : n = L.length) (hL : n ≤ 1048576) (a b : Int) (hr : reqP L = (a, b)) :
    Calls Try.prog 16 #[.slice A n c] w fun e w' => e = .returned (.tuple #[.int .i64 a, .int .i64 b]) ∧ Below w.heap.size w w' := by
  subst hn
  unfold reqP at hr
  cases hv : vpsB L
  · rw [hv] at hr
    simp at hr
    obtain ⟨rfl, rfl⟩ := hr
    go_enter Try.func16, Try.ntmps16
    go_wp2_with fail
    with_reducible refine (vps_v _ c L false _ h hL hv).mono ?_
    rintro e w1 ⟨rfl, hbb⟩
    have HB := Lib.hid hbb
    clear hbb
    go_wp2
    exact bodyPost_ret (v := .tuple #[.int .i64 (-1), .int .i64 (-1)]) (by simp only [results, Try.results16]; go_simp) rfl ⟨rfl, HB.out⟩
  · rw [hv] at hr
    simp only [if_true] at hr
    have h1 : reqD L false = a := by show (reqM L).1 = a; rw [hr]
    have h2 : reqD L true = b := by show (reqM L).2 = b; rw [hr]
    have H1 := Lib.hid h1
    have H2 := Lib.hid h2
    clear h1 h2 hr
    go_enter Try.func16, Try.ntmps16
    go_wp2_with fail
    with_reducible refine (vps_v _ c L true _ h hL hv).mono ?_
    rintro e w1 ⟨rfl, hbb⟩
    have HB := Lib.hid hbb
    clear hbb
    go_wp2_with fail
    with_reducible refine (packRequest_v A c L false _ (h.keep HB.out) hv).mono ?_
    rintro e w2 ⟨rfl, hb2⟩
    rw [H1.out]
    replace HB := Lib.hid (bkeep2 HB.out hb2)
    clear hb2
    go_wp2_with fail
    with_reducible refine (packRequest_v A c L true _ (h.keep HB.out) hv).mono ?_
    rintro e w3 ⟨rfl, hb3⟩
    rw [H2.out]
    replace HB := Lib.hid (bkeep2 HB.out hb3)
    clear hb3
    go_wp2
    exact bodyPost_ret (v := .tuple #[.int .i64 a, .int .i64 b]) (by simp only [results, Try.results16]; go_simp) rfl ⟨rfl, HB.out⟩
end Go.Proofs.Ytjdjahckdgbkbab
end
