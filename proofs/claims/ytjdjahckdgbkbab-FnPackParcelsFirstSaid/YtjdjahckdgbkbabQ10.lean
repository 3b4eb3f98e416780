import Derived.Test.YtjdjahckdgbkbabQ09
section
namespace Go.Proofs.Ytjdjahckdgbkbab
open Go.RowKit
set_option linter.unusedVariables false
set_option maxHeartbeats 1000000
set_option maxRecDepth 100000 in
theorem PackRects_yes (A : Option Addr) (c : Nat) (L : List Pk) (u v : Int) (w : World) (h : PV w A L) (hcap : L.length ≤ c) (hL : L.length ≤ 1048576) (hv : vpsB L = true) (hr : rmB u v = true) (M : List Rc) (Z : Rc) (hM : parcM L ⟨0, 0, u, v⟩ = (M, Z)) :
    Calls Try.prog 18 #[.slice A L.length c, .int .i64 u, .int .i64 v] w fun e w' => (∃ g, e = .returned (.slice (some ⟨g, 0, none⟩) L.length L.length) ∧ w.heap.size ≤ g ∧ Blk4 w' g (setL L M)) ∧ Below w.heap.size w w' := by
  have HM := Lib.hid hM
  clear hM
  go_enter Try.func18, Try.ntmps18
  go_wp2_with fail
  with_reducible refine (vps_v _ c L true _ h hL hv).mono ?_
  rintro e w1 ⟨rfl, hbb⟩
  have HB := Lib.hid hbb
  clear hbb
  go_wp2_with fail
  with_reducible refine (validRoom_v _ _ true _ hr).mono ?_
  rintro e w2 ⟨rfl, rfl⟩
  go_wp2_with fail
  refine (packRects_v A c L ⟨0, 0, u, v⟩ _ (h.keep HB.out) hcap hv (rmB_ok hr) M Z HM.out).mono ?_
  rintro e w3 ⟨⟨g, rfl, hg, hk⟩, hbb⟩
  replace hg := Nat.le_trans HB.out.size hg
  replace HB := Lib.hid (bkeep2 HB.out hbb)
  have HK := Lib.hid hk
  clear hbb hk
  go_wp2
  go_ret
  exact ⟨⟨_, rfl, hg, HK.out⟩, HB.out⟩
set_option maxRecDepth 100000 in
theorem PackRects_no (A : Option Addr) (c : Nat) (L : List Pk) (u v : Int) (w : World) (h : PV w A L) (hcap : L.length ≤ c) (hL : L.length ≤ 1048576) (hn : vpsB L = false ∨ (vpsB L = true ∧ rmB u v = false)) :
    Calls Try.prog 18 #[.slice A L.length c, .int .i64 u, .int .i64 v] w fun e w' => e = .returned (.slice none 0 0) ∧ Below w.heap.size w w' := by
  rcases hn with hv | ⟨hv, hr⟩
  · go_enter Try.func18, Try.ntmps18
    go_wp2_with fail
    with_reducible refine (vps_v _ c L false _ h hL hv).mono ?_
    rintro e w1 ⟨rfl, hbb⟩
    have HB := Lib.hid hbb
    clear hbb
    go_wp2
    go_ret
    exact ⟨rfl, HB.out⟩
  · go_enter Try.func18, Try.ntmps18
    go_wp2_with fail
    with_reducible refine (vps_v _ c L true _ h hL hv).mono ?_
    rintro e w1 ⟨rfl, hbb⟩
    have HB := Lib.hid hbb
    clear hbb
    go_wp2_with fail
    with_reducible refine (validRoom_v _ _ false _ hr).mono ?_
    rintro e w2 ⟨rfl, rfl⟩
    go_wp2
    go_ret
    exact ⟨rfl, HB.out⟩
set_option maxRecDepth 100000 in
theorem sPackRects_yes (A : Option Addr) (c : Nat) (L : List Pk) (u v : Int) (w : World) (h : PV w A L) (hcap : L.length ≤ c) (hL : L.length ≤ 1048576) (hv : vpsB L = true) (hr : rmB u v = true) (M : List Rc) (Z : Rc) (hM : parcM L ⟨0, 0, u, v⟩ = (M, Z)) :
    Calls Try.prog 20 #[.slice A L.length c, .int .i64 u, .int .i64 v] w fun e w' => (∃ v, e = .returned v ∧ RV w' v (setL L M)) ∧ Below w.heap.size w w' := by
  have HM := Lib.hid hM
  clear hM
  go_enter Try.func20, Try.ntmps20
  go_wp2_with fail
  with_reducible refine (svps_v _ c L true _ h hL hv).mono ?_
  rintro e w1 ⟨rfl, hbb⟩
  have HB := Lib.hid hbb
  clear hbb
  go_wp2_with fail
  with_reducible refine (goodRoom_v _ _ true _ hr).mono ?_
  rintro e w2 ⟨rfl, rfl⟩
  go_wp2_with fail
  refine (packed_v A c L ⟨0, 0, u, v⟩ _ (h.keep HB.out) hcap hv (rmB_ok hr) M Z HM.out).mono ?_
  rintro e w3 ⟨⟨rv, rfl, hk⟩, hbb⟩
  replace HB := Lib.hid (bkeep2 HB.out hbb)
  have HK := Lib.hid hk
  clear hbb hk
  go_wp2
  go_ret
  exact ⟨⟨_, rfl, HK.out⟩, HB.out⟩
set_option maxRecDepth 100000 in
theorem sPackRects_no (A : Option Addr) (c : Nat) (L : List Pk) (u v : Int) (w : World) (h : PV w A L) (hcap : L.length ≤ c) (hL : L.length ≤ 1048576) (hn : vpsB L = false ∨ (vpsB L = true ∧ rmB u v = false)) :
    Calls Try.prog 20 #[.slice A L.length c, .int .i64 u, .int .i64 v] w fun e w' => e = .returned (.slice none 0 0) ∧ Below w.heap.size w w' := by
  rcases hn with hv | ⟨hv, hr⟩
  · go_enter Try.func20, Try.ntmps20
    go_wp2_with fail
    with_reducible refine (svps_v _ c L false _ h hL hv).mono ?_
    rintro e w1 ⟨rfl, hbb⟩
    have HB := Lib.hid hbb
    clear hbb
    go_wp2
    go_ret
    exact ⟨rfl, HB.out⟩
  · go_enter Try.func20, Try.ntmps20
    go_wp2_with fail
    with_reducible refine (svps_v _ c L true _ h hL hv).mono ?_
    rintro e w1 ⟨rfl, hbb⟩
    have HB := Lib.hid hbb
    clear hbb
    go_wp2_with fail
    with_reducible refine (goodRoom_v _ _ false _ hr).mono ?_
    rintro e w2 ⟨rfl, rfl⟩
    go_wp2
    go_ret
    exact ⟨rfl, HB.out⟩
end Go.Proofs.Ytjdjahckdgbkbab
end
section
namespace Go.Proofs.Ytjdjahckdgbkbab
open Go.RowKit
set_option linter.unusedVariables false
set_option maxHeartbeats 1000000
def fitB : List Pk → List Rc → Bool
  | p :: t, r :: s => decide (p.w ≤ r.u) && (decide (p.h ≤ r.v) && fitB t s)
  | _, _ => true
theorem fit_step {L : List Pk} {R : List Rc} {k : Nat} {p : Pk} {r : Rc} (hp : L[k]? = some p) (hr : R[k]? = some r) : fitB (L.drop k) (R.drop k) = (decide (p.w ≤ r.u) && (decide (p.h ≤ r.v) && fitB (L.drop (k + 1)) (R.drop (k + 1)))) := by
  obtain ⟨hl, e⟩ := List.getElem?_eq_some_iff.1 hp
  obtain ⟨hl', e'⟩ := List.getElem?_eq_some_iff.1 hr
  rw [List.drop_eq_getElem_cons hl, List.drop_eq_getElem_cons hl', e, e']; rfl
theorem fit_end {L : List Pk} {R : List Rc} : fitB (L.drop L.length) R = true := by rw [List.drop_length]; unfold fitB; rfl
def fitsB (L : List Pk) (u v : Int) : Bool := vpsB L && (rmB u v && fitB L (setL L (parcM L ⟨0, 0, u, v⟩).1))
set_option maxRecDepth 100000 in
theorem PackFits_yes (A : Option Addr) (c : Nat) (L : List Pk) (u v : Int) (w : World) (h : PV w A L) (hcap : L.length ≤ c) (hL : L.length ≤ 1048576) (hv : vpsB L = true) (hr : rmB u v = true) (B : Bool) (hB : fitB L (setL L (parcM L ⟨0, 0, u, v⟩).1) = B) :
    Calls Try.prog 12 #[.slice A L.length c, .int .i64 u, .int .i64 v] w fun e w' => e = .returned (.bool B) ∧ Below w.heap.size w w' := by
  have hML := parcM_len (L := L) (z := ⟨0, 0, u, v⟩)
  generalize hR : setL L (parcM L ⟨0, 0, u, v⟩).1 = R at hB
  have hRL : R.length = L.length := by rw [← hR]; exact setL_len hML
  have HR := Lib.hid hR
  have HBV := Lib.hid hB
  clear hML hR hB
  go_enter Try.func12, Try.ntmps12
  go_wp2_with fail
  with_reducible refine (vps_v _ c L true _ h hL hv).mono ?_
  rintro e w1 ⟨rfl, hbb⟩
  have HB := Lib.hid hbb
  clear hbb
  go_wp2_with fail
  with_reducible refine (validRoom_v _ _ true _ hr).mono ?_
  rintro e w2 ⟨rfl, rfl⟩
  go_wp2_with fail
  refine (packRects_v A c L ⟨0, 0, u, v⟩ _ (h.keep HB.out) hcap hv (rmB_ok hr) _ _ rfl).mono ?_
  rintro e w3 ⟨⟨g, rfl, hg, hk⟩, hbb⟩
  replace HB := Lib.hid (bkeep2 HB.out hbb)
  rw [HR.out] at hk
  have HK := Lib.hid hk
  clear hbb hk hg
  go_wp2_with fail
  go_loopw [24] (fun i wr => ∃ k : Nat, k ≤ L.length ∧ i = .int .i64 k ∧ fitB (L.drop k) (R.drop k) = B ∧ Below w3.heap.size w3 wr) (fun i _ => L.length - (intOf i).toNat)
  case atStart => exact ⟨0, by omega, rfl, by simpa using HBV.out, Below.refl _ _⟩
  case round =>
    obtain ⟨k, hk, rfl, hf, hB⟩ := hrel
    by_cases hlt : k < L.length
    · have hd : decide ((k : Int) < (L.length : Int)) = true := by simpa using hlt
      obtain ⟨b, off, rfl, hb, hps⟩ := ((h.keep HB.out).keep hB).cells (by omega)
      have hget : L[k]? = some L[k] := List.getElem?_eq_getElem hlt
      obtain ⟨c0, c1, c2, c3, c4, c5, c6, c7, c8⟩ := hps k _ hget
      generalize hx : L[k] = p at *
      obtain ⟨cs, hh, hs, hc⟩ := HK.out.keep hB
      have hkR : k < R.length := by omega
      have hgetR : R[k]? = some R[k] := List.getElem?_eq_getElem hkR
      obtain ⟨r0, r1, r2, r3⟩ := (hc k _ hgetR).cells hh
      generalize hy : R[k] = r at *
      rw [fit_step hget hgetR] at hf
      have hgl : g < wr.heap.size := (Array.getElem?_eq_some_iff.1 hh).1
      have hgn : ¬ g = wr.heap.size := by omega
      have hbn : ¬ b = wr.heap.size := by omega
      have HBB := Lib.hid hB
      have HF := Lib.hid hf
      clear hget hx hgetR hy hh hs hc hB hps hf
      by_cases h1 : r.u < p.w
      · have d1 : decide (r.u < p.w) = true := by simpa using h1
        have hBf : B = false := by rw [← HF.out]; simp; omega
        subst hBf
        go_wp2_with fail
        go_region
        go_wp2
        go_ret
        exact ⟨rfl, HB.out.trans ((bkeep2 HBB.out (Below.drew (balloc (Below.refl _ _)))).mono HB.out.size)⟩
      · have d1 : decide (r.u < p.w) = false := by simpa using h1
        by_cases h2 : r.v < p.h
        · have d2 : decide (r.v < p.h) = true := by simpa using h2
          have hBf : B = false := by rw [← HF.out]; simp; omega
          subst hBf
          go_wp2_with fail
          go_region
          go_wp2
          try (go_region; go_wp2)
          go_ret
          exact ⟨rfl, HB.out.trans ((bkeep2 HBB.out (Below.drew (balloc (Below.refl _ _)))).mono HB.out.size)⟩
        · have d2 : decide (r.v < p.h) = false := by simpa using h2
          have e1 : decide (p.w ≤ r.u) = true := by simp; omega
          have e2 : decide (p.h ≤ r.v) = true := by simp; omega
          have HF2 : Hid (fitB (L.drop (k + 1)) (R.drop (k + 1)) = B) := Lib.hid (by have := HF.out; rw [e1, e2] at this; simpa using this)
          clear e1 e2
          go_wp2_with fail
          go_region
          go_wp2
          try (go_region; go_wp2)
          go_roundw
          case rel => exact ⟨k + 1, by omega, by go_num, HF2.out, Below.drew (balloc HBB.out)⟩
          case measure => simp [intOf]; omega
    · have hd : decide ((k : Int) < (L.length : Int)) = false := by simp; omega
      obtain rfl : k = L.length := by omega
      rw [fit_end] at hf
      subst hf
      have HBB := Lib.hid hB
      clear hB
      go_wp2
      go_ret
      exact ⟨rfl, HB.out.trans (HBB.out.mono HB.out.size)⟩
set_option maxRecDepth 100000 in
theorem PackFits_no (A : Option Addr) (c : Nat) (L : List Pk) (u v : Int) (w : World) (h : PV w A L) (hcap : L.length ≤ c) (hL : L.length ≤ 1048576) (hn : vpsB L = false ∨ (vpsB L = true ∧ rmB u v = false)) :
    Calls Try.prog 12 #[.slice A L.length c, .int .i64 u, .int .i64 v] w fun e w' => e = .returned (.bool false) ∧ Below w.heap.size w w' := by
  rcases hn with hv | ⟨hv, hr⟩
  · go_enter Try.func12, Try.ntmps12
    go_wp2_with fail
    with_reducible refine (vps_v _ c L false _ h hL hv).mono ?_
    rintro e w1 ⟨rfl, hbb⟩
    have HB := Lib.hid hbb
    clear hbb
    go_wp2
    go_ret
    exact ⟨rfl, HB.out⟩
  · go_enter Try.func12, Try.ntmps12
    go_wp2_with fail
    with_reducible refine (vps_v _ c L true _ h hL hv).mono ?_
    rintro e w1 ⟨rfl, hbb⟩
    have HB := Lib.hid hbb
    clear hbb
    go_wp2_with fail
    with_reducible refine (validRoom_v _ _ false _ hr).mono ?_
    rintro e w2 ⟨rfl, rfl⟩
    go_wp2
    go_ret
    exact ⟨rfl, HB.out⟩
set_option maxRecDepth 100000 in
theorem sPackFits_no (A : Option Addr) (c : Nat) (L : List Pk) (u v : Int) (w : World) (h : PV w A L) (hcap : L.length ≤ c) (hL : L.length ≤ 1048576) (hn : vpsB L = false ∨ (vpsB L = true ∧ rmB u v = false)) :
    Calls Try.prog 10 #[.slice A L.length c, .int .i64 u, .int .i64 v] w fun e w' => e = .returned (.bool false) ∧ Below w.heap.size w w' := by
  rcases hn with hv | ⟨hv, hr⟩
  · go_enter Try.func10, Try.ntmps10
    go_wp2_with fail
    with_reducible refine (svps_v _ c L false _ h hL hv).mono ?_
    rintro e w1 ⟨rfl, hbb⟩
    have HB := Lib.hid hbb
    clear hbb
    go_wp2
    go_ret
    exact ⟨rfl, HB.out⟩
  · go_enter Try.func10, Try.ntmps10
    go_wp2_with fail
    with_reducible refine (svps_v _ c L true _ h hL hv).mono ?_
    rintro e w1 ⟨rfl, hbb⟩
    have HB := Lib.hid hbb
    clear hbb
    go_wp2_with fail
    with_reducible refine (goodRoom_v _ _ false _ hr).mono ?_
    rintro e w2 ⟨rfl, rfl⟩
    go_wp2
    go_ret
    exact ⟨rfl, HB.out⟩
end Go.Proofs.Ytjdjahckdgbkbab
end
section
namespace Go.Proofs.Ytjdjahckdgbkbab
open Go.RowKit
set_option linter.unusedVariables false
set_option maxHeartbeats 1000000
set_option maxRecDepth 100000 in
theorem sPackFits_yes (A : Option Addr) (c : Nat) (L : List Pk) (u v : Int) (w : World) (h : PV w A L) (hcap : L.length ≤ c) (hL : L.length ≤ 1048576) (hv : vpsB L = true) (hr : rmB u v = true) (B : Bool) (hB : fitB L (setL L (parcM L ⟨0, 0, u, v⟩).1) = B) :
    Calls Try.prog 10 #[.slice A L.length c, .int .i64 u, .int .i64 v] w fun e w' => e = .returned (.bool B) ∧ Below w.heap.size w w' := by
  have hML := parcM_len (L := L) (z := ⟨0, 0, u, v⟩)
  generalize hR : setL L (parcM L ⟨0, 0, u, v⟩).1 = R at hB
  have hRL : R.length = L.length := by rw [← hR]; exact setL_len hML
  have HR := Lib.hid hR
  have HBV := Lib.hid hB
  clear hML hR hB
  go_enter Try.func10, Try.ntmps10
  go_wp2_with fail
  with_reducible refine (svps_v _ c L true _ h hL hv).mono ?_
  rintro e w1 ⟨rfl, hbb⟩
  have HB := Lib.hid hbb
  clear hbb
  go_wp2_with fail
  with_reducible refine (goodRoom_v _ _ true _ hr).mono ?_
  rintro e w2 ⟨rfl, rfl⟩
  go_wp2_with fail
  refine (packed_v A c L ⟨0, 0, u, v⟩ _ (h.keep HB.out) hcap hv (rmB_ok hr) _ _ rfl).mono ?_
  rintro e w3 ⟨⟨x, rfl, hk⟩, hbb⟩
  replace HB := Lib.hid (bkeep2 HB.out hbb)
  rw [HR.out] at hk
  obtain ⟨G, cg, rfl, hk⟩ := hk
  have HK := Lib.hid hk
  rw [hRL]
  clear hbb hk
  go_wp2_with fail
  go_loopw [8] (fun i wr => ∃ k : Nat, k ≤ L.length ∧ i = .int .i64 k ∧ fitB (L.drop k) (R.drop k) = B ∧ Below w3.heap.size w3 wr) (fun i _ => L.length - (intOf i).toNat)
  case atStart => exact ⟨0, by omega, rfl, by simpa using HBV.out, Below.refl _ _⟩
  case round =>
    obtain ⟨k, hk, rfl, hf, hB⟩ := hrel
    by_cases hlt : k < L.length
    · have hd : decide ((k : Int) < (L.length : Int)) = true := by simpa using hlt
      obtain ⟨b, off, rfl, hb, hps⟩ := ((h.keep HB.out).keep hB).cells (by omega)
      have hget : L[k]? = some L[k] := List.getElem?_eq_getElem hlt
      obtain ⟨c0, c1, c2, c3, c4, c5, c6, c7, c8⟩ := hps k _ hget
      generalize hx : L[k] = p at *
      have hkR : k < R.length := by omega
      obtain ⟨g, rfl, hgl3, hc⟩ := HK.out (by omega)
      have hgetR : R[k]? = some R[k] := List.getElem?_eq_getElem hkR
      obtain ⟨r0, r1, r2, r3⟩ := (hc k _ hgetR).at (hB.block g hgl3)
      generalize hy : R[k] = r at *
      rw [fit_step hget hgetR] at hf
      have HBB := Lib.hid hB
      have HF := Lib.hid hf
      clear hget hx hgetR hy hc hB hps hf
      by_cases h1 : r.u < p.w
      · have d1 : decide (r.u < p.w) = true := by simpa using h1
        have hBf : B = false := by rw [← HF.out]; simp; omega
        subst hBf
        go_wp2_with fail
        go_region
        go_wp2
        go_ret
        exact ⟨rfl, HB.out.trans ((Below.drew HBB.out).mono HB.out.size)⟩
      · have d1 : decide (r.u < p.w) = false := by simpa using h1
        by_cases h2 : r.v < p.h
        · have d2 : decide (r.v < p.h) = true := by simpa using h2
          have hBf : B = false := by rw [← HF.out]; simp; omega
          subst hBf
          go_wp2_with fail
          go_region
          go_wp2
          try (go_region; go_wp2)
          go_ret
          exact ⟨rfl, HB.out.trans ((Below.drew HBB.out).mono HB.out.size)⟩
        · have d2 : decide (r.v < p.h) = false := by simpa using h2
          have e1 : decide (p.w ≤ r.u) = true := by simp; omega
          have e2 : decide (p.h ≤ r.v) = true := by simp; omega
          have HF2 : Hid (fitB (L.drop (k + 1)) (R.drop (k + 1)) = B) := Lib.hid (by have := HF.out; rw [e1, e2] at this; simpa using this)
          clear e1 e2
          go_wp2_with fail
          go_region
          go_wp2
          try (go_region; go_wp2)
          go_roundw
          case rel => exact ⟨k + 1, by omega, by go_num, HF2.out, Below.drew HBB.out⟩
          case measure => simp [intOf]; omega
    · have hd : decide ((k : Int) < (L.length : Int)) = false := by simp; omega
      obtain rfl : k = L.length := by omega
      rw [fit_end] at hf
      subst hf
      have HBB := Lib.hid hB
      clear hB
      go_wp2
      go_ret
      exact ⟨rfl, HB.out.trans (HBB.out.mono HB.out.size)⟩
end Go.Proofs.Ytjdjahckdgbkbab
end
section
set_option linter.unusedVariables false
namespace Go.Proofs.Ytjdjahckdgbkbab
theorem half_bd {a k : Int} (h0 : 0 ≤ a) (h1 : 0 ≤ k) (h2 : k ≤ 2) : 0 ≤ a * k / 2 ∧ a * k / 2 ≤ a := by
  have e : k = 0 ∨ k = 1 ∨ k = 2 := by omega
  rcases e with rfl | rfl | rfl <;> omega
theorem insP_inn {p : Pk} {r : Rc} (h : p.ok = true) (hr : r.ok = true) : r.inn (insP r p.px p.py) := by
  obtain ⟨_, _, _, _, h5, h6⟩ := ok_all h
  have a5 := rng_iff.1 h5
  have a6 := rng_iff.1 h6
  obtain ⟨a1, a2, a3, a4, b1, b2, b3, b4⟩ := vr_iff.1 hr
  have m1 := mn_spec p.px (r.u / 2)
  have m2 := mn_spec p.py (r.v / 2)
  have m3 := mx_spec (r.u - 2 * p.px) 0
  have m4 := mx_spec (r.v - 2 * p.py) 0
  unfold Rc.inn
  dsimp only [insP]
  omega
theorem ancP_inn {r : Rc} {a b k : Int} (hr : r.ok = true) (ha : 0 ≤ a) (hb : 0 ≤ b) (h0 : 0 ≤ k) (h8 : k ≤ 8) : r.inn (ancP r a b k) := by
  obtain ⟨a1, a2, a3, a4, b1, b2, b3, b4⟩ := vr_iff.1 hr
  have m1 := mn_spec a r.u
  have m2 := mn_spec b r.v
  have e1 := half_bd (a := r.u - mn a r.u) (k := k % 3) (by omega) (by omega) (by omega)
  have e2 := half_bd (a := r.v - mn b r.v) (k := k / 3) (by omega) (by omega) (by omega)
  unfold Rc.inn
  dsimp only [ancP]
  omega
theorem wP_bd {p : Pk} {r : Rc} (h : p.ok = true) (hr : r.ok = true) : 0 ≤ wP p r ∧ 0 ≤ hP p r := by
  obtain ⟨h1, h2, _, _, _, _⟩ := ok_all h
  have a1 := rng_iff.1 h1
  have a2 := rng_iff.1 h2
  obtain ⟨b1, b2, b3, b4, _⟩ := vr_iff.1 (ins_ok h hr)
  unfold wP hP
  exact ⟨by split <;> omega, by split <;> omega⟩
theorem setP_inn {p : Pk} {r : Rc} (h : p.ok = true) (hr : r.ok = true) : r.inn (setP p r) := by
  obtain ⟨_, _, _, h4, _, _⟩ := ok_all h
  have a4 := rng_iff.1 h4
  obtain ⟨w0, w1⟩ := wP_bd h hr
  exact Rc.inn_trans (insP_inn h hr) (ancP_inn (ins_ok h hr) w0 w1 a4.1 a4.2)
theorem setP_u {p : Pk} {r : Rc} (hf : p.fx = false) : (setP p r).u ≤ p.w := by
  have := mn_spec (wP p r) (insP r p.px p.py).u
  show mn (wP p r) (insP r p.px p.py).u ≤ p.w
  simp only [wP, hf] at *
  simpa using (mn_spec p.w (insP r p.px p.py).u).1
theorem setP_v {p : Pk} {r : Rc} (hf : p.fy = false) : (setP p r).v ≤ p.h := by
  show mn (hP p r) (insP r p.px p.py).v ≤ p.h
  simp only [hP, hf]
  simpa using (mn_spec p.h (insP r p.px p.py).v).1
theorem mn_self (a : Int) : mn a a = a := by unfold mn; split <;> rfl
theorem setP_fill {p : Pk} {r : Rc} (h1 : p.fx = true) (h2 : p.fy = true) : setP p r = insP r p.px p.py := by
  simp [setP, ancP, wP, hP, h1, h2, mn_self]
/-- the item fits exactly if its parcel is great enough -/
theorem setP_fit {p : Pk} {r : Rc} (h : p.ok = true) (hr : r.ok = true) :
    (p.need false ≤ r.u → p.w ≤ (setP p r).u) ∧ (p.need true ≤ r.v → p.h ≤ (setP p r).v) ∧ (0 < p.w → p.w ≤ (setP p r).u → p.need false ≤ r.u) ∧ (0 < p.h → p.h ≤ (setP p r).v → p.need true ≤ r.v) := by
  have hv := vpB_iff.1 h
  obtain ⟨a1, a2, a3, a4, b1, b2, b3, b4⟩ := vr_iff.1 hr
  have e1 : (setP p r).u = mn (wP p r) (mx (r.u - 2 * p.px) 0) := rfl
  have e2 : (setP p r).v = mn (hP p r) (mx (r.v - 2 * p.py) 0) := rfl
  have f1 : wP p r = p.w ∨ wP p r = mx (r.u - 2 * p.px) 0 := by unfold wP; split; exact .inr rfl; exact .inl rfl
  have f2 : hP p r = p.h ∨ hP p r = mx (r.v - 2 * p.py) 0 := by unfold hP; split; exact .inr rfl; exact .inl rfl
  have m1 := mn_spec (wP p r) (mx (r.u - 2 * p.px) 0)
  have m2 := mn_spec (hP p r) (mx (r.v - 2 * p.py) 0)
  have m3 := mx_spec (r.u - 2 * p.px) 0
  have m4 := mx_spec (r.v - 2 * p.py) 0
  rw [e1, e2]
  have n1 : p.need false = p.w + 2 * p.px := rfl
  have n2 : p.need true = p.h + 2 * p.py := rfl
  rw [n1, n2]
  refine ⟨fun _ => ?_, fun _ => ?_, fun _ _ => ?_, fun _ _ => ?_⟩ <;> omega
theorem fitB_cons {p : Pk} {t : List Pk} {r : Rc} {s : List Rc} : fitB (p :: t) (r :: s) = true ↔ p.w ≤ r.u ∧ p.h ≤ r.v ∧ fitB t s = true := by
  simp [fitB]
theorem setL_cons {p : Pk} {t : List Pk} {r : Rc} {s : List Rc} : setL (p :: t) (r :: s) = setP p r :: setL t s := rfl
theorem reqD_eq (L : List Pk) : reqD L false = (reqM L).1 ∧ reqD L true = (reqM L).2 := ⟨rfl, rfl⟩
theorem takeOf_ge {p : Pk} {t : List Pk} {z : Rc} (hL : ∀ q ∈ p :: t, q.ok = true) (hz : z.ok = true) : p.need p.down ≤ takeOf p t z := by
  have := moreOf_bd hL hz
  unfold takeOf; omega
theorem takeOf_le {p : Pk} {t : List Pk} {z : Rc} (hL : ∀ q ∈ p :: t, q.ok = true) (hz : z.ok = true) (h : reqD (p :: t) p.down ≤ z.size p.down) : takeOf p t z ≤ z.size p.down - reqD t p.down := by
  have hs := Rc.size_bd hz p.down
  have e := reqD_same (p := p) (t := t) (d := p.down) rfl
  unfold takeOf
  simp only [moreOf]
  cases hx : p.ex
  · simp; omega
  · have := (share_room (rm := z.size p.down) hL hx hs.1).2
    have m := mx_spec (z.size p.down - reqD (p :: t) p.down) 0
    simp only [if_true]; omega
/-- the piece and the rest, by direction -/
theorem cutP_size {r : Rc} {s n : Int} (h0 : 0 ≤ s) (h3 : s ≤ 3) (p : Pk) (hs : p.s = s) :
    (cutP r s n).1.size p.down = mn n (r.size p.down) ∧ (cutP r s n).2.size p.down = r.size p.down - mn n (r.size p.down) ∧ (cutP r s n).1.size (!p.down) = r.size (!p.down) ∧ (cutP r s n).2.size (!p.down) = r.size (!p.down) := by
  unfold cutP
  by_cases e0 : s = 0
  · have hd : p.down = true := by simp [Pk.down, hs, e0]
    rw [hd, if_pos e0]; simp [Rc.size]
  · by_cases e1 : s = 1
    · have hd : p.down = true := by simp [Pk.down, hs, e1]
      rw [hd, if_neg e0, if_pos e1]; simp [Rc.size]
    · have hd : p.down = false := by simp [Pk.down, hs, e0, e1]
      rw [hd, if_neg e0, if_neg e1]
      split <;> simp [Rc.size]
theorem need_all {p : Pk} {r : Rc} (h1 : p.need p.down ≤ r.size p.down) (h2 : p.need (!p.down) ≤ r.size (!p.down)) : p.need false ≤ r.u ∧ p.need true ≤ r.v := by
  cases hd : p.down <;> simp [hd, Rc.size] at h1 h2 <;> exact ⟨by assumption, by assumption⟩
theorem need_of {p : Pk} {r : Rc} (h1 : p.need false ≤ r.u) (h2 : p.need true ≤ r.v) : p.need p.down ≤ r.size p.down ∧ p.need (!p.down) ≤ r.size (!p.down) := by
  cases hd : p.down <;> simp [Rc.size] <;> exact ⟨by assumption, by assumption⟩
theorem req_of (L : List Pk) (z : Rc) (d : Bool) : (reqD L d ≤ z.size d ∧ reqD L (!d) ≤ z.size (!d)) ↔ ((reqM L).1 ≤ z.u ∧ (reqM L).2 ≤ z.v) := by
  cases d <;> simp [reqD, Rc.size] <;> exact And.comm
theorem fits_if : ∀ {L : List Pk} {z : Rc}, (∀ p ∈ L, p.ok = true) → z.ok = true → (reqM L).1 ≤ z.u → (reqM L).2 ≤ z.v → fitB L (setL L (parcM L z).1) = true
  | [], z, _, _, _, _ => by simp [parcM, setL, fitB]
  | p :: t, z, hL, hz, h1, h2 => by
    have hp := hL p List.mem_cons_self
    have ht : ∀ q ∈ t, q.ok = true := fun q hq => hL q (List.mem_cons_of_mem _ hq)
    obtain ⟨b1, b2⟩ := takeOf_bd hL hz
    obtain ⟨o1, o2⟩ := cutP_ok (s := p.s) hz b1
    have hs := (vpB_iff.1 hp).2.2.1
    obtain ⟨c1, c2, c3, c4⟩ := cutP_size (r := z) (n := takeOf p t z) hs.1 hs.2 p rfl
    obtain ⟨q1, q2⟩ := (req_of (p :: t) z p.down).2 ⟨h1, h2⟩
    have g1 := takeOf_ge hL hz
    have g2 := takeOf_le hL hz q1
    have e1 := reqD_same (p := p) (t := t) (d := p.down) rfl
    have e2 : reqD (p :: t) (!p.down) = mx (reqD t (!p.down)) (p.need (!p.down)) := reqD_other (by simp)
    have m := mx_spec (reqD t (!p.down)) (p.need (!p.down))
    have mm := mn_spec (takeOf p t z) (z.size p.down)
    have rb := reqD_bd ht p.down
    simp only [parcM, setL_cons, fitB_cons]
    obtain ⟨n1, n2⟩ := need_all (p := p) (r := (cutP z p.s (takeOf p t z)).1) (by omega) (by omega)
    obtain ⟨f1, f2, _, _⟩ := setP_fit hp o1
    refine ⟨f1 n1, f2 n2, ?_⟩
    have hh := (req_of t (cutP z p.s (takeOf p t z)).2 p.down).1 ⟨by omega, by omega⟩
    exact fits_if ht o2 hh.1 hh.2
theorem fits_only : ∀ {L : List Pk} {z : Rc}, (∀ p ∈ L, p.ok = true) → (∀ p ∈ L, 0 < p.w ∧ 0 < p.h) → z.ok = true → fitB L (setL L (parcM L z).1) = true → (reqM L).1 ≤ z.u ∧ (reqM L).2 ≤ z.v
  | [], z, _, _, hz, _ => by
    obtain ⟨a1, a2, a3, a4, b1, b2, b3, b4⟩ := vr_iff.1 hz
    simp [reqM]; omega
  | p :: t, z, hL, h0, hz, hf => by
    have hp := hL p List.mem_cons_self
    have ht : ∀ q ∈ t, q.ok = true := fun q hq => hL q (List.mem_cons_of_mem _ hq)
    obtain ⟨b1, b2⟩ := takeOf_bd hL hz
    obtain ⟨o1, o2⟩ := cutP_ok (s := p.s) hz b1
    have hs := (vpB_iff.1 hp).2.2.1
    obtain ⟨c1, c2, c3, c4⟩ := cutP_size (r := z) (n := takeOf p t z) hs.1 hs.2 p rfl
    simp only [parcM, setL_cons, fitB_cons] at hf
    obtain ⟨f1, f2, f3⟩ := hf
    obtain ⟨_, _, g3, g4⟩ := setP_fit hp o1
    obtain ⟨w0, w1⟩ := h0 p List.mem_cons_self
    obtain ⟨n1, n2⟩ := need_of (g3 w0 f1) (g4 w1 f2)
    obtain ⟨i1, i2⟩ := fits_only ht (fun q hq => h0 q (List.mem_cons_of_mem _ hq)) o2 f3
    obtain ⟨q1, q2⟩ := (req_of t (cutP z p.s (takeOf p t z)).2 p.down).2 ⟨i1, i2⟩
    have e1 := reqD_same (p := p) (t := t) (d := p.down) rfl
    have e2 : reqD (p :: t) (!p.down) = mx (reqD t (!p.down)) (p.need (!p.down)) := reqD_other (by simp)
    have m := mx_spec (reqD t (!p.down)) (p.need (!p.down))
    have mm := mn_spec (takeOf p t z) (z.size p.down)
    exact (req_of (p :: t) z p.down).1 ⟨by omega, by omega⟩
end Go.Proofs.Ytjdjahckdgbkbab
end
section
namespace Go.Proofs.Ytjdjahckdgbkbab
open Go.RowKit
set_option linter.unusedVariables false
set_option maxHeartbeats 1000000
/-- the arguments are good -/
def gpB (L : List Pk) (u v : Int) : Bool := vpsB L && rmB u v
theorem gpB_yes {L : List Pk} {u v : Int} (h : gpB L u v = true) : vpsB L = true ∧ rmB u v = true := by simpa [gpB] using h
theorem gpB_no {L : List Pk} {u v : Int} (h : gpB L u v = false) : vpsB L = false ∨ (vpsB L = true ∧ rmB u v = false) := by
  unfold gpB at h
  cases hv : vpsB L
  · exact .inl rfl
  · rw [hv] at h; exact .inr ⟨rfl, by simpa using h⟩
def leftR (L : List Pk) (u v : Int) : Rc := if gpB L u v then (parcM L ⟨0, 0, u, v⟩).2 else ⟨0, 0, 0, 0⟩
def parL (L : List Pk) (u v : Int) : List Rc := if gpB L u v then (parcM L ⟨0, 0, u, v⟩).1 else []
def recL (L : List Pk) (u v : Int) : List Rc := if gpB L u v then setL L (parcM L ⟨0, 0, u, v⟩).1 else []
theorem parL_len {L : List Pk} {u v : Int} : (parL L u v).length ≤ 7 := by
  unfold parL
  split
  · rename_i h; rw [parcM_len]; exact (vpsB_iff.1 (gpB_yes h).1).2
  · simp
theorem recL_len {L : List Pk} {u v : Int} : (recL L u v).length ≤ 7 := by
  unfold recL
  split
  · rename_i h; rw [setL_len parcM_len]; exact (vpsB_iff.1 (gpB_yes h).1).2
  · simp
theorem PackLeft_c (A : Option Addr) (c : Nat) (L : List Pk) (u v : Int) (w : World) (h : PV w A L) (hcap : L.length ≤ c) (hL : L.length ≤ 1048576) (R : Rc) (hR : leftR L u v = R) :
    Calls Try.prog 25 #[.slice A L.length c, .int .i64 u, .int .i64 v] w fun e w' => e = .returned (.agg #[.int .i64 (R.x), .int .i64 (R.y), .int .i64 (R.u), .int .i64 (R.v)]) ∧ Below w.heap.size w w' := by
  subst hR
  unfold leftR
  cases hg : gpB L u v
  · exact PackLeft_no A c L u v w h hcap hL (gpB_no hg)
  · exact PackLeft_yes A c L u v w h hcap hL (gpB_yes hg).1 (gpB_yes hg).2 _ _ rfl
theorem sPackLeft_c (A : Option Addr) (c : Nat) (L : List Pk) (u v : Int) (w : World) (h : PV w A L) (hcap : L.length ≤ c) (hL : L.length ≤ 1048576) (R : Rc) (hR : leftR L u v = R) :
    Calls Try.prog 27 #[.slice A L.length c, .int .i64 u, .int .i64 v] w fun e w' => e = .returned (.agg #[.int .i64 (R.x), .int .i64 (R.y), .int .i64 (R.u), .int .i64 (R.v)]) ∧ Below w.heap.size w w' := by
  subst hR
  unfold leftR
  cases hg : gpB L u v
  · exact sPackLeft_no A c L u v w h hcap hL (gpB_no hg)
  · exact sPackLeft_yes A c L u v w h hcap hL (gpB_yes hg).1 (gpB_yes hg).2 _ _ rfl
theorem PackParcels_c (A : Option Addr) (c : Nat) (L : List Pk) (u v : Int) (w : World) (h : PV w A L) (hcap : L.length ≤ c) (hL : L.length ≤ 1048576) (M : List Rc) (hM : parL L u v = M) :
    Calls Try.prog 21 #[.slice A L.length c, .int .i64 u, .int .i64 v] w fun e w' => (∃ r, e = .returned r ∧ RV w' r M) ∧ Below w.heap.size w w' := by
  subst hM
  unfold parL
  cases hg : gpB L u v
  · exact (PackParcels_no A c L u v w h hcap hL (gpB_no hg)).mono fun e w' ⟨he, hb⟩ => ⟨⟨_, he, RV.nil _⟩, hb⟩
  · exact (PackParcels_yes A c L u v w h hcap hL (gpB_yes hg).1 (gpB_yes hg).2 _ _ rfl).mono fun e w' ⟨⟨g, he, _, hk⟩, hb⟩ => ⟨⟨_, he, RV.blk hk parcM_len.symm _⟩, hb⟩
theorem sPackParcels_c (A : Option Addr) (c : Nat) (L : List Pk) (u v : Int) (w : World) (h : PV w A L) (hcap : L.length ≤ c) (hL : L.length ≤ 1048576) (M : List Rc) (hM : parL L u v = M) :
    Calls Try.prog 31 #[.slice A L.length c, .int .i64 u, .int .i64 v] w fun e w' => (∃ r, e = .returned r ∧ RV w' r M) ∧ Below w.heap.size w w' := by
  subst hM
  unfold parL
  cases hg : gpB L u v
  · exact (sPackParcels_no A c L u v w h hcap hL (gpB_no hg)).mono fun e w' ⟨he, hb⟩ => ⟨⟨_, he, RV.nil _⟩, hb⟩
  · exact (sPackParcels_yes A c L u v w h hcap hL (gpB_yes hg).1 (gpB_yes hg).2 _ _ rfl).mono fun e w' ⟨⟨r, he, ho⟩, hb⟩ => ⟨⟨_, he, RV.own ho rfl⟩, hb⟩
theorem PackRects_c (A : Option Addr) (c : Nat) (L : List Pk) (u v : Int) (w : World) (h : PV w A L) (hcap : L.length ≤ c) (hL : L.length ≤ 1048576) (M : List Rc) (hM : recL L u v = M) :
    Calls Try.prog 18 #[.slice A L.length c, .int .i64 u, .int .i64 v] w fun e w' => (∃ r, e = .returned r ∧ RV w' r M) ∧ Below w.heap.size w w' := by
  subst hM
  unfold recL
  cases hg : gpB L u v
  · exact (PackRects_no A c L u v w h hcap hL (gpB_no hg)).mono fun e w' ⟨he, hb⟩ => ⟨⟨_, he, RV.nil _⟩, hb⟩
  · exact (PackRects_yes A c L u v w h hcap hL (gpB_yes hg).1 (gpB_yes hg).2 _ _ rfl).mono fun e w' ⟨⟨g, he, _, hk⟩, hb⟩ => ⟨⟨_, he, RV.blk hk (setL_len parcM_len).symm _⟩, hb⟩
theorem sPackRects_c (A : Option Addr) (c : Nat) (L : List Pk) (u v : Int) (w : World) (h : PV w A L) (hcap : L.length ≤ c) (hL : L.length ≤ 1048576) (M : List Rc) (hM : recL L u v = M) :
    Calls Try.prog 20 #[.slice A L.length c, .int .i64 u, .int .i64 v] w fun e w' => (∃ r, e = .returned r ∧ RV w' r M) ∧ Below w.heap.size w w' := by
  subst hM
  unfold recL
  cases hg : gpB L u v
  · exact (sPackRects_no A c L u v w h hcap hL (gpB_no hg)).mono fun e w' ⟨he, hb⟩ => ⟨⟨_, he, RV.nil _⟩, hb⟩
  · exact (sPackRects_yes A c L u v w h hcap hL (gpB_yes hg).1 (gpB_yes hg).2 _ _ rfl).mono fun e w' ⟨⟨r, he, ho⟩, hb⟩ => ⟨⟨_, he, ho⟩, hb⟩
theorem PackFits_c (A : Option Addr) (c : Nat) (L : List Pk) (u v : Int) (w : World) (h : PV w A L) (hcap : L.length ≤ c) (hL : L.length ≤ 1048576) (B : Bool) (hB : (gpB L u v && fitB L (recL L u v)) = B) :
    Calls Try.prog 12 #[.slice A L.length c, .int .i64 u, .int .i64 v] w fun e w' => e = .returned (.bool B) ∧ Below w.heap.size w w' := by
  subst hB
  unfold recL
  cases hg : gpB L u v
  · exact PackFits_no A c L u v w h hcap hL (gpB_no hg)
  · exact PackFits_yes A c L u v w h hcap hL (gpB_yes hg).1 (gpB_yes hg).2 _ rfl
theorem sPackFits_c (A : Option Addr) (c : Nat) (L : List Pk) (u v : Int) (w : World) (h : PV w A L) (hcap : L.length ≤ c) (hL : L.length ≤ 1048576) (B : Bool) (hB : (gpB L u v && fitB L (recL L u v)) = B) :
    Calls Try.prog 10 #[.slice A L.length c, .int .i64 u, .int .i64 v] w fun e w' => e = .returned (.bool B) ∧ Below w.heap.size w w' := by
  subst hB
  unfold recL
  cases hg : gpB L u v
  · exact sPackFits_no A c L u v w h hcap hL (gpB_no hg)
  · exact sPackFits_yes A c L u v w h hcap hL (gpB_yes hg).1 (gpB_yes hg).2 _ rfl
end Go.Proofs.Ytjdjahckdgbkbab
end
section
namespace Go.Proofs.Ytjdjahckdgbkbab
open Go.RowKit
set_option linter.unusedVariables false
set_option maxHeartbeats 1000000
attribute [local go_sem 5000] run_mx run_mn run_eqlR run_neqR
attribute [local go_sem] growUpon_value growUpon_skip growUpon_enter
theorem RV.at {w : World} {A : Option Addr} {n c : Nat} {M : List Rc} (h : RV w (.slice A n c) M) : n = M.length ∧ (0 < M.length → ∃ b, A = some ⟨b, 0, none⟩ ∧ b < w.heap.size ∧ ∀ i r, M[i]? = some r → Cells4 w b (i * 4) r) := by
  obtain ⟨A', c', e, h⟩ := h
  injection e with e1 e2 e3
  subst e1 e2 e3
  exact ⟨rfl, h⟩
theorem RV.take {w : World} {A : Option Addr} {n c : Nat} {M : List Rc} (h : RV w (.slice A n c) M) (k : Nat) (hk : k ≤ M.length) : RV w (.slice A k c) (M.take k) := by
  obtain ⟨hn, h⟩ := h.at
  refine ⟨A, c, by rw [List.length_take, Nat.min_eq_left hk], fun h0 => ?_⟩
  rw [List.length_take] at h0
  obtain ⟨b, e, hb, hc⟩ := h (by omega)
  refine ⟨b, e, hb, fun i r hr => hc i r ?_⟩
  rw [List.getElem?_take] at hr
  split at hr
  · exact hr
  · cases hr
theorem PV.take {w : World} {A : Option Addr} {L : List Pk} (h : PV w A L) (k : Nat) : PV w A (L.take k) := by
  refine ⟨fun h0 => ?_⟩
  rw [List.length_take] at h0
  obtain ⟨b, off, e, hb, hc⟩ := h.cells (by omega)
  refine ⟨b, off, e, hb, fun i r hr => hc i r ?_⟩
  rw [List.getElem?_take] at hr
  split at hr
  · exact hr
  · cases hr
set_option maxRecDepth 100000 in
theorem equalRects_z (v v' : Value) (M : List Rc) (w : World) (h : RV w v M) (h' : RV w v' M) (hM : M.length ≤ 100) :
    Calls Try.prog 19 #[v, v'] w fun e w' => e = .returned (.bool true) ∧ Below w.heap.size w w' := by
  obtain ⟨A, c, rfl, h⟩ := h
  obtain ⟨B, c', rfl, h'⟩ := h'
  go_enter Try.func19, Try.ntmps19
  go_wp2_with fail
  go_loopw [5] (fun i wr => ∃ k : Nat, k ≤ M.length ∧ i = .int .i64 k ∧ Below w.heap.size w wr) (fun i _ => M.length - (intOf i).toNat)
  case atStart => exact ⟨0, by omega, rfl, Below.refl _ _⟩
  case round =>
    obtain ⟨k, hk, rfl, hB⟩ := hrel
    by_cases hlt : k < M.length
    · have hd : decide ((k : Int) < (M.length : Int)) = true := by simpa using hlt
      obtain ⟨b, rfl, hb, hp⟩ := h (by omega)
      obtain ⟨b', rfl, hb', hp'⟩ := h' (by omega)
      obtain ⟨c0, c1, c2, c3⟩ := (hp k _ (List.getElem?_eq_getElem hlt)).at (hB.block b hb)
      obtain ⟨d0, d1, d2, d3⟩ := (hp' k _ (List.getElem?_eq_getElem hlt)).at (hB.block b' hb')
      generalize hx : M[k] = r at *
      have he : eqR r.x r.y r.u r.v r.x r.y r.u r.v = true := eqR_self
      have HX := Lib.hid hx
      have HP := Lib.hid hp
      have HP' := Lib.hid hp'
      have HB := Lib.hid hB
      have HH := Lib.hid h
      have HH' := Lib.hid h'
      clear hx hp hp' hB h h'
      go_wp2_with fail
      refine wp_region_grow 9 0 (· < 9) (by kernel_rfl) (by kernel_rfl) rfl ?_
      iterate 9 (refine wpG_step (fun K hK => ?_); first | (refine grow_skip rfl ?_; go_simp; refine hK _ ?_; clear hK K) | (apply Exists.intro; refine ⟨.inl ⟨rfl, fun w' hw' => ?_⟩, ?_⟩; (focus ((obtain ⟨hc, hf⟩ := bcell hw'.out); (have hcS := bcellS hw'.out); go_simp <;> first | rfl | (fail))); (go_simp; refine hK _ ?_; clear hK K)))
      refine wpG_nil ?_
      refine wpK_tail (by kernel_rfl) (fun w1 hg1 => ?_)
      have hb1 := bdrewn hg1.out
      refine wpAny_end (by kernel_rfl) ?_
      refine NoPan.thn ?_
      clear hg1
      replace HB := Lib.hid (HB.out.trans (hb1.mono HB.out.size))
      clear hb1 c0 c1 c2 c3 d0 d1 d2 d3
      go_wp2
      go_roundw
      case rel => exact ⟨k + 1, by omega, by go_num, HB.out⟩
      case measure => simp [intOf]; omega
    · have hd : decide ((k : Int) < (M.length : Int)) = false := by simp; omega
      have HB := Lib.hid hB
      clear hB
      go_wp2
      go_ret
      exact ⟨rfl, HB.out⟩
theorem PackParcels_n (A : Option Addr) (c n : Nat) (L : List Pk) (u v : Int) (w : World) (h : PV w A L) (hn : n = L.length) (hcap : n ≤ c) (hL : n ≤ 1048576) (M : List Rc) (hM : parL L u v = M) :
    Calls Try.prog 21 #[.slice A n c, .int .i64 u, .int .i64 v] w fun e w' => (∃ B, e = .returned (.slice B M.length M.length) ∧ RV w' (.slice B M.length M.length) M) ∧ Below w.heap.size w w' := by
  subst hM hn
  unfold parL
  cases hg : gpB L u v
  · exact (PackParcels_no A c L u v w h hcap hL (gpB_no hg)).mono fun e w' ⟨he, hb⟩ => ⟨⟨_, he, RV.nil _⟩, hb⟩
  · refine (PackParcels_yes A c L u v w h hcap hL (gpB_yes hg).1 (gpB_yes hg).2 _ _ rfl).mono fun e w' ⟨⟨g, he, _, hk⟩, hb⟩ => ⟨⟨_, ?_, RV.blk hk rfl _⟩, hb⟩
    simp only [if_true]
    rw [parcM_len]; exact he
theorem sPackParcels_n (A : Option Addr) (c n : Nat) (L : List Pk) (u v : Int) (w : World) (h : PV w A L) (hn : n = L.length) (hcap : n ≤ c) (hL : n ≤ 1048576) (M : List Rc) (hM : parL L u v = M) :
    Calls Try.prog 31 #[.slice A n c, .int .i64 u, .int .i64 v] w fun e w' => (∃ r, e = .returned r ∧ RV w' r M) ∧ Below w.heap.size w w' := by
  subst hn; exact sPackParcels_c A c L u v w h hcap hL M hM
end Go.Proofs.Ytjdjahckdgbkbab
end
section
namespace Go.Proofs.Ytjdjahckdgbkbab
open Go Go.RowKit
set_option linter.unusedVariables false
section
variable {P : Program}
def XV (u : Value) : Value → World → Prop := fun v _ => v = u
def XT : Value → World → Prop := fun _ _ => True
/-- what stays true when memory is made -/
def Stay (T : Value → World → Prop) : Prop := ∀ v a b, T v a → Gr a b → T v b
theorem stay_V (u : Value) : Stay (XV u) := fun _ _ _ h _ => h
theorem stay_T : Stay XT := fun _ _ _ _ _ => trivial
theorem stay_of {F : Value → World → Prop} (h : ∀ v a b, F v a → Below a.heap.size a b → F v b) : Stay F := fun v a b x g => h v a b x g.out
theorem stay_list {l : List (Value → World → Prop)} (h : ∀ T ∈ l, Stay T) : ∀ k v a b, (l.getD k XT) v a → Gr a b → (l.getD k XT) v b := by
  intro k v a b hv g
  rw [List.getD_eq_getElem?_getD] at *
  cases hk : l[k]? with
  | none => trivial
  | some T => rw [hk] at hv; exact h T (List.mem_of_getElem? hk) v a b hv g
def GIx (_ : Nat) (_ : World) : Prop := True
theorem gx_gen {K : Value → World → Prop} {r : Result Next} (h : ∀ K' : Value → World → Prop, (∀ v w', K v w' → K' v w') → givesUpon P K' r) : givesUpon P K r := h K fun _ _ h => h
theorem lookD_imp {T : Nat → Value → World → Prop} {a0 a : Act} {w : World} {G G' : Prop} (hG : G → G') : ∀ {ds : List (Tmp × Option Nat)}, lookD T a0 a w ds G → lookD T a0 a w ds G'
  | [], h => hG h
  | (t, some j) :: r, h => fun x => lookD_imp (ds := r) hG (h x)
  | (t, none) :: r, h => fun x => lookD_imp (ds := r) hG (h x)
theorem givesUpon_imp {K K' : Value → World → Prop} (hK : ∀ v w, K v w → K' v w) {r : Result Next} (h : givesUpon P K r) : givesUpon P K' r := by
  unfold givesUpon at *
  split at h
  · exact hK _ _ h
  · exact hK _ _ h
  · exact h.mono fun e w' ⟨v, e1, e2⟩ => ⟨v, e1, hK _ _ e2⟩
  · exact h.elim
theorem opOK_rx {ops : List Oper} {T : Nat → Value → World → Prop} {a0 : Act} {w0 : World} {k : Nat} {o : Oper} (ds : List (Tmp × Option Nat)) (hB : dsB ops o ds = true) (hg : o.guard = none)
    (h : ∀ (a : Act) (w : World), Gr w0 w → lookD T a0 a w ds (givesUpon P (fun v w' => T k v w' ∧ Gr w w') ((execOp a.eval o).run P w))) : opOK P ops T Gr GIx a0 w0 k o :=
  opOK_ds ds hB hg fun m a w _ hR _ => lookD_imp (fun x => givesUpon_imp (fun v w' ⟨h1, h2⟩ => ⟨h1, h2, trivial⟩) x) (h a w hR)
theorem wp_region_rx {id : Nat} {l : List Oper} {Q : Exit → Act → World → Prop} {a0 : Act} {w : World} (tl : List (Value → World → Prop))
    (hm : P.follows .mixedOrders = true) (hB : rgB l a0.tmps.size = true) (hTs : ∀ T ∈ tl, Stay T)
    (hops : opsOK P l (fun k => tl.getD k XT) Gr GIx a0 w.drew l 0) (hfin : ∀ w', Gr w.drew w' → finP (fun k => tl.getD k XT) w' (fun a' => Q .normal a' w') l 0 a0) : (Code.region id l.toArray true).wp P Q a0 w :=
  wp_region_rgl (fun k => tl.getD k XT) Gr GIx hm hB Gr.refl (fun _ _ _ h k => h.trans k) (stay_list hTs) trivial hops fun w' h _ => hfin w' h
end
end Go.Proofs.Ytjdjahckdgbkbab
end
