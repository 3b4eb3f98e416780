import Derived.Test.YtjdjahckdgbkbabQ07
section
namespace Go.Proofs.Ytjdjahckdgbkbab
open Go.RowKit
set_option linter.unusedVariables false
set_option maxHeartbeats 1000000
set_option maxRecDepth 100000 in
theorem sPackFits_yes (A : Option Addr) (c : Nat) (L : List Pk) (u v : Int) (w : World) (h : PV w A L) (hcap : L.length ≤ c) (hL : L.length ≤ 1048576) (hv : vpsB L = true) (hr : rmB u v = true) (B : Bool) (hB : fitB L (setL L (parcM L ⟨0, 0, u, v⟩).1) = B) :
    Calls Try.prog 10 #[.slice A L.length c, .int .i64 u, .int .i64 v] w fun e w' => e = .returned (.bool B) ∧ Below w.heap.size w w' := by
  have hML := parcM_len (L := L) (z := ⟨0, 0, u, v⟩)
  generalize hR : setL L (parcM L ⟨0, 0, u, v⟩).1 = R at hB
  have hRL : R.length = L.length := by rw [← hR]; exact setL_len hML
  have HR := Lib.hid hR
  have HBV := Lib.hid hB
  clear hML hR hB
  go_enter Try.func10, Try.ntmps10
  go_wp2_with fail
  with_reducible refine (svps_v _ c L true _ h hL hv).mono ?_
  rintro e w1 ⟨rfl, hbb⟩
  have HB := Lib.hid hbb
  clear hbb
  go_wp2_with fail
  with_reducible refine (goodRoom_v _ _ true _ hr).mono ?_
  rintro e w2 ⟨rfl, rfl⟩
  go_wp2_with fail
  refine (packed_v A c L ⟨0, 0, u, v⟩ _ (h.keep HB.out) hcap hv (rmB_ok hr) _ _ rfl).mono ?_
  rintro e w3 ⟨⟨x, rfl, hk⟩, hbb⟩
  replace HB := Lib.hid (bkeep2 HB.out hbb)
  rw [HR.out] at hk
  obtain ⟨G, cg, rfl, hk⟩ := hk
  have HK := Lib.hid hk
  rw [hRL]
  clear hbb hk
  go_wp2_with fail
  go_loopw [8] (fun i wr => ∃ k : Nat, k ≤ L.length ∧ i = .int .i64 k ∧ fitB (L.drop k) (R.drop k) = B ∧ Below w3.heap.size w3 wr) (fun i _ => L.length - (intOf i).toNat)
  case atStart => exact ⟨0, by omega, rfl, by simpa using HBV.out, Below.refl _ _⟩
  case round =>
    obtain ⟨k, hk, rfl, hf, hB⟩ := hrel
    by_cases hlt : k < L.length
    · have hd : decide ((k : Int) < (L.length : Int)) = true := by simpa using hlt
      obtain ⟨b, off, rfl, hb, hps⟩ := ((h.keep HB.out).keep hB).cells (by omega)
      have hget : L[k]? = some L[k] := List.getElem?_eq_getElem hlt
      obtain ⟨c0, c1, c2, c3, c4, c5, c6, c7, c8⟩ := hps k _ hget
      generalize hx : L[k] = p at *
      have hkR : k < R.length := by omega
      obtain ⟨g, rfl, hgl3, hc⟩ := HK.out (by omega)
      have hgetR : R[k]? = some R[k] := List.getElem?_eq_getElem hkR
      obtain ⟨r0, r1, r2, r3⟩ := (hc k _ hgetR).at (hB.block g hgl3)
      generalize hy : R[k] = r at *
      rw [fit_step hget hgetR] at hf
      have HBB := Lib.hid hB
      have HF := Lib.hid hf
      clear hget hx hgetR hy hc hB hps hf
      by_cases h1 : r.u < p.w
      · have d1 : decide (r.u < p.w) = true := by simpa using h1
        have hBf : B = false := by rw [← HF.out]; simp; omega
        subst hBf
        go_wp2_with fail
        go_region
        go_wp2
        go_ret
        exact ⟨rfl, HB.out.trans ((Below.drew HBB.out).mono HB.out.size)⟩
      · have d1 : decide (r.u < p.w) = false := by simpa using h1
        by_cases h2 : r.v < p.h
        · have d2 : decide (r.v < p.h) = true := by simpa using h2
          have hBf : B = false := by rw [← HF.out]; simp; omega
          subst hBf
          go_wp2_with fail
          go_region
          go_wp2
          try (go_region; go_wp2)
          go_ret
          exact ⟨rfl, HB.out.trans ((Below.drew HBB.out).mono HB.out.size)⟩
        · have d2 : decide (r.v < p.h) = false := by simpa using h2
          have e1 : decide (p.w ≤ r.u) = true := by simp; omega
          have e2 : decide (p.h ≤ r.v) = true := by simp; omega
          have HF2 : Hid (fitB (L.drop (k + 1)) (R.drop (k + 1)) = B) := Lib.hid (by have := HF.out; rw [e1, e2] at this; simpa using this)
          clear e1 e2
          go_wp2_with fail
          go_region
          go_wp2
          try (go_region; go_wp2)
          go_roundw
          case rel => exact ⟨k + 1, by omega, by go_num, HF2.out, Below.drew HBB.out⟩
          case measure => simp [intOf]; omega
    · have hd : decide ((k : Int) < (L.length : Int)) = false := by simp; omega
      obtain rfl : k = L.length := by omega
      rw [fit_end] at hf
      subst hf
      have HBB := Lib.hid hB
      clear hB
      go_wp2
      go_ret
      exact ⟨rfl, HB.out.trans (HBB.out.mono HB.out.size)⟩
end Go.Proofs.Ytjdjahckdgbkbab
end
