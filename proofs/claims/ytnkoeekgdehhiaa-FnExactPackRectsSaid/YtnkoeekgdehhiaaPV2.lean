import Derived.Test.YtnkoeekgdehhiaaPV
namespace Go.Proofs.Ytnkoeekgdehhiaa
open Go.RowKit
set_option linter.unusedVariables false
set_option maxHeartbeats 1000000
set_option maxRecDepth 100000 in
theorem allOfPack_any (A : Option Addr) (c : Nat) (L : List Pk) (w : World) (h : PV w A L) (hL : L.length ≤ 1048576) :
    Calls Try.prog 47 #[.slice A L.length c, .func (.func 43) #[] #[]] w fun e w' => e = .returned (.bool (L.all Pk.ok)) ∧ Below w.heap.size w w' := by
  go_enter Try.func47, Try.ntmps47
  go_wp2_with fail
  go_loopw [9] (fun i wr => ∃ k : Nat, k ≤ L.length ∧ i = .int .i64 k ∧ (L.take k).all Pk.ok = true ∧ Below w.heap.size w wr) (fun i _ => L.length - (intOf i).toNat)
  case atStart => exact ⟨0, by omega, rfl, rfl, Below.refl _ _⟩
  case round =>
    obtain ⟨k, hk, rfl, hok, hB⟩ := hrel
    by_cases hlt : k < L.length
    · have hd : decide ((k : Int) < (L.length : Int)) = true := by simpa using hlt
      obtain ⟨b, off, rfl, hb, hp⟩ := (h.keep hB).cells (by omega)
      obtain ⟨c0, c1, c2, c3, c4, c5, c6, c7, c8⟩ := hp k _ (List.getElem?_eq_getElem hlt)
      have hget : L[k]? = some L[k] := List.getElem?_eq_getElem hlt
      generalize hx : L[k] = p at *
      have HG := Lib.hid hget
      have HX := Lib.hid hx
      have HO := Lib.hid hok
      have HBB := Lib.hid hB
      clear hget hx hok hB
      cases hv : p.ok
      all_goals
        have Hv := Lib.hid hv
        clear hv
        go_wp2_with fail
        first | (with_reducible refine (vp_v p false Hv.out _).mono ?_) | (with_reducible refine (vp_v p true Hv.out _).mono ?_)
        rintro e w1 ⟨rfl, hb1⟩
        replace HBB := Lib.hid (bkeep2 (balloc HBB.out) hb1)
        clear hb1 c0 c1 c2 c3 c4 c5 c6 c7 c8
        go_wp2
      · go_ret
        exact ⟨ret_bool (by
          symm
          rw [Bool.eq_false_iff]
          intro hh
          have h1 := List.all_eq_true.1 hh p (List.mem_of_getElem? HG.out)
          rw [Hv.out] at h1
          cases h1), HBB.out⟩
      · go_roundw
        case rel => exact ⟨k + 1, by omega, by go_num, by rw [all_snoc HG.out, HO.out, Hv.out]; rfl, HBB.out⟩
        case measure => simp [intOf]; omega
    · have hd : decide ((k : Int) < (L.length : Int)) = false := by simp; omega
      have he : L.take k = L := List.take_of_length_le (by omega)
      rw [he] at hok
      have HO := Lib.hid hok
      have HBB := Lib.hid hB
      clear hok hB he
      go_wp2
      go_ret
      exact ⟨ret_bool HO.out.symm, HBB.out⟩
theorem validPacks_any (A : Option Addr) (c : Nat) (L : List Pk) (w : World) (h : PV w A L) (hL : L.length ≤ 1048576) :
    Calls Try.prog 32 #[.slice A L.length c] w fun e w' => e = .returned (.bool (vpsB L)) ∧ Below w.heap.size w w' := by
  by_cases h7 : L.length ≤ 7
  · have h7' : decide ((L.length : Int) ≤ 7) = true := by simp; omega
    cases ha : L.all Pk.ok
    all_goals
      have Ha := Lib.hid ha
      clear ha
      go_enter Try.func32, Try.ntmps32
      go_wp2_with fail
      refine (allOfPack_any A c L _ h hL).mono ?_
      rintro e w1 ⟨rfl, hb⟩
      rw [Ha.out]
      have HB := Lib.hid hb
      clear hb
      go_wp2
      go_ret
      exact ⟨ret_bool (by simp [vpsB, Ha.out, h7]), HB.out⟩
  · have h7' : decide ((L.length : Int) ≤ 7) = false := by simp; omega
    go_enter Try.func32, Try.ntmps32
    go_wp2
    go_ret
    exact ⟨ret_bool (by simp [vpsB, h7]), Below.refl _ _⟩
end Go.Proofs.Ytnkoeekgdehhiaa
