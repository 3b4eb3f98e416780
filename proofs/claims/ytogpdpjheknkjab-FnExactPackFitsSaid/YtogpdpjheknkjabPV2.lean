import Derived.Test.YtogpdpjheknkjabPV
namespace Go.Proofs.Ytogpdpjheknkjab
open Go.RowKit
set_option linter.unusedVariables false
set_option maxHeartbeats 1000000
theorem bad_any (p : Pk) (w : World) : Calls Try.prog 54 #[.agg #[.int .i64 p.w, .int .i64 p.h, .int .i64 p.s, .bool p.fx, .bool p.fy, .bool p.ex, .int .i64 p.an, .int .i64 p.px, .int .i64 p.py]] w fun e w' => e = .returned (.bool (!p.ok)) ∧ Below w.heap.size w w' := by
  cases hv : p.ok
  all_goals
    go_enter Try.func54, Try.ntmps54
    go_wp2_with fail
    first | refine (vp_v p false hv _).mono ?_ | refine (vp_v p true hv _).mono ?_
    rintro e w1 ⟨rfl, hb1⟩
    have HB := Lib.hid (bkeep2 (balloc (Below.refl _ _)) hb1)
    clear hb1 hv
    go_wp2
    go_ret
    exact ⟨rfl, HB.out⟩
set_option maxRecDepth 100000 in
theorem indexBad_any (A : Option Addr) (c : Nat) (L : List Pk) (w : World) (h : PV w A L) (hL : L.length ≤ 1048576) :
    Calls Try.prog 82 #[.slice A L.length c, .func (.func 54) #[] #[]] w fun e w' => (∃ r : Int, e = .returned (.int .i64 r) ∧ decide (0 ≤ r) = !(L.all Pk.ok)) ∧ Below w.heap.size w w' := by
  go_enter Try.func82, Try.ntmps82
  go_wp2_with fail
  go_loopw [8] (fun i wr => ∃ k : Nat, k ≤ L.length ∧ i = .int .i64 k ∧ (L.take k).all Pk.ok = true ∧ Below w.heap.size w wr) (fun i _ => L.length - (intOf i).toNat)
  case atStart => exact ⟨0, by omega, rfl, rfl, Below.refl _ _⟩
  case round =>
    obtain ⟨k, hk, rfl, hok, hB⟩ := hrel
    by_cases hlt : k < L.length
    · have hd : decide ((k : Int) < (L.length : Int)) = true := by simpa using hlt
      obtain ⟨b, off, rfl, hb, hp⟩ := (h.keep hB).cells (by omega)
      obtain ⟨c0, c1, c2, c3, c4, c5, c6, c7, c8⟩ := hp k _ (List.getElem?_eq_getElem hlt)
      have hget : L[k]? = some L[k] := List.getElem?_eq_getElem hlt
      generalize hx : L[k] = p at *
      have HG := Lib.hid hget
      have HX := Lib.hid hx
      have HO := Lib.hid hok
      have HBB := Lib.hid hB
      clear hget hx hok hB
      cases hv : p.ok
      all_goals
        have Hv := Lib.hid hv
        clear hv
        go_wp2_with fail
        refine (bad_any p _).mono ?_
        rintro e w1 ⟨rfl, hb1⟩
        rw [Hv.out]
        replace HBB := Lib.hid (HBB.out.trans (hb1.mono HBB.out.size))
        clear hb1 c0 c1 c2 c3 c4 c5 c6 c7 c8
        go_wp2
      · go_ret
        refine ⟨⟨_, rfl, ?_⟩, HBB.out⟩
        have : L.all Pk.ok = false := by
          rw [Bool.eq_false_iff]
          intro hh
          have h1 := List.all_eq_true.1 hh p (List.mem_of_getElem? HG.out)
          rw [Hv.out] at h1
          cases h1
        rw [this]; simp
      · go_roundw
        case rel => exact ⟨k + 1, by omega, by go_num, by rw [all_snoc HG.out, HO.out, Hv.out]; rfl, HBB.out⟩
        case measure => simp [intOf]; omega
    · have hd : decide ((k : Int) < (L.length : Int)) = false := by simp; omega
      have he : L.take k = L := List.take_of_length_le (by omega)
      rw [he] at hok
      have HO := Lib.hid hok
      have HBB := Lib.hid hB
      clear hok hB he
      go_wp2
      go_ret
      exact ⟨⟨-1, rfl, by rw [HO.out]; rfl⟩, HBB.out⟩
theorem containsBad_any (A : Option Addr) (c : Nat) (L : List Pk) (w : World) (h : PV w A L) (hL : L.length ≤ 1048576) :
    Calls Try.prog 55 #[.slice A L.length c, .func (.func 54) #[] #[]] w fun e w' => e = .returned (.bool (!(L.all Pk.ok))) ∧ Below w.heap.size w w' := by
  cases ha : L.all Pk.ok
  all_goals
    have Ha := Lib.hid ha
    clear ha
    go_enter Try.func55, Try.ntmps55
    go_wp2_with fail
    refine (indexBad_any A c L _ h hL).mono ?_
    rintro e w1 ⟨⟨r, rfl, hr⟩, hb⟩
    rw [Ha.out] at hr
    have HB := Lib.hid hb
    clear hb
    simp only [Bool.not_false, Bool.not_true] at hr
    go_wp2
    go_ret
    exact ⟨rfl, HB.out⟩
theorem validPacks_any (A : Option Addr) (c : Nat) (L : List Pk) (w : World) (h : PV w A L) (hL : L.length ≤ 1048576) :
    Calls Try.prog 37 #[.slice A L.length c] w fun e w' => e = .returned (.bool (vpsB L)) ∧ Below w.heap.size w w' := by
  by_cases h7 : L.length ≤ 7
  · have h7' : decide ((L.length : Int) ≤ 7) = true := by simp; omega
    cases ha : L.all Pk.ok
    all_goals
      have Ha := Lib.hid ha
      clear ha
      go_enter Try.func37, Try.ntmps37
      go_wp2_with fail
      refine (containsBad_any A c L _ h hL).mono ?_
      rintro e w1 ⟨rfl, hb⟩
      rw [Ha.out]
      have HB := Lib.hid hb
      clear hb
      go_wp2
      go_ret
      exact ⟨ret_bool (by simp [vpsB, Ha.out, h7]), HB.out⟩
  · have h7' : decide ((L.length : Int) ≤ 7) = false := by simp; omega
    go_enter Try.func37, Try.ntmps37
    go_wp2
    go_ret
    exact ⟨ret_bool (by simp [vpsB, h7]), Below.refl _ _⟩
end Go.Proofs.Ytogpdpjheknkjab
