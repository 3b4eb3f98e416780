import Derived.Test.YtnkoeekgdehhiaaPG
namespace Go.Proofs.Ytnkoeekgdehhiaa
open Go.RowKit
set_option linter.unusedVariables false
set_option maxHeartbeats 1000000
attribute [local go_sem 5000] run_mx run_mn
theorem upright_p (p : Pk) (w : World) : Calls Try.prog 46 #[.int .i64 p.s] w fun e w' => e = .returned (.bool p.down) ∧ w = w' := upright_v p.s w
theorem mx_pos {a : Int} (h : 0 ≤ a) : mx a 0 = a := by have := mx_spec a 0; omega
set_option maxRecDepth 100000 in
theorem share_v (A : Option Addr) (c : Nat) (L : List Pk) (room : Int) (d : Bool) (w : World) (h : PV w A L) (hL : vpsB L = true) (p0 : Pk) (r0 : List Pk) (hp0 : L = p0 :: r0) (hd0 : p0.down = d) (hx0 : p0.ex = true) (hr : 0 ≤ room) (hr' : room ≤ 400) :
    Calls Try.prog 52 #[.slice A L.length c, .int .i64 room, .bool d] w fun e w' => e = .returned (.int .i64 (shareGo L d room room 0)) ∧ Below w.heap.size w w' := by
  obtain ⟨hok, h7⟩ := vpsB_iff.1 hL
  have H0 := Lib.hid (And.intro hp0 (And.intro hd0 hx0))
  have HL := Lib.hid hok
  clear hp0 hd0 hx0 hok hL
  obtain ⟨R, hR⟩ : ∃ R, shareGo L d room room 0 = R := ⟨_, rfl⟩
  rw [hR]
  have HR := Lib.hid hR
  clear hR
  go_enter Try.func52, Try.ntmps52
  go_wp2_with fail
  go_loopw [1, 7, 8, 9] (fun rm sh n i wr => ∃ (k : Nat) (a b q : Int), k ≤ L.length ∧ rm = .int .i64 a ∧ sh = .int .i64 b ∧ n = .int .i64 q ∧ i = .int .i64 k ∧ shareGo (L.drop k) d b a q = R ∧ (-(50 * (k : Int)) ≤ a ∧ a ≤ 400) ∧ (0 ≤ b ∧ b ≤ 400) ∧ (0 ≤ q ∧ q ≤ k) ∧ (1 ≤ k → 1 ≤ q) ∧ Below w.heap.size w wr) (fun _ _ _ i _ => L.length - (intOf i).toNat)
  case atStart => exact ⟨0, room, room, 0, by omega, rfl, rfl, rfl, rfl, HR.out, by omega, by omega, by omega, by omega, Below.refl _ _⟩
  case round =>
    obtain ⟨k, a, b, q, hk, rfl, rfl, rfl, rfl, hS, ⟨ha1, ha2⟩, ⟨hb1, hb2⟩, ⟨hq1, hq2⟩, hkq, hB⟩ := hrel
    have HBB := Lib.hid hB
    have HS := Lib.hid hS
    clear HR hB hS
    by_cases hlt : k < L.length
    · have hd : decide ((k : Int) < (L.length : Int)) = true := by simpa using hlt
      obtain ⟨g, off, rfl, hg, hp⟩ := (h.keep HBB.out).cells (by omega)
      obtain ⟨c0, c1, c2, c3, c4, c5, c6, c7, c8⟩ := hp k _ (List.getElem?_eq_getElem hlt)
      have hget : L[k]? = some L[k] := List.getElem?_eq_getElem hlt
      generalize hx : L[k] = p at *
      have hpk : p.ok = true := HL.out p (List.mem_of_getElem? hget)
      have nb := Pk.need_bd hpk d
      have hfst : k = 0 → p.down = d ∧ p.ex = true := by
        rintro rfl
        obtain ⟨e1, e2, e3⟩ := H0.out
        have e4 : p = p0 := by rw [e1] at hget; simpa using hget.symm
        rw [e4]; exact ⟨e2, e3⟩
      have HG := Lib.hid hget
      have HX := Lib.hid hx
      have HP := Lib.hid hp
      have HPK := Lib.hid hpk
      clear hget hx hp hpk
      by_cases hdn : p.down = d
      · have heq : (p.down == d) = true := by simp [hdn]
        have HDN := Lib.hid hdn
        have HF := Lib.hid hfst
        clear hdn hfst
        cases hex : p.ex
        all_goals
          have HEX := Lib.hid hex
          have HC5 := Lib.hid c5
          clear hex
          go_wp2_with fail
          refine (outer_v p _ HPK.out).mono ?_
          rintro e w1 ⟨rfl, hbb⟩
          obtain ⟨d0, d1, d2, d3, d4, d5, d6, d7, d8⟩ := (HP.out k p HG.out).keep (hbb.block g hg)
          rw [HEX.out] at d5
          replace HBB := Lib.hid (HBB.out.trans (hbb.mono HBB.out.size))
          clear hbb c0 c1 c2 c3 c4 c5 c6 c7 c8
          cases d
          all_goals
            go_wp2_with fail
            refine (upright_p p _).mono ?_
            rintro e w2 ⟨rfl, rfl⟩
            go_wp2
            go_roundw
        case rel => exact ⟨k + 1, _, _, _, by omega, rfl, rfl, rfl, by go_num, by rw [← HS.out, drop_cons HG.out, shareGo_plain HDN.out HEX.out], by omega, by omega, by omega, fun _ => hkq (by
          rcases Nat.eq_zero_or_pos k with e | e
          · have h9 := (HF.out e).2
            rw [HEX.out] at h9
            cases h9
          · exact e), HBB.out⟩
        case measure => simp [intOf]; omega
        case rel => exact ⟨k + 1, _, _, _, by omega, rfl, rfl, rfl, by go_num, by rw [← HS.out, drop_cons HG.out, shareGo_plain HDN.out HEX.out], by omega, by omega, by omega, fun _ => hkq (by
          rcases Nat.eq_zero_or_pos k with e | e
          · have h9 := (HF.out e).2
            rw [HEX.out] at h9
            cases h9
          · exact e), HBB.out⟩
        case measure => simp [intOf]; omega
        case rel => exact ⟨k + 1, _, _, _, by omega, rfl, rfl, rfl, by go_num, by rw [← HS.out, drop_cons HG.out, shareGo_same HDN.out HEX.out], by omega, by omega, by omega, by omega, HBB.out⟩
        case measure => simp [intOf]; omega
        case rel => exact ⟨k + 1, _, _, _, by omega, rfl, rfl, rfl, by go_num, by rw [← HS.out, drop_cons HG.out, shareGo_same HDN.out HEX.out], by omega, by omega, by omega, by omega, HBB.out⟩
        case measure => simp [intOf]; omega
      · have heq : (p.down == d) = false := by simpa using hdn
        have hk1 : 1 ≤ k := by
          rcases Nat.eq_zero_or_pos k with e | e
          · exact absurd (hfst e).1 hdn
          · exact e
        have hq3 : 1 ≤ q := hkq hk1
        have HDN := Lib.hid hdn
        have pb := part_bd (r := a - p.need d) (n := q) (by omega) hq3
        have nb2 := mn_spec b (mx (a - p.need d) 0 / q)
        have hq0 : decide (0 < q) = true := by simp; omega
        clear hdn hfst hkq
        go_wp2_with fail
        refine (outer_v p _ HPK.out).mono ?_
        rintro e w1 ⟨rfl, hbb⟩
        obtain ⟨d0, d1, d2, d3, d4, d5, d6, d7, d8⟩ := (HP.out k p HG.out).keep (hbb.block g hg)
        replace HBB := Lib.hid (HBB.out.trans (hbb.mono HBB.out.size))
        clear hbb c0 c1 c2 c3 c4 c5 c6 c7 c8
        cases d
        all_goals
          go_wp2_with fail
          refine (upright_p p _).mono ?_
          rintro e w2 ⟨rfl, rfl⟩
          go_wp2_with fail
          first | refine (half_v (a - p.need false) q _ (by omega) (by omega) hq3 (by omega)).mono ?_ | refine (half_v (a - p.need true) q _ (by omega) (by omega) hq3 (by omega)).mono ?_
          rintro e w3 ⟨rfl, rfl⟩
          go_wp2
          go_roundw
          case rel => exact ⟨k + 1, _, _, _, by omega, rfl, rfl, rfl, by go_num, by rw [← HS.out, drop_cons HG.out, shareGo_other HDN.out], by omega, by omega, by omega, by omega, HBB.out⟩
          case measure => simp [intOf]; omega
    · have hd : decide ((k : Int) < (L.length : Int)) = false := by simp; omega
      obtain rfl : k = L.length := by omega
      have hk1 : 1 ≤ L.length := by rw [H0.out.1]; simp
      have hq3 : 1 ≤ q := hkq hk1
      have hSS := HS.out
      rw [List.drop_length] at hSS
      have HS2 := Lib.hid hSS
      have pb := part_bd (r := a) (n := q) (by omega) hq3
      have nb2 := mn_spec b (mx a 0 / q)
      have hq0 : decide (0 < q) = true := by simp; omega
      have hmx : mx (mn b (mx a 0 / q)) 0 = mn b (mx a 0 / q) := mx_pos (by omega)
      have HMX := Lib.hid hmx
      clear hSS HS hkq hmx
      go_wp2_with fail
      refine (half_v a q _ (by omega) (by omega) hq3 (by omega)).mono ?_
      rintro e w3 ⟨rfl, rfl⟩
      go_wp2
      go_ret
      exact ⟨ret_int (by rw [HMX.out, ← HS2.out]; rfl), HBB.out⟩
end Go.Proofs.Ytnkoeekgdehhiaa
