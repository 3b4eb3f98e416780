import Derived.Test.YtgdkionmeacalabGreatQ14
import Derived.OwnWalk
section
namespace Go.Proofs.YtgdkionmeacalabGreat
open Go.RowKit
set_option linter.unusedVariables false
set_option maxHeartbeats 1000000
attribute [local go_sem 5000] run_mx run_mn
set_option maxRecDepth 100000 in
theorem expandShare_v (A : Option Addr) (c : Nat) (L : List Pk) (room : Int) (d : Bool) (w : World) (h : PV w A L) (hL : vpsB L = true) (p0 : Pk) (r0 : List Pk) (hp0 : L = p0 :: r0) (hd0 : p0.down = d) (hx0 : p0.ex = true) (hr : 0 ≤ room) (hr' : room ≤ 400) :
    Calls Tryz.prog 191 #[.slice A L.length c, .int .i64 room, .bool d] w fun e w' => e = .returned (.int .i64 (shareGo L d room room 0)) ∧ Below w.heap.size w w' := by
  obtain ⟨hok, h7⟩ := vpsB_iff.1 hL
  have H0 := Lib.hid (And.intro hp0 (And.intro hd0 hx0))
  have HL := Lib.hid hok
  clear hp0 hd0 hx0 hok hL
  obtain ⟨R, hR⟩ : ∃ R, shareGo L d room room 0 = R := ⟨_, rfl⟩
  rw [hR]
  have HR := Lib.hid hR
  clear hR
  go_enter Tryz.func191, Tryz.ntmps191
  go_wp2_with fail
  go_loopw [1, 7, 8, 14] (fun rm sh n i wr => ∃ (k : Nat) (a b q : Int), k ≤ L.length ∧ rm = .int .i64 a ∧ sh = .int .i64 b ∧ n = .int .i64 q ∧ i = .int .i64 k ∧ shareGo (L.drop k) d b a q = R ∧ (-(50 * (k : Int)) ≤ a ∧ a ≤ 400) ∧ (0 ≤ b ∧ b ≤ 400) ∧ (0 ≤ q ∧ q ≤ k) ∧ (1 ≤ k → 1 ≤ q) ∧ Below w.heap.size w wr) (fun _ _ _ i _ => L.length - (intOf i).toNat)
  case atStart => exact ⟨0, room, room, 0, by omega, rfl, rfl, rfl, rfl, HR.out, by omega, by omega, by omega, by omega, Below.refl _ _⟩
  case round =>
    obtain ⟨k, a, b, q, hk, rfl, rfl, rfl, rfl, hS, ⟨ha1, ha2⟩, ⟨hb1, hb2⟩, ⟨hq1, hq2⟩, hkq, hB⟩ := hrel
    have HBB := Lib.hid hB
    have HS := Lib.hid hS
    clear HR hB hS
    by_cases hlt : k < L.length
    · have hd : decide ((k : Int) < (L.length : Int)) = true := by simpa using hlt
      obtain ⟨g, off, rfl, hg, hp⟩ := (h.keep HBB.out).cells (by omega)
      obtain ⟨c0, c1, c2, c3, c4, c5, c6, c7, c8⟩ := hp k _ (List.getElem?_eq_getElem hlt)
      have hget : L[k]? = some L[k] := List.getElem?_eq_getElem hlt
      generalize hx : L[k] = p at *
      have hpk : p.ok = true := HL.out p (List.mem_of_getElem? hget)
      have nb := Pk.need_bd hpk d
      have hfst : k = 0 → p.down = d ∧ p.ex = true := by
        rintro rfl
        obtain ⟨e1, e2, e3⟩ := H0.out
        have e4 : p = p0 := by rw [e1] at hget; simpa using hget.symm
        rw [e4]; exact ⟨e2, e3⟩
      have HG := Lib.hid hget
      have HX := Lib.hid hx
      have HP := Lib.hid hp
      have HPK := Lib.hid hpk
      clear hget hx hp hpk
      by_cases hdn : p.down = d
      · have hne : (p.down != d) = false := by simp [hdn]
        have heq : (p.down == d) = true := by simp [hdn]
        have HDN := Lib.hid hdn
        have HF := Lib.hid hfst
        clear hdn hfst
        cases hex : p.ex
        all_goals
          have HEX := Lib.hid hex
          rw [hex] at c5
          clear hex
          go_wp2_with fail
          rw [← HEX.out]
          refine (isDown_v p _).mono ?_
          rintro e w1 ⟨rfl, hbb⟩
          have hv := (hbb.block wr.heap.size (by simp)).trans (heap_new wr _)
          replace HBB := Lib.hid (HBB.out.trans ((Below.refl wr.heap.size wr).alloc (Nat.le_refl _) _ |>.trans (hbb.mono (by simp)) |>.mono HBB.out.size))
          have HV := Lib.hid hv
          obtain ⟨v0, v1, v2, v3, v4, v5, v6, v7, v8⟩ := b9c hv
          clear hbb hv c0 c1 c2 c3 c4 c5 c6 c7 c8
          go_wp2_with fail
          refine (need_v p d _ HPK.out).mono ?_
          rintro e w2 ⟨rfl, hbb⟩
          have hv := (hbb.block wr.heap.size (Array.getElem?_eq_some_iff.1 HV.out).1).trans HV.out
          replace HBB := Lib.hid (HBB.out.trans (hbb.mono HBB.out.size))
          clear v0 v1 v2 v3 v4 v5 v6 v7 v8
          obtain ⟨v0, v1, v2, v3, v4, v5, v6, v7, v8⟩ := b9c hv
          rw [HEX.out] at v5
          clear hbb hv HV
          go_wp2
          go_roundw
        case rel => exact ⟨k + 1, _, _, _, by omega, rfl, rfl, rfl, by go_num, by rw [← HS.out, drop_cons HG.out, shareGo_plain HDN.out HEX.out], by omega, by omega, by omega, fun _ => hkq (by
          rcases Nat.eq_zero_or_pos k with e | e
          · have h9 := (HF.out e).2
            rw [HEX.out] at h9
            cases h9
          · exact e), HBB.out⟩
        case measure => simp [intOf]; omega
        case rel => exact ⟨k + 1, _, _, _, by omega, rfl, rfl, rfl, by go_num, by rw [← HS.out, drop_cons HG.out, shareGo_same HDN.out HEX.out], by omega, by omega, by omega, by omega, HBB.out⟩
        case measure => simp [intOf]; omega
      · have hne : (p.down != d) = true := by simpa using hdn
        have heq : (p.down == d) = false := by simpa using hdn
        have hk1 : 1 ≤ k := by
          rcases Nat.eq_zero_or_pos k with e | e
          · exact absurd (hfst e).1 hdn
          · exact e
        have hq3 : 1 ≤ q := hkq hk1
        have HDN := Lib.hid hdn
        have pb := part_bd (r := a - p.need d) (n := q) (by omega) hq3
        have mb := mx_spec (a - p.need d) 0
        have m0 : 0 ≤ mx (a - p.need d) 0 := by omega
        have nb2 := mn_spec b (mx (a - p.need d) 0 / q)
        have hq0 : ¬ q = 0 := by omega
        clear hdn hfst hkq
        go_wp2_with fail
        refine (isDown_v p _).mono ?_
        rintro e w1 ⟨rfl, hbb⟩
        have hv := (hbb.block wr.heap.size (by simp)).trans (heap_new wr _)
        replace HBB := Lib.hid (HBB.out.trans ((Below.refl wr.heap.size wr).alloc (Nat.le_refl _) _ |>.trans (hbb.mono (by simp)) |>.mono HBB.out.size))
        have HV := Lib.hid hv
        obtain ⟨v0, v1, v2, v3, v4, v5, v6, v7, v8⟩ := b9c hv
        clear hbb hv c0 c1 c2 c3 c4 c5 c6 c7 c8
        go_wp2_with fail
        refine (need_v p d _ HPK.out).mono ?_
        rintro e w2 ⟨rfl, hbb⟩
        replace HBB := Lib.hid (HBB.out.trans (hbb.mono HBB.out.size))
        clear v0 v1 v2 v3 v4 v5 v6 v7 v8 hbb HV
        go_wp2
        go_roundw
        case rel => exact ⟨k + 1, _, _, _, by omega, rfl, rfl, rfl, by go_num, by rw [← HS.out, drop_cons HG.out, shareGo_other HDN.out], by omega, by omega, by omega, by omega, HBB.out⟩
        case measure => simp [intOf]; omega
    · have hd : decide ((k : Int) < (L.length : Int)) = false := by simp; omega
      obtain rfl : k = L.length := by omega
      have hk1 : 1 ≤ L.length := by rw [H0.out.1]; simp
      have hq3 : 1 ≤ q := hkq hk1
      have hSS := HS.out
      rw [List.drop_length] at hSS
      have HS2 := Lib.hid hSS
      have pb := part_bd (r := a) (n := q) (by omega) hq3
      have mb := mx_spec a 0
      have m0 : 0 ≤ mx a 0 := by omega
      have hq0 : ¬ q = 0 := by omega
      clear hSS HS hkq
      go_wp2
      go_ret
      exact ⟨ret_int (by rw [← HS2.out]; rfl), HBB.out⟩
end Go.Proofs.YtgdkionmeacalabGreat
end
section
namespace Go.Proofs.YtgdkionmeacalabGreat
open Go.RowKit
set_option linter.unusedVariables false
set_option maxHeartbeats 1000000
attribute [local go_sem 5000] run_mx run_mn
theorem upright_p (p : Pk) (w : World) : Calls Tryz.prog 76 #[.int .i64 p.s] w fun e w' => e = .returned (.bool p.down) ∧ w = w' := upright_v p.s w
theorem mx_pos {a : Int} (h : 0 ≤ a) : mx a 0 = a := by have := mx_spec a 0; omega
set_option maxRecDepth 100000 in
theorem share_v (A : Option Addr) (c : Nat) (L : List Pk) (room : Int) (d : Bool) (w : World) (h : PV w A L) (hL : vpsB L = true) (p0 : Pk) (r0 : List Pk) (hp0 : L = p0 :: r0) (hd0 : p0.down = d) (hx0 : p0.ex = true) (hr : 0 ≤ room) (hr' : room ≤ 400) :
    Calls Tryz.prog 125 #[.slice A L.length c, .int .i64 room, .bool d] w fun e w' => e = .returned (.int .i64 (shareGo L d room room 0)) ∧ Below w.heap.size w w' := by
  obtain ⟨hok, h7⟩ := vpsB_iff.1 hL
  have H0 := Lib.hid (And.intro hp0 (And.intro hd0 hx0))
  have HL := Lib.hid hok
  clear hp0 hd0 hx0 hok hL
  obtain ⟨R, hR⟩ : ∃ R, shareGo L d room room 0 = R := ⟨_, rfl⟩
  rw [hR]
  have HR := Lib.hid hR
  clear hR
  go_enter Tryz.func125, Tryz.ntmps125
  go_wp2_with fail
  go_loopw [1, 7, 8, 9] (fun rm sh n i wr => ∃ (k : Nat) (a b q : Int), k ≤ L.length ∧ rm = .int .i64 a ∧ sh = .int .i64 b ∧ n = .int .i64 q ∧ i = .int .i64 k ∧ shareGo (L.drop k) d b a q = R ∧ (-(50 * (k : Int)) ≤ a ∧ a ≤ 400) ∧ (0 ≤ b ∧ b ≤ 400) ∧ (0 ≤ q ∧ q ≤ k) ∧ (1 ≤ k → 1 ≤ q) ∧ Below w.heap.size w wr) (fun _ _ _ i _ => L.length - (intOf i).toNat)
  case atStart => exact ⟨0, room, room, 0, by omega, rfl, rfl, rfl, rfl, HR.out, by omega, by omega, by omega, by omega, Below.refl _ _⟩
  case round =>
    obtain ⟨k, a, b, q, hk, rfl, rfl, rfl, rfl, hS, ⟨ha1, ha2⟩, ⟨hb1, hb2⟩, ⟨hq1, hq2⟩, hkq, hB⟩ := hrel
    have HBB := Lib.hid hB
    have HS := Lib.hid hS
    clear HR hB hS
    by_cases hlt : k < L.length
    · have hd : decide ((k : Int) < (L.length : Int)) = true := by simpa using hlt
      obtain ⟨g, off, rfl, hg, hp⟩ := (h.keep HBB.out).cells (by omega)
      obtain ⟨c0, c1, c2, c3, c4, c5, c6, c7, c8⟩ := hp k _ (List.getElem?_eq_getElem hlt)
      have hget : L[k]? = some L[k] := List.getElem?_eq_getElem hlt
      generalize hx : L[k] = p at *
      have hpk : p.ok = true := HL.out p (List.mem_of_getElem? hget)
      have nb := Pk.need_bd hpk d
      have hfst : k = 0 → p.down = d ∧ p.ex = true := by
        rintro rfl
        obtain ⟨e1, e2, e3⟩ := H0.out
        have e4 : p = p0 := by rw [e1] at hget; simpa using hget.symm
        rw [e4]; exact ⟨e2, e3⟩
      have HG := Lib.hid hget
      have HX := Lib.hid hx
      have HP := Lib.hid hp
      have HPK := Lib.hid hpk
      clear hget hx hp hpk
      by_cases hdn : p.down = d
      · have heq : (p.down == d) = true := by simp [hdn]
        have HDN := Lib.hid hdn
        have HF := Lib.hid hfst
        clear hdn hfst
        cases hex : p.ex
        all_goals
          have HEX := Lib.hid hex
          have HC5 := Lib.hid c5
          clear hex
          go_wp2_with fail
          refine (outer_v p _ HPK.out).mono ?_
          rintro e w1 ⟨rfl, hbb⟩
          obtain ⟨d0, d1, d2, d3, d4, d5, d6, d7, d8⟩ := (HP.out k p HG.out).keep (hbb.block g hg)
          rw [HEX.out] at d5
          replace HBB := Lib.hid (HBB.out.trans (hbb.mono HBB.out.size))
          clear hbb c0 c1 c2 c3 c4 c5 c6 c7 c8
          cases d
          all_goals
            go_wp2_with fail
            refine (upright_p p _).mono ?_
            rintro e w2 ⟨rfl, rfl⟩
            go_wp2
            go_roundw
        case rel => exact ⟨k + 1, _, _, _, by omega, rfl, rfl, rfl, by go_num, by rw [← HS.out, drop_cons HG.out, shareGo_plain HDN.out HEX.out], by omega, by omega, by omega, fun _ => hkq (by
          rcases Nat.eq_zero_or_pos k with e | e
          · have h9 := (HF.out e).2
            rw [HEX.out] at h9
            cases h9
          · exact e), HBB.out⟩
        case measure => simp [intOf]; omega
        case rel => exact ⟨k + 1, _, _, _, by omega, rfl, rfl, rfl, by go_num, by rw [← HS.out, drop_cons HG.out, shareGo_plain HDN.out HEX.out], by omega, by omega, by omega, fun _ => hkq (by
          rcases Nat.eq_zero_or_pos k with e | e
          · have h9 := (HF.out e).2
            rw [HEX.out] at h9
            cases h9
          · exact e), HBB.out⟩
        case measure => simp [intOf]; omega
        case rel => exact ⟨k + 1, _, _, _, by omega, rfl, rfl, rfl, by go_num, by rw [← HS.out, drop_cons HG.out, shareGo_same HDN.out HEX.out], by omega, by omega, by omega, by omega, HBB.out⟩
        case measure => simp [intOf]; omega
        case rel => exact ⟨k + 1, _, _, _, by omega, rfl, rfl, rfl, by go_num, by rw [← HS.out, drop_cons HG.out, shareGo_same HDN.out HEX.out], by omega, by omega, by omega, by omega, HBB.out⟩
        case measure => simp [intOf]; omega
      · have heq : (p.down == d) = false := by simpa using hdn
        have hk1 : 1 ≤ k := by
          rcases Nat.eq_zero_or_pos k with e | e
          · exact absurd (hfst e).1 hdn
          · exact e
        have hq3 : 1 ≤ q := hkq hk1
        have HDN := Lib.hid hdn
        have pb := part_bd (r := a - p.need d) (n := q) (by omega) hq3
        have nb2 := mn_spec b (mx (a - p.need d) 0 / q)
        have hq0 : decide (0 < q) = true := by simp; omega
        clear hdn hfst hkq
        go_wp2_with fail
        refine (outer_v p _ HPK.out).mono ?_
        rintro e w1 ⟨rfl, hbb⟩
        obtain ⟨d0, d1, d2, d3, d4, d5, d6, d7, d8⟩ := (HP.out k p HG.out).keep (hbb.block g hg)
        replace HBB := Lib.hid (HBB.out.trans (hbb.mono HBB.out.size))
        clear hbb c0 c1 c2 c3 c4 c5 c6 c7 c8
        cases d
        all_goals
          go_wp2_with fail
          refine (upright_p p _).mono ?_
          rintro e w2 ⟨rfl, rfl⟩
          go_wp2_with fail
          first | refine (half_v (a - p.need false) q _ (by omega) (by omega) hq3 (by omega)).mono ?_ | refine (half_v (a - p.need true) q _ (by omega) (by omega) hq3 (by omega)).mono ?_
          rintro e w3 ⟨rfl, rfl⟩
          go_wp2
          go_roundw
          case rel => exact ⟨k + 1, _, _, _, by omega, rfl, rfl, rfl, by go_num, by rw [← HS.out, drop_cons HG.out, shareGo_other HDN.out], by omega, by omega, by omega, by omega, HBB.out⟩
          case measure => simp [intOf]; omega
    · have hd : decide ((k : Int) < (L.length : Int)) = false := by simp; omega
      obtain rfl : k = L.length := by omega
      have hk1 : 1 ≤ L.length := by rw [H0.out.1]; simp
      have hq3 : 1 ≤ q := hkq hk1
      have hSS := HS.out
      rw [List.drop_length] at hSS
      have HS2 := Lib.hid hSS
      have pb := part_bd (r := a) (n := q) (by omega) hq3
      have nb2 := mn_spec b (mx a 0 / q)
      have hq0 : decide (0 < q) = true := by simp; omega
      have hmx : mx (mn b (mx a 0 / q)) 0 = mn b (mx a 0 / q) := mx_pos (by omega)
      have HMX := Lib.hid hmx
      clear hSS HS hkq hmx
      go_wp2_with fail
      refine (half_v a q _ (by omega) (by omega) hq3 (by omega)).mono ?_
      rintro e w3 ⟨rfl, rfl⟩
      go_wp2
      go_ret
      exact ⟨ret_int (by rw [HMX.out, ← HS2.out]; rfl), HBB.out⟩
end Go.Proofs.YtgdkionmeacalabGreat
end
section
namespace Go.Proofs.YtgdkionmeacalabGreat
open Go.RowKit
set_option linter.unusedVariables false
set_option maxHeartbeats 1000000
attribute [local go_sem 5000] run_mx run_mn
def esB (L : List Pk) (room : Int) (d : Bool) : Bool := vpsB L && (match L with
  | [] => false
  | p :: _ => rng room 0 400 && (p.ex && (p.down == d)))
theorem esB_yes {L : List Pk} {room : Int} {d : Bool} (h : esB L room d = true) : ∃ p r, L = p :: r ∧ vpsB L = true ∧ rng room 0 400 = true ∧ p.ex = true ∧ p.down = d := by
  unfold esB at h
  rw [Bool.and_eq_true] at h
  obtain ⟨h1, h2⟩ := h
  match L, h1, h2 with
  | p :: r, h1, h2 =>
    simp only [Bool.and_eq_true, beq_iff_eq] at h2
    exact ⟨p, r, rfl, h1, h2.1, h2.2.1, h2.2.2⟩
theorem esB_no {L : List Pk} {room : Int} {d : Bool} (h : esB L room d = false) : L = [] ∨ (∃ p r, L = p :: r ∧ (vpsB L = false ∨ (vpsB L = true ∧ rng room 0 400 = false) ∨ (vpsB L = true ∧ rng room 0 400 = true ∧ p.ex = false) ∨ (vpsB L = true ∧ rng room 0 400 = true ∧ p.ex = true ∧ (p.down == d) = false))) := by
  match L, h with
  | [], _ => exact .inl rfl
  | p :: r, h =>
    refine .inr ⟨p, r, rfl, ?_⟩
    unfold esB at h
    cases h1 : vpsB (p :: r)
    · exact .inl rfl
    · cases h2 : rng room 0 400
      · exact .inr (.inl ⟨rfl, rfl⟩)
      · cases h3 : p.ex
        · exact .inr (.inr (.inl ⟨rfl, rfl, rfl⟩))
        · simp [h1, h2, h3] at h
          exact .inr (.inr (.inr ⟨rfl, rfl, rfl, by simpa using h⟩))
theorem first_cells {w : World} {A : Option Addr} {L : List Pk} {p : Pk} {r : List Pk} (h : PV w A L) (e : L = p :: r) : ∃ b off, A = some ⟨b, off, none⟩ ∧ b < w.heap.size ∧ Cells9 w b off p := by
  subst e
  obtain ⟨b, off, e, hb, hp⟩ := h.cells (by simp)
  have := hp 0 p rfl
  exact ⟨b, off, e, hb, by simpa using this⟩
theorem within_v (n a b : Int) (t : Bool) (w : World) (h : rng n a b = t) : Calls Tryz.prog 45 #[.int .i64 n, .int .i64 a, .int .i64 b] w fun e w' => e = .returned (.bool t) ∧ w = w' := by rw [← h]; exact within_any n a b w
theorem inRange_v (n a b : Int) (t : Bool) (w : World) (h : rng n a b = t) : Calls Tryz.prog 52 #[.int .i64 n, .int .i64 a, .int .i64 b] w fun e w' => e = .returned (.bool t) ∧ w = w' := by rw [← h]; exact inRange_any n a b w
end Go.Proofs.YtgdkionmeacalabGreat
end
section
namespace Go.Proofs.YtgdkionmeacalabGreat
open Go.RowKit
set_option linter.unusedVariables false
set_option maxHeartbeats 1000000
attribute [local go_sem 5000] run_mx run_mn
set_option maxRecDepth 100000 in
theorem request_w (A : Option Addr) (c : Nat) (L : List Pk) (w : World) (h : PV w A L) (hok : ∀ p ∈ L, p.big) (h7 : L.length ≤ 10) :
    Calls Tryz.prog 54 #[.slice A L.length c] w fun e w' => e = .returned (.tuple #[.int .i64 (reqM L).1, .int .i64 (reqM L).2]) ∧ Below w.heap.size w w' := by
  have HOK := Lib.hid hok
  clear hok
  go_enter Tryz.func54, Tryz.ntmps54
  go_wp2_with fail
  go_loopw [4, 5, 6] (fun a b i wr => ∃ k : Nat, k ≤ L.length ∧ i = .int .i64 ((k : Int) - 1) ∧ a = .int .i64 (reqM (L.drop k)).1 ∧ b = .int .i64 (reqM (L.drop k)).2 ∧ Below w.heap.size w wr) (fun _ _ i _ => (intOf i + 1).toNat)
  case atStart => exact ⟨L.length, Nat.le_refl _, rfl, by rw [List.drop_length]; rfl, by rw [List.drop_length]; rfl, Below.refl _ _⟩
  case round =>
    obtain ⟨k, hk, rfl, rfl, rfl, hB⟩ := hrel
    rcases k with _ | j
    · have hd : decide (((0 : Nat) : Int) - 1 ≥ 0) = false := by simp
      have HBB := Lib.hid hB
      clear hB
      rw [List.drop_zero]
      go_wp2
      exact bodyPost_ret (v := .tuple #[.int .i64 (reqM L).1, .int .i64 (reqM L).2]) (by simp only [results, Tryz.results54]; go_simp) rfl ⟨rfl, HBB.out⟩
    · have e1 : ((j + 1 : Nat) : Int) - 1 = (j : Int) := by omega
      rw [e1]
      have hlt : j < L.length := by omega
      have hd : decide ((j : Int) ≥ 0) = true := by simp
      have hd2 : decide ((0 : Int) ≤ (j : Int)) = true := by simp
      obtain ⟨b, off, rfl, hb, hps⟩ := (h.keep hB).cells (by omega)
      have hget : L[j]? = some L[j] := List.getElem?_eq_getElem hlt
      obtain ⟨c0, c1, c2, c3, c4, c5, c6, c7, c8⟩ := hps j _ hget
      generalize hx : L[j] = p at *
      have hpk : p.big := HOK.out p (List.mem_of_getElem? hget)
      have hdrop := drop_cons hget
      obtain ⟨q1, q2, q3, q4⟩ := reqM_bdW (L := L.drop (j + 1)) (fun q hq => HOK.out q (List.mem_of_mem_drop hq))
      rw [List.length_drop] at q2 q4
      have n1 := Pk.need_bdW hpk false
      have n2 := Pk.need_bdW hpk true
      obtain ⟨U, hU⟩ : ∃ U, (reqM (L.drop (j + 1))).1 = U := ⟨_, rfl⟩
      obtain ⟨V, hV⟩ : ∃ V, (reqM (L.drop (j + 1))).2 = V := ⟨_, rfl⟩
      rw [hU] at q1 q2
      rw [hV] at q3 q4
      rw [hU, hV]
      have HU := Lib.hid hU
      have HV := Lib.hid hV
      have HD := Lib.hid hdrop
      have HPS := Lib.hid hps
      have HG := Lib.hid hget
      have HBB := Lib.hid hB
      clear hU hV hdrop hx hps hget hB e1
      go_wp2_with fail
      refine (outer_w p _ hpk).mono ?_
      rintro e w1 ⟨rfl, hb1⟩
      have hc9 := (HPS.out j p HG.out).keep (hb1.block b hb)
      obtain ⟨d0, d1, d2, d3, d4, d5, d6, d7, d8⟩ := hc9
      replace HBB := Lib.hid (HBB.out.trans (hb1.mono HBB.out.size))
      clear hb1 c0 c1 c2 c3 c4 c5 c6 c7 c8
      have hjs : IntKind.i64.wrap ((j : Int) - 1) = (j : Int) - 1 := IntWalk.i64_in _ (by omega)
      cases hdn : p.down
      · go_wp2_with fail
        refine (upright_p p _).mono ?_
        rintro e w2 ⟨rfl, rfl⟩
        rw [hdn]
        go_wp2
        go_roundw
        case rel => exact ⟨j, by omega, by go_num, by rw [HD.out]; simp [reqM, hdn, HU.out, HV.out], by rw [HD.out]; simp [reqM, hdn, HU.out, HV.out], HBB.out⟩
        case measure => simp [intOf]
      · go_wp2_with fail
        refine (upright_p p _).mono ?_
        rintro e w2 ⟨rfl, rfl⟩
        rw [hdn]
        go_wp2
        go_roundw
        case rel => exact ⟨j, by omega, by go_num, by rw [HD.out]; simp [reqM, hdn, HU.out, HV.out], by rw [HD.out]; simp [reqM, hdn, HU.out, HV.out], HBB.out⟩
        case measure => simp [intOf]
theorem request_v (A : Option Addr) (c : Nat) (L : List Pk) (w : World) (h : PV w A L) (hL : vpsB L = true) :
    Calls Tryz.prog 54 #[.slice A L.length c] w fun e w' => e = .returned (.tuple #[.int .i64 (reqM L).1, .int .i64 (reqM L).2]) ∧ Below w.heap.size w w' := by
  obtain ⟨hok, h7⟩ := vpsB_iff.1 hL
  exact request_w A c L w h (fun p hp => Pk.ok_big (hok p hp)) (by omega)
end Go.Proofs.YtgdkionmeacalabGreat
end
section
namespace Go.Proofs.YtgdkionmeacalabGreat
open Go.RowKit
set_option linter.unusedVariables false
set_option maxHeartbeats 1000000
attribute [local go_sem] growUpon_value growUpon_skip growUpon_enter
def cellB (n m : Int) (c : Ce) : Bool := runB c.co c.mc n && (runB c.ro c.mr m && (rng c.cw 0 30 && (rng c.ch 0 30 && (rng c.sk 0 15 && (rng c.px 0 10 && rng c.py 0 10)))))
def gridB (L1 L2 : List Ln) (L3 : List Ce) : Bool := linesB L1 && (linesB L2 && (decide ((L3.length : Int) ≤ 8) && L3.all (cellB L1.length L2.length)))
set_option maxRecDepth 100000 in
theorem validCell_v (c : Ce) (n m : Int) (b : Bool) (w : World) (hn : 1 ≤ n) (hn5 : n ≤ 5) (hm : 1 ≤ m) (hm5 : m ≤ 5) (hb : cellB n m c = b) : Calls Tryz.prog 72 #[.agg #[.int .i64 c.co, .int .i64 c.ro, .int .i64 c.mc, .int .i64 c.mr, .int .i64 c.cw, .int .i64 c.ch, .int .i64 c.sk, .int .i64 c.px, .int .i64 c.py], .int .i64 n, .int .i64 m] w fun e w' => e = .returned (.bool b) ∧ Below w.heap.size w w' := by
  cases h1 : runB c.co c.mc n
  · have hbf : false = b := by rw [← hb]; simp [cellB, h1]
    subst hbf
    go_enter Tryz.func72, Tryz.ntmps72
    go_wp2_with fail
    with_reducible refine (validRun_v _ _ n false _ hn hn5 h1).mono ?_
    rintro e w1 ⟨rfl, rfl⟩
    go_wp2
    go_ret
    exact ⟨rfl, (by repeat (first | with_reducible exact Below.refl _ _ | with_reducible assumption | with_reducible refine balloc ?_ | (with_reducible refine bset ?_ ?_; rotate_left; ((try dsimp only); omega)) | refine bkeep2 ?_ (by assumption) | with_reducible refine Below.drew ?_))⟩
  cases h2 : runB c.ro c.mr m
  · have hbf : false = b := by rw [← hb]; simp [cellB, h2]
    subst hbf
    go_enter Tryz.func72, Tryz.ntmps72
    go_wp2_with fail
    with_reducible refine (validRun_v _ _ n true _ hn hn5 h1).mono ?_
    rintro e w1 ⟨rfl, rfl⟩
    go_wp2_with fail
    with_reducible refine (validRun_v _ _ m false _ hm hm5 h2).mono ?_
    rintro e w1 ⟨rfl, rfl⟩
    go_wp2
    go_ret
    exact ⟨rfl, (by repeat (first | with_reducible exact Below.refl _ _ | with_reducible assumption | with_reducible refine balloc ?_ | (with_reducible refine bset ?_ ?_; rotate_left; ((try dsimp only); omega)) | refine bkeep2 ?_ (by assumption) | with_reducible refine Below.drew ?_))⟩
  cases h3 : (rng c.cw 0 30 && rng c.ch 0 30)
  · have hbf : false = b := by rw [← hb]; cases u : rng c.cw 0 30 <;> cases v : rng c.ch 0 30 <;> simp [cellB, u, v] at h3 ⊢
    subst hbf
    go_enter Tryz.func72, Tryz.ntmps72
    go_wp2_with fail
    with_reducible refine (validRun_v _ _ n true _ hn hn5 h1).mono ?_
    rintro e w1 ⟨rfl, rfl⟩
    go_wp2_with fail
    with_reducible refine (validRun_v _ _ m true _ hm hm5 h2).mono ?_
    rintro e w1 ⟨rfl, rfl⟩
    go_wp2_with fail
    with_reducible refine (validWish_w _ _ false _ h3).mono ?_
    rintro e w1 ⟨rfl, rfl⟩
    go_wp2
    go_ret
    exact ⟨rfl, (by repeat (first | with_reducible exact Below.refl _ _ | with_reducible assumption | with_reducible refine balloc ?_ | (with_reducible refine bset ?_ ?_; rotate_left; ((try dsimp only); omega)) | refine bkeep2 ?_ (by assumption) | with_reducible refine Below.drew ?_))⟩
  obtain ⟨h3a, h3b⟩ : rng c.cw 0 30 = true ∧ rng c.ch 0 30 = true := by simpa using h3
  cases h4 : rng c.sk 0 15
  · have hbf : false = b := by rw [← hb]; simp [cellB, h4, h3a, h3b]
    subst hbf
    go_enter Tryz.func72, Tryz.ntmps72
    go_wp2_with fail
    with_reducible refine (validRun_v _ _ n true _ hn hn5 h1).mono ?_
    rintro e w1 ⟨rfl, rfl⟩
    go_wp2_with fail
    with_reducible refine (validRun_v _ _ m true _ hm hm5 h2).mono ?_
    rintro e w1 ⟨rfl, rfl⟩
    go_wp2_with fail
    with_reducible refine (validWish_w _ _ true _ h3).mono ?_
    rintro e w1 ⟨rfl, rfl⟩
    go_wp2_with fail
    with_reducible refine (within_w _ 0 15 false _ h4).mono ?_
    rintro e w1 ⟨rfl, rfl⟩
    go_wp2
    go_ret
    exact ⟨rfl, (by repeat (first | with_reducible exact Below.refl _ _ | with_reducible assumption | with_reducible refine balloc ?_ | (with_reducible refine bset ?_ ?_; rotate_left; ((try dsimp only); omega)) | refine bkeep2 ?_ (by assumption) | with_reducible refine Below.drew ?_))⟩
  cases h5 : rng c.px 0 10
  · have hbf : false = b := by rw [← hb]; simp [cellB, h5, h3a, h3b]
    subst hbf
    go_enter Tryz.func72, Tryz.ntmps72
    go_wp2_with fail
    with_reducible refine (validRun_v _ _ n true _ hn hn5 h1).mono ?_
    rintro e w1 ⟨rfl, rfl⟩
    go_wp2_with fail
    with_reducible refine (validRun_v _ _ m true _ hm hm5 h2).mono ?_
    rintro e w1 ⟨rfl, rfl⟩
    go_wp2_with fail
    with_reducible refine (validWish_w _ _ true _ h3).mono ?_
    rintro e w1 ⟨rfl, rfl⟩
    go_wp2_with fail
    with_reducible refine (within_w _ 0 15 true _ h4).mono ?_
    rintro e w1 ⟨rfl, rfl⟩
    go_wp2_with fail
    with_reducible refine (within_w _ 0 10 false _ h5).mono ?_
    rintro e w1 ⟨rfl, rfl⟩
    go_wp2
    go_ret
    exact ⟨rfl, (by repeat (first | with_reducible exact Below.refl _ _ | with_reducible assumption | with_reducible refine balloc ?_ | (with_reducible refine bset ?_ ?_; rotate_left; ((try dsimp only); omega)) | refine bkeep2 ?_ (by assumption) | with_reducible refine Below.drew ?_))⟩
  have h6 : rng c.py 0 10 = b := by rw [← hb]; simp [cellB, h1, h2, h4, h5, h3a, h3b]
  cases b
  all_goals
    go_enter Tryz.func72, Tryz.ntmps72
    go_wp2_with fail
    with_reducible refine (validRun_v _ _ n true _ hn hn5 h1).mono ?_
    rintro e w1 ⟨rfl, rfl⟩
    go_wp2_with fail
    with_reducible refine (validRun_v _ _ m true _ hm hm5 h2).mono ?_
    rintro e w1 ⟨rfl, rfl⟩
    go_wp2_with fail
    with_reducible refine (validWish_w _ _ true _ h3).mono ?_
    rintro e w1 ⟨rfl, rfl⟩
    go_wp2_with fail
    with_reducible refine (within_w _ 0 15 true _ h4).mono ?_
    rintro e w1 ⟨rfl, rfl⟩
    go_wp2_with fail
    with_reducible refine (within_w _ 0 10 true _ h5).mono ?_
    rintro e w1 ⟨rfl, rfl⟩
    go_wp2_with fail
    with_reducible refine (within_w _ 0 10 _ _ h6).mono ?_
    rintro e w1 ⟨rfl, rfl⟩
    go_wp2
    go_ret
    exact ⟨rfl, (by repeat (first | with_reducible exact Below.refl _ _ | with_reducible assumption | with_reducible refine balloc ?_ | (with_reducible refine bset ?_ ?_; rotate_left; ((try dsimp only); omega)) | refine bkeep2 ?_ (by assumption) | with_reducible refine Below.drew ?_))⟩
theorem linesB_len' {L : List Ln} (h : linesB L = true) : 1 ≤ L.length ∧ L.length ≤ 5 := by
  simp only [linesB, Bool.and_eq_true, rng_iff] at h
  omega
set_option maxRecDepth 100000 in
theorem svalidCell_v (c : Ce) (n1 n2 n3 c1 c2 c3 : Nat) (A1 A2 A3 : Option Addr) (b : Bool) (w : World) (hn : n1 ≤ 1048576) (hm : n2 ≤ 1048576) (hb : cellB n1 n2 c = b) : Calls Tryz.prog 94 #[.agg #[.slice A1 n1 c1, .slice A2 n2 c2, .slice A3 n3 c3], .agg #[.int .i64 c.co, .int .i64 c.ro, .int .i64 c.mc, .int .i64 c.mr, .int .i64 c.cw, .int .i64 c.ch, .int .i64 c.sk, .int .i64 c.px, .int .i64 c.py]] w fun e w' => e = .returned (.bool b) ∧ Below w.heap.size w w' := by
  cases h1 : rng c.co 0 ((n1 : Int) - 1)
  · have hbf : false = b := by rw [← hb]; simp [cellB, runB, h1]
    subst hbf
    go_enter Tryz.func94, Tryz.ntmps94
    go_wp2_with fail
    with_reducible refine (inRange_w _ 0 ((n1 : Int) - 1) false _ h1).mono ?_
    rintro e w1 ⟨rfl, rfl⟩
    go_wp2
    go_ret
    exact ⟨rfl, (by repeat (first | with_reducible exact Below.refl _ _ | with_reducible assumption | with_reducible refine balloc ?_ | (with_reducible refine bset ?_ ?_; rotate_left; ((try dsimp only); omega)) | refine bkeep2 ?_ (by assumption) | with_reducible refine Below.drew ?_))⟩
  have ha1 := rng_iff.1 h1
  cases h2 : rng c.ro 0 ((n2 : Int) - 1)
  · have hbf : false = b := by rw [← hb]; simp [cellB, runB, h2]
    subst hbf
    go_enter Tryz.func94, Tryz.ntmps94
    go_wp2_with fail
    with_reducible refine (inRange_w _ 0 ((n1 : Int) - 1) true _ h1).mono ?_
    rintro e w1 ⟨rfl, rfl⟩
    go_wp2_with fail
    with_reducible refine (inRange_w _ 0 ((n2 : Int) - 1) false _ h2).mono ?_
    rintro e w1 ⟨rfl, rfl⟩
    go_wp2
    go_ret
    exact ⟨rfl, (by repeat (first | with_reducible exact Below.refl _ _ | with_reducible assumption | with_reducible refine balloc ?_ | (with_reducible refine bset ?_ ?_; rotate_left; ((try dsimp only); omega)) | refine bkeep2 ?_ (by assumption) | with_reducible refine Below.drew ?_))⟩
  have ha2 := rng_iff.1 h2
  cases h3 : rng c.mc 1 ((n1 : Int) - c.co)
  · have hbf : false = b := by rw [← hb]; simp [cellB, runB, h3]
    subst hbf
    go_enter Tryz.func94, Tryz.ntmps94
    go_wp2_with fail
    with_reducible refine (inRange_w _ 0 ((n1 : Int) - 1) true _ h1).mono ?_
    rintro e w1 ⟨rfl, rfl⟩
    go_wp2_with fail
    with_reducible refine (inRange_w _ 0 ((n2 : Int) - 1) true _ h2).mono ?_
    rintro e w1 ⟨rfl, rfl⟩
    go_wp2_with fail
    with_reducible refine (inRange_w _ 1 ((n1 : Int) - c.co) false _ h3).mono ?_
    rintro e w1 ⟨rfl, rfl⟩
    go_wp2
    go_ret
    exact ⟨rfl, (by repeat (first | with_reducible exact Below.refl _ _ | with_reducible assumption | with_reducible refine balloc ?_ | (with_reducible refine bset ?_ ?_; rotate_left; ((try dsimp only); omega)) | refine bkeep2 ?_ (by assumption) | with_reducible refine Below.drew ?_))⟩
  cases h4 : rng c.mr 1 ((n2 : Int) - c.ro)
  · have hbf : false = b := by rw [← hb]; simp [cellB, runB, h4]
    subst hbf
    go_enter Tryz.func94, Tryz.ntmps94
    go_wp2_with fail
    with_reducible refine (inRange_w _ 0 ((n1 : Int) - 1) true _ h1).mono ?_
    rintro e w1 ⟨rfl, rfl⟩
    go_wp2_with fail
    with_reducible refine (inRange_w _ 0 ((n2 : Int) - 1) true _ h2).mono ?_
    rintro e w1 ⟨rfl, rfl⟩
    go_wp2_with fail
    with_reducible refine (inRange_w _ 1 ((n1 : Int) - c.co) true _ h3).mono ?_
    rintro e w1 ⟨rfl, rfl⟩
    go_wp2_with fail
    with_reducible refine (inRange_w _ 1 ((n2 : Int) - c.ro) false _ h4).mono ?_
    rintro e w1 ⟨rfl, rfl⟩
    go_wp2
    go_ret
    exact ⟨rfl, (by repeat (first | with_reducible exact Below.refl _ _ | with_reducible assumption | with_reducible refine balloc ?_ | (with_reducible refine bset ?_ ?_; rotate_left; ((try dsimp only); omega)) | refine bkeep2 ?_ (by assumption) | with_reducible refine Below.drew ?_))⟩
  cases h5 : rng c.cw 0 30
  · have hbf : false = b := by rw [← hb]; simp [cellB, runB, h5]
    subst hbf
    go_enter Tryz.func94, Tryz.ntmps94
    go_wp2_with fail
    with_reducible refine (inRange_w _ 0 ((n1 : Int) - 1) true _ h1).mono ?_
    rintro e w1 ⟨rfl, rfl⟩
    go_wp2_with fail
    with_reducible refine (inRange_w _ 0 ((n2 : Int) - 1) true _ h2).mono ?_
    rintro e w1 ⟨rfl, rfl⟩
    go_wp2_with fail
    with_reducible refine (inRange_w _ 1 ((n1 : Int) - c.co) true _ h3).mono ?_
    rintro e w1 ⟨rfl, rfl⟩
    go_wp2_with fail
    with_reducible refine (inRange_w _ 1 ((n2 : Int) - c.ro) true _ h4).mono ?_
    rintro e w1 ⟨rfl, rfl⟩
    go_wp2_with fail
    with_reducible refine (inRange_w _ 0 30 false _ h5).mono ?_
    rintro e w1 ⟨rfl, rfl⟩
    go_wp2
    go_ret
    exact ⟨rfl, (by repeat (first | with_reducible exact Below.refl _ _ | with_reducible assumption | with_reducible refine balloc ?_ | (with_reducible refine bset ?_ ?_; rotate_left; ((try dsimp only); omega)) | refine bkeep2 ?_ (by assumption) | with_reducible refine Below.drew ?_))⟩
  cases h6 : rng c.ch 0 30
  · have hbf : false = b := by rw [← hb]; simp [cellB, runB, h6]
    subst hbf
    go_enter Tryz.func94, Tryz.ntmps94
    go_wp2_with fail
    with_reducible refine (inRange_w _ 0 ((n1 : Int) - 1) true _ h1).mono ?_
    rintro e w1 ⟨rfl, rfl⟩
    go_wp2_with fail
    with_reducible refine (inRange_w _ 0 ((n2 : Int) - 1) true _ h2).mono ?_
    rintro e w1 ⟨rfl, rfl⟩
    go_wp2_with fail
    with_reducible refine (inRange_w _ 1 ((n1 : Int) - c.co) true _ h3).mono ?_
    rintro e w1 ⟨rfl, rfl⟩
    go_wp2_with fail
    with_reducible refine (inRange_w _ 1 ((n2 : Int) - c.ro) true _ h4).mono ?_
    rintro e w1 ⟨rfl, rfl⟩
    go_wp2_with fail
    with_reducible refine (inRange_w _ 0 30 true _ h5).mono ?_
    rintro e w1 ⟨rfl, rfl⟩
    go_wp2_with fail
    with_reducible refine (inRange_w _ 0 30 false _ h6).mono ?_
    rintro e w1 ⟨rfl, rfl⟩
    go_wp2
    go_ret
    exact ⟨rfl, (by repeat (first | with_reducible exact Below.refl _ _ | with_reducible assumption | with_reducible refine balloc ?_ | (with_reducible refine bset ?_ ?_; rotate_left; ((try dsimp only); omega)) | refine bkeep2 ?_ (by assumption) | with_reducible refine Below.drew ?_))⟩
  cases h7 : rng c.sk 0 15
  · have hbf : false = b := by rw [← hb]; simp [cellB, runB, h7]
    subst hbf
    go_enter Tryz.func94, Tryz.ntmps94
    go_wp2_with fail
    with_reducible refine (inRange_w _ 0 ((n1 : Int) - 1) true _ h1).mono ?_
    rintro e w1 ⟨rfl, rfl⟩
    go_wp2_with fail
    with_reducible refine (inRange_w _ 0 ((n2 : Int) - 1) true _ h2).mono ?_
    rintro e w1 ⟨rfl, rfl⟩
    go_wp2_with fail
    with_reducible refine (inRange_w _ 1 ((n1 : Int) - c.co) true _ h3).mono ?_
    rintro e w1 ⟨rfl, rfl⟩
    go_wp2_with fail
    with_reducible refine (inRange_w _ 1 ((n2 : Int) - c.ro) true _ h4).mono ?_
    rintro e w1 ⟨rfl, rfl⟩
    go_wp2_with fail
    with_reducible refine (inRange_w _ 0 30 true _ h5).mono ?_
    rintro e w1 ⟨rfl, rfl⟩
    go_wp2_with fail
    with_reducible refine (inRange_w _ 0 30 true _ h6).mono ?_
    rintro e w1 ⟨rfl, rfl⟩
    go_wp2_with fail
    with_reducible refine (inRange_w _ 0 15 false _ h7).mono ?_
    rintro e w1 ⟨rfl, rfl⟩
    go_wp2
    go_ret
    exact ⟨rfl, (by repeat (first | with_reducible exact Below.refl _ _ | with_reducible assumption | with_reducible refine balloc ?_ | (with_reducible refine bset ?_ ?_; rotate_left; ((try dsimp only); omega)) | refine bkeep2 ?_ (by assumption) | with_reducible refine Below.drew ?_))⟩
  cases h8 : rng c.px 0 10
  · have hbf : false = b := by rw [← hb]; simp [cellB, runB, h8]
    subst hbf
    go_enter Tryz.func94, Tryz.ntmps94
    go_wp2_with fail
    with_reducible refine (inRange_w _ 0 ((n1 : Int) - 1) true _ h1).mono ?_
    rintro e w1 ⟨rfl, rfl⟩
    go_wp2_with fail
    with_reducible refine (inRange_w _ 0 ((n2 : Int) - 1) true _ h2).mono ?_
    rintro e w1 ⟨rfl, rfl⟩
    go_wp2_with fail
    with_reducible refine (inRange_w _ 1 ((n1 : Int) - c.co) true _ h3).mono ?_
    rintro e w1 ⟨rfl, rfl⟩
    go_wp2_with fail
    with_reducible refine (inRange_w _ 1 ((n2 : Int) - c.ro) true _ h4).mono ?_
    rintro e w1 ⟨rfl, rfl⟩
    go_wp2_with fail
    with_reducible refine (inRange_w _ 0 30 true _ h5).mono ?_
    rintro e w1 ⟨rfl, rfl⟩
    go_wp2_with fail
    with_reducible refine (inRange_w _ 0 30 true _ h6).mono ?_
    rintro e w1 ⟨rfl, rfl⟩
    go_wp2_with fail
    with_reducible refine (inRange_w _ 0 15 true _ h7).mono ?_
    rintro e w1 ⟨rfl, rfl⟩
    go_wp2_with fail
    with_reducible refine (inRange_w _ 0 10 false _ h8).mono ?_
    rintro e w1 ⟨rfl, rfl⟩
    go_wp2
    go_ret
    exact ⟨rfl, (by repeat (first | with_reducible exact Below.refl _ _ | with_reducible assumption | with_reducible refine balloc ?_ | (with_reducible refine bset ?_ ?_; rotate_left; ((try dsimp only); omega)) | refine bkeep2 ?_ (by assumption) | with_reducible refine Below.drew ?_))⟩
  have h9 : rng c.py 0 10 = b := by rw [← hb]; simp [cellB, runB, h1, h2, h3, h4, h5, h6, h7, h8]
  cases b
  all_goals
    go_enter Tryz.func94, Tryz.ntmps94
    go_wp2_with fail
    with_reducible refine (inRange_w _ 0 ((n1 : Int) - 1) true _ h1).mono ?_
    rintro e w1 ⟨rfl, rfl⟩
    go_wp2_with fail
    with_reducible refine (inRange_w _ 0 ((n2 : Int) - 1) true _ h2).mono ?_
    rintro e w1 ⟨rfl, rfl⟩
    go_wp2_with fail
    with_reducible refine (inRange_w _ 1 ((n1 : Int) - c.co) true _ h3).mono ?_
    rintro e w1 ⟨rfl, rfl⟩
    go_wp2_with fail
    with_reducible refine (inRange_w _ 1 ((n2 : Int) - c.ro) true _ h4).mono ?_
    rintro e w1 ⟨rfl, rfl⟩
    go_wp2_with fail
    with_reducible refine (inRange_w _ 0 30 true _ h5).mono ?_
    rintro e w1 ⟨rfl, rfl⟩
    go_wp2_with fail
    with_reducible refine (inRange_w _ 0 30 true _ h6).mono ?_
    rintro e w1 ⟨rfl, rfl⟩
    go_wp2_with fail
    with_reducible refine (inRange_w _ 0 15 true _ h7).mono ?_
    rintro e w1 ⟨rfl, rfl⟩
    go_wp2_with fail
    with_reducible refine (inRange_w _ 0 10 true _ h8).mono ?_
    rintro e w1 ⟨rfl, rfl⟩
    go_wp2_with fail
    with_reducible refine (inRange_w _ 0 10 _ _ h9).mono ?_
    rintro e w1 ⟨rfl, rfl⟩
    go_wp2
    go_ret
    exact ⟨rfl, (by repeat (first | with_reducible exact Below.refl _ _ | with_reducible assumption | with_reducible refine balloc ?_ | (with_reducible refine bset ?_ ?_; rotate_left; ((try dsimp only); omega)) | refine bkeep2 ?_ (by assumption) | with_reducible refine Below.drew ?_))⟩
end Go.Proofs.YtgdkionmeacalabGreat
end
section
namespace Go.Proofs.YtgdkionmeacalabGreat
open Go.RowKit
set_option linter.unusedVariables false
set_option maxHeartbeats 1000000
attribute [local go_sem] growUpon_value growUpon_skip growUpon_enter
def acM (c : Ce) : Sp := ⟨c.co, c.mc, c.cw + 2 * c.px⟩
def dnM (c : Ce) : Sp := ⟨c.ro, c.mr, c.ch + 2 * c.py⟩
def smC (c : Ce) : Prop := (0 ≤ c.cw ∧ c.cw ≤ 30) ∧ (0 ≤ c.ch ∧ c.ch ≤ 30) ∧ (0 ≤ c.px ∧ c.px ≤ 10) ∧ (0 ≤ c.py ∧ c.py ≤ 10)
def smW (c : Ce) : Prop := (0 ≤ c.cw ∧ c.cw ≤ 1000000000000) ∧ (0 ≤ c.ch ∧ c.ch ≤ 1000000000000) ∧ (0 ≤ c.px ∧ c.px ≤ 10) ∧ (0 ≤ c.py ∧ c.py ≤ 10)
theorem smC.w {c : Ce} (h : smC c) : smW c := by unfold smC at h; unfold smW; omega
theorem cellB_sm {n m : Int} {c : Ce} (h : cellB n m c = true) : smC c := by
  simp only [cellB, Bool.and_eq_true, rng_iff] at h
  exact ⟨h.2.2.1, h.2.2.2.1, h.2.2.2.2.2.1, h.2.2.2.2.2.2⟩
theorem cellB_ac {n m : Int} {c : Ce} (h : cellB n m c = true) : spanB n (acM c) = true ∧ spanB m (dnM c) = true := by
  have hs := cellB_sm h
  simp only [cellB, Bool.and_eq_true] at h
  obtain ⟨⟨b1, b2⟩, ⟨b3, b4⟩, ⟨b5, b6⟩, ⟨b7, b8⟩⟩ := hs
  refine ⟨?_, ?_⟩
  · simp only [spanB, acM, Bool.and_eq_true, rng_iff]
    exact ⟨h.1, by omega, by omega⟩
  · simp only [spanB, dnM, Bool.and_eq_true, rng_iff]
    exact ⟨h.2.1, by omega, by omega⟩
theorem gridB_yes {L1 L2 : List Ln} {L3 : List Ce} (h : gridB L1 L2 L3 = true) : linesB L1 = true ∧ linesB L2 = true ∧ L3.length ≤ 8 ∧ (∀ c ∈ L3, smC c) ∧ spansB L1.length (L3.map acM) = true ∧ spansB L2.length (L3.map dnM) = true := by
  simp only [gridB, Bool.and_eq_true, decide_eq_true_eq] at h
  obtain ⟨h1, h2, h3, h4⟩ := h
  have h5 := List.all_eq_true.1 h4
  refine ⟨h1, h2, by omega, fun c hc => cellB_sm (h5 c hc), ?_, ?_⟩
  · simp only [spansB, List.length_map, Bool.and_eq_true, decide_eq_true_eq, List.all_map, List.all_eq_true]
    exact ⟨h3, fun c hc => (cellB_ac (h5 c hc)).1⟩
  · simp only [spansB, List.length_map, Bool.and_eq_true, decide_eq_true_eq, List.all_map, List.all_eq_true]
    exact ⟨h3, fun c hc => (cellB_ac (h5 c hc)).2⟩
set_option maxRecDepth 100000 in
theorem across_e (p : Ce) (w : World) (h : smW p) : Calls Tryz.prog 147 #[.agg #[.int .i64 p.co, .int .i64 p.ro, .int .i64 p.mc, .int .i64 p.mr, .int .i64 p.cw, .int .i64 p.ch, .int .i64 p.sk, .int .i64 p.px, .int .i64 p.py]] w fun e w' => e = .returned (.agg #[.int .i64 p.co, .int .i64 p.mc, .int .i64 (p.cw + 2 * p.px)]) ∧ Below w.heap.size w w' := by
  obtain ⟨⟨b1, b2⟩, ⟨b3, b4⟩, ⟨b5, b6⟩, ⟨b7, b8⟩⟩ := h
  go_enter Tryz.func147, Tryz.ntmps147
  go_wp2
  exact bodyPost_ret (v := .agg #[.int .i64 p.co, .int .i64 p.mc, .int .i64 (p.cw + 2 * p.px)]) (by simp only [results, Tryz.results147]; go_simp) rfl ⟨rfl, (by repeat (first | with_reducible exact Below.refl _ _ | with_reducible assumption | with_reducible refine balloc ?_ | (with_reducible refine bset ?_ ?_; rotate_left; ((try dsimp only); omega)) | refine bkeep2 ?_ (by assumption) | with_reducible refine Below.drew ?_))⟩
set_option maxRecDepth 100000 in
theorem across_v (p : Ce) (w : World) (h : smW p) : Calls Tryz.prog 147 #[.agg #[.int .i64 p.co, .int .i64 p.ro, .int .i64 p.mc, .int .i64 p.mr, .int .i64 p.cw, .int .i64 p.ch, .int .i64 p.sk, .int .i64 p.px, .int .i64 p.py]] w fun e w' => e = .returned (.agg #[.int .i64 (acM p).sa, .int .i64 (acM p).many, .int .i64 (acM p).need]) ∧ Below w.heap.size w w' := across_e p w h
set_option maxRecDepth 100000 in
theorem each_acrossW (A : Option Addr) (c : Nat) (L : List Ce) (w : World) (h : CeV w A L) (hL : L.length ≤ 1048576) (hsm : ∀ p ∈ L, smW p) :
    Calls Tryz.prog 160 #[.slice A L.length c, .func (.func 147) #[] #[]] w fun e w' => e = .returned (.slice (some ⟨w.heap.size, 0, none⟩) L.length L.length) ∧ SpB w' w.heap.size (L.map acM) ∧ Below w.heap.size w w' := by
  obtain ⟨f, hf, hmk0⟩ := madeSp
  have hmk : ∀ w : World, (Instr.makeSlice 118 (.int .i64 (L.length : Int)) (.int .i64 (L.length : Int))).run Tryz.prog w = .ok (.slice (some ⟨w.heap.size, 0, none⟩) L.length L.length) (w.alloc (.cells (f L.length) 152)) := fun w => hmk0 L.length w hL
  have HSM := Lib.hid hsm
  go_enter Tryz.func160, Tryz.ntmps160
  go_wp2_with fail
  have HWW : Hid (∃ cs : Array Value, (w.alloc (.cells (f L.length) 152)).heap[w.heap.size]? = some (.cells cs 152 (0, 0)) ∧ cs.size = L.length * 3 ∧ ∀ i p, i < 0 → (L.map acM)[i]? = some p → InS cs (i * 3) (valsSp p)) := Lib.hid ⟨_, newS _ _, hf _, fun i p hi => absurd hi (by omega)⟩
  clear hmk hmk0 hf hsm
  go_loopw [13] (fun i wr => ∃ k : Nat, k ≤ L.length ∧ i = .int .i64 k ∧ (∃ cs : Array Value, wr.heap[w.heap.size]? = some (.cells cs 152 (0, 0)) ∧ cs.size = L.length * 3 ∧ ∀ i p, i < k → (L.map acM)[i]? = some p → InS cs (i * 3) (valsSp p)) ∧ Below w.heap.size w wr) (fun i _ => L.length - (intOf i).toNat)
  case atStart => exact ⟨0, by omega, rfl, HWW.out, balloc (Below.refl _ _)⟩
  case round =>
    obtain ⟨k, hk, rfl, ⟨cs, hh, hs, hc⟩, hB⟩ := hrel
    clear HWW
    by_cases hlt : k < L.length
    · have hd : decide ((k : Int) < (L.length : Int)) = true := by simpa using hlt
      obtain ⟨b, off, rfl, hb, hp⟩ := (h.keep hB).cells (by omega)
      have hget : L[k]? = some L[k] := List.getElem?_eq_getElem hlt
      obtain ⟨c0, c1, c2, c3, c4, c5, c6, c7, c8⟩ := hp k _ hget
      have hsk : smW L[k] := HSM.out _ (List.getElem_mem hlt)
      generalize hx : L[k] = p at *
      have HG := Lib.hid (show (L.map acM)[k]? = some (acM p) by rw [List.getElem?_map, hget]; rfl)
      have HH := Lib.hid hh
      have HS := Lib.hid hs
      have HC := Lib.hid hc
      have HBB := Lib.hid hB
      have HK := Lib.hid hsk
      clear hget hx hh hs hc hB hp hsk
      go_wp2_with fail
      refine (across_v p _ HK.out).mono ?_
      rintro e w1 ⟨rfl, hb1⟩
      have hlg : w.heap.size < wr.heap.size := ltS HH.out
      have hb01 := bkeep2 (balloc (Below.refl wr.heap.size wr)) hb1
      replace HH := Lib.hid ((hb01.block _ hlg).trans HH.out)
      replace HBB := Lib.hid (HBB.out.trans (hb01.mono HBB.out.size))
      clear hb1 hb01 c0 c1 c2 c3 c4 c5 c6 c7 c8 hlg
      have hsz : k * 3 + 3 ≤ cs.size := by rw [HS.out]; omega
      obtain ⟨y0, d0⟩ := thereS HH.out (i := k * 3) (by omega)
      obtain ⟨y1, d1⟩ := thereS HH.out (i := k * 3 + 1) (by omega)
      obtain ⟨y2, d2⟩ := thereS HH.out (i := k * 3 + 2) (by omega)
      have f0 := frozenS HH.out (k * 3)
      have f1 := frozenS HH.out (k * 3 + 1)
      have f2 := frozenS HH.out (k * 3 + 2)
      have E1 := Lib.hid (putSp HH.out (k * 3) (acM p))
      have E2 := Lib.hid (putSpb HBB.out (Nat.le_refl _) (k * 3) (acM p))
      go_wp2
      go_roundw
      case rel => exact ⟨k + 1, by omega, by go_num, ⟨_, E1.out, (wrAt_size _ _ _).trans HS.out, fun i q hi hq => by
        by_cases e : i = k
        · subst e
          obtain rfl : (acM p) = q := by have := HG.out; rw [this] at hq; exact Option.some.inj hq
          exact InS.write (by simp only [valsSp, List.length_cons, List.length_nil]; omega)
        · exact (HC.out i q (by omega) hq).keepS (.inl (by simp only [valsSp, List.length_cons, List.length_nil]; omega))⟩, E2.out⟩
      case measure => simp [intOf]; omega
    · have hd : decide ((k : Int) < (L.length : Int)) = false := decide_eq_false (by omega)
      obtain rfl : k = L.length := by omega
      have HR := Lib.hid (show SpB wr w.heap.size (L.map acM) from ⟨cs, hh, by rw [List.length_map]; exact hs, fun i p hp => hc i p (by have := (List.getElem?_eq_some_iff.1 hp).1; rwa [List.length_map] at this) hp⟩)
      have HBB := Lib.hid hB
      clear hh hs hc hB
      go_wp2
      go_ret
      exact ⟨rfl, HR.out, HBB.out⟩
set_option maxRecDepth 100000 in
theorem down_e (p : Ce) (w : World) (h : smW p) : Calls Tryz.prog 161 #[.agg #[.int .i64 p.co, .int .i64 p.ro, .int .i64 p.mc, .int .i64 p.mr, .int .i64 p.cw, .int .i64 p.ch, .int .i64 p.sk, .int .i64 p.px, .int .i64 p.py]] w fun e w' => e = .returned (.agg #[.int .i64 p.ro, .int .i64 p.mr, .int .i64 (p.ch + 2 * p.py)]) ∧ Below w.heap.size w w' := by
  obtain ⟨⟨b1, b2⟩, ⟨b3, b4⟩, ⟨b5, b6⟩, ⟨b7, b8⟩⟩ := h
  go_enter Tryz.func161, Tryz.ntmps161
  go_wp2
  exact bodyPost_ret (v := .agg #[.int .i64 p.ro, .int .i64 p.mr, .int .i64 (p.ch + 2 * p.py)]) (by simp only [results, Tryz.results161]; go_simp) rfl ⟨rfl, (by repeat (first | with_reducible exact Below.refl _ _ | with_reducible assumption | with_reducible refine balloc ?_ | (with_reducible refine bset ?_ ?_; rotate_left; ((try dsimp only); omega)) | refine bkeep2 ?_ (by assumption) | with_reducible refine Below.drew ?_))⟩
set_option maxRecDepth 100000 in
theorem down_v (p : Ce) (w : World) (h : smW p) : Calls Tryz.prog 161 #[.agg #[.int .i64 p.co, .int .i64 p.ro, .int .i64 p.mc, .int .i64 p.mr, .int .i64 p.cw, .int .i64 p.ch, .int .i64 p.sk, .int .i64 p.px, .int .i64 p.py]] w fun e w' => e = .returned (.agg #[.int .i64 (dnM p).sa, .int .i64 (dnM p).many, .int .i64 (dnM p).need]) ∧ Below w.heap.size w w' := down_e p w h
set_option maxRecDepth 100000 in
theorem each_downW (A : Option Addr) (c : Nat) (L : List Ce) (w : World) (h : CeV w A L) (hL : L.length ≤ 1048576) (hsm : ∀ p ∈ L, smW p) :
    Calls Tryz.prog 160 #[.slice A L.length c, .func (.func 161) #[] #[]] w fun e w' => e = .returned (.slice (some ⟨w.heap.size, 0, none⟩) L.length L.length) ∧ SpB w' w.heap.size (L.map dnM) ∧ Below w.heap.size w w' := by
  obtain ⟨f, hf, hmk0⟩ := madeSp
  have hmk : ∀ w : World, (Instr.makeSlice 118 (.int .i64 (L.length : Int)) (.int .i64 (L.length : Int))).run Tryz.prog w = .ok (.slice (some ⟨w.heap.size, 0, none⟩) L.length L.length) (w.alloc (.cells (f L.length) 152)) := fun w => hmk0 L.length w hL
  have HSM := Lib.hid hsm
  go_enter Tryz.func160, Tryz.ntmps160
  go_wp2_with fail
  have HWW : Hid (∃ cs : Array Value, (w.alloc (.cells (f L.length) 152)).heap[w.heap.size]? = some (.cells cs 152 (0, 0)) ∧ cs.size = L.length * 3 ∧ ∀ i p, i < 0 → (L.map dnM)[i]? = some p → InS cs (i * 3) (valsSp p)) := Lib.hid ⟨_, newS _ _, hf _, fun i p hi => absurd hi (by omega)⟩
  clear hmk hmk0 hf hsm
  go_loopw [13] (fun i wr => ∃ k : Nat, k ≤ L.length ∧ i = .int .i64 k ∧ (∃ cs : Array Value, wr.heap[w.heap.size]? = some (.cells cs 152 (0, 0)) ∧ cs.size = L.length * 3 ∧ ∀ i p, i < k → (L.map dnM)[i]? = some p → InS cs (i * 3) (valsSp p)) ∧ Below w.heap.size w wr) (fun i _ => L.length - (intOf i).toNat)
  case atStart => exact ⟨0, by omega, rfl, HWW.out, balloc (Below.refl _ _)⟩
  case round =>
    obtain ⟨k, hk, rfl, ⟨cs, hh, hs, hc⟩, hB⟩ := hrel
    clear HWW
    by_cases hlt : k < L.length
    · have hd : decide ((k : Int) < (L.length : Int)) = true := by simpa using hlt
      obtain ⟨b, off, rfl, hb, hp⟩ := (h.keep hB).cells (by omega)
      have hget : L[k]? = some L[k] := List.getElem?_eq_getElem hlt
      obtain ⟨c0, c1, c2, c3, c4, c5, c6, c7, c8⟩ := hp k _ hget
      have hsk : smW L[k] := HSM.out _ (List.getElem_mem hlt)
      generalize hx : L[k] = p at *
      have HG := Lib.hid (show (L.map dnM)[k]? = some (dnM p) by rw [List.getElem?_map, hget]; rfl)
      have HH := Lib.hid hh
      have HS := Lib.hid hs
      have HC := Lib.hid hc
      have HBB := Lib.hid hB
      have HK := Lib.hid hsk
      clear hget hx hh hs hc hB hp hsk
      go_wp2_with fail
      refine (down_v p _ HK.out).mono ?_
      rintro e w1 ⟨rfl, hb1⟩
      have hlg : w.heap.size < wr.heap.size := ltS HH.out
      have hb01 := bkeep2 (balloc (Below.refl wr.heap.size wr)) hb1
      replace HH := Lib.hid ((hb01.block _ hlg).trans HH.out)
      replace HBB := Lib.hid (HBB.out.trans (hb01.mono HBB.out.size))
      clear hb1 hb01 c0 c1 c2 c3 c4 c5 c6 c7 c8 hlg
      have hsz : k * 3 + 3 ≤ cs.size := by rw [HS.out]; omega
      obtain ⟨y0, d0⟩ := thereS HH.out (i := k * 3) (by omega)
      obtain ⟨y1, d1⟩ := thereS HH.out (i := k * 3 + 1) (by omega)
      obtain ⟨y2, d2⟩ := thereS HH.out (i := k * 3 + 2) (by omega)
      have f0 := frozenS HH.out (k * 3)
      have f1 := frozenS HH.out (k * 3 + 1)
      have f2 := frozenS HH.out (k * 3 + 2)
      have E1 := Lib.hid (putSp HH.out (k * 3) (dnM p))
      have E2 := Lib.hid (putSpb HBB.out (Nat.le_refl _) (k * 3) (dnM p))
      go_wp2
      go_roundw
      case rel => exact ⟨k + 1, by omega, by go_num, ⟨_, E1.out, (wrAt_size _ _ _).trans HS.out, fun i q hi hq => by
        by_cases e : i = k
        · subst e
          obtain rfl : (dnM p) = q := by have := HG.out; rw [this] at hq; exact Option.some.inj hq
          exact InS.write (by simp only [valsSp, List.length_cons, List.length_nil]; omega)
        · exact (HC.out i q (by omega) hq).keepS (.inl (by simp only [valsSp, List.length_cons, List.length_nil]; omega))⟩, E2.out⟩
      case measure => simp [intOf]; omega
    · have hd : decide ((k : Int) < (L.length : Int)) = false := decide_eq_false (by omega)
      obtain rfl : k = L.length := by omega
      have HR := Lib.hid (show SpB wr w.heap.size (L.map dnM) from ⟨cs, hh, by rw [List.length_map]; exact hs, fun i p hp => hc i p (by have := (List.getElem?_eq_some_iff.1 hp).1; rwa [List.length_map] at this) hp⟩)
      have HBB := Lib.hid hB
      clear hh hs hc hB
      go_wp2
      go_ret
      exact ⟨rfl, HR.out, HBB.out⟩
theorem each_across (A : Option Addr) (c : Nat) (L : List Ce) (w : World) (h : CeV w A L) (hL : L.length ≤ 1048576) (hsm : ∀ p ∈ L, smC p) :
    Calls Tryz.prog 160 #[.slice A L.length c, .func (.func 147) #[] #[]] w fun e w' => e = .returned (.slice (some ⟨w.heap.size, 0, none⟩) L.length L.length) ∧ SpB w' w.heap.size (L.map acM) ∧ Below w.heap.size w w' := each_acrossW A c L w h hL (fun p hp => (hsm p hp).w)
theorem each_down (A : Option Addr) (c : Nat) (L : List Ce) (w : World) (h : CeV w A L) (hL : L.length ≤ 1048576) (hsm : ∀ p ∈ L, smC p) :
    Calls Tryz.prog 160 #[.slice A L.length c, .func (.func 161) #[] #[]] w fun e w' => e = .returned (.slice (some ⟨w.heap.size, 0, none⟩) L.length L.length) ∧ SpB w' w.heap.size (L.map dnM) ∧ Below w.heap.size w w' := each_downW A c L w h hL (fun p hp => (hsm p hp).w)
end Go.Proofs.YtgdkionmeacalabGreat
end
