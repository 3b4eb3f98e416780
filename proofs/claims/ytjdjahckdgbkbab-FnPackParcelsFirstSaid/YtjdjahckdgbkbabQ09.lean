import Derived.Test.YtjdjahckdgbkbabQ08
section
namespace Go.Proofs.Ytjdjahckdgbkbab
open Go.RowKit
set_option linter.unusedVariables false
set_option maxHeartbeats 1000000
attribute [local go_sem 5000] run_mx run_mn run_eqlR run_neqR
attribute [local go_sem] growUpon_value growUpon_skip growUpon_enter
theorem equalRect_z (r : Rc) (w : World) : Calls Try.prog 26 #[.agg #[.int .i64 (r.x), .int .i64 (r.y), .int .i64 (r.u), .int .i64 (r.v)], .agg #[.int .i64 (r.x), .int .i64 (r.y), .int .i64 (r.u), .int .i64 (r.v)]] w fun e w' => e = .returned (.bool true) ∧ Below w.heap.size w w' := by
  have h : eqR r.x r.y r.u r.v r.x r.y r.u r.v = true := eqR_self
  go_enter Try.func26, Try.ntmps26
  go_wp2
  go_ret
  exact ⟨rfl, (by repeat (first | with_reducible exact Below.refl _ _ | with_reducible assumption | with_reducible refine balloc ?_ | (with_reducible refine bset ?_ ?_; rotate_left; ((try dsimp only); omega)) | refine bkeep2 ?_ (by assumption) | with_reducible refine Below.drew ?_))⟩
theorem area_z (r : Rc) (hr : r.ok = true) (w : World) : Calls Try.prog 29 #[.agg #[.int .i64 (r.x), .int .i64 (r.y), .int .i64 (r.u), .int .i64 (r.v)]] w fun e w' => e = .returned (.int .i64 r.area) ∧ Below w.heap.size w w' := by
  have hb := area_bds hr
  obtain ⟨h1, h2⟩ := hb
  go_enter Try.func29, Try.ntmps29
  go_wp2_with fail
  all_goals try go_quiet (fail)
  all_goals try go_wp2
  go_ret
  exact ⟨rfl, (by repeat (first | with_reducible exact Below.refl _ _ | with_reducible assumption | with_reducible refine balloc ?_ | (with_reducible refine bset ?_ ?_; rotate_left; ((try dsimp only); omega)) | refine bkeep2 ?_ (by assumption) | with_reducible refine Below.drew ?_))⟩
theorem within2_z (a b : Rc) (ha : a.ok = true) (hb : b.ok = true) (h : a.inn b) (w : World) : Calls Try.prog 22 #[.agg #[.int .i64 (a.x), .int .i64 (a.y), .int .i64 (a.u), .int .i64 (a.v)], .agg #[.int .i64 (b.x), .int .i64 (b.y), .int .i64 (b.u), .int .i64 (b.v)]] w fun e w' => e = .returned (.bool true) ∧ Below w.heap.size w w' := by
  obtain ⟨a1, a2, a3, a4, a5, a6, a7, a8⟩ := vr_iff.1 ha
  obtain ⟨b1, b2, b3, b4, b5, b6, b7, b8⟩ := vr_iff.1 hb
  unfold Rc.inn at h
  obtain ⟨h1, h2, h3, h4⟩ := h
  have d1 : decide (a.x ≤ b.x) = true := by simpa using h1
  have d2 : decide (a.y ≤ b.y) = true := by simpa using h2
  have d3 : decide (b.x + b.u ≤ a.x + a.u) = true := by simpa using h3
  have d4 : decide (b.y + b.v ≤ a.y + a.v) = true := by simpa using h4
  go_enter Try.func22, Try.ntmps22
  go_wp2_with fail
  all_goals try go_quiet (fail)
  all_goals try go_wp2
  go_ret
  exact ⟨rfl, (by repeat (first | with_reducible exact Below.refl _ _ | with_reducible assumption | with_reducible refine balloc ?_ | (with_reducible refine bset ?_ ?_; rotate_left; ((try dsimp only); omega)) | refine bkeep2 ?_ (by assumption) | with_reducible refine Below.drew ?_))⟩
theorem room_z (u v : Int) (w : World) : Calls Try.prog 28 #[.int .i64 u, .int .i64 v] w fun e w' => e = .returned (.agg #[.int .i64 (0), .int .i64 (0), .int .i64 (u), .int .i64 (v)]) ∧ Below w.heap.size w w' := by
  go_enter Try.func28, Try.ntmps28
  go_wp2
  exact bodyPost_ret (v := .agg #[.int .i64 (0), .int .i64 (0), .int .i64 (u), .int .i64 (v)]) (by simp only [results, Try.results28]; go_simp) rfl ⟨rfl, (by repeat (first | with_reducible exact Below.refl _ _ | with_reducible assumption | with_reducible refine balloc ?_ | (with_reducible refine bset ?_ ?_; rotate_left; ((try dsimp only); omega)) | refine bkeep2 ?_ (by assumption) | with_reducible refine Below.drew ?_))⟩
theorem gp_val {L : List Pk} {u v : Int} (hok : L.all Pk.ok = true) : (vpsB L && rmB u v) = (decide ((L.length : Int) ≤ 7) && (decide (0 ≤ u) && (decide (u ≤ 400) && (decide (0 ≤ v) && decide (v ≤ 400))))) := by
  rw [Bool.eq_iff_iff]
  simp only [Bool.and_eq_true, vpsB_iff, rmB, rng_iff, decide_eq_true_eq]
  constructor
  · rintro ⟨⟨_, a⟩, b, c⟩; omega
  · rintro ⟨a, b, c, d, e⟩; exact ⟨⟨fun p hp => List.all_eq_true.1 hok p hp, by omega⟩, by omega, by omega⟩
set_option maxRecDepth 100000 in
theorem goodPacks_any (A : Option Addr) (c : Nat) (L : List Pk) (u v : Int) (w : World) (h : PV w A L) (hL : L.length ≤ 1048576) (b : Bool) (hb : (vpsB L && rmB u v) = b) :
    Calls Try.prog 15 #[.slice A L.length c, .int .i64 u, .int .i64 v] w fun e w' => e = .returned (.bool b) ∧ Below w.heap.size w w' := by
  have HBV := Lib.hid hb
  clear hb
  go_enter Try.func15, Try.ntmps15
  go_wp2_with fail
  go_loopw [7] (fun i wr => ∃ k : Nat, k ≤ L.length ∧ i = .int .i64 k ∧ (L.take k).all Pk.ok = true ∧ Below w.heap.size w wr) (fun i _ => L.length - (intOf i).toNat)
  case atStart => exact ⟨0, by omega, rfl, rfl, Below.refl _ _⟩
  case round =>
    obtain ⟨k, hk, rfl, hok, hB⟩ := hrel
    by_cases hlt : k < L.length
    · have hd : decide ((k : Int) < (L.length : Int)) = true := by simpa using hlt
      obtain ⟨b', off, rfl, hb, hp⟩ := (h.keep hB).cells (by omega)
      obtain ⟨c0, c1, c2, c3, c4, c5, c6, c7, c8⟩ := hp k _ (List.getElem?_eq_getElem hlt)
      have hget : L[k]? = some L[k] := List.getElem?_eq_getElem hlt
      generalize hx : L[k] = p at *
      have HG := Lib.hid hget
      have HX := Lib.hid hx
      have HO := Lib.hid hok
      have HBB := Lib.hid hB
      clear hget hx hok hB
      cases hv : p.ok
      all_goals
        have Hv := Lib.hid hv
        clear hv
        go_wp2_with fail
        first | (with_reducible refine (vp_v p false Hv.out _).mono ?_) | (with_reducible refine (vp_v p true Hv.out _).mono ?_)
        rintro e w1 ⟨rfl, hb1⟩
        replace HBB := Lib.hid (bkeep2 HBB.out hb1)
        clear hb1 c0 c1 c2 c3 c4 c5 c6 c7 c8
        go_wp2
      · go_ret
        exact ⟨ret_bool (by
          rw [← HBV.out]
          symm
          rw [Bool.eq_false_iff]
          intro hh
          have h1 := (vpsB_iff.1 (Bool.and_eq_true_iff.1 hh).1).1 p (List.mem_of_getElem? HG.out)
          rw [Hv.out] at h1
          cases h1), HBB.out⟩
      · go_roundw
        case rel => exact ⟨k + 1, by omega, by go_num, by rw [all_snoc HG.out, HO.out, Hv.out]; rfl, HBB.out⟩
        case measure => simp [intOf]; omega
    · have hd : decide ((k : Int) < (L.length : Int)) = false := by simp; omega
      have he : L.take k = L := List.take_of_length_le (by omega)
      rw [he] at hok
      have HO := Lib.hid hok
      have HBB := Lib.hid hB
      clear hok hB he
      go_wp2
      all_goals go_ret
      all_goals exact ⟨ret_bool (by rw [← HBV.out, gp_val HO.out]; simp_all <;> omega), HBB.out⟩
end Go.Proofs.Ytjdjahckdgbkbab
end
section
namespace Go.Proofs.Ytjdjahckdgbkbab
open Go.RowKit
set_option linter.unusedVariables false
attribute [local go_sem 5000] run_mx run_mn run_eqlR run_neqR
attribute [local go_sem] growUpon_value growUpon_skip growUpon_enter
set_option maxHeartbeats 1000000
theorem validAnchor_any (k : Int) (w : World) : Calls Try.prog 62 #[.int .i64 k] w fun e w' => e = .returned (.bool (rng k 0 8)) ∧ w = w' := by
  go_enter Try.func62, Try.ntmps62
  go_wp2_with (go_at_call 47; refine (within_any _ _ _ _).mono ?_; rintro e w' ⟨rfl, rfl⟩)
  go_ret
  exact ⟨ret_bool rfl, rfl⟩
theorem belowN {B : Nat} {a w : World} (h : Below B a w) (n : Nat) : Below B a (w.drewN n) := ⟨h.os, h.tape, h.output, h.size, h.block⟩
set_option maxRecDepth 100000 in
theorem anchored_any (x y u v p q k : Int) (w : World) (h : anB x y u v p q k = true) : Calls Try.prog 82 #[.agg #[.int .i64 (x), .int .i64 (y), .int .i64 (u), .int .i64 (v)], .int .i64 p, .int .i64 q, .int .i64 k] w fun e w' => e = .returned (.agg #[.int .i64 (x + (u - mn p u) * (k % 3) / 2), .int .i64 (y + (v - mn q v) * (k / 3) / 2), .int .i64 (mn p u), .int .i64 (mn q v)]) ∧ Below w.heap.size w w' := by
  obtain ⟨h1, h2, h3, h4⟩ := anB_yes h
  obtain ⟨m1, m2, m3, m4, m5, m6, m7, m8, m9, m10, m11, m12⟩ := an_bds h
  obtain ⟨a1, a2, a3, a4, a5, a6, a7, a8⟩ := vr_iff.1 h1
  obtain ⟨b5, b6⟩ := rng_iff.1 h4
  clear h h1 h2 h3 h4
  go_enter Try.func82, Try.ntmps82
  go_wp2_with fail
  go_quiet (fail)
  go_wp2
  exact bodyPost_ret (v := .agg #[.int .i64 (x + (u - mn p u) * (k % 3) / 2), .int .i64 (y + (v - mn q v) * (k / 3) / 2), .int .i64 (mn p u), .int .i64 (mn q v)]) (by simp only [results, Try.results82]; go_simp) rfl ⟨rfl, (by repeat (first | with_reducible exact Below.refl _ _ | with_reducible assumption | with_reducible refine balloc ?_ | (with_reducible refine bset ?_ ?_; rotate_left; ((try dsimp only); omega)) | refine bkeep2 ?_ (by assumption) | with_reducible refine Below.drew ?_ | refine belowN ?_ _))⟩
end Go.Proofs.Ytjdjahckdgbkbab
end
section
namespace Go.Proofs.Ytjdjahckdgbkbab
open Go.RowKit
set_option linter.unusedVariables false
attribute [local go_sem 5000] run_mx run_mn run_eqlR run_neqR
attribute [local go_sem] growUpon_value growUpon_skip growUpon_enter
set_option maxHeartbeats 1000000
theorem svalidAnchor_any (k : Int) (w : World) : Calls Try.prog 79 #[.int .i64 k] w fun e w' => e = .returned (.bool (rng k 0 8)) ∧ w = w' := by
  go_enter Try.func79, Try.ntmps79
  go_wp2_with (go_at_call 52; refine (inRange_any _ _ _ _).mono ?_; rintro e w' ⟨rfl, rfl⟩)
  go_ret
  exact ⟨ret_bool rfl, rfl⟩
set_option maxRecDepth 100000 in
theorem sanchored_any (x y u v p q k : Int) (w : World) (h : anB x y u v p q k = true) : Calls Try.prog 81 #[.agg #[.int .i64 (x), .int .i64 (y), .int .i64 (u), .int .i64 (v)], .int .i64 p, .int .i64 q, .int .i64 k] w fun e w' => e = .returned (.agg #[.int .i64 (x + (u - mn p u) * (k % 3) / 2), .int .i64 (y + (v - mn q v) * (k / 3) / 2), .int .i64 (mn p u), .int .i64 (mn q v)]) ∧ Below w.heap.size w w' := by
  obtain ⟨h1, h2, h3, h4⟩ := anB_yes h
  obtain ⟨m1, m2, m3, m4, m5, m6, m7, m8, m9, m10, m11, m12⟩ := an_bds h
  obtain ⟨a1, a2, a3, a4, a5, a6, a7, a8⟩ := vr_iff.1 h1
  obtain ⟨b5, b6⟩ := rng_iff.1 h4
  clear h h1 h2 h3 h4
  go_enter Try.func81, Try.ntmps81
  go_wp2
  exact bodyPost_ret (v := .agg #[.int .i64 (x + (u - mn p u) * (k % 3) / 2), .int .i64 (y + (v - mn q v) * (k / 3) / 2), .int .i64 (mn p u), .int .i64 (mn q v)]) (by simp only [results, Try.results81]; go_simp) rfl ⟨rfl, (by repeat (first | with_reducible exact Below.refl _ _ | with_reducible assumption | with_reducible refine balloc ?_ | (with_reducible refine bset ?_ ?_; rotate_left; ((try dsimp only); omega)) | refine bkeep2 ?_ (by assumption) | with_reducible refine Below.drew ?_))⟩
end Go.Proofs.Ytjdjahckdgbkbab
end
section
namespace Go.Proofs.Ytjdjahckdgbkbab
open Go.RowKit
set_option linter.unusedVariables false
attribute [local go_sem 5000] run_mx run_mn run_eqlR run_neqR
attribute [local go_sem] growUpon_value growUpon_skip growUpon_enter
set_option maxHeartbeats 1000000
end Go.Proofs.Ytjdjahckdgbkbab
end
section
namespace Go.Proofs.Ytjdjahckdgbkbab
open Go.RowKit
set_option linter.unusedVariables false
attribute [local go_sem 5000] run_mx run_mn run_eqlR run_neqR
attribute [local go_sem] growUpon_value growUpon_skip growUpon_enter
set_option maxHeartbeats 1000000
theorem inset_any (x y u v p q : Int) (w : World) (h : inB x y u v p q = true) : Calls Try.prog 48 #[.agg #[.int .i64 (x), .int .i64 (y), .int .i64 (u), .int .i64 (v)], .int .i64 p, .int .i64 q] w fun e w' => e = .returned (.agg #[.int .i64 (x + mn p (u / 2)), .int .i64 (y + mn q (v / 2)), .int .i64 (mx (u - 2 * p) 0), .int .i64 (mx (v - 2 * q) 0)]) ∧ Below w.heap.size w w' := by
  obtain ⟨h1, h2, h3⟩ := inB_yes h
  obtain ⟨m1, m2, m3, m4, m5, m6, m7, m8⟩ := in_bds h
  obtain ⟨a1, a2, a3, a4, a5, a6, a7, a8⟩ := vr_iff.1 h1
  obtain ⟨b1, b2⟩ := rng_iff.1 h2
  obtain ⟨b3, b4⟩ := rng_iff.1 h3
  clear h h1 h2 h3
  go_enter Try.func48, Try.ntmps48
  go_wp2
  exact bodyPost_ret (v := .agg #[.int .i64 (x + mn p (u / 2)), .int .i64 (y + mn q (v / 2)), .int .i64 (mx (u - 2 * p) 0), .int .i64 (mx (v - 2 * q) 0)]) (by simp only [results, Try.results48]; go_simp) rfl ⟨rfl, (by repeat (first | with_reducible exact Below.refl _ _ | with_reducible assumption | with_reducible refine balloc ?_ | (with_reducible refine bset ?_ ?_; rotate_left; ((try dsimp only); omega)) | refine bkeep2 ?_ (by assumption) | with_reducible refine Below.drew ?_))⟩
theorem InsetRect_yes (x y u v p q : Int) (w : World) (h : inB x y u v p q = true) : Calls Try.prog 23 #[.agg #[.int .i64 (x), .int .i64 (y), .int .i64 (u), .int .i64 (v)], .int .i64 p, .int .i64 q] w fun e w' => e = .returned (.agg #[.int .i64 (x + mn p (u / 2)), .int .i64 (y + mn q (v / 2)), .int .i64 (mx (u - 2 * p) 0), .int .i64 (mx (v - 2 * q) 0)]) ∧ Below w.heap.size w w' := by
  obtain ⟨h1, h2, h3⟩ := inB_yes h
  go_enter Try.func23, Try.ntmps23
  go_wp2_with (first | (go_at_call 46; refine (validRect_any _ _ _ _ _).mono ?_; rintro e w1 ⟨rfl, hb⟩; obtain ⟨hc, hf⟩ := bcell hb; (first | (replace hB := bkeep2 hB hb) | (replace hB := bkeep2 (balloc hB) hb) | (replace hB := bkeep2 (balloc (balloc hB)) hb) | have hB := hb); obtain ⟨hC, hF, hZ, hN⟩ := bcell4 hB; (try (have hlt := Nat.lt_of_lt_of_le hlt hb.size; have hne := Nat.ne_of_lt hlt)); (have hs0 := hb.size); (try simp only [World.size_alloc] at hs0); (try (have hlt := Nat.lt_of_succ_le hs0; have hne := Nat.ne_of_lt hlt))) | (go_at_call 47; refine (within_any _ _ _ _).mono ?_; rintro e w' ⟨rfl, rfl⟩) | (go_at_call 48; refine (inset_any _ _ _ _ _ _ _ h).mono ?_; rintro e w1 ⟨rfl, hb⟩; obtain ⟨hc, hf⟩ := bcell hb; (first | (replace hB := bkeep2 hB hb) | (replace hB := bkeep2 (balloc hB) hb) | (replace hB := bkeep2 (balloc (balloc hB)) hb) | have hB := hb); obtain ⟨hC, hF, hZ, hN⟩ := bcell4 hB; (try (have hlt := Nat.lt_of_lt_of_le hlt hb.size; have hne := Nat.ne_of_lt hlt)); (have hs0 := hb.size); (try simp only [World.size_alloc] at hs0); (try (have hlt := Nat.lt_of_succ_le hs0; have hne := Nat.ne_of_lt hlt))))
  exact bodyPost_ret (v := .agg #[.int .i64 (x + mn p (u / 2)), .int .i64 (y + mn q (v / 2)), .int .i64 (mx (u - 2 * p) 0), .int .i64 (mx (v - 2 * q) 0)]) (by simp only [results, Try.results23]; go_simp) rfl ⟨rfl, (by repeat (first | with_reducible exact Below.refl _ _ | with_reducible assumption | with_reducible refine balloc ?_ | (with_reducible refine bset ?_ ?_; rotate_left; ((try dsimp only); omega)) | refine bkeep2 ?_ (by assumption) | with_reducible refine Below.drew ?_))⟩
theorem InsetRect_no (x y u v p q : Int) (w : World) (h : inB x y u v p q = false) : Calls Try.prog 23 #[.agg #[.int .i64 (x), .int .i64 (y), .int .i64 (u), .int .i64 (v)], .int .i64 p, .int .i64 q] w fun e w' => e = .returned (.agg #[.int .i64 (0), .int .i64 (0), .int .i64 (0), .int .i64 (0)]) ∧ Below w.heap.size w w' := by
  cases h1 : vr x y u v
  · go_enter Try.func23, Try.ntmps23
    go_wp2_with (first | (go_at_call 46; refine (validRect_any _ _ _ _ _).mono ?_; rintro e w1 ⟨rfl, hb⟩; obtain ⟨hc, hf⟩ := bcell hb; (first | (replace hB := bkeep2 hB hb) | (replace hB := bkeep2 (balloc hB) hb) | (replace hB := bkeep2 (balloc (balloc hB)) hb) | have hB := hb); obtain ⟨hC, hF, hZ, hN⟩ := bcell4 hB; (try (have hlt := Nat.lt_of_lt_of_le hlt hb.size; have hne := Nat.ne_of_lt hlt)); (have hs0 := hb.size); (try simp only [World.size_alloc] at hs0); (try (have hlt := Nat.lt_of_succ_le hs0; have hne := Nat.ne_of_lt hlt))) | (go_at_call 47; refine (within_any _ _ _ _).mono ?_; rintro e w' ⟨rfl, rfl⟩))
    exact bodyPost_ret (v := .agg #[.int .i64 (0), .int .i64 (0), .int .i64 (0), .int .i64 (0)]) (by simp only [results, Try.results23]; go_simp) rfl ⟨rfl, (by repeat (first | with_reducible exact Below.refl _ _ | with_reducible assumption | with_reducible refine balloc ?_ | (with_reducible refine bset ?_ ?_; rotate_left; ((try dsimp only); omega)) | refine bkeep2 ?_ (by assumption) | with_reducible refine Below.drew ?_))⟩
  cases h2 : rng p 0 10
  · go_enter Try.func23, Try.ntmps23
    go_wp2_with (first | (go_at_call 46; refine (validRect_any _ _ _ _ _).mono ?_; rintro e w1 ⟨rfl, hb⟩; obtain ⟨hc, hf⟩ := bcell hb; (first | (replace hB := bkeep2 hB hb) | (replace hB := bkeep2 (balloc hB) hb) | (replace hB := bkeep2 (balloc (balloc hB)) hb) | have hB := hb); obtain ⟨hC, hF, hZ, hN⟩ := bcell4 hB; (try (have hlt := Nat.lt_of_lt_of_le hlt hb.size; have hne := Nat.ne_of_lt hlt)); (have hs0 := hb.size); (try simp only [World.size_alloc] at hs0); (try (have hlt := Nat.lt_of_succ_le hs0; have hne := Nat.ne_of_lt hlt))) | (go_at_call 47; refine (within_any _ _ _ _).mono ?_; rintro e w' ⟨rfl, rfl⟩))
    exact bodyPost_ret (v := .agg #[.int .i64 (0), .int .i64 (0), .int .i64 (0), .int .i64 (0)]) (by simp only [results, Try.results23]; go_simp) rfl ⟨rfl, (by repeat (first | with_reducible exact Below.refl _ _ | with_reducible assumption | with_reducible refine balloc ?_ | (with_reducible refine bset ?_ ?_; rotate_left; ((try dsimp only); omega)) | refine bkeep2 ?_ (by assumption) | with_reducible refine Below.drew ?_))⟩
  have h3 := inB_no h h1 h2
  go_enter Try.func23, Try.ntmps23
  go_wp2_with (first | (go_at_call 46; refine (validRect_any _ _ _ _ _).mono ?_; rintro e w1 ⟨rfl, hb⟩; obtain ⟨hc, hf⟩ := bcell hb; (first | (replace hB := bkeep2 hB hb) | (replace hB := bkeep2 (balloc hB) hb) | (replace hB := bkeep2 (balloc (balloc hB)) hb) | have hB := hb); obtain ⟨hC, hF, hZ, hN⟩ := bcell4 hB; (try (have hlt := Nat.lt_of_lt_of_le hlt hb.size; have hne := Nat.ne_of_lt hlt)); (have hs0 := hb.size); (try simp only [World.size_alloc] at hs0); (try (have hlt := Nat.lt_of_succ_le hs0; have hne := Nat.ne_of_lt hlt))) | (go_at_call 47; refine (within_any _ _ _ _).mono ?_; rintro e w' ⟨rfl, rfl⟩))
  exact bodyPost_ret (v := .agg #[.int .i64 (0), .int .i64 (0), .int .i64 (0), .int .i64 (0)]) (by simp only [results, Try.results23]; go_simp) rfl ⟨rfl, (by repeat (first | with_reducible exact Below.refl _ _ | with_reducible assumption | with_reducible refine balloc ?_ | (with_reducible refine bset ?_ ?_; rotate_left; ((try dsimp only); omega)) | refine bkeep2 ?_ (by assumption) | with_reducible refine Below.drew ?_))⟩
end Go.Proofs.Ytjdjahckdgbkbab
end
section
namespace Go.Proofs.Ytjdjahckdgbkbab
open Go.RowKit
set_option linter.unusedVariables false
attribute [local go_sem 5000] run_mx run_mn run_eqlR run_neqR
attribute [local go_sem] growUpon_value growUpon_skip growUpon_enter
set_option maxHeartbeats 1000000
theorem sinset_any (x y u v p q : Int) (w : World) (h : inB x y u v p q = true) : Calls Try.prog 80 #[.agg #[.int .i64 (x), .int .i64 (y), .int .i64 (u), .int .i64 (v)], .int .i64 p, .int .i64 q] w fun e w' => e = .returned (.agg #[.int .i64 (x + mn p (u / 2)), .int .i64 (y + mn q (v / 2)), .int .i64 (mx (u - 2 * p) 0), .int .i64 (mx (v - 2 * q) 0)]) ∧ Below w.heap.size w w' := by
  obtain ⟨h1, h2, h3⟩ := inB_yes h
  obtain ⟨m1, m2, m3, m4, m5, m6, m7, m8⟩ := in_bds h
  obtain ⟨a1, a2, a3, a4, a5, a6, a7, a8⟩ := vr_iff.1 h1
  obtain ⟨b1, b2⟩ := rng_iff.1 h2
  obtain ⟨b3, b4⟩ := rng_iff.1 h3
  rw [mx_comm (u - 2 * p) 0, mx_comm (v - 2 * q) 0] at *
  clear h h1 h2 h3
  go_enter Try.func80, Try.ntmps80
  go_wp2
  exact bodyPost_ret (v := .agg #[.int .i64 (x + mn p (u / 2)), .int .i64 (y + mn q (v / 2)), .int .i64 (mx 0 (u - 2 * p)), .int .i64 (mx 0 (v - 2 * q))]) (by simp only [results, Try.results80]; go_simp) rfl ⟨rfl, (by repeat (first | with_reducible exact Below.refl _ _ | with_reducible assumption | with_reducible refine balloc ?_ | (with_reducible refine bset ?_ ?_; rotate_left; ((try dsimp only); omega)) | refine bkeep2 ?_ (by assumption) | with_reducible refine Below.drew ?_))⟩
end Go.Proofs.Ytjdjahckdgbkbab
end
section
namespace Go.Proofs.Ytjdjahckdgbkbab
open Go.RowKit
set_option linter.unusedVariables false
set_option maxHeartbeats 1000000
attribute [local go_sem 5000] run_mx run_mn
def insP (r : Rc) (p q : Int) : Rc := ⟨r.x + mn p (r.u / 2), r.y + mn q (r.v / 2), mx (r.u - 2 * p) 0, mx (r.v - 2 * q) 0⟩
def ancP (r : Rc) (p q k : Int) : Rc := ⟨r.x + (r.u - mn p r.u) * (k % 3) / 2, r.y + (r.v - mn q r.v) * (k / 3) / 2, mn p r.u, mn q r.v⟩
def wP (p : Pk) (r : Rc) : Int := if p.fx then (insP r p.px p.py).u else p.w
def hP (p : Pk) (r : Rc) : Int := if p.fy then (insP r p.px p.py).v else p.h
def setP (p : Pk) (r : Rc) : Rc := ancP (insP r p.px p.py) (wP p r) (hP p r) p.an
theorem ok_all {p : Pk} (h : p.ok = true) : rng p.w 0 30 = true ∧ rng p.h 0 30 = true ∧ rng p.s 0 3 = true ∧ rng p.an 0 8 = true ∧ rng p.px 0 10 = true ∧ rng p.py 0 10 = true := by
  unfold Pk.ok vpB at h; simpa using h
theorem ins_inB {p : Pk} {r : Rc} (h : p.ok = true) (hr : r.ok = true) : inB r.x r.y r.u r.v p.px p.py = true := by
  obtain ⟨_, _, _, _, h5, h6⟩ := ok_all h
  unfold inB; unfold Rc.ok at hr; simp [hr, h5, h6]
theorem ins_ok {p : Pk} {r : Rc} (h : p.ok = true) (hr : r.ok = true) : (insP r p.px p.py).ok = true := by
  obtain ⟨_, _, _, _, h5, h6⟩ := ok_all h
  have a5 := rng_iff.1 h5
  have a6 := rng_iff.1 h6
  obtain ⟨a1, a2, a3, a4, b1, b2, b3, b4⟩ := vr_iff.1 hr
  have m1 := mn_spec p.px (r.u / 2)
  have m2 := mn_spec p.py (r.v / 2)
  have m3 := mx_spec (r.u - 2 * p.px) 0
  have m4 := mx_spec (r.v - 2 * p.py) 0
  refine vr_iff.2 ?_
  dsimp only [insP]
  omega
theorem anc_anB {p : Pk} {r : Rc} (h : p.ok = true) (hr : r.ok = true) (a b : Int) (ha : a = p.w ∨ a = (insP r p.px p.py).u) (hb : b = p.h ∨ b = (insP r p.px p.py).v) :
    anB (insP r p.px p.py).x (insP r p.px p.py).y (insP r p.px p.py).u (insP r p.px p.py).v a b p.an = true := by
  obtain ⟨h1, h2, _, h4, _, _⟩ := ok_all h
  have hi := ins_ok h hr
  have a1 := rng_iff.1 h1
  have a2 := rng_iff.1 h2
  obtain ⟨b1, b2, b3, b4, _⟩ := vr_iff.1 hi
  have r1 : rng a 0 400 = true := rng_iff.2 (by rcases ha with rfl | rfl <;> omega)
  have r2 : rng b 0 400 = true := rng_iff.2 (by rcases hb with rfl | rfl <;> omega)
  unfold anB; unfold Rc.ok at hi; simp [hi, h4, r1, r2]
theorem set_ok {p : Pk} {r : Rc} (h : p.ok = true) (hr : r.ok = true) : 0 ≤ (setP p r).u ∧ 0 ≤ (setP p r).v := by
  have ha := anc_anB h hr (wP p r) (hP p r) (by unfold wP; split; exact .inr rfl; exact .inl rfl) (by unfold hP; split; exact .inr rfl; exact .inl rfl)
  have := an_bds ha
  exact ⟨this.1, this.2.2.1⟩
theorem inset_v (p : Pk) (r : Rc) (w : World) (h : p.ok = true) (hr : r.ok = true) : Calls Try.prog 48 #[.agg #[.int .i64 (r.x), .int .i64 (r.y), .int .i64 (r.u), .int .i64 (r.v)], .int .i64 p.px, .int .i64 p.py] w fun e w' => e = .returned (.agg #[.int .i64 ((insP r p.px p.py).x), .int .i64 ((insP r p.px p.py).y), .int .i64 ((insP r p.px p.py).u), .int .i64 ((insP r p.px p.py).v)]) ∧ Below w.heap.size w w' := inset_any _ _ _ _ _ _ _ (ins_inB h hr)
theorem sinset_v (p : Pk) (r : Rc) (w : World) (h : p.ok = true) (hr : r.ok = true) : Calls Try.prog 80 #[.agg #[.int .i64 (r.x), .int .i64 (r.y), .int .i64 (r.u), .int .i64 (r.v)], .int .i64 p.px, .int .i64 p.py] w fun e w' => e = .returned (.agg #[.int .i64 ((insP r p.px p.py).x), .int .i64 ((insP r p.px p.py).y), .int .i64 ((insP r p.px p.py).u), .int .i64 ((insP r p.px p.py).v)]) ∧ Below w.heap.size w w' := sinset_any _ _ _ _ _ _ _ (ins_inB h hr)
theorem anchored_v (p : Pk) (r q : Rc) (a b : Int) (w : World) (h : p.ok = true) (hr : r.ok = true) (hq : q = insP r p.px p.py) (ha : a = p.w ∨ a = (insP r p.px p.py).u) (hb : b = p.h ∨ b = (insP r p.px p.py).v) (S : Rc) (hS : ancP (insP r p.px p.py) a b p.an = S) :
    Calls Try.prog 82 #[.agg #[.int .i64 (q.x), .int .i64 (q.y), .int .i64 (q.u), .int .i64 (q.v)], .int .i64 a, .int .i64 b, .int .i64 p.an] w fun e w' => e = .returned (.agg #[.int .i64 (S.x), .int .i64 (S.y), .int .i64 (S.u), .int .i64 (S.v)]) ∧ Below w.heap.size w w' := by subst hq hS; exact anchored_any _ _ _ _ _ _ _ _ (anc_anB h hr a b ha hb)
theorem sanchored_v (p : Pk) (r q : Rc) (a b : Int) (w : World) (h : p.ok = true) (hr : r.ok = true) (hq : q = insP r p.px p.py) (ha : a = p.w ∨ a = (insP r p.px p.py).u) (hb : b = p.h ∨ b = (insP r p.px p.py).v) (S : Rc) (hS : ancP (insP r p.px p.py) a b p.an = S) :
    Calls Try.prog 81 #[.agg #[.int .i64 (q.x), .int .i64 (q.y), .int .i64 (q.u), .int .i64 (q.v)], .int .i64 a, .int .i64 b, .int .i64 p.an] w fun e w' => e = .returned (.agg #[.int .i64 (S.x), .int .i64 (S.y), .int .i64 (S.u), .int .i64 (S.v)]) ∧ Below w.heap.size w w' := by subst hq hS; exact sanchored_any _ _ _ _ _ _ _ _ (anc_anB h hr a b ha hb)
set_option maxRecDepth 100000 in
theorem inParcel_v (p : Pk) (r : Rc) (w : World) (h : p.ok = true) (hr : r.ok = true) : Calls Try.prog 55 #[.agg #[.int .i64 p.w, .int .i64 p.h, .int .i64 p.s, .bool p.fx, .bool p.fy, .bool p.ex, .int .i64 p.an, .int .i64 p.px, .int .i64 p.py], .agg #[.int .i64 (r.x), .int .i64 (r.y), .int .i64 (r.u), .int .i64 (r.v)]] w fun e w' => e = .returned (.agg #[.int .i64 ((setP p r).x), .int .i64 ((setP p r).y), .int .i64 ((setP p r).u), .int .i64 ((setP p r).v)]) ∧ Below w.heap.size w w' := by
  obtain ⟨S, hS⟩ : ∃ S, setP p r = S := ⟨_, rfl⟩
  rw [hS]
  have HS := Lib.hid hS
  clear hS
  go_enter Try.func55, Try.ntmps55
  go_wp2_with fail
  with_reducible refine (inset_v p r _ h hr).mono ?_
  rintro e w1 ⟨rfl, hb1⟩
  have hP1 := (hb1.block w.heap.size (by simp; omega)).trans ((Below.heap_alloc _ (.cells #[.int .i64 0, .int .i64 0, .int .i64 0, .int .i64 0] 42 (0, 0)) _ (by simp; omega)).trans ((Below.heap_alloc _ (.cells #[.int .i64 r.x, .int .i64 r.y, .int .i64 r.u, .int .i64 r.v] 42 (0, 0)) _ (by simp)).trans (heap_new w (.cells #[.int .i64 p.w, .int .i64 p.h, .int .i64 p.s, .bool p.fx, .bool p.fy, .bool p.ex, .int .i64 p.an, .int .i64 p.px, .int .i64 p.py] 35 (0, 0)))))
  have hI1 := (hb1.block (w.heap.size + 1 + 1) (by simp)).trans (by have e := heap_new ((w.alloc (.cells #[.int .i64 p.w, .int .i64 p.h, .int .i64 p.s, .bool p.fx, .bool p.fy, .bool p.ex, .int .i64 p.an, .int .i64 p.px, .int .i64 p.py] 35 (0, 0))).alloc (.cells #[.int .i64 r.x, .int .i64 r.y, .int .i64 r.u, .int .i64 r.v] 42 (0, 0))) (.cells #[.int .i64 0, .int .i64 0, .int .i64 0, .int .i64 0] 42 (0, 0)); simpa only [World.size_alloc] using e)
  have hB1 : Below w.heap.size w w1 := bkeep2 (balloc (balloc (balloc (Below.refl _ _)))) hb1
  have hls : w.heap.size + 1 + 1 < w1.heap.size := (Array.getElem?_eq_some_iff.1 hI1).1
  obtain ⟨I, hI⟩ : ∃ I, insP r p.px p.py = I := ⟨_, rfl⟩
  rw [hI]
  have c0 := cellH hP1 0
  have c1 := cellH hP1 1
  have c3 := cellH hP1 3
  have c4 := cellH hP1 4
  have c6 := cellH hP1 6
  simp only [List.getElem?_toArray, List.getElem?_cons_zero, List.getElem?_cons_succ] at c0 c1 c3 c4 c6
  have HB := Lib.hid hB1
  have HX := Lib.hid hI1
  have hl0 : w.heap.size < w1.heap.size := by omega
  have hn0 : ¬ w.heap.size = w1.heap.size := by omega
  have HI := Lib.hid hI
  clear hP1 hI1 hb1 hB1 hI
  cases hfx : p.fx <;> cases hfy : p.fy
  · rw [hfx] at c3
    rw [hfy] at c4
    go_wp2_with fail
    go_region
    go_wp2_with fail
    refine (anchored_v p r I p.w p.h _ h hr HI.out.symm (by rw [HI.out]; simp) (by rw [HI.out]; simp) S (by rw [← HS.out]; unfold setP wP hP; simp [hfx, hfy, HI.out])).mono ?_
    rintro e w2 ⟨rfl, hb2⟩
    replace HX := Lib.hid ((hb2.block _ (by simp; omega)).trans ((Below.heap_alloc _ _ _ hls).trans HX.out))
    replace HB := Lib.hid (bkeep2 (Below.drew (balloc HB.out)) hb2)
    clear hb2 c0 c1 c3 c4 c6 hl0 hn0 hls
    obtain ⟨i0, i1, i2, i3⟩ := cells4 HX.out
    have g0 := frozenH HX.out 0
    have g1 := frozenH HX.out 1
    have g2 := frozenH HX.out 2
    have g3 := frozenH HX.out 3
    go_wp2
    refine bp_genP (fun W => W.heap[w.heap.size + 1 + 1]? = some (.cells #[.int .i64 S.x, .int .i64 S.y, .int .i64 S.u, .int .i64 S.v] 42 (0, 0)) ∧ Below w.heap.size w W)
      ⟨pput4z HX.out _ _ _ _, pput4b HB.out (by omega) _ _ _ _ _ _ _ _⟩ ?_
    clear HX HB i0 i1 i2 i3 g0 g1 g2 g3
    rintro W ⟨hW, hB2⟩
    obtain ⟨r0, r1, r2, r3⟩ := cells4 hW
    exact bodyPost_ret (v := .agg #[.int .i64 (S.x), .int .i64 (S.y), .int .i64 (S.u), .int .i64 (S.v)]) (by simp only [results, Try.results55]; go_simp) rfl ⟨rfl, hB2⟩
  · rw [hfx] at c3
    rw [hfy] at c4
    go_wp2_with fail
    go_region
    go_wp2_with fail
    refine (anchored_v p r I p.w I.v _ h hr HI.out.symm (by rw [HI.out]; simp) (by rw [HI.out]; simp) S (by rw [← HS.out]; unfold setP wP hP; simp [hfx, hfy, HI.out])).mono ?_
    rintro e w2 ⟨rfl, hb2⟩
    replace HX := Lib.hid ((hb2.block _ (by simp; omega)).trans ((Below.heap_alloc _ _ _ hls).trans HX.out))
    replace HB := Lib.hid (bkeep2 (Below.drew (balloc HB.out)) hb2)
    clear hb2 c0 c1 c3 c4 c6 hl0 hn0 hls
    obtain ⟨i0, i1, i2, i3⟩ := cells4 HX.out
    have g0 := frozenH HX.out 0
    have g1 := frozenH HX.out 1
    have g2 := frozenH HX.out 2
    have g3 := frozenH HX.out 3
    go_wp2
    refine bp_genP (fun W => W.heap[w.heap.size + 1 + 1]? = some (.cells #[.int .i64 S.x, .int .i64 S.y, .int .i64 S.u, .int .i64 S.v] 42 (0, 0)) ∧ Below w.heap.size w W)
      ⟨pput4z HX.out _ _ _ _, pput4b HB.out (by omega) _ _ _ _ _ _ _ _⟩ ?_
    clear HX HB i0 i1 i2 i3 g0 g1 g2 g3
    rintro W ⟨hW, hB2⟩
    obtain ⟨r0, r1, r2, r3⟩ := cells4 hW
    exact bodyPost_ret (v := .agg #[.int .i64 (S.x), .int .i64 (S.y), .int .i64 (S.u), .int .i64 (S.v)]) (by simp only [results, Try.results55]; go_simp) rfl ⟨rfl, hB2⟩
  · rw [hfx] at c3
    rw [hfy] at c4
    go_wp2_with fail
    go_region
    go_wp2_with fail
    refine (anchored_v p r I I.u p.h _ h hr HI.out.symm (by rw [HI.out]; simp) (by rw [HI.out]; simp) S (by rw [← HS.out]; unfold setP wP hP; simp [hfx, hfy, HI.out])).mono ?_
    rintro e w2 ⟨rfl, hb2⟩
    replace HX := Lib.hid ((hb2.block _ (by simp; omega)).trans ((Below.heap_alloc _ _ _ hls).trans HX.out))
    replace HB := Lib.hid (bkeep2 (Below.drew (balloc HB.out)) hb2)
    clear hb2 c0 c1 c3 c4 c6 hl0 hn0 hls
    obtain ⟨i0, i1, i2, i3⟩ := cells4 HX.out
    have g0 := frozenH HX.out 0
    have g1 := frozenH HX.out 1
    have g2 := frozenH HX.out 2
    have g3 := frozenH HX.out 3
    go_wp2
    refine bp_genP (fun W => W.heap[w.heap.size + 1 + 1]? = some (.cells #[.int .i64 S.x, .int .i64 S.y, .int .i64 S.u, .int .i64 S.v] 42 (0, 0)) ∧ Below w.heap.size w W)
      ⟨pput4z HX.out _ _ _ _, pput4b HB.out (by omega) _ _ _ _ _ _ _ _⟩ ?_
    clear HX HB i0 i1 i2 i3 g0 g1 g2 g3
    rintro W ⟨hW, hB2⟩
    obtain ⟨r0, r1, r2, r3⟩ := cells4 hW
    exact bodyPost_ret (v := .agg #[.int .i64 (S.x), .int .i64 (S.y), .int .i64 (S.u), .int .i64 (S.v)]) (by simp only [results, Try.results55]; go_simp) rfl ⟨rfl, hB2⟩
  · rw [hfx] at c3
    rw [hfy] at c4
    go_wp2_with fail
    go_region
    go_wp2_with fail
    refine (anchored_v p r I I.u I.v _ h hr HI.out.symm (by rw [HI.out]; simp) (by rw [HI.out]; simp) S (by rw [← HS.out]; unfold setP wP hP; simp [hfx, hfy, HI.out])).mono ?_
    rintro e w2 ⟨rfl, hb2⟩
    replace HX := Lib.hid ((hb2.block _ (by simp; omega)).trans ((Below.heap_alloc _ _ _ hls).trans HX.out))
    replace HB := Lib.hid (bkeep2 (Below.drew (balloc HB.out)) hb2)
    clear hb2 c0 c1 c3 c4 c6 hl0 hn0 hls
    obtain ⟨i0, i1, i2, i3⟩ := cells4 HX.out
    have g0 := frozenH HX.out 0
    have g1 := frozenH HX.out 1
    have g2 := frozenH HX.out 2
    have g3 := frozenH HX.out 3
    go_wp2
    refine bp_genP (fun W => W.heap[w.heap.size + 1 + 1]? = some (.cells #[.int .i64 S.x, .int .i64 S.y, .int .i64 S.u, .int .i64 S.v] 42 (0, 0)) ∧ Below w.heap.size w W)
      ⟨pput4z HX.out _ _ _ _, pput4b HB.out (by omega) _ _ _ _ _ _ _ _⟩ ?_
    clear HX HB i0 i1 i2 i3 g0 g1 g2 g3
    rintro W ⟨hW, hB2⟩
    obtain ⟨r0, r1, r2, r3⟩ := cells4 hW
    exact bodyPost_ret (v := .agg #[.int .i64 (S.x), .int .i64 (S.y), .int .i64 (S.u), .int .i64 (S.v)]) (by simp only [results, Try.results55]; go_simp) rfl ⟨rfl, hB2⟩
set_option maxRecDepth 100000 in
theorem settled_v (p : Pk) (r : Rc) (w : World) (h : p.ok = true) (hr : r.ok = true) : Calls Try.prog 53 #[.agg #[.int .i64 p.w, .int .i64 p.h, .int .i64 p.s, .bool p.fx, .bool p.fy, .bool p.ex, .int .i64 p.an, .int .i64 p.px, .int .i64 p.py], .agg #[.int .i64 (r.x), .int .i64 (r.y), .int .i64 (r.u), .int .i64 (r.v)]] w fun e w' => e = .returned (.agg #[.int .i64 ((setP p r).x), .int .i64 ((setP p r).y), .int .i64 ((setP p r).u), .int .i64 ((setP p r).v)]) ∧ Below w.heap.size w w' := by
  obtain ⟨S, hS⟩ : ∃ S, setP p r = S := ⟨_, rfl⟩
  rw [hS]
  have HS := Lib.hid hS
  clear hS
  go_enter Try.func53, Try.ntmps53
  go_wp2_with fail
  with_reducible refine (sinset_v p r _ h hr).mono ?_
  rintro e w1 ⟨rfl, hb1⟩
  have hP1 := (hb1.block w.heap.size (by simp; omega)).trans ((Below.heap_alloc _ (.cells #[.int .i64 0, .int .i64 0, .int .i64 0, .int .i64 0] 42 (0, 0)) _ (by simp; omega)).trans ((Below.heap_alloc _ (.cells #[.int .i64 r.x, .int .i64 r.y, .int .i64 r.u, .int .i64 r.v] 42 (0, 0)) _ (by simp)).trans (heap_new w (.cells #[.int .i64 p.w, .int .i64 p.h, .int .i64 p.s, .bool p.fx, .bool p.fy, .bool p.ex, .int .i64 p.an, .int .i64 p.px, .int .i64 p.py] 35 (0, 0)))))
  have hI1 := (hb1.block (w.heap.size + 1 + 1) (by simp)).trans (by have e := heap_new ((w.alloc (.cells #[.int .i64 p.w, .int .i64 p.h, .int .i64 p.s, .bool p.fx, .bool p.fy, .bool p.ex, .int .i64 p.an, .int .i64 p.px, .int .i64 p.py] 35 (0, 0))).alloc (.cells #[.int .i64 r.x, .int .i64 r.y, .int .i64 r.u, .int .i64 r.v] 42 (0, 0))) (.cells #[.int .i64 0, .int .i64 0, .int .i64 0, .int .i64 0] 42 (0, 0)); simpa only [World.size_alloc] using e)
  have hB1 : Below w.heap.size w w1 := bkeep2 (balloc (balloc (balloc (Below.refl _ _)))) hb1
  have hls : w.heap.size + 1 + 1 < w1.heap.size := (Array.getElem?_eq_some_iff.1 hI1).1
  obtain ⟨I, hI⟩ : ∃ I, insP r p.px p.py = I := ⟨_, rfl⟩
  rw [hI]
  have c0 := cellH hP1 0
  have c1 := cellH hP1 1
  have c3 := cellH hP1 3
  have c4 := cellH hP1 4
  have c6 := cellH hP1 6
  simp only [List.getElem?_toArray, List.getElem?_cons_zero, List.getElem?_cons_succ] at c0 c1 c3 c4 c6
  have HB := Lib.hid hB1
  have HX := Lib.hid hI1
  have hl0 : w.heap.size < w1.heap.size := by omega
  have hn0 : ¬ w.heap.size = w1.heap.size := by omega
  have HI := Lib.hid hI
  clear hP1 hI1 hb1 hB1 hI
  cases hfx : p.fx <;> cases hfy : p.fy
  · rw [hfx] at c3
    rw [hfy] at c4
    go_wp2_with fail
    refine (sanchored_v p r I p.w p.h _ h hr HI.out.symm (by rw [HI.out]; simp) (by rw [HI.out]; simp) S (by rw [← HS.out]; unfold setP wP hP; simp [hfx, hfy, HI.out])).mono ?_
    rintro e w2 ⟨rfl, hb2⟩
    replace HX := Lib.hid ((hb2.block _ (by simp; omega)).trans ((Below.heap_alloc _ _ _ hls).trans HX.out))
    replace HB := Lib.hid (bkeep2 (balloc HB.out) hb2)
    clear hb2 c0 c1 c3 c4 c6 hl0 hn0 hls
    obtain ⟨i0, i1, i2, i3⟩ := cells4 HX.out
    have g0 := frozenH HX.out 0
    have g1 := frozenH HX.out 1
    have g2 := frozenH HX.out 2
    have g3 := frozenH HX.out 3
    go_wp2
    refine bp_genP (fun W => W.heap[w.heap.size + 1 + 1]? = some (.cells #[.int .i64 S.x, .int .i64 S.y, .int .i64 S.u, .int .i64 S.v] 42 (0, 0)) ∧ Below w.heap.size w W)
      ⟨pput4z HX.out _ _ _ _, pput4b HB.out (by omega) _ _ _ _ _ _ _ _⟩ ?_
    clear HX HB i0 i1 i2 i3 g0 g1 g2 g3
    rintro W ⟨hW, hB2⟩
    obtain ⟨r0, r1, r2, r3⟩ := cells4 hW
    exact bodyPost_ret (v := .agg #[.int .i64 (S.x), .int .i64 (S.y), .int .i64 (S.u), .int .i64 (S.v)]) (by simp only [results, Try.results53]; go_simp) rfl ⟨rfl, hB2⟩
  · rw [hfx] at c3
    rw [hfy] at c4
    go_wp2_with fail
    refine (sanchored_v p r I p.w I.v _ h hr HI.out.symm (by rw [HI.out]; simp) (by rw [HI.out]; simp) S (by rw [← HS.out]; unfold setP wP hP; simp [hfx, hfy, HI.out])).mono ?_
    rintro e w2 ⟨rfl, hb2⟩
    replace HX := Lib.hid ((hb2.block _ (by simp; omega)).trans ((Below.heap_alloc _ _ _ hls).trans HX.out))
    replace HB := Lib.hid (bkeep2 (balloc HB.out) hb2)
    clear hb2 c0 c1 c3 c4 c6 hl0 hn0 hls
    obtain ⟨i0, i1, i2, i3⟩ := cells4 HX.out
    have g0 := frozenH HX.out 0
    have g1 := frozenH HX.out 1
    have g2 := frozenH HX.out 2
    have g3 := frozenH HX.out 3
    go_wp2
    refine bp_genP (fun W => W.heap[w.heap.size + 1 + 1]? = some (.cells #[.int .i64 S.x, .int .i64 S.y, .int .i64 S.u, .int .i64 S.v] 42 (0, 0)) ∧ Below w.heap.size w W)
      ⟨pput4z HX.out _ _ _ _, pput4b HB.out (by omega) _ _ _ _ _ _ _ _⟩ ?_
    clear HX HB i0 i1 i2 i3 g0 g1 g2 g3
    rintro W ⟨hW, hB2⟩
    obtain ⟨r0, r1, r2, r3⟩ := cells4 hW
    exact bodyPost_ret (v := .agg #[.int .i64 (S.x), .int .i64 (S.y), .int .i64 (S.u), .int .i64 (S.v)]) (by simp only [results, Try.results53]; go_simp) rfl ⟨rfl, hB2⟩
  · rw [hfx] at c3
    rw [hfy] at c4
    go_wp2_with fail
    refine (sanchored_v p r I I.u p.h _ h hr HI.out.symm (by rw [HI.out]; simp) (by rw [HI.out]; simp) S (by rw [← HS.out]; unfold setP wP hP; simp [hfx, hfy, HI.out])).mono ?_
    rintro e w2 ⟨rfl, hb2⟩
    replace HX := Lib.hid ((hb2.block _ (by simp; omega)).trans ((Below.heap_alloc _ _ _ hls).trans HX.out))
    replace HB := Lib.hid (bkeep2 (balloc HB.out) hb2)
    clear hb2 c0 c1 c3 c4 c6 hl0 hn0 hls
    obtain ⟨i0, i1, i2, i3⟩ := cells4 HX.out
    have g0 := frozenH HX.out 0
    have g1 := frozenH HX.out 1
    have g2 := frozenH HX.out 2
    have g3 := frozenH HX.out 3
    go_wp2
    refine bp_genP (fun W => W.heap[w.heap.size + 1 + 1]? = some (.cells #[.int .i64 S.x, .int .i64 S.y, .int .i64 S.u, .int .i64 S.v] 42 (0, 0)) ∧ Below w.heap.size w W)
      ⟨pput4z HX.out _ _ _ _, pput4b HB.out (by omega) _ _ _ _ _ _ _ _⟩ ?_
    clear HX HB i0 i1 i2 i3 g0 g1 g2 g3
    rintro W ⟨hW, hB2⟩
    obtain ⟨r0, r1, r2, r3⟩ := cells4 hW
    exact bodyPost_ret (v := .agg #[.int .i64 (S.x), .int .i64 (S.y), .int .i64 (S.u), .int .i64 (S.v)]) (by simp only [results, Try.results53]; go_simp) rfl ⟨rfl, hB2⟩
  · rw [hfx] at c3
    rw [hfy] at c4
    go_wp2_with fail
    refine (sanchored_v p r I I.u I.v _ h hr HI.out.symm (by rw [HI.out]; simp) (by rw [HI.out]; simp) S (by rw [← HS.out]; unfold setP wP hP; simp [hfx, hfy, HI.out])).mono ?_
    rintro e w2 ⟨rfl, hb2⟩
    replace HX := Lib.hid ((hb2.block _ (by simp; omega)).trans ((Below.heap_alloc _ _ _ hls).trans HX.out))
    replace HB := Lib.hid (bkeep2 (balloc HB.out) hb2)
    clear hb2 c0 c1 c3 c4 c6 hl0 hn0 hls
    obtain ⟨i0, i1, i2, i3⟩ := cells4 HX.out
    have g0 := frozenH HX.out 0
    have g1 := frozenH HX.out 1
    have g2 := frozenH HX.out 2
    have g3 := frozenH HX.out 3
    go_wp2
    refine bp_genP (fun W => W.heap[w.heap.size + 1 + 1]? = some (.cells #[.int .i64 S.x, .int .i64 S.y, .int .i64 S.u, .int .i64 S.v] 42 (0, 0)) ∧ Below w.heap.size w W)
      ⟨pput4z HX.out _ _ _ _, pput4b HB.out (by omega) _ _ _ _ _ _ _ _⟩ ?_
    clear HX HB i0 i1 i2 i3 g0 g1 g2 g3
    rintro W ⟨hW, hB2⟩
    obtain ⟨r0, r1, r2, r3⟩ := cells4 hW
    exact bodyPost_ret (v := .agg #[.int .i64 (S.x), .int .i64 (S.y), .int .i64 (S.u), .int .i64 (S.v)]) (by simp only [results, Try.results53]; go_simp) rfl ⟨rfl, hB2⟩
end Go.Proofs.Ytjdjahckdgbkbab
end
section
namespace Go.Proofs.Ytjdjahckdgbkbab
open Go.RowKit
set_option linter.unusedVariables false
set_option maxHeartbeats 1000000
attribute [local go_sem] growUpon_value growUpon_skip growUpon_enter
theorem nopan_normal {Q : Exit → Act → World → Prop} {a : Act} {w : World} (h : Q .normal a w) : NoPan Q .normal a w := h
def setL (L : List Pk) (M : List Rc) : List Rc := List.zipWith setP L M
theorem setL_len {L : List Pk} {M : List Rc} (h : M.length = L.length) : (setL L M).length = L.length := by simp [setL, h]
theorem setL_get {L : List Pk} {M : List Rc} {k : Nat} {p : Pk} {r : Rc} (hp : L[k]? = some p) (hr : M[k]? = some r) : (setL L M)[k]? = some (setP p r) := by
  simp [setL, List.getElem?_zipWith, hp, hr]
theorem parcM_ok : ∀ {L : List Pk} {z : Rc}, (∀ p ∈ L, p.ok = true) → z.ok = true → ∀ r ∈ (parcM L z).1, r.ok = true
  | [], z, _, _, r, hr => by simp [parcM] at hr
  | p :: t, z, hL, hz, r, hr => by
    have tk := takeOf_bd hL hz
    have hc := cutP_ok (s := p.s) (n := takeOf p t z) hz tk.1
    simp only [parcM, List.mem_cons] at hr
    rcases hr with rfl | hr
    · exact hc.1
    · exact parcM_ok (fun q hq => hL q (List.mem_cons_of_mem _ hq)) hc.2 r hr
set_option maxRecDepth 100000 in
theorem packRects_v (A : Option Addr) (c : Nat) (L : List Pk) (z0 : Rc) (w : World) (h : PV w A L) (hcap : L.length ≤ c) (hL : vpsB L = true) (hz0 : z0.ok = true) (M : List Rc) (Z : Rc) (hM : parcM L z0 = (M, Z)) :
    Calls Try.prog 39 #[.slice A L.length c, .agg #[.int .i64 (z0.x), .int .i64 (z0.y), .int .i64 (z0.u), .int .i64 (z0.v)]] w fun e w' => (∃ g, e = .returned (.slice (some ⟨g, 0, none⟩) L.length L.length) ∧ w.heap.size ≤ g ∧ Blk4 w' g (setL L M)) ∧ Below w.heap.size w w' := by
  obtain ⟨hok, h7⟩ := vpsB_iff.1 hL
  have hML : M.length = L.length := by have := parcM_len (L := L) (z := z0); rw [hM] at this; exact this
  have hMok : ∀ r ∈ M, r.ok = true := by have := parcM_ok (L := L) (z := z0) hok hz0; rw [hM] at this; exact this
  have HOK := Lib.hid hok
  have HML := Lib.hid hML
  have HMK := Lib.hid hMok
  have HM := Lib.hid hM
  clear hok hML hM hMok
  go_enter Try.func39, Try.ntmps39
  go_wp2_with fail
  refine (packParcels_v A c L z0 _ (h.keep (balloc (Below.refl _ _))) hcap hL hz0 M Z HM.out).mono ?_
  rintro e w1 ⟨⟨g, rfl, hg, hk⟩, hb⟩
  have HB0 := Lib.hid (bkeep2 (balloc (Below.refl _ _)) hb)
  replace hg : w.heap.size ≤ g := by simp only [World.size_alloc] at hg; omega
  have HK0 := Lib.hid hk
  clear hb hk
  go_wp2_with fail
  go_loopw [17] (fun i wr => ∃ k : Nat, k ≤ L.length ∧ i = .int .i64 k ∧ (∃ cs : Array Value, wr.heap[g]? = some (.cells cs 42 (0, 0)) ∧ cs.size = L.length * 4 ∧ (∀ i r, i < k → (setL L M)[i]? = some r → In4 cs (i * 4) r) ∧ (∀ i r, k ≤ i → M[i]? = some r → In4 cs (i * 4) r)) ∧ Below w.heap.size w wr) (fun i _ => L.length - (intOf i).toNat)
  case atStart =>
    obtain ⟨cs, hh, hs, hc⟩ := HK0.out.keep (balloc (Below.refl _ _))
    exact ⟨0, by omega, rfl, ⟨cs, hh, by rw [hs, HML.out], fun i r hi => absurd hi (by omega), fun i r _ hr => hc i r hr⟩, balloc HB0.out⟩
  case round =>
    obtain ⟨k, hk, rfl, ⟨cs, hh, hs, hc, hc'⟩, hB⟩ := hrel
    clear HK0 HB0 HM
    by_cases hlt : k < L.length
    · have hd : decide ((k : Int) < (L.length : Int)) = true := by simpa using hlt
      obtain ⟨b, off, rfl, hb, hps⟩ := (h.keep hB).cells (by omega)
      have hget : L[k]? = some L[k] := List.getElem?_eq_getElem hlt
      obtain ⟨c0, c1, c2, c3, c4, c5, c6, c7, c8⟩ := hps k _ hget
      generalize hx : L[k] = p at *
      have hkM : k < M.length := by rw [HML.out]; exact hlt
      have hgetM : M[k]? = some M[k] := List.getElem?_eq_getElem hkM
      obtain ⟨r0, r1, r2, r3⟩ := (hc' k _ (by omega) hgetM).cells hh
      generalize hy : M[k] = r at *
      have HR := Lib.hid (HMK.out r (List.mem_of_getElem? hgetM))
      have HP := Lib.hid (HOK.out p (List.mem_of_getElem? hget))
      have HG := Lib.hid (setL_get hget hgetM)
      have HH := Lib.hid hh
      have HS := Lib.hid hs
      have HC := Lib.hid hc
      have HC' := Lib.hid hc'
      have HBB := Lib.hid hB
      have hgl : g < wr.heap.size := (Array.getElem?_eq_some_iff.1 hh).1
      have hgn : ¬ g = wr.heap.size := by omega
      clear hget hx hgetM hy hh hs hc hc' hB hps
      go_wp2_with fail
      refine wp_region_grow 9 1 (· < 9) (by kernel_rfl) (by kernel_rfl) rfl ?_
      iterate 9 (refine wpG_step (fun K hK => ?_); apply Exists.intro; refine ⟨.inl ⟨rfl, fun w' hw' => ?_⟩, ?_⟩; (focus ((obtain ⟨hc, hf⟩ := bcell hw'.out); (have hcS := bcellS hw'.out); go_simp <;> first | rfl | (go_at_call 55; exact inParcel_v p r _ HP.out HR.out))); (go_simp; refine hK _ ?_; clear hK K))
      refine wpG_nil ?_
      refine wpK_tail (by kernel_rfl) (fun w2 hg2 => ?_)
      have hB2 : Below wr.heap.size wr w2 := bgrow (Below.drew (balloc (Below.refl _ _))) hg2
      replace HH := Lib.hid ((hB2.block _ hgl).trans HH.out)
      replace HBB := Lib.hid (HBB.out.trans (hB2.mono HBB.out.size))
      clear hg2 hB2 c0 c1 c2 c3 c4 c5 c6 c7 c8 r0 r1 r2 r3 hgl hgn
      have hsz : k * 4 + 4 ≤ cs.size := by rw [HS.out]; omega
      obtain ⟨y0, d0⟩ := there HH.out (i := k * 4) (by omega)
      obtain ⟨y1, d1⟩ := there HH.out (i := k * 4 + 1) (by omega)
      obtain ⟨y2, d2⟩ := there HH.out (i := k * 4 + 2) (by omega)
      obtain ⟨y3, d3⟩ := there HH.out (i := k * 4 + 3) (by omega)
      have f0 := frozenH HH.out (k * 4)
      have f1 := frozenH HH.out (k * 4 + 1)
      have f2 := frozenH HH.out (k * 4 + 2)
      have f3 := frozenH HH.out (k * 4 + 3)
      obtain ⟨S, hS⟩ : ∃ S, setP p r = S := ⟨_, rfl⟩
      rw [hS]
      replace HG : Hid ((setL L M)[k]? = some S) := Lib.hid (by rw [← hS]; exact HG.out)
      have E1 := Lib.hid (pput4 HH.out (k * 4) S)
      have E2 := Lib.hid (pput4b HBB.out hg (k * 4) (k * 4 + 1) (k * 4 + 2) (k * 4 + 3) (.int .i64 S.x) (.int .i64 S.y) (.int .i64 S.u) (.int .i64 S.v))
      clear hS HH HBB
      refine wpAny_one (i := 9) (by kernel_rfl) rfl rfl ?_
      go_simp
      refine wpAny_end (by kernel_rfl) ?_
      refine nopan_normal ?_
      go_wp2
      go_roundw
      case rel => exact ⟨k + 1, by omega, by go_num, ⟨_, E1.out, (writeAt_size _ _ _).trans HS.out, fun i q hi hq => by
        by_cases e : i = k
        · subst e
          obtain rfl : S = q := by have := HG.out; rw [this] at hq; exact Option.some.inj hq
          exact In4.write S hsz
        · exact (HC.out i q (by omega) hq).keep (.inl (by omega)), fun i q hi hq => (HC'.out i q (by omega) hq).keep (.inr (by omega))⟩, E2.out⟩
      case measure => simp [intOf]; omega
    · have hd : decide ((k : Int) < (L.length : Int)) = false := by simp; omega
      obtain rfl : k = L.length := by omega
      have HK := Lib.hid (show Blk4 wr g (setL L M) from ⟨cs, hh, by rw [hs, setL_len HML.out], fun i r hr => hc i r (by have := (List.getElem?_eq_some_iff.1 hr).1; rwa [setL_len HML.out] at this) hr⟩)
      have HBB := Lib.hid hB
      clear hh hs hc hc' hB
      go_wp2
      go_ret
      exact ⟨⟨_, rfl, hg, HK.out⟩, HBB.out⟩
end Go.Proofs.Ytjdjahckdgbkbab
end
section
namespace Go.Proofs.Ytjdjahckdgbkbab
open Go.RowKit
set_option linter.unusedVariables false
set_option maxHeartbeats 1000000
attribute [local go_sem] growUpon_value growUpon_skip growUpon_enter
theorem rvals_get : ∀ {M : List Rc} {i : Nat} {r : Rc}, M[i]? = some r → ∀ j, j < 4 → (rvals M)[i * 4 + j]? = (vals4 r)[j]?
  | [], i, r, h, _, _ => by simp at h
  | q :: t, 0, r, h, j, hj => by
    simp at h; subst h
    show (vals4 q ++ rvals t)[0 * 4 + j]? = _
    rw [List.getElem?_append_left (by simp [vals4]; omega)]; simp
  | q :: t, i + 1, r, h, j, hj => by
    show (vals4 q ++ rvals t)[(i + 1) * 4 + j]? = _
    rw [List.getElem?_append_right (by simp [vals4]; omega)]
    have := rvals_get (M := t) (i := i) (r := r) (by simpa using h) j hj
    rw [← this]; congr 1; simp [vals4]; omega
/-- the value reads as the list -/
def RV (w : World) (v : Value) (M : List Rc) : Prop := ∃ A c, v = .slice A M.length c ∧ (0 < M.length → ∃ b, A = some ⟨b, 0, none⟩ ∧ b < w.heap.size ∧ ∀ i r, M[i]? = some r → Cells4 w b (i * 4) r)
theorem Cells4.at {w w' : World} {b o : Nat} {r : Rc} (h : Cells4 w b o r) (hb : w'.heap[b]? = w.heap[b]?) : Cells4 w' b o r := by
  have e : ∀ i, w'.cell? ⟨b, i, none⟩ = w.cell? ⟨b, i, none⟩ := fun i => World.cell?_of_block hb
  obtain ⟨h0, h1, h2, h3⟩ := h
  exact ⟨(e _).trans h0, (e _).trans h1, (e _).trans h2, (e _).trans h3⟩
theorem RV.keep {w w' : World} {v : Value} {M : List Rc} (h : RV w v M) (hb : Below w.heap.size w w') : RV w' v M := by
  obtain ⟨A, c, e, h⟩ := h
  exact ⟨A, c, e, fun h0 => let ⟨b, e1, h1, h2⟩ := h h0; ⟨b, e1, Nat.lt_of_lt_of_le h1 hb.size, fun i r hr => (h2 i r hr).at (hb.block b h1)⟩⟩
theorem RV.nil (w : World) : RV w (.slice none 0 0) [] := ⟨none, 0, rfl, fun h => absurd h (by simp)⟩
theorem RV.own {w : World} {base n : Nat} {v : Value} {M : List Rc} {T : TypeId} (h : w.ownsRow base T 4 v n (rvals M)) (hn : n = M.length) : RV w v M := by
  subst hn
  have hl := h.lt
  have hc := fun g hg => h.cells (g := g) hg
  rcases h.2 with ⟨rfl, h0⟩ | ⟨g, cap, cur, rfl, _⟩
  · exact ⟨none, 0, by rw [h0], fun h => absurd h (by omega)⟩
  · refine ⟨_, cap, rfl, fun _ => ⟨g, rfl, (hl g rfl).2, fun i r hr => ?_⟩⟩
    have e : ∀ j, j < 4 → ∀ u, (vals4 r)[j]? = some u → w.cell? ⟨g, i * 4 + j, none⟩ = some u := fun j hj u hu => by
      have h1 := hc g rfl (i * 4 + j) u ((rvals_get hr j hj).trans hu)
      have hadd : (⟨g, 0, none⟩ : Addr).add (i * 4 + j) = ⟨g, i * 4 + j, none⟩ := by unfold Addr.add; split <;> simp_all
      rwa [hadd] at h1
    exact ⟨e 0 (by omega) _ rfl, e 1 (by omega) _ rfl, e 2 (by omega) _ rfl, e 3 (by omega) _ rfl⟩
theorem RV.blk {w : World} {g n : Nat} {M : List Rc} (h : Blk4 w g M) (hn : n = M.length) (m : Nat) : RV w (.slice (some ⟨g, 0, none⟩) n m) M := by
  subst hn
  obtain ⟨cs, hh, hs, hc⟩ := h
  exact ⟨_, m, rfl, fun _ => ⟨g, rfl, (Array.getElem?_eq_some_iff.1 hh).1, fun i r hr => (hc i r hr).cells hh⟩⟩
end Go.Proofs.Ytjdjahckdgbkbab
end
section
namespace Go.Proofs.Ytjdjahckdgbkbab
open Go.RowKit
set_option linter.unusedVariables false
set_option maxHeartbeats 1000000
attribute [local go_sem] growUpon_value growUpon_skip growUpon_enter
theorem own_in4 {w : World} {base n : Nat} {v : Value} {M : List Rc} {T : TypeId} (h : w.ownsRow base T 4 v n (rvals M)) (hn : n = M.length) :
    (v = .slice none 0 0 ∧ M = []) ∨ ∃ g cap, ∃ cs : Array Value, v = .slice (some ⟨g, 0, none⟩) n cap ∧ base ≤ g ∧ n ≤ cap ∧ w.heap[g]? = some (.cells cs T (0, 0)) ∧ cs.size = cap * 4 ∧ ∀ i r, M[i]? = some r → In4 cs (i * 4) r := by
  rcases h.2 with ⟨rfl, h0⟩ | ⟨g, cap, cur, rfl, hb, hg, hc, _, hs, ht⟩
  · exact .inl ⟨rfl, List.length_eq_zero_iff.1 (by omega)⟩
  · refine .inr ⟨g, cap, cur, rfl, hb, hc, hg, hs, fun i r hr j hj => ?_⟩
    rw [← rvals_get hr j hj, ← ht, List.getElem?_take]
    have : i < M.length := (List.getElem?_eq_some_iff.1 hr).1
    rw [if_pos (by omega)]; simp
set_option maxRecDepth 100000 in
theorem packed_v (A : Option Addr) (c : Nat) (L : List Pk) (z0 : Rc) (w : World) (h : PV w A L) (hcap : L.length ≤ c) (hL : vpsB L = true) (hz0 : z0.ok = true) (M : List Rc) (Z : Rc) (hM : parcM L z0 = (M, Z)) :
    Calls Try.prog 35 #[.slice A L.length c, .agg #[.int .i64 (z0.x), .int .i64 (z0.y), .int .i64 (z0.u), .int .i64 (z0.v)]] w fun e w' => (∃ v, e = .returned v ∧ RV w' v (setL L M)) ∧ Below w.heap.size w w' := by
  obtain ⟨hok, h7⟩ := vpsB_iff.1 hL
  have hML : M.length = L.length := by have := parcM_len (L := L) (z := z0); rw [hM] at this; exact this
  have hMok : ∀ r ∈ M, r.ok = true := by have := parcM_ok (L := L) (z := z0) hok hz0; rw [hM] at this; exact this
  have HOK := Lib.hid hok
  have HML := Lib.hid hML
  have HMK := Lib.hid hMok
  have HM := Lib.hid hM
  clear hok hML hM hMok
  go_enter Try.func35, Try.ntmps35
  go_wp2_with fail
  refine (parcels_v A c L z0 _ (h.keep (balloc (Below.refl _ _))) hcap hL hz0 M Z HM.out).mono ?_
  rintro e w1 ⟨⟨v, rfl, ho⟩, hb⟩
  have HB0 := Lib.hid (bkeep2 (balloc (Below.refl _ _)) hb)
  clear hb
  rcases own_in4 ho rfl with ⟨rfl, hM0⟩ | ⟨g, cap, cs0, rfl, hg, hnc, hh0, hs0, hc0⟩
  · have hL0 : setL L M = [] := by rw [hM0]; simp [setL]
    have hlz : M.length = 0 := by rw [hM0]; rfl
    have HL0 := Lib.hid hL0
    clear hM0 ho hL0
    go_wp2_with fail
    go_loopw [7] (fun i wr => i = .int .i64 0 ∧ Below w.heap.size w wr) (fun i _ => 0)
    case atStart => exact ⟨rfl, balloc HB0.out⟩
    case round =>
      obtain ⟨rfl, hB⟩ := hrel
      have HBB := Lib.hid hB
      clear hB
      go_wp2
      go_ret
      exact ⟨⟨_, rfl, by rw [HL0.out]; exact RV.nil _⟩, HBB.out⟩
  · replace hg : w.heap.size ≤ g := by simp only [World.size_alloc] at hg; omega
    have HK0 := Lib.hid (And.intro hh0 (And.intro hs0 hc0))
    have hML : M.length = L.length := HML.out
    clear hh0 hs0 hc0 ho
    rw [hML] at hnc
    rw [hML]
    go_wp2_with fail
    go_loopw [7] (fun i wr => ∃ k : Nat, k ≤ L.length ∧ i = .int .i64 k ∧ (∃ cs : Array Value, wr.heap[g]? = some (.cells cs 42 (0, 0)) ∧ cs.size = cap * 4 ∧ (∀ i r, i < k → (setL L M)[i]? = some r → In4 cs (i * 4) r) ∧ (∀ i r, k ≤ i → M[i]? = some r → In4 cs (i * 4) r)) ∧ Below w.heap.size w wr) (fun i _ => L.length - (intOf i).toNat)
    case atStart =>
      obtain ⟨hh, hs, hc⟩ := HK0.out
      have hgw : g < w1.heap.size := (Array.getElem?_eq_some_iff.1 hh).1
      exact ⟨0, by omega, rfl, ⟨cs0, (Below.heap_alloc _ _ _ hgw).trans hh, hs, fun i r hi => absurd hi (by omega), fun i r _ hr => hc i r hr⟩, balloc HB0.out⟩
    case round =>
      obtain ⟨k, hk, rfl, ⟨cs, hh, hs, hc, hc'⟩, hB⟩ := hrel
      clear HK0 HB0 HM
      by_cases hlt : k < L.length
      · have hd : decide ((k : Int) < (L.length : Int)) = true := by simpa using hlt
        obtain ⟨b, off, rfl, hb, hps⟩ := (h.keep hB).cells (by omega)
        have hget : L[k]? = some L[k] := List.getElem?_eq_getElem hlt
        obtain ⟨c0, c1, c2, c3, c4, c5, c6, c7, c8⟩ := hps k _ hget
        generalize hx : L[k] = p at *
        have hkM : k < M.length := by rw [HML.out]; exact hlt
        have hgetM : M[k]? = some M[k] := List.getElem?_eq_getElem hkM
        obtain ⟨r0, r1, r2, r3⟩ := (hc' k _ (by omega) hgetM).cells hh
        generalize hy : M[k] = r at *
        have HR := Lib.hid (HMK.out r (List.mem_of_getElem? hgetM))
        have HP := Lib.hid (HOK.out p (List.mem_of_getElem? hget))
        have HG := Lib.hid (setL_get hget hgetM)
        have HH := Lib.hid hh
        have HS := Lib.hid hs
        have HC := Lib.hid hc
        have HC' := Lib.hid hc'
        have HBB := Lib.hid hB
        have hgl : g < wr.heap.size := (Array.getElem?_eq_some_iff.1 hh).1
        have hgn : ¬ g = wr.heap.size := by omega
        clear hget hx hgetM hy hh hs hc hc' hB hps
        go_wp2_with fail
        refine wp_region_grow 12 1 (· < 12) (by kernel_rfl) (by kernel_rfl) rfl ?_
        iterate 12 (refine wpG_step (fun K hK => ?_); apply Exists.intro; refine ⟨.inl ⟨rfl, fun w' hw' => ?_⟩, ?_⟩; (focus ((obtain ⟨hc, hf⟩ := bcell hw'.out); (have hcS := bcellS hw'.out); go_simp <;> first | rfl | (go_at_call 53; exact settled_v p r _ HP.out HR.out))); (go_simp; refine hK _ ?_; clear hK K))
        refine wpG_nil ?_
        refine wpK_tail (by kernel_rfl) (fun w2 hg2 => ?_)
        have hB2 : Below wr.heap.size wr w2 := bgrow (Below.drew (Below.refl _ _)) hg2
        replace HH := Lib.hid ((hB2.block _ hgl).trans HH.out)
        replace HBB := Lib.hid (HBB.out.trans (hB2.mono HBB.out.size))
        clear hg2 hB2 c0 c1 c2 c3 c4 c5 c6 c7 c8 r0 r1 r2 r3 hgl hgn
        have hsz : k * 4 + 4 ≤ cs.size := by rw [HS.out]; omega
        obtain ⟨y0, d0⟩ := there HH.out (i := k * 4) (by omega)
        obtain ⟨y1, d1⟩ := there HH.out (i := k * 4 + 1) (by omega)
        obtain ⟨y2, d2⟩ := there HH.out (i := k * 4 + 2) (by omega)
        obtain ⟨y3, d3⟩ := there HH.out (i := k * 4 + 3) (by omega)
        have f0 := frozenH HH.out (k * 4)
        have f1 := frozenH HH.out (k * 4 + 1)
        have f2 := frozenH HH.out (k * 4 + 2)
        have f3 := frozenH HH.out (k * 4 + 3)
        obtain ⟨S, hS⟩ : ∃ S, setP p r = S := ⟨_, rfl⟩
        rw [hS]
        replace HG : Hid ((setL L M)[k]? = some S) := Lib.hid (by rw [← hS]; exact HG.out)
        have E1 := Lib.hid (pput4 HH.out (k * 4) S)
        have E2 := Lib.hid (pput4b HBB.out hg (k * 4) (k * 4 + 1) (k * 4 + 2) (k * 4 + 3) (.int .i64 S.x) (.int .i64 S.y) (.int .i64 S.u) (.int .i64 S.v))
        clear hS HH HBB
        refine wpAny_one (i := 12) (by kernel_rfl) rfl rfl ?_
        go_simp
        refine wpAny_end (by kernel_rfl) ?_
        refine nopan_normal ?_
        go_wp2
        go_roundw
        case rel => exact ⟨k + 1, by omega, by go_num, ⟨_, E1.out, (writeAt_size _ _ _).trans HS.out, fun i q hi hq => by
          by_cases e : i = k
          · subst e
            obtain rfl : S = q := by have := HG.out; rw [this] at hq; exact Option.some.inj hq
            exact In4.write S hsz
          · exact (HC.out i q (by omega) hq).keep (.inl (by omega)), fun i q hi hq => (HC'.out i q (by omega) hq).keep (.inr (by omega))⟩, E2.out⟩
        case measure => simp [intOf]; omega
      · have hd : decide ((k : Int) < (L.length : Int)) = false := by simp; omega
        obtain rfl : k = L.length := by omega
        have HK := Lib.hid (show RV wr (.slice (some ⟨g, 0, none⟩) L.length cap) (setL L M) from ⟨_, cap, by rw [setL_len HML.out], fun _ => ⟨g, rfl, (Array.getElem?_eq_some_iff.1 hh).1, fun i r hr => (hc i r (by have := (List.getElem?_eq_some_iff.1 hr).1; rwa [setL_len HML.out] at this) hr).cells hh⟩⟩)
        have HBB := Lib.hid hB
        clear hh hs hc hc' hB
        go_wp2
        go_ret
        exact ⟨⟨_, rfl, HK.out⟩, HBB.out⟩
end Go.Proofs.Ytjdjahckdgbkbab
end
