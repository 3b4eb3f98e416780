import Derived.Test.YtjdjahckdgbkbacQ08
import Derived.OwnWalk
section
namespace Go.Proofs.Ytjdjahckdgbkbac
open Go.RowKit
set_option linter.unusedVariables false
set_option maxHeartbeats 1000000
attribute [local go_sem] growUpon_value growUpon_skip growUpon_enter
def cellB (n m : Int) (c : Ce) : Bool := runB c.co c.mc n && (runB c.ro c.mr m && (rng c.cw 0 30 && (rng c.ch 0 30 && (rng c.sk 0 15 && (rng c.px 0 10 && rng c.py 0 10)))))
def gridB (L1 L2 : List Ln) (L3 : List Ce) : Bool := linesB L1 && (linesB L2 && (decide ((L3.length : Int) ≤ 8) && L3.all (cellB L1.length L2.length)))
set_option maxRecDepth 100000 in
theorem validCell_v (c : Ce) (n m : Int) (b : Bool) (w : World) (hn : 1 ≤ n) (hn5 : n ≤ 5) (hm : 1 ≤ m) (hm5 : m ≤ 5) (hb : cellB n m c = b) : Calls Try.prog 52 #[.agg #[.int .i64 c.co, .int .i64 c.ro, .int .i64 c.mc, .int .i64 c.mr, .int .i64 c.cw, .int .i64 c.ch, .int .i64 c.sk, .int .i64 c.px, .int .i64 c.py], .int .i64 n, .int .i64 m] w fun e w' => e = .returned (.bool b) ∧ Below w.heap.size w w' := by
  cases h1 : runB c.co c.mc n
  · have hbf : false = b := by rw [← hb]; simp [cellB, h1]
    subst hbf
    go_enter Try.func52, Try.ntmps52
    go_wp2_with fail
    with_reducible refine (validRun_v _ _ n false _ hn hn5 h1).mono ?_
    rintro e w1 ⟨rfl, rfl⟩
    go_wp2
    go_ret
    exact ⟨rfl, (by repeat (first | with_reducible exact Below.refl _ _ | with_reducible assumption | with_reducible refine balloc ?_ | (with_reducible refine bset ?_ ?_; rotate_left; ((try dsimp only); omega)) | refine bkeep2 ?_ (by assumption) | with_reducible refine Below.drew ?_))⟩
  cases h2 : runB c.ro c.mr m
  · have hbf : false = b := by rw [← hb]; simp [cellB, h2]
    subst hbf
    go_enter Try.func52, Try.ntmps52
    go_wp2_with fail
    with_reducible refine (validRun_v _ _ n true _ hn hn5 h1).mono ?_
    rintro e w1 ⟨rfl, rfl⟩
    go_wp2_with fail
    with_reducible refine (validRun_v _ _ m false _ hm hm5 h2).mono ?_
    rintro e w1 ⟨rfl, rfl⟩
    go_wp2
    go_ret
    exact ⟨rfl, (by repeat (first | with_reducible exact Below.refl _ _ | with_reducible assumption | with_reducible refine balloc ?_ | (with_reducible refine bset ?_ ?_; rotate_left; ((try dsimp only); omega)) | refine bkeep2 ?_ (by assumption) | with_reducible refine Below.drew ?_))⟩
  cases h3 : (rng c.cw 0 30 && rng c.ch 0 30)
  · have hbf : false = b := by rw [← hb]; cases u : rng c.cw 0 30 <;> cases v : rng c.ch 0 30 <;> simp [cellB, u, v] at h3 ⊢
    subst hbf
    go_enter Try.func52, Try.ntmps52
    go_wp2_with fail
    with_reducible refine (validRun_v _ _ n true _ hn hn5 h1).mono ?_
    rintro e w1 ⟨rfl, rfl⟩
    go_wp2_with fail
    with_reducible refine (validRun_v _ _ m true _ hm hm5 h2).mono ?_
    rintro e w1 ⟨rfl, rfl⟩
    go_wp2_with fail
    with_reducible refine (validWish_w _ _ false _ h3).mono ?_
    rintro e w1 ⟨rfl, rfl⟩
    go_wp2
    go_ret
    exact ⟨rfl, (by repeat (first | with_reducible exact Below.refl _ _ | with_reducible assumption | with_reducible refine balloc ?_ | (with_reducible refine bset ?_ ?_; rotate_left; ((try dsimp only); omega)) | refine bkeep2 ?_ (by assumption) | with_reducible refine Below.drew ?_))⟩
  obtain ⟨h3a, h3b⟩ : rng c.cw 0 30 = true ∧ rng c.ch 0 30 = true := by simpa using h3
  cases h4 : rng c.sk 0 15
  · have hbf : false = b := by rw [← hb]; simp [cellB, h4, h3a, h3b]
    subst hbf
    go_enter Try.func52, Try.ntmps52
    go_wp2_with fail
    with_reducible refine (validRun_v _ _ n true _ hn hn5 h1).mono ?_
    rintro e w1 ⟨rfl, rfl⟩
    go_wp2_with fail
    with_reducible refine (validRun_v _ _ m true _ hm hm5 h2).mono ?_
    rintro e w1 ⟨rfl, rfl⟩
    go_wp2_with fail
    with_reducible refine (validWish_w _ _ true _ h3).mono ?_
    rintro e w1 ⟨rfl, rfl⟩
    go_wp2_with fail
    with_reducible refine (within_w _ 0 15 false _ h4).mono ?_
    rintro e w1 ⟨rfl, rfl⟩
    go_wp2
    go_ret
    exact ⟨rfl, (by repeat (first | with_reducible exact Below.refl _ _ | with_reducible assumption | with_reducible refine balloc ?_ | (with_reducible refine bset ?_ ?_; rotate_left; ((try dsimp only); omega)) | refine bkeep2 ?_ (by assumption) | with_reducible refine Below.drew ?_))⟩
  cases h5 : rng c.px 0 10
  · have hbf : false = b := by rw [← hb]; simp [cellB, h5, h3a, h3b]
    subst hbf
    go_enter Try.func52, Try.ntmps52
    go_wp2_with fail
    with_reducible refine (validRun_v _ _ n true _ hn hn5 h1).mono ?_
    rintro e w1 ⟨rfl, rfl⟩
    go_wp2_with fail
    with_reducible refine (validRun_v _ _ m true _ hm hm5 h2).mono ?_
    rintro e w1 ⟨rfl, rfl⟩
    go_wp2_with fail
    with_reducible refine (validWish_w _ _ true _ h3).mono ?_
    rintro e w1 ⟨rfl, rfl⟩
    go_wp2_with fail
    with_reducible refine (within_w _ 0 15 true _ h4).mono ?_
    rintro e w1 ⟨rfl, rfl⟩
    go_wp2_with fail
    with_reducible refine (within_w _ 0 10 false _ h5).mono ?_
    rintro e w1 ⟨rfl, rfl⟩
    go_wp2
    go_ret
    exact ⟨rfl, (by repeat (first | with_reducible exact Below.refl _ _ | with_reducible assumption | with_reducible refine balloc ?_ | (with_reducible refine bset ?_ ?_; rotate_left; ((try dsimp only); omega)) | refine bkeep2 ?_ (by assumption) | with_reducible refine Below.drew ?_))⟩
  have h6 : rng c.py 0 10 = b := by rw [← hb]; simp [cellB, h1, h2, h4, h5, h3a, h3b]
  cases b
  all_goals
    go_enter Try.func52, Try.ntmps52
    go_wp2_with fail
    with_reducible refine (validRun_v _ _ n true _ hn hn5 h1).mono ?_
    rintro e w1 ⟨rfl, rfl⟩
    go_wp2_with fail
    with_reducible refine (validRun_v _ _ m true _ hm hm5 h2).mono ?_
    rintro e w1 ⟨rfl, rfl⟩
    go_wp2_with fail
    with_reducible refine (validWish_w _ _ true _ h3).mono ?_
    rintro e w1 ⟨rfl, rfl⟩
    go_wp2_with fail
    with_reducible refine (within_w _ 0 15 true _ h4).mono ?_
    rintro e w1 ⟨rfl, rfl⟩
    go_wp2_with fail
    with_reducible refine (within_w _ 0 10 true _ h5).mono ?_
    rintro e w1 ⟨rfl, rfl⟩
    go_wp2_with fail
    with_reducible refine (within_w _ 0 10 _ _ h6).mono ?_
    rintro e w1 ⟨rfl, rfl⟩
    go_wp2
    go_ret
    exact ⟨rfl, (by repeat (first | with_reducible exact Below.refl _ _ | with_reducible assumption | with_reducible refine balloc ?_ | (with_reducible refine bset ?_ ?_; rotate_left; ((try dsimp only); omega)) | refine bkeep2 ?_ (by assumption) | with_reducible refine Below.drew ?_))⟩
set_option maxRecDepth 100000 in
theorem cellF_v (c : Ce) (n m n1 n2 n3 : Nat) (c1 c2 c3 : Nat) (A1 A2 A3 : Option Addr) (b : Bool) (bx : Nat) (w : World) (hn : 1 ≤ n1) (hn5 : n1 ≤ 5) (hm : 1 ≤ n2) (hm5 : n2 ≤ 5) (hc1 : w.cell? ⟨bx, 0, none⟩ = some (.slice A1 n1 c1)) (hc2 : w.cell? ⟨bx, 1, none⟩ = some (.slice A2 n2 c2)) (hc3 : w.cell? ⟨bx, 2, none⟩ = some (.slice A3 n3 c3)) (hbx : bx < w.heap.size) (hb : cellB n1 n2 c = b) :
    Calls Try.prog 51 #[.agg #[.int .i64 c.co, .int .i64 c.ro, .int .i64 c.mc, .int .i64 c.mr, .int .i64 c.cw, .int .i64 c.ch, .int .i64 c.sk, .int .i64 c.px, .int .i64 c.py], .pointer (some ⟨bx, 0, none⟩)] w fun e w' => e = .returned (.bool b) ∧ Below w.heap.size w w' := by
  have hne : ¬ bx = w.heap.size := by omega
  go_enter Try.func51, Try.ntmps51
  go_wp2_with fail
  refine (validCell_v c n1 n2 b _ (by omega) (by omega) (by omega) (by omega) hb).mono ?_
  rintro e w1 ⟨rfl, hb1⟩
  have HB := Lib.hid (bkeep2 (balloc (Below.refl w.heap.size w)) hb1)
  clear hb1
  cases b
  all_goals
    go_wp2
    go_ret
    exact ⟨rfl, HB.out⟩
set_option maxRecDepth 100000 in
theorem allOfCe_v (A : Option Addr) (cc : Nat) (L : List Ce) (n1 n2 n3 : Nat) (c1 c2 c3 : Nat) (A1 A2 A3 : Option Addr) (b : Bool) (bx : Nat) (w : World) (h : CeV w A L) (hL : L.length ≤ 1048576) (hn : 1 ≤ n1) (hn5 : n1 ≤ 5) (hm : 1 ≤ n2) (hm5 : n2 ≤ 5) (hc : w.heap[bx]? = some (.cells #[.slice A1 n1 c1, .slice A2 n2 c2, .slice A3 n3 c3] 45 (0, 0))) (hb0 : L.all (cellB n1 n2) = b) :
    Calls Try.prog 54 #[.slice A L.length cc, .func (.func 51) #[] #[.pointer (some ⟨bx, 0, none⟩)]] w fun e w' => e = .returned (.bool b) ∧ Below w.heap.size w w' := by
  have HB0 := Lib.hid hb0
  have HC0 := Lib.hid hc
  clear hb0 hc
  go_enter Try.func54, Try.ntmps54
  go_wp2_with fail
  go_loopw [9] (fun i wr => ∃ k : Nat, k ≤ L.length ∧ i = .int .i64 k ∧ (L.take k).all (cellB n1 n2) = true ∧ Below w.heap.size w wr) (fun i _ => L.length - (intOf i).toNat)
  case atStart => exact ⟨0, by omega, rfl, rfl, Below.refl _ _⟩
  case round =>
    obtain ⟨k, hk, rfl, hok, hB⟩ := hrel
    by_cases hlt : k < L.length
    · have hd : decide ((k : Int) < (L.length : Int)) = true := by simpa using hlt
      obtain ⟨b', off, rfl, hb', hp⟩ := (h.keep hB).cells (by omega)
      have hget : L[k]? = some L[k] := List.getElem?_eq_getElem hlt
      obtain ⟨g0, g1, g2, g3, g4, g5, g6, g7, g8⟩ := hp k _ hget
      generalize hx : L[k] = p at *
      have HG := Lib.hid hget
      have HX := Lib.hid hx
      have HO := Lib.hid hok
      have HBB := Lib.hid hB
      have HBA := Lib.hid (balloc (o := (.cells #[.int .i64 p.co, .int .i64 p.ro, .int .i64 p.mc, .int .i64 p.mr, .int .i64 p.cw, .int .i64 p.ch, .int .i64 p.sk, .int .i64 p.px, .int .i64 p.py] 52 (0, 0))) hB)
      have hbx := ltS HC0.out
      have HH := Lib.hid ((HBA.out.block bx hbx).trans HC0.out)
      have hlx := Nat.lt_of_lt_of_le hbx HBA.out.size
      clear hget hx hok hB hp
      cases hv : cellB n1 n2 p
      all_goals
        have Hv := Lib.hid hv
        clear hv
        go_wp2_with fail
        first | (with_reducible refine (cellF_v p 0 0 n1 n2 n3 c1 c2 c3 A1 A2 A3 false bx _ hn hn5 hm hm5 (cellS HH.out 0) (cellS HH.out 1) (cellS HH.out 2) hlx Hv.out).mono ?_) | (with_reducible refine (cellF_v p 0 0 n1 n2 n3 c1 c2 c3 A1 A2 A3 true bx _ hn hn5 hm hm5 (cellS HH.out 0) (cellS HH.out 1) (cellS HH.out 2) hlx Hv.out).mono ?_)
        rintro e w1 ⟨rfl, hb1⟩
        replace HBB := Lib.hid (bkeep2 (balloc HBB.out) hb1)
        clear hb1 g0 g1 g2 g3 g4 g5 g6 g7 g8 HBA HH
        go_wp2
      · go_ret
        exact ⟨ret_bool (by rw [← HB0.out]; exact (all_falseG HG.out Hv.out).symm), HBB.out⟩
      · go_roundw
        case rel => exact ⟨k + 1, by omega, by go_num, by rw [all_snocG HG.out, HO.out, Hv.out]; rfl, HBB.out⟩
        case measure => simp [intOf]; omega
    · have hd : decide ((k : Int) < (L.length : Int)) = false := decide_eq_false (by omega)
      have he : L.take k = L := List.take_of_length_le (by omega)
      rw [he] at hok
      have HO := Lib.hid hok
      have HBB := Lib.hid hB
      clear hok hB he
      go_wp2
      go_ret
      exact ⟨ret_bool (by rw [← HB0.out, HO.out]), HBB.out⟩
theorem linesB_len' {L : List Ln} (h : linesB L = true) : 1 ≤ L.length ∧ L.length ≤ 5 := by
  simp only [linesB, Bool.and_eq_true, rng_iff] at h
  omega
set_option maxRecDepth 100000 in
theorem validGrid_v (A1 : Option Addr) (c1 : Nat) (L1 : List Ln) (A2 : Option Addr) (c2 : Nat) (L2 : List Ln) (A3 : Option Addr) (c3 : Nat) (L3 : List Ce) (b : Bool) (w : World) (h1 : LnV w A1 L1) (h2 : LnV w A2 L2) (h3 : CeV w A3 L3) (k1 : L1.length ≤ 1048576) (k2 : L2.length ≤ 1048576) (k3 : L3.length ≤ 1048576) (hb : gridB L1 L2 L3 = b) :
    Calls Try.prog 21 #[.agg #[.slice A1 L1.length c1, .slice A2 L2.length c2, .slice A3 L3.length c3]] w fun e w' => e = .returned (.bool b) ∧ Below w.heap.size w w' := by
  have hB0 : Below w.heap.size w (w.alloc (.cells #[.slice A1 L1.length c1, .slice A2 L2.length c2, .slice A3 L3.length c3] 45 (0, 0))) := balloc (Below.refl _ _)
  have HX := Lib.hid (newS w (.cells #[.slice A1 L1.length c1, .slice A2 L2.length c2, .slice A3 L3.length c3] 45 (0, 0)))
  have HV1 := Lib.hid (h1.keep hB0)
  have HV2 := Lib.hid (h2.keep hB0)
  have HV3 := Lib.hid (h3.keep hB0)
  have HB := Lib.hid hB0
  clear hB0 h1 h2 h3
  cases g1 : linesB L1
  · have hbf : false = b := by rw [← hb]; simp [gridB, g1]
    subst hbf
    go_enter Try.func21, Try.ntmps21
    go_wp2_with fail
    with_reducible refine (validLines_v A1 c1 L1 false _ HV1.out k1 g1).mono ?_
    rintro e w1 ⟨rfl, hb1⟩
    replace HB := Lib.hid (bkeep2 HB.out hb1)
    clear hb1
    go_wp2
    go_ret
    exact ⟨rfl, HB.out⟩
  cases g2 : linesB L2
  · have hbf : false = b := by rw [← hb]; simp [gridB, g1, g2]
    subst hbf
    go_enter Try.func21, Try.ntmps21
    go_wp2_with fail
    with_reducible refine (validLines_v A1 c1 L1 true _ HV1.out k1 g1).mono ?_
    rintro e w1 ⟨rfl, hb1⟩
    replace HB := Lib.hid (bkeep2 HB.out hb1)
    replace HX := Lib.hid ((hb1.block _ (ltS HX.out)).trans HX.out)
    replace HV2 := Lib.hid (HV2.out.keep hb1)
    clear hb1
    have d0 := cellS HX.out 0
    have d1 := cellS HX.out 1
    have d2 := cellS HX.out 2
    go_wp2_with fail
    with_reducible refine (validLines_v A2 c2 L2 false _ HV2.out k2 g2).mono ?_
    rintro e w2 ⟨rfl, hb1⟩
    replace HB := Lib.hid (bkeep2 HB.out hb1)
    clear hb1 d0 d1 d2
    go_wp2
    go_ret
    exact ⟨rfl, HB.out⟩
  obtain ⟨n1, n1'⟩ := linesB_len' g1
  obtain ⟨n2, n2'⟩ := linesB_len' g2
  by_cases g3 : (L3.length : Int) ≤ 8
  · have hd : decide ((L3.length : Int) ≤ 8) = true := by simpa using g3
    have g4 : L3.all (cellB L1.length L2.length) = b := by rw [← hb]; simp [gridB, g1, g2, hd]
    cases b
    all_goals
      go_enter Try.func21, Try.ntmps21
      go_wp2_with fail
      with_reducible refine (validLines_v A1 c1 L1 true _ HV1.out k1 g1).mono ?_
      rintro e w1 ⟨rfl, hb1⟩
      replace HB := Lib.hid (bkeep2 HB.out hb1)
      replace HX := Lib.hid ((hb1.block _ (ltS HX.out)).trans HX.out)
      replace HV2 := Lib.hid (HV2.out.keep hb1)
      replace HV3 := Lib.hid (HV3.out.keep hb1)
      clear hb1
      have d0 := cellS HX.out 0
      have d1 := cellS HX.out 1
      have d2 := cellS HX.out 2
      go_wp2_with fail
      with_reducible refine (validLines_v A2 c2 L2 true _ HV2.out k2 g2).mono ?_
      rintro e w2 ⟨rfl, hb1⟩
      replace HB := Lib.hid (bkeep2 HB.out hb1)
      replace HX := Lib.hid ((hb1.block _ (ltS HX.out)).trans HX.out)
      replace HV3 := Lib.hid (HV3.out.keep hb1)
      clear hb1 d0 d1 d2
      have d0 := cellS HX.out 0
      have d1 := cellS HX.out 1
      have d2 := cellS HX.out 2
      go_wp2_with fail
      with_reducible refine (allOfCe_v A3 c3 L3 L1.length L2.length L3.length c1 c2 c3 A1 A2 A3 _ w.heap.size _ HV3.out k3 n1 n1' n2 n2' HX.out g4).mono ?_
      rintro e w3 ⟨rfl, hb1⟩
      replace HB := Lib.hid (bkeep2 HB.out hb1)
      clear hb1 d0 d1 d2
      go_wp2
      go_ret
      exact ⟨rfl, HB.out⟩
  · have hd : decide ((L3.length : Int) ≤ 8) = false := decide_eq_false g3
    have hbf : false = b := by rw [← hb]; simp [gridB, g1, g2, hd]
    subst hbf
    go_enter Try.func21, Try.ntmps21
    go_wp2_with fail
    with_reducible refine (validLines_v A1 c1 L1 true _ HV1.out k1 g1).mono ?_
    rintro e w1 ⟨rfl, hb1⟩
    replace HB := Lib.hid (bkeep2 HB.out hb1)
    replace HX := Lib.hid ((hb1.block _ (ltS HX.out)).trans HX.out)
    replace HV2 := Lib.hid (HV2.out.keep hb1)
    clear hb1
    have d0 := cellS HX.out 0
    have d1 := cellS HX.out 1
    have d2 := cellS HX.out 2
    go_wp2_with fail
    with_reducible refine (validLines_v A2 c2 L2 true _ HV2.out k2 g2).mono ?_
    rintro e w2 ⟨rfl, hb1⟩
    replace HB := Lib.hid (bkeep2 HB.out hb1)
    replace HX := Lib.hid ((hb1.block _ (ltS HX.out)).trans HX.out)
    clear hb1 d0 d1 d2
    have d0 := cellS HX.out 0
    have d1 := cellS HX.out 1
    have d2 := cellS HX.out 2
    go_wp2
    go_ret
    exact ⟨rfl, HB.out⟩
set_option maxRecDepth 100000 in
theorem svalidCell_v (c : Ce) (n1 n2 n3 c1 c2 c3 : Nat) (A1 A2 A3 : Option Addr) (b : Bool) (w : World) (hn : n1 ≤ 1048576) (hm : n2 ≤ 1048576) (hb : cellB n1 n2 c = b) : Calls Try.prog 68 #[.agg #[.slice A1 n1 c1, .slice A2 n2 c2, .slice A3 n3 c3], .agg #[.int .i64 c.co, .int .i64 c.ro, .int .i64 c.mc, .int .i64 c.mr, .int .i64 c.cw, .int .i64 c.ch, .int .i64 c.sk, .int .i64 c.px, .int .i64 c.py]] w fun e w' => e = .returned (.bool b) ∧ Below w.heap.size w w' := by
  cases h1 : rng c.co 0 ((n1 : Int) - 1)
  · have hbf : false = b := by rw [← hb]; simp [cellB, runB, h1]
    subst hbf
    go_enter Try.func68, Try.ntmps68
    go_wp2_with fail
    with_reducible refine (inRange_w _ 0 ((n1 : Int) - 1) false _ h1).mono ?_
    rintro e w1 ⟨rfl, rfl⟩
    go_wp2
    go_ret
    exact ⟨rfl, (by repeat (first | with_reducible exact Below.refl _ _ | with_reducible assumption | with_reducible refine balloc ?_ | (with_reducible refine bset ?_ ?_; rotate_left; ((try dsimp only); omega)) | refine bkeep2 ?_ (by assumption) | with_reducible refine Below.drew ?_))⟩
  have ha1 := rng_iff.1 h1
  cases h2 : rng c.ro 0 ((n2 : Int) - 1)
  · have hbf : false = b := by rw [← hb]; simp [cellB, runB, h2]
    subst hbf
    go_enter Try.func68, Try.ntmps68
    go_wp2_with fail
    with_reducible refine (inRange_w _ 0 ((n1 : Int) - 1) true _ h1).mono ?_
    rintro e w1 ⟨rfl, rfl⟩
    go_wp2_with fail
    with_reducible refine (inRange_w _ 0 ((n2 : Int) - 1) false _ h2).mono ?_
    rintro e w1 ⟨rfl, rfl⟩
    go_wp2
    go_ret
    exact ⟨rfl, (by repeat (first | with_reducible exact Below.refl _ _ | with_reducible assumption | with_reducible refine balloc ?_ | (with_reducible refine bset ?_ ?_; rotate_left; ((try dsimp only); omega)) | refine bkeep2 ?_ (by assumption) | with_reducible refine Below.drew ?_))⟩
  have ha2 := rng_iff.1 h2
  cases h3 : rng c.mc 1 ((n1 : Int) - c.co)
  · have hbf : false = b := by rw [← hb]; simp [cellB, runB, h3]
    subst hbf
    go_enter Try.func68, Try.ntmps68
    go_wp2_with fail
    with_reducible refine (inRange_w _ 0 ((n1 : Int) - 1) true _ h1).mono ?_
    rintro e w1 ⟨rfl, rfl⟩
    go_wp2_with fail
    with_reducible refine (inRange_w _ 0 ((n2 : Int) - 1) true _ h2).mono ?_
    rintro e w1 ⟨rfl, rfl⟩
    go_wp2_with fail
    with_reducible refine (inRange_w _ 1 ((n1 : Int) - c.co) false _ h3).mono ?_
    rintro e w1 ⟨rfl, rfl⟩
    go_wp2
    go_ret
    exact ⟨rfl, (by repeat (first | with_reducible exact Below.refl _ _ | with_reducible assumption | with_reducible refine balloc ?_ | (with_reducible refine bset ?_ ?_; rotate_left; ((try dsimp only); omega)) | refine bkeep2 ?_ (by assumption) | with_reducible refine Below.drew ?_))⟩
  cases h4 : rng c.mr 1 ((n2 : Int) - c.ro)
  · have hbf : false = b := by rw [← hb]; simp [cellB, runB, h4]
    subst hbf
    go_enter Try.func68, Try.ntmps68
    go_wp2_with fail
    with_reducible refine (inRange_w _ 0 ((n1 : Int) - 1) true _ h1).mono ?_
    rintro e w1 ⟨rfl, rfl⟩
    go_wp2_with fail
    with_reducible refine (inRange_w _ 0 ((n2 : Int) - 1) true _ h2).mono ?_
    rintro e w1 ⟨rfl, rfl⟩
    go_wp2_with fail
    with_reducible refine (inRange_w _ 1 ((n1 : Int) - c.co) true _ h3).mono ?_
    rintro e w1 ⟨rfl, rfl⟩
    go_wp2_with fail
    with_reducible refine (inRange_w _ 1 ((n2 : Int) - c.ro) false _ h4).mono ?_
    rintro e w1 ⟨rfl, rfl⟩
    go_wp2
    go_ret
    exact ⟨rfl, (by repeat (first | with_reducible exact Below.refl _ _ | with_reducible assumption | with_reducible refine balloc ?_ | (with_reducible refine bset ?_ ?_; rotate_left; ((try dsimp only); omega)) | refine bkeep2 ?_ (by assumption) | with_reducible refine Below.drew ?_))⟩
  cases h5 : rng c.cw 0 30
  · have hbf : false = b := by rw [← hb]; simp [cellB, runB, h5]
    subst hbf
    go_enter Try.func68, Try.ntmps68
    go_wp2_with fail
    with_reducible refine (inRange_w _ 0 ((n1 : Int) - 1) true _ h1).mono ?_
    rintro e w1 ⟨rfl, rfl⟩
    go_wp2_with fail
    with_reducible refine (inRange_w _ 0 ((n2 : Int) - 1) true _ h2).mono ?_
    rintro e w1 ⟨rfl, rfl⟩
    go_wp2_with fail
    with_reducible refine (inRange_w _ 1 ((n1 : Int) - c.co) true _ h3).mono ?_
    rintro e w1 ⟨rfl, rfl⟩
    go_wp2_with fail
    with_reducible refine (inRange_w _ 1 ((n2 : Int) - c.ro) true _ h4).mono ?_
    rintro e w1 ⟨rfl, rfl⟩
    go_wp2_with fail
    with_reducible refine (inRange_w _ 0 30 false _ h5).mono ?_
    rintro e w1 ⟨rfl, rfl⟩
    go_wp2
    go_ret
    exact ⟨rfl, (by repeat (first | with_reducible exact Below.refl _ _ | with_reducible assumption | with_reducible refine balloc ?_ | (with_reducible refine bset ?_ ?_; rotate_left; ((try dsimp only); omega)) | refine bkeep2 ?_ (by assumption) | with_reducible refine Below.drew ?_))⟩
  cases h6 : rng c.ch 0 30
  · have hbf : false = b := by rw [← hb]; simp [cellB, runB, h6]
    subst hbf
    go_enter Try.func68, Try.ntmps68
    go_wp2_with fail
    with_reducible refine (inRange_w _ 0 ((n1 : Int) - 1) true _ h1).mono ?_
    rintro e w1 ⟨rfl, rfl⟩
    go_wp2_with fail
    with_reducible refine (inRange_w _ 0 ((n2 : Int) - 1) true _ h2).mono ?_
    rintro e w1 ⟨rfl, rfl⟩
    go_wp2_with fail
    with_reducible refine (inRange_w _ 1 ((n1 : Int) - c.co) true _ h3).mono ?_
    rintro e w1 ⟨rfl, rfl⟩
    go_wp2_with fail
    with_reducible refine (inRange_w _ 1 ((n2 : Int) - c.ro) true _ h4).mono ?_
    rintro e w1 ⟨rfl, rfl⟩
    go_wp2_with fail
    with_reducible refine (inRange_w _ 0 30 true _ h5).mono ?_
    rintro e w1 ⟨rfl, rfl⟩
    go_wp2_with fail
    with_reducible refine (inRange_w _ 0 30 false _ h6).mono ?_
    rintro e w1 ⟨rfl, rfl⟩
    go_wp2
    go_ret
    exact ⟨rfl, (by repeat (first | with_reducible exact Below.refl _ _ | with_reducible assumption | with_reducible refine balloc ?_ | (with_reducible refine bset ?_ ?_; rotate_left; ((try dsimp only); omega)) | refine bkeep2 ?_ (by assumption) | with_reducible refine Below.drew ?_))⟩
  cases h7 : rng c.sk 0 15
  · have hbf : false = b := by rw [← hb]; simp [cellB, runB, h7]
    subst hbf
    go_enter Try.func68, Try.ntmps68
    go_wp2_with fail
    with_reducible refine (inRange_w _ 0 ((n1 : Int) - 1) true _ h1).mono ?_
    rintro e w1 ⟨rfl, rfl⟩
    go_wp2_with fail
    with_reducible refine (inRange_w _ 0 ((n2 : Int) - 1) true _ h2).mono ?_
    rintro e w1 ⟨rfl, rfl⟩
    go_wp2_with fail
    with_reducible refine (inRange_w _ 1 ((n1 : Int) - c.co) true _ h3).mono ?_
    rintro e w1 ⟨rfl, rfl⟩
    go_wp2_with fail
    with_reducible refine (inRange_w _ 1 ((n2 : Int) - c.ro) true _ h4).mono ?_
    rintro e w1 ⟨rfl, rfl⟩
    go_wp2_with fail
    with_reducible refine (inRange_w _ 0 30 true _ h5).mono ?_
    rintro e w1 ⟨rfl, rfl⟩
    go_wp2_with fail
    with_reducible refine (inRange_w _ 0 30 true _ h6).mono ?_
    rintro e w1 ⟨rfl, rfl⟩
    go_wp2_with fail
    with_reducible refine (inRange_w _ 0 15 false _ h7).mono ?_
    rintro e w1 ⟨rfl, rfl⟩
    go_wp2
    go_ret
    exact ⟨rfl, (by repeat (first | with_reducible exact Below.refl _ _ | with_reducible assumption | with_reducible refine balloc ?_ | (with_reducible refine bset ?_ ?_; rotate_left; ((try dsimp only); omega)) | refine bkeep2 ?_ (by assumption) | with_reducible refine Below.drew ?_))⟩
  cases h8 : rng c.px 0 10
  · have hbf : false = b := by rw [← hb]; simp [cellB, runB, h8]
    subst hbf
    go_enter Try.func68, Try.ntmps68
    go_wp2_with fail
    with_reducible refine (inRange_w _ 0 ((n1 : Int) - 1) true _ h1).mono ?_
    rintro e w1 ⟨rfl, rfl⟩
    go_wp2_with fail
    with_reducible refine (inRange_w _ 0 ((n2 : Int) - 1) true _ h2).mono ?_
    rintro e w1 ⟨rfl, rfl⟩
    go_wp2_with fail
    with_reducible refine (inRange_w _ 1 ((n1 : Int) - c.co) true _ h3).mono ?_
    rintro e w1 ⟨rfl, rfl⟩
    go_wp2_with fail
    with_reducible refine (inRange_w _ 1 ((n2 : Int) - c.ro) true _ h4).mono ?_
    rintro e w1 ⟨rfl, rfl⟩
    go_wp2_with fail
    with_reducible refine (inRange_w _ 0 30 true _ h5).mono ?_
    rintro e w1 ⟨rfl, rfl⟩
    go_wp2_with fail
    with_reducible refine (inRange_w _ 0 30 true _ h6).mono ?_
    rintro e w1 ⟨rfl, rfl⟩
    go_wp2_with fail
    with_reducible refine (inRange_w _ 0 15 true _ h7).mono ?_
    rintro e w1 ⟨rfl, rfl⟩
    go_wp2_with fail
    with_reducible refine (inRange_w _ 0 10 false _ h8).mono ?_
    rintro e w1 ⟨rfl, rfl⟩
    go_wp2
    go_ret
    exact ⟨rfl, (by repeat (first | with_reducible exact Below.refl _ _ | with_reducible assumption | with_reducible refine balloc ?_ | (with_reducible refine bset ?_ ?_; rotate_left; ((try dsimp only); omega)) | refine bkeep2 ?_ (by assumption) | with_reducible refine Below.drew ?_))⟩
  have h9 : rng c.py 0 10 = b := by rw [← hb]; simp [cellB, runB, h1, h2, h3, h4, h5, h6, h7, h8]
  cases b
  all_goals
    go_enter Try.func68, Try.ntmps68
    go_wp2_with fail
    with_reducible refine (inRange_w _ 0 ((n1 : Int) - 1) true _ h1).mono ?_
    rintro e w1 ⟨rfl, rfl⟩
    go_wp2_with fail
    with_reducible refine (inRange_w _ 0 ((n2 : Int) - 1) true _ h2).mono ?_
    rintro e w1 ⟨rfl, rfl⟩
    go_wp2_with fail
    with_reducible refine (inRange_w _ 1 ((n1 : Int) - c.co) true _ h3).mono ?_
    rintro e w1 ⟨rfl, rfl⟩
    go_wp2_with fail
    with_reducible refine (inRange_w _ 1 ((n2 : Int) - c.ro) true _ h4).mono ?_
    rintro e w1 ⟨rfl, rfl⟩
    go_wp2_with fail
    with_reducible refine (inRange_w _ 0 30 true _ h5).mono ?_
    rintro e w1 ⟨rfl, rfl⟩
    go_wp2_with fail
    with_reducible refine (inRange_w _ 0 30 true _ h6).mono ?_
    rintro e w1 ⟨rfl, rfl⟩
    go_wp2_with fail
    with_reducible refine (inRange_w _ 0 15 true _ h7).mono ?_
    rintro e w1 ⟨rfl, rfl⟩
    go_wp2_with fail
    with_reducible refine (inRange_w _ 0 10 true _ h8).mono ?_
    rintro e w1 ⟨rfl, rfl⟩
    go_wp2_with fail
    with_reducible refine (inRange_w _ 0 10 _ _ h9).mono ?_
    rintro e w1 ⟨rfl, rfl⟩
    go_wp2
    go_ret
    exact ⟨rfl, (by repeat (first | with_reducible exact Below.refl _ _ | with_reducible assumption | with_reducible refine balloc ?_ | (with_reducible refine bset ?_ ?_; rotate_left; ((try dsimp only); omega)) | refine bkeep2 ?_ (by assumption) | with_reducible refine Below.drew ?_))⟩
set_option maxRecDepth 100000 in
theorem svalidGrid_v (A1 : Option Addr) (c1 : Nat) (L1 : List Ln) (A2 : Option Addr) (c2 : Nat) (L2 : List Ln) (A3 : Option Addr) (c3 : Nat) (L3 : List Ce) (b : Bool) (w : World) (h1 : LnV w A1 L1) (h2 : LnV w A2 L2) (h3 : CeV w A3 L3) (k1 : L1.length ≤ 1048576) (k2 : L2.length ≤ 1048576) (k3 : L3.length ≤ 1048576) (hb : gridB L1 L2 L3 = b) :
    Calls Try.prog 48 #[.agg #[.slice A1 L1.length c1, .slice A2 L2.length c2, .slice A3 L3.length c3]] w fun e w' => e = .returned (.bool b) ∧ Below w.heap.size w w' := by
  have hB0 : Below w.heap.size w (w.alloc (.cells #[.slice A1 L1.length c1, .slice A2 L2.length c2, .slice A3 L3.length c3] 45 (0, 0))) := balloc (Below.refl _ _)
  have HX := Lib.hid (newS w (.cells #[.slice A1 L1.length c1, .slice A2 L2.length c2, .slice A3 L3.length c3] 45 (0, 0)))
  have HB := Lib.hid hB0
  have HBB := Lib.hid hb
  clear hB0 hb
  go_enter Try.func48, Try.ntmps48
  go_wp2_with fail
  go_loopw [3] (fun i wr => ∃ k : Nat, k ≤ L3.length ∧ i = .int .i64 k ∧ (L3.take k).all (cellB L1.length L2.length) = true ∧ Below w.heap.size w wr ∧ wr.heap[w.heap.size]? = some (.cells #[.slice A1 L1.length c1, .slice A2 L2.length c2, .slice A3 L3.length c3] 45 (0, 0))) (fun i _ => L3.length - (intOf i).toNat)
  case atStart => exact ⟨0, by omega, rfl, rfl, HB.out, HX.out⟩
  case round =>
    obtain ⟨k, hk, rfl, hok, hB, hX⟩ := hrel
    clear HB HX
    have d0 := cellS hX 0
    have d1 := cellS hX 1
    have d2 := cellS hX 2
    have hltx := ltS hX
    have HX := Lib.hid hX
    by_cases hlt : k < L3.length
    · have hd : decide ((k : Int) < (L3.length : Int)) = true := by simpa using hlt
      obtain ⟨b', off, rfl, hb', hp⟩ := (h3.keep hB).cells (by omega)
      have hget : L3[k]? = some L3[k] := List.getElem?_eq_getElem hlt
      obtain ⟨e0, e1, e2, e3, e4, e5, e6, e7, e8⟩ := hp k _ hget
      generalize hx : L3[k] = p at *
      have HG := Lib.hid hget
      have HO := Lib.hid hok
      have HB := Lib.hid hB
      clear hget hx hok hB hX hp
      cases hv : cellB L1.length L2.length p
      all_goals
        have Hv := Lib.hid hv
        clear hv
        have hv := Hv.out
        go_wp2_with fail
        refine wp_region_grow 8 0 (· < 8) (by kernel_rfl) (by kernel_rfl) rfl ?_
        iterate 8 (refine wpG_step (fun K hK => ?_); first | (refine grow_skip rfl ?_; go_simp; refine hK _ ?_; clear hK K) | (apply Exists.intro; refine ⟨.inl ⟨rfl, fun w' hw' => ?_⟩, ?_⟩; (focus ((obtain ⟨hc, hf⟩ := bcell hw'.out); (have hcS := bcellS hw'.out); go_simp <;> first | rfl | (go_at_call 68; exact svalidCell_v p L1.length L2.length L3.length c1 c2 c3 A1 A2 _ _ _ k1 k2 hv))); (go_simp; refine hK _ ?_; clear hK K)))
        refine wpG_nil ?_
        refine wpK_tail (by kernel_rfl) (fun w9 hg9 => ?_)
        have hb9 := bdrewn hg9.out
        refine wpAny_end (by kernel_rfl) ?_
        refine NoPan.thn ?_
        clear hg9
        clear hv
        replace HB := Lib.hid (bkeep2 HB.out hb9)
        replace HX := Lib.hid ((hb9.block _ (ltS HX.out)).trans HX.out)
        have hb1 := hb9
        clear hb9
        clear hb1 d0 d1 d2 e0 e1 e2 e3 e4 e5 e6 e7 e8
        go_wp2
      · go_ret
        exact ⟨ret_bool (by rw [← HBB.out]; simp [gridB, all_falseG HG.out Hv.out]), HB.out⟩
      · go_roundw
        case rel => exact ⟨k + 1, by omega, by go_num, by rw [all_snocG HG.out, HO.out, Hv.out]; rfl, HB.out, HX.out⟩
        case measure => simp [intOf]; omega
    · have hd : decide ((k : Int) < (L3.length : Int)) = false := decide_eq_false (by omega)
      have he : L3.take k = L3 := List.take_of_length_le (by omega)
      rw [he] at hok
      have HO := Lib.hid hok
      have HB := Lib.hid hB
      have HV1 := Lib.hid (h1.keep hB)
      have HV2 := Lib.hid (h2.keep hB)
      clear hok hB he hX
      cases g1 : linesB L1
      · go_wp2_with fail
        with_reducible refine (svalidLines_v A1 c1 L1 false _ HV1.out k1 g1).mono ?_
        rintro e w1 ⟨rfl, hb1⟩
        replace HB := Lib.hid (bkeep2 HB.out hb1)
        clear hb1 d0 d1 d2
        go_wp2
        go_ret
        exact ⟨ret_bool (by rw [← HBB.out]; simp [gridB, g1]), HB.out⟩
      · go_wp2_with fail
        with_reducible refine (svalidLines_v A1 c1 L1 true _ HV1.out k1 g1).mono ?_
        rintro e w1 ⟨rfl, hb1⟩
        replace HB := Lib.hid (bkeep2 HB.out hb1)
        replace HX := Lib.hid ((hb1.block _ (ltS HX.out)).trans HX.out)
        replace HV2 := Lib.hid (HV2.out.keep hb1)
        clear hb1 d0 d1 d2
        have d0 := cellS HX.out 0
        have d1 := cellS HX.out 1
        have d2 := cellS HX.out 2
        cases g2 : linesB L2
        · go_wp2_with fail
          with_reducible refine (svalidLines_v A2 c2 L2 false _ HV2.out k2 g2).mono ?_
          rintro e w2 ⟨rfl, hb1⟩
          replace HB := Lib.hid (bkeep2 HB.out hb1)
          clear hb1 d0 d1 d2
          go_wp2
          go_ret
          exact ⟨ret_bool (by rw [← HBB.out]; simp [gridB, g1, g2]), HB.out⟩
        · go_wp2_with fail
          with_reducible refine (svalidLines_v A2 c2 L2 true _ HV2.out k2 g2).mono ?_
          rintro e w2 ⟨rfl, hb1⟩
          replace HB := Lib.hid (bkeep2 HB.out hb1)
          replace HX := Lib.hid ((hb1.block _ (ltS HX.out)).trans HX.out)
          clear hb1 d0 d1 d2
          have d0 := cellS HX.out 0
          have d1 := cellS HX.out 1
          have d2 := cellS HX.out 2
          go_wp2
          all_goals go_ret
          all_goals exact ⟨ret_bool (by rw [← HBB.out]; simp [gridB, g1, g2, HO.out]), HB.out⟩
theorem svalidGrid2_v (A1 : Option Addr) (c1 : Nat) (L1 : List Ln) (A2 : Option Addr) (c2 : Nat) (L2 : List Ln) (A3 : Option Addr) (c3 : Nat) (L3 : List Ce) (b : Bool) (w : World) (h1 : LnV w A1 L1) (h2 : LnV w A2 L2) (h3 : CeV w A3 L3) (k1 : L1.length ≤ 1048576) (k2 : L2.length ≤ 1048576) (k3 : L3.length ≤ 1048576) (hb : gridB L1 L2 L3 = b) :
    Calls Try.prog 19 #[.agg #[.slice A1 L1.length c1, .slice A2 L2.length c2, .slice A3 L3.length c3]] w fun e w' => e = .returned (.bool b) ∧ Below w.heap.size w w' := by
  have hB0 : Below w.heap.size w (w.alloc (.cells #[.slice A1 L1.length c1, .slice A2 L2.length c2, .slice A3 L3.length c3] 45 (0, 0))) := balloc (Below.refl _ _)
  have HV1 := Lib.hid (h1.keep hB0)
  have HV2 := Lib.hid (h2.keep hB0)
  have HV3 := Lib.hid (h3.keep hB0)
  have HB := Lib.hid hB0
  clear hB0 h1 h2 h3
  cases b
  all_goals
    go_enter Try.func19, Try.ntmps19
    go_wp2_with fail
    with_reducible refine (svalidGrid_v A1 c1 L1 A2 c2 L2 A3 c3 L3 _ _ HV1.out HV2.out HV3.out k1 k2 k3 hb).mono ?_
    rintro e w1 ⟨rfl, hb1⟩
    replace HB := Lib.hid (bkeep2 HB.out hb1)
    clear hb1
    go_wp2
    go_ret
    exact ⟨rfl, HB.out⟩
end Go.Proofs.Ytjdjahckdgbkbac
end
section
namespace Go.Proofs.Ytjdjahckdgbkbac
open Go.RowKit
set_option linter.unusedVariables false
set_option maxHeartbeats 1000000
attribute [local go_sem] growUpon_value growUpon_skip growUpon_enter
def acM (c : Ce) : Sp := ⟨c.co, c.mc, c.cw + 2 * c.px⟩
def dnM (c : Ce) : Sp := ⟨c.ro, c.mr, c.ch + 2 * c.py⟩
def smC (c : Ce) : Prop := (0 ≤ c.cw ∧ c.cw ≤ 30) ∧ (0 ≤ c.ch ∧ c.ch ≤ 30) ∧ (0 ≤ c.px ∧ c.px ≤ 10) ∧ (0 ≤ c.py ∧ c.py ≤ 10)
def smW (c : Ce) : Prop := (0 ≤ c.cw ∧ c.cw ≤ 1000000000000) ∧ (0 ≤ c.ch ∧ c.ch ≤ 1000000000000) ∧ (0 ≤ c.px ∧ c.px ≤ 10) ∧ (0 ≤ c.py ∧ c.py ≤ 10)
theorem smC.w {c : Ce} (h : smC c) : smW c := by unfold smC at h; unfold smW; omega
theorem cellB_sm {n m : Int} {c : Ce} (h : cellB n m c = true) : smC c := by
  simp only [cellB, Bool.and_eq_true, rng_iff] at h
  exact ⟨h.2.2.1, h.2.2.2.1, h.2.2.2.2.2.1, h.2.2.2.2.2.2⟩
theorem cellB_ac {n m : Int} {c : Ce} (h : cellB n m c = true) : spanB n (acM c) = true ∧ spanB m (dnM c) = true := by
  have hs := cellB_sm h
  simp only [cellB, Bool.and_eq_true] at h
  obtain ⟨⟨b1, b2⟩, ⟨b3, b4⟩, ⟨b5, b6⟩, ⟨b7, b8⟩⟩ := hs
  refine ⟨?_, ?_⟩
  · simp only [spanB, acM, Bool.and_eq_true, rng_iff]
    exact ⟨h.1, by omega, by omega⟩
  · simp only [spanB, dnM, Bool.and_eq_true, rng_iff]
    exact ⟨h.2.1, by omega, by omega⟩
theorem gridB_yes {L1 L2 : List Ln} {L3 : List Ce} (h : gridB L1 L2 L3 = true) : linesB L1 = true ∧ linesB L2 = true ∧ L3.length ≤ 8 ∧ (∀ c ∈ L3, smC c) ∧ spansB L1.length (L3.map acM) = true ∧ spansB L2.length (L3.map dnM) = true := by
  simp only [gridB, Bool.and_eq_true, decide_eq_true_eq] at h
  obtain ⟨h1, h2, h3, h4⟩ := h
  have h5 := List.all_eq_true.1 h4
  refine ⟨h1, h2, by omega, fun c hc => cellB_sm (h5 c hc), ?_, ?_⟩
  · simp only [spansB, List.length_map, Bool.and_eq_true, decide_eq_true_eq, List.all_map, List.all_eq_true]
    exact ⟨h3, fun c hc => (cellB_ac (h5 c hc)).1⟩
  · simp only [spansB, List.length_map, Bool.and_eq_true, decide_eq_true_eq, List.all_map, List.all_eq_true]
    exact ⟨h3, fun c hc => (cellB_ac (h5 c hc)).2⟩
set_option maxRecDepth 100000 in
theorem across_e (p : Ce) (w : World) (h : smW p) : Calls Try.prog 82 #[.agg #[.int .i64 p.co, .int .i64 p.ro, .int .i64 p.mc, .int .i64 p.mr, .int .i64 p.cw, .int .i64 p.ch, .int .i64 p.sk, .int .i64 p.px, .int .i64 p.py]] w fun e w' => e = .returned (.agg #[.int .i64 p.co, .int .i64 p.mc, .int .i64 (p.cw + 2 * p.px)]) ∧ Below w.heap.size w w' := by
  obtain ⟨⟨b1, b2⟩, ⟨b3, b4⟩, ⟨b5, b6⟩, ⟨b7, b8⟩⟩ := h
  go_enter Try.func82, Try.ntmps82
  go_wp2
  exact bodyPost_ret (v := .agg #[.int .i64 p.co, .int .i64 p.mc, .int .i64 (p.cw + 2 * p.px)]) (by simp only [results, Try.results82]; go_simp) rfl ⟨rfl, (by repeat (first | with_reducible exact Below.refl _ _ | with_reducible assumption | with_reducible refine balloc ?_ | (with_reducible refine bset ?_ ?_; rotate_left; ((try dsimp only); omega)) | refine bkeep2 ?_ (by assumption) | with_reducible refine Below.drew ?_))⟩
set_option maxRecDepth 100000 in
theorem across_v (p : Ce) (w : World) (h : smW p) : Calls Try.prog 82 #[.agg #[.int .i64 p.co, .int .i64 p.ro, .int .i64 p.mc, .int .i64 p.mr, .int .i64 p.cw, .int .i64 p.ch, .int .i64 p.sk, .int .i64 p.px, .int .i64 p.py]] w fun e w' => e = .returned (.agg #[.int .i64 (acM p).sa, .int .i64 (acM p).many, .int .i64 (acM p).need]) ∧ Below w.heap.size w w' := across_e p w h
set_option maxRecDepth 100000 in
theorem each_acrossW (A : Option Addr) (c : Nat) (L : List Ce) (w : World) (h : CeV w A L) (hL : L.length ≤ 1048576) (hsm : ∀ p ∈ L, smW p) :
    Calls Try.prog 81 #[.slice A L.length c, .func (.func 82) #[] #[]] w fun e w' => e = .returned (.slice (some ⟨w.heap.size, 0, none⟩) L.length L.length) ∧ SpB w' w.heap.size (L.map acM) ∧ Below w.heap.size w w' := by
  obtain ⟨f, hf, hmk0⟩ := madeSp
  have hmk : ∀ w : World, (Instr.makeSlice 99 (.int .i64 (L.length : Int)) (.int .i64 (L.length : Int))).run Try.prog w = .ok (.slice (some ⟨w.heap.size, 0, none⟩) L.length L.length) (w.alloc (.cells (f L.length) 102)) := fun w => hmk0 L.length w hL
  have HSM := Lib.hid hsm
  go_enter Try.func81, Try.ntmps81
  go_wp2_with fail
  have HWW : Hid (∃ cs : Array Value, (w.alloc (.cells (f L.length) 102)).heap[w.heap.size]? = some (.cells cs 102 (0, 0)) ∧ cs.size = L.length * 3 ∧ ∀ i p, i < 0 → (L.map acM)[i]? = some p → InS cs (i * 3) (valsSp p)) := Lib.hid ⟨_, newS _ _, hf _, fun i p hi => absurd hi (by omega)⟩
  clear hmk hmk0 hf hsm
  go_loopw [13] (fun i wr => ∃ k : Nat, k ≤ L.length ∧ i = .int .i64 k ∧ (∃ cs : Array Value, wr.heap[w.heap.size]? = some (.cells cs 102 (0, 0)) ∧ cs.size = L.length * 3 ∧ ∀ i p, i < k → (L.map acM)[i]? = some p → InS cs (i * 3) (valsSp p)) ∧ Below w.heap.size w wr) (fun i _ => L.length - (intOf i).toNat)
  case atStart => exact ⟨0, by omega, rfl, HWW.out, balloc (Below.refl _ _)⟩
  case round =>
    obtain ⟨k, hk, rfl, ⟨cs, hh, hs, hc⟩, hB⟩ := hrel
    clear HWW
    by_cases hlt : k < L.length
    · have hd : decide ((k : Int) < (L.length : Int)) = true := by simpa using hlt
      obtain ⟨b, off, rfl, hb, hp⟩ := (h.keep hB).cells (by omega)
      have hget : L[k]? = some L[k] := List.getElem?_eq_getElem hlt
      obtain ⟨c0, c1, c2, c3, c4, c5, c6, c7, c8⟩ := hp k _ hget
      have hsk : smW L[k] := HSM.out _ (List.getElem_mem hlt)
      generalize hx : L[k] = p at *
      have HG := Lib.hid (show (L.map acM)[k]? = some (acM p) by rw [List.getElem?_map, hget]; rfl)
      have HH := Lib.hid hh
      have HS := Lib.hid hs
      have HC := Lib.hid hc
      have HBB := Lib.hid hB
      have HK := Lib.hid hsk
      clear hget hx hh hs hc hB hp hsk
      go_wp2_with fail
      refine (across_v p _ HK.out).mono ?_
      rintro e w1 ⟨rfl, hb1⟩
      have hlg : w.heap.size < wr.heap.size := ltS HH.out
      have hb01 := bkeep2 (balloc (Below.refl wr.heap.size wr)) hb1
      replace HH := Lib.hid ((hb01.block _ hlg).trans HH.out)
      replace HBB := Lib.hid (HBB.out.trans (hb01.mono HBB.out.size))
      clear hb1 hb01 c0 c1 c2 c3 c4 c5 c6 c7 c8 hlg
      have hsz : k * 3 + 3 ≤ cs.size := by rw [HS.out]; omega
      obtain ⟨y0, d0⟩ := thereS HH.out (i := k * 3) (by omega)
      obtain ⟨y1, d1⟩ := thereS HH.out (i := k * 3 + 1) (by omega)
      obtain ⟨y2, d2⟩ := thereS HH.out (i := k * 3 + 2) (by omega)
      have f0 := frozenS HH.out (k * 3)
      have f1 := frozenS HH.out (k * 3 + 1)
      have f2 := frozenS HH.out (k * 3 + 2)
      have E1 := Lib.hid (putSp HH.out (k * 3) (acM p))
      have E2 := Lib.hid (putSpb HBB.out (Nat.le_refl _) (k * 3) (acM p))
      go_wp2
      go_roundw
      case rel => exact ⟨k + 1, by omega, by go_num, ⟨_, E1.out, (wrAt_size _ _ _).trans HS.out, fun i q hi hq => by
        by_cases e : i = k
        · subst e
          obtain rfl : (acM p) = q := by have := HG.out; rw [this] at hq; exact Option.some.inj hq
          exact InS.write (by simp only [valsSp, List.length_cons, List.length_nil]; omega)
        · exact (HC.out i q (by omega) hq).keepS (.inl (by simp only [valsSp, List.length_cons, List.length_nil]; omega))⟩, E2.out⟩
      case measure => simp [intOf]; omega
    · have hd : decide ((k : Int) < (L.length : Int)) = false := decide_eq_false (by omega)
      obtain rfl : k = L.length := by omega
      have HR := Lib.hid (show SpB wr w.heap.size (L.map acM) from ⟨cs, hh, by rw [List.length_map]; exact hs, fun i p hp => hc i p (by have := (List.getElem?_eq_some_iff.1 hp).1; rwa [List.length_map] at this) hp⟩)
      have HBB := Lib.hid hB
      clear hh hs hc hB
      go_wp2
      go_ret
      exact ⟨rfl, HR.out, HBB.out⟩
set_option maxRecDepth 100000 in
theorem down_e (p : Ce) (w : World) (h : smW p) : Calls Try.prog 83 #[.agg #[.int .i64 p.co, .int .i64 p.ro, .int .i64 p.mc, .int .i64 p.mr, .int .i64 p.cw, .int .i64 p.ch, .int .i64 p.sk, .int .i64 p.px, .int .i64 p.py]] w fun e w' => e = .returned (.agg #[.int .i64 p.ro, .int .i64 p.mr, .int .i64 (p.ch + 2 * p.py)]) ∧ Below w.heap.size w w' := by
  obtain ⟨⟨b1, b2⟩, ⟨b3, b4⟩, ⟨b5, b6⟩, ⟨b7, b8⟩⟩ := h
  go_enter Try.func83, Try.ntmps83
  go_wp2
  exact bodyPost_ret (v := .agg #[.int .i64 p.ro, .int .i64 p.mr, .int .i64 (p.ch + 2 * p.py)]) (by simp only [results, Try.results83]; go_simp) rfl ⟨rfl, (by repeat (first | with_reducible exact Below.refl _ _ | with_reducible assumption | with_reducible refine balloc ?_ | (with_reducible refine bset ?_ ?_; rotate_left; ((try dsimp only); omega)) | refine bkeep2 ?_ (by assumption) | with_reducible refine Below.drew ?_))⟩
set_option maxRecDepth 100000 in
theorem down_v (p : Ce) (w : World) (h : smW p) : Calls Try.prog 83 #[.agg #[.int .i64 p.co, .int .i64 p.ro, .int .i64 p.mc, .int .i64 p.mr, .int .i64 p.cw, .int .i64 p.ch, .int .i64 p.sk, .int .i64 p.px, .int .i64 p.py]] w fun e w' => e = .returned (.agg #[.int .i64 (dnM p).sa, .int .i64 (dnM p).many, .int .i64 (dnM p).need]) ∧ Below w.heap.size w w' := down_e p w h
set_option maxRecDepth 100000 in
theorem each_downW (A : Option Addr) (c : Nat) (L : List Ce) (w : World) (h : CeV w A L) (hL : L.length ≤ 1048576) (hsm : ∀ p ∈ L, smW p) :
    Calls Try.prog 81 #[.slice A L.length c, .func (.func 83) #[] #[]] w fun e w' => e = .returned (.slice (some ⟨w.heap.size, 0, none⟩) L.length L.length) ∧ SpB w' w.heap.size (L.map dnM) ∧ Below w.heap.size w w' := by
  obtain ⟨f, hf, hmk0⟩ := madeSp
  have hmk : ∀ w : World, (Instr.makeSlice 99 (.int .i64 (L.length : Int)) (.int .i64 (L.length : Int))).run Try.prog w = .ok (.slice (some ⟨w.heap.size, 0, none⟩) L.length L.length) (w.alloc (.cells (f L.length) 102)) := fun w => hmk0 L.length w hL
  have HSM := Lib.hid hsm
  go_enter Try.func81, Try.ntmps81
  go_wp2_with fail
  have HWW : Hid (∃ cs : Array Value, (w.alloc (.cells (f L.length) 102)).heap[w.heap.size]? = some (.cells cs 102 (0, 0)) ∧ cs.size = L.length * 3 ∧ ∀ i p, i < 0 → (L.map dnM)[i]? = some p → InS cs (i * 3) (valsSp p)) := Lib.hid ⟨_, newS _ _, hf _, fun i p hi => absurd hi (by omega)⟩
  clear hmk hmk0 hf hsm
  go_loopw [13] (fun i wr => ∃ k : Nat, k ≤ L.length ∧ i = .int .i64 k ∧ (∃ cs : Array Value, wr.heap[w.heap.size]? = some (.cells cs 102 (0, 0)) ∧ cs.size = L.length * 3 ∧ ∀ i p, i < k → (L.map dnM)[i]? = some p → InS cs (i * 3) (valsSp p)) ∧ Below w.heap.size w wr) (fun i _ => L.length - (intOf i).toNat)
  case atStart => exact ⟨0, by omega, rfl, HWW.out, balloc (Below.refl _ _)⟩
  case round =>
    obtain ⟨k, hk, rfl, ⟨cs, hh, hs, hc⟩, hB⟩ := hrel
    clear HWW
    by_cases hlt : k < L.length
    · have hd : decide ((k : Int) < (L.length : Int)) = true := by simpa using hlt
      obtain ⟨b, off, rfl, hb, hp⟩ := (h.keep hB).cells (by omega)
      have hget : L[k]? = some L[k] := List.getElem?_eq_getElem hlt
      obtain ⟨c0, c1, c2, c3, c4, c5, c6, c7, c8⟩ := hp k _ hget
      have hsk : smW L[k] := HSM.out _ (List.getElem_mem hlt)
      generalize hx : L[k] = p at *
      have HG := Lib.hid (show (L.map dnM)[k]? = some (dnM p) by rw [List.getElem?_map, hget]; rfl)
      have HH := Lib.hid hh
      have HS := Lib.hid hs
      have HC := Lib.hid hc
      have HBB := Lib.hid hB
      have HK := Lib.hid hsk
      clear hget hx hh hs hc hB hp hsk
      go_wp2_with fail
      refine (down_v p _ HK.out).mono ?_
      rintro e w1 ⟨rfl, hb1⟩
      have hlg : w.heap.size < wr.heap.size := ltS HH.out
      have hb01 := bkeep2 (balloc (Below.refl wr.heap.size wr)) hb1
      replace HH := Lib.hid ((hb01.block _ hlg).trans HH.out)
      replace HBB := Lib.hid (HBB.out.trans (hb01.mono HBB.out.size))
      clear hb1 hb01 c0 c1 c2 c3 c4 c5 c6 c7 c8 hlg
      have hsz : k * 3 + 3 ≤ cs.size := by rw [HS.out]; omega
      obtain ⟨y0, d0⟩ := thereS HH.out (i := k * 3) (by omega)
      obtain ⟨y1, d1⟩ := thereS HH.out (i := k * 3 + 1) (by omega)
      obtain ⟨y2, d2⟩ := thereS HH.out (i := k * 3 + 2) (by omega)
      have f0 := frozenS HH.out (k * 3)
      have f1 := frozenS HH.out (k * 3 + 1)
      have f2 := frozenS HH.out (k * 3 + 2)
      have E1 := Lib.hid (putSp HH.out (k * 3) (dnM p))
      have E2 := Lib.hid (putSpb HBB.out (Nat.le_refl _) (k * 3) (dnM p))
      go_wp2
      go_roundw
      case rel => exact ⟨k + 1, by omega, by go_num, ⟨_, E1.out, (wrAt_size _ _ _).trans HS.out, fun i q hi hq => by
        by_cases e : i = k
        · subst e
          obtain rfl : (dnM p) = q := by have := HG.out; rw [this] at hq; exact Option.some.inj hq
          exact InS.write (by simp only [valsSp, List.length_cons, List.length_nil]; omega)
        · exact (HC.out i q (by omega) hq).keepS (.inl (by simp only [valsSp, List.length_cons, List.length_nil]; omega))⟩, E2.out⟩
      case measure => simp [intOf]; omega
    · have hd : decide ((k : Int) < (L.length : Int)) = false := decide_eq_false (by omega)
      obtain rfl : k = L.length := by omega
      have HR := Lib.hid (show SpB wr w.heap.size (L.map dnM) from ⟨cs, hh, by rw [List.length_map]; exact hs, fun i p hp => hc i p (by have := (List.getElem?_eq_some_iff.1 hp).1; rwa [List.length_map] at this) hp⟩)
      have HBB := Lib.hid hB
      clear hh hs hc hB
      go_wp2
      go_ret
      exact ⟨rfl, HR.out, HBB.out⟩
theorem each_across (A : Option Addr) (c : Nat) (L : List Ce) (w : World) (h : CeV w A L) (hL : L.length ≤ 1048576) (hsm : ∀ p ∈ L, smC p) :
    Calls Try.prog 81 #[.slice A L.length c, .func (.func 82) #[] #[]] w fun e w' => e = .returned (.slice (some ⟨w.heap.size, 0, none⟩) L.length L.length) ∧ SpB w' w.heap.size (L.map acM) ∧ Below w.heap.size w w' := each_acrossW A c L w h hL (fun p hp => (hsm p hp).w)
theorem each_down (A : Option Addr) (c : Nat) (L : List Ce) (w : World) (h : CeV w A L) (hL : L.length ≤ 1048576) (hsm : ∀ p ∈ L, smC p) :
    Calls Try.prog 81 #[.slice A L.length c, .func (.func 83) #[] #[]] w fun e w' => e = .returned (.slice (some ⟨w.heap.size, 0, none⟩) L.length L.length) ∧ SpB w' w.heap.size (L.map dnM) ∧ Below w.heap.size w w' := each_downW A c L w h hL (fun p hp => (hsm p hp).w)
end Go.Proofs.Ytjdjahckdgbkbac
end
section
namespace Go.Proofs.Ytjdjahckdgbkbac
open Go.RowKit
set_option linter.unusedVariables false
set_option maxHeartbeats 1000000
attribute [local go_sem] growUpon_value growUpon_skip growUpon_enter
theorem below_grownI {w w' : World} {B : Nat} {row : Option Nat} (h : w.grownBy w' row) (hr : ∀ g, row = some g → B ≤ g) (hB : B ≤ w.heap.size) : Below B w w' :=
  ⟨h.os, h.tape, h.output, h.size, fun k hk => h.block k (by omega) (fun e => by have := hr k e.symm; omega)⟩
theorem gsetI {w w' : World} {g : Nat} (h : w.grownBy w' (some g)) (o : Nat) (v : Value) : w.grownBy (w'.setCell ⟨g, o, none⟩ v) (some g) :=
  ⟨h.os, h.tape, h.output, by simpa [World.setCell] using h.size, fun k hk hne => (Below.heap_setCell w' ⟨g, o, none⟩ v k (by rintro rfl; exact hne rfl)).trans (h.block k hk hne)⟩
theorem greflI (w : World) (g : Nat) : w.grownBy w (some g) := ⟨rfl, rfl, rfl, Nat.le_refl _, fun _ _ _ => rfl⟩
/-- the value reads as the list -/
def NR (w : World) (v : Value) (L : List Int) : Prop := ∃ A c, v = .slice A L.length c ∧ NV w A L
theorem NR.keep {w w' : World} {v : Value} {L : List Int} (h : NR w v L) (hb : Below w.heap.size w w') : NR w' v L := let ⟨A, c, e, n⟩ := h; ⟨A, c, e, n.keep hb⟩
theorem IB.nr {w : World} {g n : Nat} {L : List Int} (h : IB w g L) (hn : n = L.length) (m : Nat) : NR w (.slice (some ⟨g, 0, none⟩) n m) L := ⟨_, m, by rw [hn], h.nv⟩
theorem IB.but {w w' : World} {g h : Nat} {L : List Int} (hi : IB w h L) (hg : w.grownBy w' (some g)) (hne : h ≠ g) : IB w' h L := (hg.block h hi.lt (fun e => hne (Option.some.inj e))).trans hi
/-- a list in a block that was made from lo on, or none -/
def GI (lo : Nat) (w : World) (v : Value) (L : List Int) : Prop := (v = .slice none 0 0 ∧ L = []) ∨ ∃ g n, v = .slice (some ⟨g, 0, none⟩) n n ∧ n = L.length ∧ lo ≤ g ∧ IB w g L
theorem GI.nr {lo : Nat} {w : World} {v : Value} {L : List Int} (h : GI lo w v L) : NR w v L := by
  rcases h with ⟨rfl, rfl⟩ | ⟨g, n, rfl, hn, _, hk⟩
  · exact ⟨none, 0, rfl, NV.nil _ _⟩
  · exact hk.nr hn n
theorem GI.keep {lo : Nat} {w w' : World} {v : Value} {L : List Int} (h : GI lo w v L) (hb : Below w.heap.size w w') : GI lo w' v L := h.imp id fun ⟨g, n, h1, h2, h3, hk⟩ => ⟨g, n, h1, h2, h3, hk.keep hb⟩
theorem GI.but {lo g0 : Nat} {w w' : World} {v : Value} {L : List Int} (h : GI lo w v L) (hb : w.grownBy w' (some g0)) (hg : g0 < lo) : GI lo w' v L := h.imp id fun ⟨g, n, h1, h2, h3, hk⟩ => ⟨g, n, h1, h2, h3, hk.but hb (by omega)⟩
def MKI (n : Nat) : List Int := (List.range n).map (fun i : Nat => (i : Int) + 1)
theorem MKI_len (n : Nat) : (MKI n).length = n := by simp [MKI]
theorem MKI_get {n k : Nat} (h : k < n) : (MKI n)[k]? = some ((k : Int) + 1) := by simp [MKI, h]
def GIM (w : World) (v : Value) (n : Nat) : Prop := (v = .slice none 0 0 ∧ n = 0) ∨ ∃ g, v = .slice (some ⟨g, 0, none⟩) n n ∧ IB w g (MKI n)
theorem GIM.keep {w w' : World} {v : Value} {n : Nat} (h : GIM w v n) (hb : Below w.heap.size w w') : GIM w' v n := h.imp id fun ⟨g, h1, hk⟩ => ⟨g, h1, hk.keep hb⟩
end Go.Proofs.Ytjdjahckdgbkbac
end
section
namespace Go.Proofs.Ytjdjahckdgbkbac
set_option linter.unusedVariables false
theorem ones_get : ∀ {m : Int} {ws bs : List Int} {k : Nat} {x b : Int}, ws[k]? = some x → bs[k]? = some b → ∃ y, (onesM m ws bs)[k]? = some y ∧ (y = b ∨ (y = b + 1 ∧ 0 < x))
  | m, [], bs, k, x, b, hx, _ => by simp at hx
  | m, z :: ws, [], k, x, b, _, hb => by simp at hb
  | m, z :: ws, c :: bs, 0, x, b, hx, hb => by
    simp at hx hb
    subst hx hb
    unfold onesM
    split
    · rename_i h; exact ⟨_, rfl, .inr ⟨rfl, h.1⟩⟩
    · exact ⟨_, rfl, .inl rfl⟩
  | m, z :: ws, c :: bs, k + 1, x, b, hx, hb => by
    simp at hx hb
    unfold onesM
    split
    · simpa using ones_get (m := m - 1) hx hb
    · simpa using ones_get (m := m) hx hb
theorem ones_sum : ∀ {m : Int} {ws bs : List Int}, ws.length = bs.length → 0 ≤ m → m ≤ cntP ws → sumI (onesM m ws bs) = sumI bs + m
  | m, [], [], _, h0, h1 => by simp [cntP] at h1; simp [onesM, sumI]; omega
  | m, [], b :: bs, h, _, _ => by simp at h
  | m, x :: ws, [], h, _, _ => by simp at h
  | m, x :: ws, b :: bs, h, h0, h1 => by
    have hl : ws.length = bs.length := by simpa using h
    simp only [cntP] at h1
    have hc := (cntP_bd ws).1
    unfold onesM
    split
    · rename_i hp
      rw [if_pos hp.1] at h1
      have ih := ones_sum (m := m - 1) hl (by omega) (by omega)
      simp only [sumI, ih]; omega
    · rename_i hp
      by_cases hx : 0 < x
      · have hm : m = 0 := by
          by_cases hm : 0 < m
          · exact absurd ⟨hx, hm⟩ hp
          · omega
        subst hm
        have ih := ones_sum (m := 0) hl (by omega) hc
        simp only [sumI, ih]; omega
      · rw [if_neg hx] at h1
        have ih := ones_sum (m := m) hl h0 (by omega)
        simp only [sumI, ih]; omega
theorem sum_replicate : ∀ k : Nat, sumI (List.replicate k 0) = 0
  | 0 => rfl
  | k + 1 => by rw [List.replicate_succ]; simp [sumI, sum_replicate k]
theorem spread_sum {n : Int} {ws : List Int} (hn : 0 ≤ n) (h : wsOK ws) : sumI (spreadM n ws) = n := by
  unfold spreadM
  split
  · obtain ⟨j, hj⟩ : ∃ j, ws.length = j + 1 := ⟨ws.length - 1, by have := h.2.1; omega⟩
    have e : ws.length - 1 = j := by omega
    rw [e, hj, List.replicate_succ', List.set_append_right _ _ (by simp)]
    simp [sumI_append, sum_replicate, sumI]
  · rename_i hS
    obtain ⟨m0, m1⟩ := miss_bd hn h.nn hS
    rw [ones_sum (by rw [baseM_len]) m0 m1]
    omega
/-- each part: at least 0; with weights, as near to n times its weight as can be -/
theorem spread_get {n : Int} {ws : List Int} {k : Nat} {x : Int} (hn : 0 ≤ n) (h : wsOK ws) (hx : ws[k]? = some x) : ∃ y, (spreadM n ws)[k]? = some y ∧ 0 ≤ y ∧ y ≤ n ∧
    (0 < sumI ws → (x = 0 → y = 0) ∧ y * sumI ws ≤ n * x + sumI ws ∧ n * x - sumI ws ≤ y * sumI ws) := by
  obtain ⟨hk, e⟩ := List.getElem?_eq_some_iff.1 hx
  have hxm : x ∈ ws := List.mem_of_getElem? hx
  have hx0 := h.nn x hxm
  have hxs := mem_le_sum h.nn x hxm
  have hs0 := h.sum
  by_cases hS : sumI ws = 0
  · have hl := spreadM_len (n := n) (ws := ws)
    refine ⟨(spreadM n ws)[k]'(by omega), List.getElem?_eq_getElem (by omega), ?_, ?_, fun h0 => by omega⟩
    · have e1 : (spreadM n ws) = (List.replicate ws.length 0).set (ws.length - 1) n := by unfold spreadM; rw [if_pos hS]
      simp only [e1, List.getElem_set, List.getElem_replicate]
      split <;> omega
    · have e1 : (spreadM n ws) = (List.replicate ws.length 0).set (ws.length - 1) n := by unfold spreadM; rw [if_pos hS]
      simp only [e1, List.getElem_set, List.getElem_replicate]
      split <;> omega
  · have hSp : 0 < sumI ws := by omega
    have hsum := spread_sum hn h
    have hb := base_get (n := n) (S := sumI ws) hx
    obtain ⟨b0, b1⟩ := base_bd hn hSp hx0 hxs
    obtain ⟨y, hy, hyb⟩ := ones_get (m := n - sumI (baseM n (sumI ws) ws)) hx hb
    have e1 : spreadM n ws = onesM (n - sumI (baseM n (sumI ws) ws)) ws (baseM n (sumI ws) ws) := by unfold spreadM; rw [if_neg hS]
    rw [← e1] at hy
    have hnn : ∀ z ∈ spreadM n ws, 0 ≤ z := fun z hz => by
      obtain ⟨i, hi, ez⟩ := List.mem_iff_getElem.1 hz
      have hl := spreadM_len (n := n) (ws := ws)
      have hi' : i < ws.length := by omega
      have hxi := List.getElem?_eq_getElem hi'
      obtain ⟨y', hy', hyb'⟩ := ones_get (m := n - sumI (baseM n (sumI ws) ws)) hxi (base_get (n := n) (S := sumI ws) hxi)
      rw [← e1, List.getElem?_eq_getElem hi, ez] at hy'
      obtain rfl := Option.some.inj hy'
      have := (base_bd hn hSp (h.nn _ (List.getElem_mem hi')) (mem_le_sum h.nn _ (List.getElem_mem hi'))).1
      omega
    have hyn := mem_le_sum hnn y (List.mem_of_getElem? hy)
    rw [hsum] at hyn
    have em := Int.mul_ediv_add_emod (n * x) (sumI ws)
    have r0 := Int.emod_nonneg (n * x) hS
    have r1 := Int.emod_lt_of_pos (n * x) hSp
    refine ⟨y, hy, by omega, hyn, fun _ => ⟨fun hx00 => ?_, ?_, ?_⟩⟩
    · subst hx00
      rcases hyb with rfl | ⟨_, h0⟩
      · simp
      · omega
    · generalize n * x / sumI ws = q at *
      generalize (n * x) % sumI ws = r at *
      generalize sumI ws = S at *
      rcases hyb with rfl | ⟨rfl, _⟩
      · rw [Int.mul_comm y S]; omega
      · rw [Int.add_mul, Int.one_mul, Int.mul_comm q S]; omega
    · generalize n * x / sumI ws = q at *
      generalize (n * x) % sumI ws = r at *
      generalize sumI ws = S at *
      rcases hyb with rfl | ⟨rfl, _⟩
      · rw [Int.mul_comm y S]; omega
      · rw [Int.add_mul, Int.one_mul, Int.mul_comm q S]; omega
end Go.Proofs.Ytjdjahckdgbkbac
end
