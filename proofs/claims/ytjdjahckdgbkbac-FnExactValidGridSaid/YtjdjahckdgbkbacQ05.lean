import Derived.Test.YtjdjahckdgbkbacQ04
import Derived.Orders
import Derived.Below
section
namespace Go.Proofs.Ytjdjahckdgbkbac
open Go.RowKit
set_option linter.unusedVariables false
set_option maxHeartbeats 1000000
attribute [local go_sem] growUpon_value growUpon_skip growUpon_enter
def cellB (n m : Int) (c : Ce) : Bool := runB c.co c.mc n && (runB c.ro c.mr m && (rng c.cw 0 30 && (rng c.ch 0 30 && (rng c.sk 0 15 && (rng c.px 0 10 && rng c.py 0 10)))))
def gridB (L1 L2 : List Ln) (L3 : List Ce) : Bool := linesB L1 && (linesB L2 && (decide ((L3.length : Int) ≤ 8) && L3.all (cellB L1.length L2.length)))
set_option maxRecDepth 100000 in
theorem validCell_v (c : Ce) (n m : Int) (b : Bool) (w : World) (hn : 1 ≤ n) (hn5 : n ≤ 5) (hm : 1 ≤ m) (hm5 : m ≤ 5) (hb : cellB n m c = b) : Calls Try.prog 52 #[.agg #[.int .i64 c.co, .int .i64 c.ro, .int .i64 c.mc, .int .i64 c.mr, .int .i64 c.cw, .int .i64 c.ch, .int .i64 c.sk, .int .i64 c.px, .int .i64 c.py], .int .i64 n, .int .i64 m] w fun e w' => e = .returned (.bool b) ∧ Below w.heap.size w w' := by
  cases h1 : runB c.co c.mc n
  · have hbf : false = b := by rw [← hb]; simp [cellB, h1]
    subst hbf
    go_enter Try.func52, Try.ntmps52
    go_wp2_with fail
    with_reducible refine (validRun_v _ _ n false _ hn hn5 h1).mono ?_
    rintro e w1 ⟨rfl, rfl⟩
    go_wp2
    go_ret
    exact ⟨rfl, (by repeat (first | with_reducible exact Below.refl _ _ | with_reducible assumption | with_reducible refine balloc ?_ | (with_reducible refine bset ?_ ?_; rotate_left; ((try dsimp only); omega)) | refine bkeep2 ?_ (by assumption) | with_reducible refine Below.drew ?_))⟩
  cases h2 : runB c.ro c.mr m
  · have hbf : false = b := by rw [← hb]; simp [cellB, h2]
    subst hbf
    go_enter Try.func52, Try.ntmps52
    go_wp2_with fail
    with_reducible refine (validRun_v _ _ n true _ hn hn5 h1).mono ?_
    rintro e w1 ⟨rfl, rfl⟩
    go_wp2_with fail
    with_reducible refine (validRun_v _ _ m false _ hm hm5 h2).mono ?_
    rintro e w1 ⟨rfl, rfl⟩
    go_wp2
    go_ret
    exact ⟨rfl, (by repeat (first | with_reducible exact Below.refl _ _ | with_reducible assumption | with_reducible refine balloc ?_ | (with_reducible refine bset ?_ ?_; rotate_left; ((try dsimp only); omega)) | refine bkeep2 ?_ (by assumption) | with_reducible refine Below.drew ?_))⟩
  cases h3 : (rng c.cw 0 30 && rng c.ch 0 30)
  · have hbf : false = b := by rw [← hb]; cases u : rng c.cw 0 30 <;> cases v : rng c.ch 0 30 <;> simp [cellB, u, v] at h3 ⊢
    subst hbf
    go_enter Try.func52, Try.ntmps52
    go_wp2_with fail
    with_reducible refine (validRun_v _ _ n true _ hn hn5 h1).mono ?_
    rintro e w1 ⟨rfl, rfl⟩
    go_wp2_with fail
    with_reducible refine (validRun_v _ _ m true _ hm hm5 h2).mono ?_
    rintro e w1 ⟨rfl, rfl⟩
    go_wp2_with fail
    with_reducible refine (validWish_w _ _ false _ h3).mono ?_
    rintro e w1 ⟨rfl, rfl⟩
    go_wp2
    go_ret
    exact ⟨rfl, (by repeat (first | with_reducible exact Below.refl _ _ | with_reducible assumption | with_reducible refine balloc ?_ | (with_reducible refine bset ?_ ?_; rotate_left; ((try dsimp only); omega)) | refine bkeep2 ?_ (by assumption) | with_reducible refine Below.drew ?_))⟩
  obtain ⟨h3a, h3b⟩ : rng c.cw 0 30 = true ∧ rng c.ch 0 30 = true := by simpa using h3
  cases h4 : rng c.sk 0 15
  · have hbf : false = b := by rw [← hb]; simp [cellB, h4, h3a, h3b]
    subst hbf
    go_enter Try.func52, Try.ntmps52
    go_wp2_with fail
    with_reducible refine (validRun_v _ _ n true _ hn hn5 h1).mono ?_
    rintro e w1 ⟨rfl, rfl⟩
    go_wp2_with fail
    with_reducible refine (validRun_v _ _ m true _ hm hm5 h2).mono ?_
    rintro e w1 ⟨rfl, rfl⟩
    go_wp2_with fail
    with_reducible refine (validWish_w _ _ true _ h3).mono ?_
    rintro e w1 ⟨rfl, rfl⟩
    go_wp2_with fail
    with_reducible refine (within_w _ 0 15 false _ h4).mono ?_
    rintro e w1 ⟨rfl, rfl⟩
    go_wp2
    go_ret
    exact ⟨rfl, (by repeat (first | with_reducible exact Below.refl _ _ | with_reducible assumption | with_reducible refine balloc ?_ | (with_reducible refine bset ?_ ?_; rotate_left; ((try dsimp only); omega)) | refine bkeep2 ?_ (by assumption) | with_reducible refine Below.drew ?_))⟩
  cases h5 : rng c.px 0 10
  · have hbf : false = b := by rw [← hb]; simp [cellB, h5, h3a, h3b]
    subst hbf
    go_enter Try.func52, Try.ntmps52
    go_wp2_with fail
    with_reducible refine (validRun_v _ _ n true _ hn hn5 h1).mono ?_
    rintro e w1 ⟨rfl, rfl⟩
    go_wp2_with fail
    with_reducible refine (validRun_v _ _ m true _ hm hm5 h2).mono ?_
    rintro e w1 ⟨rfl, rfl⟩
    go_wp2_with fail
    with_reducible refine (validWish_w _ _ true _ h3).mono ?_
    rintro e w1 ⟨rfl, rfl⟩
    go_wp2_with fail
    with_reducible refine (within_w _ 0 15 true _ h4).mono ?_
    rintro e w1 ⟨rfl, rfl⟩
    go_wp2_with fail
    with_reducible refine (within_w _ 0 10 false _ h5).mono ?_
    rintro e w1 ⟨rfl, rfl⟩
    go_wp2
    go_ret
    exact ⟨rfl, (by repeat (first | with_reducible exact Below.refl _ _ | with_reducible assumption | with_reducible refine balloc ?_ | (with_reducible refine bset ?_ ?_; rotate_left; ((try dsimp only); omega)) | refine bkeep2 ?_ (by assumption) | with_reducible refine Below.drew ?_))⟩
  have h6 : rng c.py 0 10 = b := by rw [← hb]; simp [cellB, h1, h2, h4, h5, h3a, h3b]
  cases b
  all_goals
    go_enter Try.func52, Try.ntmps52
    go_wp2_with fail
    with_reducible refine (validRun_v _ _ n true _ hn hn5 h1).mono ?_
    rintro e w1 ⟨rfl, rfl⟩
    go_wp2_with fail
    with_reducible refine (validRun_v _ _ m true _ hm hm5 h2).mono ?_
    rintro e w1 ⟨rfl, rfl⟩
    go_wp2_with fail
    with_reducible refine (validWish_w _ _ true _ h3).mono ?_
    rintro e w1 ⟨rfl, rfl⟩
    go_wp2_with fail
    with_reducible refine (within_w _ 0 15 true _ h4).mono ?_
    rintro e w1 ⟨rfl, rfl⟩
    go_wp2_with fail
    with_reducible refine (within_w _ 0 10 true _ h5).mono ?_
    rintro e w1 ⟨rfl, rfl⟩
    go_wp2_with fail
    with_reducible refine (within_w _ 0 10 _ _ h6).mono ?_
    rintro e w1 ⟨rfl, rfl⟩
    go_wp2
    go_ret
    exact ⟨rfl, (by repeat (first | with_reducible exact Below.refl _ _ | with_reducible assumption | with_reducible refine balloc ?_ | (with_reducible refine bset ?_ ?_; rotate_left; ((try dsimp only); omega)) | refine bkeep2 ?_ (by assumption) | with_reducible refine Below.drew ?_))⟩
set_option maxRecDepth 100000 in
theorem cellF_v (c : Ce) (n m n1 n2 n3 : Nat) (c1 c2 c3 : Nat) (A1 A2 A3 : Option Addr) (b : Bool) (bx : Nat) (w : World) (hn : 1 ≤ n1) (hn5 : n1 ≤ 5) (hm : 1 ≤ n2) (hm5 : n2 ≤ 5) (hc1 : w.cell? ⟨bx, 0, none⟩ = some (.slice A1 n1 c1)) (hc2 : w.cell? ⟨bx, 1, none⟩ = some (.slice A2 n2 c2)) (hc3 : w.cell? ⟨bx, 2, none⟩ = some (.slice A3 n3 c3)) (hbx : bx < w.heap.size) (hb : cellB n1 n2 c = b) :
    Calls Try.prog 51 #[.agg #[.int .i64 c.co, .int .i64 c.ro, .int .i64 c.mc, .int .i64 c.mr, .int .i64 c.cw, .int .i64 c.ch, .int .i64 c.sk, .int .i64 c.px, .int .i64 c.py], .pointer (some ⟨bx, 0, none⟩)] w fun e w' => e = .returned (.bool b) ∧ Below w.heap.size w w' := by
  have hne : ¬ bx = w.heap.size := by omega
  go_enter Try.func51, Try.ntmps51
  go_wp2_with fail
  refine (validCell_v c n1 n2 b _ (by omega) (by omega) (by omega) (by omega) hb).mono ?_
  rintro e w1 ⟨rfl, hb1⟩
  have HB := Lib.hid (bkeep2 (balloc (Below.refl w.heap.size w)) hb1)
  clear hb1
  cases b
  all_goals
    go_wp2
    go_ret
    exact ⟨rfl, HB.out⟩
set_option maxRecDepth 100000 in
theorem allOfCe_v (A : Option Addr) (cc : Nat) (L : List Ce) (n1 n2 n3 : Nat) (c1 c2 c3 : Nat) (A1 A2 A3 : Option Addr) (b : Bool) (bx : Nat) (w : World) (h : CeV w A L) (hL : L.length ≤ 1048576) (hn : 1 ≤ n1) (hn5 : n1 ≤ 5) (hm : 1 ≤ n2) (hm5 : n2 ≤ 5) (hc : w.heap[bx]? = some (.cells #[.slice A1 n1 c1, .slice A2 n2 c2, .slice A3 n3 c3] 45 (0, 0))) (hb0 : L.all (cellB n1 n2) = b) :
    Calls Try.prog 54 #[.slice A L.length cc, .func (.func 51) #[] #[.pointer (some ⟨bx, 0, none⟩)]] w fun e w' => e = .returned (.bool b) ∧ Below w.heap.size w w' := by
  have HB0 := Lib.hid hb0
  have HC0 := Lib.hid hc
  clear hb0 hc
  go_enter Try.func54, Try.ntmps54
  go_wp2_with fail
  go_loopw [9] (fun i wr => ∃ k : Nat, k ≤ L.length ∧ i = .int .i64 k ∧ (L.take k).all (cellB n1 n2) = true ∧ Below w.heap.size w wr) (fun i _ => L.length - (intOf i).toNat)
  case atStart => exact ⟨0, by omega, rfl, rfl, Below.refl _ _⟩
  case round =>
    obtain ⟨k, hk, rfl, hok, hB⟩ := hrel
    by_cases hlt : k < L.length
    · have hd : decide ((k : Int) < (L.length : Int)) = true := by simpa using hlt
      obtain ⟨b', off, rfl, hb', hp⟩ := (h.keep hB).cells (by omega)
      have hget : L[k]? = some L[k] := List.getElem?_eq_getElem hlt
      obtain ⟨g0, g1, g2, g3, g4, g5, g6, g7, g8⟩ := hp k _ hget
      generalize hx : L[k] = p at *
      have HG := Lib.hid hget
      have HX := Lib.hid hx
      have HO := Lib.hid hok
      have HBB := Lib.hid hB
      have HBA := Lib.hid (balloc (o := (.cells #[.int .i64 p.co, .int .i64 p.ro, .int .i64 p.mc, .int .i64 p.mr, .int .i64 p.cw, .int .i64 p.ch, .int .i64 p.sk, .int .i64 p.px, .int .i64 p.py] 52 (0, 0))) hB)
      have hbx := ltS HC0.out
      have HH := Lib.hid ((HBA.out.block bx hbx).trans HC0.out)
      have hlx := Nat.lt_of_lt_of_le hbx HBA.out.size
      clear hget hx hok hB hp
      cases hv : cellB n1 n2 p
      all_goals
        have Hv := Lib.hid hv
        clear hv
        go_wp2_with fail
        first | (with_reducible refine (cellF_v p 0 0 n1 n2 n3 c1 c2 c3 A1 A2 A3 false bx _ hn hn5 hm hm5 (cellS HH.out 0) (cellS HH.out 1) (cellS HH.out 2) hlx Hv.out).mono ?_) | (with_reducible refine (cellF_v p 0 0 n1 n2 n3 c1 c2 c3 A1 A2 A3 true bx _ hn hn5 hm hm5 (cellS HH.out 0) (cellS HH.out 1) (cellS HH.out 2) hlx Hv.out).mono ?_)
        rintro e w1 ⟨rfl, hb1⟩
        replace HBB := Lib.hid (bkeep2 (balloc HBB.out) hb1)
        clear hb1 g0 g1 g2 g3 g4 g5 g6 g7 g8 HBA HH
        go_wp2
      · go_ret
        exact ⟨ret_bool (by rw [← HB0.out]; exact (all_falseG HG.out Hv.out).symm), HBB.out⟩
      · go_roundw
        case rel => exact ⟨k + 1, by omega, by go_num, by rw [all_snocG HG.out, HO.out, Hv.out]; rfl, HBB.out⟩
        case measure => simp [intOf]; omega
    · have hd : decide ((k : Int) < (L.length : Int)) = false := decide_eq_false (by omega)
      have he : L.take k = L := List.take_of_length_le (by omega)
      rw [he] at hok
      have HO := Lib.hid hok
      have HBB := Lib.hid hB
      clear hok hB he
      go_wp2
      go_ret
      exact ⟨ret_bool (by rw [← HB0.out, HO.out]), HBB.out⟩
theorem linesB_len' {L : List Ln} (h : linesB L = true) : 1 ≤ L.length ∧ L.length ≤ 5 := by
  simp only [linesB, Bool.and_eq_true, rng_iff] at h
  omega
set_option maxRecDepth 100000 in
theorem validGrid_v (A1 : Option Addr) (c1 : Nat) (L1 : List Ln) (A2 : Option Addr) (c2 : Nat) (L2 : List Ln) (A3 : Option Addr) (c3 : Nat) (L3 : List Ce) (b : Bool) (w : World) (h1 : LnV w A1 L1) (h2 : LnV w A2 L2) (h3 : CeV w A3 L3) (k1 : L1.length ≤ 1048576) (k2 : L2.length ≤ 1048576) (k3 : L3.length ≤ 1048576) (hb : gridB L1 L2 L3 = b) :
    Calls Try.prog 21 #[.agg #[.slice A1 L1.length c1, .slice A2 L2.length c2, .slice A3 L3.length c3]] w fun e w' => e = .returned (.bool b) ∧ Below w.heap.size w w' := by
  have hB0 : Below w.heap.size w (w.alloc (.cells #[.slice A1 L1.length c1, .slice A2 L2.length c2, .slice A3 L3.length c3] 45 (0, 0))) := balloc (Below.refl _ _)
  have HX := Lib.hid (newS w (.cells #[.slice A1 L1.length c1, .slice A2 L2.length c2, .slice A3 L3.length c3] 45 (0, 0)))
  have HV1 := Lib.hid (h1.keep hB0)
  have HV2 := Lib.hid (h2.keep hB0)
  have HV3 := Lib.hid (h3.keep hB0)
  have HB := Lib.hid hB0
  clear hB0 h1 h2 h3
  cases g1 : linesB L1
  · have hbf : false = b := by rw [← hb]; simp [gridB, g1]
    subst hbf
    go_enter Try.func21, Try.ntmps21
    go_wp2_with fail
    with_reducible refine (validLines_v A1 c1 L1 false _ HV1.out k1 g1).mono ?_
    rintro e w1 ⟨rfl, hb1⟩
    replace HB := Lib.hid (bkeep2 HB.out hb1)
    clear hb1
    go_wp2
    go_ret
    exact ⟨rfl, HB.out⟩
  cases g2 : linesB L2
  · have hbf : false = b := by rw [← hb]; simp [gridB, g1, g2]
    subst hbf
    go_enter Try.func21, Try.ntmps21
    go_wp2_with fail
    with_reducible refine (validLines_v A1 c1 L1 true _ HV1.out k1 g1).mono ?_
    rintro e w1 ⟨rfl, hb1⟩
    replace HB := Lib.hid (bkeep2 HB.out hb1)
    replace HX := Lib.hid ((hb1.block _ (ltS HX.out)).trans HX.out)
    replace HV2 := Lib.hid (HV2.out.keep hb1)
    clear hb1
    have d0 := cellS HX.out 0
    have d1 := cellS HX.out 1
    have d2 := cellS HX.out 2
    go_wp2_with fail
    with_reducible refine (validLines_v A2 c2 L2 false _ HV2.out k2 g2).mono ?_
    rintro e w2 ⟨rfl, hb1⟩
    replace HB := Lib.hid (bkeep2 HB.out hb1)
    clear hb1 d0 d1 d2
    go_wp2
    go_ret
    exact ⟨rfl, HB.out⟩
  obtain ⟨n1, n1'⟩ := linesB_len' g1
  obtain ⟨n2, n2'⟩ := linesB_len' g2
  by_cases g3 : (L3.length : Int) ≤ 8
  · have hd : decide ((L3.length : Int) ≤ 8) = true := by simpa using g3
    have g4 : L3.all (cellB L1.length L2.length) = b := by rw [← hb]; simp [gridB, g1, g2, hd]
    cases b
    all_goals
      go_enter Try.func21, Try.ntmps21
      go_wp2_with fail
      with_reducible refine (validLines_v A1 c1 L1 true _ HV1.out k1 g1).mono ?_
      rintro e w1 ⟨rfl, hb1⟩
      replace HB := Lib.hid (bkeep2 HB.out hb1)
      replace HX := Lib.hid ((hb1.block _ (ltS HX.out)).trans HX.out)
      replace HV2 := Lib.hid (HV2.out.keep hb1)
      replace HV3 := Lib.hid (HV3.out.keep hb1)
      clear hb1
      have d0 := cellS HX.out 0
      have d1 := cellS HX.out 1
      have d2 := cellS HX.out 2
      go_wp2_with fail
      with_reducible refine (validLines_v A2 c2 L2 true _ HV2.out k2 g2).mono ?_
      rintro e w2 ⟨rfl, hb1⟩
      replace HB := Lib.hid (bkeep2 HB.out hb1)
      replace HX := Lib.hid ((hb1.block _ (ltS HX.out)).trans HX.out)
      replace HV3 := Lib.hid (HV3.out.keep hb1)
      clear hb1 d0 d1 d2
      have d0 := cellS HX.out 0
      have d1 := cellS HX.out 1
      have d2 := cellS HX.out 2
      go_wp2_with fail
      with_reducible refine (allOfCe_v A3 c3 L3 L1.length L2.length L3.length c1 c2 c3 A1 A2 A3 _ w.heap.size _ HV3.out k3 n1 n1' n2 n2' HX.out g4).mono ?_
      rintro e w3 ⟨rfl, hb1⟩
      replace HB := Lib.hid (bkeep2 HB.out hb1)
      clear hb1 d0 d1 d2
      go_wp2
      go_ret
      exact ⟨rfl, HB.out⟩
  · have hd : decide ((L3.length : Int) ≤ 8) = false := decide_eq_false g3
    have hbf : false = b := by rw [← hb]; simp [gridB, g1, g2, hd]
    subst hbf
    go_enter Try.func21, Try.ntmps21
    go_wp2_with fail
    with_reducible refine (validLines_v A1 c1 L1 true _ HV1.out k1 g1).mono ?_
    rintro e w1 ⟨rfl, hb1⟩
    replace HB := Lib.hid (bkeep2 HB.out hb1)
    replace HX := Lib.hid ((hb1.block _ (ltS HX.out)).trans HX.out)
    replace HV2 := Lib.hid (HV2.out.keep hb1)
    clear hb1
    have d0 := cellS HX.out 0
    have d1 := cellS HX.out 1
    have d2 := cellS HX.out 2
    go_wp2_with fail
    with_reducible refine (validLines_v A2 c2 L2 true _ HV2.out k2 g2).mono ?_
    rintro e w2 ⟨rfl, hb1⟩
    replace HB := Lib.hid (bkeep2 HB.out hb1)
    replace HX := Lib.hid ((hb1.block _ (ltS HX.out)).trans HX.out)
    clear hb1 d0 d1 d2
    have d0 := cellS HX.out 0
    have d1 := cellS HX.out 1
    have d2 := cellS HX.out 2
    go_wp2
    go_ret
    exact ⟨rfl, HB.out⟩
set_option maxRecDepth 100000 in
theorem svalidCell_v (c : Ce) (n1 n2 n3 c1 c2 c3 : Nat) (A1 A2 A3 : Option Addr) (b : Bool) (w : World) (hn : n1 ≤ 1048576) (hm : n2 ≤ 1048576) (hb : cellB n1 n2 c = b) : Calls Try.prog 68 #[.agg #[.slice A1 n1 c1, .slice A2 n2 c2, .slice A3 n3 c3], .agg #[.int .i64 c.co, .int .i64 c.ro, .int .i64 c.mc, .int .i64 c.mr, .int .i64 c.cw, .int .i64 c.ch, .int .i64 c.sk, .int .i64 c.px, .int .i64 c.py]] w fun e w' => e = .returned (.bool b) ∧ Below w.heap.size w w' := by
  cases h1 : rng c.co 0 ((n1 : Int) - 1)
  · have hbf : false = b := by rw [← hb]; simp [cellB, runB, h1]
    subst hbf
    go_enter Try.func68, Try.ntmps68
    go_wp2_with fail
    with_reducible refine (inRange_w _ 0 ((n1 : Int) - 1) false _ h1).mono ?_
    rintro e w1 ⟨rfl, rfl⟩
    go_wp2
    go_ret
    exact ⟨rfl, (by repeat (first | with_reducible exact Below.refl _ _ | with_reducible assumption | with_reducible refine balloc ?_ | (with_reducible refine bset ?_ ?_; rotate_left; ((try dsimp only); omega)) | refine bkeep2 ?_ (by assumption) | with_reducible refine Below.drew ?_))⟩
  have ha1 := rng_iff.1 h1
  cases h2 : rng c.ro 0 ((n2 : Int) - 1)
  · have hbf : false = b := by rw [← hb]; simp [cellB, runB, h2]
    subst hbf
    go_enter Try.func68, Try.ntmps68
    go_wp2_with fail
    with_reducible refine (inRange_w _ 0 ((n1 : Int) - 1) true _ h1).mono ?_
    rintro e w1 ⟨rfl, rfl⟩
    go_wp2_with fail
    with_reducible refine (inRange_w _ 0 ((n2 : Int) - 1) false _ h2).mono ?_
    rintro e w1 ⟨rfl, rfl⟩
    go_wp2
    go_ret
    exact ⟨rfl, (by repeat (first | with_reducible exact Below.refl _ _ | with_reducible assumption | with_reducible refine balloc ?_ | (with_reducible refine bset ?_ ?_; rotate_left; ((try dsimp only); omega)) | refine bkeep2 ?_ (by assumption) | with_reducible refine Below.drew ?_))⟩
  have ha2 := rng_iff.1 h2
  cases h3 : rng c.mc 1 ((n1 : Int) - c.co)
  · have hbf : false = b := by rw [← hb]; simp [cellB, runB, h3]
    subst hbf
    go_enter Try.func68, Try.ntmps68
    go_wp2_with fail
    with_reducible refine (inRange_w _ 0 ((n1 : Int) - 1) true _ h1).mono ?_
    rintro e w1 ⟨rfl, rfl⟩
    go_wp2_with fail
    with_reducible refine (inRange_w _ 0 ((n2 : Int) - 1) true _ h2).mono ?_
    rintro e w1 ⟨rfl, rfl⟩
    go_wp2_with fail
    with_reducible refine (inRange_w _ 1 ((n1 : Int) - c.co) false _ h3).mono ?_
    rintro e w1 ⟨rfl, rfl⟩
    go_wp2
    go_ret
    exact ⟨rfl, (by repeat (first | with_reducible exact Below.refl _ _ | with_reducible assumption | with_reducible refine balloc ?_ | (with_reducible refine bset ?_ ?_; rotate_left; ((try dsimp only); omega)) | refine bkeep2 ?_ (by assumption) | with_reducible refine Below.drew ?_))⟩
  cases h4 : rng c.mr 1 ((n2 : Int) - c.ro)
  · have hbf : false = b := by rw [← hb]; simp [cellB, runB, h4]
    subst hbf
    go_enter Try.func68, Try.ntmps68
    go_wp2_with fail
    with_reducible refine (inRange_w _ 0 ((n1 : Int) - 1) true _ h1).mono ?_
    rintro e w1 ⟨rfl, rfl⟩
    go_wp2_with fail
    with_reducible refine (inRange_w _ 0 ((n2 : Int) - 1) true _ h2).mono ?_
    rintro e w1 ⟨rfl, rfl⟩
    go_wp2_with fail
    with_reducible refine (inRange_w _ 1 ((n1 : Int) - c.co) true _ h3).mono ?_
    rintro e w1 ⟨rfl, rfl⟩
    go_wp2_with fail
    with_reducible refine (inRange_w _ 1 ((n2 : Int) - c.ro) false _ h4).mono ?_
    rintro e w1 ⟨rfl, rfl⟩
    go_wp2
    go_ret
    exact ⟨rfl, (by repeat (first | with_reducible exact Below.refl _ _ | with_reducible assumption | with_reducible refine balloc ?_ | (with_reducible refine bset ?_ ?_; rotate_left; ((try dsimp only); omega)) | refine bkeep2 ?_ (by assumption) | with_reducible refine Below.drew ?_))⟩
  cases h5 : rng c.cw 0 30
  · have hbf : false = b := by rw [← hb]; simp [cellB, runB, h5]
    subst hbf
    go_enter Try.func68, Try.ntmps68
    go_wp2_with fail
    with_reducible refine (inRange_w _ 0 ((n1 : Int) - 1) true _ h1).mono ?_
    rintro e w1 ⟨rfl, rfl⟩
    go_wp2_with fail
    with_reducible refine (inRange_w _ 0 ((n2 : Int) - 1) true _ h2).mono ?_
    rintro e w1 ⟨rfl, rfl⟩
    go_wp2_with fail
    with_reducible refine (inRange_w _ 1 ((n1 : Int) - c.co) true _ h3).mono ?_
    rintro e w1 ⟨rfl, rfl⟩
    go_wp2_with fail
    with_reducible refine (inRange_w _ 1 ((n2 : Int) - c.ro) true _ h4).mono ?_
    rintro e w1 ⟨rfl, rfl⟩
    go_wp2_with fail
    with_reducible refine (inRange_w _ 0 30 false _ h5).mono ?_
    rintro e w1 ⟨rfl, rfl⟩
    go_wp2
    go_ret
    exact ⟨rfl, (by repeat (first | with_reducible exact Below.refl _ _ | with_reducible assumption | with_reducible refine balloc ?_ | (with_reducible refine bset ?_ ?_; rotate_left; ((try dsimp only); omega)) | refine bkeep2 ?_ (by assumption) | with_reducible refine Below.drew ?_))⟩
  cases h6 : rng c.ch 0 30
  · have hbf : false = b := by rw [← hb]; simp [cellB, runB, h6]
    subst hbf
    go_enter Try.func68, Try.ntmps68
    go_wp2_with fail
    with_reducible refine (inRange_w _ 0 ((n1 : Int) - 1) true _ h1).mono ?_
    rintro e w1 ⟨rfl, rfl⟩
    go_wp2_with fail
    with_reducible refine (inRange_w _ 0 ((n2 : Int) - 1) true _ h2).mono ?_
    rintro e w1 ⟨rfl, rfl⟩
    go_wp2_with fail
    with_reducible refine (inRange_w _ 1 ((n1 : Int) - c.co) true _ h3).mono ?_
    rintro e w1 ⟨rfl, rfl⟩
    go_wp2_with fail
    with_reducible refine (inRange_w _ 1 ((n2 : Int) - c.ro) true _ h4).mono ?_
    rintro e w1 ⟨rfl, rfl⟩
    go_wp2_with fail
    with_reducible refine (inRange_w _ 0 30 true _ h5).mono ?_
    rintro e w1 ⟨rfl, rfl⟩
    go_wp2_with fail
    with_reducible refine (inRange_w _ 0 30 false _ h6).mono ?_
    rintro e w1 ⟨rfl, rfl⟩
    go_wp2
    go_ret
    exact ⟨rfl, (by repeat (first | with_reducible exact Below.refl _ _ | with_reducible assumption | with_reducible refine balloc ?_ | (with_reducible refine bset ?_ ?_; rotate_left; ((try dsimp only); omega)) | refine bkeep2 ?_ (by assumption) | with_reducible refine Below.drew ?_))⟩
  cases h7 : rng c.sk 0 15
  · have hbf : false = b := by rw [← hb]; simp [cellB, runB, h7]
    subst hbf
    go_enter Try.func68, Try.ntmps68
    go_wp2_with fail
    with_reducible refine (inRange_w _ 0 ((n1 : Int) - 1) true _ h1).mono ?_
    rintro e w1 ⟨rfl, rfl⟩
    go_wp2_with fail
    with_reducible refine (inRange_w _ 0 ((n2 : Int) - 1) true _ h2).mono ?_
    rintro e w1 ⟨rfl, rfl⟩
    go_wp2_with fail
    with_reducible refine (inRange_w _ 1 ((n1 : Int) - c.co) true _ h3).mono ?_
    rintro e w1 ⟨rfl, rfl⟩
    go_wp2_with fail
    with_reducible refine (inRange_w _ 1 ((n2 : Int) - c.ro) true _ h4).mono ?_
    rintro e w1 ⟨rfl, rfl⟩
    go_wp2_with fail
    with_reducible refine (inRange_w _ 0 30 true _ h5).mono ?_
    rintro e w1 ⟨rfl, rfl⟩
    go_wp2_with fail
    with_reducible refine (inRange_w _ 0 30 true _ h6).mono ?_
    rintro e w1 ⟨rfl, rfl⟩
    go_wp2_with fail
    with_reducible refine (inRange_w _ 0 15 false _ h7).mono ?_
    rintro e w1 ⟨rfl, rfl⟩
    go_wp2
    go_ret
    exact ⟨rfl, (by repeat (first | with_reducible exact Below.refl _ _ | with_reducible assumption | with_reducible refine balloc ?_ | (with_reducible refine bset ?_ ?_; rotate_left; ((try dsimp only); omega)) | refine bkeep2 ?_ (by assumption) | with_reducible refine Below.drew ?_))⟩
  cases h8 : rng c.px 0 10
  · have hbf : false = b := by rw [← hb]; simp [cellB, runB, h8]
    subst hbf
    go_enter Try.func68, Try.ntmps68
    go_wp2_with fail
    with_reducible refine (inRange_w _ 0 ((n1 : Int) - 1) true _ h1).mono ?_
    rintro e w1 ⟨rfl, rfl⟩
    go_wp2_with fail
    with_reducible refine (inRange_w _ 0 ((n2 : Int) - 1) true _ h2).mono ?_
    rintro e w1 ⟨rfl, rfl⟩
    go_wp2_with fail
    with_reducible refine (inRange_w _ 1 ((n1 : Int) - c.co) true _ h3).mono ?_
    rintro e w1 ⟨rfl, rfl⟩
    go_wp2_with fail
    with_reducible refine (inRange_w _ 1 ((n2 : Int) - c.ro) true _ h4).mono ?_
    rintro e w1 ⟨rfl, rfl⟩
    go_wp2_with fail
    with_reducible refine (inRange_w _ 0 30 true _ h5).mono ?_
    rintro e w1 ⟨rfl, rfl⟩
    go_wp2_with fail
    with_reducible refine (inRange_w _ 0 30 true _ h6).mono ?_
    rintro e w1 ⟨rfl, rfl⟩
    go_wp2_with fail
    with_reducible refine (inRange_w _ 0 15 true _ h7).mono ?_
    rintro e w1 ⟨rfl, rfl⟩
    go_wp2_with fail
    with_reducible refine (inRange_w _ 0 10 false _ h8).mono ?_
    rintro e w1 ⟨rfl, rfl⟩
    go_wp2
    go_ret
    exact ⟨rfl, (by repeat (first | with_reducible exact Below.refl _ _ | with_reducible assumption | with_reducible refine balloc ?_ | (with_reducible refine bset ?_ ?_; rotate_left; ((try dsimp only); omega)) | refine bkeep2 ?_ (by assumption) | with_reducible refine Below.drew ?_))⟩
  have h9 : rng c.py 0 10 = b := by rw [← hb]; simp [cellB, runB, h1, h2, h3, h4, h5, h6, h7, h8]
  cases b
  all_goals
    go_enter Try.func68, Try.ntmps68
    go_wp2_with fail
    with_reducible refine (inRange_w _ 0 ((n1 : Int) - 1) true _ h1).mono ?_
    rintro e w1 ⟨rfl, rfl⟩
    go_wp2_with fail
    with_reducible refine (inRange_w _ 0 ((n2 : Int) - 1) true _ h2).mono ?_
    rintro e w1 ⟨rfl, rfl⟩
    go_wp2_with fail
    with_reducible refine (inRange_w _ 1 ((n1 : Int) - c.co) true _ h3).mono ?_
    rintro e w1 ⟨rfl, rfl⟩
    go_wp2_with fail
    with_reducible refine (inRange_w _ 1 ((n2 : Int) - c.ro) true _ h4).mono ?_
    rintro e w1 ⟨rfl, rfl⟩
    go_wp2_with fail
    with_reducible refine (inRange_w _ 0 30 true _ h5).mono ?_
    rintro e w1 ⟨rfl, rfl⟩
    go_wp2_with fail
    with_reducible refine (inRange_w _ 0 30 true _ h6).mono ?_
    rintro e w1 ⟨rfl, rfl⟩
    go_wp2_with fail
    with_reducible refine (inRange_w _ 0 15 true _ h7).mono ?_
    rintro e w1 ⟨rfl, rfl⟩
    go_wp2_with fail
    with_reducible refine (inRange_w _ 0 10 true _ h8).mono ?_
    rintro e w1 ⟨rfl, rfl⟩
    go_wp2_with fail
    with_reducible refine (inRange_w _ 0 10 _ _ h9).mono ?_
    rintro e w1 ⟨rfl, rfl⟩
    go_wp2
    go_ret
    exact ⟨rfl, (by repeat (first | with_reducible exact Below.refl _ _ | with_reducible assumption | with_reducible refine balloc ?_ | (with_reducible refine bset ?_ ?_; rotate_left; ((try dsimp only); omega)) | refine bkeep2 ?_ (by assumption) | with_reducible refine Below.drew ?_))⟩
set_option maxRecDepth 100000 in
theorem svalidGrid_v (A1 : Option Addr) (c1 : Nat) (L1 : List Ln) (A2 : Option Addr) (c2 : Nat) (L2 : List Ln) (A3 : Option Addr) (c3 : Nat) (L3 : List Ce) (b : Bool) (w : World) (h1 : LnV w A1 L1) (h2 : LnV w A2 L2) (h3 : CeV w A3 L3) (k1 : L1.length ≤ 1048576) (k2 : L2.length ≤ 1048576) (k3 : L3.length ≤ 1048576) (hb : gridB L1 L2 L3 = b) :
    Calls Try.prog 48 #[.agg #[.slice A1 L1.length c1, .slice A2 L2.length c2, .slice A3 L3.length c3]] w fun e w' => e = .returned (.bool b) ∧ Below w.heap.size w w' := by
  have hB0 : Below w.heap.size w (w.alloc (.cells #[.slice A1 L1.length c1, .slice A2 L2.length c2, .slice A3 L3.length c3] 45 (0, 0))) := balloc (Below.refl _ _)
  have HX := Lib.hid (newS w (.cells #[.slice A1 L1.length c1, .slice A2 L2.length c2, .slice A3 L3.length c3] 45 (0, 0)))
  have HB := Lib.hid hB0
  have HBB := Lib.hid hb
  clear hB0 hb
  go_enter Try.func48, Try.ntmps48
  go_wp2_with fail
  go_loopw [3] (fun i wr => ∃ k : Nat, k ≤ L3.length ∧ i = .int .i64 k ∧ (L3.take k).all (cellB L1.length L2.length) = true ∧ Below w.heap.size w wr ∧ wr.heap[w.heap.size]? = some (.cells #[.slice A1 L1.length c1, .slice A2 L2.length c2, .slice A3 L3.length c3] 45 (0, 0))) (fun i _ => L3.length - (intOf i).toNat)
  case atStart => exact ⟨0, by omega, rfl, rfl, HB.out, HX.out⟩
  case round =>
    obtain ⟨k, hk, rfl, hok, hB, hX⟩ := hrel
    clear HB HX
    have d0 := cellS hX 0
    have d1 := cellS hX 1
    have d2 := cellS hX 2
    have hltx := ltS hX
    have HX := Lib.hid hX
    by_cases hlt : k < L3.length
    · have hd : decide ((k : Int) < (L3.length : Int)) = true := by simpa using hlt
      obtain ⟨b', off, rfl, hb', hp⟩ := (h3.keep hB).cells (by omega)
      have hget : L3[k]? = some L3[k] := List.getElem?_eq_getElem hlt
      obtain ⟨e0, e1, e2, e3, e4, e5, e6, e7, e8⟩ := hp k _ hget
      generalize hx : L3[k] = p at *
      have HG := Lib.hid hget
      have HO := Lib.hid hok
      have HB := Lib.hid hB
      clear hget hx hok hB hX hp
      cases hv : cellB L1.length L2.length p
      all_goals
        have Hv := Lib.hid hv
        clear hv
        have hv := Hv.out
        go_wp2_with fail
        refine wp_region_grow 8 0 (· < 8) (by kernel_rfl) (by kernel_rfl) rfl ?_
        iterate 8 (refine wpG_step (fun K hK => ?_); first | (refine grow_skip rfl ?_; go_simp; refine hK _ ?_; clear hK K) | (apply Exists.intro; refine ⟨.inl ⟨rfl, fun w' hw' => ?_⟩, ?_⟩; (focus ((obtain ⟨hc, hf⟩ := bcell hw'.out); (have hcS := bcellS hw'.out); go_simp <;> first | rfl | (go_at_call 68; exact svalidCell_v p L1.length L2.length L3.length c1 c2 c3 A1 A2 _ _ _ k1 k2 hv))); (go_simp; refine hK _ ?_; clear hK K)))
        refine wpG_nil ?_
        refine wpK_tail (by kernel_rfl) (fun w9 hg9 => ?_)
        have hb9 := bdrewn hg9.out
        refine wpAny_end (by kernel_rfl) ?_
        refine NoPan.thn ?_
        clear hg9
        clear hv
        replace HB := Lib.hid (bkeep2 HB.out hb9)
        replace HX := Lib.hid ((hb9.block _ (ltS HX.out)).trans HX.out)
        have hb1 := hb9
        clear hb9
        clear hb1 d0 d1 d2 e0 e1 e2 e3 e4 e5 e6 e7 e8
        go_wp2
      · go_ret
        exact ⟨ret_bool (by rw [← HBB.out]; simp [gridB, all_falseG HG.out Hv.out]), HB.out⟩
      · go_roundw
        case rel => exact ⟨k + 1, by omega, by go_num, by rw [all_snocG HG.out, HO.out, Hv.out]; rfl, HB.out, HX.out⟩
        case measure => simp [intOf]; omega
    · have hd : decide ((k : Int) < (L3.length : Int)) = false := decide_eq_false (by omega)
      have he : L3.take k = L3 := List.take_of_length_le (by omega)
      rw [he] at hok
      have HO := Lib.hid hok
      have HB := Lib.hid hB
      have HV1 := Lib.hid (h1.keep hB)
      have HV2 := Lib.hid (h2.keep hB)
      clear hok hB he hX
      cases g1 : linesB L1
      · go_wp2_with fail
        with_reducible refine (svalidLines_v A1 c1 L1 false _ HV1.out k1 g1).mono ?_
        rintro e w1 ⟨rfl, hb1⟩
        replace HB := Lib.hid (bkeep2 HB.out hb1)
        clear hb1 d0 d1 d2
        go_wp2
        go_ret
        exact ⟨ret_bool (by rw [← HBB.out]; simp [gridB, g1]), HB.out⟩
      · go_wp2_with fail
        with_reducible refine (svalidLines_v A1 c1 L1 true _ HV1.out k1 g1).mono ?_
        rintro e w1 ⟨rfl, hb1⟩
        replace HB := Lib.hid (bkeep2 HB.out hb1)
        replace HX := Lib.hid ((hb1.block _ (ltS HX.out)).trans HX.out)
        replace HV2 := Lib.hid (HV2.out.keep hb1)
        clear hb1 d0 d1 d2
        have d0 := cellS HX.out 0
        have d1 := cellS HX.out 1
        have d2 := cellS HX.out 2
        cases g2 : linesB L2
        · go_wp2_with fail
          with_reducible refine (svalidLines_v A2 c2 L2 false _ HV2.out k2 g2).mono ?_
          rintro e w2 ⟨rfl, hb1⟩
          replace HB := Lib.hid (bkeep2 HB.out hb1)
          clear hb1 d0 d1 d2
          go_wp2
          go_ret
          exact ⟨ret_bool (by rw [← HBB.out]; simp [gridB, g1, g2]), HB.out⟩
        · go_wp2_with fail
          with_reducible refine (svalidLines_v A2 c2 L2 true _ HV2.out k2 g2).mono ?_
          rintro e w2 ⟨rfl, hb1⟩
          replace HB := Lib.hid (bkeep2 HB.out hb1)
          replace HX := Lib.hid ((hb1.block _ (ltS HX.out)).trans HX.out)
          clear hb1 d0 d1 d2
          have d0 := cellS HX.out 0
          have d1 := cellS HX.out 1
          have d2 := cellS HX.out 2
          go_wp2
          all_goals go_ret
          all_goals exact ⟨ret_bool (by rw [← HBB.out]; simp [gridB, g1, g2, HO.out]), HB.out⟩
theorem svalidGrid2_v (A1 : Option Addr) (c1 : Nat) (L1 : List Ln) (A2 : Option Addr) (c2 : Nat) (L2 : List Ln) (A3 : Option Addr) (c3 : Nat) (L3 : List Ce) (b : Bool) (w : World) (h1 : LnV w A1 L1) (h2 : LnV w A2 L2) (h3 : CeV w A3 L3) (k1 : L1.length ≤ 1048576) (k2 : L2.length ≤ 1048576) (k3 : L3.length ≤ 1048576) (hb : gridB L1 L2 L3 = b) :
    Calls Try.prog 19 #[.agg #[.slice A1 L1.length c1, .slice A2 L2.length c2, .slice A3 L3.length c3]] w fun e w' => e = .returned (.bool b) ∧ Below w.heap.size w w' := by
  have hB0 : Below w.heap.size w (w.alloc (.cells #[.slice A1 L1.length c1, .slice A2 L2.length c2, .slice A3 L3.length c3] 45 (0, 0))) := balloc (Below.refl _ _)
  have HV1 := Lib.hid (h1.keep hB0)
  have HV2 := Lib.hid (h2.keep hB0)
  have HV3 := Lib.hid (h3.keep hB0)
  have HB := Lib.hid hB0
  clear hB0 h1 h2 h3
  cases b
  all_goals
    go_enter Try.func19, Try.ntmps19
    go_wp2_with fail
    with_reducible refine (svalidGrid_v A1 c1 L1 A2 c2 L2 A3 c3 L3 _ _ HV1.out HV2.out HV3.out k1 k2 k3 hb).mono ?_
    rintro e w1 ⟨rfl, hb1⟩
    replace HB := Lib.hid (bkeep2 HB.out hb1)
    clear hb1
    go_wp2
    go_ret
    exact ⟨rfl, HB.out⟩
end Go.Proofs.Ytjdjahckdgbkbac
end
section
/- A region that draws its order: an invariant of the world that every operation keeps, and for each operation a property of its value that no other operation breaks: every order serves. -/
namespace Go.Proofs.Ytjdjahckdgbkbac
open Go Go.RowKit
set_option linter.unusedVariables false
section
variable {P : Program}
def givesUpon (P : Program) (K : Value → World → Prop) : Result Next → Prop
  | .ok (.value v) w' => K v w'
  | .ok .skip w' => K undef w'
  | .ok (.enter f args) w' => Calls P f args w' fun e w'' => ∃ v, e = .returned v ∧ K v w''
  | _ => False
theorem givesUpon_value (K : Value → World → Prop) (v : Value) (w : World) : givesUpon P K (.ok (.value v) w) = K v w := rfl
theorem givesUpon_skip (K : Value → World → Prop) (w : World) : givesUpon P K (.ok .skip w) = K undef w := rfl
theorem givesUpon_enter (K : Value → World → Prop) (f : FuncId) (args : Array Value) (w : World) : givesUpon P K (.ok (.enter f args) w) = Calls P f args w fun e w'' => ∃ v, e = .returned v ∧ K v w'' := rfl
/-- which operation fills this temporary -/
def dstIdx (t : Tmp) : List Oper → Nat → Option Nat
  | [], _ => none
  | o :: r, k => if o.dst = some t then some k else dstIdx t r (k + 1)
theorem dstIdx_none {t : Tmp} : ∀ {l : List Oper} {k : Nat}, dstIdx t l k = none → ∀ o ∈ l, o.dst ≠ some t
  | [], _, _, _, h => by cases h
  | x :: r, k, h, o, ho => by
    unfold dstIdx at h
    split at h
    · cases h
    · rename_i hne
      rcases List.mem_cons.1 ho with rfl | ho
      · exact hne
      · exact dstIdx_none h o ho
theorem dstIdx_some {t : Tmp} : ∀ {l : List Oper} {k j : Nat}, dstIdx t l k = some j → k ≤ j ∧ ∃ o, l[j - k]? = some o ∧ o.dst = some t
  | [], _, _, h => by cases h
  | x :: r, k, j, h => by
    unfold dstIdx at h
    split at h
    · rename_i he
      injection h with h
      subst h
      exact ⟨Nat.le_refl _, x, by simp, he⟩
    · obtain ⟨h1, o, h2, h3⟩ := dstIdx_some h
      refine ⟨by omega, o, ?_, h3⟩
      rw [show j - k = (j - (k + 1)) + 1 from by omega]
      simpa using h2
def tv (a : Act) (t : Tmp) : Value := a.tmps.getD t undef
/-- what an operation may lean on: the values of the temporaries that it reads -/
def look (ops : List Oper) (T : Nat → Value → World → Prop) (a0 a : Act) (w : World) : List Tmp → Prop → Prop
  | [], G => G
  | t :: r, G => (match dstIdx t ops 0 with | some j => T j (tv a t) w | none => tv a t = tv a0 t) → look ops T a0 a w r G
def opOK (P : Program) (ops : List Oper) (T : Nat → Value → World → Prop) (R : World → World → Prop) (I : Nat → World → Prop) (a0 : Act) (w0 : World) (k : Nat) (o : Oper) : Prop :=
  ∀ (m : Nat) (a : Act) (w : World), m < ops.length → R w0 w → I m w →
    look ops T a0 a w (o.looksAt ops.toArray)
      (match o.guard with
       | none => givesUpon P (fun v w' => T k v w' ∧ R w w' ∧ I (m + 1) w') ((execOp a.eval o).run P w)
       | some _ => (Region.wanted o (yielded ops.toArray a.tmps) = true → givesUpon P (fun v w' => T k v w' ∧ R w w' ∧ I (m + 1) w') ((execOp a.eval o).run P w)) ∧
          (Region.wanted o (yielded ops.toArray a.tmps) = false → T k undef w ∧ I (m + 1) w))
def opsOK (P : Program) (ops : List Oper) (T : Nat → Value → World → Prop) (R : World → World → Prop) (I : Nat → World → Prop) (a0 : Act) (w0 : World) : List Oper → Nat → Prop
  | [], _ => True
  | o :: r, k => opOK P ops T R I a0 w0 k o ∧ opsOK P ops T R I a0 w0 r (k + 1)
def finP (T : Nat → Value → World → Prop) (w : World) (F : Act → Prop) : List Oper → Nat → Act → Prop
  | [], _, a => F a
  | o :: r, k, a => match o.dst with
    | none => finP T w F r (k + 1) a
    | some d => ∀ v, T k v w → finP T w F r (k + 1) (a.put (some d) v)
/-- the form of the region: no select, every edge goes back, no temporary is filled twice, whoever reads a temporary of the region waits for it -/
def rgB (l : List Oper) (size : Nat) : Bool :=
  Region.noSelect l.toArray &&
  ((List.range l.length).all fun i => match l[i]? with
    | none => true
    | some o => (o.after.toList.all fun e => decide (e.on < i)) &&
      (o.dst.all fun d => decide (d < size) && dstIdx d l 0 == some i) &&
      ((o.looksAt l.toArray).all fun t => match dstIdx t l 0 with
        | none => true
        | some j => o.after.toList.any fun e => e.on == j && Region.binds .any e))
def cntF (f : Nat → Bool) : Nat → Nat
  | 0 => 0
  | n + 1 => cntF f n + (if f n then 0 else 1)
theorem cntF_zero {f : Nat → Bool} : ∀ {n : Nat}, cntF f n = 0 → ∀ i, i < n → f i = true
  | 0, _, i, hi => by omega
  | n + 1, h, i, hi => by
    simp only [cntF] at h
    by_cases e : i = n
    · subst e; by_cases hf : f i = true
      · exact hf
      · simp [hf] at h
    · exact cntF_zero (n := n) (by omega) i (by omega)
theorem cntF_same {f g : Nat → Bool} : ∀ {n : Nat}, (∀ i, i < n → f i = g i) → cntF f n = cntF g n
  | 0, _ => rfl
  | n + 1, h => by simp only [cntF]; rw [cntF_same fun i hi => h i (by omega), h n (by omega)]
theorem cntF_set {f g : Nat → Bool} {i : Nat} (hf : f i = false) (hg : g i = true) (h : ∀ j, j ≠ i → g j = f j) : ∀ {n : Nat}, i < n → cntF f n = cntF g n + 1
  | 0, hi => by omega
  | n + 1, hi => by
    simp only [cntF]
    by_cases e : i = n
    · subst e
      rw [cntF_same (f := f) (g := g) fun j hj => (h j (by omega)).symm]
      simp [hf, hg]
    · rw [cntF_set hf hg h (n := n) (by omega), h n (by omega)]; omega
def vof (a : Act) : Option Tmp → Value
  | none => undef
  | some d => tv a d
def RJ (l : List Oper) (T : Nat → Value → World → Prop) (R : World → World → Prop) (I : Nat → World → Prop) (a0 : Act) (w0 : World) (m : Nat) (listed : Array Bool) (a : Act) (w : World) : Prop :=
  R w0 w ∧ I m w ∧ a.defers = a0.defers ∧ a.tmps.size = a0.tmps.size ∧
  (∀ t, (∀ j o, l[j]? = some o → listed.getD j false = true → o.dst ≠ some t) → a.tmps[t]? = a0.tmps[t]?) ∧
  (∀ j o, l[j]? = some o → listed.getD j false = true → o.dst ≠ none → T j (vof a o.dst) w)
theorem look_of {ops : List Oper} {T : Nat → Value → World → Prop} {a0 a : Act} {w : World} {G : Prop} : ∀ {ts : List Tmp}, (∀ t ∈ ts, match dstIdx t ops 0 with | some j => T j (tv a t) w | none => tv a t = tv a0 t) → look ops T a0 a w ts G → G
  | [], _, h => h
  | t :: r, hts, h => look_of (fun x hx => hts x (List.mem_cons_of_mem _ hx)) (h (hts t List.mem_cons_self))
theorem opsOK_at {ops : List Oper} {T : Nat → Value → World → Prop} {R : World → World → Prop} {I : Nat → World → Prop} {a0 : Act} {w0 : World} : ∀ {l : List Oper} {k : Nat}, opsOK P ops T R I a0 w0 l k → ∀ {i : Nat} {o : Oper}, l[i]? = some o → opOK P ops T R I a0 w0 (k + i) o
  | [], _, _, i, o, h => by simp at h
  | x :: r, k, h, 0, o, ho => by
    obtain rfl : x = o := by simpa using ho
    exact h.1
  | x :: r, k, h, i + 1, o, ho => by
    have := opsOK_at (k := k + 1) h.2 (i := i) (o := o) (by simpa using ho)
    rwa [show k + (i + 1) = k + 1 + i from by omega]
theorem put_size (a : Act) (d : Option Tmp) (v : Value) : (a.put d v).tmps.size = a.tmps.size := by cases d <;> simp [Act.put]
theorem put_defers' (a : Act) (d : Option Tmp) (v : Value) : (a.put d v).defers = a.defers := by cases d <;> rfl
theorem put_ne (a : Act) (d : Option Tmp) (v : Value) {t : Nat} (h : d ≠ some t) : (a.put d v).tmps[t]? = a.tmps[t]? := by
  cases d with
  | none => rfl
  | some d => exact Array.getElem?_setIfInBounds_ne (fun e => h (by rw [e]))
theorem put_same (a : Act) (d : Tmp) (v : Value) (h : d < a.tmps.size) : (a.put (some d) v).tmps[d]? = some v := by
  simp [Act.put, h]
theorem tv_of {a b : Act} {t : Tmp} (h : a.tmps[t]? = b.tmps[t]?) : tv a t = tv b t := by
  unfold tv; rw [Array.getD_eq_getD_getElem?, Array.getD_eq_getD_getElem?, h]
theorem finP_to {T : Nat → Value → World → Prop} {w : World} {F : Act → Prop} {a' : Act} : ∀ {l : List Oper} {k : Nat} {b : Act}, b.defers = a'.defers → b.tmps.size = a'.tmps.size →
    (∀ t, (∀ o ∈ l, o.dst ≠ some t) → b.tmps[t]? = a'.tmps[t]?) → (∀ j o, l[j]? = some o → o.dst ≠ none → T (k + j) (vof a' o.dst) w) → finP T w F l k b → F a'
  | [], k, b, hd, hs, hb, hT, h => by
    have e : b = a' := by
      obtain ⟨bt, bd⟩ := b
      obtain ⟨at', ad⟩ := a'
      simp only at hd hs hb
      subst hd
      congr 1
      exact Array.ext_getElem? fun t => hb t (by simp)
    rw [← e]; exact h
  | o :: r, k, b, hd, hs, hb, hT, h => by
    unfold finP at h
    cases ho : o.dst with
    | none =>
      rw [ho] at h
      refine finP_to hd hs (fun t ht => hb t (fun x hx => ?_)) (fun j x hx hn => ?_) h
      · rcases List.mem_cons.1 hx with rfl | hx
        · rw [ho]; simp
        · exact ht x hx
      · have := hT (j + 1) x (by simpa using hx) hn
        rwa [show k + (j + 1) = k + 1 + j from by omega] at this
    | some d =>
      rw [ho] at h
      have h0 := hT 0 o (by simp) (by rw [ho]; simp)
      rw [ho] at h0
      have h1 := h (vof a' (some d)) h0
      refine finP_to (by rw [put_defers']; exact hd) (by rw [put_size]; exact hs) (fun t ht => ?_) (fun j x hx hn => ?_) h1
      · by_cases e : d = t
        · subst e
          rcases Nat.lt_or_ge d b.tmps.size with hlt | hge
          · rw [put_same _ _ _ hlt]
            simp only [vof, tv]
            rw [Array.getD_eq_getD_getElem?, Array.getElem?_eq_getElem (by omega)]
            rfl
          · rw [Array.getElem?_eq_none (by rw [put_size]; omega), Array.getElem?_eq_none (by omega)]
        · rw [put_ne _ _ _ (by simpa using e)]
          refine hb t fun x hx => ?_
          rcases List.mem_cons.1 hx with rfl | hx
          · rw [ho]; simpa using e
          · exact ht x hx
      · have := hT (j + 1) x (by simpa using hx) hn
        rwa [show k + (j + 1) = k + 1 + j from by omega] at this
theorem wp_of_gives {o : Oper} {a : Act} {w : World} {K : Value → World → Prop} {N : Act → World → Prop} {Q : Exit → Act → World → Prop} (h : givesUpon P K ((execOp a.eval o).run P w)) (hN : ∀ v w', K v w' → N (a.put o.dst v) w') : o.wp P a w N Q := by
  unfold Oper.wp
  generalize (execOp a.eval o).run P w = r at *
  cases r with
  | ok n w' =>
    cases n <;> simp only [givesUpon] at h <;> simp only [Oper.upon]
    case value u => exact hN _ _ h
    case skip => exact hN _ _ h
    case enter f args => exact h.mono fun e w'' ⟨v, he, hk⟩ => by subst he; exact hN _ _ hk
  | halt x w' => simp only [givesUpon] at h
theorem wp_region_rg {id : Nat} {l : List Oper} {Q : Exit → Act → World → Prop} {a0 : Act} {w : World} (T : Nat → Value → World → Prop) (R : World → World → Prop) (I : Nat → World → Prop)
    (hm : P.follows .mixedOrders = true) (hB : rgB l a0.tmps.size = true) (hRr : ∀ a, R a a) (hRt : ∀ a b c, R a b → R b c → R a c) (hTs : ∀ k v a b, T k v a → R a b → T k v b) (hI0 : I 0 w.drew)
    (hops : opsOK P l T R I a0 w.drew l 0) (hfin : ∀ w', R w.drew w' → I l.length w' → finP T w' (fun a' => Q .normal a' w') l 0 a0) : (Code.region id l.toArray true).wp P Q a0 w := by
  simp only [rgB, Bool.and_eq_true] at hB
  obtain ⟨hns, hB⟩ := hB
  have hB' : ∀ (i : Nat) (o : Oper), l[i]? = some o → (∀ e ∈ o.after, e.on < i) ∧ (∀ d, o.dst = some d → d < a0.tmps.size ∧ dstIdx d l 0 = some i) ∧ (∀ t ∈ o.looksAt l.toArray, ∀ j, dstIdx t l 0 = some j → ∃ e ∈ o.after, e.on = j ∧ Region.binds .any e = true) := by
    intro i o ho
    have hlt := (List.getElem?_eq_some_iff.1 ho).1
    have h1 := List.all_eq_true.1 hB i (List.mem_range.2 hlt)
    simp only [ho, Bool.and_eq_true] at h1
    obtain ⟨⟨h1, h2⟩, h3⟩ := h1
    refine ⟨fun e he => by have := List.all_eq_true.1 h1 e (by simpa using he); simpa using this, fun d hd => ?_, fun t ht j hj => ?_⟩
    · rw [hd] at h2
      simp only [Option.all_some, Bool.and_eq_true, decide_eq_true_eq, beq_iff_eq] at h2
      exact h2
    · have h4 := List.all_eq_true.1 h3 t ht
      rw [hj] at h4
      obtain ⟨e, he, h5⟩ := List.any_eq_true.1 h4
      simp only [Bool.and_eq_true, beq_iff_eq] at h5
      exact ⟨e, by simpa using he, h5⟩
  have hdist : ∀ (i : Nat) (o : Oper) (j : Nat) (p : Oper), l[i]? = some o → l[j]? = some p → i ≠ j → ∀ d, o.dst = some d → p.dst ≠ some d := by
    intro i o j p ho hp hij d hd hpd
    have h1 := ((hB' i o ho).2.1 d hd).2
    rw [((hB' j p hp).2.1 d hpd).2] at h1
    injection h1 with h1
    exact hij h1.symm
  have main : ∀ (fuel m : Nat) (listed : Array Bool) (a : Act) (w' : World), cntF (fun i => listed.getD i true) l.length = fuel → listed.size = l.length → fuel + m = l.length → RJ l T R I a0 w.drew m listed a w' →
      wpAny P .any l.toArray Q fuel listed a w' := by
    intro fuel
    have hdone : ∀ (m : Nat) (listed : Array Bool) (a : Act) (w' : World), m = l.length → (∀ i, i < l.length → listed.getD i false = true) → RJ l T R I a0 w.drew m listed a w' → Q .normal a w' := by
      rintro m listed a w' rfl hall ⟨hR, hI, hd, hs, ht, hT⟩
      refine finP_to (T := T) (w := w') (F := fun a' => Q .normal a' w') (l := l) (k := 0) (b := a0) hd.symm hs.symm (fun t h => ?_) (fun j o ho hn => ?_) (hfin w' hR hI)
      · exact (ht t fun j o ho _ => h o (List.mem_of_getElem? ho)).symm
      · rw [Nat.zero_add]; exact hT j o ho (hall j (List.getElem?_eq_some_iff.1 ho).1) hn
    have hnil : ∀ (listed : Array Bool), listed.size = l.length → Region.ready .any l.toArray listed = [] → ∀ i, i < l.length → listed.getD i false = true := by
      intro listed hls hr i
      induction i using Nat.strongRecOn with
      | ind i ih =>
        intro hi
        by_cases hl : listed.getD i false = true
        · exact hl
        · exfalso
          have ho : l[i]? = some l[i] := List.getElem?_eq_getElem hi
          have hmem : i ∈ Region.ready .any l.toArray listed := mem_ready.2 ⟨by
            rw [Array.getD_eq_getD_getElem?, Array.getElem?_eq_getElem (by omega)] at *
            simp only [Option.getD_some, Bool.not_eq_true] at *
            exact hl, l[i], by simp, fun e he _ => ih e.on ((hB' i _ ho).1 e he) (by have := (hB' i _ ho).1 e he; omega)⟩
          rw [hr] at hmem
          cases hmem
    induction fuel with
    | zero =>
      intro m listed a w' hc hls hm' hJ
      have hall : ∀ i, i < l.length → listed.getD i false = true := fun i hi => by
        have := cntF_zero hc i hi
        rw [Array.getD_eq_getD_getElem?, Array.getElem?_eq_getElem (by omega)] at *
        simpa using this
      refine ⟨?_, hdone m listed a w' (by omega) hall hJ⟩
      cases hr : Region.ready .any l.toArray listed with
      | nil => rfl
      | cons x xs =>
        exfalso
        obtain ⟨h0, o, ho, _⟩ := mem_ready.1 (show x ∈ Region.ready .any l.toArray listed by rw [hr]; exact List.mem_cons_self)
        have hlt : x < l.length := by have := (Array.getElem?_eq_some_iff.1 ho).1; simpa using this
        have := hall x hlt
        rw [Array.getD_eq_getD_getElem?, Array.getElem?_eq_getElem (by omega)] at *
        simp at h0 this
        rw [h0] at this
        cases this
    | succ fuel ih =>
      intro m listed a w' hc hls hm' hJ
      refine ⟨fun hr => ?_, fun i hi => ?_⟩
      · exfalso
        have hall := hnil listed hls hr
        have : cntF (fun i => listed.getD i true) l.length = 0 := by
          rw [cntF_same (g := fun _ => true) (fun i hi => by
            have := hall i hi
            rw [Array.getD_eq_getD_getElem?, Array.getElem?_eq_getElem (by omega)] at *
            simpa using this)]
          clear hc hm' hls
          induction l.length with
          | zero => rfl
          | succ n ihn => simp [cntF, ihn]
        omega
      · obtain ⟨h0, o, ho', hall⟩ := mem_ready.1 hi
        have ho : l[i]? = some o := by simpa using ho'
        have hlt : i < l.length := (List.getElem?_eq_some_iff.1 ho).1
        obtain ⟨hR, hI, hd, hs, ht, hT⟩ := hJ
        obtain ⟨b1, b2, b3⟩ := hB' i o ho
        have hlook : ∀ t ∈ o.looksAt l.toArray, match dstIdx t l 0 with | some j => T j (tv a t) w' | none => tv a t = tv a0 t := by
          intro t htm
          cases hj : dstIdx t l 0 with
          | none =>
            refine tv_of (ht t fun j p hp _ => dstIdx_none hj p (List.mem_of_getElem? hp))
          | some j =>
            obtain ⟨e, he, rfl, hb⟩ := b3 t htm j hj
            obtain ⟨_, p, hp, hpd⟩ := dstIdx_some hj
            have := hT e.on p (by simpa using hp) (hall e he hb) (by rw [hpd]; simp)
            rw [hpd] at this
            exact this
        have hop := look_of hlook (opsOK_at hops ho m a w' (by omega) hR hI)
        rw [Nat.zero_add] at hop
        have hget : ∀ d, (listed.setIfInBounds i true).getD i d = true := fun d => by
          rw [Array.getD_eq_getD_getElem?, Array.getElem?_setIfInBounds_self_of_lt (by omega)]; rfl
        have next : ∀ v w1, T i v w1 → R w' w1 → I (m + 1) w1 → wpAny P .any l.toArray Q fuel (listed.setIfInBounds i true) (a.put o.dst v) w1 := by
          intro v w1 hTv hR1 hI1
          refine ih (m + 1) _ _ _ ?_ (by simpa using hls) (by omega) ⟨hRt _ _ _ hR hR1, hI1, (put_defers' _ _ _).trans hd, (put_size _ _ _).trans hs, fun t h => ?_, fun j p hp hl hn => ?_⟩
          · have := cntF_set (f := fun i => listed.getD i true) (g := fun j => (listed.setIfInBounds i true).getD j true) (i := i) h0 (hget true) (fun j hj => getD_set_ne true (Ne.symm hj)) hlt
            omega
          · have hne : o.dst ≠ some t := h i o ho (hget false)
            rw [put_ne _ _ _ hne]
            exact ht t fun j p hp hl => h j p hp (getD_set_true hl)
          · by_cases e : i = j
            · subst e
              rw [ho] at hp
              obtain rfl := Option.some.inj hp
              cases hod : o.dst with
              | none => exact absurd hod hn
              | some d =>
                have : tv (a.put (some d) v) d = v := by
                  unfold tv
                  rw [Array.getD_eq_getD_getElem?, put_same _ _ _ (by rw [hs]; exact (b2 d hod).1)]
                  rfl
                simp only [vof]
                rw [this]
                exact hTv
            · rw [getD_set_ne false e] at hl
              have h2 := hTs j _ w' w1 (hT j p hp hl hn) hR1
              cases hpd : p.dst with
              | none => exact absurd hpd hn
              | some d =>
                rw [hpd] at h2
                simp only [vof] at h2 ⊢
                rw [show tv (a.put o.dst v) d = tv a d from tv_of (put_ne _ _ _ (fun hod => hdist i o j p ho hp e d hod hpd))]
                exact h2
        unfold wpOp
        simp only [ho']
        cases hg : o.guard with
        | none =>
          rw [hg] at hop
          rw [if_pos (by simp [Region.wanted, hg])]
          exact .inl (wp_of_gives hop fun v w1 ⟨h1, h2, h3⟩ => next v w1 h1 h2 h3)
        | some g =>
          rw [hg] at hop
          obtain ⟨g1, g2⟩ := hop
          split
          · rename_i hw
            exact .inl (wp_of_gives (g1 hw) fun v w1 ⟨h1, h2, h3⟩ => next v w1 h1 h2 h3)
          · rename_i hw
            obtain ⟨h1, h2⟩ := g2 (by simpa using hw)
            exact next undef w' h1 (hRr _) h2
  refine wp_region_any hm ?_
  refine main l.toArray.size 0 _ a0 w.drew ?_ (by simp) (by simp) ⟨hRr _, hI0, rfl, rfl, fun t _ => rfl, fun j o ho hl => ?_⟩
  · have : ∀ n, n ≤ l.length → cntF (fun i => (Array.replicate l.toArray.size false).getD i true) n = n := by
      intro n
      induction n with
      | zero => intro _; rfl
      | succ n ihn =>
        intro hn
        simp only [cntF]
        rw [ihn (by omega)]
        have : (Array.replicate l.toArray.size false).getD n true = false := by
          rw [Array.getD_eq_getD_getElem?, Array.getElem?_replicate, if_pos (by simp; omega)]; rfl
        rw [if_neg (by rw [this]; decide)]
    simpa using this l.length (Nat.le_refl _)
  · exfalso
    rw [Array.getD_eq_getD_getElem?, Array.getElem?_replicate] at hl
    split at hl <;> simp at hl
/-- what an operation leans on, written out: which temporaries, filled by which operations -/
def lookD (T : Nat → Value → World → Prop) (a0 a : Act) (w : World) : List (Tmp × Option Nat) → Prop → Prop
  | [], G => G
  | (t, some j) :: r, G => T j (a.eval (.tmp t)) w → lookD T a0 a w r G
  | (t, none) :: r, G => a.eval (.tmp t) = a0.eval (.tmp t) → lookD T a0 a w r G
def dsB (ops : List Oper) (o : Oper) (ds : List (Tmp × Option Nat)) : Bool := (o.looksAt ops.toArray == ds.map (·.1)) && ds.all fun p => dstIdx p.1 ops 0 == p.2
theorem look_ds {ops : List Oper} {T : Nat → Value → World → Prop} {a0 a : Act} {w : World} {G : Prop} : ∀ {ds : List (Tmp × Option Nat)}, (∀ p ∈ ds, dstIdx p.1 ops 0 = p.2) → lookD T a0 a w ds G → look ops T a0 a w (ds.map (·.1)) G
  | [], _, h => h
  | (t, some j) :: r, hd, h => by
    have e := hd _ List.mem_cons_self
    simp only at e
    unfold lookD at h
    simp only [List.map_cons, look, e]
    exact fun x => look_ds (fun p hp => hd p (List.mem_cons_of_mem _ hp)) (h x)
  | (t, none) :: r, hd, h => by
    have e := hd _ List.mem_cons_self
    simp only at e
    unfold lookD at h
    simp only [List.map_cons, look, e]
    exact fun x => look_ds (fun p hp => hd p (List.mem_cons_of_mem _ hp)) (h x)
theorem opOK_ds {ops : List Oper} {T : Nat → Value → World → Prop} {R : World → World → Prop} {I : Nat → World → Prop} {a0 : Act} {w0 : World} {k : Nat} {o : Oper} (ds : List (Tmp × Option Nat)) (hB : dsB ops o ds = true) (hg : o.guard = none)
    (h : ∀ (m : Nat) (a : Act) (w : World), m < ops.length → R w0 w → I m w → lookD T a0 a w ds (givesUpon P (fun v w' => T k v w' ∧ R w w' ∧ I (m + 1) w') ((execOp a.eval o).run P w))) : opOK P ops T R I a0 w0 k o := by
  intro m a w hm hR hI
  simp only [dsB, Bool.and_eq_true, beq_iff_eq] at hB
  obtain ⟨h1, h2⟩ := hB
  rw [h1]
  refine look_ds (fun p hp => by have := List.all_eq_true.1 h2 p hp; simpa using this) ?_
  have := h m a w hm hR hI
  rw [hg]
  exact this
theorem wp_region_rgl {id : Nat} {l : List Oper} {Q : Exit → Act → World → Prop} {a0 : Act} {w : World} (T : Nat → Value → World → Prop) (R : World → World → Prop) (I : Nat → World → Prop)
    (hm : P.follows .mixedOrders = true) (hB : rgB l a0.tmps.size = true) (hRr : ∀ a, R a a) (hRt : ∀ a b c, R a b → R b c → R a c) (hTs : ∀ k v a b, T k v a → R a b → T k v b) (hI0 : I 0 w.drew)
    (hops : opsOK P l T R I a0 w.drew l 0) (hfin : ∀ w', R w.drew w' → I l.length w' → finP T w' (fun a' => Q .normal a' w') l 0 a0) : (Code.region id l.toArray true).wp P Q a0 w := wp_region_rg T R I hm hB hRr hRt hTs hI0 hops hfin
end
end Go.Proofs.Ytjdjahckdgbkbac
end
section
namespace Go.Proofs.Ytjdjahckdgbkbac
open Go Go.RowKit
set_option linter.unusedVariables false
section
variable {P : Program}
def XV (u : Value) : Value → World → Prop := fun v _ => v = u
def XT : Value → World → Prop := fun _ _ => True
/-- what stays true when memory is made -/
def Stay (T : Value → World → Prop) : Prop := ∀ v a b, T v a → Gr a b → T v b
theorem stay_V (u : Value) : Stay (XV u) := fun _ _ _ h _ => h
theorem stay_T : Stay XT := fun _ _ _ _ _ => trivial
theorem stay_of {F : Value → World → Prop} (h : ∀ v a b, F v a → Below a.heap.size a b → F v b) : Stay F := fun v a b x g => h v a b x g.out
theorem stay_list {l : List (Value → World → Prop)} (h : ∀ T ∈ l, Stay T) : ∀ k v a b, (l.getD k XT) v a → Gr a b → (l.getD k XT) v b := by
  intro k v a b hv g
  rw [List.getD_eq_getElem?_getD] at *
  cases hk : l[k]? with
  | none => trivial
  | some T => rw [hk] at hv; exact h T (List.mem_of_getElem? hk) v a b hv g
def GIx (_ : Nat) (_ : World) : Prop := True
theorem gx_gen {K : Value → World → Prop} {r : Result Next} (h : ∀ K' : Value → World → Prop, (∀ v w', K v w' → K' v w') → givesUpon P K' r) : givesUpon P K r := h K fun _ _ h => h
theorem lookD_imp {T : Nat → Value → World → Prop} {a0 a : Act} {w : World} {G G' : Prop} (hG : G → G') : ∀ {ds : List (Tmp × Option Nat)}, lookD T a0 a w ds G → lookD T a0 a w ds G'
  | [], h => hG h
  | (t, some j) :: r, h => fun x => lookD_imp (ds := r) hG (h x)
  | (t, none) :: r, h => fun x => lookD_imp (ds := r) hG (h x)
theorem givesUpon_imp {K K' : Value → World → Prop} (hK : ∀ v w, K v w → K' v w) {r : Result Next} (h : givesUpon P K r) : givesUpon P K' r := by
  unfold givesUpon at *
  split at h
  · exact hK _ _ h
  · exact hK _ _ h
  · exact h.mono fun e w' ⟨v, e1, e2⟩ => ⟨v, e1, hK _ _ e2⟩
  · exact h.elim
theorem opOK_rx {ops : List Oper} {T : Nat → Value → World → Prop} {a0 : Act} {w0 : World} {k : Nat} {o : Oper} (ds : List (Tmp × Option Nat)) (hB : dsB ops o ds = true) (hg : o.guard = none)
    (h : ∀ (a : Act) (w : World), Gr w0 w → lookD T a0 a w ds (givesUpon P (fun v w' => T k v w' ∧ Gr w w') ((execOp a.eval o).run P w))) : opOK P ops T Gr GIx a0 w0 k o :=
  opOK_ds ds hB hg fun m a w _ hR _ => lookD_imp (fun x => givesUpon_imp (fun v w' ⟨h1, h2⟩ => ⟨h1, h2, trivial⟩) x) (h a w hR)
theorem wp_region_rx {id : Nat} {l : List Oper} {Q : Exit → Act → World → Prop} {a0 : Act} {w : World} (tl : List (Value → World → Prop))
    (hm : P.follows .mixedOrders = true) (hB : rgB l a0.tmps.size = true) (hTs : ∀ T ∈ tl, Stay T)
    (hops : opsOK P l (fun k => tl.getD k XT) Gr GIx a0 w.drew l 0) (hfin : ∀ w', Gr w.drew w' → finP (fun k => tl.getD k XT) w' (fun a' => Q .normal a' w') l 0 a0) : (Code.region id l.toArray true).wp P Q a0 w :=
  wp_region_rgl (fun k => tl.getD k XT) Gr GIx hm hB Gr.refl (fun _ _ _ h k => h.trans k) (stay_list hTs) trivial hops fun w' h _ => hfin w' h
end
end Go.Proofs.Ytjdjahckdgbkbac
end
