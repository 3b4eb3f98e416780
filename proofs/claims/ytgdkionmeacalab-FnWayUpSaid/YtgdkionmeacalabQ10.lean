import Derived.Test.YtgdkionmeacalabQ09
section
namespace Go.Proofs.Ytgdkionmeacalab
open Go.RowKit
set_option linter.unusedVariables false
set_option maxHeartbeats 1000000
attribute [local go_sem] growUpon_value growUpon_skip growUpon_enter
def cellB (n m : Int) (c : Ce) : Bool := runB c.co c.mc n && (runB c.ro c.mr m && (rng c.cw 0 30 && (rng c.ch 0 30 && (rng c.sk 0 15 && (rng c.px 0 10 && rng c.py 0 10)))))
def gridB (L1 L2 : List Ln) (L3 : List Ce) : Bool := linesB L1 && (linesB L2 && (decide ((L3.length : Int) ≤ 8) && L3.all (cellB L1.length L2.length)))
set_option maxRecDepth 100000 in
theorem validCell_v (c : Ce) (n m : Int) (b : Bool) (w : World) (hn : 1 ≤ n) (hn5 : n ≤ 5) (hm : 1 ≤ m) (hm5 : m ≤ 5) (hb : cellB n m c = b) : Calls Try.prog 49 #[.agg #[.int .i64 c.co, .int .i64 c.ro, .int .i64 c.mc, .int .i64 c.mr, .int .i64 c.cw, .int .i64 c.ch, .int .i64 c.sk, .int .i64 c.px, .int .i64 c.py], .int .i64 n, .int .i64 m] w fun e w' => e = .returned (.bool b) ∧ Below w.heap.size w w' := by
  cases h1 : runB c.co c.mc n
  · have hbf : false = b := by rw [← hb]; simp [cellB, h1]
    subst hbf
    go_enter Try.func49, Try.ntmps49
    go_wp2_with fail
    with_reducible refine (validRun_v _ _ n false _ hn hn5 h1).mono ?_
    rintro e w1 ⟨rfl, rfl⟩
    go_wp2
    go_ret
    exact ⟨rfl, (by repeat (first | with_reducible exact Below.refl _ _ | with_reducible assumption | with_reducible refine balloc ?_ | (with_reducible refine bset ?_ ?_; rotate_left; ((try dsimp only); omega)) | refine bkeep2 ?_ (by assumption) | with_reducible refine Below.drew ?_))⟩
  cases h2 : runB c.ro c.mr m
  · have hbf : false = b := by rw [← hb]; simp [cellB, h2]
    subst hbf
    go_enter Try.func49, Try.ntmps49
    go_wp2_with fail
    with_reducible refine (validRun_v _ _ n true _ hn hn5 h1).mono ?_
    rintro e w1 ⟨rfl, rfl⟩
    go_wp2_with fail
    with_reducible refine (validRun_v _ _ m false _ hm hm5 h2).mono ?_
    rintro e w1 ⟨rfl, rfl⟩
    go_wp2
    go_ret
    exact ⟨rfl, (by repeat (first | with_reducible exact Below.refl _ _ | with_reducible assumption | with_reducible refine balloc ?_ | (with_reducible refine bset ?_ ?_; rotate_left; ((try dsimp only); omega)) | refine bkeep2 ?_ (by assumption) | with_reducible refine Below.drew ?_))⟩
  cases h3 : (rng c.cw 0 30 && rng c.ch 0 30)
  · have hbf : false = b := by rw [← hb]; cases u : rng c.cw 0 30 <;> cases v : rng c.ch 0 30 <;> simp [cellB, u, v] at h3 ⊢
    subst hbf
    go_enter Try.func49, Try.ntmps49
    go_wp2_with fail
    with_reducible refine (validRun_v _ _ n true _ hn hn5 h1).mono ?_
    rintro e w1 ⟨rfl, rfl⟩
    go_wp2_with fail
    with_reducible refine (validRun_v _ _ m true _ hm hm5 h2).mono ?_
    rintro e w1 ⟨rfl, rfl⟩
    go_wp2_with fail
    with_reducible refine (validWish_w _ _ false _ h3).mono ?_
    rintro e w1 ⟨rfl, rfl⟩
    go_wp2
    go_ret
    exact ⟨rfl, (by repeat (first | with_reducible exact Below.refl _ _ | with_reducible assumption | with_reducible refine balloc ?_ | (with_reducible refine bset ?_ ?_; rotate_left; ((try dsimp only); omega)) | refine bkeep2 ?_ (by assumption) | with_reducible refine Below.drew ?_))⟩
  obtain ⟨h3a, h3b⟩ : rng c.cw 0 30 = true ∧ rng c.ch 0 30 = true := by simpa using h3
  cases h4 : rng c.sk 0 15
  · have hbf : false = b := by rw [← hb]; simp [cellB, h4, h3a, h3b]
    subst hbf
    go_enter Try.func49, Try.ntmps49
    go_wp2_with fail
    with_reducible refine (validRun_v _ _ n true _ hn hn5 h1).mono ?_
    rintro e w1 ⟨rfl, rfl⟩
    go_wp2_with fail
    with_reducible refine (validRun_v _ _ m true _ hm hm5 h2).mono ?_
    rintro e w1 ⟨rfl, rfl⟩
    go_wp2_with fail
    with_reducible refine (validWish_w _ _ true _ h3).mono ?_
    rintro e w1 ⟨rfl, rfl⟩
    go_wp2_with fail
    with_reducible refine (within_w _ 0 15 false _ h4).mono ?_
    rintro e w1 ⟨rfl, rfl⟩
    go_wp2
    go_ret
    exact ⟨rfl, (by repeat (first | with_reducible exact Below.refl _ _ | with_reducible assumption | with_reducible refine balloc ?_ | (with_reducible refine bset ?_ ?_; rotate_left; ((try dsimp only); omega)) | refine bkeep2 ?_ (by assumption) | with_reducible refine Below.drew ?_))⟩
  cases h5 : rng c.px 0 10
  · have hbf : false = b := by rw [← hb]; simp [cellB, h5, h3a, h3b]
    subst hbf
    go_enter Try.func49, Try.ntmps49
    go_wp2_with fail
    with_reducible refine (validRun_v _ _ n true _ hn hn5 h1).mono ?_
    rintro e w1 ⟨rfl, rfl⟩
    go_wp2_with fail
    with_reducible refine (validRun_v _ _ m true _ hm hm5 h2).mono ?_
    rintro e w1 ⟨rfl, rfl⟩
    go_wp2_with fail
    with_reducible refine (validWish_w _ _ true _ h3).mono ?_
    rintro e w1 ⟨rfl, rfl⟩
    go_wp2_with fail
    with_reducible refine (within_w _ 0 15 true _ h4).mono ?_
    rintro e w1 ⟨rfl, rfl⟩
    go_wp2_with fail
    with_reducible refine (within_w _ 0 10 false _ h5).mono ?_
    rintro e w1 ⟨rfl, rfl⟩
    go_wp2
    go_ret
    exact ⟨rfl, (by repeat (first | with_reducible exact Below.refl _ _ | with_reducible assumption | with_reducible refine balloc ?_ | (with_reducible refine bset ?_ ?_; rotate_left; ((try dsimp only); omega)) | refine bkeep2 ?_ (by assumption) | with_reducible refine Below.drew ?_))⟩
  have h6 : rng c.py 0 10 = b := by rw [← hb]; simp [cellB, h1, h2, h4, h5, h3a, h3b]
  cases b
  all_goals
    go_enter Try.func49, Try.ntmps49
    go_wp2_with fail
    with_reducible refine (validRun_v _ _ n true _ hn hn5 h1).mono ?_
    rintro e w1 ⟨rfl, rfl⟩
    go_wp2_with fail
    with_reducible refine (validRun_v _ _ m true _ hm hm5 h2).mono ?_
    rintro e w1 ⟨rfl, rfl⟩
    go_wp2_with fail
    with_reducible refine (validWish_w _ _ true _ h3).mono ?_
    rintro e w1 ⟨rfl, rfl⟩
    go_wp2_with fail
    with_reducible refine (within_w _ 0 15 true _ h4).mono ?_
    rintro e w1 ⟨rfl, rfl⟩
    go_wp2_with fail
    with_reducible refine (within_w _ 0 10 true _ h5).mono ?_
    rintro e w1 ⟨rfl, rfl⟩
    go_wp2_with fail
    with_reducible refine (within_w _ 0 10 _ _ h6).mono ?_
    rintro e w1 ⟨rfl, rfl⟩
    go_wp2
    go_ret
    exact ⟨rfl, (by repeat (first | with_reducible exact Below.refl _ _ | with_reducible assumption | with_reducible refine balloc ?_ | (with_reducible refine bset ?_ ?_; rotate_left; ((try dsimp only); omega)) | refine bkeep2 ?_ (by assumption) | with_reducible refine Below.drew ?_))⟩
theorem linesB_len' {L : List Ln} (h : linesB L = true) : 1 ≤ L.length ∧ L.length ≤ 5 := by
  simp only [linesB, Bool.and_eq_true, rng_iff] at h
  omega
set_option maxRecDepth 100000 in
theorem svalidCell_v (c : Ce) (n1 n2 n3 c1 c2 c3 : Nat) (A1 A2 A3 : Option Addr) (b : Bool) (w : World) (hn : n1 ≤ 1048576) (hm : n2 ≤ 1048576) (hb : cellB n1 n2 c = b) : Calls Try.prog 72 #[.agg #[.slice A1 n1 c1, .slice A2 n2 c2, .slice A3 n3 c3], .agg #[.int .i64 c.co, .int .i64 c.ro, .int .i64 c.mc, .int .i64 c.mr, .int .i64 c.cw, .int .i64 c.ch, .int .i64 c.sk, .int .i64 c.px, .int .i64 c.py]] w fun e w' => e = .returned (.bool b) ∧ Below w.heap.size w w' := by
  cases h1 : rng c.co 0 ((n1 : Int) - 1)
  · have hbf : false = b := by rw [← hb]; simp [cellB, runB, h1]
    subst hbf
    go_enter Try.func72, Try.ntmps72
    go_wp2_with fail
    with_reducible refine (inRange_w _ 0 ((n1 : Int) - 1) false _ h1).mono ?_
    rintro e w1 ⟨rfl, rfl⟩
    go_wp2
    go_ret
    exact ⟨rfl, (by repeat (first | with_reducible exact Below.refl _ _ | with_reducible assumption | with_reducible refine balloc ?_ | (with_reducible refine bset ?_ ?_; rotate_left; ((try dsimp only); omega)) | refine bkeep2 ?_ (by assumption) | with_reducible refine Below.drew ?_))⟩
  have ha1 := rng_iff.1 h1
  cases h2 : rng c.ro 0 ((n2 : Int) - 1)
  · have hbf : false = b := by rw [← hb]; simp [cellB, runB, h2]
    subst hbf
    go_enter Try.func72, Try.ntmps72
    go_wp2_with fail
    with_reducible refine (inRange_w _ 0 ((n1 : Int) - 1) true _ h1).mono ?_
    rintro e w1 ⟨rfl, rfl⟩
    go_wp2_with fail
    with_reducible refine (inRange_w _ 0 ((n2 : Int) - 1) false _ h2).mono ?_
    rintro e w1 ⟨rfl, rfl⟩
    go_wp2
    go_ret
    exact ⟨rfl, (by repeat (first | with_reducible exact Below.refl _ _ | with_reducible assumption | with_reducible refine balloc ?_ | (with_reducible refine bset ?_ ?_; rotate_left; ((try dsimp only); omega)) | refine bkeep2 ?_ (by assumption) | with_reducible refine Below.drew ?_))⟩
  have ha2 := rng_iff.1 h2
  cases h3 : rng c.mc 1 ((n1 : Int) - c.co)
  · have hbf : false = b := by rw [← hb]; simp [cellB, runB, h3]
    subst hbf
    go_enter Try.func72, Try.ntmps72
    go_wp2_with fail
    with_reducible refine (inRange_w _ 0 ((n1 : Int) - 1) true _ h1).mono ?_
    rintro e w1 ⟨rfl, rfl⟩
    go_wp2_with fail
    with_reducible refine (inRange_w _ 0 ((n2 : Int) - 1) true _ h2).mono ?_
    rintro e w1 ⟨rfl, rfl⟩
    go_wp2_with fail
    with_reducible refine (inRange_w _ 1 ((n1 : Int) - c.co) false _ h3).mono ?_
    rintro e w1 ⟨rfl, rfl⟩
    go_wp2
    go_ret
    exact ⟨rfl, (by repeat (first | with_reducible exact Below.refl _ _ | with_reducible assumption | with_reducible refine balloc ?_ | (with_reducible refine bset ?_ ?_; rotate_left; ((try dsimp only); omega)) | refine bkeep2 ?_ (by assumption) | with_reducible refine Below.drew ?_))⟩
  cases h4 : rng c.mr 1 ((n2 : Int) - c.ro)
  · have hbf : false = b := by rw [← hb]; simp [cellB, runB, h4]
    subst hbf
    go_enter Try.func72, Try.ntmps72
    go_wp2_with fail
    with_reducible refine (inRange_w _ 0 ((n1 : Int) - 1) true _ h1).mono ?_
    rintro e w1 ⟨rfl, rfl⟩
    go_wp2_with fail
    with_reducible refine (inRange_w _ 0 ((n2 : Int) - 1) true _ h2).mono ?_
    rintro e w1 ⟨rfl, rfl⟩
    go_wp2_with fail
    with_reducible refine (inRange_w _ 1 ((n1 : Int) - c.co) true _ h3).mono ?_
    rintro e w1 ⟨rfl, rfl⟩
    go_wp2_with fail
    with_reducible refine (inRange_w _ 1 ((n2 : Int) - c.ro) false _ h4).mono ?_
    rintro e w1 ⟨rfl, rfl⟩
    go_wp2
    go_ret
    exact ⟨rfl, (by repeat (first | with_reducible exact Below.refl _ _ | with_reducible assumption | with_reducible refine balloc ?_ | (with_reducible refine bset ?_ ?_; rotate_left; ((try dsimp only); omega)) | refine bkeep2 ?_ (by assumption) | with_reducible refine Below.drew ?_))⟩
  cases h5 : rng c.cw 0 30
  · have hbf : false = b := by rw [← hb]; simp [cellB, runB, h5]
    subst hbf
    go_enter Try.func72, Try.ntmps72
    go_wp2_with fail
    with_reducible refine (inRange_w _ 0 ((n1 : Int) - 1) true _ h1).mono ?_
    rintro e w1 ⟨rfl, rfl⟩
    go_wp2_with fail
    with_reducible refine (inRange_w _ 0 ((n2 : Int) - 1) true _ h2).mono ?_
    rintro e w1 ⟨rfl, rfl⟩
    go_wp2_with fail
    with_reducible refine (inRange_w _ 1 ((n1 : Int) - c.co) true _ h3).mono ?_
    rintro e w1 ⟨rfl, rfl⟩
    go_wp2_with fail
    with_reducible refine (inRange_w _ 1 ((n2 : Int) - c.ro) true _ h4).mono ?_
    rintro e w1 ⟨rfl, rfl⟩
    go_wp2_with fail
    with_reducible refine (inRange_w _ 0 30 false _ h5).mono ?_
    rintro e w1 ⟨rfl, rfl⟩
    go_wp2
    go_ret
    exact ⟨rfl, (by repeat (first | with_reducible exact Below.refl _ _ | with_reducible assumption | with_reducible refine balloc ?_ | (with_reducible refine bset ?_ ?_; rotate_left; ((try dsimp only); omega)) | refine bkeep2 ?_ (by assumption) | with_reducible refine Below.drew ?_))⟩
  cases h6 : rng c.ch 0 30
  · have hbf : false = b := by rw [← hb]; simp [cellB, runB, h6]
    subst hbf
    go_enter Try.func72, Try.ntmps72
    go_wp2_with fail
    with_reducible refine (inRange_w _ 0 ((n1 : Int) - 1) true _ h1).mono ?_
    rintro e w1 ⟨rfl, rfl⟩
    go_wp2_with fail
    with_reducible refine (inRange_w _ 0 ((n2 : Int) - 1) true _ h2).mono ?_
    rintro e w1 ⟨rfl, rfl⟩
    go_wp2_with fail
    with_reducible refine (inRange_w _ 1 ((n1 : Int) - c.co) true _ h3).mono ?_
    rintro e w1 ⟨rfl, rfl⟩
    go_wp2_with fail
    with_reducible refine (inRange_w _ 1 ((n2 : Int) - c.ro) true _ h4).mono ?_
    rintro e w1 ⟨rfl, rfl⟩
    go_wp2_with fail
    with_reducible refine (inRange_w _ 0 30 true _ h5).mono ?_
    rintro e w1 ⟨rfl, rfl⟩
    go_wp2_with fail
    with_reducible refine (inRange_w _ 0 30 false _ h6).mono ?_
    rintro e w1 ⟨rfl, rfl⟩
    go_wp2
    go_ret
    exact ⟨rfl, (by repeat (first | with_reducible exact Below.refl _ _ | with_reducible assumption | with_reducible refine balloc ?_ | (with_reducible refine bset ?_ ?_; rotate_left; ((try dsimp only); omega)) | refine bkeep2 ?_ (by assumption) | with_reducible refine Below.drew ?_))⟩
  cases h7 : rng c.sk 0 15
  · have hbf : false = b := by rw [← hb]; simp [cellB, runB, h7]
    subst hbf
    go_enter Try.func72, Try.ntmps72
    go_wp2_with fail
    with_reducible refine (inRange_w _ 0 ((n1 : Int) - 1) true _ h1).mono ?_
    rintro e w1 ⟨rfl, rfl⟩
    go_wp2_with fail
    with_reducible refine (inRange_w _ 0 ((n2 : Int) - 1) true _ h2).mono ?_
    rintro e w1 ⟨rfl, rfl⟩
    go_wp2_with fail
    with_reducible refine (inRange_w _ 1 ((n1 : Int) - c.co) true _ h3).mono ?_
    rintro e w1 ⟨rfl, rfl⟩
    go_wp2_with fail
    with_reducible refine (inRange_w _ 1 ((n2 : Int) - c.ro) true _ h4).mono ?_
    rintro e w1 ⟨rfl, rfl⟩
    go_wp2_with fail
    with_reducible refine (inRange_w _ 0 30 true _ h5).mono ?_
    rintro e w1 ⟨rfl, rfl⟩
    go_wp2_with fail
    with_reducible refine (inRange_w _ 0 30 true _ h6).mono ?_
    rintro e w1 ⟨rfl, rfl⟩
    go_wp2_with fail
    with_reducible refine (inRange_w _ 0 15 false _ h7).mono ?_
    rintro e w1 ⟨rfl, rfl⟩
    go_wp2
    go_ret
    exact ⟨rfl, (by repeat (first | with_reducible exact Below.refl _ _ | with_reducible assumption | with_reducible refine balloc ?_ | (with_reducible refine bset ?_ ?_; rotate_left; ((try dsimp only); omega)) | refine bkeep2 ?_ (by assumption) | with_reducible refine Below.drew ?_))⟩
  cases h8 : rng c.px 0 10
  · have hbf : false = b := by rw [← hb]; simp [cellB, runB, h8]
    subst hbf
    go_enter Try.func72, Try.ntmps72
    go_wp2_with fail
    with_reducible refine (inRange_w _ 0 ((n1 : Int) - 1) true _ h1).mono ?_
    rintro e w1 ⟨rfl, rfl⟩
    go_wp2_with fail
    with_reducible refine (inRange_w _ 0 ((n2 : Int) - 1) true _ h2).mono ?_
    rintro e w1 ⟨rfl, rfl⟩
    go_wp2_with fail
    with_reducible refine (inRange_w _ 1 ((n1 : Int) - c.co) true _ h3).mono ?_
    rintro e w1 ⟨rfl, rfl⟩
    go_wp2_with fail
    with_reducible refine (inRange_w _ 1 ((n2 : Int) - c.ro) true _ h4).mono ?_
    rintro e w1 ⟨rfl, rfl⟩
    go_wp2_with fail
    with_reducible refine (inRange_w _ 0 30 true _ h5).mono ?_
    rintro e w1 ⟨rfl, rfl⟩
    go_wp2_with fail
    with_reducible refine (inRange_w _ 0 30 true _ h6).mono ?_
    rintro e w1 ⟨rfl, rfl⟩
    go_wp2_with fail
    with_reducible refine (inRange_w _ 0 15 true _ h7).mono ?_
    rintro e w1 ⟨rfl, rfl⟩
    go_wp2_with fail
    with_reducible refine (inRange_w _ 0 10 false _ h8).mono ?_
    rintro e w1 ⟨rfl, rfl⟩
    go_wp2
    go_ret
    exact ⟨rfl, (by repeat (first | with_reducible exact Below.refl _ _ | with_reducible assumption | with_reducible refine balloc ?_ | (with_reducible refine bset ?_ ?_; rotate_left; ((try dsimp only); omega)) | refine bkeep2 ?_ (by assumption) | with_reducible refine Below.drew ?_))⟩
  have h9 : rng c.py 0 10 = b := by rw [← hb]; simp [cellB, runB, h1, h2, h3, h4, h5, h6, h7, h8]
  cases b
  all_goals
    go_enter Try.func72, Try.ntmps72
    go_wp2_with fail
    with_reducible refine (inRange_w _ 0 ((n1 : Int) - 1) true _ h1).mono ?_
    rintro e w1 ⟨rfl, rfl⟩
    go_wp2_with fail
    with_reducible refine (inRange_w _ 0 ((n2 : Int) - 1) true _ h2).mono ?_
    rintro e w1 ⟨rfl, rfl⟩
    go_wp2_with fail
    with_reducible refine (inRange_w _ 1 ((n1 : Int) - c.co) true _ h3).mono ?_
    rintro e w1 ⟨rfl, rfl⟩
    go_wp2_with fail
    with_reducible refine (inRange_w _ 1 ((n2 : Int) - c.ro) true _ h4).mono ?_
    rintro e w1 ⟨rfl, rfl⟩
    go_wp2_with fail
    with_reducible refine (inRange_w _ 0 30 true _ h5).mono ?_
    rintro e w1 ⟨rfl, rfl⟩
    go_wp2_with fail
    with_reducible refine (inRange_w _ 0 30 true _ h6).mono ?_
    rintro e w1 ⟨rfl, rfl⟩
    go_wp2_with fail
    with_reducible refine (inRange_w _ 0 15 true _ h7).mono ?_
    rintro e w1 ⟨rfl, rfl⟩
    go_wp2_with fail
    with_reducible refine (inRange_w _ 0 10 true _ h8).mono ?_
    rintro e w1 ⟨rfl, rfl⟩
    go_wp2_with fail
    with_reducible refine (inRange_w _ 0 10 _ _ h9).mono ?_
    rintro e w1 ⟨rfl, rfl⟩
    go_wp2
    go_ret
    exact ⟨rfl, (by repeat (first | with_reducible exact Below.refl _ _ | with_reducible assumption | with_reducible refine balloc ?_ | (with_reducible refine bset ?_ ?_; rotate_left; ((try dsimp only); omega)) | refine bkeep2 ?_ (by assumption) | with_reducible refine Below.drew ?_))⟩
end Go.Proofs.Ytgdkionmeacalab
end
