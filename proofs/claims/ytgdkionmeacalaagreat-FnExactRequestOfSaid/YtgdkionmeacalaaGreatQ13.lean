import Derived.Test.YtgdkionmeacalaaGreatQ12
import Derived.OwnWalk
section
namespace Go.Proofs.YtgdkionmeacalaaGreat
open Go.RowKit
set_option linter.unusedVariables false
set_option maxHeartbeats 1000000
attribute [local go_sem] growUpon_value growUpon_skip growUpon_enter
def cellB (n m : Int) (c : Ce) : Bool := runB c.co c.mc n && (runB c.ro c.mr m && (rng c.cw 0 30 && (rng c.ch 0 30 && (rng c.sk 0 15 && (rng c.px 0 10 && rng c.py 0 10)))))
def gridB (L1 L2 : List Ln) (L3 : List Ce) : Bool := linesB L1 && (linesB L2 && (decide ((L3.length : Int) ≤ 8) && L3.all (cellB L1.length L2.length)))
set_option maxRecDepth 100000 in
theorem validCell_v (c : Ce) (n m : Int) (b : Bool) (w : World) (hn : 1 ≤ n) (hn5 : n ≤ 5) (hm : 1 ≤ m) (hm5 : m ≤ 5) (hb : cellB n m c = b) : Calls Tryz.prog 84 #[.agg #[.int .i64 c.co, .int .i64 c.ro, .int .i64 c.mc, .int .i64 c.mr, .int .i64 c.cw, .int .i64 c.ch, .int .i64 c.sk, .int .i64 c.px, .int .i64 c.py], .int .i64 n, .int .i64 m] w fun e w' => e = .returned (.bool b) ∧ Below w.heap.size w w' := by
  cases h1 : runB c.co c.mc n
  · have hbf : false = b := by rw [← hb]; simp [cellB, h1]
    subst hbf
    go_enter Tryz.func84, Tryz.ntmps84
    go_wp2_with fail
    with_reducible refine (validRun_v _ _ n false _ hn hn5 h1).mono ?_
    rintro e w1 ⟨rfl, rfl⟩
    go_wp2
    go_ret
    exact ⟨rfl, (by repeat (first | with_reducible exact Below.refl _ _ | with_reducible assumption | with_reducible refine balloc ?_ | (with_reducible refine bset ?_ ?_; rotate_left; ((try dsimp only); omega)) | refine bkeep2 ?_ (by assumption) | with_reducible refine Below.drew ?_))⟩
  cases h2 : runB c.ro c.mr m
  · have hbf : false = b := by rw [← hb]; simp [cellB, h2]
    subst hbf
    go_enter Tryz.func84, Tryz.ntmps84
    go_wp2_with fail
    with_reducible refine (validRun_v _ _ n true _ hn hn5 h1).mono ?_
    rintro e w1 ⟨rfl, rfl⟩
    go_wp2_with fail
    with_reducible refine (validRun_v _ _ m false _ hm hm5 h2).mono ?_
    rintro e w1 ⟨rfl, rfl⟩
    go_wp2
    go_ret
    exact ⟨rfl, (by repeat (first | with_reducible exact Below.refl _ _ | with_reducible assumption | with_reducible refine balloc ?_ | (with_reducible refine bset ?_ ?_; rotate_left; ((try dsimp only); omega)) | refine bkeep2 ?_ (by assumption) | with_reducible refine Below.drew ?_))⟩
  cases h3 : (rng c.cw 0 30 && rng c.ch 0 30)
  · have hbf : false = b := by rw [← hb]; cases u : rng c.cw 0 30 <;> cases v : rng c.ch 0 30 <;> simp [cellB, u, v] at h3 ⊢
    subst hbf
    go_enter Tryz.func84, Tryz.ntmps84
    go_wp2_with fail
    with_reducible refine (validRun_v _ _ n true _ hn hn5 h1).mono ?_
    rintro e w1 ⟨rfl, rfl⟩
    go_wp2_with fail
    with_reducible refine (validRun_v _ _ m true _ hm hm5 h2).mono ?_
    rintro e w1 ⟨rfl, rfl⟩
    go_wp2_with fail
    with_reducible refine (validWish_w _ _ false _ h3).mono ?_
    rintro e w1 ⟨rfl, rfl⟩
    go_wp2
    go_ret
    exact ⟨rfl, (by repeat (first | with_reducible exact Below.refl _ _ | with_reducible assumption | with_reducible refine balloc ?_ | (with_reducible refine bset ?_ ?_; rotate_left; ((try dsimp only); omega)) | refine bkeep2 ?_ (by assumption) | with_reducible refine Below.drew ?_))⟩
  obtain ⟨h3a, h3b⟩ : rng c.cw 0 30 = true ∧ rng c.ch 0 30 = true := by simpa using h3
  cases h4 : rng c.sk 0 15
  · have hbf : false = b := by rw [← hb]; simp [cellB, h4, h3a, h3b]
    subst hbf
    go_enter Tryz.func84, Tryz.ntmps84
    go_wp2_with fail
    with_reducible refine (validRun_v _ _ n true _ hn hn5 h1).mono ?_
    rintro e w1 ⟨rfl, rfl⟩
    go_wp2_with fail
    with_reducible refine (validRun_v _ _ m true _ hm hm5 h2).mono ?_
    rintro e w1 ⟨rfl, rfl⟩
    go_wp2_with fail
    with_reducible refine (validWish_w _ _ true _ h3).mono ?_
    rintro e w1 ⟨rfl, rfl⟩
    go_wp2_with fail
    with_reducible refine (within_w _ 0 15 false _ h4).mono ?_
    rintro e w1 ⟨rfl, rfl⟩
    go_wp2
    go_ret
    exact ⟨rfl, (by repeat (first | with_reducible exact Below.refl _ _ | with_reducible assumption | with_reducible refine balloc ?_ | (with_reducible refine bset ?_ ?_; rotate_left; ((try dsimp only); omega)) | refine bkeep2 ?_ (by assumption) | with_reducible refine Below.drew ?_))⟩
  cases h5 : rng c.px 0 10
  · have hbf : false = b := by rw [← hb]; simp [cellB, h5, h3a, h3b]
    subst hbf
    go_enter Tryz.func84, Tryz.ntmps84
    go_wp2_with fail
    with_reducible refine (validRun_v _ _ n true _ hn hn5 h1).mono ?_
    rintro e w1 ⟨rfl, rfl⟩
    go_wp2_with fail
    with_reducible refine (validRun_v _ _ m true _ hm hm5 h2).mono ?_
    rintro e w1 ⟨rfl, rfl⟩
    go_wp2_with fail
    with_reducible refine (validWish_w _ _ true _ h3).mono ?_
    rintro e w1 ⟨rfl, rfl⟩
    go_wp2_with fail
    with_reducible refine (within_w _ 0 15 true _ h4).mono ?_
    rintro e w1 ⟨rfl, rfl⟩
    go_wp2_with fail
    with_reducible refine (within_w _ 0 10 false _ h5).mono ?_
    rintro e w1 ⟨rfl, rfl⟩
    go_wp2
    go_ret
    exact ⟨rfl, (by repeat (first | with_reducible exact Below.refl _ _ | with_reducible assumption | with_reducible refine balloc ?_ | (with_reducible refine bset ?_ ?_; rotate_left; ((try dsimp only); omega)) | refine bkeep2 ?_ (by assumption) | with_reducible refine Below.drew ?_))⟩
  have h6 : rng c.py 0 10 = b := by rw [← hb]; simp [cellB, h1, h2, h4, h5, h3a, h3b]
  cases b
  all_goals
    go_enter Tryz.func84, Tryz.ntmps84
    go_wp2_with fail
    with_reducible refine (validRun_v _ _ n true _ hn hn5 h1).mono ?_
    rintro e w1 ⟨rfl, rfl⟩
    go_wp2_with fail
    with_reducible refine (validRun_v _ _ m true _ hm hm5 h2).mono ?_
    rintro e w1 ⟨rfl, rfl⟩
    go_wp2_with fail
    with_reducible refine (validWish_w _ _ true _ h3).mono ?_
    rintro e w1 ⟨rfl, rfl⟩
    go_wp2_with fail
    with_reducible refine (within_w _ 0 15 true _ h4).mono ?_
    rintro e w1 ⟨rfl, rfl⟩
    go_wp2_with fail
    with_reducible refine (within_w _ 0 10 true _ h5).mono ?_
    rintro e w1 ⟨rfl, rfl⟩
    go_wp2_with fail
    with_reducible refine (within_w _ 0 10 _ _ h6).mono ?_
    rintro e w1 ⟨rfl, rfl⟩
    go_wp2
    go_ret
    exact ⟨rfl, (by repeat (first | with_reducible exact Below.refl _ _ | with_reducible assumption | with_reducible refine balloc ?_ | (with_reducible refine bset ?_ ?_; rotate_left; ((try dsimp only); omega)) | refine bkeep2 ?_ (by assumption) | with_reducible refine Below.drew ?_))⟩
theorem linesB_len' {L : List Ln} (h : linesB L = true) : 1 ≤ L.length ∧ L.length ≤ 5 := by
  simp only [linesB, Bool.and_eq_true, rng_iff] at h
  omega
set_option maxRecDepth 100000 in
theorem svalidCell_v (c : Ce) (n1 n2 n3 c1 c2 c3 : Nat) (A1 A2 A3 : Option Addr) (b : Bool) (w : World) (hn : n1 ≤ 1048576) (hm : n2 ≤ 1048576) (hb : cellB n1 n2 c = b) : Calls Tryz.prog 96 #[.agg #[.slice A1 n1 c1, .slice A2 n2 c2, .slice A3 n3 c3], .agg #[.int .i64 c.co, .int .i64 c.ro, .int .i64 c.mc, .int .i64 c.mr, .int .i64 c.cw, .int .i64 c.ch, .int .i64 c.sk, .int .i64 c.px, .int .i64 c.py]] w fun e w' => e = .returned (.bool b) ∧ Below w.heap.size w w' := by
  cases h1 : rng c.co 0 ((n1 : Int) - 1)
  · have hbf : false = b := by rw [← hb]; simp [cellB, runB, h1]
    subst hbf
    go_enter Tryz.func96, Tryz.ntmps96
    go_wp2_with fail
    with_reducible refine (inRange_w _ 0 ((n1 : Int) - 1) false _ h1).mono ?_
    rintro e w1 ⟨rfl, rfl⟩
    go_wp2
    go_ret
    exact ⟨rfl, (by repeat (first | with_reducible exact Below.refl _ _ | with_reducible assumption | with_reducible refine balloc ?_ | (with_reducible refine bset ?_ ?_; rotate_left; ((try dsimp only); omega)) | refine bkeep2 ?_ (by assumption) | with_reducible refine Below.drew ?_))⟩
  have ha1 := rng_iff.1 h1
  cases h2 : rng c.ro 0 ((n2 : Int) - 1)
  · have hbf : false = b := by rw [← hb]; simp [cellB, runB, h2]
    subst hbf
    go_enter Tryz.func96, Tryz.ntmps96
    go_wp2_with fail
    with_reducible refine (inRange_w _ 0 ((n1 : Int) - 1) true _ h1).mono ?_
    rintro e w1 ⟨rfl, rfl⟩
    go_wp2_with fail
    with_reducible refine (inRange_w _ 0 ((n2 : Int) - 1) false _ h2).mono ?_
    rintro e w1 ⟨rfl, rfl⟩
    go_wp2
    go_ret
    exact ⟨rfl, (by repeat (first | with_reducible exact Below.refl _ _ | with_reducible assumption | with_reducible refine balloc ?_ | (with_reducible refine bset ?_ ?_; rotate_left; ((try dsimp only); omega)) | refine bkeep2 ?_ (by assumption) | with_reducible refine Below.drew ?_))⟩
  have ha2 := rng_iff.1 h2
  cases h3 : rng c.mc 1 ((n1 : Int) - c.co)
  · have hbf : false = b := by rw [← hb]; simp [cellB, runB, h3]
    subst hbf
    go_enter Tryz.func96, Tryz.ntmps96
    go_wp2_with fail
    with_reducible refine (inRange_w _ 0 ((n1 : Int) - 1) true _ h1).mono ?_
    rintro e w1 ⟨rfl, rfl⟩
    go_wp2_with fail
    with_reducible refine (inRange_w _ 0 ((n2 : Int) - 1) true _ h2).mono ?_
    rintro e w1 ⟨rfl, rfl⟩
    go_wp2_with fail
    with_reducible refine (inRange_w _ 1 ((n1 : Int) - c.co) false _ h3).mono ?_
    rintro e w1 ⟨rfl, rfl⟩
    go_wp2
    go_ret
    exact ⟨rfl, (by repeat (first | with_reducible exact Below.refl _ _ | with_reducible assumption | with_reducible refine balloc ?_ | (with_reducible refine bset ?_ ?_; rotate_left; ((try dsimp only); omega)) | refine bkeep2 ?_ (by assumption) | with_reducible refine Below.drew ?_))⟩
  cases h4 : rng c.mr 1 ((n2 : Int) - c.ro)
  · have hbf : false = b := by rw [← hb]; simp [cellB, runB, h4]
    subst hbf
    go_enter Tryz.func96, Tryz.ntmps96
    go_wp2_with fail
    with_reducible refine (inRange_w _ 0 ((n1 : Int) - 1) true _ h1).mono ?_
    rintro e w1 ⟨rfl, rfl⟩
    go_wp2_with fail
    with_reducible refine (inRange_w _ 0 ((n2 : Int) - 1) true _ h2).mono ?_
    rintro e w1 ⟨rfl, rfl⟩
    go_wp2_with fail
    with_reducible refine (inRange_w _ 1 ((n1 : Int) - c.co) true _ h3).mono ?_
    rintro e w1 ⟨rfl, rfl⟩
    go_wp2_with fail
    with_reducible refine (inRange_w _ 1 ((n2 : Int) - c.ro) false _ h4).mono ?_
    rintro e w1 ⟨rfl, rfl⟩
    go_wp2
    go_ret
    exact ⟨rfl, (by repeat (first | with_reducible exact Below.refl _ _ | with_reducible assumption | with_reducible refine balloc ?_ | (with_reducible refine bset ?_ ?_; rotate_left; ((try dsimp only); omega)) | refine bkeep2 ?_ (by assumption) | with_reducible refine Below.drew ?_))⟩
  cases h5 : rng c.cw 0 30
  · have hbf : false = b := by rw [← hb]; simp [cellB, runB, h5]
    subst hbf
    go_enter Tryz.func96, Tryz.ntmps96
    go_wp2_with fail
    with_reducible refine (inRange_w _ 0 ((n1 : Int) - 1) true _ h1).mono ?_
    rintro e w1 ⟨rfl, rfl⟩
    go_wp2_with fail
    with_reducible refine (inRange_w _ 0 ((n2 : Int) - 1) true _ h2).mono ?_
    rintro e w1 ⟨rfl, rfl⟩
    go_wp2_with fail
    with_reducible refine (inRange_w _ 1 ((n1 : Int) - c.co) true _ h3).mono ?_
    rintro e w1 ⟨rfl, rfl⟩
    go_wp2_with fail
    with_reducible refine (inRange_w _ 1 ((n2 : Int) - c.ro) true _ h4).mono ?_
    rintro e w1 ⟨rfl, rfl⟩
    go_wp2_with fail
    with_reducible refine (inRange_w _ 0 30 false _ h5).mono ?_
    rintro e w1 ⟨rfl, rfl⟩
    go_wp2
    go_ret
    exact ⟨rfl, (by repeat (first | with_reducible exact Below.refl _ _ | with_reducible assumption | with_reducible refine balloc ?_ | (with_reducible refine bset ?_ ?_; rotate_left; ((try dsimp only); omega)) | refine bkeep2 ?_ (by assumption) | with_reducible refine Below.drew ?_))⟩
  cases h6 : rng c.ch 0 30
  · have hbf : false = b := by rw [← hb]; simp [cellB, runB, h6]
    subst hbf
    go_enter Tryz.func96, Tryz.ntmps96
    go_wp2_with fail
    with_reducible refine (inRange_w _ 0 ((n1 : Int) - 1) true _ h1).mono ?_
    rintro e w1 ⟨rfl, rfl⟩
    go_wp2_with fail
    with_reducible refine (inRange_w _ 0 ((n2 : Int) - 1) true _ h2).mono ?_
    rintro e w1 ⟨rfl, rfl⟩
    go_wp2_with fail
    with_reducible refine (inRange_w _ 1 ((n1 : Int) - c.co) true _ h3).mono ?_
    rintro e w1 ⟨rfl, rfl⟩
    go_wp2_with fail
    with_reducible refine (inRange_w _ 1 ((n2 : Int) - c.ro) true _ h4).mono ?_
    rintro e w1 ⟨rfl, rfl⟩
    go_wp2_with fail
    with_reducible refine (inRange_w _ 0 30 true _ h5).mono ?_
    rintro e w1 ⟨rfl, rfl⟩
    go_wp2_with fail
    with_reducible refine (inRange_w _ 0 30 false _ h6).mono ?_
    rintro e w1 ⟨rfl, rfl⟩
    go_wp2
    go_ret
    exact ⟨rfl, (by repeat (first | with_reducible exact Below.refl _ _ | with_reducible assumption | with_reducible refine balloc ?_ | (with_reducible refine bset ?_ ?_; rotate_left; ((try dsimp only); omega)) | refine bkeep2 ?_ (by assumption) | with_reducible refine Below.drew ?_))⟩
  cases h7 : rng c.sk 0 15
  · have hbf : false = b := by rw [← hb]; simp [cellB, runB, h7]
    subst hbf
    go_enter Tryz.func96, Tryz.ntmps96
    go_wp2_with fail
    with_reducible refine (inRange_w _ 0 ((n1 : Int) - 1) true _ h1).mono ?_
    rintro e w1 ⟨rfl, rfl⟩
    go_wp2_with fail
    with_reducible refine (inRange_w _ 0 ((n2 : Int) - 1) true _ h2).mono ?_
    rintro e w1 ⟨rfl, rfl⟩
    go_wp2_with fail
    with_reducible refine (inRange_w _ 1 ((n1 : Int) - c.co) true _ h3).mono ?_
    rintro e w1 ⟨rfl, rfl⟩
    go_wp2_with fail
    with_reducible refine (inRange_w _ 1 ((n2 : Int) - c.ro) true _ h4).mono ?_
    rintro e w1 ⟨rfl, rfl⟩
    go_wp2_with fail
    with_reducible refine (inRange_w _ 0 30 true _ h5).mono ?_
    rintro e w1 ⟨rfl, rfl⟩
    go_wp2_with fail
    with_reducible refine (inRange_w _ 0 30 true _ h6).mono ?_
    rintro e w1 ⟨rfl, rfl⟩
    go_wp2_with fail
    with_reducible refine (inRange_w _ 0 15 false _ h7).mono ?_
    rintro e w1 ⟨rfl, rfl⟩
    go_wp2
    go_ret
    exact ⟨rfl, (by repeat (first | with_reducible exact Below.refl _ _ | with_reducible assumption | with_reducible refine balloc ?_ | (with_reducible refine bset ?_ ?_; rotate_left; ((try dsimp only); omega)) | refine bkeep2 ?_ (by assumption) | with_reducible refine Below.drew ?_))⟩
  cases h8 : rng c.px 0 10
  · have hbf : false = b := by rw [← hb]; simp [cellB, runB, h8]
    subst hbf
    go_enter Tryz.func96, Tryz.ntmps96
    go_wp2_with fail
    with_reducible refine (inRange_w _ 0 ((n1 : Int) - 1) true _ h1).mono ?_
    rintro e w1 ⟨rfl, rfl⟩
    go_wp2_with fail
    with_reducible refine (inRange_w _ 0 ((n2 : Int) - 1) true _ h2).mono ?_
    rintro e w1 ⟨rfl, rfl⟩
    go_wp2_with fail
    with_reducible refine (inRange_w _ 1 ((n1 : Int) - c.co) true _ h3).mono ?_
    rintro e w1 ⟨rfl, rfl⟩
    go_wp2_with fail
    with_reducible refine (inRange_w _ 1 ((n2 : Int) - c.ro) true _ h4).mono ?_
    rintro e w1 ⟨rfl, rfl⟩
    go_wp2_with fail
    with_reducible refine (inRange_w _ 0 30 true _ h5).mono ?_
    rintro e w1 ⟨rfl, rfl⟩
    go_wp2_with fail
    with_reducible refine (inRange_w _ 0 30 true _ h6).mono ?_
    rintro e w1 ⟨rfl, rfl⟩
    go_wp2_with fail
    with_reducible refine (inRange_w _ 0 15 true _ h7).mono ?_
    rintro e w1 ⟨rfl, rfl⟩
    go_wp2_with fail
    with_reducible refine (inRange_w _ 0 10 false _ h8).mono ?_
    rintro e w1 ⟨rfl, rfl⟩
    go_wp2
    go_ret
    exact ⟨rfl, (by repeat (first | with_reducible exact Below.refl _ _ | with_reducible assumption | with_reducible refine balloc ?_ | (with_reducible refine bset ?_ ?_; rotate_left; ((try dsimp only); omega)) | refine bkeep2 ?_ (by assumption) | with_reducible refine Below.drew ?_))⟩
  have h9 : rng c.py 0 10 = b := by rw [← hb]; simp [cellB, runB, h1, h2, h3, h4, h5, h6, h7, h8]
  cases b
  all_goals
    go_enter Tryz.func96, Tryz.ntmps96
    go_wp2_with fail
    with_reducible refine (inRange_w _ 0 ((n1 : Int) - 1) true _ h1).mono ?_
    rintro e w1 ⟨rfl, rfl⟩
    go_wp2_with fail
    with_reducible refine (inRange_w _ 0 ((n2 : Int) - 1) true _ h2).mono ?_
    rintro e w1 ⟨rfl, rfl⟩
    go_wp2_with fail
    with_reducible refine (inRange_w _ 1 ((n1 : Int) - c.co) true _ h3).mono ?_
    rintro e w1 ⟨rfl, rfl⟩
    go_wp2_with fail
    with_reducible refine (inRange_w _ 1 ((n2 : Int) - c.ro) true _ h4).mono ?_
    rintro e w1 ⟨rfl, rfl⟩
    go_wp2_with fail
    with_reducible refine (inRange_w _ 0 30 true _ h5).mono ?_
    rintro e w1 ⟨rfl, rfl⟩
    go_wp2_with fail
    with_reducible refine (inRange_w _ 0 30 true _ h6).mono ?_
    rintro e w1 ⟨rfl, rfl⟩
    go_wp2_with fail
    with_reducible refine (inRange_w _ 0 15 true _ h7).mono ?_
    rintro e w1 ⟨rfl, rfl⟩
    go_wp2_with fail
    with_reducible refine (inRange_w _ 0 10 true _ h8).mono ?_
    rintro e w1 ⟨rfl, rfl⟩
    go_wp2_with fail
    with_reducible refine (inRange_w _ 0 10 _ _ h9).mono ?_
    rintro e w1 ⟨rfl, rfl⟩
    go_wp2
    go_ret
    exact ⟨rfl, (by repeat (first | with_reducible exact Below.refl _ _ | with_reducible assumption | with_reducible refine balloc ?_ | (with_reducible refine bset ?_ ?_; rotate_left; ((try dsimp only); omega)) | refine bkeep2 ?_ (by assumption) | with_reducible refine Below.drew ?_))⟩
end Go.Proofs.YtgdkionmeacalaaGreat
end
section
namespace Go.Proofs.YtgdkionmeacalaaGreat
open Go.RowKit
set_option linter.unusedVariables false
set_option maxHeartbeats 1000000
attribute [local go_sem] growUpon_value growUpon_skip growUpon_enter
def acM (c : Ce) : Sp := ⟨c.co, c.mc, c.cw + 2 * c.px⟩
def dnM (c : Ce) : Sp := ⟨c.ro, c.mr, c.ch + 2 * c.py⟩
def smC (c : Ce) : Prop := (0 ≤ c.cw ∧ c.cw ≤ 30) ∧ (0 ≤ c.ch ∧ c.ch ≤ 30) ∧ (0 ≤ c.px ∧ c.px ≤ 10) ∧ (0 ≤ c.py ∧ c.py ≤ 10)
def smW (c : Ce) : Prop := (0 ≤ c.cw ∧ c.cw ≤ 1000000000000) ∧ (0 ≤ c.ch ∧ c.ch ≤ 1000000000000) ∧ (0 ≤ c.px ∧ c.px ≤ 10) ∧ (0 ≤ c.py ∧ c.py ≤ 10)
theorem smC.w {c : Ce} (h : smC c) : smW c := by unfold smC at h; unfold smW; omega
theorem cellB_sm {n m : Int} {c : Ce} (h : cellB n m c = true) : smC c := by
  simp only [cellB, Bool.and_eq_true, rng_iff] at h
  exact ⟨h.2.2.1, h.2.2.2.1, h.2.2.2.2.2.1, h.2.2.2.2.2.2⟩
theorem cellB_ac {n m : Int} {c : Ce} (h : cellB n m c = true) : spanB n (acM c) = true ∧ spanB m (dnM c) = true := by
  have hs := cellB_sm h
  simp only [cellB, Bool.and_eq_true] at h
  obtain ⟨⟨b1, b2⟩, ⟨b3, b4⟩, ⟨b5, b6⟩, ⟨b7, b8⟩⟩ := hs
  refine ⟨?_, ?_⟩
  · simp only [spanB, acM, Bool.and_eq_true, rng_iff]
    exact ⟨h.1, by omega, by omega⟩
  · simp only [spanB, dnM, Bool.and_eq_true, rng_iff]
    exact ⟨h.2.1, by omega, by omega⟩
theorem gridB_yes {L1 L2 : List Ln} {L3 : List Ce} (h : gridB L1 L2 L3 = true) : linesB L1 = true ∧ linesB L2 = true ∧ L3.length ≤ 8 ∧ (∀ c ∈ L3, smC c) ∧ spansB L1.length (L3.map acM) = true ∧ spansB L2.length (L3.map dnM) = true := by
  simp only [gridB, Bool.and_eq_true, decide_eq_true_eq] at h
  obtain ⟨h1, h2, h3, h4⟩ := h
  have h5 := List.all_eq_true.1 h4
  refine ⟨h1, h2, by omega, fun c hc => cellB_sm (h5 c hc), ?_, ?_⟩
  · simp only [spansB, List.length_map, Bool.and_eq_true, decide_eq_true_eq, List.all_map, List.all_eq_true]
    exact ⟨h3, fun c hc => (cellB_ac (h5 c hc)).1⟩
  · simp only [spansB, List.length_map, Bool.and_eq_true, decide_eq_true_eq, List.all_map, List.all_eq_true]
    exact ⟨h3, fun c hc => (cellB_ac (h5 c hc)).2⟩
set_option maxRecDepth 100000 in
theorem across_e (p : Ce) (w : World) (h : smW p) : Calls Tryz.prog 157 #[.agg #[.int .i64 p.co, .int .i64 p.ro, .int .i64 p.mc, .int .i64 p.mr, .int .i64 p.cw, .int .i64 p.ch, .int .i64 p.sk, .int .i64 p.px, .int .i64 p.py]] w fun e w' => e = .returned (.agg #[.int .i64 p.co, .int .i64 p.mc, .int .i64 (p.cw + 2 * p.px)]) ∧ Below w.heap.size w w' := by
  obtain ⟨⟨b1, b2⟩, ⟨b3, b4⟩, ⟨b5, b6⟩, ⟨b7, b8⟩⟩ := h
  go_enter Tryz.func157, Tryz.ntmps157
  go_wp2
  exact bodyPost_ret (v := .agg #[.int .i64 p.co, .int .i64 p.mc, .int .i64 (p.cw + 2 * p.px)]) (by simp only [results, Tryz.results157]; go_simp) rfl ⟨rfl, (by repeat (first | with_reducible exact Below.refl _ _ | with_reducible assumption | with_reducible refine balloc ?_ | (with_reducible refine bset ?_ ?_; rotate_left; ((try dsimp only); omega)) | refine bkeep2 ?_ (by assumption) | with_reducible refine Below.drew ?_))⟩
set_option maxRecDepth 100000 in
theorem across_v (p : Ce) (w : World) (h : smW p) : Calls Tryz.prog 157 #[.agg #[.int .i64 p.co, .int .i64 p.ro, .int .i64 p.mc, .int .i64 p.mr, .int .i64 p.cw, .int .i64 p.ch, .int .i64 p.sk, .int .i64 p.px, .int .i64 p.py]] w fun e w' => e = .returned (.agg #[.int .i64 (acM p).sa, .int .i64 (acM p).many, .int .i64 (acM p).need]) ∧ Below w.heap.size w w' := across_e p w h
set_option maxRecDepth 100000 in
theorem each_acrossW (A : Option Addr) (c : Nat) (L : List Ce) (w : World) (h : CeV w A L) (hL : L.length ≤ 1048576) (hsm : ∀ p ∈ L, smW p) :
    Calls Tryz.prog 169 #[.slice A L.length c, .func (.func 157) #[] #[]] w fun e w' => e = .returned (.slice (some ⟨w.heap.size, 0, none⟩) L.length L.length) ∧ SpB w' w.heap.size (L.map acM) ∧ Below w.heap.size w w' := by
  obtain ⟨f, hf, hmk0⟩ := madeSp
  have hmk : ∀ w : World, (Instr.makeSlice 117 (.int .i64 (L.length : Int)) (.int .i64 (L.length : Int))).run Tryz.prog w = .ok (.slice (some ⟨w.heap.size, 0, none⟩) L.length L.length) (w.alloc (.cells (f L.length) 161)) := fun w => hmk0 L.length w hL
  have HSM := Lib.hid hsm
  go_enter Tryz.func169, Tryz.ntmps169
  go_wp2_with fail
  have HWW : Hid (∃ cs : Array Value, (w.alloc (.cells (f L.length) 161)).heap[w.heap.size]? = some (.cells cs 161 (0, 0)) ∧ cs.size = L.length * 3 ∧ ∀ i p, i < 0 → (L.map acM)[i]? = some p → InS cs (i * 3) (valsSp p)) := Lib.hid ⟨_, newS _ _, hf _, fun i p hi => absurd hi (by omega)⟩
  clear hmk hmk0 hf hsm
  go_loopw [13] (fun i wr => ∃ k : Nat, k ≤ L.length ∧ i = .int .i64 k ∧ (∃ cs : Array Value, wr.heap[w.heap.size]? = some (.cells cs 161 (0, 0)) ∧ cs.size = L.length * 3 ∧ ∀ i p, i < k → (L.map acM)[i]? = some p → InS cs (i * 3) (valsSp p)) ∧ Below w.heap.size w wr) (fun i _ => L.length - (intOf i).toNat)
  case atStart => exact ⟨0, by omega, rfl, HWW.out, balloc (Below.refl _ _)⟩
  case round =>
    obtain ⟨k, hk, rfl, ⟨cs, hh, hs, hc⟩, hB⟩ := hrel
    clear HWW
    by_cases hlt : k < L.length
    · have hd : decide ((k : Int) < (L.length : Int)) = true := by simpa using hlt
      obtain ⟨b, off, rfl, hb, hp⟩ := (h.keep hB).cells (by omega)
      have hget : L[k]? = some L[k] := List.getElem?_eq_getElem hlt
      obtain ⟨c0, c1, c2, c3, c4, c5, c6, c7, c8⟩ := hp k _ hget
      have hsk : smW L[k] := HSM.out _ (List.getElem_mem hlt)
      generalize hx : L[k] = p at *
      have HG := Lib.hid (show (L.map acM)[k]? = some (acM p) by rw [List.getElem?_map, hget]; rfl)
      have HH := Lib.hid hh
      have HS := Lib.hid hs
      have HC := Lib.hid hc
      have HBB := Lib.hid hB
      have HK := Lib.hid hsk
      clear hget hx hh hs hc hB hp hsk
      go_wp2_with fail
      refine (across_v p _ HK.out).mono ?_
      rintro e w1 ⟨rfl, hb1⟩
      have hlg : w.heap.size < wr.heap.size := ltS HH.out
      have hb01 := bkeep2 (balloc (Below.refl wr.heap.size wr)) hb1
      replace HH := Lib.hid ((hb01.block _ hlg).trans HH.out)
      replace HBB := Lib.hid (HBB.out.trans (hb01.mono HBB.out.size))
      clear hb1 hb01 c0 c1 c2 c3 c4 c5 c6 c7 c8 hlg
      have hsz : k * 3 + 3 ≤ cs.size := by rw [HS.out]; omega
      obtain ⟨y0, d0⟩ := thereS HH.out (i := k * 3) (by omega)
      obtain ⟨y1, d1⟩ := thereS HH.out (i := k * 3 + 1) (by omega)
      obtain ⟨y2, d2⟩ := thereS HH.out (i := k * 3 + 2) (by omega)
      have f0 := frozenS HH.out (k * 3)
      have f1 := frozenS HH.out (k * 3 + 1)
      have f2 := frozenS HH.out (k * 3 + 2)
      have E1 := Lib.hid (putSp HH.out (k * 3) (acM p))
      have E2 := Lib.hid (putSpb HBB.out (Nat.le_refl _) (k * 3) (acM p))
      go_wp2
      go_roundw
      case rel => exact ⟨k + 1, by omega, by go_num, ⟨_, E1.out, (wrAt_size _ _ _).trans HS.out, fun i q hi hq => by
        by_cases e : i = k
        · subst e
          obtain rfl : (acM p) = q := by have := HG.out; rw [this] at hq; exact Option.some.inj hq
          exact InS.write (by simp only [valsSp, List.length_cons, List.length_nil]; omega)
        · exact (HC.out i q (by omega) hq).keepS (.inl (by simp only [valsSp, List.length_cons, List.length_nil]; omega))⟩, E2.out⟩
      case measure => simp [intOf]; omega
    · have hd : decide ((k : Int) < (L.length : Int)) = false := decide_eq_false (by omega)
      obtain rfl : k = L.length := by omega
      have HR := Lib.hid (show SpB wr w.heap.size (L.map acM) from ⟨cs, hh, by rw [List.length_map]; exact hs, fun i p hp => hc i p (by have := (List.getElem?_eq_some_iff.1 hp).1; rwa [List.length_map] at this) hp⟩)
      have HBB := Lib.hid hB
      clear hh hs hc hB
      go_wp2
      go_ret
      exact ⟨rfl, HR.out, HBB.out⟩
set_option maxRecDepth 100000 in
theorem down_e (p : Ce) (w : World) (h : smW p) : Calls Tryz.prog 170 #[.agg #[.int .i64 p.co, .int .i64 p.ro, .int .i64 p.mc, .int .i64 p.mr, .int .i64 p.cw, .int .i64 p.ch, .int .i64 p.sk, .int .i64 p.px, .int .i64 p.py]] w fun e w' => e = .returned (.agg #[.int .i64 p.ro, .int .i64 p.mr, .int .i64 (p.ch + 2 * p.py)]) ∧ Below w.heap.size w w' := by
  obtain ⟨⟨b1, b2⟩, ⟨b3, b4⟩, ⟨b5, b6⟩, ⟨b7, b8⟩⟩ := h
  go_enter Tryz.func170, Tryz.ntmps170
  go_wp2
  exact bodyPost_ret (v := .agg #[.int .i64 p.ro, .int .i64 p.mr, .int .i64 (p.ch + 2 * p.py)]) (by simp only [results, Tryz.results170]; go_simp) rfl ⟨rfl, (by repeat (first | with_reducible exact Below.refl _ _ | with_reducible assumption | with_reducible refine balloc ?_ | (with_reducible refine bset ?_ ?_; rotate_left; ((try dsimp only); omega)) | refine bkeep2 ?_ (by assumption) | with_reducible refine Below.drew ?_))⟩
set_option maxRecDepth 100000 in
theorem down_v (p : Ce) (w : World) (h : smW p) : Calls Tryz.prog 170 #[.agg #[.int .i64 p.co, .int .i64 p.ro, .int .i64 p.mc, .int .i64 p.mr, .int .i64 p.cw, .int .i64 p.ch, .int .i64 p.sk, .int .i64 p.px, .int .i64 p.py]] w fun e w' => e = .returned (.agg #[.int .i64 (dnM p).sa, .int .i64 (dnM p).many, .int .i64 (dnM p).need]) ∧ Below w.heap.size w w' := down_e p w h
set_option maxRecDepth 100000 in
theorem each_downW (A : Option Addr) (c : Nat) (L : List Ce) (w : World) (h : CeV w A L) (hL : L.length ≤ 1048576) (hsm : ∀ p ∈ L, smW p) :
    Calls Tryz.prog 169 #[.slice A L.length c, .func (.func 170) #[] #[]] w fun e w' => e = .returned (.slice (some ⟨w.heap.size, 0, none⟩) L.length L.length) ∧ SpB w' w.heap.size (L.map dnM) ∧ Below w.heap.size w w' := by
  obtain ⟨f, hf, hmk0⟩ := madeSp
  have hmk : ∀ w : World, (Instr.makeSlice 117 (.int .i64 (L.length : Int)) (.int .i64 (L.length : Int))).run Tryz.prog w = .ok (.slice (some ⟨w.heap.size, 0, none⟩) L.length L.length) (w.alloc (.cells (f L.length) 161)) := fun w => hmk0 L.length w hL
  have HSM := Lib.hid hsm
  go_enter Tryz.func169, Tryz.ntmps169
  go_wp2_with fail
  have HWW : Hid (∃ cs : Array Value, (w.alloc (.cells (f L.length) 161)).heap[w.heap.size]? = some (.cells cs 161 (0, 0)) ∧ cs.size = L.length * 3 ∧ ∀ i p, i < 0 → (L.map dnM)[i]? = some p → InS cs (i * 3) (valsSp p)) := Lib.hid ⟨_, newS _ _, hf _, fun i p hi => absurd hi (by omega)⟩
  clear hmk hmk0 hf hsm
  go_loopw [13] (fun i wr => ∃ k : Nat, k ≤ L.length ∧ i = .int .i64 k ∧ (∃ cs : Array Value, wr.heap[w.heap.size]? = some (.cells cs 161 (0, 0)) ∧ cs.size = L.length * 3 ∧ ∀ i p, i < k → (L.map dnM)[i]? = some p → InS cs (i * 3) (valsSp p)) ∧ Below w.heap.size w wr) (fun i _ => L.length - (intOf i).toNat)
  case atStart => exact ⟨0, by omega, rfl, HWW.out, balloc (Below.refl _ _)⟩
  case round =>
    obtain ⟨k, hk, rfl, ⟨cs, hh, hs, hc⟩, hB⟩ := hrel
    clear HWW
    by_cases hlt : k < L.length
    · have hd : decide ((k : Int) < (L.length : Int)) = true := by simpa using hlt
      obtain ⟨b, off, rfl, hb, hp⟩ := (h.keep hB).cells (by omega)
      have hget : L[k]? = some L[k] := List.getElem?_eq_getElem hlt
      obtain ⟨c0, c1, c2, c3, c4, c5, c6, c7, c8⟩ := hp k _ hget
      have hsk : smW L[k] := HSM.out _ (List.getElem_mem hlt)
      generalize hx : L[k] = p at *
      have HG := Lib.hid (show (L.map dnM)[k]? = some (dnM p) by rw [List.getElem?_map, hget]; rfl)
      have HH := Lib.hid hh
      have HS := Lib.hid hs
      have HC := Lib.hid hc
      have HBB := Lib.hid hB
      have HK := Lib.hid hsk
      clear hget hx hh hs hc hB hp hsk
      go_wp2_with fail
      refine (down_v p _ HK.out).mono ?_
      rintro e w1 ⟨rfl, hb1⟩
      have hlg : w.heap.size < wr.heap.size := ltS HH.out
      have hb01 := bkeep2 (balloc (Below.refl wr.heap.size wr)) hb1
      replace HH := Lib.hid ((hb01.block _ hlg).trans HH.out)
      replace HBB := Lib.hid (HBB.out.trans (hb01.mono HBB.out.size))
      clear hb1 hb01 c0 c1 c2 c3 c4 c5 c6 c7 c8 hlg
      have hsz : k * 3 + 3 ≤ cs.size := by rw [HS.out]; omega
      obtain ⟨y0, d0⟩ := thereS HH.out (i := k * 3) (by omega)
      obtain ⟨y1, d1⟩ := thereS HH.out (i := k * 3 + 1) (by omega)
      obtain ⟨y2, d2⟩ := thereS HH.out (i := k * 3 + 2) (by omega)
      have f0 := frozenS HH.out (k * 3)
      have f1 := frozenS HH.out (k * 3 + 1)
      have f2 := frozenS HH.out (k * 3 + 2)
      have E1 := Lib.hid (putSp HH.out (k * 3) (dnM p))
      have E2 := Lib.hid (putSpb HBB.out (Nat.le_refl _) (k * 3) (dnM p))
      go_wp2
      go_roundw
      case rel => exact ⟨k + 1, by omega, by go_num, ⟨_, E1.out, (wrAt_size _ _ _).trans HS.out, fun i q hi hq => by
        by_cases e : i = k
        · subst e
          obtain rfl : (dnM p) = q := by have := HG.out; rw [this] at hq; exact Option.some.inj hq
          exact InS.write (by simp only [valsSp, List.length_cons, List.length_nil]; omega)
        · exact (HC.out i q (by omega) hq).keepS (.inl (by simp only [valsSp, List.length_cons, List.length_nil]; omega))⟩, E2.out⟩
      case measure => simp [intOf]; omega
    · have hd : decide ((k : Int) < (L.length : Int)) = false := decide_eq_false (by omega)
      obtain rfl : k = L.length := by omega
      have HR := Lib.hid (show SpB wr w.heap.size (L.map dnM) from ⟨cs, hh, by rw [List.length_map]; exact hs, fun i p hp => hc i p (by have := (List.getElem?_eq_some_iff.1 hp).1; rwa [List.length_map] at this) hp⟩)
      have HBB := Lib.hid hB
      clear hh hs hc hB
      go_wp2
      go_ret
      exact ⟨rfl, HR.out, HBB.out⟩
theorem each_across (A : Option Addr) (c : Nat) (L : List Ce) (w : World) (h : CeV w A L) (hL : L.length ≤ 1048576) (hsm : ∀ p ∈ L, smC p) :
    Calls Tryz.prog 169 #[.slice A L.length c, .func (.func 157) #[] #[]] w fun e w' => e = .returned (.slice (some ⟨w.heap.size, 0, none⟩) L.length L.length) ∧ SpB w' w.heap.size (L.map acM) ∧ Below w.heap.size w w' := each_acrossW A c L w h hL (fun p hp => (hsm p hp).w)
theorem each_down (A : Option Addr) (c : Nat) (L : List Ce) (w : World) (h : CeV w A L) (hL : L.length ≤ 1048576) (hsm : ∀ p ∈ L, smC p) :
    Calls Tryz.prog 169 #[.slice A L.length c, .func (.func 170) #[] #[]] w fun e w' => e = .returned (.slice (some ⟨w.heap.size, 0, none⟩) L.length L.length) ∧ SpB w' w.heap.size (L.map dnM) ∧ Below w.heap.size w w' := each_downW A c L w h hL (fun p hp => (hsm p hp).w)
end Go.Proofs.YtgdkionmeacalaaGreat
end
section
namespace Go.Proofs.YtgdkionmeacalaaGreat
open Go.RowKit
set_option linter.unusedVariables false
set_option maxHeartbeats 1000000
attribute [local go_sem 5000] run_mx run_mn
attribute [local go_sem] growUpon_value growUpon_skip growUpon_enter
theorem total_b (A : Option Addr) (c n : Nat) (L : List Int) (w : World) (h : NV w A L) (hn : n = L.length) (hL : n ≤ 1048576) (hM : Smal 1000000000000000 L) :
    Calls Tryz.prog 73 #[.slice A n c] w fun e w' => e = .returned (.int .i64 (sumI L)) ∧ Below w.heap.size w w' := by
  refine (total_n A c n L w h hn hL hM).mono ?_
  rintro e w1 ⟨rfl, rfl⟩
  exact ⟨rfl, Below.refl _ _⟩
theorem OB.setB {lo : Nat} {w wr : World} {g : Nat} (h : Below lo w wr) (hg : lo ≤ g) (i : Nat) (v : Value) : Below lo w (wr.setCell ⟨g, i, none⟩ v) := h.setCell (p := ⟨g, i, none⟩) hg v
theorem step_none {ws O : List Int} {s : Sp} (hw : wsOK (segI ws s.sa.toNat s.many.toNat)) (h : s.need - sumI (segI O s.sa.toNat s.many.toNat) ≤ 0) : stepM ws O s = O := by
  unfold stepM
  have hm : mx (s.need - sumI (segI O s.sa.toNat s.many.toNat)) 0 = 0 := by have := mx_spec (s.need - sumI (segI O s.sa.toNat s.many.toNat)) 0; omega
  rw [hm]
  exact addAt_zero (spread_zero hw)
theorem sspread_n (A : Option Addr) (c m : Nat) (n : Int) (ws : List Int) (w : World) (h : NV w A ws) (hm : m = ws.length) (hw : wsOK ws) (hn : 0 ≤ n) (hn2 : n ≤ 100000000000000) :
    Calls Tryz.prog 108 #[.int .i64 n, .slice A m c] w fun e w' => e = .returned (.slice (some ⟨w.heap.size, 0, none⟩) m m) ∧ IB w' w.heap.size (spreadM n ws) ∧ Below w.heap.size w w' := by subst hm; exact sspread_v A c n ws w h hw hn hn2
theorem seg_map (L : List Ln) (a m : Nat) : ((L.drop a).take m).map Ln.wt = segI (L.map Ln.wt) a m := by simp [segI, List.map_take, List.map_drop]
set_option maxRecDepth 100000 in
theorem wished_w (A : Option Addr) (c : Nat) (L : List Ln) (A' : Option Addr) (c' : Nat) (S : List Sp) (w : World) (h : LnV w A L) (hL : linesB L = true) (h' : SpV w A' S) (hS : spansW L.length S) (hc : L.length ≤ c) :
    Calls Tryz.prog 74 #[.slice A L.length c, .slice A' S.length c'] w fun e w' => (∃ g cap, e = .returned (.slice (some ⟨g, 0, none⟩) L.length cap) ∧ w.heap.size ≤ g ∧ OB w' g cap (wishM L S)) ∧ Below w.heap.size w w' := by
  obtain ⟨hl1, hl5⟩ := linesB_len hL
  obtain ⟨hs8, hsa⟩ := id hS
  have hww := (min_bd hL).2
  have HL := Lib.hid hL
  have HS := Lib.hid hS
  have HSA := Lib.hid hsa
  have HWW := Lib.hid hww
  obtain ⟨ti, tz, ti1, ti2, ti3, ti4, ti5⟩ := int_infoW
  obtain ⟨bl, offl, rfl, hbl, hpl⟩ := h.cells (by omega)
  have HPL := Lib.hid hpl
  clear hpl
  clear hL hS hsa hww
  go_enter Tryz.func74, Tryz.ntmps74
  go_wp2_with fail
  have ho0 : (w.alloc (.cells #[] 3 (0, 0))).ownsRow w.heap.size 3 1 (.slice (some ⟨w.heap.size, 0, none⟩) 0 0) 0 (nvalsW []) := World.ownsRow_lit (base := w.heap.size) (e := 3) (size := 1) w #[] 0 (Nat.le_refl _) (by decide) rfl
  have HO := Lib.hid ho0
  have HB := Lib.hid (balloc (o := (.cells #[] 3 (0, 0))) (Below.refl w.heap.size w))
  clear ho0
  go_loopw [5, 6] (fun out i wr => ∃ k : Nat, k ≤ L.length ∧ i = .int .i64 k ∧ wr.ownsRow w.heap.size 3 1 out k (nvalsW ((L.map Ln.mi).take k)) ∧ Below w.heap.size w wr) (fun _ i _ => L.length - (intOf i).toNat)
  case atStart => exact ⟨0, by omega, rfl, HO.out, HB.out⟩
  case round =>
    obtain ⟨k, hk, rfl, ho, hB⟩ := hrel
    clear HO HB
    by_cases hlt : k < L.length
    · have hd : decide ((k : Int) < (L.length : Int)) = true := by simpa using hlt
      obtain ⟨b, off, eA, hb, hp⟩ := (h.keep hB).cells (by omega)
      obtain ⟨rfl, rfl⟩ : bl = b ∧ offl = off := by injection eA with eA; injection eA with e1 e2; exact ⟨e1, e2⟩
      have hget : L[k]? = some L[k] := List.getElem?_eq_getElem hlt
      obtain ⟨c0, c1⟩ := hp k _ hget
      have hts := take_snocF (f := Ln.mi) hget
      generalize L[k] = x at *
      have hob := ho.lt
      have hw3 : w.heap.size ≤ wr.heap.size := hB.size
      have HO := Lib.hid ho
      have HB := Lib.hid hB
      have HTS := Lib.hid hts
      clear ho hB hts hp hget
      go_wp2_with (at_builtin; refine wpList_append_own _ rfl _ _ 34 rfl w.heap.size 3 ti tz 1 8 Tryz.underlying34 ti1 ti2 ti3 ti4 ti5 (by decide) _ _ _ rfl (HO.out.alloc _) ⟨wr.heap.size, 0, none⟩ 1 1 [.int .i64 x.mi] rfl rfl (newW _ _ _) (by simp [Value.oneCell']) (by simp only [maxLen]; omega) (by omega) (by simp; omega) ?_)
      intro v5 w5 how5 hgr5 _
      rw [nvalsW_snoc, ← HTS.out] at how5
      replace HB := Lib.hid (below_own HB.out hgr5 hob (Nat.le_refl _) (Nat.le_refl _))
      replace HO := Lib.hid how5
      clear how5 hgr5 hob c0 c1
      go_wp2
      go_roundw
      case rel => exact ⟨k + 1, by omega, by go_num, by simpa using HO.out, HB.out⟩
      case measure => simp [intOf]; omega
    · have hd : decide ((k : Int) < (L.length : Int)) = false := decide_eq_false (by omega)
      obtain rfl : k = L.length := by omega
      have he : (L.map Ln.mi).take L.length = L.map Ln.mi := List.take_of_length_le (by simp)
      rw [he] at ho
      have HB := Lib.hid hB
      rcases own_inW ho (by simp) with ⟨rfl, hM⟩ | ⟨g, cap, rfl, hbg, hO⟩
      · have hL0 : L.length = 0 := by simpa using congrArg List.length hM
        omega
      have HO := Lib.hid hO
      have hcap : L.length ≤ cap := by have := hO.1; simpa using this
      clear ho hB hO he hd hk
      go_wp2_with fail
      go_loopw [7] (fun i wr => ∃ k : Nat, k ≤ L.length ∧ i = .int .i64 ((k : Int) + 1) ∧ OB wr g cap (reqN (L.map Ln.wt) S (L.map Ln.mi) k) ∧ Below w.heap.size w wr) (fun i _ => L.length + 1 - (intOf i).toNat)
      case atStart => exact ⟨0, by omega, rfl, HO.out, HB.out⟩
      case round =>
        obtain ⟨k, hk, rfl, hO, hBr⟩ := hrel
        clear HO HB
        by_cases hlt : k < L.length
        · have hd : decide ((k : Int) + 1 ≤ (L.length : Int)) = true := by simp; omega
          have HO := Lib.hid hO
          have HB := Lib.hid hBr
          clear hO hBr
          go_wp2_with fail
          go_loopw [8] (fun i wr => ∃ j : Nat, j ≤ S.length ∧ i = .int .i64 j ∧ OB wr g cap (roundM (L.map Ln.wt) ((k : Int) + 1) (S.take j) (reqN (L.map Ln.wt) S (L.map Ln.mi) k)) ∧ Below w.heap.size w wr) (fun i _ => S.length - (intOf i).toNat)
          case atStart => exact ⟨0, by omega, rfl, HO.out, HB.out⟩
          case round =>
            obtain ⟨j, hj, rfl, hO, hBr⟩ := hrel
            clear HO HB
            by_cases hjl : j < S.length
            · have hd2 : decide ((j : Int) < (S.length : Int)) = true := by simpa using hjl
              obtain ⟨b', off', rfl, hb', hp⟩ := (h'.keep hBr).cells (by omega)
              have hget : S[j]? = some S[j] := List.getElem?_eq_getElem hjl
              obtain ⟨c0, c1, c2⟩ := hp j _ hget
              have hsp := HSA.out _ (List.mem_of_getElem? hget)
              have hro := roundM_snoc (ws := L.map Ln.wt) (m := (k : Int) + 1) (O := reqN (L.map Ln.wt) S (L.map Ln.mi) k) hget
              obtain ⟨a, m, e1, e2, hm1, ham, hn0, hn50⟩ := id hsp
              obtain ⟨hol, hob⟩ := at_bd HL.out HS.out hk hj
              generalize S[j] = s at *
              obtain ⟨sa, many, need⟩ := s
              dsimp only at e1 e2 hn0 hn50 c0 c1 c2
              subst e1 e2
              generalize roundM (L.map Ln.wt) ((k : Int) + 1) (S.take j) (reqN (L.map Ln.wt) S (L.map Ln.mi) k) = O at *
              have HO := Lib.hid hO
              have HB := Lib.hid hBr
              have HOB := Lib.hid hob
              have HOL := Lib.hid hol
              clear hO hBr hp hget hsp hob hol
              by_cases hmk : (m : Int) = (k : Int) + 1
              · have hmn : m = k + 1 := by omega
                subst hmn
                have HRO := Lib.hid hro
                clear hro
                have hal : ¬ cap = a := by omega
                have hal2 : ¬ c = a := by omega
                have hq1 : 0 ≤ (a : Int) + ((k : Int) + 1) := by omega
                have hq2 : (a : Int) + ((k : Int) + 1) ≤ (cap : Int) := by omega
                have hq2' : (a : Int) + ((k : Int) + 1) ≤ (c : Int) := by omega
                have hq3 : ((a : Int) + ((k : Int) + 1)).toNat = a + (k + 1) := by omega
                have hq4 : a ≤ a + (k + 1) := by omega
                have hq5 : a + (k + 1) - a = k + 1 := by omega
                have hwr : IntKind.i64.wrap ((a : Int) + ((k : Int) + 1)) = (a : Int) + ((k : Int) + 1) := IntWalk.i64_in _ (by omega)
                obtain ⟨hm0, hm5, hsm⟩ := seg_sum HOB.out (a := a) (m := k + 1) (by rw [HOL.out]; exact ham) (by rw [HOL.out]; exact hl5)
                have HSM := Lib.hid hsm
                have HSL := Lib.hid (segI_len (O := O) (a := a) (m := k + 1) (by rw [HOL.out]; exact ham)).symm
                clear hsm
                have hz : (((k + 1 : Nat) : Int) == (k : Int) + 1) = true := by simp
                go_wp2_with fail
                refine wp_region_grow 13 1 (· < 13) (by kernel_rfl) (by kernel_rfl) rfl ?_
                iterate 13 (refine wpG_step (fun K hK => ?_); first | (refine grow_skip rfl ?_; go_simp; refine hK _ ?_; clear hK K) | (apply Exists.intro; refine ⟨.inl ⟨rfl, fun w' hw' => ?_⟩, ?_⟩; (focus ((obtain ⟨hc, hf⟩ := bcell hw'.out); (have hcS := bcellS hw'.out); go_simp <;> first | rfl | (go_at_call 73; exact total_b _ _ (k + 1) (segI O a (k + 1)) _ ((HO.out.keep (bkeep2 (balloc (Below.refl _ _)) (bdrewn hw'.out))).seg a (k + 1)) HSL.out (by omega) HSM.out))); (go_simp; refine hK _ ?_; clear hK K)))
                refine wpG_nil ?_
                refine wpK_tail (by kernel_rfl) (fun w3 hg3 => ?_)
                have hb3 := bdrewn hg3.out
                obtain ⟨hc3, hf3⟩ := bcell hb3
                refine wpAny_one (i := 13) (by kernel_rfl) rfl rfl ?_
                go_simp
                refine wpAny_end (by kernel_rfl) ?_
                refine NoPan.thn ?_
                clear hc3 hf3
                clear hg3
                have hx : w3.heap[wr.heap.size]? = some (.cells #[.int .i64 (a : Int), .int .i64 ((k : Int) + 1), .int .i64 need] 161 (0, 0)) := (hb3.block _ (by simp)).trans (newS _ _)
                have hgb : g < wr.heap.size := HO.out.lt
                have HO3 := Lib.hid (HO.out.keep (bkeep2 (balloc (Below.refl _ _)) hb3))
                have HB3 := Lib.hid (bkeep2 (balloc HB.out) hb3)
                have hxl := ltS hx
                obtain ⟨x0, x1, x2⟩ : w3.cell? ⟨wr.heap.size, 0, none⟩ = some (.int .i64 (a : Int)) ∧ w3.cell? ⟨wr.heap.size, 1, none⟩ = some (.int .i64 ((k : Int) + 1)) ∧ w3.cell? ⟨wr.heap.size, 2, none⟩ = some (.int .i64 need) := ⟨cellI hx 0, cellI hx 1, cellI hx 2⟩
                have HX := Lib.hid hx
                obtain ⟨q, hqe⟩ : ∃ q, sumI (segI O a (k + 1)) = q := ⟨_, rfl⟩
                rw [hqe] at hm0 hm5
                rw [hqe]
                have HQ := Lib.hid hqe
                have hqw : IntKind.i64.wrap (need - q) = need - q := IntWalk.i64_in _ (by omega)
                have hsok := seg_ok (a := a) (m := k + 1) HWW.out (by omega) (by rw [List.length_map]; exact ham)
                have HSK := Lib.hid hsok
                clear HO HB hb3 hx hqe c0 c1 c2 hsok
                generalize wr.heap.size = bx at *
                by_cases hqn : need - q ≤ 0
                · have hd3 : decide (need - q ≤ 0) = true := by simpa using hqn
                  have hst : stepM (L.map Ln.wt) O ⟨(a : Int), ((k + 1 : Nat) : Int), need⟩ = O := step_none (by simpa using HSK.out) (by show need - sumI (segI O a (k + 1)) ≤ 0; rw [HQ.out]; exact hqn)
                  have HST := Lib.hid hst
                  clear hst
                  go_wp2
                  go_roundw
                  case rel => exact ⟨j + 1, by omega, by go_num, by rw [HRO.out, if_pos (by simp), HST.out]; exact HO3.out, HB3.out⟩
                  case measure => simp [intOf]; omega
                · have hd3 : decide (need - q ≤ 0) = false := by simpa using hqn
                  have hl2 : k + 1 = ((L.drop a).take (k + 1)).length := by rw [List.length_take, List.length_drop]; omega
                  have HL2 := Lib.hid hl2
                  clear hl2
                  go_wp2_with fail
                  refine (weightsOf_v _ _ (k + 1) ((L.drop a).take (k + 1)) _ ((LnV.sub hbl HPL.out a (k + 1)).keep (HB3.out)) HL2.out (by rw [← HL2.out]; omega)).mono ?_
                  rintro e w4 ⟨⟨A2, c2, rfl, hn4⟩, hb4⟩
                  rw [seg_map] at hn4
                  have HN4 := Lib.hid hn4
                  have HO4 := Lib.hid (HO3.out.keep hb4)
                  have HB4 := Lib.hid (bkeep2 HB3.out hb4)
                  have HX4 := Lib.hid ((hb4.block _ hxl).trans HX.out)
                  have hsz4 := hb4.size
                  clear hn4 hb4 HO3 HB3 HX x0 x1 x2
                  go_wp2_with fail
                  refine (sspread_n A2 c2 (k + 1) (need - q) (segI (L.map Ln.wt) a (k + 1)) _ HN4.out (segI_len (by rw [List.length_map]; exact ham)).symm HSK.out (by omega) (by omega)).mono ?_
                  rintro e w5 ⟨rfl, hi5, hb5⟩
                  have HP := Lib.hid hi5
                  have HO5 := Lib.hid (HO4.out.keep hb5)
                  have HB5 := Lib.hid (bkeep2 HB4.out hb5)
                  have HX5 := Lib.hid ((hb5.block _ (Nat.lt_of_lt_of_le hxl hsz4)).trans HX4.out)
                  have hgp : g < w4.heap.size := HO4.out.lt
                  have hxp : bx < w4.heap.size := Nat.lt_of_lt_of_le hxl hsz4
                  have HPB := Lib.hid (spread_pos (n := need - q) (by omega) HSK.out)
                  have hpl : (spreadM (need - q) (segI (L.map Ln.wt) a (k + 1))).length = k + 1 := by rw [spreadM_len, segI_len (by rw [List.length_map]; exact ham)]
                  have hst : stepM (L.map Ln.wt) O ⟨(a : Int), ((k + 1 : Nat) : Int), need⟩ = addAt O a (spreadM (need - q) (segI (L.map Ln.wt) a (k + 1))) := by
                    unfold stepM
                    have hm : mx (need - sumI (segI O a (k + 1))) 0 = need - q := by rw [HQ.out]; have := mx_spec (need - q) 0; omega
                    show addAt O a (spreadM (mx (need - sumI (segI O a (k + 1))) 0) (segI (L.map Ln.wt) a (k + 1))) = _
                    rw [hm]
                  have HST := Lib.hid hst
                  clear hi5 hb5 HO4 HB4 HX4 HN4 hst
                  generalize w4.heap.size = gp at *
                  generalize spreadM (need - q) (segI (L.map Ln.wt) a (k + 1)) = P at *
                  have HPL2 := Lib.hid hpl
                  clear hpl
                  go_wp2_with fail
                  go_loopw [12] (fun i wr' => ∃ i' : Nat, i' ≤ k + 1 ∧ i = .int .i64 i' ∧ OB wr' g cap (addAt O a (P.take i')) ∧ w5.grownBy wr' (some g)) (fun i _ => k + 1 - (intOf i).toNat)
                  case atStart => exact ⟨0, by omega, rfl, by rw [List.take_zero, addAt_nil]; exact HO5.out, greflI _ _⟩
                  case round =>
                    obtain ⟨i, hi, rfl, hOr, hgr⟩ := hrel
                    clear HO5
                    by_cases hil : i < k + 1
                    · have hd4 : decide ((i : Int) < (k : Int) + 1) = true := by simp; omega
                      have hki : i < P.length := by have := HPL2.out; omega
                      have hgq : P[i]? = some P[i] := List.getElem?_eq_getElem hki
                      have hpb := HPB.out _ (List.getElem_mem hki)
                      have hko : a + i < O.length := by have := HOL.out; omega
                      have hgo : O[a + i]? = some O[a + i] := List.getElem?_eq_getElem hko
                      have hob := HOB.out _ (List.getElem_mem hko)
                      have hal3 : a + i < (addAt O a (P.take i)).length := by rw [addAt_len]; exact hko
                      generalize P[i] = p at *
                      generalize O[a + i] = o at *
                      obtain ⟨hp0, hp1⟩ := hpb
                      obtain ⟨ho0, ho1⟩ := hob
                      have hxw := ltS HX5.out
                      have p0 := (HP.out.but hgr (by omega)).cell hgq
                      have d0 := hOr.cell (addAt_get hgo (P := P.take i) (by rw [List.length_take]; omega))
                      have hxr := (hgr.block bx hxw (fun e => by have := Option.some.inj e; omega)).trans HX5.out
                      have x0 := cellI hxr 0
                      have hs1 := ltS hxr
                      have hs2 := (HP.out.but hgr (by omega)).lt
                      have hs3 := hOr.lt
                      have hr1 : 0 ≤ (a : Int) + (i : Int) := by omega
                      have hr2 : (a : Int) + (i : Int) < (L.length : Int) := by omega
                      have hri : (i : Int) < (k : Int) + 1 := by omega
                      have hr3 : ((a : Int) + (i : Int)).toNat = a + i := by omega
                      have hwr2 : IntKind.i64.wrap ((a : Int) + (i : Int)) = (a : Int) + (i : Int) := IntWalk.i64_in _ (by omega)
                      have hwr3 : IntKind.i64.wrap (o + p) = o + p := IntWalk.i64_in _ (by omega)
                      have HO6 := Lib.hid hOr
                      have HG6 := Lib.hid hgr
                      have HAS := Lib.hid (addAt_snoc hgo hgq)
                      clear hOr hgr hxr hgo hgq hwr
                      go_wp2_with fail
                      refine wp_region_grow 18 1 (· < 18) (by kernel_rfl) (by kernel_rfl) rfl ?_
                      iterate 18 (refine wpG_step (fun K hK => ?_); first | (refine grow_skip rfl ?_; go_simp; refine hK _ ?_; clear hK K) | (apply Exists.intro; refine ⟨.inl ⟨rfl, fun w' hw' => ?_⟩, ?_⟩; (focus ((obtain ⟨hc, hf⟩ := bcell hw'.out); (have hcS := bcellS hw'.out); go_simp <;> rfl)); (go_simp; refine hK _ ?_; clear hK K)))
                      refine wpG_nil ?_
                      refine wpK_tail (by kernel_rfl) (fun w7 hg7 => ?_)
                      have hb7 := bdrewn hg7.out
                      have HO7 := Lib.hid (HO6.out.keep hb7)
                      have HB7 := hb7
                      have c7 := (hb7.cell (p := ⟨g, a + i, none⟩) hs3).trans d0
                      have f7 := HO7.out.frozen (a + i)
                      have hg7' := grown_below HG6.out hb7
                      have HO8 := HO7.out.set (a + i) (o + p) hal3
                      rw [HAS.out] at HO8
                      have HO8 := Lib.hid HO8
                      have HG8 := Lib.hid (gsetI hg7' (a + i) (.int .i64 (o + p)))
                      clear HB7 hg7'
                      refine wpAny_one (i := 18) (by kernel_rfl) rfl rfl ?_
                      go_simp
                      refine wpAny_end (by kernel_rfl) ?_
                      refine nopan_normal9 ?_
                      clear hb7 hg7
                      go_wp2
                      go_roundw
                      case rel => exact ⟨i + 1, by omega, by go_num, HO8.out, HG8.out⟩
                      case measure => simp [intOf]; omega
                    · have hd4 : decide ((i : Int) < (k : Int) + 1) = false := by simp; omega
                      have hke : P.take i = P := List.take_of_length_le (by have := HPL2.out; omega)
                      rw [hke, ← HST.out] at hOr
                      have HO6 := Lib.hid hOr
                      have HB6 := Lib.hid (below_grown HB5.out hgr hbg HB5.out.size)
                      clear hOr hgr hke
                      go_wp2
                      go_roundw
                      case rel => exact ⟨j + 1, by omega, by go_num, by rw [HRO.out, if_pos (by simp)]; exact HO6.out, HB6.out⟩
                      case measure => simp [intOf]; omega
              · have hz : ((m : Int) == (k : Int) + 1) = false := by simpa using hmk
                rw [if_neg hmk] at hro
                have HRO := Lib.hid hro
                have HB := Lib.hid (balloc (o := (.cells #[.int .i64 (a : Int), .int .i64 (m : Int), .int .i64 need] 161 (0, 0))) HB.out)
                have HO := Lib.hid (HO.out.keep (balloc (o := (.cells #[.int .i64 (a : Int), .int .i64 (m : Int), .int .i64 need] 161 (0, 0))) (Below.refl _ _)))
                clear hro
                go_wp2
                go_roundw
                case rel => exact ⟨j + 1, by omega, by go_num, by rw [HRO.out]; exact HO.out, HB.out⟩
                case measure => simp [intOf]; omega
            · have hd2 : decide ((j : Int) < (S.length : Int)) = false := decide_eq_false (by omega)
              have he : S.take j = S := List.take_of_length_le (by omega)
              rw [he] at hO
              have HO := Lib.hid hO
              have HB := Lib.hid hBr
              clear hO hBr he
              go_wp2
              go_roundw
              case rel => exact ⟨k + 1, by omega, by go_num, HO.out, HB.out⟩
              case measure => simp [intOf]; omega
        · have hd : decide ((k : Int) + 1 ≤ (L.length : Int)) = false := by simp; omega
          obtain rfl : k = L.length := by omega
          have HO := Lib.hid hO
          have HB := Lib.hid hBr
          clear hO hBr
          go_wp2
          go_ret
          exact ⟨⟨g, cap, rfl, hbg, HO.out⟩, HB.out⟩
theorem wished_v (A : Option Addr) (c : Nat) (L : List Ln) (A' : Option Addr) (c' : Nat) (S : List Sp) (w : World) (h : LnV w A L) (hL : linesB L = true) (h' : SpV w A' S) (hS : spansB L.length S = true) (hc : L.length ≤ c) :
    Calls Tryz.prog 74 #[.slice A L.length c, .slice A' S.length c'] w fun e w' => (∃ g cap, e = .returned (.slice (some ⟨g, 0, none⟩) L.length cap) ∧ w.heap.size ≤ g ∧ OB w' g cap (wishM L S)) ∧ Below w.heap.size w w' := wished_w A c L A' c' S w h hL h' (spansB_W hS) hc
end Go.Proofs.YtgdkionmeacalaaGreat
end
section
namespace Go.Proofs.YtgdkionmeacalaaGreat
open Go.RowKit
set_option linter.unusedVariables false
set_option maxHeartbeats 1000000
theorem wishM_len {L : List Ln} {S : List Sp} (hL : linesB L = true) (hS : spansB L.length S = true) : (wishM L S).length = L.length := by
  obtain ⟨hO, hW⟩ := min_bd hL
  obtain ⟨h8, hs⟩ := spansB_yes hS
  exact (req_bd (S := S) hW (by simp) hs h8 hO L.length).1
end Go.Proofs.YtgdkionmeacalaaGreat
end
