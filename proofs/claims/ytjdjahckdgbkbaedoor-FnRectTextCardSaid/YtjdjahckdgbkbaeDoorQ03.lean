import Derived.Test.YtjdjahckdgbkbaeDoorQ02
import Derived.Test.YtjdjahckdgbkbaeDoorShl
import Derived.WalkKit
import Derived.Below
import Derived.Lib.ItoaNum
import Derived.Test.YtjdjahckdgbkbaeDoorRows
import Derived.Test.YtjdjahckdgbkbaeDoorTie
import Derived.Test.YtjdjahckdgbkbaeDoorCards
import Derived.ProofKit
import Derived.LaidHandle
import Derived.LaidMore
import Derived.MakeChecks
import Derived.SevenTiedAt
import Derived.OpenShut
import Derived.Lib.LaidTab
import Derived.LoopTactic
import Derived.OwnWalk
import Derived.Lib.SmallJoins
import Derived.Lib.AppendIntMem
section
namespace Go.Proofs.YtjdjahckdgbkbaeDoor
open Go.RowKit
set_option linter.unusedVariables false
attribute [local go_sem 5000] run_mx run_mn run_eqlR run_neqR
attribute [local go_sem] growUpon_value growUpon_skip growUpon_enter
set_option maxHeartbeats 1000000
theorem ifValid_yes (x y u v : Int) (w : World) (h : vr x y u v = true) : Calls Tryd.prog 31 #[.agg #[.int .i64 (x), .int .i64 (y), .int .i64 (u), .int .i64 (v)], .func (.func 25) #[] #[]] w fun e w' => e = .returned (.tuple #[.agg #[.int .i64 (x), .int .i64 (y), .int .i64 (u), .int .i64 (v)], .bool true]) ∧ Below w.heap.size w w' := by
  go_enter Tryd.func31, Tryd.ntmps31
  go_wp2_with fail
  refine (validRect_any _ _ _ _ _).mono ?_
  rintro e w1 ⟨rfl, hb⟩
  obtain ⟨hc, hf⟩ := bcell hb; (first | (replace hB := bkeep2 hB hb) | (replace hB := bkeep2 (balloc hB) hb) | (replace hB := bkeep2 (balloc (balloc hB)) hb) | have hB := hb); obtain ⟨hC, hF, hZ, hN⟩ := bcell4 hB; (try (have hlt := Nat.lt_of_lt_of_le hlt hb.size; have hne := Nat.ne_of_lt hlt)); (have hs0 := hb.size); (try simp only [World.size_alloc] at hs0); (try (have hlt := Nat.lt_of_succ_le hs0; have hne := Nat.ne_of_lt hlt))
  go_wp2
  exact bodyPost_ret (v := .tuple #[.agg #[.int .i64 (x), .int .i64 (y), .int .i64 (u), .int .i64 (v)], .bool true]) (by simp only [results, Tryd.results31]; go_simp) rfl ⟨rfl, (by repeat (first | with_reducible exact Below.refl _ _ | with_reducible assumption | with_reducible refine balloc ?_ | (with_reducible refine bset ?_ ?_; rotate_left; ((try dsimp only); omega)) | refine bkeep2 ?_ (by assumption) | with_reducible refine Below.drew ?_))⟩
theorem ifValid_no (x y u v : Int) (w : World) (h : vr x y u v = false) : Calls Tryd.prog 31 #[.agg #[.int .i64 (x), .int .i64 (y), .int .i64 (u), .int .i64 (v)], .func (.func 25) #[] #[]] w fun e w' => e = .returned (.tuple #[.agg #[.int .i64 (0), .int .i64 (0), .int .i64 (0), .int .i64 (0)], .bool false]) ∧ Below w.heap.size w w' := by
  go_enter Tryd.func31, Tryd.ntmps31
  go_wp2_with fail
  refine (validRect_any _ _ _ _ _).mono ?_
  rintro e w1 ⟨rfl, hb⟩
  obtain ⟨hc, hf⟩ := bcell hb; (first | (replace hB := bkeep2 hB hb) | (replace hB := bkeep2 (balloc hB) hb) | (replace hB := bkeep2 (balloc (balloc hB)) hb) | have hB := hb); obtain ⟨hC, hF, hZ, hN⟩ := bcell4 hB; (try (have hlt := Nat.lt_of_lt_of_le hlt hb.size; have hne := Nat.ne_of_lt hlt)); (have hs0 := hb.size); (try simp only [World.size_alloc] at hs0); (try (have hlt := Nat.lt_of_succ_le hs0; have hne := Nat.ne_of_lt hlt))
  go_wp2
  exact bodyPost_ret (v := .tuple #[.agg #[.int .i64 (0), .int .i64 (0), .int .i64 (0), .int .i64 (0)], .bool false]) (by simp only [results, Tryd.results31]; go_simp) rfl ⟨rfl, (by repeat (first | with_reducible exact Below.refl _ _ | with_reducible assumption | with_reducible refine balloc ?_ | (with_reducible refine bset ?_ ?_; rotate_left; ((try dsimp only); omega)) | refine bkeep2 ?_ (by assumption) | with_reducible refine Below.drew ?_))⟩
end Go.Proofs.YtjdjahckdgbkbaeDoor
end
section
namespace Go.Proofs.YtjdjahckdgbkbaeDoor
open Go.RowKit
set_option linter.unusedVariables false
attribute [local go_sem 5000] run_mx run_mn run_eqlR run_neqR
attribute [local go_sem] growUpon_value growUpon_skip growUpon_enter
set_option maxHeartbeats 1000000
theorem moved_any (x y u v p q : Int) (w : World) (h1 : vr x y u v = true) (h2 : rng p (-1000) 1000 = true) (h3 : rng q (-1000) 1000 = true) : Calls Tryd.prog 32 #[.agg #[.int .i64 (x), .int .i64 (y), .int .i64 (u), .int .i64 (v)], .int .i64 p, .int .i64 q] w fun e w' => e = .returned (.agg #[.int .i64 (x + p), .int .i64 (y + q), .int .i64 (u), .int .i64 (v)]) ∧ Below w.heap.size w w' := by
  obtain ⟨a1, a2, a3, a4, a5, a6, a7, a8⟩ := vr_iff.1 h1
  obtain ⟨b1, b2⟩ := rng_iff.1 h2
  obtain ⟨b3, b4⟩ := rng_iff.1 h3
  go_enter Tryd.func32, Tryd.ntmps32
  go_wp2
  exact bodyPost_ret (v := .agg #[.int .i64 (x + p), .int .i64 (y + q), .int .i64 (u), .int .i64 (v)]) (by simp only [results, Tryd.results32]; go_simp) rfl ⟨rfl, (by repeat (first | with_reducible exact Below.refl _ _ | with_reducible assumption | with_reducible refine balloc ?_ | (with_reducible refine bset ?_ ?_; rotate_left; ((try dsimp only); omega)) | refine bkeep2 ?_ (by assumption) | with_reducible refine Below.drew ?_))⟩
theorem MoveRect_yes (x y u v p q : Int) (w : World) (h : mvB x y u v p q = true) : Calls Tryd.prog 11 #[.agg #[.int .i64 (x), .int .i64 (y), .int .i64 (u), .int .i64 (v)], .int .i64 p, .int .i64 q] w fun e w' => e = .returned (.tuple #[.agg #[.int .i64 (x + p), .int .i64 (y + q), .int .i64 (u), .int .i64 (v)], .bool true]) ∧ Below w.heap.size w w' := by
  obtain ⟨h1, h2, h3, h4⟩ := mvB_yes h
  obtain ⟨a1, a2, a3, a4, a5, a6, a7, a8⟩ := vr_iff.1 h1
  obtain ⟨b1, b2⟩ := rng_iff.1 h2
  obtain ⟨b3, b4⟩ := rng_iff.1 h3
  go_enter Tryd.func11, Tryd.ntmps11
  go_wp2_with (first | (go_at_call 25; refine (validRect_any _ _ _ _ _).mono ?_; rintro e w1 ⟨rfl, hb⟩; obtain ⟨hc, hf⟩ := bcell hb; (first | (replace hB := bkeep2 hB hb) | (replace hB := bkeep2 (balloc hB) hb) | (replace hB := bkeep2 (balloc (balloc hB)) hb) | have hB := hb); obtain ⟨hC, hF, hZ, hN⟩ := bcell4 hB; (try (have hlt := Nat.lt_of_lt_of_le hlt hb.size; have hne := Nat.ne_of_lt hlt)); (have hs0 := hb.size); (try simp only [World.size_alloc] at hs0); (try (have hlt := Nat.lt_of_succ_le hs0; have hne := Nat.ne_of_lt hlt))) | (go_at_call 30; refine (within_any _ _ _ _).mono ?_; rintro e w' ⟨rfl, rfl⟩) | (go_at_call 32; refine (moved_any _ _ _ _ _ _ _ h1 h2 h3).mono ?_; rintro e w1 ⟨rfl, hb⟩; obtain ⟨hc, hf⟩ := bcell hb; (first | (replace hB := bkeep2 hB hb) | (replace hB := bkeep2 (balloc hB) hb) | (replace hB := bkeep2 (balloc (balloc hB)) hb) | have hB := hb); obtain ⟨hC, hF, hZ, hN⟩ := bcell4 hB; (try (have hlt := Nat.lt_of_lt_of_le hlt hb.size; have hne := Nat.ne_of_lt hlt)); (have hs0 := hb.size); (try simp only [World.size_alloc] at hs0); (try (have hlt := Nat.lt_of_succ_le hs0; have hne := Nat.ne_of_lt hlt))) | (go_at_call 31; refine (ifValid_yes _ _ _ _ _ h4).mono ?_; rintro e w1 ⟨rfl, hb⟩; obtain ⟨hc, hf⟩ := bcell hb; (first | (replace hB := bkeep2 hB hb) | (replace hB := bkeep2 (balloc hB) hb) | (replace hB := bkeep2 (balloc (balloc hB)) hb) | have hB := hb); obtain ⟨hC, hF, hZ, hN⟩ := bcell4 hB; (try (have hlt := Nat.lt_of_lt_of_le hlt hb.size; have hne := Nat.ne_of_lt hlt)); (have hs0 := hb.size); (try simp only [World.size_alloc] at hs0); (try (have hlt := Nat.lt_of_succ_le hs0; have hne := Nat.ne_of_lt hlt))))
  exact bodyPost_ret (v := .tuple #[.agg #[.int .i64 (x + p), .int .i64 (y + q), .int .i64 (u), .int .i64 (v)], .bool true]) (by simp only [results, Tryd.results11]; go_simp) rfl ⟨rfl, (by repeat (first | with_reducible exact Below.refl _ _ | with_reducible assumption | with_reducible refine balloc ?_ | (with_reducible refine bset ?_ ?_; rotate_left; ((try dsimp only); omega)) | refine bkeep2 ?_ (by assumption) | with_reducible refine Below.drew ?_))⟩
theorem MoveRect_no (x y u v p q : Int) (w : World) (h : mvB x y u v p q = false) : Calls Tryd.prog 11 #[.agg #[.int .i64 (x), .int .i64 (y), .int .i64 (u), .int .i64 (v)], .int .i64 p, .int .i64 q] w fun e w' => e = .returned (.tuple #[.agg #[.int .i64 (0), .int .i64 (0), .int .i64 (0), .int .i64 (0)], .bool false]) ∧ Below w.heap.size w w' := by
  cases h1 : vr x y u v
  · go_enter Tryd.func11, Tryd.ntmps11
    go_wp2_with (first | (go_at_call 25; refine (validRect_any _ _ _ _ _).mono ?_; rintro e w1 ⟨rfl, hb⟩; obtain ⟨hc, hf⟩ := bcell hb; (first | (replace hB := bkeep2 hB hb) | (replace hB := bkeep2 (balloc hB) hb) | (replace hB := bkeep2 (balloc (balloc hB)) hb) | have hB := hb); obtain ⟨hC, hF, hZ, hN⟩ := bcell4 hB; (try (have hlt := Nat.lt_of_lt_of_le hlt hb.size; have hne := Nat.ne_of_lt hlt)); (have hs0 := hb.size); (try simp only [World.size_alloc] at hs0); (try (have hlt := Nat.lt_of_succ_le hs0; have hne := Nat.ne_of_lt hlt))) | (go_at_call 30; refine (within_any _ _ _ _).mono ?_; rintro e w' ⟨rfl, rfl⟩))
    exact bodyPost_ret (v := .tuple #[.agg #[.int .i64 (0), .int .i64 (0), .int .i64 (0), .int .i64 (0)], .bool false]) (by simp only [results, Tryd.results11]; go_simp) rfl ⟨rfl, (by repeat (first | with_reducible exact Below.refl _ _ | with_reducible assumption | with_reducible refine balloc ?_ | (with_reducible refine bset ?_ ?_; rotate_left; ((try dsimp only); omega)) | refine bkeep2 ?_ (by assumption) | with_reducible refine Below.drew ?_))⟩
  cases h2 : rng p (-1000) 1000
  · go_enter Tryd.func11, Tryd.ntmps11
    go_wp2_with (first | (go_at_call 25; refine (validRect_any _ _ _ _ _).mono ?_; rintro e w1 ⟨rfl, hb⟩; obtain ⟨hc, hf⟩ := bcell hb; (first | (replace hB := bkeep2 hB hb) | (replace hB := bkeep2 (balloc hB) hb) | (replace hB := bkeep2 (balloc (balloc hB)) hb) | have hB := hb); obtain ⟨hC, hF, hZ, hN⟩ := bcell4 hB; (try (have hlt := Nat.lt_of_lt_of_le hlt hb.size; have hne := Nat.ne_of_lt hlt)); (have hs0 := hb.size); (try simp only [World.size_alloc] at hs0); (try (have hlt := Nat.lt_of_succ_le hs0; have hne := Nat.ne_of_lt hlt))) | (go_at_call 30; refine (within_any _ _ _ _).mono ?_; rintro e w' ⟨rfl, rfl⟩))
    exact bodyPost_ret (v := .tuple #[.agg #[.int .i64 (0), .int .i64 (0), .int .i64 (0), .int .i64 (0)], .bool false]) (by simp only [results, Tryd.results11]; go_simp) rfl ⟨rfl, (by repeat (first | with_reducible exact Below.refl _ _ | with_reducible assumption | with_reducible refine balloc ?_ | (with_reducible refine bset ?_ ?_; rotate_left; ((try dsimp only); omega)) | refine bkeep2 ?_ (by assumption) | with_reducible refine Below.drew ?_))⟩
  cases h3 : rng q (-1000) 1000
  · go_enter Tryd.func11, Tryd.ntmps11
    go_wp2_with (first | (go_at_call 25; refine (validRect_any _ _ _ _ _).mono ?_; rintro e w1 ⟨rfl, hb⟩; obtain ⟨hc, hf⟩ := bcell hb; (first | (replace hB := bkeep2 hB hb) | (replace hB := bkeep2 (balloc hB) hb) | (replace hB := bkeep2 (balloc (balloc hB)) hb) | have hB := hb); obtain ⟨hC, hF, hZ, hN⟩ := bcell4 hB; (try (have hlt := Nat.lt_of_lt_of_le hlt hb.size; have hne := Nat.ne_of_lt hlt)); (have hs0 := hb.size); (try simp only [World.size_alloc] at hs0); (try (have hlt := Nat.lt_of_succ_le hs0; have hne := Nat.ne_of_lt hlt))) | (go_at_call 30; refine (within_any _ _ _ _).mono ?_; rintro e w' ⟨rfl, rfl⟩))
    exact bodyPost_ret (v := .tuple #[.agg #[.int .i64 (0), .int .i64 (0), .int .i64 (0), .int .i64 (0)], .bool false]) (by simp only [results, Tryd.results11]; go_simp) rfl ⟨rfl, (by repeat (first | with_reducible exact Below.refl _ _ | with_reducible assumption | with_reducible refine balloc ?_ | (with_reducible refine bset ?_ ?_; rotate_left; ((try dsimp only); omega)) | refine bkeep2 ?_ (by assumption) | with_reducible refine Below.drew ?_))⟩
  have h4 := mvB_no h h1 h2 h3
  obtain ⟨a1, a2, a3, a4, a5, a6, a7, a8⟩ := vr_iff.1 h1
  obtain ⟨b1, b2⟩ := rng_iff.1 h2
  obtain ⟨b3, b4⟩ := rng_iff.1 h3
  go_enter Tryd.func11, Tryd.ntmps11
  go_wp2_with (first | (go_at_call 25; refine (validRect_any _ _ _ _ _).mono ?_; rintro e w1 ⟨rfl, hb⟩; obtain ⟨hc, hf⟩ := bcell hb; (first | (replace hB := bkeep2 hB hb) | (replace hB := bkeep2 (balloc hB) hb) | (replace hB := bkeep2 (balloc (balloc hB)) hb) | have hB := hb); obtain ⟨hC, hF, hZ, hN⟩ := bcell4 hB; (try (have hlt := Nat.lt_of_lt_of_le hlt hb.size; have hne := Nat.ne_of_lt hlt)); (have hs0 := hb.size); (try simp only [World.size_alloc] at hs0); (try (have hlt := Nat.lt_of_succ_le hs0; have hne := Nat.ne_of_lt hlt))) | (go_at_call 30; refine (within_any _ _ _ _).mono ?_; rintro e w' ⟨rfl, rfl⟩) | (go_at_call 32; refine (moved_any _ _ _ _ _ _ _ h1 h2 h3).mono ?_; rintro e w1 ⟨rfl, hb⟩; obtain ⟨hc, hf⟩ := bcell hb; (first | (replace hB := bkeep2 hB hb) | (replace hB := bkeep2 (balloc hB) hb) | (replace hB := bkeep2 (balloc (balloc hB)) hb) | have hB := hb); obtain ⟨hC, hF, hZ, hN⟩ := bcell4 hB; (try (have hlt := Nat.lt_of_lt_of_le hlt hb.size; have hne := Nat.ne_of_lt hlt)); (have hs0 := hb.size); (try simp only [World.size_alloc] at hs0); (try (have hlt := Nat.lt_of_succ_le hs0; have hne := Nat.ne_of_lt hlt))) | (go_at_call 31; refine (ifValid_no _ _ _ _ _ h4).mono ?_; rintro e w1 ⟨rfl, hb⟩; obtain ⟨hc, hf⟩ := bcell hb; (first | (replace hB := bkeep2 hB hb) | (replace hB := bkeep2 (balloc hB) hb) | (replace hB := bkeep2 (balloc (balloc hB)) hb) | have hB := hb); obtain ⟨hC, hF, hZ, hN⟩ := bcell4 hB; (try (have hlt := Nat.lt_of_lt_of_le hlt hb.size; have hne := Nat.ne_of_lt hlt)); (have hs0 := hb.size); (try simp only [World.size_alloc] at hs0); (try (have hlt := Nat.lt_of_succ_le hs0; have hne := Nat.ne_of_lt hlt))))
  exact bodyPost_ret (v := .tuple #[.agg #[.int .i64 (0), .int .i64 (0), .int .i64 (0), .int .i64 (0)], .bool false]) (by simp only [results, Tryd.results11]; go_simp) rfl ⟨rfl, (by repeat (first | with_reducible exact Below.refl _ _ | with_reducible assumption | with_reducible refine balloc ?_ | (with_reducible refine bset ?_ ?_; rotate_left; ((try dsimp only); omega)) | refine bkeep2 ?_ (by assumption) | with_reducible refine Below.drew ?_))⟩
end Go.Proofs.YtjdjahckdgbkbaeDoor
end
section
namespace Go.Proofs.YtjdjahckdgbkbaeDoor
open Go.RowKit
set_option linter.unusedVariables false
set_option maxHeartbeats 1000000
/-! Texts: a value that is a text; numbers in decimal (spec.number). -/
def tx (l : List UInt8) : Value := .string ⟨l.toArray⟩
theorem tx_of (c : Array UInt8) : Value.string ⟨c⟩ = tx c.toList := rfl
theorem run_cat (a b : List UInt8) (w : World) (h : a.length + b.length ≤ 9223372036854775807) : (binOp .add 9 (tx a) (tx b)).run Tryd.prog w = .ok (tx (a ++ b)) w := by
  unfold tx
  go_simp
  rw [if_neg (by omega)]
  congr 2
theorem cat_ex (a b : List UInt8) (h : a.length + b.length ≤ 9223372036854775807) : ∃ c, c = a ++ b ∧ ∀ w, (binOp .add 9 (tx a) (tx b)).run Tryd.prog w = .ok (tx c) w := ⟨_, rfl, fun w => run_cat a b w h⟩
theorem cat_exr (a : List UInt8) (b : Array UInt8) (h : a.length + b.size ≤ 9223372036854775807) : ∃ c, c = a ++ b.toList ∧ ∀ w, (binOp .add 9 (tx a) (.string ⟨b⟩)).run Tryd.prog w = .ok (tx c) w := ⟨_, rfl, fun w => run_cat a b.toList w (by simpa using h)⟩
theorem cat_exl (a : Array UInt8) (b : List UInt8) (h : a.size + b.length ≤ 9223372036854775807) : ∃ c, c = a.toList ++ b ∧ ∀ w, (binOp .add 9 (.string ⟨a⟩) (tx b)).run Tryd.prog w = .ok (tx c) w := ⟨_, rfl, fun w => run_cat a.toList b w (by simpa using h)⟩
theorem eqg_tx (o : BinOp) (s t : Operand) (a b : List UInt8) (w : World) : (eqGuard o 9 s t (tx a) (tx b)).run Tryd.prog w = .ok () w := by
  unfold tx
  cases o <;> go_simp
theorem ne_same (a : List UInt8) (w : World) : (binOp .neq 9 (tx a) (tx a)).run Tryd.prog w = .ok (.bool false) w := by
  unfold tx
  go_simp
theorem eq_same (a : List UInt8) (w : World) : (binOp .eql 9 (tx a) (tx a)).run Tryd.prog w = .ok (.bool true) w := by
  unfold tx
  go_simp
theorem dec_len (m : Nat) : (Lib.decDigits m).length ≤ m + 1 := by
  induction m using Nat.strongRecOn with
  | _ m ih =>
    rw [Lib.decDigits]
    split
    · simp
    · have := ih (m / 10) (by omega)
      simp
      omega
set_option maxRecDepth 100000 in
theorem numN (m : Nat) : m < 1000000000000000 → ∀ w, Calls Tryd.prog 50 #[.int .i64 m] w fun e w' => e = .returned (tx (Lib.decDigits m)) ∧ w = w' := by
  induction m using Nat.strongRecOn with
  | _ m ih =>
    intro hm w
    have hn : decide ((m : Int) < 0) = false := by simp
    by_cases h : m < 10
    · have hd : decide ((m : Int) < 10) = true := by simp; omega
      have h10 : m = 0 ∨ m = 1 ∨ m = 2 ∨ m = 3 ∨ m = 4 ∨ m = 5 ∨ m = 6 ∨ m = 7 ∨ m = 8 ∨ m = 9 := by omega
      rw [Lib.decDigits, dif_pos h]
      clear ih h hm
      rcases h10 with rfl | rfl | rfl | rfl | rfl | rfl | rfl | rfl | rfl | rfl
      all_goals
        go_enter Tryd.func50, Tryd.ntmps50
        go_wp2
        go_ret
        exact ⟨rfl, rfl⟩
    · have hd : decide ((m : Int) < 10) = false := by simp; omega
      have h1 := ih (m / 10) (by omega) (by omega)
      have h2 := ih (m % 10) (by omega) (by omega)
      have e1 : (m : Int).tdiv 10 = ((m / 10 : Nat) : Int) := by rw [Int.tdiv_eq_ediv_of_nonneg (by omega)]; omega
      have e2 : (m : Int).tmod 10 = ((m % 10 : Nat) : Int) := by rw [Int.tmod_eq_emod_of_nonneg (by omega)]; omega
      have w1 : IntKind.i64.wrap ((m / 10 : Nat) : Int) = ((m / 10 : Nat) : Int) := IntWalk.i64_in _ (by omega)
      have w2 : IntKind.i64.wrap ((m % 10 : Nat) : Int) = ((m % 10 : Nat) : Int) := IntWalk.i64_in _ (by omega)
      have l1 := dec_len (m / 10)
      have l2 := dec_len (m % 10)
      obtain ⟨c, hc, g⟩ := cat_ex (Lib.decDigits (m / 10)) (Lib.decDigits (m % 10)) (by omega)
      have hr : c = Lib.decDigits m := by rw [hc, Lib.decDigits.eq_def m, dif_neg h, Lib.decDigits.eq_def (m % 10), dif_pos (by omega)]
      rw [← hr]
      generalize m / 10 = q1 at *
      generalize m % 10 = q2 at *
      clear hr hc l1 l2 ih
      go_enter Tryd.func50, Tryd.ntmps50
      go_wp2_with (first | (go_at_call 50; with_reducible refine (h1 _).mono ?_; rintro e w' ⟨rfl, rfl⟩) | (go_at_call 50; with_reducible refine (h2 _).mono ?_; rintro e w' ⟨rfl, rfl⟩))
      go_ret
      exact ⟨rfl, rfl⟩
end Go.Proofs.YtjdjahckdgbkbaeDoor
end
section
namespace Go.Proofs.YtjdjahckdgbkbaeDoor
open Go.ChangeShapes Go.WideShapes Go.ChangeAt Go.RowKit
/-! What the listed tables give: the powers of ten; and a world that holds them. -/
namespace LT
theorem gP : Tryd.prog.globalNamed "internal/strconv.uint64pow10" = some 1 := by kernel_rfl
theorem gPType : (Tryd.prog.globals[1]?).map (·.type) = some 97 := by kernel_rfl
theorem cellsP : Tryd.prog.cellsOf 97 = 20 := by kernel_rfl
theorem cellsU : Tryd.prog.cellsOf 91 = 1 := by kernel_rfl
theorem tail {P : Program} {W : World} {n : String} {d : DataW Unit} {r : List (String × DataW Unit)} (h : laidMet P ((n, d) :: r) W) : laidMet P r W := by
  obtain ⟨ps, ⟨g0, t0, cs0, f0, p0, q0, hg0, ht0, hv0, hd0, hr, e0⟩, hn, hrows⟩ := h
  subst e0
  exact ⟨q0, hr, (List.nodup_append.1 hn).2.1, fun b off hb => hrows b off (List.mem_append_right _ hb)⟩
/-- the powers of ten are there -/
def TW (w : World) : Prop := Lib.TabIs Tryd.prog w "internal/strconv.uint64pow10" .u64 Lib.pow10Tab
theorem TW.keep {w w' : World} (h : TW w) (hb : Below w.heap.size w w') : TW w' := by
  unfold TW Lib.TabIs World.var? at h ⊢
  rw [gP] at h ⊢
  simp only [Option.bind_some] at h ⊢
  have hlt : 1 < w.heap.size := by
    rcases Nat.lt_or_ge 1 w.heap.size with h' | h'
    · exact h'
    · rw [Array.getElem?_eq_none h'] at h; cases h
  rw [hb.block _ hlt]
  exact h
theorem opens3 {r : List (String × DataW Unit)} {W : World} (h : laidMet Tryd.prog (("math/bits.deBruijn32tab", Rows.laid_math_bits_deBruijn32tab) :: ("math/bits.deBruijn64tab", Rows.laid_math_bits_deBruijn64tab) :: ("internal/strconv.uint64pow10", Rows.laid_internal_strconv_uint64pow10) :: r) W) : TW W := by
  have h2 := tail (tail h)
  rw [show (Rows.laid_internal_strconv_uint64pow10 : DataW Unit) = Lib.tabData .u64 Lib.pow10Tab from by kernel_rfl] at h2
  exact Lib.tabIs_of_head gP gPType Tryd.underlying97 Tryd.underlying91 cellsU cellsP h2
noncomputable def world (os : Os) : World := World.doorLaid Tryd.prog 43 os
end LT
end Go.Proofs.YtjdjahckdgbkbaeDoor
end
section
namespace Go.Proofs.YtjdjahckdgbkbaeDoor
open Go.RowKit
/-- behind a region that draws its order -/
theorem bdrewn {W w' : World} (h : Below W.drew.heap.size W.drew w') : Below W.heap.size W w' := (Below.refl _ _).drew.trans h
end Go.Proofs.YtjdjahckdgbkbaeDoor
end
section
namespace Go.Proofs.YtjdjahckdgbkbaeDoor
open Go.RowKit
set_option linter.unusedVariables false
set_option maxHeartbeats 1000000
/-- values written side by side -/
def wrAt (cs : Array Value) (o : Nat) : List Value → Array Value
  | [] => cs
  | v :: r => wrAt (cs.setIfInBounds o v) (o + 1) r
theorem wrAt_size : ∀ (vs : List Value) (cs : Array Value) (o : Nat), (wrAt cs o vs).size = cs.size
  | [], cs, o => rfl
  | v :: r, cs, o => by unfold wrAt; rw [wrAt_size r]; simp
theorem wrAt_lo : ∀ (vs : List Value) (cs : Array Value) (o i : Nat), i < o → (wrAt cs o vs)[i]? = cs[i]?
  | [], cs, o, i, _ => rfl
  | v :: r, cs, o, i, h => by unfold wrAt; rw [wrAt_lo r _ _ _ (by omega), Array.getElem?_setIfInBounds_ne (by omega)]
theorem wrAt_hi : ∀ (vs : List Value) (cs : Array Value) (o i : Nat), o + vs.length ≤ i → (wrAt cs o vs)[i]? = cs[i]?
  | [], cs, o, i, _ => rfl
  | v :: r, cs, o, i, h => by
    simp only [List.length_cons] at h
    unfold wrAt; rw [wrAt_hi r _ _ _ (by omega), Array.getElem?_setIfInBounds_ne (by omega)]
theorem wrAt_in : ∀ (vs : List Value) (cs : Array Value) (o j : Nat), o + vs.length ≤ cs.size → j < vs.length → (wrAt cs o vs)[o + j]? = vs[j]?
  | [], cs, o, j, _, h => by simp at h
  | v :: r, cs, o, 0, h, _ => by
    simp only [List.length_cons] at h
    unfold wrAt; rw [wrAt_lo r _ _ _ (by omega), Nat.add_zero, Array.getElem?_setIfInBounds_self_of_lt (by omega)]
    rfl
  | v :: r, cs, o, j + 1, h, hj => by
    simp only [List.length_cons] at h hj
    unfold wrAt
    rw [show o + (j + 1) = o + 1 + j from by omega, wrAt_in r _ _ _ (by simp; omega) (by omega)]
    simp
theorem putS {w : World} {b i : Nat} {cs : Array Value} {T : TypeId} {fz : Nat × Nat} (h : w.heap[b]? = some (.cells cs T fz)) (u : Value) : (w.setCell ⟨b, i, none⟩ u).heap[b]? = some (.cells (cs.setIfInBounds i u) T fz) := by
  simp [World.setCell, Array.getElem?_modify, h]
theorem cellS {w : World} {b : Nat} {cs : Array Value} {T : TypeId} {fz : Nat × Nat} (h : w.heap[b]? = some (.cells cs T fz)) (i : Nat) : w.cell? ⟨b, i, none⟩ = cs[i]? := by simp [World.cell?, h]
theorem frozenS {w : World} {b : Nat} {cs : Array Value} {T : TypeId} (h : w.heap[b]? = some (.cells cs T (0, 0))) (i : Nat) : w.frozen? ⟨b, i, none⟩ = false := by simp [World.frozen?, h]
theorem thereS {w : World} {b : Nat} {cs : Array Value} {T : TypeId} {fz : Nat × Nat} (h : w.heap[b]? = some (.cells cs T fz)) {i : Nat} (hi : i < cs.size) : ∃ v, w.cell? ⟨b, i, none⟩ = some v := ⟨cs[i], (cellS h i).trans (by simp [hi])⟩
theorem newS (w : World) (o : Obj) : (w.alloc o).heap[w.heap.size]? = some o := by
  show (w.heap.push _)[w.heap.size]? = _
  simp
theorem ltS {w : World} {g : Nat} {o : Obj} (h : w.heap[g]? = some o) : g < w.heap.size := (Array.getElem?_eq_some_iff.1 h).1
theorem gsetS {w w' : World} {g : Nat} (h : w.grownBy w' (some g)) (o : Nat) (v : Value) : w.grownBy (w'.setCell ⟨g, o, none⟩ v) (some g) :=
  ⟨h.os, h.tape, h.output, by simpa [World.setCell] using h.size, fun k hk hne => (Below.heap_setCell w' ⟨g, o, none⟩ v k (by rintro rfl; exact hne rfl)).trans (h.block k hk hne)⟩
theorem greflS (w : World) (g : Nat) : w.grownBy w (some g) := ⟨rfl, rfl, rfl, Nat.le_refl _, fun _ _ _ => rfl⟩
/-- the values lie in the cells from o on -/
def InS (cs : Array Value) (o : Nat) (l : List Value) : Prop := ∀ j u, l[j]? = some u → cs[o + j]? = some u
theorem InS.write {cs : Array Value} {o : Nat} {l : List Value} (h : o + l.length ≤ cs.size) : InS (wrAt cs o l) o l := fun j u hu => by
  have hj := (List.getElem?_eq_some_iff.1 hu).1
  rw [wrAt_in _ _ _ _ h hj, hu]
theorem InS.keepS {cs : Array Value} {o o' : Nat} {l m : List Value} (h : InS cs o' m) (hd : o' + m.length ≤ o ∨ o + l.length ≤ o') : InS (wrAt cs o l) o' m := fun j u hu => by
  have hj := (List.getElem?_eq_some_iff.1 hu).1
  rcases hd with hd | hd
  · rw [wrAt_lo _ _ _ _ (by omega)]; exact h j u hu
  · rw [wrAt_hi _ _ _ _ (by omega)]; exact h j u hu
end Go.Proofs.YtjdjahckdgbkbaeDoor
end
section
namespace Go.Proofs.YtjdjahckdgbkbaeDoor
open Go.RowKit
set_option linter.unusedVariables false
set_option maxHeartbeats 1000000
attribute [local go_sem] growUpon_value growUpon_skip growUpon_enter
/-! Rectangles as texts. -/
theorem itoa_len (n : Int) : (Lib.itoa n).length ≤ n.natAbs + 2 := by
  have h1 := dec_len n.natAbs
  have h2 := dec_len n.toNat
  unfold Lib.itoa
  split
  · simp only [List.length_cons]; omega
  · omega
theorem itoa_v (n : Int) (hn : -100000000000000 ≤ n ∧ n ≤ 100000000000000) (w : World) (h : LT.TW w) : Calls Tryd.prog 26 #[.int .i64 n] w fun e w' => e = .returned (tx (Lib.itoa n)) ∧ Below w.heap.size w w' := by
  refine (Tryd.strconv_Itoa n (by omega) (by omega) w h).mono ?_
  rintro e w' ⟨rfl, k, os, rfl⟩
  exact ⟨rfl, Lib.below_grow _ _ (Nat.le_refl _) _ _⟩
theorem number_v (n : Int) (hn : -100000000000000 ≤ n ∧ n ≤ 100000000000000) (w : World) : Calls Tryd.prog 50 #[.int .i64 n] w fun e w' => e = .returned (tx (Lib.itoa n)) ∧ Below w.heap.size w w' := by
  by_cases h : n < 0
  · obtain ⟨m, hm⟩ : ∃ m : Nat, n.natAbs = m := ⟨_, rfl⟩
    have e0 : (0 : Int) - n = (m : Int) := by omega
    have w1 : IntKind.i64.wrap (-n) = (m : Int) := (IntWalk.i64_in _ (by omega)).trans (by omega)
    have w3 : wrap64 (-n) = (m : Int) := (IntWalk.wrap64_in _ (by omega)).trans (by omega)
    have h1 := numN m (by omega)
    have hl := dec_len m
    obtain ⟨c, hc, g⟩ := cat_exl #[45] (Lib.decDigits m) (by simp; omega)
    have hd : decide (n < 0) = true := by simpa using h
    have hr : c = Lib.itoa n := by rw [hc, Lib.itoa, if_pos h, hm]; rfl
    rw [← hr]
    clear hr hc hl e0 hm
    go_enter Tryd.func50, Tryd.ntmps50
    go_wp2_with (go_at_call 50; with_reducible refine (h1 _).mono ?_; rintro e w' ⟨rfl, rfl⟩)
    go_ret
    exact ⟨rfl, Below.refl _ _⟩
  · obtain ⟨m, rfl⟩ := Int.eq_ofNat_of_zero_le (show 0 ≤ n by omega)
    refine (numN m (by omega) w).mono ?_
    rintro e w' ⟨rfl, rfl⟩
    refine ⟨?_, Below.refl _ _⟩
    rw [Lib.itoa, if_neg h]
    simp
theorem c4R {w : World} {b : Nat} {a0 a1 a2 a3 : Value} {T : TypeId} {fz : Nat × Nat} (h : w.heap[b]? = some (.cells #[a0, a1, a2, a3] T fz)) :
    w.cell? ⟨b, 0, none⟩ = some a0 ∧ w.cell? ⟨b, 1, none⟩ = some a1 ∧ w.cell? ⟨b, 2, none⟩ = some a2 ∧ w.cell? ⟨b, 3, none⟩ = some a3 := ⟨cellS h 0, cellS h 1, cellS h 2, cellS h 3⟩
/-- a rectangle's text -/
def rtL (x y u v : Int) : List UInt8 := Lib.itoa x ++ [44] ++ Lib.itoa y ++ [43] ++ (Lib.itoa u ++ [120] ++ Lib.itoa v)
def szL (u v : Int) : List UInt8 := Lib.itoa u ++ [120] ++ Lib.itoa v
theorem sizeText_v (u v : Int) (hu : -100000 ≤ u ∧ u ≤ 100000) (hv : -100000 ≤ v ∧ v ≤ 100000) (w : World) (h : LT.TW w) : Calls Tryd.prog 27 #[.int .i64 u, .int .i64 v] w fun e w' => e = .returned (tx (szL u v)) ∧ Below w.heap.size w w' := by
  have l1 := itoa_len u
  have l2 := itoa_len v
  have HI := fun w => itoa_v u (by omega) w
  have HJ := fun w => itoa_v v (by omega) w
  obtain ⟨a, ha, g1⟩ := cat_exr (Lib.itoa u) #[120] (by simp; omega)
  obtain ⟨c, hc, g2⟩ := cat_ex a (Lib.itoa v) (by rw [ha]; simp; omega)
  have hr : c = szL u v := by rw [hc, ha]; rfl
  rw [← hr]
  clear hr hc ha l1 l2
  generalize Lib.itoa u = U at *
  generalize Lib.itoa v = V at *
  go_enter Tryd.func27, Tryd.ntmps27
  go_wp2_with fail
  with_reducible refine (HI _ h).mono ?_
  rintro e w1 ⟨rfl, hb⟩
  go_wp2_with fail
  with_reducible refine (HJ _ (h.keep hb)).mono ?_
  rintro e w2 ⟨rfl, hb2⟩
  go_wp2
  go_ret
  exact ⟨rfl, bkeep2 hb hb2⟩
set_option maxRecDepth 100000 in
theorem srectText_v (x y u v : Int) (hx : -100000 ≤ x ∧ x ≤ 100000) (hy : -100000 ≤ y ∧ y ≤ 100000) (hu : -100000 ≤ u ∧ u ≤ 100000) (hv : -100000 ≤ v ∧ v ≤ 100000) (w : World) : Calls Tryd.prog 24 #[.agg #[.int .i64 (x), .int .i64 (y), .int .i64 (u), .int .i64 (v)]] w fun e w' => e = .returned (tx (rtL x y u v)) ∧ Below w.heap.size w w' := by
  have l1 := itoa_len x
  have l2 := itoa_len y
  have l3 := itoa_len u
  have l4 := itoa_len v
  have H1 := fun w => number_v x (by omega) w
  have H2 := fun w => number_v y (by omega) w
  have H3 := fun w => number_v u (by omega) w
  have H4 := fun w => number_v v (by omega) w
  obtain ⟨a1, e1, g1⟩ := cat_exr (Lib.itoa x) #[44] (by simp; omega)
  obtain ⟨a2, e2, g2⟩ := cat_ex a1 (Lib.itoa y) (by rw [e1]; simp; omega)
  obtain ⟨a3, e3, g3⟩ := cat_exr a2 #[43] (by rw [e2, e1]; simp; omega)
  obtain ⟨a4, e4, g4⟩ := cat_ex a3 (Lib.itoa u) (by rw [e3, e2, e1]; simp; omega)
  obtain ⟨a5, e5, g5⟩ := cat_exr a4 #[120] (by rw [e4, e3, e2, e1]; simp; omega)
  obtain ⟨a6, e6, g6⟩ := cat_ex a5 (Lib.itoa v) (by rw [e5, e4, e3, e2, e1]; simp; omega)
  have hr : a6 = rtL x y u v := by rw [e6, e5, e4, e3, e2, e1, rtL]; simp
  rw [← hr]
  clear hr e1 e2 e3 e4 e5 e6 l1 l2 l3 l4 hx hy hu hv
  generalize Lib.itoa x = X at *
  generalize Lib.itoa y = Y at *
  generalize Lib.itoa u = U at *
  generalize Lib.itoa v = V at *
  go_enter Tryd.func24, Tryd.ntmps24
  go_wp2_with fail
  refine wp_region_grow 18 1 (· < 18) (by kernel_rfl) (by kernel_rfl) rfl ?_
  iterate 18 (refine wpG_step (fun K hK => ?_); first | (refine grow_skip rfl ?_; go_simp; refine hK _ ?_; clear hK K) | (apply Exists.intro; refine ⟨.inl ⟨rfl, fun w' hw' => ?_⟩, ?_⟩; (focus ((obtain ⟨hc, hf⟩ := bcell hw'.out); (have hcS := bcellS hw'.out); go_simp <;> first | rfl | (go_at_call 50; first | (with_reducible refine (H1 _).mono ?_; exact fun e w'' h => ⟨h.1, Gr.of h.2⟩) | (with_reducible refine (H2 _).mono ?_; exact fun e w'' h => ⟨h.1, Gr.of h.2⟩) | (with_reducible refine (H3 _).mono ?_; exact fun e w'' h => ⟨h.1, Gr.of h.2⟩) | (with_reducible refine (H4 _).mono ?_; exact fun e w'' h => ⟨h.1, Gr.of h.2⟩)))); (go_simp; refine hK _ ?_; clear hK K)))
  refine wpG_nil ?_
  refine wpK_tail (by kernel_rfl) (fun w1 hg1 => ?_)
  have hb1 := bdrewn hg1.out
  obtain ⟨hc1, hf1⟩ := bcell hb1
  refine wpAny_one (i := 18) (by kernel_rfl) rfl rfl ?_
  go_simp
  refine wpAny_end (by kernel_rfl) ?_
  refine NoPan.thn ?_
  clear hc1 hf1
  clear hg1
  go_wp2
  go_ret
  exact ⟨rfl, bkeep2 (balloc (Below.refl _ _)) hb1⟩
theorem sRectText_v (x y u v : Int) (w : World) : Calls Tryd.prog 7 #[.agg #[.int .i64 (x), .int .i64 (y), .int .i64 (u), .int .i64 (v)]] w fun e w' => e = .returned (tx (if vr x y u v then rtL x y u v else [])) ∧ Below w.heap.size w w' := by
  cases h : vr x y u v
  · have hv := fun w => h ▸ specValidRect_any x y u v w
    go_enter Tryd.func7, Tryd.ntmps7
    go_wp2_with fail
    with_reducible refine (hv _).mono ?_
    rintro e w1 ⟨rfl, hb⟩
    go_wp2
    go_ret
    exact ⟨rfl, bkeep2 (balloc (Below.refl _ _)) hb⟩
  · have hv := fun w => h ▸ specValidRect_any x y u v w
    obtain ⟨h1, h2, h3, h4, h5, h6, h7, h8⟩ := vr_iff.1 h
    have HR := fun w => srectText_v x y u v (by omega) (by omega) (by omega) (by omega) w
    rw [if_pos rfl]
    generalize rtL x y u v = R at *
    clear h h1 h2 h3 h4 h5 h6 h7 h8
    go_enter Tryd.func7, Tryd.ntmps7
    go_wp2_with fail
    with_reducible refine (hv _).mono ?_
    rintro e w1 ⟨rfl, hb⟩
    have hx := (hb.block w.heap.size (by simp)).trans (newS w (.cells #[.int .i64 x, .int .i64 y, .int .i64 u, .int .i64 v] 25))
    obtain ⟨c0, c1, c2, c3⟩ := c4R hx
    clear hx
    go_wp2_with fail
    with_reducible refine (HR _).mono ?_
    rintro e w2 ⟨rfl, hb2⟩
    clear c0 c1 c2 c3
    go_wp2
    go_ret
    exact ⟨rfl, bkeep2 (bkeep2 (balloc (Below.refl _ _)) hb) hb2⟩
set_option maxRecDepth 100000 in
theorem RectText_v (x y u v : Int) (w : World) (h : LT.TW w) : Calls Tryd.prog 9 #[.agg #[.int .i64 (x), .int .i64 (y), .int .i64 (u), .int .i64 (v)]] w fun e w' => e = .returned (tx (if vr x y u v then rtL x y u v else [])) ∧ Below w.heap.size w w' := by
  cases hr : vr x y u v
  · have hv := fun w => hr ▸ validRect_any x y u v w
    go_enter Tryd.func9, Tryd.ntmps9
    go_wp2_with fail
    with_reducible refine (hv _).mono ?_
    rintro e w1 ⟨rfl, hb⟩
    go_wp2
    go_ret
    exact ⟨rfl, bkeep2 (balloc (Below.refl _ _)) hb⟩
  · have hv := fun w => hr ▸ validRect_any x y u v w
    obtain ⟨h1, h2, h3, h4, h5, h6, h7, h8⟩ := vr_iff.1 hr
    have l1 := itoa_len x
    have l2 := itoa_len y
    have l3 := itoa_len u
    have l4 := itoa_len v
    have H1 := fun w => itoa_v x (by omega) w
    have H2 := fun w => itoa_v y (by omega) w
    have H3 := fun w => sizeText_v u v (by omega) (by omega) w
    obtain ⟨a1, e1, g1⟩ := cat_exr (Lib.itoa x) #[44] (by simp; omega)
    obtain ⟨a2, e2, g2⟩ := cat_ex a1 (Lib.itoa y) (by rw [e1]; simp; omega)
    obtain ⟨a3, e3, g3⟩ := cat_exr a2 #[43] (by rw [e2, e1]; simp; omega)
    obtain ⟨a4, e4, g4⟩ := cat_ex a3 (szL u v) (by rw [e3, e2, e1, szL]; simp; omega)
    have hR : a4 = rtL x y u v := by rw [e4, e3, e2, e1, rtL, szL]
    rw [if_pos rfl, ← hR]
    clear hR e1 e2 e3 e4 l1 l2 l3 l4 h1 h2 h3 h4 h5 h6 h7 h8 hr
    generalize Lib.itoa x = X at *
    generalize Lib.itoa y = Y at *
    generalize szL u v = Z at *
    go_enter Tryd.func9, Tryd.ntmps9
    go_wp2_with fail
    with_reducible refine (hv _).mono ?_
    rintro e w1 ⟨rfl, hb⟩
    have hx := (hb.block w.heap.size (by simp)).trans (newS w (.cells #[.int .i64 x, .int .i64 y, .int .i64 u, .int .i64 v] 25))
    have HT := Lib.hid ((h.keep (balloc (o := .cells #[.int .i64 x, .int .i64 y, .int .i64 u, .int .i64 v] 25) (Below.refl _ _))).keep hb)
    have hlt : w.heap.size < w1.heap.size := by have := hb.size; simp at this; omega
    obtain ⟨c0, c1, c2, c3⟩ := c4R hx
    have HB := Lib.hid (bkeep2 (balloc (Below.refl _ _)) hb)
    clear hx hb h
    go_wp2_with fail
    refine wp_region_grow 15 1 (· < 15) (by kernel_rfl) (by kernel_rfl) rfl ?_
    iterate 15 (refine wpG_step (fun K hK => ?_); first | (refine grow_skip rfl ?_; go_simp; refine hK _ ?_; clear hK K) | (apply Exists.intro; refine ⟨.inl ⟨rfl, fun w' hw' => ?_⟩, ?_⟩; (focus ((obtain ⟨hc, hf⟩ := bcell hw'.out); (have hcS := bcellS hw'.out); go_simp <;> first | rfl | (go_at_call 26; first | (with_reducible refine (H1 _ (HT.out.keep (bdrewn hw'.out))).mono ?_; exact fun e w'' h => ⟨h.1, Gr.of h.2⟩) | (with_reducible refine (H2 _ (HT.out.keep (bdrewn hw'.out))).mono ?_; exact fun e w'' h => ⟨h.1, Gr.of h.2⟩)) | (go_at_call 27; (with_reducible refine (H3 _ (HT.out.keep (bdrewn hw'.out))).mono ?_; exact fun e w'' h => ⟨h.1, Gr.of h.2⟩)))); (go_simp; refine hK _ ?_; clear hK K)))
    refine wpG_nil ?_
    refine wpK_tail (by kernel_rfl) (fun w9 hg9 => ?_)
    have hb9 := bdrewn hg9.out
    obtain ⟨hc9, hf9⟩ := bcell hb9
    refine wpAny_one (i := 15) (by kernel_rfl) rfl rfl ?_
    go_simp
    refine wpAny_end (by kernel_rfl) ?_
    refine NoPan.thn ?_
    clear hc9 hf9
    clear hg9
    go_wp2
    go_ret
    exact ⟨rfl, bkeep2 HB.out hb9⟩
end Go.Proofs.YtjdjahckdgbkbaeDoor
end
section
namespace Go.Proofs.YtjdjahckdgbkbaeDoor
set_option linter.unusedVariables false
set_option linter.unusedSimpArgs false
/-! Numbers in decimal are told apart. -/
def vdig (l : List UInt8) : Nat := l.foldl (fun a d => 10 * a + (d.toNat - 48)) 0
theorem dig_toNat {k : Nat} (h : k < 10) : (UInt8.ofNat (48 + k)).toNat = 48 + k := by
  simp [UInt8.toNat_ofNat]; omega
theorem vdig_dec (m : Nat) : vdig (Lib.decDigits m) = m := by
  induction m using Nat.strongRecOn with
  | _ m ih =>
    rw [Lib.decDigits]
    split
    · rename_i h
      show 10 * 0 + ((UInt8.ofNat (48 + m)).toNat - 48) = m
      rw [dig_toNat h]; omega
    · rename_i h
      have := ih (m / 10) (by omega)
      unfold vdig at this ⊢
      rw [List.foldl_append, this]
      simp only [List.foldl_cons, List.foldl_nil, dig_toNat (show m % 10 < 10 by omega)]
      omega
theorem dec_ge (m : Nat) : ∀ d ∈ Lib.decDigits m, 48 ≤ d.toNat ∧ d.toNat ≤ 57 := by
  induction m using Nat.strongRecOn with
  | _ m ih =>
    rw [Lib.decDigits]
    split
    · rename_i h
      intro d hd
      obtain rfl := List.mem_singleton.1 hd
      rw [dig_toNat h]; omega
    · rename_i h
      intro d hd
      rcases List.mem_append.1 hd with hd | hd
      · exact ih (m / 10) (by omega) d hd
      · obtain rfl := List.mem_singleton.1 hd
        rw [dig_toNat (by omega)]; omega
theorem dec_inj {a b : Nat} (h : Lib.decDigits a = Lib.decDigits b) : a = b := by rw [← vdig_dec a, ← vdig_dec b, h]
theorem dec_ne_nil (m : Nat) : Lib.decDigits m ≠ [] := by
  rw [Lib.decDigits]
  split <;> simp
theorem itoa_inj {a b : Int} (h : Lib.itoa a = Lib.itoa b) : a = b := by
  unfold Lib.itoa at h
  split at h <;> split at h
  · have := dec_inj (List.cons.inj h).2; omega
  · have h1 : (45 : UInt8) ∈ Lib.decDigits b.toNat := by rw [← h]; exact List.mem_cons_self
    have := (dec_ge _ _ h1).1
    simp at this
  · have h1 : (45 : UInt8) ∈ Lib.decDigits a.toNat := by rw [h]; exact List.mem_cons_self
    have := (dec_ge _ _ h1).1
    simp at this
  · have := dec_inj h; omega
theorem itoa_ne_nil (a : Int) : Lib.itoa a ≠ [] := by
  unfold Lib.itoa
  split
  · simp
  · exact dec_ne_nil _
end Go.Proofs.YtjdjahckdgbkbaeDoor
end
section
namespace Go.Proofs.YtjdjahckdgbkbaeDoor
open Go.ChangeShapes Go.WideShapes Go.ChangeAt Go.RowKit
namespace LT
theorem met (os : Os) (args : Array Value) : laidMetH Tryd.prog Rows.fnExactRectTextRow.laid ((world os).forCall (fun _ _ => 0) ⟨#[], args, []⟩).memory :=
  laidMetH_of_parts3 (fuel := 8) (laidMet_of_run' 8 (by kernel_rfl) (by kernel_rfl)) (by kernel_rfl) (by kernel_rfl)
theorem opens {W : World} (h : laidMetH Tryd.prog Rows.fnExactRectTextRow.laid W) : TW W := by
  rw [MakeChecks.laidMetH_plain _ _ _ (by kernel_rfl)] at h
  exact opens3 h
end LT
end Go.Proofs.YtjdjahckdgbkbaeDoor
end
