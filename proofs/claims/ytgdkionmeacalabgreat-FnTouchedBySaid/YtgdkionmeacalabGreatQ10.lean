import Derived.Test.YtgdkionmeacalabGreatQ09
import Derived.OwnWalk
section
namespace Go.Proofs.YtgdkionmeacalabGreat
open Go.RowKit
set_option linter.unusedVariables false
set_option maxHeartbeats 1000000
theorem svalidLine_v (l : Ln) (b : Bool) (w : World) (hb : lineB l = b) : Calls Tryz.prog 116 #[.agg #[.int .i64 l.wt, .int .i64 l.mi]] w fun e w' => e = .returned (.bool b) ∧ Below w.heap.size w w' := by
  cases h1 : wB l.wt
  · have hbf : b = false := by rw [← hb]; simp [lineB, h1]
    subst hbf
    go_enter Tryz.func116, Tryz.ntmps116
    go_wp2_with fail
    with_reducible refine (inRange_b _ false _ h1).mono ?_
    rintro e w1 ⟨rfl, rfl⟩
    go_wp2
    go_ret
    exact ⟨rfl, balloc (Below.refl _ _)⟩
  · have h2 : rng l.mi 0 30 = b := by rw [← hb]; simp [lineB, h1]
    cases b
    all_goals
      go_enter Tryz.func116, Tryz.ntmps116
      go_wp2_with fail
      with_reducible refine (inRange_b _ true _ h1).mono ?_
      rintro e w1 ⟨rfl, rfl⟩
      go_wp2_with fail
      with_reducible refine (inRange_w _ 0 30 _ _ h2).mono ?_
      rintro e w1 ⟨rfl, rfl⟩
      go_wp2
      go_ret
      exact ⟨rfl, balloc (Below.refl _ _)⟩
set_option maxRecDepth 100000 in
theorem svalidLines_v (A : Option Addr) (c : Nat) (L : List Ln) (b : Bool) (w : World) (h : LnV w A L) (hL : L.length ≤ 1048576) (hb0 : linesB L = b) :
    Calls Tryz.prog 93 #[.slice A L.length c] w fun e w' => e = .returned (.bool b) ∧ Below w.heap.size w w' := by
  have HB0 := Lib.hid hb0
  clear hb0
  go_enter Tryz.func93, Tryz.ntmps93
  go_wp2_with fail
  go_loopw [3] (fun i wr => ∃ k : Nat, k ≤ L.length ∧ i = .int .i64 k ∧ (L.take k).all lineB = true ∧ Below w.heap.size w wr) (fun i _ => L.length - (intOf i).toNat)
  case atStart => exact ⟨0, by omega, rfl, rfl, Below.refl _ _⟩
  case round =>
    obtain ⟨k, hk, rfl, hok, hB⟩ := hrel
    by_cases hlt : k < L.length
    · have hd : decide ((k : Int) < (L.length : Int)) = true := by simpa using hlt
      obtain ⟨b', off, rfl, hb', hp⟩ := (h.keep hB).cells (by omega)
      have hget : L[k]? = some L[k] := List.getElem?_eq_getElem hlt
      obtain ⟨c0, c1⟩ := hp k _ hget
      generalize hx : L[k] = p at *
      have HG := Lib.hid hget
      have HX := Lib.hid hx
      have HO := Lib.hid hok
      have HBB := Lib.hid hB
      clear hget hx hok hB hp
      cases hv : lineB p
      all_goals
        have Hv := Lib.hid hv
        clear hv
        go_wp2_with fail
        first | (with_reducible refine (svalidLine_v p false _ Hv.out).mono ?_) | (with_reducible refine (svalidLine_v p true _ Hv.out).mono ?_)
        rintro e w1 ⟨rfl, hb1⟩
        replace HBB := Lib.hid (bkeep2 HBB.out hb1)
        clear hb1 c0 c1
        go_wp2
      · go_ret
        exact ⟨ret_bool (by rw [← HB0.out]; simp [linesB, all_falseG HG.out Hv.out]), HBB.out⟩
      · go_roundw
        case rel => exact ⟨k + 1, by omega, by go_num, by rw [all_snocG HG.out, HO.out, Hv.out]; rfl, HBB.out⟩
        case measure => simp [intOf]; omega
    · have hd : decide ((k : Int) < (L.length : Int)) = false := decide_eq_false (by omega)
      have he : L.take k = L := List.take_of_length_le (by omega)
      rw [he] at hok
      have h1 : rng (L.length : Int) 1 5 = b := by rw [← HB0.out]; simp [linesB, hok]
      have HBB := Lib.hid hB
      have H1 := Lib.hid h1
      clear hok hB he h1
      go_wp2_with fail
      with_reducible refine (inRange_w _ 1 5 b _ H1.out).mono ?_
      rintro e w1 ⟨rfl, rfl⟩
      go_wp2
      go_ret
      exact ⟨rfl, HBB.out⟩
def addP : List Int → List Int → List Int
  | o :: os, p :: ps => (o + p) :: addP os ps
  | os, _ => os
theorem addP_nil (O : List Int) : addP O [] = O := by cases O <;> rfl
theorem addP_len : ∀ (O P : List Int), (addP O P).length = O.length
  | [], P => by simp [addP]
  | o :: os, [] => rfl
  | o :: os, p :: ps => by simp [addP, addP_len os ps]
theorem addP_get : ∀ {O P : List Int} {i : Nat} {o : Int}, O[i]? = some o → P.length ≤ i → (addP O P)[i]? = some o
  | [], P, i, o, h, _ => by simp at h
  | x :: os, [], i, o, h, _ => h
  | x :: os, p :: ps, 0, o, h, hl => by simp at hl
  | x :: os, p :: ps, i + 1, o, h, hl => by
    simp at h hl
    simpa [addP] using addP_get h hl
theorem addP_snoc : ∀ {O P : List Int} {i : Nat} {o p : Int}, O[i]? = some o → P[i]? = some p → (addP O (P.take i)).set i (o + p) = addP O (P.take (i + 1))
  | [], P, i, o, p, h, _ => by simp at h
  | x :: os, [], i, o, p, _, h => by simp at h
  | x :: os, q :: ps, 0, o, p, h, hp => by
    simp at h hp
    subst h hp
    simp [addP, addP_nil]
  | x :: os, q :: ps, i + 1, o, p, h, hp => by
    simp at h hp
    simp [addP, addP_snoc h hp]
def addAt (O : List Int) (k : Nat) (P : List Int) : List Int := O.take k ++ addP (O.drop k) P
theorem addAt_len (O : List Int) (k : Nat) (P : List Int) : (addAt O k P).length = O.length := by
  unfold addAt
  rw [List.length_append, addP_len, List.length_take, List.length_drop]; omega
theorem addAt_nil (O : List Int) (k : Nat) : addAt O k [] = O := by simp [addAt, addP_nil]
theorem addAt_get {O P : List Int} {k i : Nat} {o : Int} (h : O[k + i]? = some o) (hl : P.length ≤ i) : (addAt O k P)[k + i]? = some o := by
  have hk := (List.getElem?_eq_some_iff.1 h).1
  have e : (O.take k).length = k := by rw [List.length_take]; omega
  unfold addAt
  rw [List.getElem?_append_right (by omega), e, Nat.add_sub_cancel_left]
  exact addP_get (by rw [List.getElem?_drop]; exact h) hl
theorem addAt_snoc {O P : List Int} {k i : Nat} {o p : Int} (h : O[k + i]? = some o) (hp : P[i]? = some p) : (addAt O k (P.take i)).set (k + i) (o + p) = addAt O k (P.take (i + 1)) := by
  have hk := (List.getElem?_eq_some_iff.1 h).1
  have e : (O.take k).length = k := by rw [List.length_take]; omega
  unfold addAt
  rw [List.set_append_right _ _ (by omega), e, Nat.add_sub_cancel_left, addP_snoc (by rw [List.getElem?_drop]; exact h) hp]
end Go.Proofs.YtgdkionmeacalabGreat
end
section
namespace Go.Proofs.YtgdkionmeacalabGreat
open Go.RowKit
set_option linter.unusedVariables false
set_option maxHeartbeats 1000000
attribute [local go_sem] growUpon_value growUpon_skip growUpon_enter
def cellB (n m : Int) (c : Ce) : Bool := runB c.co c.mc n && (runB c.ro c.mr m && (rng c.cw 0 30 && (rng c.ch 0 30 && (rng c.sk 0 15 && (rng c.px 0 10 && rng c.py 0 10)))))
def gridB (L1 L2 : List Ln) (L3 : List Ce) : Bool := linesB L1 && (linesB L2 && (decide ((L3.length : Int) ≤ 8) && L3.all (cellB L1.length L2.length)))
set_option maxRecDepth 100000 in
theorem validCell_v (c : Ce) (n m : Int) (b : Bool) (w : World) (hn : 1 ≤ n) (hn5 : n ≤ 5) (hm : 1 ≤ m) (hm5 : m ≤ 5) (hb : cellB n m c = b) : Calls Tryz.prog 72 #[.agg #[.int .i64 c.co, .int .i64 c.ro, .int .i64 c.mc, .int .i64 c.mr, .int .i64 c.cw, .int .i64 c.ch, .int .i64 c.sk, .int .i64 c.px, .int .i64 c.py], .int .i64 n, .int .i64 m] w fun e w' => e = .returned (.bool b) ∧ Below w.heap.size w w' := by
  cases h1 : runB c.co c.mc n
  · have hbf : false = b := by rw [← hb]; simp [cellB, h1]
    subst hbf
    go_enter Tryz.func72, Tryz.ntmps72
    go_wp2_with fail
    with_reducible refine (validRun_v _ _ n false _ hn hn5 h1).mono ?_
    rintro e w1 ⟨rfl, rfl⟩
    go_wp2
    go_ret
    exact ⟨rfl, (by repeat (first | with_reducible exact Below.refl _ _ | with_reducible assumption | with_reducible refine balloc ?_ | (with_reducible refine bset ?_ ?_; rotate_left; ((try dsimp only); omega)) | refine bkeep2 ?_ (by assumption) | with_reducible refine Below.drew ?_))⟩
  cases h2 : runB c.ro c.mr m
  · have hbf : false = b := by rw [← hb]; simp [cellB, h2]
    subst hbf
    go_enter Tryz.func72, Tryz.ntmps72
    go_wp2_with fail
    with_reducible refine (validRun_v _ _ n true _ hn hn5 h1).mono ?_
    rintro e w1 ⟨rfl, rfl⟩
    go_wp2_with fail
    with_reducible refine (validRun_v _ _ m false _ hm hm5 h2).mono ?_
    rintro e w1 ⟨rfl, rfl⟩
    go_wp2
    go_ret
    exact ⟨rfl, (by repeat (first | with_reducible exact Below.refl _ _ | with_reducible assumption | with_reducible refine balloc ?_ | (with_reducible refine bset ?_ ?_; rotate_left; ((try dsimp only); omega)) | refine bkeep2 ?_ (by assumption) | with_reducible refine Below.drew ?_))⟩
  cases h3 : (rng c.cw 0 30 && rng c.ch 0 30)
  · have hbf : false = b := by rw [← hb]; cases u : rng c.cw 0 30 <;> cases v : rng c.ch 0 30 <;> simp [cellB, u, v] at h3 ⊢
    subst hbf
    go_enter Tryz.func72, Tryz.ntmps72
    go_wp2_with fail
    with_reducible refine (validRun_v _ _ n true _ hn hn5 h1).mono ?_
    rintro e w1 ⟨rfl, rfl⟩
    go_wp2_with fail
    with_reducible refine (validRun_v _ _ m true _ hm hm5 h2).mono ?_
    rintro e w1 ⟨rfl, rfl⟩
    go_wp2_with fail
    with_reducible refine (validWish_w _ _ false _ h3).mono ?_
    rintro e w1 ⟨rfl, rfl⟩
    go_wp2
    go_ret
    exact ⟨rfl, (by repeat (first | with_reducible exact Below.refl _ _ | with_reducible assumption | with_reducible refine balloc ?_ | (with_reducible refine bset ?_ ?_; rotate_left; ((try dsimp only); omega)) | refine bkeep2 ?_ (by assumption) | with_reducible refine Below.drew ?_))⟩
  obtain ⟨h3a, h3b⟩ : rng c.cw 0 30 = true ∧ rng c.ch 0 30 = true := by simpa using h3
  cases h4 : rng c.sk 0 15
  · have hbf : false = b := by rw [← hb]; simp [cellB, h4, h3a, h3b]
    subst hbf
    go_enter Tryz.func72, Tryz.ntmps72
    go_wp2_with fail
    with_reducible refine (validRun_v _ _ n true _ hn hn5 h1).mono ?_
    rintro e w1 ⟨rfl, rfl⟩
    go_wp2_with fail
    with_reducible refine (validRun_v _ _ m true _ hm hm5 h2).mono ?_
    rintro e w1 ⟨rfl, rfl⟩
    go_wp2_with fail
    with_reducible refine (validWish_w _ _ true _ h3).mono ?_
    rintro e w1 ⟨rfl, rfl⟩
    go_wp2_with fail
    with_reducible refine (within_w _ 0 15 false _ h4).mono ?_
    rintro e w1 ⟨rfl, rfl⟩
    go_wp2
    go_ret
    exact ⟨rfl, (by repeat (first | with_reducible exact Below.refl _ _ | with_reducible assumption | with_reducible refine balloc ?_ | (with_reducible refine bset ?_ ?_; rotate_left; ((try dsimp only); omega)) | refine bkeep2 ?_ (by assumption) | with_reducible refine Below.drew ?_))⟩
  cases h5 : rng c.px 0 10
  · have hbf : false = b := by rw [← hb]; simp [cellB, h5, h3a, h3b]
    subst hbf
    go_enter Tryz.func72, Tryz.ntmps72
    go_wp2_with fail
    with_reducible refine (validRun_v _ _ n true _ hn hn5 h1).mono ?_
    rintro e w1 ⟨rfl, rfl⟩
    go_wp2_with fail
    with_reducible refine (validRun_v _ _ m true _ hm hm5 h2).mono ?_
    rintro e w1 ⟨rfl, rfl⟩
    go_wp2_with fail
    with_reducible refine (validWish_w _ _ true _ h3).mono ?_
    rintro e w1 ⟨rfl, rfl⟩
    go_wp2_with fail
    with_reducible refine (within_w _ 0 15 true _ h4).mono ?_
    rintro e w1 ⟨rfl, rfl⟩
    go_wp2_with fail
    with_reducible refine (within_w _ 0 10 false _ h5).mono ?_
    rintro e w1 ⟨rfl, rfl⟩
    go_wp2
    go_ret
    exact ⟨rfl, (by repeat (first | with_reducible exact Below.refl _ _ | with_reducible assumption | with_reducible refine balloc ?_ | (with_reducible refine bset ?_ ?_; rotate_left; ((try dsimp only); omega)) | refine bkeep2 ?_ (by assumption) | with_reducible refine Below.drew ?_))⟩
  have h6 : rng c.py 0 10 = b := by rw [← hb]; simp [cellB, h1, h2, h4, h5, h3a, h3b]
  cases b
  all_goals
    go_enter Tryz.func72, Tryz.ntmps72
    go_wp2_with fail
    with_reducible refine (validRun_v _ _ n true _ hn hn5 h1).mono ?_
    rintro e w1 ⟨rfl, rfl⟩
    go_wp2_with fail
    with_reducible refine (validRun_v _ _ m true _ hm hm5 h2).mono ?_
    rintro e w1 ⟨rfl, rfl⟩
    go_wp2_with fail
    with_reducible refine (validWish_w _ _ true _ h3).mono ?_
    rintro e w1 ⟨rfl, rfl⟩
    go_wp2_with fail
    with_reducible refine (within_w _ 0 15 true _ h4).mono ?_
    rintro e w1 ⟨rfl, rfl⟩
    go_wp2_with fail
    with_reducible refine (within_w _ 0 10 true _ h5).mono ?_
    rintro e w1 ⟨rfl, rfl⟩
    go_wp2_with fail
    with_reducible refine (within_w _ 0 10 _ _ h6).mono ?_
    rintro e w1 ⟨rfl, rfl⟩
    go_wp2
    go_ret
    exact ⟨rfl, (by repeat (first | with_reducible exact Below.refl _ _ | with_reducible assumption | with_reducible refine balloc ?_ | (with_reducible refine bset ?_ ?_; rotate_left; ((try dsimp only); omega)) | refine bkeep2 ?_ (by assumption) | with_reducible refine Below.drew ?_))⟩
theorem linesB_len' {L : List Ln} (h : linesB L = true) : 1 ≤ L.length ∧ L.length ≤ 5 := by
  simp only [linesB, Bool.and_eq_true, rng_iff] at h
  omega
set_option maxRecDepth 100000 in
theorem svalidCell_v (c : Ce) (n1 n2 n3 c1 c2 c3 : Nat) (A1 A2 A3 : Option Addr) (b : Bool) (w : World) (hn : n1 ≤ 1048576) (hm : n2 ≤ 1048576) (hb : cellB n1 n2 c = b) : Calls Tryz.prog 94 #[.agg #[.slice A1 n1 c1, .slice A2 n2 c2, .slice A3 n3 c3], .agg #[.int .i64 c.co, .int .i64 c.ro, .int .i64 c.mc, .int .i64 c.mr, .int .i64 c.cw, .int .i64 c.ch, .int .i64 c.sk, .int .i64 c.px, .int .i64 c.py]] w fun e w' => e = .returned (.bool b) ∧ Below w.heap.size w w' := by
  cases h1 : rng c.co 0 ((n1 : Int) - 1)
  · have hbf : false = b := by rw [← hb]; simp [cellB, runB, h1]
    subst hbf
    go_enter Tryz.func94, Tryz.ntmps94
    go_wp2_with fail
    with_reducible refine (inRange_w _ 0 ((n1 : Int) - 1) false _ h1).mono ?_
    rintro e w1 ⟨rfl, rfl⟩
    go_wp2
    go_ret
    exact ⟨rfl, (by repeat (first | with_reducible exact Below.refl _ _ | with_reducible assumption | with_reducible refine balloc ?_ | (with_reducible refine bset ?_ ?_; rotate_left; ((try dsimp only); omega)) | refine bkeep2 ?_ (by assumption) | with_reducible refine Below.drew ?_))⟩
  have ha1 := rng_iff.1 h1
  cases h2 : rng c.ro 0 ((n2 : Int) - 1)
  · have hbf : false = b := by rw [← hb]; simp [cellB, runB, h2]
    subst hbf
    go_enter Tryz.func94, Tryz.ntmps94
    go_wp2_with fail
    with_reducible refine (inRange_w _ 0 ((n1 : Int) - 1) true _ h1).mono ?_
    rintro e w1 ⟨rfl, rfl⟩
    go_wp2_with fail
    with_reducible refine (inRange_w _ 0 ((n2 : Int) - 1) false _ h2).mono ?_
    rintro e w1 ⟨rfl, rfl⟩
    go_wp2
    go_ret
    exact ⟨rfl, (by repeat (first | with_reducible exact Below.refl _ _ | with_reducible assumption | with_reducible refine balloc ?_ | (with_reducible refine bset ?_ ?_; rotate_left; ((try dsimp only); omega)) | refine bkeep2 ?_ (by assumption) | with_reducible refine Below.drew ?_))⟩
  have ha2 := rng_iff.1 h2
  cases h3 : rng c.mc 1 ((n1 : Int) - c.co)
  · have hbf : false = b := by rw [← hb]; simp [cellB, runB, h3]
    subst hbf
    go_enter Tryz.func94, Tryz.ntmps94
    go_wp2_with fail
    with_reducible refine (inRange_w _ 0 ((n1 : Int) - 1) true _ h1).mono ?_
    rintro e w1 ⟨rfl, rfl⟩
    go_wp2_with fail
    with_reducible refine (inRange_w _ 0 ((n2 : Int) - 1) true _ h2).mono ?_
    rintro e w1 ⟨rfl, rfl⟩
    go_wp2_with fail
    with_reducible refine (inRange_w _ 1 ((n1 : Int) - c.co) false _ h3).mono ?_
    rintro e w1 ⟨rfl, rfl⟩
    go_wp2
    go_ret
    exact ⟨rfl, (by repeat (first | with_reducible exact Below.refl _ _ | with_reducible assumption | with_reducible refine balloc ?_ | (with_reducible refine bset ?_ ?_; rotate_left; ((try dsimp only); omega)) | refine bkeep2 ?_ (by assumption) | with_reducible refine Below.drew ?_))⟩
  cases h4 : rng c.mr 1 ((n2 : Int) - c.ro)
  · have hbf : false = b := by rw [← hb]; simp [cellB, runB, h4]
    subst hbf
    go_enter Tryz.func94, Tryz.ntmps94
    go_wp2_with fail
    with_reducible refine (inRange_w _ 0 ((n1 : Int) - 1) true _ h1).mono ?_
    rintro e w1 ⟨rfl, rfl⟩
    go_wp2_with fail
    with_reducible refine (inRange_w _ 0 ((n2 : Int) - 1) true _ h2).mono ?_
    rintro e w1 ⟨rfl, rfl⟩
    go_wp2_with fail
    with_reducible refine (inRange_w _ 1 ((n1 : Int) - c.co) true _ h3).mono ?_
    rintro e w1 ⟨rfl, rfl⟩
    go_wp2_with fail
    with_reducible refine (inRange_w _ 1 ((n2 : Int) - c.ro) false _ h4).mono ?_
    rintro e w1 ⟨rfl, rfl⟩
    go_wp2
    go_ret
    exact ⟨rfl, (by repeat (first | with_reducible exact Below.refl _ _ | with_reducible assumption | with_reducible refine balloc ?_ | (with_reducible refine bset ?_ ?_; rotate_left; ((try dsimp only); omega)) | refine bkeep2 ?_ (by assumption) | with_reducible refine Below.drew ?_))⟩
  cases h5 : rng c.cw 0 30
  · have hbf : false = b := by rw [← hb]; simp [cellB, runB, h5]
    subst hbf
    go_enter Tryz.func94, Tryz.ntmps94
    go_wp2_with fail
    with_reducible refine (inRange_w _ 0 ((n1 : Int) - 1) true _ h1).mono ?_
    rintro e w1 ⟨rfl, rfl⟩
    go_wp2_with fail
    with_reducible refine (inRange_w _ 0 ((n2 : Int) - 1) true _ h2).mono ?_
    rintro e w1 ⟨rfl, rfl⟩
    go_wp2_with fail
    with_reducible refine (inRange_w _ 1 ((n1 : Int) - c.co) true _ h3).mono ?_
    rintro e w1 ⟨rfl, rfl⟩
    go_wp2_with fail
    with_reducible refine (inRange_w _ 1 ((n2 : Int) - c.ro) true _ h4).mono ?_
    rintro e w1 ⟨rfl, rfl⟩
    go_wp2_with fail
    with_reducible refine (inRange_w _ 0 30 false _ h5).mono ?_
    rintro e w1 ⟨rfl, rfl⟩
    go_wp2
    go_ret
    exact ⟨rfl, (by repeat (first | with_reducible exact Below.refl _ _ | with_reducible assumption | with_reducible refine balloc ?_ | (with_reducible refine bset ?_ ?_; rotate_left; ((try dsimp only); omega)) | refine bkeep2 ?_ (by assumption) | with_reducible refine Below.drew ?_))⟩
  cases h6 : rng c.ch 0 30
  · have hbf : false = b := by rw [← hb]; simp [cellB, runB, h6]
    subst hbf
    go_enter Tryz.func94, Tryz.ntmps94
    go_wp2_with fail
    with_reducible refine (inRange_w _ 0 ((n1 : Int) - 1) true _ h1).mono ?_
    rintro e w1 ⟨rfl, rfl⟩
    go_wp2_with fail
    with_reducible refine (inRange_w _ 0 ((n2 : Int) - 1) true _ h2).mono ?_
    rintro e w1 ⟨rfl, rfl⟩
    go_wp2_with fail
    with_reducible refine (inRange_w _ 1 ((n1 : Int) - c.co) true _ h3).mono ?_
    rintro e w1 ⟨rfl, rfl⟩
    go_wp2_with fail
    with_reducible refine (inRange_w _ 1 ((n2 : Int) - c.ro) true _ h4).mono ?_
    rintro e w1 ⟨rfl, rfl⟩
    go_wp2_with fail
    with_reducible refine (inRange_w _ 0 30 true _ h5).mono ?_
    rintro e w1 ⟨rfl, rfl⟩
    go_wp2_with fail
    with_reducible refine (inRange_w _ 0 30 false _ h6).mono ?_
    rintro e w1 ⟨rfl, rfl⟩
    go_wp2
    go_ret
    exact ⟨rfl, (by repeat (first | with_reducible exact Below.refl _ _ | with_reducible assumption | with_reducible refine balloc ?_ | (with_reducible refine bset ?_ ?_; rotate_left; ((try dsimp only); omega)) | refine bkeep2 ?_ (by assumption) | with_reducible refine Below.drew ?_))⟩
  cases h7 : rng c.sk 0 15
  · have hbf : false = b := by rw [← hb]; simp [cellB, runB, h7]
    subst hbf
    go_enter Tryz.func94, Tryz.ntmps94
    go_wp2_with fail
    with_reducible refine (inRange_w _ 0 ((n1 : Int) - 1) true _ h1).mono ?_
    rintro e w1 ⟨rfl, rfl⟩
    go_wp2_with fail
    with_reducible refine (inRange_w _ 0 ((n2 : Int) - 1) true _ h2).mono ?_
    rintro e w1 ⟨rfl, rfl⟩
    go_wp2_with fail
    with_reducible refine (inRange_w _ 1 ((n1 : Int) - c.co) true _ h3).mono ?_
    rintro e w1 ⟨rfl, rfl⟩
    go_wp2_with fail
    with_reducible refine (inRange_w _ 1 ((n2 : Int) - c.ro) true _ h4).mono ?_
    rintro e w1 ⟨rfl, rfl⟩
    go_wp2_with fail
    with_reducible refine (inRange_w _ 0 30 true _ h5).mono ?_
    rintro e w1 ⟨rfl, rfl⟩
    go_wp2_with fail
    with_reducible refine (inRange_w _ 0 30 true _ h6).mono ?_
    rintro e w1 ⟨rfl, rfl⟩
    go_wp2_with fail
    with_reducible refine (inRange_w _ 0 15 false _ h7).mono ?_
    rintro e w1 ⟨rfl, rfl⟩
    go_wp2
    go_ret
    exact ⟨rfl, (by repeat (first | with_reducible exact Below.refl _ _ | with_reducible assumption | with_reducible refine balloc ?_ | (with_reducible refine bset ?_ ?_; rotate_left; ((try dsimp only); omega)) | refine bkeep2 ?_ (by assumption) | with_reducible refine Below.drew ?_))⟩
  cases h8 : rng c.px 0 10
  · have hbf : false = b := by rw [← hb]; simp [cellB, runB, h8]
    subst hbf
    go_enter Tryz.func94, Tryz.ntmps94
    go_wp2_with fail
    with_reducible refine (inRange_w _ 0 ((n1 : Int) - 1) true _ h1).mono ?_
    rintro e w1 ⟨rfl, rfl⟩
    go_wp2_with fail
    with_reducible refine (inRange_w _ 0 ((n2 : Int) - 1) true _ h2).mono ?_
    rintro e w1 ⟨rfl, rfl⟩
    go_wp2_with fail
    with_reducible refine (inRange_w _ 1 ((n1 : Int) - c.co) true _ h3).mono ?_
    rintro e w1 ⟨rfl, rfl⟩
    go_wp2_with fail
    with_reducible refine (inRange_w _ 1 ((n2 : Int) - c.ro) true _ h4).mono ?_
    rintro e w1 ⟨rfl, rfl⟩
    go_wp2_with fail
    with_reducible refine (inRange_w _ 0 30 true _ h5).mono ?_
    rintro e w1 ⟨rfl, rfl⟩
    go_wp2_with fail
    with_reducible refine (inRange_w _ 0 30 true _ h6).mono ?_
    rintro e w1 ⟨rfl, rfl⟩
    go_wp2_with fail
    with_reducible refine (inRange_w _ 0 15 true _ h7).mono ?_
    rintro e w1 ⟨rfl, rfl⟩
    go_wp2_with fail
    with_reducible refine (inRange_w _ 0 10 false _ h8).mono ?_
    rintro e w1 ⟨rfl, rfl⟩
    go_wp2
    go_ret
    exact ⟨rfl, (by repeat (first | with_reducible exact Below.refl _ _ | with_reducible assumption | with_reducible refine balloc ?_ | (with_reducible refine bset ?_ ?_; rotate_left; ((try dsimp only); omega)) | refine bkeep2 ?_ (by assumption) | with_reducible refine Below.drew ?_))⟩
  have h9 : rng c.py 0 10 = b := by rw [← hb]; simp [cellB, runB, h1, h2, h3, h4, h5, h6, h7, h8]
  cases b
  all_goals
    go_enter Tryz.func94, Tryz.ntmps94
    go_wp2_with fail
    with_reducible refine (inRange_w _ 0 ((n1 : Int) - 1) true _ h1).mono ?_
    rintro e w1 ⟨rfl, rfl⟩
    go_wp2_with fail
    with_reducible refine (inRange_w _ 0 ((n2 : Int) - 1) true _ h2).mono ?_
    rintro e w1 ⟨rfl, rfl⟩
    go_wp2_with fail
    with_reducible refine (inRange_w _ 1 ((n1 : Int) - c.co) true _ h3).mono ?_
    rintro e w1 ⟨rfl, rfl⟩
    go_wp2_with fail
    with_reducible refine (inRange_w _ 1 ((n2 : Int) - c.ro) true _ h4).mono ?_
    rintro e w1 ⟨rfl, rfl⟩
    go_wp2_with fail
    with_reducible refine (inRange_w _ 0 30 true _ h5).mono ?_
    rintro e w1 ⟨rfl, rfl⟩
    go_wp2_with fail
    with_reducible refine (inRange_w _ 0 30 true _ h6).mono ?_
    rintro e w1 ⟨rfl, rfl⟩
    go_wp2_with fail
    with_reducible refine (inRange_w _ 0 15 true _ h7).mono ?_
    rintro e w1 ⟨rfl, rfl⟩
    go_wp2_with fail
    with_reducible refine (inRange_w _ 0 10 true _ h8).mono ?_
    rintro e w1 ⟨rfl, rfl⟩
    go_wp2_with fail
    with_reducible refine (inRange_w _ 0 10 _ _ h9).mono ?_
    rintro e w1 ⟨rfl, rfl⟩
    go_wp2
    go_ret
    exact ⟨rfl, (by repeat (first | with_reducible exact Below.refl _ _ | with_reducible assumption | with_reducible refine balloc ?_ | (with_reducible refine bset ?_ ?_; rotate_left; ((try dsimp only); omega)) | refine bkeep2 ?_ (by assumption) | with_reducible refine Below.drew ?_))⟩
end Go.Proofs.YtgdkionmeacalabGreat
end
section
namespace Go.Proofs.YtgdkionmeacalabGreat
open Go.RowKit
set_option linter.unusedVariables false
set_option maxHeartbeats 1000000
attribute [local go_sem] growUpon_value growUpon_skip growUpon_enter
def acM (c : Ce) : Sp := ⟨c.co, c.mc, c.cw + 2 * c.px⟩
def dnM (c : Ce) : Sp := ⟨c.ro, c.mr, c.ch + 2 * c.py⟩
def smC (c : Ce) : Prop := (0 ≤ c.cw ∧ c.cw ≤ 30) ∧ (0 ≤ c.ch ∧ c.ch ≤ 30) ∧ (0 ≤ c.px ∧ c.px ≤ 10) ∧ (0 ≤ c.py ∧ c.py ≤ 10)
def smW (c : Ce) : Prop := (0 ≤ c.cw ∧ c.cw ≤ 1000000000000) ∧ (0 ≤ c.ch ∧ c.ch ≤ 1000000000000) ∧ (0 ≤ c.px ∧ c.px ≤ 10) ∧ (0 ≤ c.py ∧ c.py ≤ 10)
theorem smC.w {c : Ce} (h : smC c) : smW c := by unfold smC at h; unfold smW; omega
set_option maxRecDepth 100000 in
theorem across_e (p : Ce) (w : World) (h : smW p) : Calls Tryz.prog 147 #[.agg #[.int .i64 p.co, .int .i64 p.ro, .int .i64 p.mc, .int .i64 p.mr, .int .i64 p.cw, .int .i64 p.ch, .int .i64 p.sk, .int .i64 p.px, .int .i64 p.py]] w fun e w' => e = .returned (.agg #[.int .i64 p.co, .int .i64 p.mc, .int .i64 (p.cw + 2 * p.px)]) ∧ Below w.heap.size w w' := by
  obtain ⟨⟨b1, b2⟩, ⟨b3, b4⟩, ⟨b5, b6⟩, ⟨b7, b8⟩⟩ := h
  go_enter Tryz.func147, Tryz.ntmps147
  go_wp2
  exact bodyPost_ret (v := .agg #[.int .i64 p.co, .int .i64 p.mc, .int .i64 (p.cw + 2 * p.px)]) (by simp only [results, Tryz.results147]; go_simp) rfl ⟨rfl, (by repeat (first | with_reducible exact Below.refl _ _ | with_reducible assumption | with_reducible refine balloc ?_ | (with_reducible refine bset ?_ ?_; rotate_left; ((try dsimp only); omega)) | refine bkeep2 ?_ (by assumption) | with_reducible refine Below.drew ?_))⟩
set_option maxRecDepth 100000 in
theorem across_v (p : Ce) (w : World) (h : smW p) : Calls Tryz.prog 147 #[.agg #[.int .i64 p.co, .int .i64 p.ro, .int .i64 p.mc, .int .i64 p.mr, .int .i64 p.cw, .int .i64 p.ch, .int .i64 p.sk, .int .i64 p.px, .int .i64 p.py]] w fun e w' => e = .returned (.agg #[.int .i64 (acM p).sa, .int .i64 (acM p).many, .int .i64 (acM p).need]) ∧ Below w.heap.size w w' := across_e p w h
set_option maxRecDepth 100000 in
theorem each_acrossW (A : Option Addr) (c : Nat) (L : List Ce) (w : World) (h : CeV w A L) (hL : L.length ≤ 1048576) (hsm : ∀ p ∈ L, smW p) :
    Calls Tryz.prog 160 #[.slice A L.length c, .func (.func 147) #[] #[]] w fun e w' => e = .returned (.slice (some ⟨w.heap.size, 0, none⟩) L.length L.length) ∧ SpB w' w.heap.size (L.map acM) ∧ Below w.heap.size w w' := by
  obtain ⟨f, hf, hmk0⟩ := madeSp
  have hmk : ∀ w : World, (Instr.makeSlice 118 (.int .i64 (L.length : Int)) (.int .i64 (L.length : Int))).run Tryz.prog w = .ok (.slice (some ⟨w.heap.size, 0, none⟩) L.length L.length) (w.alloc (.cells (f L.length) 152)) := fun w => hmk0 L.length w hL
  have HSM := Lib.hid hsm
  go_enter Tryz.func160, Tryz.ntmps160
  go_wp2_with fail
  have HWW : Hid (∃ cs : Array Value, (w.alloc (.cells (f L.length) 152)).heap[w.heap.size]? = some (.cells cs 152 (0, 0)) ∧ cs.size = L.length * 3 ∧ ∀ i p, i < 0 → (L.map acM)[i]? = some p → InS cs (i * 3) (valsSp p)) := Lib.hid ⟨_, newS _ _, hf _, fun i p hi => absurd hi (by omega)⟩
  clear hmk hmk0 hf hsm
  go_loopw [13] (fun i wr => ∃ k : Nat, k ≤ L.length ∧ i = .int .i64 k ∧ (∃ cs : Array Value, wr.heap[w.heap.size]? = some (.cells cs 152 (0, 0)) ∧ cs.size = L.length * 3 ∧ ∀ i p, i < k → (L.map acM)[i]? = some p → InS cs (i * 3) (valsSp p)) ∧ Below w.heap.size w wr) (fun i _ => L.length - (intOf i).toNat)
  case atStart => exact ⟨0, by omega, rfl, HWW.out, balloc (Below.refl _ _)⟩
  case round =>
    obtain ⟨k, hk, rfl, ⟨cs, hh, hs, hc⟩, hB⟩ := hrel
    clear HWW
    by_cases hlt : k < L.length
    · have hd : decide ((k : Int) < (L.length : Int)) = true := by simpa using hlt
      obtain ⟨b, off, rfl, hb, hp⟩ := (h.keep hB).cells (by omega)
      have hget : L[k]? = some L[k] := List.getElem?_eq_getElem hlt
      obtain ⟨c0, c1, c2, c3, c4, c5, c6, c7, c8⟩ := hp k _ hget
      have hsk : smW L[k] := HSM.out _ (List.getElem_mem hlt)
      generalize hx : L[k] = p at *
      have HG := Lib.hid (show (L.map acM)[k]? = some (acM p) by rw [List.getElem?_map, hget]; rfl)
      have HH := Lib.hid hh
      have HS := Lib.hid hs
      have HC := Lib.hid hc
      have HBB := Lib.hid hB
      have HK := Lib.hid hsk
      clear hget hx hh hs hc hB hp hsk
      go_wp2_with fail
      refine (across_v p _ HK.out).mono ?_
      rintro e w1 ⟨rfl, hb1⟩
      have hlg : w.heap.size < wr.heap.size := ltS HH.out
      have hb01 := bkeep2 (balloc (Below.refl wr.heap.size wr)) hb1
      replace HH := Lib.hid ((hb01.block _ hlg).trans HH.out)
      replace HBB := Lib.hid (HBB.out.trans (hb01.mono HBB.out.size))
      clear hb1 hb01 c0 c1 c2 c3 c4 c5 c6 c7 c8 hlg
      have hsz : k * 3 + 3 ≤ cs.size := by rw [HS.out]; omega
      obtain ⟨y0, d0⟩ := thereS HH.out (i := k * 3) (by omega)
      obtain ⟨y1, d1⟩ := thereS HH.out (i := k * 3 + 1) (by omega)
      obtain ⟨y2, d2⟩ := thereS HH.out (i := k * 3 + 2) (by omega)
      have f0 := frozenS HH.out (k * 3)
      have f1 := frozenS HH.out (k * 3 + 1)
      have f2 := frozenS HH.out (k * 3 + 2)
      have E1 := Lib.hid (putSp HH.out (k * 3) (acM p))
      have E2 := Lib.hid (putSpb HBB.out (Nat.le_refl _) (k * 3) (acM p))
      go_wp2
      go_roundw
      case rel => exact ⟨k + 1, by omega, by go_num, ⟨_, E1.out, (wrAt_size _ _ _).trans HS.out, fun i q hi hq => by
        by_cases e : i = k
        · subst e
          obtain rfl : (acM p) = q := by have := HG.out; rw [this] at hq; exact Option.some.inj hq
          exact InS.write (by simp only [valsSp, List.length_cons, List.length_nil]; omega)
        · exact (HC.out i q (by omega) hq).keepS (.inl (by simp only [valsSp, List.length_cons, List.length_nil]; omega))⟩, E2.out⟩
      case measure => simp [intOf]; omega
    · have hd : decide ((k : Int) < (L.length : Int)) = false := decide_eq_false (by omega)
      obtain rfl : k = L.length := by omega
      have HR := Lib.hid (show SpB wr w.heap.size (L.map acM) from ⟨cs, hh, by rw [List.length_map]; exact hs, fun i p hp => hc i p (by have := (List.getElem?_eq_some_iff.1 hp).1; rwa [List.length_map] at this) hp⟩)
      have HBB := Lib.hid hB
      clear hh hs hc hB
      go_wp2
      go_ret
      exact ⟨rfl, HR.out, HBB.out⟩
set_option maxRecDepth 100000 in
theorem down_e (p : Ce) (w : World) (h : smW p) : Calls Tryz.prog 161 #[.agg #[.int .i64 p.co, .int .i64 p.ro, .int .i64 p.mc, .int .i64 p.mr, .int .i64 p.cw, .int .i64 p.ch, .int .i64 p.sk, .int .i64 p.px, .int .i64 p.py]] w fun e w' => e = .returned (.agg #[.int .i64 p.ro, .int .i64 p.mr, .int .i64 (p.ch + 2 * p.py)]) ∧ Below w.heap.size w w' := by
  obtain ⟨⟨b1, b2⟩, ⟨b3, b4⟩, ⟨b5, b6⟩, ⟨b7, b8⟩⟩ := h
  go_enter Tryz.func161, Tryz.ntmps161
  go_wp2
  exact bodyPost_ret (v := .agg #[.int .i64 p.ro, .int .i64 p.mr, .int .i64 (p.ch + 2 * p.py)]) (by simp only [results, Tryz.results161]; go_simp) rfl ⟨rfl, (by repeat (first | with_reducible exact Below.refl _ _ | with_reducible assumption | with_reducible refine balloc ?_ | (with_reducible refine bset ?_ ?_; rotate_left; ((try dsimp only); omega)) | refine bkeep2 ?_ (by assumption) | with_reducible refine Below.drew ?_))⟩
set_option maxRecDepth 100000 in
theorem down_v (p : Ce) (w : World) (h : smW p) : Calls Tryz.prog 161 #[.agg #[.int .i64 p.co, .int .i64 p.ro, .int .i64 p.mc, .int .i64 p.mr, .int .i64 p.cw, .int .i64 p.ch, .int .i64 p.sk, .int .i64 p.px, .int .i64 p.py]] w fun e w' => e = .returned (.agg #[.int .i64 (dnM p).sa, .int .i64 (dnM p).many, .int .i64 (dnM p).need]) ∧ Below w.heap.size w w' := down_e p w h
set_option maxRecDepth 100000 in
theorem each_downW (A : Option Addr) (c : Nat) (L : List Ce) (w : World) (h : CeV w A L) (hL : L.length ≤ 1048576) (hsm : ∀ p ∈ L, smW p) :
    Calls Tryz.prog 160 #[.slice A L.length c, .func (.func 161) #[] #[]] w fun e w' => e = .returned (.slice (some ⟨w.heap.size, 0, none⟩) L.length L.length) ∧ SpB w' w.heap.size (L.map dnM) ∧ Below w.heap.size w w' := by
  obtain ⟨f, hf, hmk0⟩ := madeSp
  have hmk : ∀ w : World, (Instr.makeSlice 118 (.int .i64 (L.length : Int)) (.int .i64 (L.length : Int))).run Tryz.prog w = .ok (.slice (some ⟨w.heap.size, 0, none⟩) L.length L.length) (w.alloc (.cells (f L.length) 152)) := fun w => hmk0 L.length w hL
  have HSM := Lib.hid hsm
  go_enter Tryz.func160, Tryz.ntmps160
  go_wp2_with fail
  have HWW : Hid (∃ cs : Array Value, (w.alloc (.cells (f L.length) 152)).heap[w.heap.size]? = some (.cells cs 152 (0, 0)) ∧ cs.size = L.length * 3 ∧ ∀ i p, i < 0 → (L.map dnM)[i]? = some p → InS cs (i * 3) (valsSp p)) := Lib.hid ⟨_, newS _ _, hf _, fun i p hi => absurd hi (by omega)⟩
  clear hmk hmk0 hf hsm
  go_loopw [13] (fun i wr => ∃ k : Nat, k ≤ L.length ∧ i = .int .i64 k ∧ (∃ cs : Array Value, wr.heap[w.heap.size]? = some (.cells cs 152 (0, 0)) ∧ cs.size = L.length * 3 ∧ ∀ i p, i < k → (L.map dnM)[i]? = some p → InS cs (i * 3) (valsSp p)) ∧ Below w.heap.size w wr) (fun i _ => L.length - (intOf i).toNat)
  case atStart => exact ⟨0, by omega, rfl, HWW.out, balloc (Below.refl _ _)⟩
  case round =>
    obtain ⟨k, hk, rfl, ⟨cs, hh, hs, hc⟩, hB⟩ := hrel
    clear HWW
    by_cases hlt : k < L.length
    · have hd : decide ((k : Int) < (L.length : Int)) = true := by simpa using hlt
      obtain ⟨b, off, rfl, hb, hp⟩ := (h.keep hB).cells (by omega)
      have hget : L[k]? = some L[k] := List.getElem?_eq_getElem hlt
      obtain ⟨c0, c1, c2, c3, c4, c5, c6, c7, c8⟩ := hp k _ hget
      have hsk : smW L[k] := HSM.out _ (List.getElem_mem hlt)
      generalize hx : L[k] = p at *
      have HG := Lib.hid (show (L.map dnM)[k]? = some (dnM p) by rw [List.getElem?_map, hget]; rfl)
      have HH := Lib.hid hh
      have HS := Lib.hid hs
      have HC := Lib.hid hc
      have HBB := Lib.hid hB
      have HK := Lib.hid hsk
      clear hget hx hh hs hc hB hp hsk
      go_wp2_with fail
      refine (down_v p _ HK.out).mono ?_
      rintro e w1 ⟨rfl, hb1⟩
      have hlg : w.heap.size < wr.heap.size := ltS HH.out
      have hb01 := bkeep2 (balloc (Below.refl wr.heap.size wr)) hb1
      replace HH := Lib.hid ((hb01.block _ hlg).trans HH.out)
      replace HBB := Lib.hid (HBB.out.trans (hb01.mono HBB.out.size))
      clear hb1 hb01 c0 c1 c2 c3 c4 c5 c6 c7 c8 hlg
      have hsz : k * 3 + 3 ≤ cs.size := by rw [HS.out]; omega
      obtain ⟨y0, d0⟩ := thereS HH.out (i := k * 3) (by omega)
      obtain ⟨y1, d1⟩ := thereS HH.out (i := k * 3 + 1) (by omega)
      obtain ⟨y2, d2⟩ := thereS HH.out (i := k * 3 + 2) (by omega)
      have f0 := frozenS HH.out (k * 3)
      have f1 := frozenS HH.out (k * 3 + 1)
      have f2 := frozenS HH.out (k * 3 + 2)
      have E1 := Lib.hid (putSp HH.out (k * 3) (dnM p))
      have E2 := Lib.hid (putSpb HBB.out (Nat.le_refl _) (k * 3) (dnM p))
      go_wp2
      go_roundw
      case rel => exact ⟨k + 1, by omega, by go_num, ⟨_, E1.out, (wrAt_size _ _ _).trans HS.out, fun i q hi hq => by
        by_cases e : i = k
        · subst e
          obtain rfl : (dnM p) = q := by have := HG.out; rw [this] at hq; exact Option.some.inj hq
          exact InS.write (by simp only [valsSp, List.length_cons, List.length_nil]; omega)
        · exact (HC.out i q (by omega) hq).keepS (.inl (by simp only [valsSp, List.length_cons, List.length_nil]; omega))⟩, E2.out⟩
      case measure => simp [intOf]; omega
    · have hd : decide ((k : Int) < (L.length : Int)) = false := decide_eq_false (by omega)
      obtain rfl : k = L.length := by omega
      have HR := Lib.hid (show SpB wr w.heap.size (L.map dnM) from ⟨cs, hh, by rw [List.length_map]; exact hs, fun i p hp => hc i p (by have := (List.getElem?_eq_some_iff.1 hp).1; rwa [List.length_map] at this) hp⟩)
      have HBB := Lib.hid hB
      clear hh hs hc hB
      go_wp2
      go_ret
      exact ⟨rfl, HR.out, HBB.out⟩
end Go.Proofs.YtgdkionmeacalabGreat
end
section
namespace Go.Proofs.YtgdkionmeacalabGreat
open Go.RowKit
set_option linter.unusedVariables false
set_option maxHeartbeats 1000000
attribute [local go_sem] growUpon_value growUpon_skip growUpon_enter
theorem gsetI {w w' : World} {g : Nat} (h : w.grownBy w' (some g)) (o : Nat) (v : Value) : w.grownBy (w'.setCell ⟨g, o, none⟩ v) (some g) :=
  ⟨h.os, h.tape, h.output, by simpa [World.setCell] using h.size, fun k hk hne => (Below.heap_setCell w' ⟨g, o, none⟩ v k (by rintro rfl; exact hne rfl)).trans (h.block k hk hne)⟩
theorem greflI (w : World) (g : Nat) : w.grownBy w (some g) := ⟨rfl, rfl, rfl, Nat.le_refl _, fun _ _ _ => rfl⟩
/-- the value reads as the list -/
def NR (w : World) (v : Value) (L : List Int) : Prop := ∃ A c, v = .slice A L.length c ∧ NV w A L
theorem NR.keep {w w' : World} {v : Value} {L : List Int} (h : NR w v L) (hb : Below w.heap.size w w') : NR w' v L := let ⟨A, c, e, n⟩ := h; ⟨A, c, e, n.keep hb⟩
theorem IB.nr {w : World} {g n : Nat} {L : List Int} (h : IB w g L) (hn : n = L.length) (m : Nat) : NR w (.slice (some ⟨g, 0, none⟩) n m) L := ⟨_, m, by rw [hn], h.nv⟩
theorem IB.but {w w' : World} {g h : Nat} {L : List Int} (hi : IB w h L) (hg : w.grownBy w' (some g)) (hne : h ≠ g) : IB w' h L := (hg.block h hi.lt (fun e => hne (Option.some.inj e))).trans hi
/-- a list in a block that was made from lo on, or none -/
def GI (lo : Nat) (w : World) (v : Value) (L : List Int) : Prop := (v = .slice none 0 0 ∧ L = []) ∨ ∃ g n, v = .slice (some ⟨g, 0, none⟩) n n ∧ n = L.length ∧ lo ≤ g ∧ IB w g L
theorem GI.nr {lo : Nat} {w : World} {v : Value} {L : List Int} (h : GI lo w v L) : NR w v L := by
  rcases h with ⟨rfl, rfl⟩ | ⟨g, n, rfl, hn, _, hk⟩
  · exact ⟨none, 0, rfl, NV.nil _ _⟩
  · exact hk.nr hn n
theorem GI.keep {lo : Nat} {w w' : World} {v : Value} {L : List Int} (h : GI lo w v L) (hb : Below w.heap.size w w') : GI lo w' v L := h.imp id fun ⟨g, n, h1, h2, h3, hk⟩ => ⟨g, n, h1, h2, h3, hk.keep hb⟩
theorem GI.but {lo g0 : Nat} {w w' : World} {v : Value} {L : List Int} (h : GI lo w v L) (hb : w.grownBy w' (some g0)) (hg : g0 < lo) : GI lo w' v L := h.imp id fun ⟨g, n, h1, h2, h3, hk⟩ => ⟨g, n, h1, h2, h3, hk.but hb (by omega)⟩
def MKI (n : Nat) : List Int := (List.range n).map (fun i : Nat => (i : Int) + 1)
def GIM (w : World) (v : Value) (n : Nat) : Prop := (v = .slice none 0 0 ∧ n = 0) ∨ ∃ g, v = .slice (some ⟨g, 0, none⟩) n n ∧ IB w g (MKI n)
theorem GIM.keep {w w' : World} {v : Value} {n : Nat} (h : GIM w v n) (hb : Below w.heap.size w w') : GIM w' v n := h.imp id fun ⟨g, h1, hk⟩ => ⟨g, h1, hk.keep hb⟩
end Go.Proofs.YtgdkionmeacalabGreat
end
section
namespace Go.Proofs.YtgdkionmeacalabGreat
set_option linter.unusedVariables false
theorem ones_get : ∀ {m : Int} {ws bs : List Int} {k : Nat} {x b : Int}, ws[k]? = some x → bs[k]? = some b → ∃ y, (onesM m ws bs)[k]? = some y ∧ (y = b ∨ (y = b + 1 ∧ 0 < x))
  | m, [], bs, k, x, b, hx, _ => by simp at hx
  | m, z :: ws, [], k, x, b, _, hb => by simp at hb
  | m, z :: ws, c :: bs, 0, x, b, hx, hb => by
    simp at hx hb
    subst hx hb
    unfold onesM
    split
    · rename_i h; exact ⟨_, rfl, .inr ⟨rfl, h.1⟩⟩
    · exact ⟨_, rfl, .inl rfl⟩
  | m, z :: ws, c :: bs, k + 1, x, b, hx, hb => by
    simp at hx hb
    unfold onesM
    split
    · simpa using ones_get (m := m - 1) hx hb
    · simpa using ones_get (m := m) hx hb
theorem ones_sum : ∀ {m : Int} {ws bs : List Int}, ws.length = bs.length → 0 ≤ m → m ≤ cntP ws → sumI (onesM m ws bs) = sumI bs + m
  | m, [], [], _, h0, h1 => by simp [cntP] at h1; simp [onesM, sumI]; omega
  | m, [], b :: bs, h, _, _ => by simp at h
  | m, x :: ws, [], h, _, _ => by simp at h
  | m, x :: ws, b :: bs, h, h0, h1 => by
    have hl : ws.length = bs.length := by simpa using h
    simp only [cntP] at h1
    have hc := (cntP_bd ws).1
    unfold onesM
    split
    · rename_i hp
      rw [if_pos hp.1] at h1
      have ih := ones_sum (m := m - 1) hl (by omega) (by omega)
      simp only [sumI, ih]; omega
    · rename_i hp
      by_cases hx : 0 < x
      · have hm : m = 0 := by
          by_cases hm : 0 < m
          · exact absurd ⟨hx, hm⟩ hp
          · omega
        subst hm
        have ih := ones_sum (m := 0) hl (by omega) hc
        simp only [sumI, ih]; omega
      · rw [if_neg hx] at h1
        have ih := ones_sum (m := m) hl h0 (by omega)
        simp only [sumI, ih]; omega
theorem sum_replicate : ∀ k : Nat, sumI (List.replicate k 0) = 0
  | 0 => rfl
  | k + 1 => by rw [List.replicate_succ]; simp [sumI, sum_replicate k]
theorem spread_sum {n : Int} {ws : List Int} (hn : 0 ≤ n) (h : wsOK ws) : sumI (spreadM n ws) = n := by
  unfold spreadM
  split
  · obtain ⟨j, hj⟩ : ∃ j, ws.length = j + 1 := ⟨ws.length - 1, by have := h.2.1; omega⟩
    have e : ws.length - 1 = j := by omega
    rw [e, hj, List.replicate_succ', List.set_append_right _ _ (by simp)]
    simp [sumI_append, sum_replicate, sumI]
  · rename_i hS
    obtain ⟨m0, m1⟩ := miss_bd hn h.nn hS
    rw [ones_sum (by rw [baseM_len]) m0 m1]
    omega
/-- each part: at least 0; with weights, as near to n times its weight as can be -/
theorem spread_get {n : Int} {ws : List Int} {k : Nat} {x : Int} (hn : 0 ≤ n) (h : wsOK ws) (hx : ws[k]? = some x) : ∃ y, (spreadM n ws)[k]? = some y ∧ 0 ≤ y ∧ y ≤ n ∧
    (0 < sumI ws → (x = 0 → y = 0) ∧ y * sumI ws ≤ n * x + sumI ws ∧ n * x - sumI ws ≤ y * sumI ws) := by
  obtain ⟨hk, e⟩ := List.getElem?_eq_some_iff.1 hx
  have hxm : x ∈ ws := List.mem_of_getElem? hx
  have hx0 := h.nn x hxm
  have hxs := mem_le_sum h.nn x hxm
  have hs0 := h.sum
  by_cases hS : sumI ws = 0
  · have hl := spreadM_len (n := n) (ws := ws)
    refine ⟨(spreadM n ws)[k]'(by omega), List.getElem?_eq_getElem (by omega), ?_, ?_, fun h0 => by omega⟩
    · have e1 : (spreadM n ws) = (List.replicate ws.length 0).set (ws.length - 1) n := by unfold spreadM; rw [if_pos hS]
      simp only [e1, List.getElem_set, List.getElem_replicate]
      split <;> omega
    · have e1 : (spreadM n ws) = (List.replicate ws.length 0).set (ws.length - 1) n := by unfold spreadM; rw [if_pos hS]
      simp only [e1, List.getElem_set, List.getElem_replicate]
      split <;> omega
  · have hSp : 0 < sumI ws := by omega
    have hsum := spread_sum hn h
    have hb := base_get (n := n) (S := sumI ws) hx
    obtain ⟨b0, b1⟩ := base_bd hn hSp hx0 hxs
    obtain ⟨y, hy, hyb⟩ := ones_get (m := n - sumI (baseM n (sumI ws) ws)) hx hb
    have e1 : spreadM n ws = onesM (n - sumI (baseM n (sumI ws) ws)) ws (baseM n (sumI ws) ws) := by unfold spreadM; rw [if_neg hS]
    rw [← e1] at hy
    have hnn : ∀ z ∈ spreadM n ws, 0 ≤ z := fun z hz => by
      obtain ⟨i, hi, ez⟩ := List.mem_iff_getElem.1 hz
      have hl := spreadM_len (n := n) (ws := ws)
      have hi' : i < ws.length := by omega
      have hxi := List.getElem?_eq_getElem hi'
      obtain ⟨y', hy', hyb'⟩ := ones_get (m := n - sumI (baseM n (sumI ws) ws)) hxi (base_get (n := n) (S := sumI ws) hxi)
      rw [← e1, List.getElem?_eq_getElem hi, ez] at hy'
      obtain rfl := Option.some.inj hy'
      have := (base_bd hn hSp (h.nn _ (List.getElem_mem hi')) (mem_le_sum h.nn _ (List.getElem_mem hi'))).1
      omega
    have hyn := mem_le_sum hnn y (List.mem_of_getElem? hy)
    rw [hsum] at hyn
    have em := Int.mul_ediv_add_emod (n * x) (sumI ws)
    have r0 := Int.emod_nonneg (n * x) hS
    have r1 := Int.emod_lt_of_pos (n * x) hSp
    refine ⟨y, hy, by omega, hyn, fun _ => ⟨fun hx00 => ?_, ?_, ?_⟩⟩
    · subst hx00
      rcases hyb with rfl | ⟨_, h0⟩
      · simp
      · omega
    · generalize n * x / sumI ws = q at *
      generalize (n * x) % sumI ws = r at *
      generalize sumI ws = S at *
      rcases hyb with rfl | ⟨rfl, _⟩
      · rw [Int.mul_comm y S]; omega
      · rw [Int.add_mul, Int.one_mul, Int.mul_comm q S]; omega
    · generalize n * x / sumI ws = q at *
      generalize (n * x) % sumI ws = r at *
      generalize sumI ws = S at *
      rcases hyb with rfl | ⟨rfl, _⟩
      · rw [Int.mul_comm y S]; omega
      · rw [Int.add_mul, Int.one_mul, Int.mul_comm q S]; omega
end Go.Proofs.YtgdkionmeacalabGreat
end
section
namespace Go.Proofs.YtgdkionmeacalabGreat
open Go.RowKit
set_option linter.unusedVariables false
set_option maxHeartbeats 1000000
attribute [local go_sem 5000] run_mx run_mn
theorem least_v (l : Ln) (w : World) : Calls Tryz.prog 172 #[.agg #[.int .i64 l.wt, .int .i64 l.mi]] w fun e w' => e = .returned (.int .i64 l.mi) ∧ Below w.heap.size w w' := by
  go_enter Tryz.func172, Tryz.ntmps172
  go_wp2
  go_ret
  exact ⟨rfl, balloc (Below.refl _ _)⟩
set_option maxRecDepth 100000 in
theorem each_least (A : Option Addr) (c : Nat) (L : List Ln) (w : World) (h : LnV w A L) (hL : L.length ≤ 1048576) :
    Calls Tryz.prog 168 #[.slice A L.length c, .func (.func 172) #[] #[]] w fun e w' => e = .returned (.slice (some ⟨w.heap.size, 0, none⟩) L.length L.length) ∧ IB w' w.heap.size (L.map Ln.mi) ∧ Below w.heap.size w w' := by
  have hmk : ∀ w : World, (Instr.makeSlice 42 (.int .i64 (L.length : Int)) (.int .i64 (L.length : Int))).run Tryz.prog w = .ok (.slice (some ⟨w.heap.size, 0, none⟩) L.length L.length) (w.alloc (.cells (ivals (List.replicate L.length 0)) 3)) := fun w => madeI L.length w hL
  go_enter Tryz.func168, Tryz.ntmps168
  go_wp2_with fail
  have hlm : (L.map Ln.mi).length = L.length := by simp
  have hI0 := makeI_b L.length w
  have hB0 : Below w.heap.size w (w.alloc (.cells (ivals (List.replicate L.length 0)) 3)) := balloc (Below.refl _ _)
  have hI1 : IB (w.alloc (.cells (ivals (List.replicate L.length 0)) 3)) w.heap.size (mixM (L.map Ln.mi) 0) := by rw [mixM_zero, hlm]; exact hI0
  have HI0 := Lib.hid hI1
  have HB0 := Lib.hid hB0
  have HLM := Lib.hid hlm
  clear hmk hI0 hB0 hI1 hlm
  go_loopw [13] (fun i wr => ∃ k : Nat, k ≤ L.length ∧ i = .int .i64 k ∧ IB wr w.heap.size (mixM (L.map Ln.mi) k) ∧ Below w.heap.size w wr) (fun i _ => L.length - (intOf i).toNat)
  case atStart => exact ⟨0, by omega, rfl, HI0.out, HB0.out⟩
  case round =>
    obtain ⟨k, hk, rfl, hI, hBr⟩ := hrel
    clear HI0 HB0
    by_cases hlt : k < L.length
    · have hd : decide ((k : Int) < (L.length : Int)) = true := by simpa using hlt
      obtain ⟨b, off, rfl, hb, hp⟩ := (h.keep hBr).cells (by omega)
      have hget : L[k]? = some L[k] := List.getElem?_eq_getElem hlt
      obtain ⟨c0, c1⟩ := hp k _ hget
      have hgm : (L.map Ln.mi)[k]? = some L[k].mi := by rw [List.getElem?_map, hget]; rfl
      generalize hx : L[k] = x at *
      have HI := Lib.hid hI
      have HBR := Lib.hid hBr
      have HGM := Lib.hid hgm
      clear hI hBr hp hget hx hgm
      go_wp2_with fail
      refine (least_v x _).mono ?_
      rintro e w1 ⟨rfl, hb1⟩
      have hb01 := (bkeep2 (balloc (Below.refl wr.heap.size wr)) hb1)
      replace HI := Lib.hid (HI.out.keep hb01)
      replace HBR := Lib.hid (HBR.out.trans (hb01.mono HBR.out.size))
      clear hb1 hb01 c0 c1
      obtain ⟨y, hy⟩ := mixM_get (B := L.map Ln.mi) (k := k) (by rw [HLM.out]; exact hlt)
      have d0 := HI.out.cell hy
      have f0 := HI.out.frozen k
      have hI2 := HI.out.set k x.mi
      rw [mixM_set HGM.out] at hI2
      have HI2 := Lib.hid hI2
      have HB2 := Lib.hid (HBR.out.setCell (p := ⟨w.heap.size, k, none⟩) (Nat.le_refl _) (.int .i64 x.mi))
      clear hI2 hy HI HBR
      go_wp2
      go_roundw
      case rel => exact ⟨k + 1, by omega, by go_num, HI2.out, HB2.out⟩
      case measure => simp [intOf]; omega
    · have hd : decide ((k : Int) < (L.length : Int)) = false := decide_eq_false (by omega)
      obtain rfl : k = L.length := by omega
      rw [← HLM.out, mixM_all] at hI
      have HI2 := Lib.hid hI
      have HB2 := Lib.hid hBr
      clear hI hBr
      go_wp2
      go_ret
      exact ⟨rfl, HI2.out, HB2.out⟩
theorem weight_v (l : Ln) (w : World) : Calls Tryz.prog 169 #[.agg #[.int .i64 l.wt, .int .i64 l.mi]] w fun e w' => e = .returned (.int .i64 l.wt) ∧ Below w.heap.size w w' := by
  go_enter Tryz.func169, Tryz.ntmps169
  go_wp2
  go_ret
  exact ⟨rfl, balloc (Below.refl _ _)⟩
set_option maxRecDepth 100000 in
theorem each_weight (A : Option Addr) (c : Nat) (L : List Ln) (w : World) (h : LnV w A L) (hL : L.length ≤ 1048576) :
    Calls Tryz.prog 168 #[.slice A L.length c, .func (.func 169) #[] #[]] w fun e w' => e = .returned (.slice (some ⟨w.heap.size, 0, none⟩) L.length L.length) ∧ IB w' w.heap.size (L.map Ln.wt) ∧ Below w.heap.size w w' := by
  have hmk : ∀ w : World, (Instr.makeSlice 42 (.int .i64 (L.length : Int)) (.int .i64 (L.length : Int))).run Tryz.prog w = .ok (.slice (some ⟨w.heap.size, 0, none⟩) L.length L.length) (w.alloc (.cells (ivals (List.replicate L.length 0)) 3)) := fun w => madeI L.length w hL
  go_enter Tryz.func168, Tryz.ntmps168
  go_wp2_with fail
  have hlm : (L.map Ln.wt).length = L.length := by simp
  have hI0 := makeI_b L.length w
  have hB0 : Below w.heap.size w (w.alloc (.cells (ivals (List.replicate L.length 0)) 3)) := balloc (Below.refl _ _)
  have hI1 : IB (w.alloc (.cells (ivals (List.replicate L.length 0)) 3)) w.heap.size (mixM (L.map Ln.wt) 0) := by rw [mixM_zero, hlm]; exact hI0
  have HI0 := Lib.hid hI1
  have HB0 := Lib.hid hB0
  have HLM := Lib.hid hlm
  clear hmk hI0 hB0 hI1 hlm
  go_loopw [13] (fun i wr => ∃ k : Nat, k ≤ L.length ∧ i = .int .i64 k ∧ IB wr w.heap.size (mixM (L.map Ln.wt) k) ∧ Below w.heap.size w wr) (fun i _ => L.length - (intOf i).toNat)
  case atStart => exact ⟨0, by omega, rfl, HI0.out, HB0.out⟩
  case round =>
    obtain ⟨k, hk, rfl, hI, hBr⟩ := hrel
    clear HI0 HB0
    by_cases hlt : k < L.length
    · have hd : decide ((k : Int) < (L.length : Int)) = true := by simpa using hlt
      obtain ⟨b, off, rfl, hb, hp⟩ := (h.keep hBr).cells (by omega)
      have hget : L[k]? = some L[k] := List.getElem?_eq_getElem hlt
      obtain ⟨c0, c1⟩ := hp k _ hget
      have hgm : (L.map Ln.wt)[k]? = some L[k].wt := by rw [List.getElem?_map, hget]; rfl
      generalize hx : L[k] = x at *
      have HI := Lib.hid hI
      have HBR := Lib.hid hBr
      have HGM := Lib.hid hgm
      clear hI hBr hp hget hx hgm
      go_wp2_with fail
      refine (weight_v x _).mono ?_
      rintro e w1 ⟨rfl, hb1⟩
      have hb01 := (bkeep2 (balloc (Below.refl wr.heap.size wr)) hb1)
      replace HI := Lib.hid (HI.out.keep hb01)
      replace HBR := Lib.hid (HBR.out.trans (hb01.mono HBR.out.size))
      clear hb1 hb01 c0 c1
      obtain ⟨y, hy⟩ := mixM_get (B := L.map Ln.wt) (k := k) (by rw [HLM.out]; exact hlt)
      have d0 := HI.out.cell hy
      have f0 := HI.out.frozen k
      have hI2 := HI.out.set k x.wt
      rw [mixM_set HGM.out] at hI2
      have HI2 := Lib.hid hI2
      have HB2 := Lib.hid (HBR.out.setCell (p := ⟨w.heap.size, k, none⟩) (Nat.le_refl _) (.int .i64 x.wt))
      clear hI2 hy HI HBR
      go_wp2
      go_roundw
      case rel => exact ⟨k + 1, by omega, by go_num, HI2.out, HB2.out⟩
      case measure => simp [intOf]; omega
    · have hd : decide ((k : Int) < (L.length : Int)) = false := decide_eq_false (by omega)
      obtain rfl : k = L.length := by omega
      rw [← HLM.out, mixM_all] at hI
      have HI2 := Lib.hid hI
      have HB2 := Lib.hid hBr
      clear hI hBr
      go_wp2
      go_ret
      exact ⟨rfl, HI2.out, HB2.out⟩
/-- only this block may have changed, of those that there were -/
theorem grown_below {w w' w2 : World} {g : Nat} (h : w.grownBy w' (some g)) (hb : Below w'.heap.size w' w2) : w.grownBy w2 (some g) :=
  ⟨hb.os.trans h.os, hb.tape.trans h.tape, hb.output.trans h.output, Nat.le_trans h.size hb.size, fun k hk hne => (hb.block k (Nat.lt_of_lt_of_le hk h.size)).trans (h.block k hk hne)⟩
theorem spread_pos {n : Int} {ws : List Int} (hn : 0 ≤ n) (h : wsOK ws) : ∀ y ∈ spreadM n ws, 0 ≤ y ∧ y ≤ n := fun y hy => by
  obtain ⟨k, hk, e⟩ := List.mem_iff_getElem.1 hy
  have hl := spreadM_len (n := n) (ws := ws)
  obtain ⟨y', h1, h2, h3, _⟩ := spread_get hn h (List.getElem?_eq_getElem (show k < ws.length by omega))
  rw [List.getElem?_eq_getElem hk, e] at h1
  obtain rfl := Option.some.inj h1
  exact ⟨h2, h3⟩
set_option maxRecDepth 100000 in
theorem enlarge_v (g sa m c : Nat) (B : Option Addr) (c' : Nat) (O ws : List Int) (n : Int) (w : World) (hI : IB w g O) (hm : m = ws.length) (hO : sa + m ≤ O.length) (hOb : ∀ x ∈ O, 0 ≤ x ∧ x ≤ 100000000000000) (h : NV w B ws) (hw : wsOK ws) (hn : 0 ≤ n) (hn2 : n ≤ 100000000000000) :
    Calls Tryz.prog 171 #[.slice (some ⟨g, sa, none⟩) m c, .int .i64 n, .slice B m c'] w fun e w' => (∃ v, e = .returned v) ∧ IB w' g (addAt O sa (spreadM n ws)) ∧ w.grownBy w' (some g) := by
  subst hm
  have hlm : (spreadM n ws).length = ws.length := spreadM_len
  have HPB := Lib.hid (spread_pos hn hw)
  have HOB := Lib.hid hOb
  have HLM := Lib.hid hlm
  have hgl := hI.lt
  have hw5 := hw.2.2
  clear hOb hlm
  go_enter Tryz.func171, Tryz.ntmps171
  go_wp2_with fail
  with_reducible refine (spread_v B c' n ws _ h hw hn hn2).mono ?_
  rintro e w1 ⟨rfl, hp, hb1⟩
  have HI := Lib.hid (hI.keep hb1)
  have HP := Lib.hid hp
  have HB := Lib.hid hb1
  have hgn : g ≠ w.heap.size := by omega
  clear hp hb1 hI h
  go_wp2_with fail
  go_loopw [12] (fun i wr => ∃ k : Nat, k ≤ ws.length ∧ i = .int .i64 k ∧ IB wr g (addAt O sa ((spreadM n ws).take k)) ∧ w1.grownBy wr (some g)) (fun i _ => ws.length - (intOf i).toNat)
  case atStart => exact ⟨0, by omega, rfl, by rw [List.take_zero, addAt_nil]; exact HI.out, greflI _ _⟩
  case round =>
    obtain ⟨k, hk, rfl, hIr, hgr⟩ := hrel
    clear HI
    by_cases hlt : k < ws.length
    · have hd : decide ((k : Int) < (ws.length : Int)) = true := by simpa using hlt
      have hkp : k < (spreadM n ws).length := by have := HLM.out; omega
      have hgp : (spreadM n ws)[k]? = some (spreadM n ws)[k] := List.getElem?_eq_getElem hkp
      have hpb := HPB.out _ (List.getElem_mem hkp)
      have hko : sa + k < O.length := by omega
      have hgo : O[sa + k]? = some O[sa + k] := List.getElem?_eq_getElem hko
      have hob := HOB.out _ (List.getElem_mem hko)
      generalize (spreadM n ws)[k] = p at *
      generalize O[sa + k] = o at *
      have c0 := (HP.out.but hgr (by omega)).cell hgp
      have d0 := hIr.cell (addAt_get hgo (P := (spreadM n ws).take k) (by rw [List.length_take]; omega))
      have f0 := hIr.frozen (sa + k)
      have hI2 := hIr.set (sa + k) (o + p)
      rw [addAt_snoc hgo hgp] at hI2
      have HI2 := Lib.hid hI2
      have HG2 := Lib.hid (gsetI hgr (sa + k) (.int .i64 (o + p)))
      obtain ⟨hp0, hp1⟩ := hpb
      obtain ⟨ho0, ho1⟩ := hob
      clear hIr hgr hI2 hgp hgo
      go_wp2
      go_roundw
      case rel => exact ⟨k + 1, by omega, by go_num, HI2.out, HG2.out⟩
      case measure => simp [intOf]; omega
    · have hd : decide ((k : Int) < (ws.length : Int)) = false := decide_eq_false (by omega)
      have hke : (spreadM n ws).take k = spreadM n ws := List.take_of_length_le (by have := HLM.out; omega)
      rw [hke] at hIr
      have HI2 := Lib.hid hIr
      have HG2 := Lib.hid hgr
      clear hIr hgr hke
      go_wp2
      go_end0
      exact ⟨⟨_, rfl⟩, HI2.out, ⟨HG2.out.os.trans HB.out.os, HG2.out.tape.trans HB.out.tape, HG2.out.output.trans HB.out.output, Nat.le_trans HB.out.size HG2.out.size, fun k hk hne => (HG2.out.block k (Nat.lt_of_lt_of_le hk HB.out.size) hne).trans (HB.out.block k hk)⟩⟩
end Go.Proofs.YtgdkionmeacalabGreat
end
