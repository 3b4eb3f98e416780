import Derived.Test.YtjdjahckdgbkbaeDoorQ02
import Derived.IntWalk
import Derived.Deep.Cut
import Derived.Orders
import Derived.Below
section
namespace Go.Proofs.YtjdjahckdgbkbaeDoor
set_option linter.unusedVariables false
/-! Plain functions for panes: sizes S, least sizes M. -/
def okP (s m : Int) : Prop := 0 ≤ m ∧ m ≤ 30 ∧ m ≤ s ∧ s ≤ 400
def pnP (S M : List Int) : Prop := 1 ≤ S.length ∧ S.length ≤ 6 ∧ M.length = S.length ∧ (∀ (i : Nat) (s m : Int), S[i]? = some s → M[i]? = some m → okP s m) ∧ sumI S ≤ 400
theorem pnP.mem {S M : List Int} (h : pnP S M) : (∀ s ∈ S, 0 ≤ s ∧ s ≤ 400) ∧ ∀ m ∈ M, 0 ≤ m ∧ m ≤ 30 := by
  obtain ⟨h1, h2, h3, h4, h5⟩ := h
  refine ⟨fun s hs => ?_, fun m hm => ?_⟩
  · obtain ⟨i, hi, rfl⟩ := List.getElem_of_mem hs
    have := h4 i _ M[i] (List.getElem?_eq_getElem hi) (List.getElem?_eq_getElem (by omega))
    unfold okP at this; omega
  · obtain ⟨i, hi, rfl⟩ := List.getElem_of_mem hm
    have := h4 i S[i] _ (List.getElem?_eq_getElem (by omega)) (List.getElem?_eq_getElem hi)
    unfold okP at this; omega
theorem pnP.six {S M : List Int} (h : pnP S M) : S.length ≤ 6 := h.2.1
theorem pnP.one {S M : List Int} (h : pnP S M) : 1 ≤ S.length := h.1
theorem pnP.len {S M : List Int} (h : pnP S M) : M.length = S.length := h.2.2.1
theorem pnP.at {S M : List Int} (h : pnP S M) {i : Nat} {s m : Int} (h1 : S[i]? = some s) (h2 : M[i]? = some m) : okP s m := h.2.2.2.1 i s m h1 h2
theorem pnP.sum {S M : List Int} (h : pnP S M) : sumI S ≤ 400 := h.2.2.2.2
theorem pnP.smal {S M : List Int} (h : pnP S M) : Smal 1000000000000000 S ∧ Smal 1000000000000000 M := by
  obtain ⟨hs, hm⟩ := h.mem
  have h1 := h.2.1
  have h2 := h.2.2.1
  exact ⟨smal_of (b := 400) (fun x hx => by have := hs x hx; omega) (by omega) (by omega), smal_of (b := 400) (fun x hx => by have := hm x hx; omega) (by omega) (by omega)⟩
theorem no_len {S M : List Int} {t : Bool} (ht : t = true ↔ pnP S M) (h : ¬ (1 ≤ S.length ∧ S.length ≤ 6)) : t = false := by
  rw [Bool.eq_false_iff, ne_eq, ht]; exact fun hp => h ⟨hp.1, hp.2.1⟩
theorem no_len2 {S M : List Int} {t : Bool} (ht : t = true ↔ pnP S M) (h : ¬ M.length = S.length) : t = false := by
  rw [Bool.eq_false_iff, ne_eq, ht]; exact fun hp => h hp.2.2.1
theorem no_at {S M : List Int} {t : Bool} {k : Nat} {s m : Int} (ht : t = true ↔ pnP S M) (hs : S[k]? = some s) (hm : M[k]? = some m) (h : ¬ okP s m) : t = false := by
  rw [Bool.eq_false_iff, ne_eq, ht]; exact fun hp => h (hp.2.2.2.1 k s m hs hm)
theorem no_sum {S M : List Int} {t : Bool} (ht : t = true ↔ pnP S M) (h : ¬ sumI S ≤ 400) : t = false := by
  rw [Bool.eq_false_iff, ne_eq, ht]; exact fun hp => h hp.2.2.2.2
theorem no_s {S M : List Int} {t : Bool} {k : Nat} {s : Int} (ht : t = true ↔ pnP S M) (hs : S[k]? = some s) (h : ¬ (0 ≤ s ∧ s ≤ 400)) : t = false := by
  rw [Bool.eq_false_iff, ne_eq, ht]; exact fun hp => h (hp.mem.1 s (List.mem_of_getElem? hs))
theorem no_m {S M : List Int} {t : Bool} {k : Nat} {m : Int} (ht : t = true ↔ pnP S M) (hm : M[k]? = some m) (h : ¬ (0 ≤ m ∧ m ≤ 30)) : t = false := by
  rw [Bool.eq_false_iff, ne_eq, ht]; exact fun hp => h (hp.mem.2 m (List.mem_of_getElem? hm))
/-- all up to an index are right -/
def upP (S M : List Int) (k : Nat) : Prop := ∀ (i : Nat) (s m : Int), i < k → S[i]? = some s → M[i]? = some m → okP s m
theorem upP.zero (S M : List Int) : upP S M 0 := fun i s m h => absurd h (Nat.not_lt_zero _)
theorem upP.succ {S M : List Int} {k : Nat} (h : upP S M k) (hk : ∀ s m, S[k]? = some s → M[k]? = some m → okP s m) : upP S M (k + 1) := fun i s m hi hs hm => by
  by_cases e : i = k
  · subst e; exact hk s m hs hm
  · exact h i s m (by omega) hs hm
theorem upP.all {S M : List Int} {k : Nat} (h : upP S M k) (hk : S.length ≤ k) : ∀ (i : Nat) (s m : Int), S[i]? = some s → M[i]? = some m → okP s m := fun i s m hs hm =>
  h i s m (by have := (List.getElem?_eq_some_iff.1 hs).1; omega) hs hm
theorem upP.mem {S M : List Int} (h : ∀ (i : Nat) (s m : Int), S[i]? = some s → M[i]? = some m → okP s m) (hl : M.length = S.length) : ∀ s ∈ S, 0 ≤ s ∧ s ≤ 400 := fun s hs => by
  obtain ⟨i, hi, rfl⟩ := List.getElem_of_mem hs
  have := h i _ M[i] (List.getElem?_eq_getElem hi) (List.getElem?_eq_getElem (by omega))
  unfold okP at this; omega
/-- what spec's loops have seen -/
def upS (S : List Int) (k : Nat) : Prop := ∀ (i : Nat) (s : Int), i < k → S[i]? = some s → 0 ≤ s ∧ s ≤ 400
def upM (S M : List Int) (k : Nat) : Prop := ∀ (i : Nat) (m : Int), i < k → M[i]? = some m → 0 ≤ m ∧ m ≤ 30 ∧ ∀ s, S[i]? = some s → m ≤ s
theorem upS.zero (S : List Int) : upS S 0 := fun i s h => absurd h (Nat.not_lt_zero _)
theorem upM.zero (S M : List Int) : upM S M 0 := fun i s h => absurd h (Nat.not_lt_zero _)
theorem upS.succ {S : List Int} {k : Nat} {s : Int} (h : upS S k) (hs : S[k]? = some s) (h1 : 0 ≤ s ∧ s ≤ 400) : upS S (k + 1) := fun i s' hi hs' => by
  by_cases e : i = k
  · subst e; rw [hs] at hs'; cases hs'; exact h1
  · exact h i s' (by omega) hs'
theorem upM.succ {S M : List Int} {k : Nat} {m : Int} (h : upM S M k) (hm : M[k]? = some m) (h1 : 0 ≤ m ∧ m ≤ 30 ∧ ∀ s, S[k]? = some s → m ≤ s) : upM S M (k + 1) := fun i m' hi hm' => by
  by_cases e : i = k
  · subst e; rw [hm] at hm'; cases hm'; exact h1
  · exact h i m' (by omega) hm'
theorem pnP_spec {S M : List Int} (h1 : upS S S.length) (h2 : upM S M M.length) (h3 : 1 ≤ S.length ∧ S.length ≤ 6) (h4 : M.length = S.length) (h5 : sumI S ≤ 400) : pnP S M :=
  ⟨h3.1, h3.2, h4, fun i s m hs hm => by
    have i1 := (List.getElem?_eq_some_iff.1 hs).1
    have i2 := (List.getElem?_eq_some_iff.1 hm).1
    have a := h1 i s i1 hs
    have b := h2 i m i2 hm
    have c := b.2.2 s hs
    unfold okP; omega, h5⟩
end Go.Proofs.YtjdjahckdgbkbaeDoor
end
section
namespace Go.Proofs.YtjdjahckdgbkbaeDoor
open Go.RowKit
set_option linter.unusedVariables false
set_option maxHeartbeats 1000000
attribute [local go_sem 5000] run_mx run_mn
attribute [local go_sem] growUpon_value growUpon_skip growUpon_enter
theorem within_P (n a b : Int) (t : Bool) (w : World) (h : rng n a b = t) : Calls Tryd.prog 30 #[.int .i64 n, .int .i64 a, .int .i64 b] w fun e w' => e = .returned (.bool t) ∧ w = w' := by rw [← h]; exact within_any n a b w
theorem inRange_P (n a b : Int) (t : Bool) (w : World) (h : rng n a b = t) : Calls Tryd.prog 40 #[.int .i64 n, .int .i64 a, .int .i64 b] w fun e w' => e = .returned (.bool t) ∧ w = w' := by rw [← h]; exact inRange_any n a b w
theorem inRange_PB (n a b : Int) (t : Bool) (w : World) (h : rng n a b = t) : Calls Tryd.prog 40 #[.int .i64 n, .int .i64 a, .int .i64 b] w fun e w' => e = .returned (.bool t) ∧ Below w.heap.size w w' := (inRange_P n a b t w h).mono (by rintro e w' ⟨rfl, rfl⟩; exact ⟨rfl, Below.refl _ _⟩)
set_option maxRecDepth 100000 in
theorem ValidPanes_v (A A' : Option Addr) (n m c c' : Nat) (S M : List Int) (t : Bool) (w : World) (h : NV w A S) (h' : NV w A' M) (hn : n = S.length) (hm : m = M.length) (hL : S.length ≤ 1048576) (hL' : M.length ≤ 1048576) (ht : t = true ↔ pnP S M) :
    Calls Tryd.prog 16 #[.agg #[.slice A n c, .slice A' m c']] w fun e w' => e = .returned (.bool t) ∧ Below w.heap.size w w' := by
  subst hn hm
  cases h1 : rng (S.length : Int) 1 6
  · have hl := rng_not.1 h1
    have hb := no_len ht (by omega)
    subst hb
    clear ht hl
    go_enter Tryd.func16, Tryd.ntmps16
    go_wp2_with fail
    with_reducible refine (within_P _ _ _ false _ h1).mono ?_
    rintro e w1 ⟨rfl, rfl⟩
    go_wp2
    go_ret
    exact ⟨rfl, (by repeat (first | with_reducible exact Below.refl _ _ | with_reducible assumption | with_reducible refine balloc ?_ | (with_reducible refine bset ?_ ?_; rotate_left; ((try dsimp only); omega)) | refine bkeep2 ?_ (by assumption) | with_reducible refine Below.drew ?_))⟩
  have hl := rng_iff.1 h1
  by_cases h2 : M.length = S.length
  rotate_left
  · have hb := no_len2 ht h2
    subst hb
    have h3 : ((M.length : Int) == (S.length : Int)) = false := by simp; omega
    clear ht hl h2
    go_enter Tryd.func16, Tryd.ntmps16
    go_wp2_with fail
    with_reducible refine (within_P _ _ _ true _ h1).mono ?_
    rintro e w1 ⟨rfl, rfl⟩
    go_wp2
    go_ret
    exact ⟨rfl, (by repeat (first | with_reducible exact Below.refl _ _ | with_reducible assumption | with_reducible refine balloc ?_ | (with_reducible refine bset ?_ ?_; rotate_left; ((try dsimp only); omega)) | refine bkeep2 ?_ (by assumption) | with_reducible refine Below.drew ?_))⟩
  have HX := Lib.hid (newS w (.cells #[.slice A S.length c, .slice A' M.length c'] 35))
  have h3 : ((M.length : Int) == (S.length : Int)) = true := by simp; omega
  have hb0 : Below w.heap.size w (w.alloc (.cells #[.slice A S.length c, .slice A' M.length c'] 35)) := balloc (Below.refl _ _)
  have HN := Lib.hid (h.keep hb0)
  have HN' := Lib.hid (h'.keep hb0)
  have HB := Lib.hid hb0
  have HT := Lib.hid ht
  have h3' : ((M.length : Int) != (S.length : Int)) = false := by simp; omega
  have H2 := Lib.hid h2
  clear ht hb0 h h' h2
  go_enter Tryd.func16, Tryd.ntmps16
  go_wp2_with fail
  with_reducible refine (within_P _ _ _ true _ h1).mono ?_
  rintro e w1 ⟨rfl, hw1⟩
  rw [hw1] at HX HN HN' HB
  clear hw1
  have k0 : w1.cell? ⟨w.heap.size, 0, none⟩ = some (.slice A S.length c) := (cellS HX.out 0).trans rfl
  have k1 : w1.cell? ⟨w.heap.size, 1, none⟩ = some (.slice A' M.length c') := (cellS HX.out 1).trans rfl
  go_wp2_with fail
  have Hhl := Lib.hid hl
  clear hl
  go_loop [22] (fun i => ∃ k : Nat, k ≤ S.length ∧ i = .int .i64 k ∧ upP S M k) (fun i => S.length - (intOf i).toNat)
  case atStart => exact ⟨0, by omega, rfl, upP.zero S M⟩
  case round =>
    obtain ⟨k, hk, rfl, hup⟩ := hrel
    have HU := Lib.hid hup
    clear hup
    by_cases hlt : k < S.length
    · have hd : decide ((k : Int) < (S.length : Int)) = true := by simpa using hlt
      have hd' : decide ((k : Int) < (M.length : Int)) = true := by rw [H2.out]; exact hd
      obtain ⟨b, off, rfl, hb, hp⟩ := HN.out.cells (by omega)
      obtain ⟨b', off', rfl, hb', hp'⟩ := HN'.out.cells (by have := H2.out; omega)
      have hget : S[k]? = some S[k] := List.getElem?_eq_getElem hlt
      have hlt' : k < M.length := by have := H2.out; omega
      have hget' : M[k]? = some M[k] := List.getElem?_eq_getElem hlt'
      have c0 := hp k _ hget
      have d0 := hp' k _ hget'
      generalize S[k] = s at *
      generalize M[k] = m at *
      have HG := Lib.hid hget
      have HG' := Lib.hid hget'
      clear hget hget' hp hp'
      cases hv : rng m 0 30
      · have hno := rng_not.1 hv
        have hb := no_at HT.out HG.out HG'.out (fun h => by unfold okP at h; omega)
        subst hb
        clear hno
        go_wp2_with fail
        with_reducible refine (within_P _ _ _ false _ hv).mono ?_
        rintro e w2 ⟨rfl, rfl⟩
        go_wp2
        go_ret
        exact ⟨rfl, HB.out⟩
      cases hu : rng s m 400
      · have hno := rng_not.1 hu
        have hb := no_at HT.out HG.out HG'.out (fun h => by unfold okP at h; omega)
        subst hb
        clear hno
        go_wp2_with fail
        with_reducible refine (within_P _ _ _ true _ hv).mono ?_
        rintro e w2 ⟨rfl, rfl⟩
        go_wp2_with fail
        with_reducible refine (within_P _ _ _ false _ hu).mono ?_
        rintro e w2 ⟨rfl, rfl⟩
        go_wp2
        go_ret
        exact ⟨rfl, HB.out⟩
      have HK := Lib.hid (show okP s m by have := rng_iff.1 hv; have := rng_iff.1 hu; unfold okP; omega)
      go_wp2_with fail
      with_reducible refine (within_P _ _ _ true _ hv).mono ?_
      rintro e w2 ⟨rfl, rfl⟩
      go_wp2_with fail
      with_reducible refine (within_P _ _ _ true _ hu).mono ?_
      rintro e w2 ⟨rfl, rfl⟩
      go_wp2
      go_round
      case rel => exact ⟨k + 1, by omega, by go_num, HU.out.succ (fun s' m' hs hm => by rw [HG.out] at hs; rw [HG'.out] at hm; cases hs; cases hm; exact HK.out)⟩
      case measure => simp [intOf]; omega
    · have hd : decide ((k : Int) < (S.length : Int)) = false := by simp; omega
      have hall := HU.out.all (by omega)
      have hmem := upP.mem hall H2.out
      have hsm : Smal 1000000000000000 S := smal_of (b := 400) (fun x hx => by have := hmem x hx; omega) (by omega) (by have := Hhl.out; omega)
      have HSM := Lib.hid hsm
      have HALL := Lib.hid hall
      clear hall hmem hsm
      go_wp2_with fail
      with_reducible refine (sum_v A c S _ HN.out hL HSM.out).mono ?_
      rintro e w2 ⟨rfl, hw2⟩
      rw [hw2] at HB
      clear hw2
      by_cases h5 : sumI S ≤ 400
      · have hb := HT.out.2 ⟨by have := Hhl.out; omega, by have := Hhl.out; omega, H2.out, HALL.out, h5⟩
        subst hb
        go_wp2
        go_ret
        exact ⟨ret_bool rfl, HB.out⟩
      · have hb := no_sum HT.out h5
        subst hb
        go_wp2
        go_ret
        exact ⟨ret_bool (by simpa using h5), HB.out⟩
end Go.Proofs.YtjdjahckdgbkbaeDoor
end
section
namespace Go.Proofs.YtjdjahckdgbkbaeDoor
open Go.RowKit
set_option linter.unusedVariables false
set_option maxHeartbeats 1000000
attribute [local go_sem 5000] run_mx run_mn
attribute [local go_sem] growUpon_value growUpon_skip growUpon_enter
theorem wp_P {P : Program} {c : Code} {Q : Exit → Act → World → Prop} {a : Act} {W : World} (F : World → Prop) (hF : F W) (h : ∀ W0, F W0 → c.wp P Q a W0) : c.wp P Q a W := h W hF
set_option maxRecDepth 100000 in
theorem svalidPanes_v (A A' : Option Addr) (n m c c' : Nat) (S M : List Int) (t : Bool) (w : World) (h : NV w A S) (h' : NV w A' M) (hn : n = S.length) (hm : m = M.length) (hL : S.length ≤ 1048576) (hL' : M.length ≤ 1048576) (ht : t = true ↔ pnP S M) :
    Calls Tryd.prog 39 #[.agg #[.slice A n c, .slice A' m c']] w fun e w' => e = .returned (.bool t) ∧ Below w.heap.size w w' := by
  subst hn hm
  have HT := Lib.hid ht
  have hb0 : Below w.heap.size w (w.alloc (.cells #[.slice A S.length c, .slice A' M.length c'] 35)) := balloc (Below.refl _ _)
  have HN0 := Lib.hid (h.keep hb0)
  have HN0' := Lib.hid (h'.keep hb0)
  clear ht h h'
  go_enter Tryd.func39, Tryd.ntmps39
  go_upto_region 1 with (fail)
  refine wp_P (fun W => W.heap[w.heap.size]? = some (.cells #[.slice A S.length c, .slice A' M.length c'] 35 (0, 0)) ∧ NV W A S ∧ NV W A' M ∧ Below w.heap.size w W) ⟨newS w _, HN0.out, HN0'.out, hb0⟩ ?_
  clear HN0 HN0' hb0
  rintro w1 ⟨hx, hn, hn', hb⟩
  have k0 : w1.cell? ⟨w.heap.size, 0, none⟩ = some (.slice A S.length c) := (cellS hx 0).trans rfl
  have k1 : w1.cell? ⟨w.heap.size, 1, none⟩ = some (.slice A' M.length c') := (cellS hx 1).trans rfl
  have HX := Lib.hid hx
  have HN := Lib.hid hn
  have HN' := Lib.hid hn'
  have HB := Lib.hid hb
  clear hx hn hn' hb
  go_wp2_with fail
  go_loop [3] (fun i => ∃ k : Nat, k ≤ S.length ∧ i = .int .i64 k ∧ upS S k) (fun i => S.length - (intOf i).toNat)
  case atStart => exact ⟨0, by omega, rfl, upS.zero S⟩
  case round =>
    obtain ⟨k, hk, rfl, hup⟩ := hrel
    have HU := Lib.hid hup
    clear hup
    by_cases hlt : k < S.length
    · have hd : decide ((k : Int) < (S.length : Int)) = true := by simpa using hlt
      obtain ⟨b, off, rfl, hb, hp⟩ := HN.out.cells (by omega)
      have hget : S[k]? = some S[k] := List.getElem?_eq_getElem hlt
      have c0 := hp k _ hget
      generalize S[k] = s at *
      have HG := Lib.hid hget
      clear hget hp
      cases hv : rng s 0 400
      · have hno := rng_not.1 hv
        have hb := no_s HT.out HG.out hno
        subst hb
        clear hno
        go_wp2_with fail
        with_reducible refine (inRange_P _ _ _ false _ hv).mono ?_
        rintro e w2 ⟨rfl, rfl⟩
        go_wp2
        go_ret
        exact ⟨rfl, HB.out⟩
      have HV := Lib.hid (rng_iff.1 hv)
      go_wp2_with fail
      with_reducible refine (inRange_P _ _ _ true _ hv).mono ?_
      rintro e w2 ⟨rfl, rfl⟩
      go_wp2
      go_round
      case rel => exact ⟨k + 1, by omega, by go_num, HU.out.succ HG.out HV.out⟩
      case measure => simp [intOf]; omega
    · have hd : decide ((k : Int) < (S.length : Int)) = false := by simp; omega
      obtain rfl : k = S.length := by omega
      have HU1 := Lib.hid HU.out
      clear HU hlt hk
      go_wp2_with fail
      go_loopw [4] (fun i wr => ∃ k : Nat, k ≤ M.length ∧ i = .int .i64 k ∧ upM S M k ∧ Below w1.heap.size w1 wr) (fun i _ => M.length - (intOf i).toNat)
      case atStart => exact ⟨0, by omega, rfl, upM.zero S M, Below.refl _ _⟩
      case round =>
        obtain ⟨k, hk, rfl, hup, hbr⟩ := hrel
        have HU := Lib.hid hup
        have HBR := Lib.hid hbr
        have j0 := (hbr.cell (p := ⟨w.heap.size, 0, none⟩) (ltS HX.out)).trans k0
        have j1 := (hbr.cell (p := ⟨w.heap.size, 1, none⟩) (ltS HX.out)).trans k1
        clear hup hbr
        by_cases hlt : k < M.length
        · have hd : decide ((k : Int) < (M.length : Int)) = true := by simpa using hlt
          have hget' : M[k]? = some M[k] := List.getElem?_eq_getElem hlt
          obtain ⟨b', off', hA', hb', hp'⟩ := (HN'.out.keep HBR.out).cells (by omega)
          have d0 := hp' k _ hget'
          generalize M[k] = m at *
          have HG' := Lib.hid hget'
          clear hget' hp'
          subst hA'
          cases hv : rng m 0 30
          · have hno := rng_not.1 hv
            have hb := no_m HT.out HG'.out hno
            subst hb
            clear hno
            go_wp2_with fail
            refine wp_region_grow 27 0 (· < 27) (by kernel_rfl) (by kernel_rfl) rfl ?_
            iterate 27 (refine wpG_step (fun K hK => ?_); first | (refine grow_skip rfl ?_; go_simp; refine hK _ ?_; clear hK K) | (apply Exists.intro; refine ⟨.inl ⟨rfl, fun w' hw' => ?_⟩, ?_⟩; (focus ((obtain ⟨hc, hf⟩ := bcell hw'.out); (have hcS := bcellS hw'.out); go_simp <;> first | rfl | (go_at_call 40; exact inRange_PB _ _ _ false _ hv))); (go_simp; refine hK _ ?_; clear hK K)))
            refine wpG_nil ?_
            refine wpK_tail (by kernel_rfl) (fun w9 hg9 => ?_)
            have hb9 := bdrewn hg9.out
            refine wpAny_end (by kernel_rfl) ?_
            refine NoPan.thn ?_
            clear hg9
            go_wp2
            go_ret
            exact ⟨rfl, bkeep2 (bkeep2 HB.out HBR.out) hb9⟩
          have HV := Lib.hid (rng_iff.1 hv)
          by_cases hks : k < S.length
          · have hd2 : decide ((k : Int) < (S.length : Int)) = true := by simpa using hks
            have hget : S[k]? = some S[k] := List.getElem?_eq_getElem hks
            obtain ⟨b, off, hA, hb, hp⟩ := (HN.out.keep HBR.out).cells (by omega)
            have c0 := hp k _ hget
            generalize S[k] = s at *
            have HG := Lib.hid hget
            clear hget hp
            subst hA
            by_cases hsm : s < m
            · have hd3 : decide (s < m) = true := by simpa using hsm
              have hb := no_at HT.out HG.out HG'.out (fun h => by unfold okP at h; omega)
              subst hb
              go_wp2_with fail
              refine wp_region_grow 27 0 (· < 27) (by kernel_rfl) (by kernel_rfl) rfl ?_
              iterate 27 (refine wpG_step (fun K hK => ?_); first | (refine grow_skip rfl ?_; go_simp; refine hK _ ?_; clear hK K) | (apply Exists.intro; refine ⟨.inl ⟨rfl, fun w' hw' => ?_⟩, ?_⟩; (focus ((obtain ⟨hc, hf⟩ := bcell hw'.out); (have hcS := bcellS hw'.out); go_simp <;> first | rfl | (go_at_call 40; exact inRange_PB _ _ _ true _ hv))); (go_simp; refine hK _ ?_; clear hK K)))
              refine wpG_nil ?_
              refine wpK_tail (by kernel_rfl) (fun w9 hg9 => ?_)
              have hb9 := bdrewn hg9.out
              refine wpAny_end (by kernel_rfl) ?_
              refine NoPan.thn ?_
              clear hg9
              go_wp2
              go_ret
              exact ⟨rfl, bkeep2 (bkeep2 HB.out HBR.out) hb9⟩
            · have hd3 : decide (s < m) = false := by simpa using hsm
              have HS := Lib.hid hsm
              clear hsm
              go_wp2_with fail
              refine wp_region_grow 27 0 (· < 27) (by kernel_rfl) (by kernel_rfl) rfl ?_
              iterate 27 (refine wpG_step (fun K hK => ?_); first | (refine grow_skip rfl ?_; go_simp; refine hK _ ?_; clear hK K) | (apply Exists.intro; refine ⟨.inl ⟨rfl, fun w' hw' => ?_⟩, ?_⟩; (focus ((obtain ⟨hc, hf⟩ := bcell hw'.out); (have hcS := bcellS hw'.out); go_simp <;> first | rfl | (go_at_call 40; exact inRange_PB _ _ _ true _ hv))); (go_simp; refine hK _ ?_; clear hK K)))
              refine wpG_nil ?_
              refine wpK_tail (by kernel_rfl) (fun w9 hg9 => ?_)
              have hb9 := bdrewn hg9.out
              refine wpAny_end (by kernel_rfl) ?_
              refine NoPan.thn ?_
              clear hg9
              have HB9 := Lib.hid (bkeep2 HBR.out hb9)
              clear hb9 c0 d0 j0 j1
              go_wp2
              go_roundw
              case rel => exact ⟨k + 1, by omega, by go_num, HU.out.succ HG'.out ⟨by have := HV.out; omega, by have := HV.out; omega, fun s' hs' => by have hg := HG.out; rw [hs'] at hg; cases hg; have := HS.out; omega⟩, HB9.out⟩
              case measure => simp [intOf]; omega
          · have hd2 : decide ((k : Int) < (S.length : Int)) = false := by simp; omega
            go_wp2_with fail
            refine wp_region_grow 27 0 (· < 27) (by kernel_rfl) (by kernel_rfl) rfl ?_
            iterate 27 (refine wpG_step (fun K hK => ?_); first | (refine grow_skip rfl ?_; go_simp; refine hK _ ?_; clear hK K) | (apply Exists.intro; refine ⟨.inl ⟨rfl, fun w' hw' => ?_⟩, ?_⟩; (focus ((obtain ⟨hc, hf⟩ := bcell hw'.out); (have hcS := bcellS hw'.out); go_simp <;> first | rfl | (go_at_call 40; exact inRange_PB _ _ _ true _ hv))); (go_simp; refine hK _ ?_; clear hK K)))
            refine wpG_nil ?_
            refine wpK_tail (by kernel_rfl) (fun w9 hg9 => ?_)
            have hb9 := bdrewn hg9.out
            refine wpAny_end (by kernel_rfl) ?_
            refine NoPan.thn ?_
            clear hg9
            have HB9 := Lib.hid (bkeep2 HBR.out hb9)
            clear hb9 d0 j0 j1
            go_wp2
            go_roundw
            case rel => exact ⟨k + 1, by omega, by go_num, HU.out.succ HG'.out ⟨by have := HV.out; omega, by have := HV.out; omega, fun s' hs' => by have := (List.getElem?_eq_some_iff.1 hs').1; omega⟩, HB9.out⟩
            case measure => simp [intOf]; omega
        · have hd : decide ((k : Int) < (M.length : Int)) = false := by simp; omega
          obtain rfl : k = M.length := by omega
          have HU2 := Lib.hid HU.out
          have HB2 := Lib.hid (bkeep2 HB.out HBR.out)
          have HM := Lib.hid (HN.out.keep HBR.out)
          clear HU hlt hk
          cases h1 : rng (S.length : Int) 1 6
          · have hl := rng_not.1 h1
            have hb := no_len HT.out (by omega)
            subst hb
            clear hl
            go_wp2_with fail
            with_reducible refine (inRange_P _ _ _ false _ h1).mono ?_
            rintro e w2 ⟨rfl, rfl⟩
            go_wp2
            go_ret
            exact ⟨rfl, HB2.out⟩
          have hl := Lib.hid (rng_iff.1 h1)
          by_cases h2 : M.length = S.length
          rotate_left
          · have hb := no_len2 HT.out h2
            subst hb
            have h3 : ((M.length : Int) == (S.length : Int)) = false := by simp; omega
            clear h2
            go_wp2_with fail
            with_reducible refine (inRange_P _ _ _ true _ h1).mono ?_
            rintro e w2 ⟨rfl, rfl⟩
            go_wp2
            go_ret
            exact ⟨rfl, HB2.out⟩
          have h3 : ((M.length : Int) == (S.length : Int)) = true := by simp; omega
          have H2 := Lib.hid h2
          clear h2
          have hsm : Smal 1000000000000000 S := smal_of (b := 400) (fun x hx => by obtain ⟨i, hi, rfl⟩ := List.getElem_of_mem hx; have := HU1.out i _ hi (List.getElem?_eq_getElem hi); omega) (by omega) (by have := hl.out; omega)
          have HSM := Lib.hid hsm
          clear hsm
          go_wp2_with fail
          with_reducible refine (inRange_P _ _ _ true _ h1).mono ?_
          rintro e w2 ⟨rfl, rfl⟩
          go_wp2_with fail
          with_reducible refine (total_v A c S _ HM.out hL HSM.out).mono ?_
          rintro e w2 ⟨rfl, hw2⟩
          rw [hw2] at HB2
          clear hw2
          by_cases h5 : sumI S ≤ 400
          · have hb := HT.out.2 (pnP_spec HU1.out HU2.out (by have := hl.out; omega) H2.out h5)
            subst hb
            go_wp2
            go_ret
            exact ⟨ret_bool rfl, HB2.out⟩
          · have hb := no_sum HT.out h5
            subst hb
            go_wp2
            go_ret
            exact ⟨ret_bool (by simpa using h5), HB2.out⟩
end Go.Proofs.YtjdjahckdgbkbaeDoor
end
section
namespace Go.Proofs.YtjdjahckdgbkbaeDoor
set_option linter.unusedVariables false
/-- where each line begins, up to one of them -/
def edP (S : List Int) (k : Nat) : List Int := (List.range (S.length + 1)).map fun i => if i ≤ k then sumI (S.take i) else 0
def edL (S : List Int) : List Int := (List.range (S.length + 1)).map fun i => sumI (S.take i)
theorem edP_len (S : List Int) (k : Nat) : (edP S k).length = S.length + 1 := by simp [edP]
theorem edL_len (S : List Int) : (edL S).length = S.length + 1 := by simp [edL]
theorem edP_zero (S : List Int) : List.replicate (S.length + 1) 0 = edP S 0 := by
  apply List.ext_getElem
  · simp [edP]
  · intro i h1 h2
    simp only [edP, List.getElem_map, List.getElem_range, List.getElem_replicate]
    split
    · rename_i h
      obtain rfl : i = 0 := by omega
      simp [sumI]
    · rfl
theorem edP_end (S : List Int) : edP S S.length = edL S := by
  apply List.ext_getElem
  · simp [edP, edL]
  · intro i h1 h2
    simp only [edP, edL, List.getElem_map, List.getElem_range]
    rw [if_pos]
    simp [edP] at h1
    omega
theorem edP_get {S : List Int} {k i : Nat} (hi : i ≤ S.length) : (edP S k)[i]? = some (if i ≤ k then sumI (S.take i) else 0) := by
  rw [List.getElem?_eq_getElem (by rw [edP_len]; omega)]
  simp [edP]
theorem edL_get {S : List Int} {i : Nat} (hi : i ≤ S.length) : (edL S)[i]? = some (sumI (S.take i)) := by
  rw [List.getElem?_eq_getElem (by rw [edL_len]; omega)]
  simp [edL]
theorem edP_set {S : List Int} {k : Nat} (hk : k < S.length) : (edP S k).set (k + 1) (sumI (S.take (k + 1))) = edP S (k + 1) := by
  apply List.ext_getElem
  · simp [edP]
  · intro i h1 h2
    rw [List.getElem_set]
    simp only [edP, List.getElem_map, List.getElem_range]
    split
    · rename_i h
      subst h
      rw [if_pos (Nat.le_refl _)]
    · rename_i h
      by_cases h3 : i ≤ k
      · rw [if_pos h3, if_pos (by omega)]
      · rw [if_neg h3, if_neg (by omega)]
/-- the line in which a place lies, told from the one that begins at a place -/
def lnAt : List Int → Int → Int → Int → Int
  | [], _, _, _ => -1
  | s :: t, a, p, i => if a ≤ p ∧ p < a + s then i else lnAt t (a + s) p (i + 1)
def lineM (S : List Int) (p : Int) : Int := lnAt S 0 p 0
theorem lnAt_bd : ∀ (S : List Int) (a p i : Int), 0 ≤ i → -1 ≤ lnAt S a p i ∧ lnAt S a p i < i + S.length ∨ lnAt S a p i = -1
  | [], a, p, i, h => by simp [lnAt]
  | s :: t, a, p, i, h => by
    unfold lnAt
    split
    · simp only [List.length_cons]; omega
    · rcases lnAt_bd t (a + s) p (i + 1) (by omega) with h1 | h1
      · simp only [List.length_cons]; omega
      · exact .inr h1
theorem lnAt_drop {S : List Int} {k : Nat} {s p R : Int} (hs : S[k]? = some s) (h : lnAt (S.drop k) (sumI (S.take k)) p k = R) :
    (sumI (S.take k) ≤ p ∧ p < sumI (S.take k) + s → R = k) ∧ (¬ (sumI (S.take k) ≤ p ∧ p < sumI (S.take k) + s) → lnAt (S.drop (k + 1)) (sumI (S.take (k + 1))) p ((k + 1 : Nat) : Int) = R) := by
  obtain ⟨hk, e⟩ := List.getElem?_eq_some_iff.1 hs
  rw [List.drop_eq_getElem_cons hk, e, lnAt] at h
  rw [sumI_snoc hs]
  constructor
  · intro hc; rw [if_pos hc] at h; exact h.symm
  · intro hc; rw [if_neg hc] at h; rw [← h]; rfl
theorem lnAt_done {S : List Int} {k : Nat} {p R : Int} (hk : S.length ≤ k) (h : lnAt (S.drop k) (sumI (S.take k)) p k = R) : R = -1 := by
  rw [List.drop_eq_nil_of_le hk, lnAt] at h
  exact h.symm
end Go.Proofs.YtjdjahckdgbkbaeDoor
end
section
namespace Go.Proofs.YtjdjahckdgbkbaeDoor
open Go.RowKit
set_option linter.unusedVariables false
set_option maxHeartbeats 1000000
attribute [local go_sem] growUpon_value growUpon_skip growUpon_enter
theorem nopan_normal {Q : Exit → Act → World → Prop} {a : Act} {w : World} (h : Q .normal a w) : NoPan Q .normal a w := h
end Go.Proofs.YtjdjahckdgbkbaeDoor
end
section
namespace Go.Proofs.YtjdjahckdgbkbaeDoor
open Go.RowKit
set_option linter.unusedVariables false
set_option maxHeartbeats 1000000
attribute [local go_sem 5000] run_mx run_mn
attribute [local go_sem] growUpon_value growUpon_skip growUpon_enter
theorem vpT (S M : List Int) : ∃ t : Bool, t = true ↔ pnP S M := by
  by_cases h : pnP S M
  · exact ⟨true, by simp [h]⟩
  · exact ⟨false, by simp [h]⟩
theorem NV.head {w : World} {A : Option Addr} {L : List Int} (h : NV w A L) (j : Nat) : NV w A (L.take j) := ⟨fun h0 => by
  have h1 : 0 < L.length := by rw [List.length_take] at h0; omega
  obtain ⟨b, off, e, hl, hp⟩ := h.cells h1
  exact ⟨b, off, e, hl, fun i x hx => hp i x (by rw [List.getElem?_take] at hx; split at hx; exact hx; cases hx)⟩⟩
theorem smal_take {m : Int} {L : List Int} (h : Smal m L) (j : Nat) : Smal m (L.take j) := fun k => by rw [List.take_take]; exact h _
end Go.Proofs.YtjdjahckdgbkbaeDoor
end
section
/- A region that draws its order: an invariant of the world that every operation keeps, and for each operation a property of its value that no other operation breaks: every order serves. -/
namespace Go.Proofs.YtjdjahckdgbkbaeDoor
open Go Go.RowKit
set_option linter.unusedVariables false
section
variable {P : Program}
def givesUpon (P : Program) (K : Value → World → Prop) : Result Next → Prop
  | .ok (.value v) w' => K v w'
  | .ok .skip w' => K undef w'
  | .ok (.enter f args) w' => Calls P f args w' fun e w'' => ∃ v, e = .returned v ∧ K v w''
  | _ => False
theorem givesUpon_value (K : Value → World → Prop) (v : Value) (w : World) : givesUpon P K (.ok (.value v) w) = K v w := rfl
theorem givesUpon_skip (K : Value → World → Prop) (w : World) : givesUpon P K (.ok .skip w) = K undef w := rfl
theorem givesUpon_enter (K : Value → World → Prop) (f : FuncId) (args : Array Value) (w : World) : givesUpon P K (.ok (.enter f args) w) = Calls P f args w fun e w'' => ∃ v, e = .returned v ∧ K v w'' := rfl
/-- which operation fills this temporary -/
def dstIdx (t : Tmp) : List Oper → Nat → Option Nat
  | [], _ => none
  | o :: r, k => if o.dst = some t then some k else dstIdx t r (k + 1)
theorem dstIdx_none {t : Tmp} : ∀ {l : List Oper} {k : Nat}, dstIdx t l k = none → ∀ o ∈ l, o.dst ≠ some t
  | [], _, _, _, h => by cases h
  | x :: r, k, h, o, ho => by
    unfold dstIdx at h
    split at h
    · cases h
    · rename_i hne
      rcases List.mem_cons.1 ho with rfl | ho
      · exact hne
      · exact dstIdx_none h o ho
theorem dstIdx_some {t : Tmp} : ∀ {l : List Oper} {k j : Nat}, dstIdx t l k = some j → k ≤ j ∧ ∃ o, l[j - k]? = some o ∧ o.dst = some t
  | [], _, _, h => by cases h
  | x :: r, k, j, h => by
    unfold dstIdx at h
    split at h
    · rename_i he
      injection h with h
      subst h
      exact ⟨Nat.le_refl _, x, by simp, he⟩
    · obtain ⟨h1, o, h2, h3⟩ := dstIdx_some h
      refine ⟨by omega, o, ?_, h3⟩
      rw [show j - k = (j - (k + 1)) + 1 from by omega]
      simpa using h2
def tv (a : Act) (t : Tmp) : Value := a.tmps.getD t undef
/-- what an operation may lean on: the values of the temporaries that it reads -/
def look (ops : List Oper) (T : Nat → Value → World → Prop) (a0 a : Act) (w : World) : List Tmp → Prop → Prop
  | [], G => G
  | t :: r, G => (match dstIdx t ops 0 with | some j => T j (tv a t) w | none => tv a t = tv a0 t) → look ops T a0 a w r G
def opOK (P : Program) (ops : List Oper) (T : Nat → Value → World → Prop) (R : World → World → Prop) (I : Nat → World → Prop) (a0 : Act) (w0 : World) (k : Nat) (o : Oper) : Prop :=
  ∀ (m : Nat) (a : Act) (w : World), m < ops.length → R w0 w → I m w →
    look ops T a0 a w (o.looksAt ops.toArray)
      (match o.guard with
       | none => givesUpon P (fun v w' => T k v w' ∧ R w w' ∧ I (m + 1) w') ((execOp a.eval o).run P w)
       | some _ => (Region.wanted o (yielded ops.toArray a.tmps) = true → givesUpon P (fun v w' => T k v w' ∧ R w w' ∧ I (m + 1) w') ((execOp a.eval o).run P w)) ∧
          (Region.wanted o (yielded ops.toArray a.tmps) = false → T k undef w ∧ I (m + 1) w))
def opsOK (P : Program) (ops : List Oper) (T : Nat → Value → World → Prop) (R : World → World → Prop) (I : Nat → World → Prop) (a0 : Act) (w0 : World) : List Oper → Nat → Prop
  | [], _ => True
  | o :: r, k => opOK P ops T R I a0 w0 k o ∧ opsOK P ops T R I a0 w0 r (k + 1)
def finP (T : Nat → Value → World → Prop) (w : World) (F : Act → Prop) : List Oper → Nat → Act → Prop
  | [], _, a => F a
  | o :: r, k, a => match o.dst with
    | none => finP T w F r (k + 1) a
    | some d => ∀ v, T k v w → finP T w F r (k + 1) (a.put (some d) v)
/-- the form of the region: no select, every edge goes back, no temporary is filled twice, whoever reads a temporary of the region waits for it -/
def rgB (l : List Oper) (size : Nat) : Bool :=
  Region.noSelect l.toArray &&
  ((List.range l.length).all fun i => match l[i]? with
    | none => true
    | some o => (o.after.toList.all fun e => decide (e.on < i)) &&
      (o.dst.all fun d => decide (d < size) && dstIdx d l 0 == some i) &&
      ((o.looksAt l.toArray).all fun t => match dstIdx t l 0 with
        | none => true
        | some j => o.after.toList.any fun e => e.on == j && Region.binds .any e))
def cntF (f : Nat → Bool) : Nat → Nat
  | 0 => 0
  | n + 1 => cntF f n + (if f n then 0 else 1)
theorem cntF_zero {f : Nat → Bool} : ∀ {n : Nat}, cntF f n = 0 → ∀ i, i < n → f i = true
  | 0, _, i, hi => by omega
  | n + 1, h, i, hi => by
    simp only [cntF] at h
    by_cases e : i = n
    · subst e; by_cases hf : f i = true
      · exact hf
      · simp [hf] at h
    · exact cntF_zero (n := n) (by omega) i (by omega)
theorem cntF_same {f g : Nat → Bool} : ∀ {n : Nat}, (∀ i, i < n → f i = g i) → cntF f n = cntF g n
  | 0, _ => rfl
  | n + 1, h => by simp only [cntF]; rw [cntF_same fun i hi => h i (by omega), h n (by omega)]
theorem cntF_set {f g : Nat → Bool} {i : Nat} (hf : f i = false) (hg : g i = true) (h : ∀ j, j ≠ i → g j = f j) : ∀ {n : Nat}, i < n → cntF f n = cntF g n + 1
  | 0, hi => by omega
  | n + 1, hi => by
    simp only [cntF]
    by_cases e : i = n
    · subst e
      rw [cntF_same (f := f) (g := g) fun j hj => (h j (by omega)).symm]
      simp [hf, hg]
    · rw [cntF_set hf hg h (n := n) (by omega), h n (by omega)]; omega
def vof (a : Act) : Option Tmp → Value
  | none => undef
  | some d => tv a d
def RJ (l : List Oper) (T : Nat → Value → World → Prop) (R : World → World → Prop) (I : Nat → World → Prop) (a0 : Act) (w0 : World) (m : Nat) (listed : Array Bool) (a : Act) (w : World) : Prop :=
  R w0 w ∧ I m w ∧ a.defers = a0.defers ∧ a.tmps.size = a0.tmps.size ∧
  (∀ t, (∀ j o, l[j]? = some o → listed.getD j false = true → o.dst ≠ some t) → a.tmps[t]? = a0.tmps[t]?) ∧
  (∀ j o, l[j]? = some o → listed.getD j false = true → o.dst ≠ none → T j (vof a o.dst) w)
theorem look_of {ops : List Oper} {T : Nat → Value → World → Prop} {a0 a : Act} {w : World} {G : Prop} : ∀ {ts : List Tmp}, (∀ t ∈ ts, match dstIdx t ops 0 with | some j => T j (tv a t) w | none => tv a t = tv a0 t) → look ops T a0 a w ts G → G
  | [], _, h => h
  | t :: r, hts, h => look_of (fun x hx => hts x (List.mem_cons_of_mem _ hx)) (h (hts t List.mem_cons_self))
theorem opsOK_at {ops : List Oper} {T : Nat → Value → World → Prop} {R : World → World → Prop} {I : Nat → World → Prop} {a0 : Act} {w0 : World} : ∀ {l : List Oper} {k : Nat}, opsOK P ops T R I a0 w0 l k → ∀ {i : Nat} {o : Oper}, l[i]? = some o → opOK P ops T R I a0 w0 (k + i) o
  | [], _, _, i, o, h => by simp at h
  | x :: r, k, h, 0, o, ho => by
    obtain rfl : x = o := by simpa using ho
    exact h.1
  | x :: r, k, h, i + 1, o, ho => by
    have := opsOK_at (k := k + 1) h.2 (i := i) (o := o) (by simpa using ho)
    rwa [show k + (i + 1) = k + 1 + i from by omega]
theorem put_size (a : Act) (d : Option Tmp) (v : Value) : (a.put d v).tmps.size = a.tmps.size := by cases d <;> simp [Act.put]
theorem put_defers' (a : Act) (d : Option Tmp) (v : Value) : (a.put d v).defers = a.defers := by cases d <;> rfl
theorem put_ne (a : Act) (d : Option Tmp) (v : Value) {t : Nat} (h : d ≠ some t) : (a.put d v).tmps[t]? = a.tmps[t]? := by
  cases d with
  | none => rfl
  | some d => exact Array.getElem?_setIfInBounds_ne (fun e => h (by rw [e]))
theorem put_same (a : Act) (d : Tmp) (v : Value) (h : d < a.tmps.size) : (a.put (some d) v).tmps[d]? = some v := by
  simp [Act.put, h]
theorem tv_of {a b : Act} {t : Tmp} (h : a.tmps[t]? = b.tmps[t]?) : tv a t = tv b t := by
  unfold tv; rw [Array.getD_eq_getD_getElem?, Array.getD_eq_getD_getElem?, h]
theorem finP_to {T : Nat → Value → World → Prop} {w : World} {F : Act → Prop} {a' : Act} : ∀ {l : List Oper} {k : Nat} {b : Act}, b.defers = a'.defers → b.tmps.size = a'.tmps.size →
    (∀ t, (∀ o ∈ l, o.dst ≠ some t) → b.tmps[t]? = a'.tmps[t]?) → (∀ j o, l[j]? = some o → o.dst ≠ none → T (k + j) (vof a' o.dst) w) → finP T w F l k b → F a'
  | [], k, b, hd, hs, hb, hT, h => by
    have e : b = a' := by
      obtain ⟨bt, bd⟩ := b
      obtain ⟨at', ad⟩ := a'
      simp only at hd hs hb
      subst hd
      congr 1
      exact Array.ext_getElem? fun t => hb t (by simp)
    rw [← e]; exact h
  | o :: r, k, b, hd, hs, hb, hT, h => by
    unfold finP at h
    cases ho : o.dst with
    | none =>
      rw [ho] at h
      refine finP_to hd hs (fun t ht => hb t (fun x hx => ?_)) (fun j x hx hn => ?_) h
      · rcases List.mem_cons.1 hx with rfl | hx
        · rw [ho]; simp
        · exact ht x hx
      · have := hT (j + 1) x (by simpa using hx) hn
        rwa [show k + (j + 1) = k + 1 + j from by omega] at this
    | some d =>
      rw [ho] at h
      have h0 := hT 0 o (by simp) (by rw [ho]; simp)
      rw [ho] at h0
      have h1 := h (vof a' (some d)) h0
      refine finP_to (by rw [put_defers']; exact hd) (by rw [put_size]; exact hs) (fun t ht => ?_) (fun j x hx hn => ?_) h1
      · by_cases e : d = t
        · subst e
          rcases Nat.lt_or_ge d b.tmps.size with hlt | hge
          · rw [put_same _ _ _ hlt]
            simp only [vof, tv]
            rw [Array.getD_eq_getD_getElem?, Array.getElem?_eq_getElem (by omega)]
            rfl
          · rw [Array.getElem?_eq_none (by rw [put_size]; omega), Array.getElem?_eq_none (by omega)]
        · rw [put_ne _ _ _ (by simpa using e)]
          refine hb t fun x hx => ?_
          rcases List.mem_cons.1 hx with rfl | hx
          · rw [ho]; simpa using e
          · exact ht x hx
      · have := hT (j + 1) x (by simpa using hx) hn
        rwa [show k + (j + 1) = k + 1 + j from by omega] at this
theorem wp_of_gives {o : Oper} {a : Act} {w : World} {K : Value → World → Prop} {N : Act → World → Prop} {Q : Exit → Act → World → Prop} (h : givesUpon P K ((execOp a.eval o).run P w)) (hN : ∀ v w', K v w' → N (a.put o.dst v) w') : o.wp P a w N Q := by
  unfold Oper.wp
  generalize (execOp a.eval o).run P w = r at *
  cases r with
  | ok n w' =>
    cases n <;> simp only [givesUpon] at h <;> simp only [Oper.upon]
    case value u => exact hN _ _ h
    case skip => exact hN _ _ h
    case enter f args => exact h.mono fun e w'' ⟨v, he, hk⟩ => by subst he; exact hN _ _ hk
  | halt x w' => simp only [givesUpon] at h
theorem wp_region_rg {id : Nat} {l : List Oper} {Q : Exit → Act → World → Prop} {a0 : Act} {w : World} (T : Nat → Value → World → Prop) (R : World → World → Prop) (I : Nat → World → Prop)
    (hm : P.follows .mixedOrders = true) (hB : rgB l a0.tmps.size = true) (hRr : ∀ a, R a a) (hRt : ∀ a b c, R a b → R b c → R a c) (hTs : ∀ k v a b, T k v a → R a b → T k v b) (hI0 : I 0 w.drew)
    (hops : opsOK P l T R I a0 w.drew l 0) (hfin : ∀ w', R w.drew w' → I l.length w' → finP T w' (fun a' => Q .normal a' w') l 0 a0) : (Code.region id l.toArray true).wp P Q a0 w := by
  simp only [rgB, Bool.and_eq_true] at hB
  obtain ⟨hns, hB⟩ := hB
  have hB' : ∀ (i : Nat) (o : Oper), l[i]? = some o → (∀ e ∈ o.after, e.on < i) ∧ (∀ d, o.dst = some d → d < a0.tmps.size ∧ dstIdx d l 0 = some i) ∧ (∀ t ∈ o.looksAt l.toArray, ∀ j, dstIdx t l 0 = some j → ∃ e ∈ o.after, e.on = j ∧ Region.binds .any e = true) := by
    intro i o ho
    have hlt := (List.getElem?_eq_some_iff.1 ho).1
    have h1 := List.all_eq_true.1 hB i (List.mem_range.2 hlt)
    simp only [ho, Bool.and_eq_true] at h1
    obtain ⟨⟨h1, h2⟩, h3⟩ := h1
    refine ⟨fun e he => by have := List.all_eq_true.1 h1 e (by simpa using he); simpa using this, fun d hd => ?_, fun t ht j hj => ?_⟩
    · rw [hd] at h2
      simp only [Option.all_some, Bool.and_eq_true, decide_eq_true_eq, beq_iff_eq] at h2
      exact h2
    · have h4 := List.all_eq_true.1 h3 t ht
      rw [hj] at h4
      obtain ⟨e, he, h5⟩ := List.any_eq_true.1 h4
      simp only [Bool.and_eq_true, beq_iff_eq] at h5
      exact ⟨e, by simpa using he, h5⟩
  have hdist : ∀ (i : Nat) (o : Oper) (j : Nat) (p : Oper), l[i]? = some o → l[j]? = some p → i ≠ j → ∀ d, o.dst = some d → p.dst ≠ some d := by
    intro i o j p ho hp hij d hd hpd
    have h1 := ((hB' i o ho).2.1 d hd).2
    rw [((hB' j p hp).2.1 d hpd).2] at h1
    injection h1 with h1
    exact hij h1.symm
  have main : ∀ (fuel m : Nat) (listed : Array Bool) (a : Act) (w' : World), cntF (fun i => listed.getD i true) l.length = fuel → listed.size = l.length → fuel + m = l.length → RJ l T R I a0 w.drew m listed a w' →
      wpAny P .any l.toArray Q fuel listed a w' := by
    intro fuel
    have hdone : ∀ (m : Nat) (listed : Array Bool) (a : Act) (w' : World), m = l.length → (∀ i, i < l.length → listed.getD i false = true) → RJ l T R I a0 w.drew m listed a w' → Q .normal a w' := by
      rintro m listed a w' rfl hall ⟨hR, hI, hd, hs, ht, hT⟩
      refine finP_to (T := T) (w := w') (F := fun a' => Q .normal a' w') (l := l) (k := 0) (b := a0) hd.symm hs.symm (fun t h => ?_) (fun j o ho hn => ?_) (hfin w' hR hI)
      · exact (ht t fun j o ho _ => h o (List.mem_of_getElem? ho)).symm
      · rw [Nat.zero_add]; exact hT j o ho (hall j (List.getElem?_eq_some_iff.1 ho).1) hn
    have hnil : ∀ (listed : Array Bool), listed.size = l.length → Region.ready .any l.toArray listed = [] → ∀ i, i < l.length → listed.getD i false = true := by
      intro listed hls hr i
      induction i using Nat.strongRecOn with
      | ind i ih =>
        intro hi
        by_cases hl : listed.getD i false = true
        · exact hl
        · exfalso
          have ho : l[i]? = some l[i] := List.getElem?_eq_getElem hi
          have hmem : i ∈ Region.ready .any l.toArray listed := mem_ready.2 ⟨by
            rw [Array.getD_eq_getD_getElem?, Array.getElem?_eq_getElem (by omega)] at *
            simp only [Option.getD_some, Bool.not_eq_true] at *
            exact hl, l[i], by simp, fun e he _ => ih e.on ((hB' i _ ho).1 e he) (by have := (hB' i _ ho).1 e he; omega)⟩
          rw [hr] at hmem
          cases hmem
    induction fuel with
    | zero =>
      intro m listed a w' hc hls hm' hJ
      have hall : ∀ i, i < l.length → listed.getD i false = true := fun i hi => by
        have := cntF_zero hc i hi
        rw [Array.getD_eq_getD_getElem?, Array.getElem?_eq_getElem (by omega)] at *
        simpa using this
      refine ⟨?_, hdone m listed a w' (by omega) hall hJ⟩
      cases hr : Region.ready .any l.toArray listed with
      | nil => rfl
      | cons x xs =>
        exfalso
        obtain ⟨h0, o, ho, _⟩ := mem_ready.1 (show x ∈ Region.ready .any l.toArray listed by rw [hr]; exact List.mem_cons_self)
        have hlt : x < l.length := by have := (Array.getElem?_eq_some_iff.1 ho).1; simpa using this
        have := hall x hlt
        rw [Array.getD_eq_getD_getElem?, Array.getElem?_eq_getElem (by omega)] at *
        simp at h0 this
        rw [h0] at this
        cases this
    | succ fuel ih =>
      intro m listed a w' hc hls hm' hJ
      refine ⟨fun hr => ?_, fun i hi => ?_⟩
      · exfalso
        have hall := hnil listed hls hr
        have : cntF (fun i => listed.getD i true) l.length = 0 := by
          rw [cntF_same (g := fun _ => true) (fun i hi => by
            have := hall i hi
            rw [Array.getD_eq_getD_getElem?, Array.getElem?_eq_getElem (by omega)] at *
            simpa using this)]
          clear hc hm' hls
          induction l.length with
          | zero => rfl
          | succ n ihn => simp [cntF, ihn]
        omega
      · obtain ⟨h0, o, ho', hall⟩ := mem_ready.1 hi
        have ho : l[i]? = some o := by simpa using ho'
        have hlt : i < l.length := (List.getElem?_eq_some_iff.1 ho).1
        obtain ⟨hR, hI, hd, hs, ht, hT⟩ := hJ
        obtain ⟨b1, b2, b3⟩ := hB' i o ho
        have hlook : ∀ t ∈ o.looksAt l.toArray, match dstIdx t l 0 with | some j => T j (tv a t) w' | none => tv a t = tv a0 t := by
          intro t htm
          cases hj : dstIdx t l 0 with
          | none =>
            refine tv_of (ht t fun j p hp _ => dstIdx_none hj p (List.mem_of_getElem? hp))
          | some j =>
            obtain ⟨e, he, rfl, hb⟩ := b3 t htm j hj
            obtain ⟨_, p, hp, hpd⟩ := dstIdx_some hj
            have := hT e.on p (by simpa using hp) (hall e he hb) (by rw [hpd]; simp)
            rw [hpd] at this
            exact this
        have hop := look_of hlook (opsOK_at hops ho m a w' (by omega) hR hI)
        rw [Nat.zero_add] at hop
        have hget : ∀ d, (listed.setIfInBounds i true).getD i d = true := fun d => by
          rw [Array.getD_eq_getD_getElem?, Array.getElem?_setIfInBounds_self_of_lt (by omega)]; rfl
        have next : ∀ v w1, T i v w1 → R w' w1 → I (m + 1) w1 → wpAny P .any l.toArray Q fuel (listed.setIfInBounds i true) (a.put o.dst v) w1 := by
          intro v w1 hTv hR1 hI1
          refine ih (m + 1) _ _ _ ?_ (by simpa using hls) (by omega) ⟨hRt _ _ _ hR hR1, hI1, (put_defers' _ _ _).trans hd, (put_size _ _ _).trans hs, fun t h => ?_, fun j p hp hl hn => ?_⟩
          · have := cntF_set (f := fun i => listed.getD i true) (g := fun j => (listed.setIfInBounds i true).getD j true) (i := i) h0 (hget true) (fun j hj => getD_set_ne true (Ne.symm hj)) hlt
            omega
          · have hne : o.dst ≠ some t := h i o ho (hget false)
            rw [put_ne _ _ _ hne]
            exact ht t fun j p hp hl => h j p hp (getD_set_true hl)
          · by_cases e : i = j
            · subst e
              rw [ho] at hp
              obtain rfl := Option.some.inj hp
              cases hod : o.dst with
              | none => exact absurd hod hn
              | some d =>
                have : tv (a.put (some d) v) d = v := by
                  unfold tv
                  rw [Array.getD_eq_getD_getElem?, put_same _ _ _ (by rw [hs]; exact (b2 d hod).1)]
                  rfl
                simp only [vof]
                rw [this]
                exact hTv
            · rw [getD_set_ne false e] at hl
              have h2 := hTs j _ w' w1 (hT j p hp hl hn) hR1
              cases hpd : p.dst with
              | none => exact absurd hpd hn
              | some d =>
                rw [hpd] at h2
                simp only [vof] at h2 ⊢
                rw [show tv (a.put o.dst v) d = tv a d from tv_of (put_ne _ _ _ (fun hod => hdist i o j p ho hp e d hod hpd))]
                exact h2
        unfold wpOp
        simp only [ho']
        cases hg : o.guard with
        | none =>
          rw [hg] at hop
          rw [if_pos (by simp [Region.wanted, hg])]
          exact .inl (wp_of_gives hop fun v w1 ⟨h1, h2, h3⟩ => next v w1 h1 h2 h3)
        | some g =>
          rw [hg] at hop
          obtain ⟨g1, g2⟩ := hop
          split
          · rename_i hw
            exact .inl (wp_of_gives (g1 hw) fun v w1 ⟨h1, h2, h3⟩ => next v w1 h1 h2 h3)
          · rename_i hw
            obtain ⟨h1, h2⟩ := g2 (by simpa using hw)
            exact next undef w' h1 (hRr _) h2
  refine wp_region_any hm ?_
  refine main l.toArray.size 0 _ a0 w.drew ?_ (by simp) (by simp) ⟨hRr _, hI0, rfl, rfl, fun t _ => rfl, fun j o ho hl => ?_⟩
  · have : ∀ n, n ≤ l.length → cntF (fun i => (Array.replicate l.toArray.size false).getD i true) n = n := by
      intro n
      induction n with
      | zero => intro _; rfl
      | succ n ihn =>
        intro hn
        simp only [cntF]
        rw [ihn (by omega)]
        have : (Array.replicate l.toArray.size false).getD n true = false := by
          rw [Array.getD_eq_getD_getElem?, Array.getElem?_replicate, if_pos (by simp; omega)]; rfl
        rw [if_neg (by rw [this]; decide)]
    simpa using this l.length (Nat.le_refl _)
  · exfalso
    rw [Array.getD_eq_getD_getElem?, Array.getElem?_replicate] at hl
    split at hl <;> simp at hl
/-- what an operation leans on, written out: which temporaries, filled by which operations -/
def lookD (T : Nat → Value → World → Prop) (a0 a : Act) (w : World) : List (Tmp × Option Nat) → Prop → Prop
  | [], G => G
  | (t, some j) :: r, G => T j (a.eval (.tmp t)) w → lookD T a0 a w r G
  | (t, none) :: r, G => a.eval (.tmp t) = a0.eval (.tmp t) → lookD T a0 a w r G
def dsB (ops : List Oper) (o : Oper) (ds : List (Tmp × Option Nat)) : Bool := (o.looksAt ops.toArray == ds.map (·.1)) && ds.all fun p => dstIdx p.1 ops 0 == p.2
theorem look_ds {ops : List Oper} {T : Nat → Value → World → Prop} {a0 a : Act} {w : World} {G : Prop} : ∀ {ds : List (Tmp × Option Nat)}, (∀ p ∈ ds, dstIdx p.1 ops 0 = p.2) → lookD T a0 a w ds G → look ops T a0 a w (ds.map (·.1)) G
  | [], _, h => h
  | (t, some j) :: r, hd, h => by
    have e := hd _ List.mem_cons_self
    simp only at e
    unfold lookD at h
    simp only [List.map_cons, look, e]
    exact fun x => look_ds (fun p hp => hd p (List.mem_cons_of_mem _ hp)) (h x)
  | (t, none) :: r, hd, h => by
    have e := hd _ List.mem_cons_self
    simp only at e
    unfold lookD at h
    simp only [List.map_cons, look, e]
    exact fun x => look_ds (fun p hp => hd p (List.mem_cons_of_mem _ hp)) (h x)
theorem opOK_ds {ops : List Oper} {T : Nat → Value → World → Prop} {R : World → World → Prop} {I : Nat → World → Prop} {a0 : Act} {w0 : World} {k : Nat} {o : Oper} (ds : List (Tmp × Option Nat)) (hB : dsB ops o ds = true) (hg : o.guard = none)
    (h : ∀ (m : Nat) (a : Act) (w : World), m < ops.length → R w0 w → I m w → lookD T a0 a w ds (givesUpon P (fun v w' => T k v w' ∧ R w w' ∧ I (m + 1) w') ((execOp a.eval o).run P w))) : opOK P ops T R I a0 w0 k o := by
  intro m a w hm hR hI
  simp only [dsB, Bool.and_eq_true, beq_iff_eq] at hB
  obtain ⟨h1, h2⟩ := hB
  rw [h1]
  refine look_ds (fun p hp => by have := List.all_eq_true.1 h2 p hp; simpa using this) ?_
  have := h m a w hm hR hI
  rw [hg]
  exact this
theorem wp_region_rgl {id : Nat} {l : List Oper} {Q : Exit → Act → World → Prop} {a0 : Act} {w : World} (T : Nat → Value → World → Prop) (R : World → World → Prop) (I : Nat → World → Prop)
    (hm : P.follows .mixedOrders = true) (hB : rgB l a0.tmps.size = true) (hRr : ∀ a, R a a) (hRt : ∀ a b c, R a b → R b c → R a c) (hTs : ∀ k v a b, T k v a → R a b → T k v b) (hI0 : I 0 w.drew)
    (hops : opsOK P l T R I a0 w.drew l 0) (hfin : ∀ w', R w.drew w' → I l.length w' → finP T w' (fun a' => Q .normal a' w') l 0 a0) : (Code.region id l.toArray true).wp P Q a0 w := wp_region_rg T R I hm hB hRr hRt hTs hI0 hops hfin
end
end Go.Proofs.YtjdjahckdgbkbaeDoor
end
