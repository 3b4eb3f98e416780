import Derived.Test.YtjdjahckdgbkbaeDoorQ04
import Derived.OwnWalk
import Derived.IntWalk
import Derived.Deep.Cut
section
namespace Go.Proofs.YtjdjahckdgbkbaeDoor
set_option linter.unusedVariables false
/-- each part, without a rest -/
def baseM (n S : Int) (ws : List Int) : List Int := ws.map (fun x => n * x / S)
/-- the first ones that have a weight get 1 more, as many as are missing -/
def onesM : Int → List Int → List Int → List Int
  | m, x :: ws, b :: bs => if 0 < x ∧ 0 < m then (b + 1) :: onesM (m - 1) ws bs else b :: onesM m ws bs
  | _, _, bs => bs
def spreadM (n : Int) (ws : List Int) : List Int :=
  if sumI ws = 0 then (List.replicate ws.length 0).set (ws.length - 1) n
  else onesM (n - sumI (baseM n (sumI ws) ws)) ws (baseM n (sumI ws) ws)
theorem baseM_len (n S : Int) (ws : List Int) : (baseM n S ws).length = ws.length := by simp [baseM]
theorem onesM_len : ∀ {m : Int} {ws bs : List Int}, (onesM m ws bs).length = bs.length
  | m, [], bs => by simp [onesM]
  | m, x :: ws, [] => by simp [onesM]
  | m, x :: ws, b :: bs => by
    unfold onesM
    split <;> simp [onesM_len]
theorem spreadM_len {n : Int} {ws : List Int} : (spreadM n ws).length = ws.length := by
  unfold spreadM
  split
  · simp
  · rw [onesM_len, baseM_len]
theorem onesM_zero : ∀ {m : Int} {ws bs : List Int}, m ≤ 0 → onesM m ws bs = bs
  | m, [], bs, h => by simp [onesM]
  | m, x :: ws, [], h => by simp [onesM]
  | m, x :: ws, b :: bs, h => by
    unfold onesM
    rw [if_neg (by omega), onesM_zero h]
/-- how many have a weight -/
def cntP : List Int → Int
  | [] => 0
  | x :: t => (if 0 < x then 1 else 0) + cntP t
theorem cntP_bd : ∀ ws : List Int, 0 ≤ cntP ws ∧ cntP ws ≤ ws.length
  | [] => by simp [cntP]
  | x :: t => by
    have := cntP_bd t
    simp only [cntP, List.length_cons]
    split <;> omega
theorem sumI_nonneg {L : List Int} (h : ∀ x ∈ L, 0 ≤ x) : 0 ≤ sumI L := by
  induction L with
  | nil => exact Int.le_refl _
  | cons x t ih =>
    have h1 := h x List.mem_cons_self
    have h2 := ih (fun q hq => h q (List.mem_cons_of_mem _ hq))
    simp only [sumI]; omega
theorem mul_sum (n : Int) : ∀ ws : List Int, n * sumI ws = sumI (ws.map (fun x => n * x))
  | [] => by simp [sumI]
  | x :: t => by simp only [sumI, List.map_cons, Int.mul_add, mul_sum n t]
/-- what the parts without a rest leave: at least 0, and less than the positive weights are many, or 0 -/
theorem left_bd {n S : Int} (hn : 0 ≤ n) (hS : 0 < S) : ∀ {ws : List Int}, (∀ x ∈ ws, 0 ≤ x) → 0 ≤ n * sumI ws - S * sumI (baseM n S ws) ∧ n * sumI ws - S * sumI (baseM n S ws) ≤ (S - 1) * cntP ws
  | [], _ => by simp [sumI, baseM, cntP]
  | x :: t, h => by
    have ih := left_bd hn hS (ws := t) (fun q hq => h q (List.mem_cons_of_mem _ hq))
    have hx := h x List.mem_cons_self
    have e := Int.mul_ediv_add_emod (n * x) S
    have r0 := Int.emod_nonneg (n * x) (show S ≠ 0 by omega)
    have r1 := Int.emod_lt_of_pos (n * x) hS
    have eb : sumI (baseM n S (x :: t)) = n * x / S + sumI (baseM n S t) := rfl
    rw [eb]
    simp only [sumI, cntP, Int.mul_add]
    generalize n * x / S = q at *
    generalize (n * x) % S = r at *
    generalize n * sumI t = u at *
    generalize S * sumI (baseM n S t) = v at *
    generalize (S - 1) * cntP t = z at *
    by_cases hp : 0 < x
    · simp only [if_pos hp, Int.mul_one]
      omega
    · have hx0 : x = 0 := by omega
      subst hx0
      simp only [Int.mul_zero] at e ⊢
      simp only [Int.lt_irrefl, if_false, Int.mul_zero]
      have hsq : S * q = 0 ∨ S * q ≠ 0 := by omega
      have hr : r = 0 := by
        have : S * q + r = 0 := e
        rcases Int.lt_or_le q 0 with hq | hq
        · have : S * q ≤ S * (-1) := Int.mul_le_mul_of_nonneg_left (by omega) (by omega)
          omega
        · have : 0 ≤ S * q := Int.mul_nonneg (by omega) hq
          omega
      omega
theorem miss_bd {n : Int} {ws : List Int} (hn : 0 ≤ n) (h : ∀ x ∈ ws, 0 ≤ x) (hS : sumI ws ≠ 0) : 0 ≤ n - sumI (baseM n (sumI ws) ws) ∧ n - sumI (baseM n (sumI ws) ws) ≤ cntP ws := by
  have h0 := sumI_nonneg h
  have hS' : 0 < sumI ws := by omega
  obtain ⟨a1, a2⟩ := left_bd hn hS' h
  have hc := (cntP_bd ws).1
  generalize sumI (baseM n (sumI ws) ws) = B at *
  generalize hs : sumI ws = S at *
  have e : n * S - S * B = S * (n - B) := by rw [Int.mul_sub, Int.mul_comm n S]
  rw [e] at a1 a2
  have e2 : (S - 1) * cntP ws = S * cntP ws - cntP ws := by rw [Int.sub_mul, Int.one_mul]
  rw [e2] at a2
  generalize cntP ws = C at *
  constructor
  · rcases Int.lt_or_le (n - B) 0 with hq | hq
    · have : S * (n - B) ≤ S * (-1) := Int.mul_le_mul_of_nonneg_left (by omega) (by omega)
      omega
    · exact hq
  · rcases Int.lt_or_le C (n - B) with hq | hq
    · have : S * (C + 1) ≤ S * (n - B) := Int.mul_le_mul_of_nonneg_left (by omega) (by omega)
      rw [Int.mul_add, Int.mul_one] at this
      omega
    · exact hq
theorem base_bd {n S x : Int} (hn : 0 ≤ n) (hS : 0 < S) (h0 : 0 ≤ x) (hx : x ≤ S) : 0 ≤ n * x / S ∧ n * x / S ≤ n := by
  refine ⟨Int.ediv_nonneg (Int.mul_nonneg hn h0) (by omega), ?_⟩
  have h1 : n * x ≤ n * S := Int.mul_le_mul_of_nonneg_left hx hn
  have h2 := Int.ediv_le_ediv hS h1
  rwa [Int.mul_ediv_cancel _ (by omega)] at h2
theorem mem_le_sum : ∀ {ws : List Int}, (∀ x ∈ ws, 0 ≤ x) → ∀ x ∈ ws, x ≤ sumI ws
  | [], _, x, hx => by cases hx
  | y :: t, h, x, hx => by
    have h1 := h y List.mem_cons_self
    have h2 := sumI_nonneg (L := t) (fun q hq => h q (List.mem_cons_of_mem _ hq))
    simp only [sumI]
    rcases List.mem_cons.1 hx with rfl | hx
    · omega
    · have := mem_le_sum (ws := t) (fun q hq => h q (List.mem_cons_of_mem _ hq)) x hx
      omega
end Go.Proofs.YtjdjahckdgbkbaeDoor
end
section
namespace Go.Proofs.YtjdjahckdgbkbaeDoor
open Go.RowKit
set_option linter.unusedVariables false
set_option maxHeartbeats 1000000
/-- weights of lines -/
def wsOK (ws : List Int) : Prop := (∀ x ∈ ws, 0 ≤ x ∧ x ≤ 5) ∧ 1 ≤ ws.length ∧ ws.length ≤ 5
theorem wsOK.sum {ws : List Int} (h : wsOK ws) : 0 ≤ sumI ws ∧ sumI ws ≤ 25 := by
  have := sumI_bd h.1
  have := h.2.2
  omega
theorem wsOK.smal {ws : List Int} (h : wsOK ws) : Smal 1000000000000000 ws := smal_of (b := 5) (fun x hx => by have := h.1 x hx; omega) (by omega) (by have := h.2.2; omega)
theorem wsOK.nn {ws : List Int} (h : wsOK ws) : ∀ x ∈ ws, 0 ≤ x := fun x hx => (h.1 x hx).1
theorem base_get {n S : Int} {ws : List Int} {k : Nat} {x : Int} (h : ws[k]? = some x) : (baseM n S ws)[k]? = some (n * x / S) := by
  simp [baseM, h]
/-- so far, and 0 -/
def mixM (B : List Int) (k : Nat) : List Int := B.take k ++ List.replicate (B.length - k) 0
theorem mixM_zero (B : List Int) : mixM B 0 = List.replicate B.length 0 := by simp [mixM]
theorem mixM_all (B : List Int) : mixM B B.length = B := by simp [mixM]
theorem mixM_set {B : List Int} {k : Nat} {b : Int} (h : B[k]? = some b) : (mixM B k).set k b = mixM B (k + 1) := by
  obtain ⟨hk, e⟩ := List.getElem?_eq_some_iff.1 h
  unfold mixM
  rw [List.set_append_right _ _ (by rw [List.length_take]; omega)]
  have h1 : B.length - k = (B.length - (k + 1)) + 1 := by omega
  rw [h1, List.replicate_succ]
  have h2 : k - (B.take k).length = 0 := by rw [List.length_take]; omega
  rw [h2, List.set_cons_zero, List.take_succ_eq_append_getElem hk, e]
  simp
theorem mixM_get {B : List Int} {k : Nat} (hk : k < B.length) : ∃ x, (mixM B k)[k]? = some x := by
  unfold mixM
  rw [List.getElem?_append_right (by rw [List.length_take]; omega)]
  have : k - (B.take k).length = 0 := by rw [List.length_take]; omega
  rw [this]
  exact ⟨0, by rw [List.getElem?_replicate, if_pos (by omega)]⟩
theorem mixM_get' {B : List Int} {k : Nat} {b : Int} (h : B[k]? = some b) : (mixM B (k + 1))[k]? = some b := by
  obtain ⟨hk, e⟩ := List.getElem?_eq_some_iff.1 h
  unfold mixM
  rw [List.getElem?_append_left (by rw [List.length_take]; omega), List.getElem?_take, if_pos (by omega), h]
theorem smal_base {n : Int} {ws : List Int} (hn : 0 ≤ n) (hn2 : n ≤ 100000000000000) (h : wsOK ws) (hS : sumI ws ≠ 0) : Smal 1000000000000000 (baseM n (sumI ws) ws) := by
  refine smal_of (b := 100000000000000) (fun x hx => ?_) (by omega) (by rw [baseM_len]; have := h.2.2; omega)
  obtain ⟨y, hy, rfl⟩ := List.mem_map.1 hx
  have h0 := h.sum
  have := base_bd (n := n) (S := sumI ws) (x := y) hn (by omega) (h.nn y hy) (mem_le_sum h.nn y hy)
  omega
theorem last_set {n : Int} {ws : List Int} {j : Nat} (hj : ws.length = j + 1) (h0 : sumI ws = 0) : (List.replicate ws.length (0 : Int)).set j n = spreadM n ws := by
  unfold spreadM
  rw [if_pos h0]
  congr 1
  omega
theorem wadd_mul {n x : Int} (hn : 0 ≤ n) (hn2 : n ≤ 100000000000000) (h0 : 0 ≤ x) (h5 : x ≤ 5) : 0 ≤ n * x ∧ n * x ≤ 500000000000000 :=
  ⟨Int.mul_nonneg hn h0, Int.le_trans (Int.mul_le_mul hn2 h5 h0 (by omega)) (by omega)⟩
theorem drop_consI {L : List Int} {k : Nat} {p : Int} (h : L[k]? = some p) : L.drop k = p :: L.drop (k + 1) := by
  have hk := (List.getElem?_eq_some_iff.1 h).1
  have e := (List.getElem?_eq_some_iff.1 h).2
  rw [List.drop_eq_getElem_cons hk, e]
theorem set_here {P R : List Int} {k : Nat} {y z : Int} (h : P.length = k) : (P ++ y :: R).set k z = P ++ z :: R := by
  rw [List.set_append_right _ _ (by omega)]
  have : k - P.length = 0 := by omega
  rw [this, List.set_cons_zero]
theorem onesM_nil (m : Int) (ws : List Int) : onesM m ws [] = [] := by cases ws <;> simp [onesM]
theorem sum_n (A : Option Addr) (c n : Nat) (L : List Int) (w : World) (h : NV w A L) (hn : n = L.length) (hL : n ≤ 1048576) (hM : Smal 1000000000000000 L) :
    Calls Tryd.prog 44 #[.slice A n c] w fun e w' => e = .returned (.int .i64 (sumI L)) ∧ w = w' := by subst hn; exact sum_v A c L w h hL hM
theorem total_n (A : Option Addr) (c n : Nat) (L : List Int) (w : World) (h : NV w A L) (hn : n = L.length) (hL : n ≤ 1048576) (hM : Smal 1000000000000000 L) :
    Calls Tryd.prog 35 #[.slice A n c] w fun e w' => e = .returned (.int .i64 (sumI L)) ∧ w = w' := by subst hn; exact total_v A c L w h hL hM
end Go.Proofs.YtjdjahckdgbkbaeDoor
end
section
namespace Go.Proofs.YtjdjahckdgbkbaeDoor
open Go.RowKit
set_option linter.unusedVariables false
set_option maxHeartbeats 1000000
attribute [local go_sem] growUpon_value growUpon_skip growUpon_enter
theorem below_grownI {w w' : World} {B : Nat} {row : Option Nat} (h : w.grownBy w' row) (hr : ∀ g, row = some g → B ≤ g) (hB : B ≤ w.heap.size) : Below B w w' :=
  ⟨h.os, h.tape, h.output, h.size, fun k hk => h.block k (by omega) (fun e => by have := hr k e.symm; omega)⟩
theorem gsetI {w w' : World} {g : Nat} (h : w.grownBy w' (some g)) (o : Nat) (v : Value) : w.grownBy (w'.setCell ⟨g, o, none⟩ v) (some g) :=
  ⟨h.os, h.tape, h.output, by simpa [World.setCell] using h.size, fun k hk hne => (Below.heap_setCell w' ⟨g, o, none⟩ v k (by rintro rfl; exact hne rfl)).trans (h.block k hk hne)⟩
theorem greflI (w : World) (g : Nat) : w.grownBy w (some g) := ⟨rfl, rfl, rfl, Nat.le_refl _, fun _ _ _ => rfl⟩
/-- the value reads as the list -/
def NR (w : World) (v : Value) (L : List Int) : Prop := ∃ A c, v = .slice A L.length c ∧ NV w A L
theorem NR.keep {w w' : World} {v : Value} {L : List Int} (h : NR w v L) (hb : Below w.heap.size w w') : NR w' v L := let ⟨A, c, e, n⟩ := h; ⟨A, c, e, n.keep hb⟩
theorem IB.nr {w : World} {g n : Nat} {L : List Int} (h : IB w g L) (hn : n = L.length) (m : Nat) : NR w (.slice (some ⟨g, 0, none⟩) n m) L := ⟨_, m, by rw [hn], h.nv⟩
theorem IB.but {w w' : World} {g h : Nat} {L : List Int} (hi : IB w h L) (hg : w.grownBy w' (some g)) (hne : h ≠ g) : IB w' h L := (hg.block h hi.lt (fun e => hne (Option.some.inj e))).trans hi
/-- a list in a block that was made from lo on, or none -/
def GI (lo : Nat) (w : World) (v : Value) (L : List Int) : Prop := (v = .slice none 0 0 ∧ L = []) ∨ ∃ g n, v = .slice (some ⟨g, 0, none⟩) n n ∧ n = L.length ∧ lo ≤ g ∧ IB w g L
theorem GI.nr {lo : Nat} {w : World} {v : Value} {L : List Int} (h : GI lo w v L) : NR w v L := by
  rcases h with ⟨rfl, rfl⟩ | ⟨g, n, rfl, hn, _, hk⟩
  · exact ⟨none, 0, rfl, NV.nil _ _⟩
  · exact hk.nr hn n
theorem GI.keep {lo : Nat} {w w' : World} {v : Value} {L : List Int} (h : GI lo w v L) (hb : Below w.heap.size w w') : GI lo w' v L := h.imp id fun ⟨g, n, h1, h2, h3, hk⟩ => ⟨g, n, h1, h2, h3, hk.keep hb⟩
theorem GI.but {lo g0 : Nat} {w w' : World} {v : Value} {L : List Int} (h : GI lo w v L) (hb : w.grownBy w' (some g0)) (hg : g0 < lo) : GI lo w' v L := h.imp id fun ⟨g, n, h1, h2, h3, hk⟩ => ⟨g, n, h1, h2, h3, hk.but hb (by omega)⟩
def MKI (n : Nat) : List Int := (List.range n).map (fun i : Nat => (i : Int) + 1)
theorem MKI_len (n : Nat) : (MKI n).length = n := by simp [MKI]
theorem MKI_get {n k : Nat} (h : k < n) : (MKI n)[k]? = some ((k : Int) + 1) := by simp [MKI, h]
def GIM (w : World) (v : Value) (n : Nat) : Prop := (v = .slice none 0 0 ∧ n = 0) ∨ ∃ g, v = .slice (some ⟨g, 0, none⟩) n n ∧ IB w g (MKI n)
theorem GIM.keep {w w' : World} {v : Value} {n : Nat} (h : GIM w v n) (hb : Below w.heap.size w w') : GIM w' v n := h.imp id fun ⟨g, h1, hk⟩ => ⟨g, h1, hk.keep hb⟩
set_option maxRecDepth 100000 in
theorem toIntS_any (A : Option Addr) (c : Nat) (L : List Int) (w : World) (h : NV w A L) (hL : L.length ≤ 1048576) :
    Calls Tryd.prog 46 #[.slice A L.length c] w fun e w' => e = .returned (.slice (some ⟨w.heap.size, 0, none⟩) L.length L.length) ∧ IB w' w.heap.size L ∧ Below w.heap.size w w' := by
  have hmk : ∀ w : World, (Instr.makeSlice 33 (.int .i64 (L.length : Int)) (.int .i64 (L.length : Int))).run Tryd.prog w = .ok (.slice (some ⟨w.heap.size, 0, none⟩) L.length L.length) (w.alloc (.cells (ivals (List.replicate L.length 0)) 3)) := fun w => madeI L.length w hL
  go_enter Tryd.func46, Tryd.ntmps46
  go_wp2_with fail
  have hI0 := makeI_b L.length w
  have hB0 : Below w.heap.size w (w.alloc (.cells (ivals (List.replicate L.length 0)) 3)) := balloc (Below.refl _ _)
  rw [← mixM_zero] at hI0
  have HI0 := Lib.hid hI0
  have HB0 := Lib.hid hB0
  clear hmk hI0 hB0
  go_loopw [4] (fun i wr => ∃ k : Nat, k ≤ L.length ∧ i = .int .i64 k ∧ IB wr w.heap.size (mixM L k) ∧ Below w.heap.size w wr) (fun i _ => L.length - (intOf i).toNat)
  case atStart => exact ⟨0, by omega, rfl, HI0.out, HB0.out⟩
  case round =>
    obtain ⟨k, hk, rfl, hI, hBr⟩ := hrel
    clear HI0 HB0
    by_cases hlt : k < L.length
    · have hd : decide ((k : Int) < (L.length : Int)) = true := by simpa using hlt
      obtain ⟨b, off, rfl, hb, hp⟩ := (h.keep hBr).cells (by omega)
      have hget : L[k]? = some L[k] := List.getElem?_eq_getElem hlt
      have c0 := hp k _ hget
      generalize hx : L[k] = x at *
      obtain ⟨y, hy⟩ := mixM_get (B := L) (k := k) hlt
      have d0 := hI.cell hy
      have f0 := hI.frozen k
      have hI2 := hI.set k x
      rw [mixM_set hget] at hI2
      have HI2 := Lib.hid hI2
      have HB2 := Lib.hid (hBr.setCell (p := ⟨w.heap.size, k, none⟩) (Nat.le_refl _) (.int .i64 x))
      clear hI hI2 hBr hp hget hx hy
      go_wp2
      go_roundw
      case rel => exact ⟨k + 1, by omega, by go_num, HI2.out, HB2.out⟩
      case measure => simp [intOf]; omega
    · have hd : decide ((k : Int) < (L.length : Int)) = false := by simp; omega
      obtain rfl : k = L.length := by omega
      rw [mixM_all] at hI
      have HI2 := Lib.hid hI
      have HB2 := Lib.hid hBr
      clear hI hBr
      go_wp2
      go_ret
      exact ⟨rfl, HI2.out, HB2.out⟩
set_option maxRecDepth 100000 in
theorem eqIntS_same (v v' : Value) (L : List Int) (w : World) (h : NR w v L) (h' : NR w v' L) (hL : L.length ≤ 1048576) :
    Calls Tryd.prog 47 #[v, v'] w fun e w' => e = .returned (.bool true) ∧ Below w.heap.size w w' := by
  obtain ⟨A, c, rfl, h⟩ := h
  obtain ⟨B, c', rfl, h'⟩ := h'
  go_enter Tryd.func47, Tryd.ntmps47
  go_wp2_with fail
  go_loopw [5] (fun i wr => ∃ k : Nat, k ≤ L.length ∧ i = .int .i64 k ∧ Below w.heap.size w wr) (fun i _ => L.length - (intOf i).toNat)
  case atStart => exact ⟨0, by omega, rfl, Below.refl _ _⟩
  case round =>
    obtain ⟨k, hk, rfl, hB⟩ := hrel
    by_cases hlt : k < L.length
    · have hd : decide ((k : Int) < (L.length : Int)) = true := by simpa using hlt
      obtain ⟨b, off, rfl, hb, hp⟩ := (h.keep hB).cells (by omega)
      obtain ⟨b', off', rfl, hb', hp'⟩ := (h'.keep hB).cells (by omega)
      have hget : L[k]? = some L[k] := List.getElem?_eq_getElem hlt
      have c0 := hp k _ hget
      have d0 := hp' k _ hget
      generalize hx : L[k] = x at *
      have HB := Lib.hid hB
      clear hget hx hp hp' hB
      go_wp2_with fail
      refine wp_region_grow 9 0 (· < 9) (by kernel_rfl) (by kernel_rfl) rfl ?_
      iterate 9 (refine wpG_step (fun K hK => ?_); first | (refine grow_skip rfl ?_; go_simp; refine hK _ ?_; clear hK K) | (apply Exists.intro; refine ⟨.inl ⟨rfl, fun w' hw' => ?_⟩, ?_⟩; (focus ((obtain ⟨hc, hf⟩ := bcell hw'.out); (have hcS := bcellS hw'.out); go_simp <;> first | rfl | (fail))); (go_simp; refine hK _ ?_; clear hK K)))
      refine wpG_nil ?_
      refine wpK_tail (by kernel_rfl) (fun w1 hg1 => ?_)
      have hb1 := bdrewn hg1.out
      refine wpAny_end (by kernel_rfl) ?_
      refine NoPan.thn ?_
      clear hg1
      replace HB := Lib.hid (HB.out.trans (hb1.mono HB.out.size))
      clear hb1 c0 d0
      go_wp2
      go_roundw
      case rel => exact ⟨k + 1, by omega, by go_num, HB.out⟩
      case measure => simp [intOf]; omega
    · have hd : decide ((k : Int) < (L.length : Int)) = false := by simp; omega
      have HB := Lib.hid hB
      clear hB
      go_wp2
      go_ret
      exact ⟨rfl, HB.out⟩
set_option maxRecDepth 100000 in
theorem markIntS_v (g : Nat) (M : List Int) (n : Nat) (w : World) (h : IB w g M) (hn : n = M.length) (hL : n ≤ 1048576) :
    Calls Tryd.prog 48 #[.slice (some ⟨g, 0, none⟩) n n, .int .i64 1] w fun e w' => e = .returned (.int .i64 ((n : Int) + 1)) ∧ IB w' g (MKI n) ∧ w.grownBy w' (some g) := by
  subst hn
  have HI := Lib.hid h
  clear h
  go_enter Tryd.func48, Tryd.ntmps48
  go_wp2_with fail
  go_loopw [1, 5] (fun kv i wr => ∃ k : Nat, k ≤ M.length ∧ i = .int .i64 k ∧ kv = .int .i64 ((k : Int) + 1) ∧ IB wr g ((MKI M.length).take k ++ M.drop k) ∧ w.grownBy wr (some g)) (fun _ i _ => M.length - (intOf i).toNat)
  case atStart => exact ⟨0, by omega, rfl, rfl, by simpa using HI.out, greflI _ _⟩
  case round =>
    obtain ⟨k, hk, rfl, rfl, hI, hgr⟩ := hrel
    clear HI
    by_cases hlt : k < M.length
    · have hd : decide ((k : Int) < (M.length : Int)) = true := by simpa using hlt
      have hget : M[k]? = some M[k] := List.getElem?_eq_getElem hlt
      have hdr := drop_consI hget
      rw [hdr] at hI
      have hlk : ((MKI M.length).take k).length = k := by rw [List.length_take, MKI_len]; omega
      have d0 := hI.cell (i := k) (x := M[k]) (by rw [List.getElem?_append_right (by omega), hlk, Nat.sub_self]; rfl)
      have f0 := hI.frozen k
      have hI2 := hI.set k ((k : Int) + 1)
      rw [set_here hlk] at hI2
      have e3 : (MKI M.length).take k ++ ((k : Int) + 1) :: M.drop (k + 1) = (MKI M.length).take (k + 1) ++ M.drop (k + 1) := by
        have h1 := MKI_get hlt
        obtain ⟨h2, h3⟩ := List.getElem?_eq_some_iff.1 h1
        rw [List.take_succ_eq_append_getElem h2, h3]; simp
      rw [e3] at hI2
      have HI2 := Lib.hid hI2
      have HG2 := Lib.hid (gsetI hgr k (.int .i64 ((k : Int) + 1)))
      generalize M[k] = x at *
      clear hI hI2 hgr hget hdr hlk e3
      go_wp2
      go_roundw
      case rel => exact ⟨k + 1, by omega, by go_num, by go_num, HI2.out, HG2.out⟩
      case measure => simp [intOf]; omega
    · have hd : decide ((k : Int) < (M.length : Int)) = false := by simp; omega
      obtain rfl : k = M.length := by omega
      have e1 : (MKI M.length).take M.length = MKI M.length := List.take_of_length_le (by rw [MKI_len]; omega)
      rw [e1, List.drop_length, List.append_nil] at hI
      have HI2 := Lib.hid hI
      have HG2 := Lib.hid hgr
      clear hI hgr e1
      go_wp2
      go_ret
      exact ⟨rfl, HI2.out, HG2.out⟩
set_option maxRecDepth 100000 in
theorem markIntS_nil (w : World) : Calls Tryd.prog 48 #[.slice none 0 0, .int .i64 1] w fun e w' => e = .returned (.int .i64 1) ∧ w' = w := by
  go_enter Tryd.func48, Tryd.ntmps48
  go_wp2_with fail
  go_loop [1, 5] (fun kv i => kv = .int .i64 1 ∧ i = .int .i64 0) (fun _ _ => 0)
  case atStart => exact ⟨rfl, rfl⟩
  case round =>
    obtain ⟨rfl, rfl⟩ := hrel
    go_wp2
    go_ret
    exact ⟨rfl, rfl⟩
set_option maxRecDepth 100000 in
theorem heldIntS_v (g : Nat) (n : Nat) (w : World) (h : IB w g (MKI n)) (hL : n ≤ 1048576) :
    Calls Tryd.prog 49 #[.slice (some ⟨g, 0, none⟩) n n, .int .i64 1] w fun e w' => e = .returned (.int .i64 ((n : Int) + 1)) ∧ w' = w := by
  go_enter Tryd.func49, Tryd.ntmps49
  go_wp2_with fail
  go_loop [1, 5] (fun kv i => ∃ k : Nat, k ≤ n ∧ i = .int .i64 k ∧ kv = .int .i64 ((k : Int) + 1)) (fun _ i => n - (intOf i).toNat)
  case atStart => exact ⟨0, by omega, rfl, rfl⟩
  case round =>
    obtain ⟨k, hk, rfl, rfl⟩ := hrel
    by_cases hlt : k < n
    · have hd : decide ((k : Int) < (n : Int)) = true := by simpa using hlt
      have d0 := h.cell (MKI_get hlt)
      go_wp2
      go_round
      case rel => exact ⟨k + 1, by omega, by go_num, by go_num⟩
      case measure => simp [intOf]; omega
    · have hd : decide ((k : Int) < (n : Int)) = false := by simp; omega
      obtain rfl : k = n := by omega
      go_wp2
      go_ret
      exact ⟨rfl, rfl⟩
set_option maxRecDepth 100000 in
theorem heldIntS_nil (w : World) : Calls Tryd.prog 49 #[.slice none 0 0, .int .i64 1] w fun e w' => e = .returned (.int .i64 1) ∧ w' = w := by
  go_enter Tryd.func49, Tryd.ntmps49
  go_wp2_with fail
  go_loop [1, 5] (fun kv i => kv = .int .i64 1 ∧ i = .int .i64 0) (fun _ _ => 0)
  case atStart => exact ⟨rfl, rfl⟩
  case round =>
    obtain ⟨rfl, rfl⟩ := hrel
    go_wp2
    go_ret
    exact ⟨rfl, rfl⟩
theorem markGI (lo : Nat) (w : World) (v : Value) (M : List Int) (h : GI lo w v M) (hM : M.length ≤ 1048576) :
    Calls Tryd.prog 48 #[v, .int .i64 1] w fun e w' => e = .returned (.int .i64 ((M.length : Int) + 1)) ∧ GIM w' v M.length ∧ Below lo w w' := by
  rcases h with ⟨rfl, rfl⟩ | ⟨g, n, rfl, hn, hg0, hk⟩
  · refine (markIntS_nil w).mono ?_
    rintro e w' ⟨rfl, rfl⟩
    exact ⟨rfl, .inl ⟨rfl, rfl⟩, Below.refl _ _⟩
  · have hlo := hk.lt
    refine (markIntS_v g M n w hk hn (by omega)).mono ?_
    rintro e w' ⟨rfl, hk', hg⟩
    subst hn
    exact ⟨rfl, .inr ⟨g, rfl, hk'⟩, below_grownI hg (fun q e => by cases e; exact hg0) (by omega)⟩
theorem heldGI (w : World) (v : Value) (n : Nat) (h : GIM w v n) (hn : n ≤ 1048576) :
    Calls Tryd.prog 49 #[v, .int .i64 1] w fun e w' => e = .returned (.int .i64 ((n : Int) + 1)) ∧ w' = w := by
  rcases h with ⟨rfl, rfl⟩ | ⟨g, rfl, hk⟩
  · exact heldIntS_nil w
  · exact heldIntS_v g n w hk hn
end Go.Proofs.YtjdjahckdgbkbaeDoor
end
section
namespace Go.Proofs.YtjdjahckdgbkbaeDoor
open Go.RowKit
set_option linter.unusedVariables false
set_option maxHeartbeats 1000000
end Go.Proofs.YtjdjahckdgbkbaeDoor
end
section
namespace Go.Proofs.YtjdjahckdgbkbaeDoor
open Go.RowKit
set_option linter.unusedVariables false
set_option maxHeartbeats 1000000
attribute [local go_sem] growUpon_value growUpon_skip growUpon_enter
def wB (x : Int) : Bool := rng x 0 5
def sbB (n : Int) (ws : List Int) : Bool := rng n 0 400 && (rng ws.length 1 5 && ws.all wB)
theorem sbB_yes {n : Int} {ws : List Int} (h : sbB n ws = true) : wsOK ws ∧ 0 ≤ n ∧ n ≤ 400 := by
  simp only [sbB, Bool.and_eq_true, rng_iff, List.all_eq_true, wB] at h
  exact ⟨⟨h.2.2, by omega, by omega⟩, h.1⟩
theorem within_w (n a b : Int) (t : Bool) (w : World) (h : rng n a b = t) : Calls Tryd.prog 30 #[.int .i64 n, .int .i64 a, .int .i64 b] w fun e w' => e = .returned (.bool t) ∧ w = w' := by rw [← h]; exact within_any n a b w
theorem inRange_w (n a b : Int) (t : Bool) (w : World) (h : rng n a b = t) : Calls Tryd.prog 40 #[.int .i64 n, .int .i64 a, .int .i64 b] w fun e w' => e = .returned (.bool t) ∧ w = w' := by rw [← h]; exact inRange_any n a b w
theorem inRange_b (n : Int) (t : Bool) (w : World) (h : wB n = t) : Calls Tryd.prog 40 #[.int .i64 n, .int .i64 0, .int .i64 5] w fun e w' => e = .returned (.bool t) ∧ w = w' := inRange_w n 0 5 t w h
theorem all_snocI {f : Int → Bool} {L : List Int} {k : Nat} {p : Int} (h : L[k]? = some p) : (L.take (k + 1)).all f = ((L.take k).all f && f p) := by
  have hk : k < L.length := (List.getElem?_eq_some_iff.1 h).1
  have e : L[k] = p := (List.getElem?_eq_some_iff.1 h).2
  rw [List.take_succ_eq_append_getElem hk, e]
  simp
end Go.Proofs.YtjdjahckdgbkbaeDoor
end
section
namespace Go.Proofs.YtjdjahckdgbkbaeDoor
set_option linter.unusedVariables false
theorem ones_get : ∀ {m : Int} {ws bs : List Int} {k : Nat} {x b : Int}, ws[k]? = some x → bs[k]? = some b → ∃ y, (onesM m ws bs)[k]? = some y ∧ (y = b ∨ (y = b + 1 ∧ 0 < x))
  | m, [], bs, k, x, b, hx, _ => by simp at hx
  | m, z :: ws, [], k, x, b, _, hb => by simp at hb
  | m, z :: ws, c :: bs, 0, x, b, hx, hb => by
    simp at hx hb
    subst hx hb
    unfold onesM
    split
    · rename_i h; exact ⟨_, rfl, .inr ⟨rfl, h.1⟩⟩
    · exact ⟨_, rfl, .inl rfl⟩
  | m, z :: ws, c :: bs, k + 1, x, b, hx, hb => by
    simp at hx hb
    unfold onesM
    split
    · simpa using ones_get (m := m - 1) hx hb
    · simpa using ones_get (m := m) hx hb
theorem ones_sum : ∀ {m : Int} {ws bs : List Int}, ws.length = bs.length → 0 ≤ m → m ≤ cntP ws → sumI (onesM m ws bs) = sumI bs + m
  | m, [], [], _, h0, h1 => by simp [cntP] at h1; simp [onesM, sumI]; omega
  | m, [], b :: bs, h, _, _ => by simp at h
  | m, x :: ws, [], h, _, _ => by simp at h
  | m, x :: ws, b :: bs, h, h0, h1 => by
    have hl : ws.length = bs.length := by simpa using h
    simp only [cntP] at h1
    have hc := (cntP_bd ws).1
    unfold onesM
    split
    · rename_i hp
      rw [if_pos hp.1] at h1
      have ih := ones_sum (m := m - 1) hl (by omega) (by omega)
      simp only [sumI, ih]; omega
    · rename_i hp
      by_cases hx : 0 < x
      · have hm : m = 0 := by
          by_cases hm : 0 < m
          · exact absurd ⟨hx, hm⟩ hp
          · omega
        subst hm
        have ih := ones_sum (m := 0) hl (by omega) hc
        simp only [sumI, ih]; omega
      · rw [if_neg hx] at h1
        have ih := ones_sum (m := m) hl h0 (by omega)
        simp only [sumI, ih]; omega
theorem sum_replicate : ∀ k : Nat, sumI (List.replicate k 0) = 0
  | 0 => rfl
  | k + 1 => by rw [List.replicate_succ]; simp [sumI, sum_replicate k]
theorem spread_sum {n : Int} {ws : List Int} (hn : 0 ≤ n) (h : wsOK ws) : sumI (spreadM n ws) = n := by
  unfold spreadM
  split
  · obtain ⟨j, hj⟩ : ∃ j, ws.length = j + 1 := ⟨ws.length - 1, by have := h.2.1; omega⟩
    have e : ws.length - 1 = j := by omega
    rw [e, hj, List.replicate_succ', List.set_append_right _ _ (by simp)]
    simp [sumI_append, sum_replicate, sumI]
  · rename_i hS
    obtain ⟨m0, m1⟩ := miss_bd hn h.nn hS
    rw [ones_sum (by rw [baseM_len]) m0 m1]
    omega
/-- each part: at least 0; with weights, as near to n times its weight as can be -/
theorem spread_get {n : Int} {ws : List Int} {k : Nat} {x : Int} (hn : 0 ≤ n) (h : wsOK ws) (hx : ws[k]? = some x) : ∃ y, (spreadM n ws)[k]? = some y ∧ 0 ≤ y ∧ y ≤ n ∧
    (0 < sumI ws → (x = 0 → y = 0) ∧ y * sumI ws ≤ n * x + sumI ws ∧ n * x - sumI ws ≤ y * sumI ws) := by
  obtain ⟨hk, e⟩ := List.getElem?_eq_some_iff.1 hx
  have hxm : x ∈ ws := List.mem_of_getElem? hx
  have hx0 := h.nn x hxm
  have hxs := mem_le_sum h.nn x hxm
  have hs0 := h.sum
  by_cases hS : sumI ws = 0
  · have hl := spreadM_len (n := n) (ws := ws)
    refine ⟨(spreadM n ws)[k]'(by omega), List.getElem?_eq_getElem (by omega), ?_, ?_, fun h0 => by omega⟩
    · have e1 : (spreadM n ws) = (List.replicate ws.length 0).set (ws.length - 1) n := by unfold spreadM; rw [if_pos hS]
      simp only [e1, List.getElem_set, List.getElem_replicate]
      split <;> omega
    · have e1 : (spreadM n ws) = (List.replicate ws.length 0).set (ws.length - 1) n := by unfold spreadM; rw [if_pos hS]
      simp only [e1, List.getElem_set, List.getElem_replicate]
      split <;> omega
  · have hSp : 0 < sumI ws := by omega
    have hsum := spread_sum hn h
    have hb := base_get (n := n) (S := sumI ws) hx
    obtain ⟨b0, b1⟩ := base_bd hn hSp hx0 hxs
    obtain ⟨y, hy, hyb⟩ := ones_get (m := n - sumI (baseM n (sumI ws) ws)) hx hb
    have e1 : spreadM n ws = onesM (n - sumI (baseM n (sumI ws) ws)) ws (baseM n (sumI ws) ws) := by unfold spreadM; rw [if_neg hS]
    rw [← e1] at hy
    have hnn : ∀ z ∈ spreadM n ws, 0 ≤ z := fun z hz => by
      obtain ⟨i, hi, ez⟩ := List.mem_iff_getElem.1 hz
      have hl := spreadM_len (n := n) (ws := ws)
      have hi' : i < ws.length := by omega
      have hxi := List.getElem?_eq_getElem hi'
      obtain ⟨y', hy', hyb'⟩ := ones_get (m := n - sumI (baseM n (sumI ws) ws)) hxi (base_get (n := n) (S := sumI ws) hxi)
      rw [← e1, List.getElem?_eq_getElem hi, ez] at hy'
      obtain rfl := Option.some.inj hy'
      have := (base_bd hn hSp (h.nn _ (List.getElem_mem hi')) (mem_le_sum h.nn _ (List.getElem_mem hi'))).1
      omega
    have hyn := mem_le_sum hnn y (List.mem_of_getElem? hy)
    rw [hsum] at hyn
    have em := Int.mul_ediv_add_emod (n * x) (sumI ws)
    have r0 := Int.emod_nonneg (n * x) hS
    have r1 := Int.emod_lt_of_pos (n * x) hSp
    refine ⟨y, hy, by omega, hyn, fun _ => ⟨fun hx00 => ?_, ?_, ?_⟩⟩
    · subst hx00
      rcases hyb with rfl | ⟨_, h0⟩
      · simp
      · omega
    · generalize n * x / sumI ws = q at *
      generalize (n * x) % sumI ws = r at *
      generalize sumI ws = S at *
      rcases hyb with rfl | ⟨rfl, _⟩
      · rw [Int.mul_comm y S]; omega
      · rw [Int.add_mul, Int.one_mul, Int.mul_comm q S]; omega
    · generalize n * x / sumI ws = q at *
      generalize (n * x) % sumI ws = r at *
      generalize sumI ws = S at *
      rcases hyb with rfl | ⟨rfl, _⟩
      · rw [Int.mul_comm y S]; omega
      · rw [Int.add_mul, Int.one_mul, Int.mul_comm q S]; omega
end Go.Proofs.YtjdjahckdgbkbaeDoor
end
section
namespace Go.Proofs.YtjdjahckdgbkbaeDoor
open Go.RowKit
set_option linter.unusedVariables false
set_option maxHeartbeats 1000000
attribute [local go_sem] growUpon_value growUpon_skip growUpon_enter
set_option maxRecDepth 100000 in
theorem equalInts_z (v v' : Value) (L : List Int) (w : World) (h : NR w v L) (h' : NR w v' L) (hL : L.length ≤ 1048576) :
    Calls Tryd.prog 43 #[v, v'] w fun e w' => e = .returned (.bool true) ∧ Below w.heap.size w w' := by
  obtain ⟨A, c, rfl, h⟩ := h
  obtain ⟨B, c', rfl, h'⟩ := h'
  go_enter Tryd.func43, Tryd.ntmps43
  go_wp2_with fail
  go_loopw [5] (fun i wr => ∃ k : Nat, k ≤ L.length ∧ i = .int .i64 k ∧ Below w.heap.size w wr) (fun i _ => L.length - (intOf i).toNat)
  case atStart => exact ⟨0, by omega, rfl, Below.refl _ _⟩
  case round =>
    obtain ⟨k, hk, rfl, hB⟩ := hrel
    by_cases hlt : k < L.length
    · have hd : decide ((k : Int) < (L.length : Int)) = true := by simpa using hlt
      obtain ⟨b, off, rfl, hb, hp⟩ := (h.keep hB).cells (by omega)
      obtain ⟨b', off', rfl, hb', hp'⟩ := (h'.keep hB).cells (by omega)
      have hget : L[k]? = some L[k] := List.getElem?_eq_getElem hlt
      have c0 := hp k _ hget
      have d0 := hp' k _ hget
      generalize hx : L[k] = x at *
      have HB := Lib.hid hB
      clear hget hx hp hp' hB
      go_wp2_with fail
      refine wp_region_grow 9 0 (· < 9) (by kernel_rfl) (by kernel_rfl) rfl ?_
      iterate 9 (refine wpG_step (fun K hK => ?_); first | (refine grow_skip rfl ?_; go_simp; refine hK _ ?_; clear hK K) | (apply Exists.intro; refine ⟨.inl ⟨rfl, fun w' hw' => ?_⟩, ?_⟩; (focus ((obtain ⟨hc, hf⟩ := bcell hw'.out); (have hcS := bcellS hw'.out); go_simp <;> first | rfl | (fail))); (go_simp; refine hK _ ?_; clear hK K)))
      refine wpG_nil ?_
      refine wpK_tail (by kernel_rfl) (fun w1 hg1 => ?_)
      have hb1 := bdrewn hg1.out
      refine wpAny_end (by kernel_rfl) ?_
      refine NoPan.thn ?_
      clear hg1
      replace HB := Lib.hid (HB.out.trans (hb1.mono HB.out.size))
      clear hb1 c0 d0
      go_wp2
      go_roundw
      case rel => exact ⟨k + 1, by omega, by go_num, HB.out⟩
      case measure => simp [intOf]; omega
    · have hd : decide ((k : Int) < (L.length : Int)) = false := by simp; omega
      have HB := Lib.hid hB
      clear hB
      go_wp2
      go_ret
      exact ⟨rfl, HB.out⟩
set_option maxRecDepth 100000 in
theorem ltotal_v (A : Option Addr) (c : Nat) (L : List Int) (w : World) (h : NV w A L) (hL : L.length ≤ 1048576) (hM : Smal 1000000000000000 L) :
    Calls Tryd.prog 17 #[.slice A L.length c] w fun e w' => e = .returned (.int .i64 (sumI L)) ∧ w = w' := by
  have HM := Lib.hid hM
  clear hM
  go_enter Tryd.func17, Tryd.ntmps17
  go_wp2_with fail
  go_loop [3, 4] (fun s i => ∃ k : Nat, k ≤ L.length ∧ i = .int .i64 k ∧ s = .int .i64 (sumI (L.take k))) (fun _ i => L.length - (intOf i).toNat)
  case atStart => exact ⟨0, by omega, rfl, rfl⟩
  case round =>
    obtain ⟨k, hk, rfl, rfl⟩ := hrel
    by_cases hlt : k < L.length
    · have hd : decide ((k : Int) < (L.length : Int)) = true := by simpa using hlt
      obtain ⟨b, off, rfl, hb, hp⟩ := h.cells (by omega)
      have hget : L[k]? = some L[k] := List.getElem?_eq_getElem hlt
      have c0 := hp k _ hget
      generalize hx : L[k] = x at *
      have hs := sumI_snoc hget
      have b1 := HM.out k
      have b2 := HM.out (k + 1)
      rw [hs] at b2
      obtain ⟨S, hS⟩ : ∃ S, sumI (L.take k) = S := ⟨_, rfl⟩
      rw [hS] at b1 b2 hs
      rw [hS]
      have HS := Lib.hid hs
      clear hs hS hget hx hp
      go_wp2
      go_round
      case rel => exact ⟨k + 1, by omega, by go_num, by rw [HS.out]⟩
      case measure => simp [intOf]; omega
    · have hd : decide ((k : Int) < (L.length : Int)) = false := by simp; omega
      have he : L.take k = L := List.take_of_length_le (by omega)
      rw [he]
      clear he
      go_wp2
      go_ret
      exact ⟨rfl, rfl⟩
theorem ltotal_n (A : Option Addr) (c n : Nat) (L : List Int) (w : World) (h : NV w A L) (hn : n = L.length) (hL : n ≤ 1048576) (hM : Smal 1000000000000000 L) :
    Calls Tryd.prog 17 #[.slice A n c] w fun e w' => e = .returned (.int .i64 (sumI L)) ∧ w = w' := by subst hn; exact ltotal_v A c L w h hL hM
def sbL (n : Int) (L : List Int) : List Int := if sbB n L then spreadM n L else []
theorem sbL_len {n : Int} {L : List Int} : (sbL n L).length ≤ 5 := by
  unfold sbL
  split
  · rename_i h; rw [spreadM_len]; exact (sbB_yes h).1.2.2
  · simp
end Go.Proofs.YtjdjahckdgbkbaeDoor
end
section
namespace Go.Proofs.YtjdjahckdgbkbaeDoor
open Go.RowKit
set_option linter.unusedVariables false
set_option maxHeartbeats 1000000
def nvalsW (L : List Int) : List Value := L.map (Value.int .i64)
theorem nvalsW_snoc (L : List Int) (x : Int) : nvalsW L ++ [.int .i64 x] = nvalsW (L ++ [x]) := by simp [nvalsW]
/-- a block with room: what it holds ahead -/
def OB (w : World) (g cap : Nat) (L : List Int) : Prop := L.length ≤ cap ∧ ∃ cs : Array Value, w.heap[g]? = some (.cells cs 3 (0, 0)) ∧ cs.size = cap ∧ ∀ (i : Nat) (x : Int), L[i]? = some x → cs[i]? = some (Value.int .i64 x)
theorem OB.lt {w : World} {g cap : Nat} {L : List Int} (h : OB w g cap L) : g < w.heap.size := by obtain ⟨_, cs, hh, _⟩ := h; exact ltS hh
theorem OB.keep {w w' : World} {g cap : Nat} {L : List Int} (h : OB w g cap L) (hb : Below w.heap.size w w') : OB w' g cap L := by
  obtain ⟨hl, cs, hh, hs, hc⟩ := h
  exact ⟨hl, cs, (hb.block g (ltS hh)).trans hh, hs, hc⟩
theorem OB.cell {w : World} {g cap i : Nat} {L : List Int} {x : Int} (h : OB w g cap L) (hx : L[i]? = some x) : w.cell? ⟨g, i, none⟩ = some (.int .i64 x) := by
  obtain ⟨hl, cs, hh, hs, hc⟩ := h
  exact (cellS hh i).trans (hc i x hx)
theorem OB.frozen {w : World} {g cap : Nat} {L : List Int} (h : OB w g cap L) (i : Nat) : w.frozen? ⟨g, i, none⟩ = false := by
  obtain ⟨hl, cs, hh, hs, hc⟩ := h
  exact frozenS hh i
theorem OB.set {w : World} {g cap : Nat} {L : List Int} (h : OB w g cap L) (i : Nat) (y : Int) (hi : i < L.length) : OB (w.setCell ⟨g, i, none⟩ (.int .i64 y)) g cap (L.set i y) := by
  obtain ⟨hl, cs, hh, hs, hc⟩ := h
  refine ⟨by rw [List.length_set]; exact hl, _, putS hh _, by simp [hs], fun k x hk => ?_⟩
  by_cases e : i = k
  · subst e
    rw [List.getElem?_set_self hi] at hk
    obtain rfl := Option.some.inj hk
    rw [Array.getElem?_setIfInBounds_self_of_lt (by omega)]
  · rw [List.getElem?_set_ne e] at hk
    rw [Array.getElem?_setIfInBounds_ne e]
    exact hc k x hk
theorem OB.nv {w : World} {g cap : Nat} {L : List Int} (h : OB w g cap L) : NV w (some ⟨g, 0, none⟩) L :=
  ⟨fun _ => ⟨g, 0, rfl, h.lt, fun i x hx => by rw [Nat.zero_add]; exact h.cell hx⟩⟩
theorem own_inW {w : World} {base n : Nat} {v : Value} {M : List Int} (h : w.ownsRow base 3 1 v n (nvalsW M)) (hn : n = M.length) :
    (v = .slice none 0 0 ∧ M = []) ∨ ∃ g cap, v = .slice (some ⟨g, 0, none⟩) n cap ∧ base ≤ g ∧ OB w g cap M := by
  rcases h.2 with ⟨rfl, h0⟩ | ⟨g, cap, cur, rfl, hb, hg, hc, _, hs, ht⟩
  · exact .inl ⟨rfl, List.length_eq_zero_iff.1 (by omega)⟩
  · refine .inr ⟨g, cap, rfl, hb, by omega, cur, hg, by omega, fun i x hx => ?_⟩
    have e : (nvalsW M)[i]? = some (Value.int .i64 x) := by simp [nvalsW, hx]
    have hi := (List.getElem?_eq_some_iff.1 hx).1
    rw [← ht, List.getElem?_take] at e
    rw [if_pos (by omega)] at e
    simpa using e
theorem int_infoW : ∃ (i : TypeInfo) (z : Value), Tryd.prog.info? 3 = some i ∧ i.zero = some z ∧ i.size = 1 ∧ i.bytes = 8 ∧ z.cells.size = 1 := by
  have hinfo : (Tryd.prog.info? 3).map (fun i => (i.zero, i.size, i.bytes)) = some (some (.int .i64 0), 1, 8) := by kernel_rfl
  obtain ⟨i, hi, h1, h2, h3⟩ := info_parts hinfo
  exact ⟨i, _, hi, h1, h2, h3, rfl⟩
theorem newW (W : World) (x : Int) (T : TypeId) : ∀ (j : Nat) (u : Value), [Value.int .i64 x][j]? = some u → (W.alloc (.cells #[.int .i64 x] T)).cell? ((⟨W.heap.size, 0, none⟩ : Addr).add j) = some u := fun j u h => by
  have hadd : (⟨W.heap.size, 0, none⟩ : Addr).add j = ⟨W.heap.size, j, none⟩ := by unfold Addr.add; split <;> simp_all
  rw [hadd]
  exact (cellS (newS W _) j).trans (by simpa using h)
theorem below_own {n : Nat} {a W w5 : World} {v : Value} {o : Obj} {lo hi : Nat} (h : Below n a W) (hg : (W.alloc o).grownBy w5 v.ownBlock) (hob : ∀ k, v.ownBlock = some k → lo ≤ k ∧ k < hi) (hlo : n ≤ lo) (hn : n ≤ a.heap.size) : Below n a w5 :=
  have h' : Below n a (W.alloc o) := h.alloc (Nat.le_trans hn h.size) o
  ⟨hg.os.trans h'.os, hg.tape.trans h'.tape, hg.output.trans h'.output, Nat.le_trans h'.size hg.size, fun k hk => (hg.block k (Nat.lt_of_lt_of_le (Nat.lt_of_lt_of_le hk hn) h'.size) (fun e => by have := hob k e.symm; omega)).trans (h'.block k hk)⟩
end Go.Proofs.YtjdjahckdgbkbaeDoor
end
section
namespace Go.Proofs.YtjdjahckdgbkbaeDoor
open Go.RowKit
set_option linter.unusedVariables false
set_option maxHeartbeats 1000000
attribute [local go_sem] growUpon_value growUpon_skip growUpon_enter
theorem IB.ob {w : World} {g n : Nat} {L : List Int} (h : IB w g L) (hn : n = L.length) : OB w g n L := by
  have h' : w.heap[g]? = some (.cells (ivals L) 3 (0, 0)) := h
  exact ⟨by omega, ivals L, h', by simp [ivals, hn], fun i x hx => by simp [ivals, hx]⟩
theorem OB.sameL {w w' : World} {g cap : Nat} {L : List Int} (h : OB w g cap L) (e : w'.heap[g]? = w.heap[g]?) : OB w' g cap L := by
  obtain ⟨hl, cs, hh, hs, hc⟩ := h
  exact ⟨hl, cs, e.trans hh, hs, hc⟩
theorem OB.nr {w : World} {g cap n : Nat} {L : List Int} (h : OB w g cap L) (hn : n = L.length) (m : Nat) : NR w (.slice (some ⟨g, 0, none⟩) n m) L := ⟨_, m, by rw [hn], h.nv⟩
/-- the marks from k on -/
def MKo (k : Int) (n : Nat) : List Int := (List.range n).map (fun i : Nat => (i : Int) + k)
theorem MKo_len (k : Int) (n : Nat) : (MKo k n).length = n := by simp [MKo]
theorem MKo_get {k : Int} {n i : Nat} (h : i < n) : (MKo k n)[i]? = some ((i : Int) + k) := by simp [MKo, h]
theorem drop_consO {L : List Int} {k : Nat} {x : Int} (h : L[k]? = some x) : L.drop k = x :: L.drop (k + 1) := by
  obtain ⟨hk, e⟩ := List.getElem?_eq_some_iff.1 h
  rw [List.drop_eq_getElem_cons hk, e]
theorem set_hereO {A B : List Int} {n : Nat} {y x : Int} (h : A.length = n) : (A ++ y :: B).set n x = A ++ x :: B := by
  subst h; simp
set_option maxRecDepth 100000 in
theorem markO (g cap n : Nat) (k : Int) (M : List Int) (w : World) (h : OB w g cap M) (hn : n = M.length) (hL : n ≤ 1048576) (hk0 : 0 ≤ k) (hk1 : k ≤ 10000000) :
    Calls Tryd.prog 48 #[.slice (some ⟨g, 0, none⟩) n cap, .int .i64 k] w fun e w' => e = .returned (.int .i64 (k + (n : Int))) ∧ OB w' g cap (MKo k n) ∧ w.grownBy w' (some g) := by
  subst hn
  have HI := Lib.hid h
  clear h
  go_enter Tryd.func48, Tryd.ntmps48
  go_wp2_with fail
  go_loopw [1, 5] (fun kv i wr => ∃ j : Nat, j ≤ M.length ∧ i = .int .i64 j ∧ kv = .int .i64 (k + (j : Int)) ∧ OB wr g cap ((MKo k M.length).take j ++ M.drop j) ∧ w.grownBy wr (some g)) (fun _ i _ => M.length - (intOf i).toNat)
  case atStart => exact ⟨0, by omega, rfl, by simp, by simpa using HI.out, greflI _ _⟩
  case round =>
    obtain ⟨j, hj, rfl, rfl, hI, hgr⟩ := hrel
    clear HI
    by_cases hlt : j < M.length
    · have hd : decide ((j : Int) < (M.length : Int)) = true := by simpa using hlt
      have hget : M[j]? = some M[j] := List.getElem?_eq_getElem hlt
      have hdr := drop_consO hget
      rw [hdr] at hI
      have hlk : ((MKo k M.length).take j).length = j := by rw [List.length_take, MKo_len]; omega
      have d0 := hI.cell (i := j) (x := M[j]) (by rw [List.getElem?_append_right (by omega), hlk, Nat.sub_self]; rfl)
      have f0 := hI.frozen j
      have hI2 := hI.set j (k + (j : Int)) (by rw [List.length_append, hlk, List.length_cons]; omega)
      rw [set_hereO hlk] at hI2
      have e3 : (MKo k M.length).take j ++ (k + (j : Int)) :: M.drop (j + 1) = (MKo k M.length).take (j + 1) ++ M.drop (j + 1) := by
        have h1 := MKo_get (k := k) hlt
        obtain ⟨h2, h3⟩ := List.getElem?_eq_some_iff.1 h1
        rw [List.take_succ_eq_append_getElem h2, h3]; simp [Int.add_comm]
      rw [e3] at hI2
      have HI2 := Lib.hid hI2
      have HG2 := Lib.hid (gsetI hgr j (.int .i64 (k + (j : Int))))
      generalize M[j] = x at *
      clear hI hI2 hgr hget hdr hlk e3
      go_wp2
      go_roundw
      case rel => exact ⟨j + 1, by omega, by go_num, by go_num, HI2.out, HG2.out⟩
      case measure => simp [intOf]; omega
    · have hd : decide ((j : Int) < (M.length : Int)) = false := by simp; omega
      obtain rfl : j = M.length := by omega
      have e1 : (MKo k M.length).take M.length = MKo k M.length := List.take_of_length_le (by rw [MKo_len]; omega)
      rw [e1, List.drop_length, List.append_nil] at hI
      have HI2 := Lib.hid hI
      have HG2 := Lib.hid hgr
      clear hI hgr e1
      go_wp2
      go_ret
      exact ⟨rfl, HI2.out, HG2.out⟩
set_option maxRecDepth 100000 in
theorem markO_nil (k : Int) (w : World) : Calls Tryd.prog 48 #[.slice none 0 0, .int .i64 k] w fun e w' => e = .returned (.int .i64 k) ∧ w' = w := by
  go_enter Tryd.func48, Tryd.ntmps48
  go_wp2_with fail
  go_loop [1, 5] (fun kv i => kv = .int .i64 k ∧ i = .int .i64 0) (fun _ _ => 0)
  case atStart => exact ⟨rfl, rfl⟩
  case round =>
    obtain ⟨rfl, rfl⟩ := hrel
    go_wp2
    go_ret
    exact ⟨rfl, rfl⟩
set_option maxRecDepth 100000 in
theorem heldO (g cap n : Nat) (k : Int) (w : World) (h : OB w g cap (MKo k n)) (hL : n ≤ 1048576) (hk0 : 0 ≤ k) (hk1 : k ≤ 10000000) :
    Calls Tryd.prog 49 #[.slice (some ⟨g, 0, none⟩) n cap, .int .i64 k] w fun e w' => e = .returned (.int .i64 (k + (n : Int))) ∧ w' = w := by
  go_enter Tryd.func49, Tryd.ntmps49
  go_wp2_with fail
  go_loop [1, 5] (fun kv i => ∃ j : Nat, j ≤ n ∧ i = .int .i64 j ∧ kv = .int .i64 (k + (j : Int))) (fun _ i => n - (intOf i).toNat)
  case atStart => exact ⟨0, by omega, rfl, by simp⟩
  case round =>
    obtain ⟨j, hj, rfl, rfl⟩ := hrel
    by_cases hlt : j < n
    · have hd : decide ((j : Int) < (n : Int)) = true := by simpa using hlt
      have d0 := h.cell (MKo_get hlt)
      rw [Int.add_comm] at d0
      go_wp2
      go_round
      case rel => exact ⟨j + 1, by omega, by go_num, by go_num⟩
      case measure => simp [intOf]; omega
    · have hd : decide ((j : Int) < (n : Int)) = false := by simp; omega
      obtain rfl : j = n := by omega
      go_wp2
      go_ret
      exact ⟨rfl, rfl⟩
set_option maxRecDepth 100000 in
theorem heldO_nil (k : Int) (w : World) : Calls Tryd.prog 49 #[.slice none 0 0, .int .i64 k] w fun e w' => e = .returned (.int .i64 k) ∧ w' = w := by
  go_enter Tryd.func49, Tryd.ntmps49
  go_wp2_with fail
  go_loop [1, 5] (fun kv i => kv = .int .i64 k ∧ i = .int .i64 0) (fun _ _ => 0)
  case atStart => exact ⟨rfl, rfl⟩
  case round =>
    obtain ⟨rfl, rfl⟩ := hrel
    go_wp2
    go_ret
    exact ⟨rfl, rfl⟩
theorem szIntS_yes (A : Option Addr) (n c : Nat) (l : Int) (w : World) (h1 : (n : Int) ≤ l) (h2 : l ≤ 1048576) : Calls Tryd.prog 45 #[.slice A n c, .int .i64 l] w fun e w' => e = .returned (.int .i64 (l - n)) ∧ w = w' := by
  have q1 : ¬ l - (n : Int) < 0 := by omega
  have q2 : IntKind.i64.wrap (l - (n : Int)) = l - n := IntWalk.i64_in _ (by omega)
  go_enter Tryd.func45, Tryd.ntmps45
  go_wp2
  go_ret
  exact ⟨rfl, rfl⟩
theorem szIntS_no (A : Option Addr) (n c : Nat) (l : Int) (w : World) (h0 : 0 ≤ l) (h1 : l < n) (h2 : n ≤ maxLen) : Calls Tryd.prog 45 #[.slice A n c, .int .i64 l] w fun e w' => e = .returned (.int .i64 (-1)) ∧ w = w' := by
  have q1 : l - (n : Int) < 0 := by omega
  have q3 : (n : Int) ≤ 9223372036854775807 := by unfold maxLen at h2; omega
  have q2 : IntKind.i64.wrap (l - (n : Int)) = l - n := IntWalk.i64_in _ (by omega)
  go_enter Tryd.func45, Tryd.ntmps45
  go_wp2
  go_ret
  exact ⟨rfl, rfl⟩
end Go.Proofs.YtjdjahckdgbkbaeDoor
end
section
namespace Go.Proofs.YtjdjahckdgbkbaeDoor
set_option linter.unusedVariables false
/-! Plain functions for panes: sizes S, least sizes M. -/
def okP (s m : Int) : Prop := 0 ≤ m ∧ m ≤ 30 ∧ m ≤ s ∧ s ≤ 400
def pnP (S M : List Int) : Prop := 1 ≤ S.length ∧ S.length ≤ 6 ∧ M.length = S.length ∧ (∀ (i : Nat) (s m : Int), S[i]? = some s → M[i]? = some m → okP s m) ∧ sumI S ≤ 400
theorem pnP.mem {S M : List Int} (h : pnP S M) : (∀ s ∈ S, 0 ≤ s ∧ s ≤ 400) ∧ ∀ m ∈ M, 0 ≤ m ∧ m ≤ 30 := by
  obtain ⟨h1, h2, h3, h4, h5⟩ := h
  refine ⟨fun s hs => ?_, fun m hm => ?_⟩
  · obtain ⟨i, hi, rfl⟩ := List.getElem_of_mem hs
    have := h4 i _ M[i] (List.getElem?_eq_getElem hi) (List.getElem?_eq_getElem (by omega))
    unfold okP at this; omega
  · obtain ⟨i, hi, rfl⟩ := List.getElem_of_mem hm
    have := h4 i S[i] _ (List.getElem?_eq_getElem (by omega)) (List.getElem?_eq_getElem hi)
    unfold okP at this; omega
theorem pnP.six {S M : List Int} (h : pnP S M) : S.length ≤ 6 := h.2.1
theorem pnP.one {S M : List Int} (h : pnP S M) : 1 ≤ S.length := h.1
theorem pnP.len {S M : List Int} (h : pnP S M) : M.length = S.length := h.2.2.1
theorem pnP.at {S M : List Int} (h : pnP S M) {i : Nat} {s m : Int} (h1 : S[i]? = some s) (h2 : M[i]? = some m) : okP s m := h.2.2.2.1 i s m h1 h2
theorem pnP.sum {S M : List Int} (h : pnP S M) : sumI S ≤ 400 := h.2.2.2.2
theorem pnP.smal {S M : List Int} (h : pnP S M) : Smal 1000000000000000 S ∧ Smal 1000000000000000 M := by
  obtain ⟨hs, hm⟩ := h.mem
  have h1 := h.2.1
  have h2 := h.2.2.1
  exact ⟨smal_of (b := 400) (fun x hx => by have := hs x hx; omega) (by omega) (by omega), smal_of (b := 400) (fun x hx => by have := hm x hx; omega) (by omega) (by omega)⟩
theorem no_len {S M : List Int} {t : Bool} (ht : t = true ↔ pnP S M) (h : ¬ (1 ≤ S.length ∧ S.length ≤ 6)) : t = false := by
  rw [Bool.eq_false_iff, ne_eq, ht]; exact fun hp => h ⟨hp.1, hp.2.1⟩
theorem no_len2 {S M : List Int} {t : Bool} (ht : t = true ↔ pnP S M) (h : ¬ M.length = S.length) : t = false := by
  rw [Bool.eq_false_iff, ne_eq, ht]; exact fun hp => h hp.2.2.1
theorem no_at {S M : List Int} {t : Bool} {k : Nat} {s m : Int} (ht : t = true ↔ pnP S M) (hs : S[k]? = some s) (hm : M[k]? = some m) (h : ¬ okP s m) : t = false := by
  rw [Bool.eq_false_iff, ne_eq, ht]; exact fun hp => h (hp.2.2.2.1 k s m hs hm)
theorem no_sum {S M : List Int} {t : Bool} (ht : t = true ↔ pnP S M) (h : ¬ sumI S ≤ 400) : t = false := by
  rw [Bool.eq_false_iff, ne_eq, ht]; exact fun hp => h hp.2.2.2.2
theorem no_s {S M : List Int} {t : Bool} {k : Nat} {s : Int} (ht : t = true ↔ pnP S M) (hs : S[k]? = some s) (h : ¬ (0 ≤ s ∧ s ≤ 400)) : t = false := by
  rw [Bool.eq_false_iff, ne_eq, ht]; exact fun hp => h (hp.mem.1 s (List.mem_of_getElem? hs))
theorem no_m {S M : List Int} {t : Bool} {k : Nat} {m : Int} (ht : t = true ↔ pnP S M) (hm : M[k]? = some m) (h : ¬ (0 ≤ m ∧ m ≤ 30)) : t = false := by
  rw [Bool.eq_false_iff, ne_eq, ht]; exact fun hp => h (hp.mem.2 m (List.mem_of_getElem? hm))
/-- all up to an index are right -/
def upP (S M : List Int) (k : Nat) : Prop := ∀ (i : Nat) (s m : Int), i < k → S[i]? = some s → M[i]? = some m → okP s m
theorem upP.zero (S M : List Int) : upP S M 0 := fun i s m h => absurd h (Nat.not_lt_zero _)
theorem upP.succ {S M : List Int} {k : Nat} (h : upP S M k) (hk : ∀ s m, S[k]? = some s → M[k]? = some m → okP s m) : upP S M (k + 1) := fun i s m hi hs hm => by
  by_cases e : i = k
  · subst e; exact hk s m hs hm
  · exact h i s m (by omega) hs hm
theorem upP.all {S M : List Int} {k : Nat} (h : upP S M k) (hk : S.length ≤ k) : ∀ (i : Nat) (s m : Int), S[i]? = some s → M[i]? = some m → okP s m := fun i s m hs hm =>
  h i s m (by have := (List.getElem?_eq_some_iff.1 hs).1; omega) hs hm
theorem upP.mem {S M : List Int} (h : ∀ (i : Nat) (s m : Int), S[i]? = some s → M[i]? = some m → okP s m) (hl : M.length = S.length) : ∀ s ∈ S, 0 ≤ s ∧ s ≤ 400 := fun s hs => by
  obtain ⟨i, hi, rfl⟩ := List.getElem_of_mem hs
  have := h i _ M[i] (List.getElem?_eq_getElem hi) (List.getElem?_eq_getElem (by omega))
  unfold okP at this; omega
/-- what spec's loops have seen -/
def upS (S : List Int) (k : Nat) : Prop := ∀ (i : Nat) (s : Int), i < k → S[i]? = some s → 0 ≤ s ∧ s ≤ 400
def upM (S M : List Int) (k : Nat) : Prop := ∀ (i : Nat) (m : Int), i < k → M[i]? = some m → 0 ≤ m ∧ m ≤ 30 ∧ ∀ s, S[i]? = some s → m ≤ s
theorem upS.zero (S : List Int) : upS S 0 := fun i s h => absurd h (Nat.not_lt_zero _)
theorem upM.zero (S M : List Int) : upM S M 0 := fun i s h => absurd h (Nat.not_lt_zero _)
theorem upS.succ {S : List Int} {k : Nat} {s : Int} (h : upS S k) (hs : S[k]? = some s) (h1 : 0 ≤ s ∧ s ≤ 400) : upS S (k + 1) := fun i s' hi hs' => by
  by_cases e : i = k
  · subst e; rw [hs] at hs'; cases hs'; exact h1
  · exact h i s' (by omega) hs'
theorem upM.succ {S M : List Int} {k : Nat} {m : Int} (h : upM S M k) (hm : M[k]? = some m) (h1 : 0 ≤ m ∧ m ≤ 30 ∧ ∀ s, S[k]? = some s → m ≤ s) : upM S M (k + 1) := fun i m' hi hm' => by
  by_cases e : i = k
  · subst e; rw [hm] at hm'; cases hm'; exact h1
  · exact h i m' (by omega) hm'
theorem pnP_spec {S M : List Int} (h1 : upS S S.length) (h2 : upM S M M.length) (h3 : 1 ≤ S.length ∧ S.length ≤ 6) (h4 : M.length = S.length) (h5 : sumI S ≤ 400) : pnP S M :=
  ⟨h3.1, h3.2, h4, fun i s m hs hm => by
    have i1 := (List.getElem?_eq_some_iff.1 hs).1
    have i2 := (List.getElem?_eq_some_iff.1 hm).1
    have a := h1 i s i1 hs
    have b := h2 i m i2 hm
    have c := b.2.2 s hs
    unfold okP; omega, h5⟩
end Go.Proofs.YtjdjahckdgbkbaeDoor
end
section
namespace Go.Proofs.YtjdjahckdgbkbaeDoor
open Go.RowKit
set_option linter.unusedVariables false
set_option maxHeartbeats 1000000
attribute [local go_sem 5000] run_mx run_mn
attribute [local go_sem] growUpon_value growUpon_skip growUpon_enter
theorem within_P (n a b : Int) (t : Bool) (w : World) (h : rng n a b = t) : Calls Tryd.prog 30 #[.int .i64 n, .int .i64 a, .int .i64 b] w fun e w' => e = .returned (.bool t) ∧ w = w' := by rw [← h]; exact within_any n a b w
theorem inRange_P (n a b : Int) (t : Bool) (w : World) (h : rng n a b = t) : Calls Tryd.prog 40 #[.int .i64 n, .int .i64 a, .int .i64 b] w fun e w' => e = .returned (.bool t) ∧ w = w' := by rw [← h]; exact inRange_any n a b w
theorem inRange_PB (n a b : Int) (t : Bool) (w : World) (h : rng n a b = t) : Calls Tryd.prog 40 #[.int .i64 n, .int .i64 a, .int .i64 b] w fun e w' => e = .returned (.bool t) ∧ Below w.heap.size w w' := (inRange_P n a b t w h).mono (by rintro e w' ⟨rfl, rfl⟩; exact ⟨rfl, Below.refl _ _⟩)
set_option maxRecDepth 100000 in
theorem ValidPanes_v (A A' : Option Addr) (n m c c' : Nat) (S M : List Int) (t : Bool) (w : World) (h : NV w A S) (h' : NV w A' M) (hn : n = S.length) (hm : m = M.length) (hL : S.length ≤ 1048576) (hL' : M.length ≤ 1048576) (ht : t = true ↔ pnP S M) :
    Calls Tryd.prog 16 #[.agg #[.slice A n c, .slice A' m c']] w fun e w' => e = .returned (.bool t) ∧ Below w.heap.size w w' := by
  subst hn hm
  cases h1 : rng (S.length : Int) 1 6
  · have hl := rng_not.1 h1
    have hb := no_len ht (by omega)
    subst hb
    clear ht hl
    go_enter Tryd.func16, Tryd.ntmps16
    go_wp2_with fail
    with_reducible refine (within_P _ _ _ false _ h1).mono ?_
    rintro e w1 ⟨rfl, rfl⟩
    go_wp2
    go_ret
    exact ⟨rfl, (by repeat (first | with_reducible exact Below.refl _ _ | with_reducible assumption | with_reducible refine balloc ?_ | (with_reducible refine bset ?_ ?_; rotate_left; ((try dsimp only); omega)) | refine bkeep2 ?_ (by assumption) | with_reducible refine Below.drew ?_))⟩
  have hl := rng_iff.1 h1
  by_cases h2 : M.length = S.length
  rotate_left
  · have hb := no_len2 ht h2
    subst hb
    have h3 : ((M.length : Int) == (S.length : Int)) = false := by simp; omega
    clear ht hl h2
    go_enter Tryd.func16, Tryd.ntmps16
    go_wp2_with fail
    with_reducible refine (within_P _ _ _ true _ h1).mono ?_
    rintro e w1 ⟨rfl, rfl⟩
    go_wp2
    go_ret
    exact ⟨rfl, (by repeat (first | with_reducible exact Below.refl _ _ | with_reducible assumption | with_reducible refine balloc ?_ | (with_reducible refine bset ?_ ?_; rotate_left; ((try dsimp only); omega)) | refine bkeep2 ?_ (by assumption) | with_reducible refine Below.drew ?_))⟩
  have HX := Lib.hid (newS w (.cells #[.slice A S.length c, .slice A' M.length c'] 35))
  have h3 : ((M.length : Int) == (S.length : Int)) = true := by simp; omega
  have hb0 : Below w.heap.size w (w.alloc (.cells #[.slice A S.length c, .slice A' M.length c'] 35)) := balloc (Below.refl _ _)
  have HN := Lib.hid (h.keep hb0)
  have HN' := Lib.hid (h'.keep hb0)
  have HB := Lib.hid hb0
  have HT := Lib.hid ht
  have h3' : ((M.length : Int) != (S.length : Int)) = false := by simp; omega
  have H2 := Lib.hid h2
  clear ht hb0 h h' h2
  go_enter Tryd.func16, Tryd.ntmps16
  go_wp2_with fail
  with_reducible refine (within_P _ _ _ true _ h1).mono ?_
  rintro e w1 ⟨rfl, hw1⟩
  rw [hw1] at HX HN HN' HB
  clear hw1
  have k0 : w1.cell? ⟨w.heap.size, 0, none⟩ = some (.slice A S.length c) := (cellS HX.out 0).trans rfl
  have k1 : w1.cell? ⟨w.heap.size, 1, none⟩ = some (.slice A' M.length c') := (cellS HX.out 1).trans rfl
  go_wp2_with fail
  have Hhl := Lib.hid hl
  clear hl
  go_loop [22] (fun i => ∃ k : Nat, k ≤ S.length ∧ i = .int .i64 k ∧ upP S M k) (fun i => S.length - (intOf i).toNat)
  case atStart => exact ⟨0, by omega, rfl, upP.zero S M⟩
  case round =>
    obtain ⟨k, hk, rfl, hup⟩ := hrel
    have HU := Lib.hid hup
    clear hup
    by_cases hlt : k < S.length
    · have hd : decide ((k : Int) < (S.length : Int)) = true := by simpa using hlt
      have hd' : decide ((k : Int) < (M.length : Int)) = true := by rw [H2.out]; exact hd
      obtain ⟨b, off, rfl, hb, hp⟩ := HN.out.cells (by omega)
      obtain ⟨b', off', rfl, hb', hp'⟩ := HN'.out.cells (by have := H2.out; omega)
      have hget : S[k]? = some S[k] := List.getElem?_eq_getElem hlt
      have hlt' : k < M.length := by have := H2.out; omega
      have hget' : M[k]? = some M[k] := List.getElem?_eq_getElem hlt'
      have c0 := hp k _ hget
      have d0 := hp' k _ hget'
      generalize S[k] = s at *
      generalize M[k] = m at *
      have HG := Lib.hid hget
      have HG' := Lib.hid hget'
      clear hget hget' hp hp'
      cases hv : rng m 0 30
      · have hno := rng_not.1 hv
        have hb := no_at HT.out HG.out HG'.out (fun h => by unfold okP at h; omega)
        subst hb
        clear hno
        go_wp2_with fail
        with_reducible refine (within_P _ _ _ false _ hv).mono ?_
        rintro e w2 ⟨rfl, rfl⟩
        go_wp2
        go_ret
        exact ⟨rfl, HB.out⟩
      cases hu : rng s m 400
      · have hno := rng_not.1 hu
        have hb := no_at HT.out HG.out HG'.out (fun h => by unfold okP at h; omega)
        subst hb
        clear hno
        go_wp2_with fail
        with_reducible refine (within_P _ _ _ true _ hv).mono ?_
        rintro e w2 ⟨rfl, rfl⟩
        go_wp2_with fail
        with_reducible refine (within_P _ _ _ false _ hu).mono ?_
        rintro e w2 ⟨rfl, rfl⟩
        go_wp2
        go_ret
        exact ⟨rfl, HB.out⟩
      have HK := Lib.hid (show okP s m by have := rng_iff.1 hv; have := rng_iff.1 hu; unfold okP; omega)
      go_wp2_with fail
      with_reducible refine (within_P _ _ _ true _ hv).mono ?_
      rintro e w2 ⟨rfl, rfl⟩
      go_wp2_with fail
      with_reducible refine (within_P _ _ _ true _ hu).mono ?_
      rintro e w2 ⟨rfl, rfl⟩
      go_wp2
      go_round
      case rel => exact ⟨k + 1, by omega, by go_num, HU.out.succ (fun s' m' hs hm => by rw [HG.out] at hs; rw [HG'.out] at hm; cases hs; cases hm; exact HK.out)⟩
      case measure => simp [intOf]; omega
    · have hd : decide ((k : Int) < (S.length : Int)) = false := by simp; omega
      have hall := HU.out.all (by omega)
      have hmem := upP.mem hall H2.out
      have hsm : Smal 1000000000000000 S := smal_of (b := 400) (fun x hx => by have := hmem x hx; omega) (by omega) (by have := Hhl.out; omega)
      have HSM := Lib.hid hsm
      have HALL := Lib.hid hall
      clear hall hmem hsm
      go_wp2_with fail
      with_reducible refine (sum_v A c S _ HN.out hL HSM.out).mono ?_
      rintro e w2 ⟨rfl, hw2⟩
      rw [hw2] at HB
      clear hw2
      by_cases h5 : sumI S ≤ 400
      · have hb := HT.out.2 ⟨by have := Hhl.out; omega, by have := Hhl.out; omega, H2.out, HALL.out, h5⟩
        subst hb
        go_wp2
        go_ret
        exact ⟨ret_bool rfl, HB.out⟩
      · have hb := no_sum HT.out h5
        subst hb
        go_wp2
        go_ret
        exact ⟨ret_bool (by simpa using h5), HB.out⟩
end Go.Proofs.YtjdjahckdgbkbaeDoor
end
