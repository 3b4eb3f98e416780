import Derived.Test.YtgdkionmeacalabQ04
section
namespace Go.Proofs.Ytgdkionmeacalab
open Go.RowKit
set_option linter.unusedVariables false
set_option maxHeartbeats 1000000
/-- weights of lines -/
def wsOK (ws : List Int) : Prop := (∀ x ∈ ws, 0 ≤ x ∧ x ≤ 5) ∧ 1 ≤ ws.length ∧ ws.length ≤ 5
theorem wsOK.sum {ws : List Int} (h : wsOK ws) : 0 ≤ sumI ws ∧ sumI ws ≤ 25 := by
  have := sumI_bd h.1
  have := h.2.2
  omega
theorem wsOK.smal {ws : List Int} (h : wsOK ws) : Smal 1000000000000000 ws := smal_of (b := 5) (fun x hx => by have := h.1 x hx; omega) (by omega) (by have := h.2.2; omega)
theorem wsOK.nn {ws : List Int} (h : wsOK ws) : ∀ x ∈ ws, 0 ≤ x := fun x hx => (h.1 x hx).1
theorem base_get {n S : Int} {ws : List Int} {k : Nat} {x : Int} (h : ws[k]? = some x) : (baseM n S ws)[k]? = some (n * x / S) := by
  simp [baseM, h]
/-- so far, and 0 -/
def mixM (B : List Int) (k : Nat) : List Int := B.take k ++ List.replicate (B.length - k) 0
theorem mixM_zero (B : List Int) : mixM B 0 = List.replicate B.length 0 := by simp [mixM]
theorem mixM_all (B : List Int) : mixM B B.length = B := by simp [mixM]
theorem mixM_set {B : List Int} {k : Nat} {b : Int} (h : B[k]? = some b) : (mixM B k).set k b = mixM B (k + 1) := by
  obtain ⟨hk, e⟩ := List.getElem?_eq_some_iff.1 h
  unfold mixM
  rw [List.set_append_right _ _ (by rw [List.length_take]; omega)]
  have h1 : B.length - k = (B.length - (k + 1)) + 1 := by omega
  rw [h1, List.replicate_succ]
  have h2 : k - (B.take k).length = 0 := by rw [List.length_take]; omega
  rw [h2, List.set_cons_zero, List.take_succ_eq_append_getElem hk, e]
  simp
theorem mixM_get {B : List Int} {k : Nat} (hk : k < B.length) : ∃ x, (mixM B k)[k]? = some x := by
  unfold mixM
  rw [List.getElem?_append_right (by rw [List.length_take]; omega)]
  have : k - (B.take k).length = 0 := by rw [List.length_take]; omega
  rw [this]
  exact ⟨0, by rw [List.getElem?_replicate, if_pos (by omega)]⟩
theorem smal_base {n : Int} {ws : List Int} (hn : 0 ≤ n) (hn2 : n ≤ 100000000000000) (h : wsOK ws) (hS : sumI ws ≠ 0) : Smal 1000000000000000 (baseM n (sumI ws) ws) := by
  refine smal_of (b := 100000000000000) (fun x hx => ?_) (by omega) (by rw [baseM_len]; have := h.2.2; omega)
  obtain ⟨y, hy, rfl⟩ := List.mem_map.1 hx
  have h0 := h.sum
  have := base_bd (n := n) (S := sumI ws) (x := y) hn (by omega) (h.nn y hy) (mem_le_sum h.nn y hy)
  omega
theorem last_set {n : Int} {ws : List Int} {j : Nat} (hj : ws.length = j + 1) (h0 : sumI ws = 0) : (List.replicate ws.length (0 : Int)).set j n = spreadM n ws := by
  unfold spreadM
  rw [if_pos h0]
  congr 1
  omega
theorem wadd_mul {n x : Int} (hn : 0 ≤ n) (hn2 : n ≤ 100000000000000) (h0 : 0 ≤ x) (h5 : x ≤ 5) : 0 ≤ n * x ∧ n * x ≤ 500000000000000 :=
  ⟨Int.mul_nonneg hn h0, Int.le_trans (Int.mul_le_mul hn2 h5 h0 (by omega)) (by omega)⟩
theorem drop_consI {L : List Int} {k : Nat} {p : Int} (h : L[k]? = some p) : L.drop k = p :: L.drop (k + 1) := by
  have hk := (List.getElem?_eq_some_iff.1 h).1
  have e := (List.getElem?_eq_some_iff.1 h).2
  rw [List.drop_eq_getElem_cons hk, e]
theorem set_here {P R : List Int} {k : Nat} {y z : Int} (h : P.length = k) : (P ++ y :: R).set k z = P ++ z :: R := by
  rw [List.set_append_right _ _ (by omega)]
  have : k - P.length = 0 := by omega
  rw [this, List.set_cons_zero]
theorem onesM_nil (m : Int) (ws : List Int) : onesM m ws [] = [] := by cases ws <;> simp [onesM]
theorem sum_n (A : Option Addr) (c n : Nat) (L : List Int) (w : World) (h : NV w A L) (hn : n = L.length) (hL : n ≤ 1048576) (hM : Smal 1000000000000000 L) :
    Calls Try.prog 116 #[.slice A n c] w fun e w' => e = .returned (.int .i64 (sumI L)) ∧ w = w' := by subst hn; exact sum_v A c L w h hL hM
set_option maxRecDepth 100000 in
theorem spread_v (A : Option Addr) (c : Nat) (n : Int) (ws : List Int) (w : World) (h : NV w A ws) (hw : wsOK ws) (hn : 0 ≤ n) (hn2 : n ≤ 100000000000000) :
    Calls Try.prog 120 #[.int .i64 n, .slice A ws.length c] w fun e w' => e = .returned (.slice (some ⟨w.heap.size, 0, none⟩) ws.length ws.length) ∧ IB w' w.heap.size (spreadM n ws) ∧ Below w.heap.size w w' := by
  obtain ⟨hw1, hw2, hw3⟩ := id hw
  obtain ⟨hs0, hs1⟩ := hw.sum
  have hmk : ∀ w : World, (Instr.makeSlice 46 (.int .i64 (ws.length : Int)) (.int .i64 (ws.length : Int))).run Try.prog w = .ok (.slice (some ⟨w.heap.size, 0, none⟩) ws.length ws.length) (w.alloc (.cells (ivals (List.replicate ws.length 0)) 3)) := fun w => madeI ws.length w (by omega)
  have HW := Lib.hid hw
  have HW1 := Lib.hid hw1
  obtain ⟨j, hj⟩ : ∃ j, ws.length = j + 1 := ⟨ws.length - 1, by omega⟩
  have HJ := Lib.hid hj
  clear hw1 hw hj
  go_enter Try.func120, Try.ntmps120
  go_wp2_with fail
  have hI0 := makeI_b ws.length w
  have hB0 : Below w.heap.size w (w.alloc (.cells (ivals (List.replicate ws.length 0)) 3)) := balloc (Below.refl _ _)
  obtain ⟨W, hWe⟩ : ∃ W, w.alloc (.cells (ivals (List.replicate ws.length 0)) 3) = W := ⟨_, rfl⟩
  rw [hWe] at hI0 hB0 ⊢
  have HI := Lib.hid hI0
  have HB := Lib.hid hB0
  have HNW := Lib.hid (h.keep hB0)
  clear hWe hI0 hB0 hmk
  with_reducible refine (sum_v A c ws _ HNW.out (by omega) HW.out.smal).mono ?_
  rintro e w1 ⟨rfl, rfl⟩
  by_cases hS : sumI ws = 0
  · have hz : (sumI ws == 0) = true := by simpa using hS
    have hsp := last_set (n := n) (by rw [HJ.out] : ws.length = j + 1) hS
    have e1 : (ws.length : Int) - 1 = (j : Int) := by have := HJ.out; omega
    have e2 : IntKind.i64.wrap ((ws.length : Int) - 1) = (j : Int) := by rw [e1]; exact IntWalk.i64_in _ (by omega)
    have hjl : j < ws.length := by have := HJ.out; omega
    have c0 := HI.out.cell (i := j) (x := 0) (by simp [hjl])
    have f0 := HI.out.frozen j
    have HF := Lib.hid (show IB (W.setCell ⟨w.heap.size, j, none⟩ (.int .i64 n)) w.heap.size (spreadM n ws) by have := HI.out.set j n; rwa [hsp] at this)
    have HB2 := Lib.hid (HB.out.setCell (p := ⟨w.heap.size, j, none⟩) (Nat.le_refl _) (.int .i64 n))
    clear hS hsp HI HB
    go_wp2
    go_ret
    exact ⟨rfl, HF.out, HB2.out⟩
  · have hz : (sumI ws == 0) = false := by simpa using hS
    obtain ⟨S, hSe⟩ : ∃ S, sumI ws = S := ⟨_, rfl⟩
    have hS1 : 0 < S := by omega
    have hS2 : S ≤ 25 := by omega
    have hbl := baseM_len n S ws
    have hmb := miss_bd hn HW.out.nn hS
    have hsm := smal_base hn hn2 HW.out hS
    have hsp : spreadM n ws = onesM (n - sumI (baseM n S ws)) ws (baseM n S ws) := by unfold spreadM; rw [if_neg hS, hSe]
    rw [hSe] at hz hmb hsm
    have hcb := cntP_bd ws
    have HSP := Lib.hid hsp
    have HMB := Lib.hid hmb
    have HSM := Lib.hid hsm
    have HSE := Lib.hid hSe
    have HBL := Lib.hid hbl
    rw [hSe]
    have hI0 : IB W w.heap.size (mixM (baseM n S ws) 0) := by rw [mixM_zero, hbl]; exact HI.out
    have HI0 := Lib.hid hI0
    have hcb2 : cntP ws ≤ 5 := by omega
    have hcb1 : 0 ≤ cntP ws := by omega
    clear hS hsp hmb hsm hbl hSe HI hI0 hs0 hs1 hcb
    go_wp2_with fail
    go_loopw [26] (fun i wr => ∃ k : Nat, k ≤ ws.length ∧ i = .int .i64 k ∧ IB wr w.heap.size (mixM (baseM n S ws) k) ∧ Below w.heap.size w wr) (fun i _ => ws.length - (intOf i).toNat)
    case atStart => exact ⟨0, by omega, rfl, HI0.out, HB.out⟩
    case round =>
      obtain ⟨k, hk, rfl, hI, hBr⟩ := hrel
      clear HI0
      by_cases hlt : k < ws.length
      · have hd : decide ((k : Int) < (ws.length : Int)) = true := by simpa using hlt
        obtain ⟨b, off, rfl, hb, hp⟩ := (h.keep hBr).cells (by omega)
        have hget : ws[k]? = some ws[k] := List.getElem?_eq_getElem hlt
        have c0 := hp k _ hget
        have hx01 := HW1.out _ (List.getElem_mem hlt)
        generalize hx : ws[k] = x at *
        obtain ⟨hx0, hx1⟩ := hx01
        obtain ⟨hm0, hm1⟩ := wadd_mul hn hn2 hx0 hx1
        have hbk := base_get (n := n) (S := S) hget
        obtain ⟨y, hy⟩ := mixM_get (B := baseM n S ws) (k := k) (by rw [HBL.out]; exact hlt)
        have d0 := hI.cell hy
        have f0 := hI.frozen k
        have hI2 := hI.set k (n * x / S)
        rw [mixM_set hbk] at hI2
        have HI2 := Lib.hid hI2
        have HB2 := Lib.hid (hBr.setCell (p := ⟨w.heap.size, k, none⟩) (Nat.le_refl _) (.int .i64 (n * x / S)))
        clear hI hI2 hBr hp hget hx hy hbk
        go_wp2
        go_roundw
        case rel => exact ⟨k + 1, by omega, by go_num, HI2.out, HB2.out⟩
        case measure => simp [intOf]; omega
      · have hd : decide ((k : Int) < (ws.length : Int)) = false := by simp; omega
        obtain rfl : k = ws.length := by omega
        rw [← HBL.out, mixM_all] at hI
        have HIB := Lib.hid hI
        have HBR := Lib.hid hBr
        clear hI hBr
        go_wp2_with fail
        with_reducible refine (sum_n _ ws.length ws.length (baseM n S ws) _ HIB.out.nv HBL.out.symm (by omega) HSM.out).mono ?_
        rintro e w2 ⟨rfl, rfl⟩
        obtain ⟨m, hm⟩ : ∃ m, n - sumI (baseM n S ws) = m := ⟨_, rfl⟩
        have hmb := HMB.out
        rw [hm] at hmb
        obtain ⟨hm0, hm1⟩ := hmb
        have hmw : IntKind.i64.wrap (n - sumI (baseM n S ws)) = m := by rw [hm]; exact IntWalk.i64_in _ (by omega)
        have hsp := HSP.out
        rw [hm] at hsp
        have HSP2 := Lib.hid hsp
        have hcc : m ≤ 5 := by omega
        clear HSP hsp HMB hm
        go_wp2_with fail
        go_loopw [8, 47] (fun mv i wr => ∃ (k : Nat) (m' : Int) (P : List Int), k ≤ ws.length ∧ i = .int .i64 k ∧ mv = .int .i64 m' ∧ P.length = k ∧ m' ≤ 5 ∧ IB wr w.heap.size (P ++ (baseM n S ws).drop k) ∧ P ++ onesM m' (ws.drop k) ((baseM n S ws).drop k) = spreadM n ws ∧ Below w.heap.size w wr) (fun _ i _ => ws.length - (intOf i).toNat)
        case atStart => exact ⟨0, m, [], by omega, rfl, rfl, rfl, hcc, by simpa using HIB.out, by simpa using HSP2.out.symm, HBR.out⟩
        case round =>
          obtain ⟨k, m', P, hk, rfl, rfl, hP, hm5, hI, hf, hBr⟩ := hrel
          clear HIB HBR HSP2 hmw hm0 hm1 hcc
          by_cases hlt : k < ws.length
          · have hd : decide ((k : Int) < (ws.length : Int)) = true := by simpa using hlt
            obtain ⟨b, off, rfl, hb, hp⟩ := (h.keep hBr).cells (by omega)
            have hget : ws[k]? = some ws[k] := List.getElem?_eq_getElem hlt
            have c0 := hp k _ hget
            have hx01 := HW1.out _ (List.getElem_mem hlt)
            have hbk := base_get (n := n) (S := S) hget
            have hdw := drop_consI hget
            generalize hx : ws[k] = x at *
            have hdb := drop_consI hbk
            obtain ⟨hx0, hx1⟩ := hx01
            have hbb : 0 ≤ n * x / S ∧ n * x / S ≤ 500000000000000 := by
              obtain ⟨q0, q1⟩ := wadd_mul hn hn2 hx0 hx1
              exact ⟨Int.ediv_nonneg q0 (by omega), Int.le_trans (Int.ediv_le_self S q0) q1⟩
            generalize n * x / S = y at *
            obtain ⟨hb0, hb1⟩ := hbb
            rw [hdb] at hI hf
            rw [hdw] at hf
            have d0 := hI.cell (i := k) (x := y) (by rw [List.getElem?_append_right (by omega), hP, Nat.sub_self]; rfl)
            have f0 := hI.frozen k
            have HDW := Lib.hid hdw
            by_cases hxp : 0 < x
            · have e1 : decide (x > 0) = true := by simpa using hxp
              have e1' : decide (0 < x) = true := by simpa using hxp
              by_cases hmp : 0 < m'
              · have e2 : decide (m' > 0) = true := by simpa using hmp
                have e2' : decide (0 < m') = true := by simpa using hmp
                rw [onesM, if_pos ⟨hxp, hmp⟩] at hf
                have hI2 := hI.set k (y + 1)
                rw [set_here hP] at hI2
                have HI2 := Lib.hid hI2
                have HF2 := Lib.hid hf
                have HP := Lib.hid hP
                have HB2 := Lib.hid (hBr.setCell (p := ⟨w.heap.size, k, none⟩) (Nat.le_refl _) (.int .i64 (y + 1)))
                have HXP := Lib.hid hxp
                have HMP := Lib.hid hmp
                clear hI hI2 hBr hp hget hx hbk hdb hdw hf hP hxp
                go_wp2
                go_roundw
                case rel => exact ⟨k + 1, m' - 1, P ++ [y + 1], by omega, by go_num, rfl, by simp [HP.out], by omega, by simpa using HI2.out, by simpa using HF2.out, HB2.out⟩
                case measure => simp [intOf]; omega
              · have e2 : decide (m' > 0) = false := by simpa using hmp
                have e2' : decide (0 < m') = false := by simpa using hmp
                rw [onesM, if_neg (by omega)] at hf
                have HI2 := Lib.hid hI
                have HF2 := Lib.hid hf
                have HP := Lib.hid hP
                have HB2 := Lib.hid hBr
                have HXP := Lib.hid hxp
                have HMP := Lib.hid hmp
                clear hI hBr hp hget hx hbk hdb hdw hf hP hxp hmp
                go_wp2
                go_roundw
                case rel => exact ⟨k + 1, m', P ++ [y], by omega, by go_num, rfl, by simp [HP.out], by omega, by simpa using HI2.out, by simpa using HF2.out, HB2.out⟩
                case measure => simp [intOf]; omega
            · have e1 : decide (x > 0) = false := by simpa using hxp
              have e1' : decide (0 < x) = false := by simpa using hxp
              rw [onesM, if_neg (by omega)] at hf
              have HI2 := Lib.hid hI
              have HF2 := Lib.hid hf
              have HP := Lib.hid hP
              have HB2 := Lib.hid hBr
              have HXP := Lib.hid hxp
              clear hI hBr hp hget hx hbk hdb hdw hf hP hxp
              go_wp2
              go_roundw
              case rel => exact ⟨k + 1, m', P ++ [y], by omega, by go_num, rfl, by simp [HP.out], by omega, by simpa using HI2.out, by simpa using HF2.out, HB2.out⟩
              case measure => simp [intOf]; omega
          · have hd : decide ((k : Int) < (ws.length : Int)) = false := by simp; omega
            have hk' : k = ws.length := by omega
            have hdb : (baseM n S ws).drop k = [] := List.drop_eq_nil_of_le (by rw [HBL.out]; omega)
            rw [hdb, onesM_nil, List.append_nil] at hf
            rw [hdb, List.append_nil, hf] at hI
            have HI2 := Lib.hid hI
            have HB2 := Lib.hid hBr
            clear hI hBr hf hdb hP
            go_wp2
            go_ret
            exact ⟨rfl, HI2.out, HB2.out⟩
end Go.Proofs.Ytgdkionmeacalab
end
section
namespace Go.Proofs.Ytgdkionmeacalab
open Go.RowKit
set_option linter.unusedVariables false
set_option maxHeartbeats 1000000
end Go.Proofs.Ytgdkionmeacalab
end
section
namespace Go.Proofs.Ytgdkionmeacalab
open Go.RowKit
set_option linter.unusedVariables false
set_option maxHeartbeats 1000000
attribute [local go_sem] growUpon_value growUpon_skip growUpon_enter
def wB (x : Int) : Bool := rng x 0 5
def sbB (n : Int) (ws : List Int) : Bool := rng n 0 400 && (rng ws.length 1 5 && ws.all wB)
theorem within_w (n a b : Int) (t : Bool) (w : World) (h : rng n a b = t) : Calls Try.prog 28 #[.int .i64 n, .int .i64 a, .int .i64 b] w fun e w' => e = .returned (.bool t) ∧ w = w' := by rw [← h]; exact within_any n a b w
theorem inRange_w (n a b : Int) (t : Bool) (w : World) (h : rng n a b = t) : Calls Try.prog 41 #[.int .i64 n, .int .i64 a, .int .i64 b] w fun e w' => e = .returned (.bool t) ∧ w = w' := by rw [← h]; exact inRange_any n a b w
theorem inRange_b (n : Int) (t : Bool) (w : World) (h : wB n = t) : Calls Try.prog 41 #[.int .i64 n, .int .i64 0, .int .i64 5] w fun e w' => e = .returned (.bool t) ∧ w = w' := inRange_w n 0 5 t w h
theorem validWeight_w (n : Int) (t : Bool) (w : World) (h : wB n = t) : Calls Try.prog 89 #[.int .i64 n] w fun e w' => e = .returned (.bool t) ∧ w = w' := by
  go_enter Try.func89, Try.ntmps89
  go_wp2_with (go_at_call 28; refine (within_w _ _ _ t _ h).mono ?_; rintro e w' ⟨rfl, rfl⟩)
  go_ret
  exact ⟨rfl, rfl⟩
end Go.Proofs.Ytgdkionmeacalab
end
section
namespace Go.Proofs.Ytgdkionmeacalab
open Go.RowKit
set_option linter.unusedVariables false
set_option maxHeartbeats 1000000
def lineB (l : Ln) : Bool := wB l.wt && rng l.mi 0 30
def linesB (L : List Ln) : Bool := rng L.length 1 5 && L.all lineB
def runB (a m n : Int) : Bool := rng a 0 (n - 1) && rng m 1 (n - a)
def spanB (n : Int) (s : Sp) : Bool := runB s.sa s.many n && rng s.need 0 50
def spansB (n : Int) (L : List Sp) : Bool := decide ((L.length : Int) ≤ 8) && L.all (spanB n)
theorem all_snocG {α : Type} {f : α → Bool} {L : List α} {k : Nat} {p : α} (h : L[k]? = some p) : (L.take (k + 1)).all f = ((L.take k).all f && f p) := by
  have hk : k < L.length := (List.getElem?_eq_some_iff.1 h).1
  have e : L[k] = p := (List.getElem?_eq_some_iff.1 h).2
  rw [List.take_succ_eq_append_getElem hk, e]
  simp
theorem all_falseG {α : Type} {f : α → Bool} {L : List α} {k : Nat} {p : α} (h : L[k]? = some p) (hp : f p = false) : L.all f = false := by
  rw [Bool.eq_false_iff]
  intro hh
  have h1 := List.all_eq_true.1 hh p (List.mem_of_getElem? h)
  rw [hp] at h1
  cases h1
theorem validLine_v (l : Ln) (b : Bool) (w : World) (hb : lineB l = b) : Calls Try.prog 85 #[.agg #[.int .i64 l.wt, .int .i64 l.mi]] w fun e w' => e = .returned (.bool b) ∧ Below w.heap.size w w' := by
  cases h1 : wB l.wt
  · have hbf : b = false := by rw [← hb]; simp [lineB, h1]
    subst hbf
    go_enter Try.func85, Try.ntmps85
    go_wp2_with fail
    with_reducible refine (validWeight_w _ false _ h1).mono ?_
    rintro e w1 ⟨rfl, rfl⟩
    go_wp2
    go_ret
    exact ⟨rfl, balloc (Below.refl _ _)⟩
  · have h2 : rng l.mi 0 30 = b := by rw [← hb]; simp [lineB, h1]
    cases b
    all_goals
      go_enter Try.func85, Try.ntmps85
      go_wp2_with fail
      with_reducible refine (validWeight_w _ true _ h1).mono ?_
      rintro e w1 ⟨rfl, rfl⟩
      go_wp2_with fail
      with_reducible refine (within_w _ 0 30 _ _ h2).mono ?_
      rintro e w1 ⟨rfl, rfl⟩
      go_wp2
      go_ret
      exact ⟨rfl, balloc (Below.refl _ _)⟩
set_option maxRecDepth 100000 in
theorem allOfLn_v (A : Option Addr) (c : Nat) (L : List Ln) (b : Bool) (w : World) (h : LnV w A L) (hL : L.length ≤ 1048576) (hb0 : L.all lineB = b) :
    Calls Try.prog 84 #[.slice A L.length c, .func (.func 85) #[] #[]] w fun e w' => e = .returned (.bool b) ∧ Below w.heap.size w w' := by
  have HB0 := Lib.hid hb0
  clear hb0
  go_enter Try.func84, Try.ntmps84
  go_wp2_with fail
  go_loopw [9] (fun i wr => ∃ k : Nat, k ≤ L.length ∧ i = .int .i64 k ∧ (L.take k).all lineB = true ∧ Below w.heap.size w wr) (fun i _ => L.length - (intOf i).toNat)
  case atStart => exact ⟨0, by omega, rfl, rfl, Below.refl _ _⟩
  case round =>
    obtain ⟨k, hk, rfl, hok, hB⟩ := hrel
    by_cases hlt : k < L.length
    · have hd : decide ((k : Int) < (L.length : Int)) = true := by simpa using hlt
      obtain ⟨b', off, rfl, hb', hp⟩ := (h.keep hB).cells (by omega)
      have hget : L[k]? = some L[k] := List.getElem?_eq_getElem hlt
      obtain ⟨c0, c1⟩ := hp k _ hget
      generalize hx : L[k] = p at *
      have HG := Lib.hid hget
      have HX := Lib.hid hx
      have HO := Lib.hid hok
      have HBB := Lib.hid hB
      clear hget hx hok hB hp
      cases hv : lineB p
      all_goals
        have Hv := Lib.hid hv
        clear hv
        go_wp2_with fail
        first | (with_reducible refine (validLine_v p false _ Hv.out).mono ?_) | (with_reducible refine (validLine_v p true _ Hv.out).mono ?_)
        rintro e w1 ⟨rfl, hb1⟩
        replace HBB := Lib.hid (bkeep2 (balloc HBB.out) hb1)
        clear hb1 c0 c1
        go_wp2
      · go_ret
        exact ⟨ret_bool (by rw [← HB0.out]; exact (all_falseG HG.out Hv.out).symm), HBB.out⟩
      · go_roundw
        case rel => exact ⟨k + 1, by omega, by go_num, by rw [all_snocG HG.out, HO.out, Hv.out]; rfl, HBB.out⟩
        case measure => simp [intOf]; omega
    · have hd : decide ((k : Int) < (L.length : Int)) = false := decide_eq_false (by omega)
      have he : L.take k = L := List.take_of_length_le (by omega)
      rw [he] at hok
      have HO := Lib.hid hok
      have HBB := Lib.hid hB
      clear hok hB he
      go_wp2
      go_ret
      exact ⟨ret_bool (by rw [← HB0.out, HO.out]), HBB.out⟩
theorem validLines_v (A : Option Addr) (c : Nat) (L : List Ln) (b : Bool) (w : World) (h : LnV w A L) (hL : L.length ≤ 1048576) (hb : linesB L = b) :
    Calls Try.prog 58 #[.slice A L.length c] w fun e w' => e = .returned (.bool b) ∧ Below w.heap.size w w' := by
  cases h1 : rng (L.length : Int) 1 5
  · have hbf : b = false := by rw [← hb]; simp [linesB, h1]
    subst hbf
    go_enter Try.func58, Try.ntmps58
    go_wp2_with fail
    with_reducible refine (within_w _ 1 5 false _ h1).mono ?_
    rintro e w1 ⟨rfl, rfl⟩
    go_wp2
    go_ret
    exact ⟨rfl, Below.refl _ _⟩
  · have h2 : L.all lineB = b := by rw [← hb]; simp [linesB, h1]
    cases b
    all_goals
      go_enter Try.func58, Try.ntmps58
      go_wp2_with fail
      with_reducible refine (within_w _ 1 5 true _ h1).mono ?_
      rintro e w1 ⟨rfl, rfl⟩
      go_wp2_with fail
      with_reducible refine (allOfLn_v A c L _ _ h hL h2).mono ?_
      rintro e w1 ⟨rfl, hb1⟩
      have HB := Lib.hid hb1
      clear hb1
      go_wp2
      go_ret
      exact ⟨rfl, HB.out⟩
theorem validRun_v (a m n : Int) (b : Bool) (w : World) (hn : 1 ≤ n) (hn5 : n ≤ 5) (hb : runB a m n = b) : Calls Try.prog 64 #[.int .i64 a, .int .i64 m, .int .i64 n] w fun e w' => e = .returned (.bool b) ∧ w = w' := by
  cases h1 : rng a 0 (n - 1)
  · have hbf : b = false := by rw [← hb]; simp [runB, h1]
    subst hbf
    go_enter Try.func64, Try.ntmps64
    go_wp2_with fail
    with_reducible refine (within_w _ 0 (n - 1) false _ h1).mono ?_
    rintro e w1 ⟨rfl, rfl⟩
    go_wp2
    go_ret
    exact ⟨rfl, rfl⟩
  · have h2 : rng m 1 (n - a) = b := by rw [← hb]; simp [runB, h1]
    have ha := rng_iff.1 h1
    cases b
    all_goals
      go_enter Try.func64, Try.ntmps64
      go_wp2_with fail
      with_reducible refine (within_w _ 0 (n - 1) true _ h1).mono ?_
      rintro e w1 ⟨rfl, rfl⟩
      go_wp2_with fail
      with_reducible refine (within_w _ 1 (n - a) _ _ h2).mono ?_
      rintro e w1 ⟨rfl, rfl⟩
      go_wp2
      go_ret
      exact ⟨rfl, rfl⟩
end Go.Proofs.Ytgdkionmeacalab
end
section
namespace Go.Proofs.Ytgdkionmeacalab
open Go.RowKit
set_option linter.unusedVariables false
set_option maxHeartbeats 1000000
theorem svalidLine_v (l : Ln) (b : Bool) (w : World) (hb : lineB l = b) : Calls Try.prog 88 #[.agg #[.int .i64 l.wt, .int .i64 l.mi]] w fun e w' => e = .returned (.bool b) ∧ Below w.heap.size w w' := by
  cases h1 : wB l.wt
  · have hbf : b = false := by rw [← hb]; simp [lineB, h1]
    subst hbf
    go_enter Try.func88, Try.ntmps88
    go_wp2_with fail
    with_reducible refine (inRange_b _ false _ h1).mono ?_
    rintro e w1 ⟨rfl, rfl⟩
    go_wp2
    go_ret
    exact ⟨rfl, balloc (Below.refl _ _)⟩
  · have h2 : rng l.mi 0 30 = b := by rw [← hb]; simp [lineB, h1]
    cases b
    all_goals
      go_enter Try.func88, Try.ntmps88
      go_wp2_with fail
      with_reducible refine (inRange_b _ true _ h1).mono ?_
      rintro e w1 ⟨rfl, rfl⟩
      go_wp2_with fail
      with_reducible refine (inRange_w _ 0 30 _ _ h2).mono ?_
      rintro e w1 ⟨rfl, rfl⟩
      go_wp2
      go_ret
      exact ⟨rfl, balloc (Below.refl _ _)⟩
set_option maxRecDepth 100000 in
theorem svalidLines_v (A : Option Addr) (c : Nat) (L : List Ln) (b : Bool) (w : World) (h : LnV w A L) (hL : L.length ≤ 1048576) (hb0 : linesB L = b) :
    Calls Try.prog 71 #[.slice A L.length c] w fun e w' => e = .returned (.bool b) ∧ Below w.heap.size w w' := by
  have HB0 := Lib.hid hb0
  clear hb0
  go_enter Try.func71, Try.ntmps71
  go_wp2_with fail
  go_loopw [3] (fun i wr => ∃ k : Nat, k ≤ L.length ∧ i = .int .i64 k ∧ (L.take k).all lineB = true ∧ Below w.heap.size w wr) (fun i _ => L.length - (intOf i).toNat)
  case atStart => exact ⟨0, by omega, rfl, rfl, Below.refl _ _⟩
  case round =>
    obtain ⟨k, hk, rfl, hok, hB⟩ := hrel
    by_cases hlt : k < L.length
    · have hd : decide ((k : Int) < (L.length : Int)) = true := by simpa using hlt
      obtain ⟨b', off, rfl, hb', hp⟩ := (h.keep hB).cells (by omega)
      have hget : L[k]? = some L[k] := List.getElem?_eq_getElem hlt
      obtain ⟨c0, c1⟩ := hp k _ hget
      generalize hx : L[k] = p at *
      have HG := Lib.hid hget
      have HX := Lib.hid hx
      have HO := Lib.hid hok
      have HBB := Lib.hid hB
      clear hget hx hok hB hp
      cases hv : lineB p
      all_goals
        have Hv := Lib.hid hv
        clear hv
        go_wp2_with fail
        first | (with_reducible refine (svalidLine_v p false _ Hv.out).mono ?_) | (with_reducible refine (svalidLine_v p true _ Hv.out).mono ?_)
        rintro e w1 ⟨rfl, hb1⟩
        replace HBB := Lib.hid (bkeep2 HBB.out hb1)
        clear hb1 c0 c1
        go_wp2
      · go_ret
        exact ⟨ret_bool (by rw [← HB0.out]; simp [linesB, all_falseG HG.out Hv.out]), HBB.out⟩
      · go_roundw
        case rel => exact ⟨k + 1, by omega, by go_num, by rw [all_snocG HG.out, HO.out, Hv.out]; rfl, HBB.out⟩
        case measure => simp [intOf]; omega
    · have hd : decide ((k : Int) < (L.length : Int)) = false := decide_eq_false (by omega)
      have he : L.take k = L := List.take_of_length_le (by omega)
      rw [he] at hok
      have h1 : rng (L.length : Int) 1 5 = b := by rw [← HB0.out]; simp [linesB, hok]
      have HBB := Lib.hid hB
      have H1 := Lib.hid h1
      clear hok hB he h1
      go_wp2_with fail
      with_reducible refine (inRange_w _ 1 5 b _ H1.out).mono ?_
      rintro e w1 ⟨rfl, rfl⟩
      go_wp2
      go_ret
      exact ⟨rfl, HBB.out⟩
def addP : List Int → List Int → List Int
  | o :: os, p :: ps => (o + p) :: addP os ps
  | os, _ => os
theorem addP_nil (O : List Int) : addP O [] = O := by cases O <;> rfl
theorem addP_len : ∀ (O P : List Int), (addP O P).length = O.length
  | [], P => by simp [addP]
  | o :: os, [] => rfl
  | o :: os, p :: ps => by simp [addP, addP_len os ps]
theorem addP_get : ∀ {O P : List Int} {i : Nat} {o : Int}, O[i]? = some o → P.length ≤ i → (addP O P)[i]? = some o
  | [], P, i, o, h, _ => by simp at h
  | x :: os, [], i, o, h, _ => h
  | x :: os, p :: ps, 0, o, h, hl => by simp at hl
  | x :: os, p :: ps, i + 1, o, h, hl => by
    simp at h hl
    simpa [addP] using addP_get h hl
theorem addP_snoc : ∀ {O P : List Int} {i : Nat} {o p : Int}, O[i]? = some o → P[i]? = some p → (addP O (P.take i)).set i (o + p) = addP O (P.take (i + 1))
  | [], P, i, o, p, h, _ => by simp at h
  | x :: os, [], i, o, p, _, h => by simp at h
  | x :: os, q :: ps, 0, o, p, h, hp => by
    simp at h hp
    subst h hp
    simp [addP, addP_nil]
  | x :: os, q :: ps, i + 1, o, p, h, hp => by
    simp at h hp
    simp [addP, addP_snoc h hp]
def addAt (O : List Int) (k : Nat) (P : List Int) : List Int := O.take k ++ addP (O.drop k) P
theorem addAt_len (O : List Int) (k : Nat) (P : List Int) : (addAt O k P).length = O.length := by
  unfold addAt
  rw [List.length_append, addP_len, List.length_take, List.length_drop]; omega
theorem addAt_nil (O : List Int) (k : Nat) : addAt O k [] = O := by simp [addAt, addP_nil]
theorem addAt_get {O P : List Int} {k i : Nat} {o : Int} (h : O[k + i]? = some o) (hl : P.length ≤ i) : (addAt O k P)[k + i]? = some o := by
  have hk := (List.getElem?_eq_some_iff.1 h).1
  have e : (O.take k).length = k := by rw [List.length_take]; omega
  unfold addAt
  rw [List.getElem?_append_right (by omega), e, Nat.add_sub_cancel_left]
  exact addP_get (by rw [List.getElem?_drop]; exact h) hl
theorem addAt_snoc {O P : List Int} {k i : Nat} {o p : Int} (h : O[k + i]? = some o) (hp : P[i]? = some p) : (addAt O k (P.take i)).set (k + i) (o + p) = addAt O k (P.take (i + 1)) := by
  have hk := (List.getElem?_eq_some_iff.1 h).1
  have e : (O.take k).length = k := by rw [List.length_take]; omega
  unfold addAt
  rw [List.set_append_right _ _ (by omega), e, Nat.add_sub_cancel_left, addP_snoc (by rw [List.getElem?_drop]; exact h) hp]
end Go.Proofs.Ytgdkionmeacalab
end
section
namespace Go.Proofs.Ytgdkionmeacalab
open Go.RowKit
set_option linter.unusedVariables false
set_option maxHeartbeats 1000000
attribute [local go_sem] growUpon_value growUpon_skip growUpon_enter
def cellB (n m : Int) (c : Ce) : Bool := runB c.co c.mc n && (runB c.ro c.mr m && (rng c.cw 0 30 && (rng c.ch 0 30 && (rng c.sk 0 15 && (rng c.px 0 10 && rng c.py 0 10)))))
def gridB (L1 L2 : List Ln) (L3 : List Ce) : Bool := linesB L1 && (linesB L2 && (decide ((L3.length : Int) ≤ 8) && L3.all (cellB L1.length L2.length)))
set_option maxRecDepth 100000 in
theorem validCell_v (c : Ce) (n m : Int) (b : Bool) (w : World) (hn : 1 ≤ n) (hn5 : n ≤ 5) (hm : 1 ≤ m) (hm5 : m ≤ 5) (hb : cellB n m c = b) : Calls Try.prog 49 #[.agg #[.int .i64 c.co, .int .i64 c.ro, .int .i64 c.mc, .int .i64 c.mr, .int .i64 c.cw, .int .i64 c.ch, .int .i64 c.sk, .int .i64 c.px, .int .i64 c.py], .int .i64 n, .int .i64 m] w fun e w' => e = .returned (.bool b) ∧ Below w.heap.size w w' := by
  cases h1 : runB c.co c.mc n
  · have hbf : false = b := by rw [← hb]; simp [cellB, h1]
    subst hbf
    go_enter Try.func49, Try.ntmps49
    go_wp2_with fail
    with_reducible refine (validRun_v _ _ n false _ hn hn5 h1).mono ?_
    rintro e w1 ⟨rfl, rfl⟩
    go_wp2
    go_ret
    exact ⟨rfl, (by repeat (first | with_reducible exact Below.refl _ _ | with_reducible assumption | with_reducible refine balloc ?_ | (with_reducible refine bset ?_ ?_; rotate_left; ((try dsimp only); omega)) | refine bkeep2 ?_ (by assumption) | with_reducible refine Below.drew ?_))⟩
  cases h2 : runB c.ro c.mr m
  · have hbf : false = b := by rw [← hb]; simp [cellB, h2]
    subst hbf
    go_enter Try.func49, Try.ntmps49
    go_wp2_with fail
    with_reducible refine (validRun_v _ _ n true _ hn hn5 h1).mono ?_
    rintro e w1 ⟨rfl, rfl⟩
    go_wp2_with fail
    with_reducible refine (validRun_v _ _ m false _ hm hm5 h2).mono ?_
    rintro e w1 ⟨rfl, rfl⟩
    go_wp2
    go_ret
    exact ⟨rfl, (by repeat (first | with_reducible exact Below.refl _ _ | with_reducible assumption | with_reducible refine balloc ?_ | (with_reducible refine bset ?_ ?_; rotate_left; ((try dsimp only); omega)) | refine bkeep2 ?_ (by assumption) | with_reducible refine Below.drew ?_))⟩
  cases h3 : (rng c.cw 0 30 && rng c.ch 0 30)
  · have hbf : false = b := by rw [← hb]; cases u : rng c.cw 0 30 <;> cases v : rng c.ch 0 30 <;> simp [cellB, u, v] at h3 ⊢
    subst hbf
    go_enter Try.func49, Try.ntmps49
    go_wp2_with fail
    with_reducible refine (validRun_v _ _ n true _ hn hn5 h1).mono ?_
    rintro e w1 ⟨rfl, rfl⟩
    go_wp2_with fail
    with_reducible refine (validRun_v _ _ m true _ hm hm5 h2).mono ?_
    rintro e w1 ⟨rfl, rfl⟩
    go_wp2_with fail
    with_reducible refine (validWish_w _ _ false _ h3).mono ?_
    rintro e w1 ⟨rfl, rfl⟩
    go_wp2
    go_ret
    exact ⟨rfl, (by repeat (first | with_reducible exact Below.refl _ _ | with_reducible assumption | with_reducible refine balloc ?_ | (with_reducible refine bset ?_ ?_; rotate_left; ((try dsimp only); omega)) | refine bkeep2 ?_ (by assumption) | with_reducible refine Below.drew ?_))⟩
  obtain ⟨h3a, h3b⟩ : rng c.cw 0 30 = true ∧ rng c.ch 0 30 = true := by simpa using h3
  cases h4 : rng c.sk 0 15
  · have hbf : false = b := by rw [← hb]; simp [cellB, h4, h3a, h3b]
    subst hbf
    go_enter Try.func49, Try.ntmps49
    go_wp2_with fail
    with_reducible refine (validRun_v _ _ n true _ hn hn5 h1).mono ?_
    rintro e w1 ⟨rfl, rfl⟩
    go_wp2_with fail
    with_reducible refine (validRun_v _ _ m true _ hm hm5 h2).mono ?_
    rintro e w1 ⟨rfl, rfl⟩
    go_wp2_with fail
    with_reducible refine (validWish_w _ _ true _ h3).mono ?_
    rintro e w1 ⟨rfl, rfl⟩
    go_wp2_with fail
    with_reducible refine (within_w _ 0 15 false _ h4).mono ?_
    rintro e w1 ⟨rfl, rfl⟩
    go_wp2
    go_ret
    exact ⟨rfl, (by repeat (first | with_reducible exact Below.refl _ _ | with_reducible assumption | with_reducible refine balloc ?_ | (with_reducible refine bset ?_ ?_; rotate_left; ((try dsimp only); omega)) | refine bkeep2 ?_ (by assumption) | with_reducible refine Below.drew ?_))⟩
  cases h5 : rng c.px 0 10
  · have hbf : false = b := by rw [← hb]; simp [cellB, h5, h3a, h3b]
    subst hbf
    go_enter Try.func49, Try.ntmps49
    go_wp2_with fail
    with_reducible refine (validRun_v _ _ n true _ hn hn5 h1).mono ?_
    rintro e w1 ⟨rfl, rfl⟩
    go_wp2_with fail
    with_reducible refine (validRun_v _ _ m true _ hm hm5 h2).mono ?_
    rintro e w1 ⟨rfl, rfl⟩
    go_wp2_with fail
    with_reducible refine (validWish_w _ _ true _ h3).mono ?_
    rintro e w1 ⟨rfl, rfl⟩
    go_wp2_with fail
    with_reducible refine (within_w _ 0 15 true _ h4).mono ?_
    rintro e w1 ⟨rfl, rfl⟩
    go_wp2_with fail
    with_reducible refine (within_w _ 0 10 false _ h5).mono ?_
    rintro e w1 ⟨rfl, rfl⟩
    go_wp2
    go_ret
    exact ⟨rfl, (by repeat (first | with_reducible exact Below.refl _ _ | with_reducible assumption | with_reducible refine balloc ?_ | (with_reducible refine bset ?_ ?_; rotate_left; ((try dsimp only); omega)) | refine bkeep2 ?_ (by assumption) | with_reducible refine Below.drew ?_))⟩
  have h6 : rng c.py 0 10 = b := by rw [← hb]; simp [cellB, h1, h2, h4, h5, h3a, h3b]
  cases b
  all_goals
    go_enter Try.func49, Try.ntmps49
    go_wp2_with fail
    with_reducible refine (validRun_v _ _ n true _ hn hn5 h1).mono ?_
    rintro e w1 ⟨rfl, rfl⟩
    go_wp2_with fail
    with_reducible refine (validRun_v _ _ m true _ hm hm5 h2).mono ?_
    rintro e w1 ⟨rfl, rfl⟩
    go_wp2_with fail
    with_reducible refine (validWish_w _ _ true _ h3).mono ?_
    rintro e w1 ⟨rfl, rfl⟩
    go_wp2_with fail
    with_reducible refine (within_w _ 0 15 true _ h4).mono ?_
    rintro e w1 ⟨rfl, rfl⟩
    go_wp2_with fail
    with_reducible refine (within_w _ 0 10 true _ h5).mono ?_
    rintro e w1 ⟨rfl, rfl⟩
    go_wp2_with fail
    with_reducible refine (within_w _ 0 10 _ _ h6).mono ?_
    rintro e w1 ⟨rfl, rfl⟩
    go_wp2
    go_ret
    exact ⟨rfl, (by repeat (first | with_reducible exact Below.refl _ _ | with_reducible assumption | with_reducible refine balloc ?_ | (with_reducible refine bset ?_ ?_; rotate_left; ((try dsimp only); omega)) | refine bkeep2 ?_ (by assumption) | with_reducible refine Below.drew ?_))⟩
theorem linesB_len' {L : List Ln} (h : linesB L = true) : 1 ≤ L.length ∧ L.length ≤ 5 := by
  simp only [linesB, Bool.and_eq_true, rng_iff] at h
  omega
set_option maxRecDepth 100000 in
theorem svalidCell_v (c : Ce) (n1 n2 n3 c1 c2 c3 : Nat) (A1 A2 A3 : Option Addr) (b : Bool) (w : World) (hn : n1 ≤ 1048576) (hm : n2 ≤ 1048576) (hb : cellB n1 n2 c = b) : Calls Try.prog 72 #[.agg #[.slice A1 n1 c1, .slice A2 n2 c2, .slice A3 n3 c3], .agg #[.int .i64 c.co, .int .i64 c.ro, .int .i64 c.mc, .int .i64 c.mr, .int .i64 c.cw, .int .i64 c.ch, .int .i64 c.sk, .int .i64 c.px, .int .i64 c.py]] w fun e w' => e = .returned (.bool b) ∧ Below w.heap.size w w' := by
  cases h1 : rng c.co 0 ((n1 : Int) - 1)
  · have hbf : false = b := by rw [← hb]; simp [cellB, runB, h1]
    subst hbf
    go_enter Try.func72, Try.ntmps72
    go_wp2_with fail
    with_reducible refine (inRange_w _ 0 ((n1 : Int) - 1) false _ h1).mono ?_
    rintro e w1 ⟨rfl, rfl⟩
    go_wp2
    go_ret
    exact ⟨rfl, (by repeat (first | with_reducible exact Below.refl _ _ | with_reducible assumption | with_reducible refine balloc ?_ | (with_reducible refine bset ?_ ?_; rotate_left; ((try dsimp only); omega)) | refine bkeep2 ?_ (by assumption) | with_reducible refine Below.drew ?_))⟩
  have ha1 := rng_iff.1 h1
  cases h2 : rng c.ro 0 ((n2 : Int) - 1)
  · have hbf : false = b := by rw [← hb]; simp [cellB, runB, h2]
    subst hbf
    go_enter Try.func72, Try.ntmps72
    go_wp2_with fail
    with_reducible refine (inRange_w _ 0 ((n1 : Int) - 1) true _ h1).mono ?_
    rintro e w1 ⟨rfl, rfl⟩
    go_wp2_with fail
    with_reducible refine (inRange_w _ 0 ((n2 : Int) - 1) false _ h2).mono ?_
    rintro e w1 ⟨rfl, rfl⟩
    go_wp2
    go_ret
    exact ⟨rfl, (by repeat (first | with_reducible exact Below.refl _ _ | with_reducible assumption | with_reducible refine balloc ?_ | (with_reducible refine bset ?_ ?_; rotate_left; ((try dsimp only); omega)) | refine bkeep2 ?_ (by assumption) | with_reducible refine Below.drew ?_))⟩
  have ha2 := rng_iff.1 h2
  cases h3 : rng c.mc 1 ((n1 : Int) - c.co)
  · have hbf : false = b := by rw [← hb]; simp [cellB, runB, h3]
    subst hbf
    go_enter Try.func72, Try.ntmps72
    go_wp2_with fail
    with_reducible refine (inRange_w _ 0 ((n1 : Int) - 1) true _ h1).mono ?_
    rintro e w1 ⟨rfl, rfl⟩
    go_wp2_with fail
    with_reducible refine (inRange_w _ 0 ((n2 : Int) - 1) true _ h2).mono ?_
    rintro e w1 ⟨rfl, rfl⟩
    go_wp2_with fail
    with_reducible refine (inRange_w _ 1 ((n1 : Int) - c.co) false _ h3).mono ?_
    rintro e w1 ⟨rfl, rfl⟩
    go_wp2
    go_ret
    exact ⟨rfl, (by repeat (first | with_reducible exact Below.refl _ _ | with_reducible assumption | with_reducible refine balloc ?_ | (with_reducible refine bset ?_ ?_; rotate_left; ((try dsimp only); omega)) | refine bkeep2 ?_ (by assumption) | with_reducible refine Below.drew ?_))⟩
  cases h4 : rng c.mr 1 ((n2 : Int) - c.ro)
  · have hbf : false = b := by rw [← hb]; simp [cellB, runB, h4]
    subst hbf
    go_enter Try.func72, Try.ntmps72
    go_wp2_with fail
    with_reducible refine (inRange_w _ 0 ((n1 : Int) - 1) true _ h1).mono ?_
    rintro e w1 ⟨rfl, rfl⟩
    go_wp2_with fail
    with_reducible refine (inRange_w _ 0 ((n2 : Int) - 1) true _ h2).mono ?_
    rintro e w1 ⟨rfl, rfl⟩
    go_wp2_with fail
    with_reducible refine (inRange_w _ 1 ((n1 : Int) - c.co) true _ h3).mono ?_
    rintro e w1 ⟨rfl, rfl⟩
    go_wp2_with fail
    with_reducible refine (inRange_w _ 1 ((n2 : Int) - c.ro) false _ h4).mono ?_
    rintro e w1 ⟨rfl, rfl⟩
    go_wp2
    go_ret
    exact ⟨rfl, (by repeat (first | with_reducible exact Below.refl _ _ | with_reducible assumption | with_reducible refine balloc ?_ | (with_reducible refine bset ?_ ?_; rotate_left; ((try dsimp only); omega)) | refine bkeep2 ?_ (by assumption) | with_reducible refine Below.drew ?_))⟩
  cases h5 : rng c.cw 0 30
  · have hbf : false = b := by rw [← hb]; simp [cellB, runB, h5]
    subst hbf
    go_enter Try.func72, Try.ntmps72
    go_wp2_with fail
    with_reducible refine (inRange_w _ 0 ((n1 : Int) - 1) true _ h1).mono ?_
    rintro e w1 ⟨rfl, rfl⟩
    go_wp2_with fail
    with_reducible refine (inRange_w _ 0 ((n2 : Int) - 1) true _ h2).mono ?_
    rintro e w1 ⟨rfl, rfl⟩
    go_wp2_with fail
    with_reducible refine (inRange_w _ 1 ((n1 : Int) - c.co) true _ h3).mono ?_
    rintro e w1 ⟨rfl, rfl⟩
    go_wp2_with fail
    with_reducible refine (inRange_w _ 1 ((n2 : Int) - c.ro) true _ h4).mono ?_
    rintro e w1 ⟨rfl, rfl⟩
    go_wp2_with fail
    with_reducible refine (inRange_w _ 0 30 false _ h5).mono ?_
    rintro e w1 ⟨rfl, rfl⟩
    go_wp2
    go_ret
    exact ⟨rfl, (by repeat (first | with_reducible exact Below.refl _ _ | with_reducible assumption | with_reducible refine balloc ?_ | (with_reducible refine bset ?_ ?_; rotate_left; ((try dsimp only); omega)) | refine bkeep2 ?_ (by assumption) | with_reducible refine Below.drew ?_))⟩
  cases h6 : rng c.ch 0 30
  · have hbf : false = b := by rw [← hb]; simp [cellB, runB, h6]
    subst hbf
    go_enter Try.func72, Try.ntmps72
    go_wp2_with fail
    with_reducible refine (inRange_w _ 0 ((n1 : Int) - 1) true _ h1).mono ?_
    rintro e w1 ⟨rfl, rfl⟩
    go_wp2_with fail
    with_reducible refine (inRange_w _ 0 ((n2 : Int) - 1) true _ h2).mono ?_
    rintro e w1 ⟨rfl, rfl⟩
    go_wp2_with fail
    with_reducible refine (inRange_w _ 1 ((n1 : Int) - c.co) true _ h3).mono ?_
    rintro e w1 ⟨rfl, rfl⟩
    go_wp2_with fail
    with_reducible refine (inRange_w _ 1 ((n2 : Int) - c.ro) true _ h4).mono ?_
    rintro e w1 ⟨rfl, rfl⟩
    go_wp2_with fail
    with_reducible refine (inRange_w _ 0 30 true _ h5).mono ?_
    rintro e w1 ⟨rfl, rfl⟩
    go_wp2_with fail
    with_reducible refine (inRange_w _ 0 30 false _ h6).mono ?_
    rintro e w1 ⟨rfl, rfl⟩
    go_wp2
    go_ret
    exact ⟨rfl, (by repeat (first | with_reducible exact Below.refl _ _ | with_reducible assumption | with_reducible refine balloc ?_ | (with_reducible refine bset ?_ ?_; rotate_left; ((try dsimp only); omega)) | refine bkeep2 ?_ (by assumption) | with_reducible refine Below.drew ?_))⟩
  cases h7 : rng c.sk 0 15
  · have hbf : false = b := by rw [← hb]; simp [cellB, runB, h7]
    subst hbf
    go_enter Try.func72, Try.ntmps72
    go_wp2_with fail
    with_reducible refine (inRange_w _ 0 ((n1 : Int) - 1) true _ h1).mono ?_
    rintro e w1 ⟨rfl, rfl⟩
    go_wp2_with fail
    with_reducible refine (inRange_w _ 0 ((n2 : Int) - 1) true _ h2).mono ?_
    rintro e w1 ⟨rfl, rfl⟩
    go_wp2_with fail
    with_reducible refine (inRange_w _ 1 ((n1 : Int) - c.co) true _ h3).mono ?_
    rintro e w1 ⟨rfl, rfl⟩
    go_wp2_with fail
    with_reducible refine (inRange_w _ 1 ((n2 : Int) - c.ro) true _ h4).mono ?_
    rintro e w1 ⟨rfl, rfl⟩
    go_wp2_with fail
    with_reducible refine (inRange_w _ 0 30 true _ h5).mono ?_
    rintro e w1 ⟨rfl, rfl⟩
    go_wp2_with fail
    with_reducible refine (inRange_w _ 0 30 true _ h6).mono ?_
    rintro e w1 ⟨rfl, rfl⟩
    go_wp2_with fail
    with_reducible refine (inRange_w _ 0 15 false _ h7).mono ?_
    rintro e w1 ⟨rfl, rfl⟩
    go_wp2
    go_ret
    exact ⟨rfl, (by repeat (first | with_reducible exact Below.refl _ _ | with_reducible assumption | with_reducible refine balloc ?_ | (with_reducible refine bset ?_ ?_; rotate_left; ((try dsimp only); omega)) | refine bkeep2 ?_ (by assumption) | with_reducible refine Below.drew ?_))⟩
  cases h8 : rng c.px 0 10
  · have hbf : false = b := by rw [← hb]; simp [cellB, runB, h8]
    subst hbf
    go_enter Try.func72, Try.ntmps72
    go_wp2_with fail
    with_reducible refine (inRange_w _ 0 ((n1 : Int) - 1) true _ h1).mono ?_
    rintro e w1 ⟨rfl, rfl⟩
    go_wp2_with fail
    with_reducible refine (inRange_w _ 0 ((n2 : Int) - 1) true _ h2).mono ?_
    rintro e w1 ⟨rfl, rfl⟩
    go_wp2_with fail
    with_reducible refine (inRange_w _ 1 ((n1 : Int) - c.co) true _ h3).mono ?_
    rintro e w1 ⟨rfl, rfl⟩
    go_wp2_with fail
    with_reducible refine (inRange_w _ 1 ((n2 : Int) - c.ro) true _ h4).mono ?_
    rintro e w1 ⟨rfl, rfl⟩
    go_wp2_with fail
    with_reducible refine (inRange_w _ 0 30 true _ h5).mono ?_
    rintro e w1 ⟨rfl, rfl⟩
    go_wp2_with fail
    with_reducible refine (inRange_w _ 0 30 true _ h6).mono ?_
    rintro e w1 ⟨rfl, rfl⟩
    go_wp2_with fail
    with_reducible refine (inRange_w _ 0 15 true _ h7).mono ?_
    rintro e w1 ⟨rfl, rfl⟩
    go_wp2_with fail
    with_reducible refine (inRange_w _ 0 10 false _ h8).mono ?_
    rintro e w1 ⟨rfl, rfl⟩
    go_wp2
    go_ret
    exact ⟨rfl, (by repeat (first | with_reducible exact Below.refl _ _ | with_reducible assumption | with_reducible refine balloc ?_ | (with_reducible refine bset ?_ ?_; rotate_left; ((try dsimp only); omega)) | refine bkeep2 ?_ (by assumption) | with_reducible refine Below.drew ?_))⟩
  have h9 : rng c.py 0 10 = b := by rw [← hb]; simp [cellB, runB, h1, h2, h3, h4, h5, h6, h7, h8]
  cases b
  all_goals
    go_enter Try.func72, Try.ntmps72
    go_wp2_with fail
    with_reducible refine (inRange_w _ 0 ((n1 : Int) - 1) true _ h1).mono ?_
    rintro e w1 ⟨rfl, rfl⟩
    go_wp2_with fail
    with_reducible refine (inRange_w _ 0 ((n2 : Int) - 1) true _ h2).mono ?_
    rintro e w1 ⟨rfl, rfl⟩
    go_wp2_with fail
    with_reducible refine (inRange_w _ 1 ((n1 : Int) - c.co) true _ h3).mono ?_
    rintro e w1 ⟨rfl, rfl⟩
    go_wp2_with fail
    with_reducible refine (inRange_w _ 1 ((n2 : Int) - c.ro) true _ h4).mono ?_
    rintro e w1 ⟨rfl, rfl⟩
    go_wp2_with fail
    with_reducible refine (inRange_w _ 0 30 true _ h5).mono ?_
    rintro e w1 ⟨rfl, rfl⟩
    go_wp2_with fail
    with_reducible refine (inRange_w _ 0 30 true _ h6).mono ?_
    rintro e w1 ⟨rfl, rfl⟩
    go_wp2_with fail
    with_reducible refine (inRange_w _ 0 15 true _ h7).mono ?_
    rintro e w1 ⟨rfl, rfl⟩
    go_wp2_with fail
    with_reducible refine (inRange_w _ 0 10 true _ h8).mono ?_
    rintro e w1 ⟨rfl, rfl⟩
    go_wp2_with fail
    with_reducible refine (inRange_w _ 0 10 _ _ h9).mono ?_
    rintro e w1 ⟨rfl, rfl⟩
    go_wp2
    go_ret
    exact ⟨rfl, (by repeat (first | with_reducible exact Below.refl _ _ | with_reducible assumption | with_reducible refine balloc ?_ | (with_reducible refine bset ?_ ?_; rotate_left; ((try dsimp only); omega)) | refine bkeep2 ?_ (by assumption) | with_reducible refine Below.drew ?_))⟩
end Go.Proofs.Ytgdkionmeacalab
end
section
namespace Go.Proofs.Ytgdkionmeacalab
open Go.RowKit
set_option linter.unusedVariables false
set_option maxHeartbeats 1000000
set_option maxRecDepth 100000 in
theorem validPlace_t (p : Plc) (t : Bool) (w : World) (h : plB p = t) : Calls Try.prog 48 #[.agg #[.int .i64 p.x, .int .i64 p.y, .int .i64 p.rx, .int .i64 p.ry, .int .i64 p.ww, .int .i64 p.hh, .int .i64 p.qw, .int .i64 p.qh, .int .i64 p.an]] w fun e w' => e = .returned (.bool t) ∧ Below w.heap.size w w' := by
  cases h1 : [p.x, p.y, p.ww, p.hh].all shB
  · have ht : false = t := by rw [← h]; simp only [plB, h1, Bool.false_and]
    subst ht
    go_enter Try.func48, Try.ntmps48
    go_wp2_with fail
    with_reducible refine (allSh4 false _ (by first | exact newq1 _ _ _ | exact newq2 _ _ _ _) h1).mono ?_
    rintro e w1 ⟨rfl, rfl⟩
    go_wp2
    go_ret
    exact ⟨rfl, (by repeat (first | with_reducible exact Below.refl _ _ | with_reducible assumption | with_reducible refine balloc ?_ | (with_reducible refine bset ?_ ?_; rotate_left; ((try dsimp only); omega)) | refine bkeep2 ?_ (by assumption) | with_reducible refine Below.drew ?_))⟩
  cases h2 : [p.rx, p.ry, p.qw, p.qh].all reB
  · have ht : false = t := by rw [← h]; simp only [plB, h1, h2, Bool.false_and, Bool.true_and]
    subst ht
    go_enter Try.func48, Try.ntmps48
    go_wp2_with fail
    with_reducible refine (allSh4 true _ (by first | exact newq1 _ _ _ | exact newq2 _ _ _ _) h1).mono ?_
    rintro e w1 ⟨rfl, rfl⟩
    go_wp2_with fail
    with_reducible refine (allRe4 false _ (by first | exact newq1 _ _ _ | exact newq2 _ _ _ _) h2).mono ?_
    rintro e w1 ⟨rfl, rfl⟩
    go_wp2
    go_ret
    exact ⟨rfl, (by repeat (first | with_reducible exact Below.refl _ _ | with_reducible assumption | with_reducible refine balloc ?_ | (with_reducible refine bset ?_ ?_; rotate_left; ((try dsimp only); omega)) | refine bkeep2 ?_ (by assumption) | with_reducible refine Below.drew ?_))⟩
  have h3 : rng p.an 0 8 = t := by rw [← h]; simp only [plB, h1, h2, Bool.true_and]
  go_enter Try.func48, Try.ntmps48
  go_wp2_with fail
  with_reducible refine (allSh4 true _ (by first | exact newq1 _ _ _ | exact newq2 _ _ _ _) h1).mono ?_
  rintro e w1 ⟨rfl, rfl⟩
  go_wp2_with fail
  with_reducible refine (allRe4 true _ (by first | exact newq1 _ _ _ | exact newq2 _ _ _ _) h2).mono ?_
  rintro e w1 ⟨rfl, rfl⟩
  go_wp2_with fail
  with_reducible refine (anch_t _ t _ h3).mono ?_
  rintro e w1 ⟨rfl, rfl⟩
  go_wp2
  go_ret
  exact ⟨rfl, (by repeat (first | with_reducible exact Below.refl _ _ | with_reducible assumption | with_reducible refine balloc ?_ | (with_reducible refine bset ?_ ?_; rotate_left; ((try dsimp only); omega)) | refine bkeep2 ?_ (by assumption) | with_reducible refine Below.drew ?_))⟩
end Go.Proofs.Ytgdkionmeacalab
end
