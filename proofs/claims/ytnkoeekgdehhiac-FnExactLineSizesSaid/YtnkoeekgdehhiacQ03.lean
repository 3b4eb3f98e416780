import Derived.Test.YtnkoeekgdehhiacQ02
section
namespace Go.Proofs.Ytnkoeekgdehhiac
open Go.RowKit
set_option linter.unusedVariables false
set_option maxHeartbeats 1000000
/-- weights of lines -/
def wsOK (ws : List Int) : Prop := (∀ x ∈ ws, 0 ≤ x ∧ x ≤ 5) ∧ 1 ≤ ws.length ∧ ws.length ≤ 5
theorem wsOK.sum {ws : List Int} (h : wsOK ws) : 0 ≤ sumI ws ∧ sumI ws ≤ 25 := by
  have := sumI_bd h.1
  have := h.2.2
  omega
theorem wsOK.smal {ws : List Int} (h : wsOK ws) : Smal 1000000000 ws := smal_of (b := 5) (fun x hx => by have := h.1 x hx; omega) (by omega) (by have := h.2.2; omega)
theorem wsOK.nn {ws : List Int} (h : wsOK ws) : ∀ x ∈ ws, 0 ≤ x := fun x hx => (h.1 x hx).1
theorem base_get {n S : Int} {ws : List Int} {k : Nat} {x : Int} (h : ws[k]? = some x) : (baseM n S ws)[k]? = some (n * x / S) := by
  simp [baseM, h]
/-- so far, and 0 -/
def mixM (B : List Int) (k : Nat) : List Int := B.take k ++ List.replicate (B.length - k) 0
theorem mixM_zero (B : List Int) : mixM B 0 = List.replicate B.length 0 := by simp [mixM]
theorem mixM_all (B : List Int) : mixM B B.length = B := by simp [mixM]
theorem mixM_set {B : List Int} {k : Nat} {b : Int} (h : B[k]? = some b) : (mixM B k).set k b = mixM B (k + 1) := by
  obtain ⟨hk, e⟩ := List.getElem?_eq_some_iff.1 h
  unfold mixM
  rw [List.set_append_right _ _ (by rw [List.length_take]; omega)]
  have h1 : B.length - k = (B.length - (k + 1)) + 1 := by omega
  rw [h1, List.replicate_succ]
  have h2 : k - (B.take k).length = 0 := by rw [List.length_take]; omega
  rw [h2, List.set_cons_zero, List.take_succ_eq_append_getElem hk, e]
  simp
theorem mixM_get {B : List Int} {k : Nat} (hk : k < B.length) : ∃ x, (mixM B k)[k]? = some x := by
  unfold mixM
  rw [List.getElem?_append_right (by rw [List.length_take]; omega)]
  have : k - (B.take k).length = 0 := by rw [List.length_take]; omega
  rw [this]
  exact ⟨0, by rw [List.getElem?_replicate, if_pos (by omega)]⟩
theorem mixM_get' {B : List Int} {k : Nat} {b : Int} (h : B[k]? = some b) : (mixM B (k + 1))[k]? = some b := by
  obtain ⟨hk, e⟩ := List.getElem?_eq_some_iff.1 h
  unfold mixM
  rw [List.getElem?_append_left (by rw [List.length_take]; omega), List.getElem?_take, if_pos (by omega), h]
theorem smal_base {n : Int} {ws : List Int} (hn : 0 ≤ n) (hn2 : n ≤ 100000) (h : wsOK ws) (hS : sumI ws ≠ 0) : Smal 1000000000 (baseM n (sumI ws) ws) := by
  refine smal_of (b := 100000) (fun x hx => ?_) (by omega) (by rw [baseM_len]; have := h.2.2; omega)
  obtain ⟨y, hy, rfl⟩ := List.mem_map.1 hx
  have h0 := h.sum
  have := base_bd (n := n) (S := sumI ws) (x := y) hn (by omega) (h.nn y hy) (mem_le_sum h.nn y hy)
  omega
theorem last_set {n : Int} {ws : List Int} {j : Nat} (hj : ws.length = j + 1) (h0 : sumI ws = 0) : (List.replicate ws.length (0 : Int)).set j n = spreadM n ws := by
  unfold spreadM
  rw [if_pos h0]
  congr 1
  omega
theorem wadd_mul {n x : Int} (hn : 0 ≤ n) (hn2 : n ≤ 100000) (h0 : 0 ≤ x) (h5 : x ≤ 5) : 0 ≤ n * x ∧ n * x ≤ 500000 :=
  ⟨Int.mul_nonneg hn h0, Int.le_trans (Int.mul_le_mul hn2 h5 h0 (by omega)) (by omega)⟩
theorem drop_consI {L : List Int} {k : Nat} {p : Int} (h : L[k]? = some p) : L.drop k = p :: L.drop (k + 1) := by
  have hk := (List.getElem?_eq_some_iff.1 h).1
  have e := (List.getElem?_eq_some_iff.1 h).2
  rw [List.drop_eq_getElem_cons hk, e]
theorem set_here {P R : List Int} {k : Nat} {y z : Int} (h : P.length = k) : (P ++ y :: R).set k z = P ++ z :: R := by
  rw [List.set_append_right _ _ (by omega)]
  have : k - P.length = 0 := by omega
  rw [this, List.set_cons_zero]
theorem onesM_nil (m : Int) (ws : List Int) : onesM m ws [] = [] := by cases ws <;> simp [onesM]
theorem sum_n (A : Option Addr) (c n : Nat) (L : List Int) (w : World) (h : NV w A L) (hn : n = L.length) (hL : n ≤ 1048576) (hM : Smal 1000000000 L) :
    Calls Try.prog 74 #[.slice A n c] w fun e w' => e = .returned (.int .i64 (sumI L)) ∧ w = w' := by subst hn; exact sum_v A c L w h hL hM
theorem total_n (A : Option Addr) (c n : Nat) (L : List Int) (w : World) (h : NV w A L) (hn : n = L.length) (hL : n ≤ 1048576) (hM : Smal 1000000000 L) :
    Calls Try.prog 73 #[.slice A n c] w fun e w' => e = .returned (.int .i64 (sumI L)) ∧ w = w' := by subst hn; exact total_v A c L w h hL hM
set_option maxRecDepth 100000 in
theorem spread_v (A : Option Addr) (c : Nat) (n : Int) (ws : List Int) (w : World) (h : NV w A ws) (hw : wsOK ws) (hn : 0 ≤ n) (hn2 : n ≤ 100000) :
    Calls Try.prog 45 #[.int .i64 n, .slice A ws.length c] w fun e w' => e = .returned (.slice (some ⟨w.heap.size, 0, none⟩) ws.length ws.length) ∧ IB w' w.heap.size (spreadM n ws) ∧ Below w.heap.size w w' := by
  obtain ⟨hw1, hw2, hw3⟩ := id hw
  obtain ⟨hs0, hs1⟩ := hw.sum
  have hmk : ∀ w : World, (Instr.makeSlice 22 (.int .i64 (ws.length : Int)) (.int .i64 (ws.length : Int))).run Try.prog w = .ok (.slice (some ⟨w.heap.size, 0, none⟩) ws.length ws.length) (w.alloc (.cells (ivals (List.replicate ws.length 0)) 3)) := fun w => madeI ws.length w (by omega)
  have HW := Lib.hid hw
  have HW1 := Lib.hid hw1
  obtain ⟨j, hj⟩ : ∃ j, ws.length = j + 1 := ⟨ws.length - 1, by omega⟩
  have HJ := Lib.hid hj
  clear hw1 hw hj
  go_enter Try.func45, Try.ntmps45
  go_wp2_with fail
  have hI0 := makeI_b ws.length w
  have hB0 : Below w.heap.size w (w.alloc (.cells (ivals (List.replicate ws.length 0)) 3)) := balloc (Below.refl _ _)
  obtain ⟨W, hWe⟩ : ∃ W, w.alloc (.cells (ivals (List.replicate ws.length 0)) 3) = W := ⟨_, rfl⟩
  rw [hWe] at hI0 hB0 ⊢
  have HI := Lib.hid hI0
  have HB := Lib.hid hB0
  have HNW := Lib.hid (h.keep hB0)
  clear hWe hI0 hB0 hmk
  with_reducible refine (sum_v A c ws _ HNW.out (by omega) HW.out.smal).mono ?_
  rintro e w1 ⟨rfl, rfl⟩
  by_cases hS : sumI ws = 0
  · have hz : (sumI ws == 0) = true := by simpa using hS
    have hsp := last_set (n := n) (by rw [HJ.out] : ws.length = j + 1) hS
    have e1 : (ws.length : Int) - 1 = (j : Int) := by have := HJ.out; omega
    have e2 : IntKind.i64.wrap ((ws.length : Int) - 1) = (j : Int) := by rw [e1]; exact IntWalk.i64_in _ (by omega)
    have hjl : j < ws.length := by have := HJ.out; omega
    have c0 := HI.out.cell (i := j) (x := 0) (by simp [hjl])
    have f0 := HI.out.frozen j
    have HF := Lib.hid (show IB (W.setCell ⟨w.heap.size, j, none⟩ (.int .i64 n)) w.heap.size (spreadM n ws) by have := HI.out.set j n; rwa [hsp] at this)
    have HB2 := Lib.hid (HB.out.setCell (p := ⟨w.heap.size, j, none⟩) (Nat.le_refl _) (.int .i64 n))
    clear hS hsp HI HB
    go_wp2
    go_ret
    exact ⟨rfl, HF.out, HB2.out⟩
  · have hz : (sumI ws == 0) = false := by simpa using hS
    obtain ⟨S, hSe⟩ : ∃ S, sumI ws = S := ⟨_, rfl⟩
    have hS1 : 0 < S := by omega
    have hS2 : S ≤ 25 := by omega
    have hbl := baseM_len n S ws
    have hmb := miss_bd hn HW.out.nn hS
    have hsm := smal_base hn hn2 HW.out hS
    have hsp : spreadM n ws = onesM (n - sumI (baseM n S ws)) ws (baseM n S ws) := by unfold spreadM; rw [if_neg hS, hSe]
    rw [hSe] at hz hmb hsm
    have hcb := cntP_bd ws
    have HSP := Lib.hid hsp
    have HMB := Lib.hid hmb
    have HSM := Lib.hid hsm
    have HSE := Lib.hid hSe
    have HBL := Lib.hid hbl
    rw [hSe]
    have hI0 : IB W w.heap.size (mixM (baseM n S ws) 0) := by rw [mixM_zero, hbl]; exact HI.out
    have HI0 := Lib.hid hI0
    have hcb2 : cntP ws ≤ 5 := by omega
    have hcb1 : 0 ≤ cntP ws := by omega
    clear hS hsp hmb hsm hbl hSe HI hI0 hs0 hs1 hcb
    go_wp2_with fail
    go_loopw [26] (fun i wr => ∃ k : Nat, k ≤ ws.length ∧ i = .int .i64 k ∧ IB wr w.heap.size (mixM (baseM n S ws) k) ∧ Below w.heap.size w wr) (fun i _ => ws.length - (intOf i).toNat)
    case atStart => exact ⟨0, by omega, rfl, HI0.out, HB.out⟩
    case round =>
      obtain ⟨k, hk, rfl, hI, hBr⟩ := hrel
      clear HI0
      by_cases hlt : k < ws.length
      · have hd : decide ((k : Int) < (ws.length : Int)) = true := by simpa using hlt
        obtain ⟨b, off, rfl, hb, hp⟩ := (h.keep hBr).cells (by omega)
        have hget : ws[k]? = some ws[k] := List.getElem?_eq_getElem hlt
        have c0 := hp k _ hget
        have hx01 := HW1.out _ (List.getElem_mem hlt)
        generalize hx : ws[k] = x at *
        obtain ⟨hx0, hx1⟩ := hx01
        obtain ⟨hm0, hm1⟩ := wadd_mul hn hn2 hx0 hx1
        have hbk := base_get (n := n) (S := S) hget
        obtain ⟨y, hy⟩ := mixM_get (B := baseM n S ws) (k := k) (by rw [HBL.out]; exact hlt)
        have d0 := hI.cell hy
        have f0 := hI.frozen k
        have hI2 := hI.set k (n * x / S)
        rw [mixM_set hbk] at hI2
        have HI2 := Lib.hid hI2
        have HB2 := Lib.hid (hBr.setCell (p := ⟨w.heap.size, k, none⟩) (Nat.le_refl _) (.int .i64 (n * x / S)))
        clear hI hI2 hBr hp hget hx hy hbk
        go_wp2
        go_roundw
        case rel => exact ⟨k + 1, by omega, by go_num, HI2.out, HB2.out⟩
        case measure => simp [intOf]; omega
      · have hd : decide ((k : Int) < (ws.length : Int)) = false := by simp; omega
        obtain rfl : k = ws.length := by omega
        rw [← HBL.out, mixM_all] at hI
        have HIB := Lib.hid hI
        have HBR := Lib.hid hBr
        clear hI hBr
        go_wp2_with fail
        with_reducible refine (sum_n _ ws.length ws.length (baseM n S ws) _ HIB.out.nv HBL.out.symm (by omega) HSM.out).mono ?_
        rintro e w2 ⟨rfl, rfl⟩
        obtain ⟨m, hm⟩ : ∃ m, n - sumI (baseM n S ws) = m := ⟨_, rfl⟩
        have hmb := HMB.out
        rw [hm] at hmb
        obtain ⟨hm0, hm1⟩ := hmb
        have hmw : IntKind.i64.wrap (n - sumI (baseM n S ws)) = m := by rw [hm]; exact IntWalk.i64_in _ (by omega)
        have hsp := HSP.out
        rw [hm] at hsp
        have HSP2 := Lib.hid hsp
        have hcc : m ≤ 5 := by omega
        clear HSP hsp HMB hm
        go_wp2_with fail
        go_loopw [8, 47] (fun mv i wr => ∃ (k : Nat) (m' : Int) (P : List Int), k ≤ ws.length ∧ i = .int .i64 k ∧ mv = .int .i64 m' ∧ P.length = k ∧ m' ≤ 5 ∧ IB wr w.heap.size (P ++ (baseM n S ws).drop k) ∧ P ++ onesM m' (ws.drop k) ((baseM n S ws).drop k) = spreadM n ws ∧ Below w.heap.size w wr) (fun _ i _ => ws.length - (intOf i).toNat)
        case atStart => exact ⟨0, m, [], by omega, rfl, rfl, rfl, hcc, by simpa using HIB.out, by simpa using HSP2.out.symm, HBR.out⟩
        case round =>
          obtain ⟨k, m', P, hk, rfl, rfl, hP, hm5, hI, hf, hBr⟩ := hrel
          clear HIB HBR HSP2 hmw hm0 hm1 hcc
          by_cases hlt : k < ws.length
          · have hd : decide ((k : Int) < (ws.length : Int)) = true := by simpa using hlt
            obtain ⟨b, off, rfl, hb, hp⟩ := (h.keep hBr).cells (by omega)
            have hget : ws[k]? = some ws[k] := List.getElem?_eq_getElem hlt
            have c0 := hp k _ hget
            have hx01 := HW1.out _ (List.getElem_mem hlt)
            have hbk := base_get (n := n) (S := S) hget
            have hdw := drop_consI hget
            generalize hx : ws[k] = x at *
            have hdb := drop_consI hbk
            obtain ⟨hx0, hx1⟩ := hx01
            have hbb : 0 ≤ n * x / S ∧ n * x / S ≤ 500000 := by
              obtain ⟨q0, q1⟩ := wadd_mul hn hn2 hx0 hx1
              exact ⟨Int.ediv_nonneg q0 (by omega), Int.le_trans (Int.ediv_le_self S q0) q1⟩
            generalize n * x / S = y at *
            obtain ⟨hb0, hb1⟩ := hbb
            rw [hdb] at hI hf
            rw [hdw] at hf
            have d0 := hI.cell (i := k) (x := y) (by rw [List.getElem?_append_right (by omega), hP, Nat.sub_self]; rfl)
            have f0 := hI.frozen k
            have HDW := Lib.hid hdw
            by_cases hxp : 0 < x
            · have e1 : decide (x > 0) = true := by simpa using hxp
              have e1' : decide (0 < x) = true := by simpa using hxp
              by_cases hmp : 0 < m'
              · have e2 : decide (m' > 0) = true := by simpa using hmp
                have e2' : decide (0 < m') = true := by simpa using hmp
                rw [onesM, if_pos ⟨hxp, hmp⟩] at hf
                have hI2 := hI.set k (y + 1)
                rw [set_here hP] at hI2
                have HI2 := Lib.hid hI2
                have HF2 := Lib.hid hf
                have HP := Lib.hid hP
                have HB2 := Lib.hid (hBr.setCell (p := ⟨w.heap.size, k, none⟩) (Nat.le_refl _) (.int .i64 (y + 1)))
                have HXP := Lib.hid hxp
                have HMP := Lib.hid hmp
                clear hI hI2 hBr hp hget hx hbk hdb hdw hf hP hxp
                go_wp2
                go_roundw
                case rel => exact ⟨k + 1, m' - 1, P ++ [y + 1], by omega, by go_num, rfl, by simp [HP.out], by omega, by simpa using HI2.out, by simpa using HF2.out, HB2.out⟩
                case measure => simp [intOf]; omega
              · have e2 : decide (m' > 0) = false := by simpa using hmp
                have e2' : decide (0 < m') = false := by simpa using hmp
                rw [onesM, if_neg (by omega)] at hf
                have HI2 := Lib.hid hI
                have HF2 := Lib.hid hf
                have HP := Lib.hid hP
                have HB2 := Lib.hid hBr
                have HXP := Lib.hid hxp
                have HMP := Lib.hid hmp
                clear hI hBr hp hget hx hbk hdb hdw hf hP hxp hmp
                go_wp2
                go_roundw
                case rel => exact ⟨k + 1, m', P ++ [y], by omega, by go_num, rfl, by simp [HP.out], by omega, by simpa using HI2.out, by simpa using HF2.out, HB2.out⟩
                case measure => simp [intOf]; omega
            · have e1 : decide (x > 0) = false := by simpa using hxp
              have e1' : decide (0 < x) = false := by simpa using hxp
              rw [onesM, if_neg (by omega)] at hf
              have HI2 := Lib.hid hI
              have HF2 := Lib.hid hf
              have HP := Lib.hid hP
              have HB2 := Lib.hid hBr
              have HXP := Lib.hid hxp
              clear hI hBr hp hget hx hbk hdb hdw hf hP hxp
              go_wp2
              go_roundw
              case rel => exact ⟨k + 1, m', P ++ [y], by omega, by go_num, rfl, by simp [HP.out], by omega, by simpa using HI2.out, by simpa using HF2.out, HB2.out⟩
              case measure => simp [intOf]; omega
          · have hd : decide ((k : Int) < (ws.length : Int)) = false := by simp; omega
            have hk' : k = ws.length := by omega
            have hdb : (baseM n S ws).drop k = [] := List.drop_eq_nil_of_le (by rw [HBL.out]; omega)
            rw [hdb, onesM_nil, List.append_nil] at hf
            rw [hdb, List.append_nil, hf] at hI
            have HI2 := Lib.hid hI
            have HB2 := Lib.hid hBr
            clear hI hBr hf hdb hP
            go_wp2
            go_ret
            exact ⟨rfl, HI2.out, HB2.out⟩
end Go.Proofs.Ytnkoeekgdehhiac
end
section
namespace Go.Proofs.Ytnkoeekgdehhiac
open Go.RowKit
set_option linter.unusedVariables false
set_option maxHeartbeats 1000000
attribute [local go_sem] growUpon_value growUpon_skip growUpon_enter
theorem below_grownI {w w' : World} {B : Nat} {row : Option Nat} (h : w.grownBy w' row) (hr : ∀ g, row = some g → B ≤ g) (hB : B ≤ w.heap.size) : Below B w w' :=
  ⟨h.os, h.tape, h.output, h.size, fun k hk => h.block k (by omega) (fun e => by have := hr k e.symm; omega)⟩
theorem gsetI {w w' : World} {g : Nat} (h : w.grownBy w' (some g)) (o : Nat) (v : Value) : w.grownBy (w'.setCell ⟨g, o, none⟩ v) (some g) :=
  ⟨h.os, h.tape, h.output, by simpa [World.setCell] using h.size, fun k hk hne => (Below.heap_setCell w' ⟨g, o, none⟩ v k (by rintro rfl; exact hne rfl)).trans (h.block k hk hne)⟩
theorem greflI (w : World) (g : Nat) : w.grownBy w (some g) := ⟨rfl, rfl, rfl, Nat.le_refl _, fun _ _ _ => rfl⟩
/-- the value reads as the list -/
def NR (w : World) (v : Value) (L : List Int) : Prop := ∃ A c, v = .slice A L.length c ∧ NV w A L
theorem NR.keep {w w' : World} {v : Value} {L : List Int} (h : NR w v L) (hb : Below w.heap.size w w') : NR w' v L := let ⟨A, c, e, n⟩ := h; ⟨A, c, e, n.keep hb⟩
theorem IB.nr {w : World} {g n : Nat} {L : List Int} (h : IB w g L) (hn : n = L.length) (m : Nat) : NR w (.slice (some ⟨g, 0, none⟩) n m) L := ⟨_, m, by rw [hn], h.nv⟩
theorem IB.but {w w' : World} {g h : Nat} {L : List Int} (hi : IB w h L) (hg : w.grownBy w' (some g)) (hne : h ≠ g) : IB w' h L := (hg.block h hi.lt (fun e => hne (Option.some.inj e))).trans hi
/-- a list in a block that was made from lo on, or none -/
def GI (lo : Nat) (w : World) (v : Value) (L : List Int) : Prop := (v = .slice none 0 0 ∧ L = []) ∨ ∃ g n, v = .slice (some ⟨g, 0, none⟩) n n ∧ n = L.length ∧ lo ≤ g ∧ IB w g L
theorem GI.nr {lo : Nat} {w : World} {v : Value} {L : List Int} (h : GI lo w v L) : NR w v L := by
  rcases h with ⟨rfl, rfl⟩ | ⟨g, n, rfl, hn, _, hk⟩
  · exact ⟨none, 0, rfl, NV.nil _ _⟩
  · exact hk.nr hn n
theorem GI.keep {lo : Nat} {w w' : World} {v : Value} {L : List Int} (h : GI lo w v L) (hb : Below w.heap.size w w') : GI lo w' v L := h.imp id fun ⟨g, n, h1, h2, h3, hk⟩ => ⟨g, n, h1, h2, h3, hk.keep hb⟩
theorem GI.but {lo g0 : Nat} {w w' : World} {v : Value} {L : List Int} (h : GI lo w v L) (hb : w.grownBy w' (some g0)) (hg : g0 < lo) : GI lo w' v L := h.imp id fun ⟨g, n, h1, h2, h3, hk⟩ => ⟨g, n, h1, h2, h3, hk.but hb (by omega)⟩
def MKI (n : Nat) : List Int := (List.range n).map (fun i : Nat => (i : Int) + 1)
theorem MKI_len (n : Nat) : (MKI n).length = n := by simp [MKI]
theorem MKI_get {n k : Nat} (h : k < n) : (MKI n)[k]? = some ((k : Int) + 1) := by simp [MKI, h]
def GIM (w : World) (v : Value) (n : Nat) : Prop := (v = .slice none 0 0 ∧ n = 0) ∨ ∃ g, v = .slice (some ⟨g, 0, none⟩) n n ∧ IB w g (MKI n)
theorem GIM.keep {w w' : World} {v : Value} {n : Nat} (h : GIM w v n) (hb : Below w.heap.size w w') : GIM w' v n := h.imp id fun ⟨g, h1, hk⟩ => ⟨g, h1, hk.keep hb⟩
set_option maxRecDepth 100000 in
theorem toIntS_any (A : Option Addr) (c : Nat) (L : List Int) (w : World) (h : NV w A L) (hL : L.length ≤ 1048576) :
    Calls Try.prog 10 #[.slice A L.length c] w fun e w' => e = .returned (.slice (some ⟨w.heap.size, 0, none⟩) L.length L.length) ∧ IB w' w.heap.size L ∧ Below w.heap.size w w' := by
  have hmk : ∀ w : World, (Instr.makeSlice 22 (.int .i64 (L.length : Int)) (.int .i64 (L.length : Int))).run Try.prog w = .ok (.slice (some ⟨w.heap.size, 0, none⟩) L.length L.length) (w.alloc (.cells (ivals (List.replicate L.length 0)) 3)) := fun w => madeI L.length w hL
  go_enter Try.func10, Try.ntmps10
  go_wp2_with fail
  have hI0 := makeI_b L.length w
  have hB0 : Below w.heap.size w (w.alloc (.cells (ivals (List.replicate L.length 0)) 3)) := balloc (Below.refl _ _)
  rw [← mixM_zero] at hI0
  have HI0 := Lib.hid hI0
  have HB0 := Lib.hid hB0
  clear hmk hI0 hB0
  go_loopw [4] (fun i wr => ∃ k : Nat, k ≤ L.length ∧ i = .int .i64 k ∧ IB wr w.heap.size (mixM L k) ∧ Below w.heap.size w wr) (fun i _ => L.length - (intOf i).toNat)
  case atStart => exact ⟨0, by omega, rfl, HI0.out, HB0.out⟩
  case round =>
    obtain ⟨k, hk, rfl, hI, hBr⟩ := hrel
    clear HI0 HB0
    by_cases hlt : k < L.length
    · have hd : decide ((k : Int) < (L.length : Int)) = true := by simpa using hlt
      obtain ⟨b, off, rfl, hb, hp⟩ := (h.keep hBr).cells (by omega)
      have hget : L[k]? = some L[k] := List.getElem?_eq_getElem hlt
      have c0 := hp k _ hget
      generalize hx : L[k] = x at *
      obtain ⟨y, hy⟩ := mixM_get (B := L) (k := k) hlt
      have d0 := hI.cell hy
      have f0 := hI.frozen k
      have hI2 := hI.set k x
      rw [mixM_set hget] at hI2
      have HI2 := Lib.hid hI2
      have HB2 := Lib.hid (hBr.setCell (p := ⟨w.heap.size, k, none⟩) (Nat.le_refl _) (.int .i64 x))
      clear hI hI2 hBr hp hget hx hy
      go_wp2
      go_roundw
      case rel => exact ⟨k + 1, by omega, by go_num, HI2.out, HB2.out⟩
      case measure => simp [intOf]; omega
    · have hd : decide ((k : Int) < (L.length : Int)) = false := by simp; omega
      obtain rfl : k = L.length := by omega
      rw [mixM_all] at hI
      have HI2 := Lib.hid hI
      have HB2 := Lib.hid hBr
      clear hI hBr
      go_wp2
      go_ret
      exact ⟨rfl, HI2.out, HB2.out⟩
set_option maxRecDepth 100000 in
theorem eqIntS_same (v v' : Value) (L : List Int) (w : World) (h : NR w v L) (h' : NR w v' L) (hL : L.length ≤ 1048576) :
    Calls Try.prog 12 #[v, v'] w fun e w' => e = .returned (.bool true) ∧ Below w.heap.size w w' := by
  obtain ⟨A, c, rfl, h⟩ := h
  obtain ⟨B, c', rfl, h'⟩ := h'
  go_enter Try.func12, Try.ntmps12
  go_wp2_with fail
  go_loopw [5] (fun i wr => ∃ k : Nat, k ≤ L.length ∧ i = .int .i64 k ∧ Below w.heap.size w wr) (fun i _ => L.length - (intOf i).toNat)
  case atStart => exact ⟨0, by omega, rfl, Below.refl _ _⟩
  case round =>
    obtain ⟨k, hk, rfl, hB⟩ := hrel
    by_cases hlt : k < L.length
    · have hd : decide ((k : Int) < (L.length : Int)) = true := by simpa using hlt
      obtain ⟨b, off, rfl, hb, hp⟩ := (h.keep hB).cells (by omega)
      obtain ⟨b', off', rfl, hb', hp'⟩ := (h'.keep hB).cells (by omega)
      have hget : L[k]? = some L[k] := List.getElem?_eq_getElem hlt
      have c0 := hp k _ hget
      have d0 := hp' k _ hget
      generalize hx : L[k] = x at *
      have HB := Lib.hid hB
      clear hget hx hp hp' hB
      go_wp2_with fail
      refine wp_region_grow 9 0 (· < 9) (by kernel_rfl) (by kernel_rfl) rfl ?_
      iterate 9 (refine wpG_step (fun K hK => ?_); first | (refine grow_skip rfl ?_; go_simp; refine hK _ ?_; clear hK K) | (apply Exists.intro; refine ⟨.inl ⟨rfl, fun w' hw' => ?_⟩, ?_⟩; (focus ((obtain ⟨hc, hf⟩ := bcell hw'.out); (have hcS := bcellS hw'.out); go_simp <;> first | rfl | (fail))); (go_simp; refine hK _ ?_; clear hK K)))
      refine wpG_nil ?_
      refine wpK_tail (by kernel_rfl) (fun w1 hg1 => ?_)
      have hb1 := bdrewn hg1.out
      refine wpAny_end (by kernel_rfl) ?_
      refine NoPan.thn ?_
      clear hg1
      replace HB := Lib.hid (HB.out.trans (hb1.mono HB.out.size))
      clear hb1 c0 d0
      go_wp2
      go_roundw
      case rel => exact ⟨k + 1, by omega, by go_num, HB.out⟩
      case measure => simp [intOf]; omega
    · have hd : decide ((k : Int) < (L.length : Int)) = false := by simp; omega
      have HB := Lib.hid hB
      clear hB
      go_wp2
      go_ret
      exact ⟨rfl, HB.out⟩
set_option maxRecDepth 100000 in
theorem markIntS_v (g : Nat) (M : List Int) (n : Nat) (w : World) (h : IB w g M) (hn : n = M.length) (hL : n ≤ 1048576) :
    Calls Try.prog 13 #[.slice (some ⟨g, 0, none⟩) n n, .int .i64 1] w fun e w' => e = .returned (.int .i64 ((n : Int) + 1)) ∧ IB w' g (MKI n) ∧ w.grownBy w' (some g) := by
  subst hn
  have HI := Lib.hid h
  clear h
  go_enter Try.func13, Try.ntmps13
  go_wp2_with fail
  go_loopw [1, 5] (fun kv i wr => ∃ k : Nat, k ≤ M.length ∧ i = .int .i64 k ∧ kv = .int .i64 ((k : Int) + 1) ∧ IB wr g ((MKI M.length).take k ++ M.drop k) ∧ w.grownBy wr (some g)) (fun _ i _ => M.length - (intOf i).toNat)
  case atStart => exact ⟨0, by omega, rfl, rfl, by simpa using HI.out, greflI _ _⟩
  case round =>
    obtain ⟨k, hk, rfl, rfl, hI, hgr⟩ := hrel
    clear HI
    by_cases hlt : k < M.length
    · have hd : decide ((k : Int) < (M.length : Int)) = true := by simpa using hlt
      have hget : M[k]? = some M[k] := List.getElem?_eq_getElem hlt
      have hdr := drop_consI hget
      rw [hdr] at hI
      have hlk : ((MKI M.length).take k).length = k := by rw [List.length_take, MKI_len]; omega
      have d0 := hI.cell (i := k) (x := M[k]) (by rw [List.getElem?_append_right (by omega), hlk, Nat.sub_self]; rfl)
      have f0 := hI.frozen k
      have hI2 := hI.set k ((k : Int) + 1)
      rw [set_here hlk] at hI2
      have e3 : (MKI M.length).take k ++ ((k : Int) + 1) :: M.drop (k + 1) = (MKI M.length).take (k + 1) ++ M.drop (k + 1) := by
        have h1 := MKI_get hlt
        obtain ⟨h2, h3⟩ := List.getElem?_eq_some_iff.1 h1
        rw [List.take_succ_eq_append_getElem h2, h3]; simp
      rw [e3] at hI2
      have HI2 := Lib.hid hI2
      have HG2 := Lib.hid (gsetI hgr k (.int .i64 ((k : Int) + 1)))
      generalize M[k] = x at *
      clear hI hI2 hgr hget hdr hlk e3
      go_wp2
      go_roundw
      case rel => exact ⟨k + 1, by omega, by go_num, by go_num, HI2.out, HG2.out⟩
      case measure => simp [intOf]; omega
    · have hd : decide ((k : Int) < (M.length : Int)) = false := by simp; omega
      obtain rfl : k = M.length := by omega
      have e1 : (MKI M.length).take M.length = MKI M.length := List.take_of_length_le (by rw [MKI_len]; omega)
      rw [e1, List.drop_length, List.append_nil] at hI
      have HI2 := Lib.hid hI
      have HG2 := Lib.hid hgr
      clear hI hgr e1
      go_wp2
      go_ret
      exact ⟨rfl, HI2.out, HG2.out⟩
set_option maxRecDepth 100000 in
theorem markIntS_nil (w : World) : Calls Try.prog 13 #[.slice none 0 0, .int .i64 1] w fun e w' => e = .returned (.int .i64 1) ∧ w' = w := by
  go_enter Try.func13, Try.ntmps13
  go_wp2_with fail
  go_loop [1, 5] (fun kv i => kv = .int .i64 1 ∧ i = .int .i64 0) (fun _ _ => 0)
  case atStart => exact ⟨rfl, rfl⟩
  case round =>
    obtain ⟨rfl, rfl⟩ := hrel
    go_wp2
    go_ret
    exact ⟨rfl, rfl⟩
set_option maxRecDepth 100000 in
theorem heldIntS_v (g : Nat) (n : Nat) (w : World) (h : IB w g (MKI n)) (hL : n ≤ 1048576) :
    Calls Try.prog 14 #[.slice (some ⟨g, 0, none⟩) n n, .int .i64 1] w fun e w' => e = .returned (.int .i64 ((n : Int) + 1)) ∧ w' = w := by
  go_enter Try.func14, Try.ntmps14
  go_wp2_with fail
  go_loop [1, 5] (fun kv i => ∃ k : Nat, k ≤ n ∧ i = .int .i64 k ∧ kv = .int .i64 ((k : Int) + 1)) (fun _ i => n - (intOf i).toNat)
  case atStart => exact ⟨0, by omega, rfl, rfl⟩
  case round =>
    obtain ⟨k, hk, rfl, rfl⟩ := hrel
    by_cases hlt : k < n
    · have hd : decide ((k : Int) < (n : Int)) = true := by simpa using hlt
      have d0 := h.cell (MKI_get hlt)
      go_wp2
      go_round
      case rel => exact ⟨k + 1, by omega, by go_num, by go_num⟩
      case measure => simp [intOf]; omega
    · have hd : decide ((k : Int) < (n : Int)) = false := by simp; omega
      obtain rfl : k = n := by omega
      go_wp2
      go_ret
      exact ⟨rfl, rfl⟩
set_option maxRecDepth 100000 in
theorem heldIntS_nil (w : World) : Calls Try.prog 14 #[.slice none 0 0, .int .i64 1] w fun e w' => e = .returned (.int .i64 1) ∧ w' = w := by
  go_enter Try.func14, Try.ntmps14
  go_wp2_with fail
  go_loop [1, 5] (fun kv i => kv = .int .i64 1 ∧ i = .int .i64 0) (fun _ _ => 0)
  case atStart => exact ⟨rfl, rfl⟩
  case round =>
    obtain ⟨rfl, rfl⟩ := hrel
    go_wp2
    go_ret
    exact ⟨rfl, rfl⟩
theorem markGI (lo : Nat) (w : World) (v : Value) (M : List Int) (h : GI lo w v M) (hM : M.length ≤ 1048576) :
    Calls Try.prog 13 #[v, .int .i64 1] w fun e w' => e = .returned (.int .i64 ((M.length : Int) + 1)) ∧ GIM w' v M.length ∧ Below lo w w' := by
  rcases h with ⟨rfl, rfl⟩ | ⟨g, n, rfl, hn, hg0, hk⟩
  · refine (markIntS_nil w).mono ?_
    rintro e w' ⟨rfl, rfl⟩
    exact ⟨rfl, .inl ⟨rfl, rfl⟩, Below.refl _ _⟩
  · have hlo := hk.lt
    refine (markIntS_v g M n w hk hn (by omega)).mono ?_
    rintro e w' ⟨rfl, hk', hg⟩
    subst hn
    exact ⟨rfl, .inr ⟨g, rfl, hk'⟩, below_grownI hg (fun q e => by cases e; exact hg0) (by omega)⟩
theorem heldGI (w : World) (v : Value) (n : Nat) (h : GIM w v n) (hn : n ≤ 1048576) :
    Calls Try.prog 14 #[v, .int .i64 1] w fun e w' => e = .returned (.int .i64 ((n : Int) + 1)) ∧ w' = w := by
  rcases h with ⟨rfl, rfl⟩ | ⟨g, rfl, hk⟩
  · exact heldIntS_nil w
  · exact heldIntS_v g n w hk hn
end Go.Proofs.Ytnkoeekgdehhiac
end
section
namespace Go.Proofs.Ytnkoeekgdehhiac
open Go.RowKit
set_option linter.unusedVariables false
set_option maxHeartbeats 1000000
set_option maxRecDepth 100000 in
theorem sspread_v (A : Option Addr) (c : Nat) (n : Int) (ws : List Int) (w : World) (h : NV w A ws) (hw : wsOK ws) (hn : 0 ≤ n) (hn2 : n ≤ 100000) :
    Calls Try.prog 41 #[.int .i64 n, .slice A ws.length c] w fun e w' => e = .returned (.slice (some ⟨w.heap.size, 0, none⟩) ws.length ws.length) ∧ IB w' w.heap.size (spreadM n ws) ∧ Below w.heap.size w w' := by
  obtain ⟨hw1, hw2, hw3⟩ := id hw
  obtain ⟨hs0, hs1⟩ := hw.sum
  have hmk : ∀ w : World, (Instr.makeSlice 22 (.int .i64 (ws.length : Int)) (.int .i64 (ws.length : Int))).run Try.prog w = .ok (.slice (some ⟨w.heap.size, 0, none⟩) ws.length ws.length) (w.alloc (.cells (ivals (List.replicate ws.length 0)) 3)) := fun w => madeI ws.length w (by omega)
  have HW := Lib.hid hw
  have HW1 := Lib.hid hw1
  obtain ⟨j, hj⟩ : ∃ j, ws.length = j + 1 := ⟨ws.length - 1, by omega⟩
  have HJ := Lib.hid hj
  clear hw1 hw hj
  go_enter Try.func41, Try.ntmps41
  go_wp2_with fail
  have hI0 := makeI_b ws.length w
  have hB0 : Below w.heap.size w (w.alloc (.cells (ivals (List.replicate ws.length 0)) 3)) := balloc (Below.refl _ _)
  obtain ⟨W, hWe⟩ : ∃ W, w.alloc (.cells (ivals (List.replicate ws.length 0)) 3) = W := ⟨_, rfl⟩
  rw [hWe] at hI0 hB0 ⊢
  have HI := Lib.hid hI0
  have HB := Lib.hid hB0
  have HNW := Lib.hid (h.keep hB0)
  clear hWe hI0 hB0 hmk
  with_reducible refine (total_v A c ws _ HNW.out (by omega) HW.out.smal).mono ?_
  rintro e w1 ⟨rfl, rfl⟩
  by_cases hS : sumI ws = 0
  · have hz : (sumI ws == 0) = true := by simpa using hS
    have hsp := last_set (n := n) (by rw [HJ.out] : ws.length = j + 1) hS
    have e1 : (ws.length : Int) - 1 = (j : Int) := by have := HJ.out; omega
    have e2 : IntKind.i64.wrap ((ws.length : Int) - 1) = (j : Int) := by rw [e1]; exact IntWalk.i64_in _ (by omega)
    have hjl : j < ws.length := by have := HJ.out; omega
    have hg0 : decide ((ws.length : Int) > 0) = true := by simp; omega
    have c0 := HI.out.cell (i := j) (x := 0) (by simp [hjl])
    have f0 := HI.out.frozen j
    have HF := Lib.hid (show IB (W.setCell ⟨w.heap.size, j, none⟩ (.int .i64 n)) w.heap.size (spreadM n ws) by have := HI.out.set j n; rwa [hsp] at this)
    have HB2 := Lib.hid (HB.out.setCell (p := ⟨w.heap.size, j, none⟩) (Nat.le_refl _) (.int .i64 n))
    clear hS hsp HI HB
    go_wp2
    go_ret
    exact ⟨rfl, HF.out, HB2.out⟩
  · have hz : (sumI ws == 0) = false := by simpa using hS
    obtain ⟨S, hSe⟩ : ∃ S, sumI ws = S := ⟨_, rfl⟩
    have hS1 : 0 < S := by omega
    have hS2 : S ≤ 25 := by omega
    have hbl := baseM_len n S ws
    have hmb := miss_bd hn HW.out.nn hS
    have hsm := smal_base hn hn2 HW.out hS
    have hsp : spreadM n ws = onesM (n - sumI (baseM n S ws)) ws (baseM n S ws) := by unfold spreadM; rw [if_neg hS, hSe]
    rw [hSe] at hz hmb hsm
    have hcb := cntP_bd ws
    have HSP := Lib.hid hsp
    have HMB := Lib.hid hmb
    have HSM := Lib.hid hsm
    have HSE := Lib.hid hSe
    have HBL := Lib.hid hbl
    rw [hSe]
    have hI0 : IB W w.heap.size (mixM (baseM n S ws) 0) := by rw [mixM_zero, hbl]; exact HI.out
    have HI0 := Lib.hid hI0
    have hcb2 : cntP ws ≤ 5 := by omega
    have hcb1 : 0 ≤ cntP ws := by omega
    clear hS hsp hmb hsm hbl hSe HI hI0 hs0 hs1 hcb
    go_wp2_with fail
    have hsb : ∀ k, k ≤ ws.length → -500000 ≤ sumI ((baseM n S ws).take k) ∧ sumI ((baseM n S ws).take k) ≤ 500000 := fun k hk => by
      have := sumI_bd (lo := 0) (hi := 100000) (L := (baseM n S ws).take k) (fun y hy => by
        obtain ⟨x, hx, rfl⟩ := List.mem_map.1 (List.mem_of_mem_take hy)
        have h1 := mem_le_sum HW.out.nn x hx
        rw [HSE.out] at h1
        have := base_bd (n := n) (S := S) (x := x) hn hS1 (HW.out.nn x hx) h1
        omega)
      have h2 : ((baseM n S ws).take k).length ≤ 5 := by rw [List.length_take, HBL.out]; omega
      omega
    have HSB := Lib.hid hsb
    clear hsb
    go_loopw [7, 8] (fun lv i wr => ∃ k : Nat, k ≤ ws.length ∧ i = .int .i64 k ∧ lv = .int .i64 (n - sumI ((baseM n S ws).take k)) ∧ IB wr w.heap.size (mixM (baseM n S ws) k) ∧ Below w.heap.size w wr) (fun _ i _ => ws.length - (intOf i).toNat)
    case atStart => exact ⟨0, by omega, rfl, by simp [sumI], HI0.out, HB.out⟩
    case round =>
      obtain ⟨k, hk, rfl, rfl, hI, hBr⟩ := hrel
      clear HI0
      by_cases hlt : k < ws.length
      · have hd : decide ((k : Int) < (ws.length : Int)) = true := by simpa using hlt
        obtain ⟨b, off, rfl, hb, hp⟩ := (h.keep hBr).cells (by omega)
        have hget : ws[k]? = some ws[k] := List.getElem?_eq_getElem hlt
        have c0 := hp k _ hget
        have hx01 := HW1.out _ (List.getElem_mem hlt)
        generalize hx : ws[k] = x at *
        obtain ⟨hx0, hx1⟩ := hx01
        obtain ⟨hm0, hm1⟩ := wadd_mul hn hn2 hx0 hx1
        have hbk := base_get (n := n) (S := S) hget
        obtain ⟨y, hy⟩ := mixM_get (B := baseM n S ws) (k := k) (by rw [HBL.out]; exact hlt)
        have d0 := hI.cell hy
        have f0 := hI.frozen k
        have hI2 := hI.set k (n * x / S)
        rw [mixM_set hbk] at hI2
        have e0 := hI2.cell (mixM_get' hbk)
        have hsn := sumI_snoc hbk
        have b1 := HSB.out k hk
        have b2 := HSB.out (k + 1) (by omega)
        rw [hsn] at b2
        have HI2 := Lib.hid hI2
        have HB2 := Lib.hid (hBr.setCell (p := ⟨w.heap.size, k, none⟩) (Nat.le_refl _) (.int .i64 (n * x / S)))
        obtain ⟨q, hq⟩ : ∃ q, sumI ((baseM n S ws).take k) = q := ⟨_, rfl⟩
        rw [hq] at b1 b2 hsn
        rw [hq]
        have HSN := Lib.hid hsn
        have hbb : 0 ≤ n * x / S ∧ n * x / S ≤ 500000 := ⟨Int.ediv_nonneg hm0 (by omega), Int.le_trans (Int.ediv_le_self S hm0) hm1⟩
        obtain ⟨hbb0, hbb1⟩ := hbb
        clear hI hI2 hBr hp hget hx hy hbk hsn hq
        go_wp2
        go_roundw
        case rel => exact ⟨k + 1, by omega, by go_num, by rw [HSN.out]; go_num, HI2.out, HB2.out⟩
        case measure => simp [intOf]; omega
      · have hd : decide ((k : Int) < (ws.length : Int)) = false := by simp; omega
        obtain rfl : k = ws.length := by omega
        have htl : (baseM n S ws).take ws.length = baseM n S ws := List.take_of_length_le (by rw [HBL.out]; omega)
        rw [htl]
        rw [← HBL.out, mixM_all] at hI
        have HIB := Lib.hid hI
        have HBR := Lib.hid hBr
        clear hI hBr htl
        obtain ⟨m, hm⟩ : ∃ m, n - sumI (baseM n S ws) = m := ⟨_, rfl⟩
        have hmb := HMB.out
        rw [hm] at hmb
        obtain ⟨hm0, hm1⟩ := hmb
        have hsp := HSP.out
        rw [hm] at hsp
        have HSP2 := Lib.hid hsp
        have hcc : m ≤ 5 := by omega
        rw [hm]
        clear HSP hsp HMB hm
        go_wp2_with fail
        go_loopw [7, 9] (fun mv i wr => ∃ (k : Nat) (m' : Int) (P : List Int), k ≤ ws.length ∧ i = .int .i64 k ∧ mv = .int .i64 m' ∧ P.length = k ∧ m' ≤ 5 ∧ m' ≤ cntP (ws.drop k) ∧ IB wr w.heap.size (P ++ (baseM n S ws).drop k) ∧ P ++ onesM m' (ws.drop k) ((baseM n S ws).drop k) = spreadM n ws ∧ Below w.heap.size w wr) (fun _ i _ => ws.length - (intOf i).toNat)
        case atStart => exact ⟨0, m, [], by omega, rfl, rfl, rfl, hcc, by simpa using hm1, by simpa using HIB.out, by simpa using HSP2.out.symm, HBR.out⟩
        case round =>
          obtain ⟨k, m', P, hk, rfl, rfl, hP, hm5, hmc, hI, hf, hBr⟩ := hrel
          clear HIB HBR HSP2 hm0 hm1 hcc
          by_cases hmp : 0 < m'
          · have hlt : k < ws.length := by
              rcases Nat.lt_or_ge k ws.length with h1 | h1
              · exact h1
              · rw [List.drop_eq_nil_of_le h1] at hmc; simp [cntP] at hmc; omega
            have e2 : decide (m' > 0) = true := by simpa using hmp
            have e2' : decide (0 < m') = true := by simpa using hmp
            obtain ⟨b, off, rfl, hb, hp⟩ := (h.keep hBr).cells (by omega)
            have hget : ws[k]? = some ws[k] := List.getElem?_eq_getElem hlt
            have c0 := hp k _ hget
            have hx01 := HW1.out _ (List.getElem_mem hlt)
            have hbk := base_get (n := n) (S := S) hget
            have hdw := drop_consI hget
            generalize hx : ws[k] = x at *
            have hdb := drop_consI hbk
            obtain ⟨hx0, hx1⟩ := hx01
            have hbb : 0 ≤ n * x / S ∧ n * x / S ≤ 500000 := by
              obtain ⟨q0, q1⟩ := wadd_mul hn hn2 hx0 hx1
              exact ⟨Int.ediv_nonneg q0 (by omega), Int.le_trans (Int.ediv_le_self S q0) q1⟩
            generalize n * x / S = y at *
            obtain ⟨hb0, hb1⟩ := hbb
            rw [hdb] at hI hf
            rw [hdw] at hf hmc
            have d0 := hI.cell (i := k) (x := y) (by rw [List.getElem?_append_right (by omega), hP, Nat.sub_self]; rfl)
            have f0 := hI.frozen k
            simp only [cntP] at hmc
            by_cases hxp : 0 < x
            · have e1 : decide (x > 0) = true := by simpa using hxp
              have e1' : decide (0 < x) = true := by simpa using hxp
              rw [if_pos hxp] at hmc
              rw [onesM, if_pos ⟨hxp, hmp⟩] at hf
              have hI2 := hI.set k (y + 1)
              rw [set_here hP] at hI2
              have HI2 := Lib.hid hI2
              have HF2 := Lib.hid hf
              have HP := Lib.hid hP
              have HB2 := Lib.hid (hBr.setCell (p := ⟨w.heap.size, k, none⟩) (Nat.le_refl _) (.int .i64 (y + 1)))
              have HXP := Lib.hid hxp
              have HMC := Lib.hid hmc
              clear hI hI2 hBr hp hget hx hbk hdb hdw hf hP hxp hmc
              go_wp2
              go_roundw
              case rel => exact ⟨k + 1, m' - 1, P ++ [y + 1], by omega, by go_num, rfl, by simp [HP.out], by omega, by have := HMC.out; omega, by simpa using HI2.out, by simpa using HF2.out, HB2.out⟩
              case measure => simp [intOf]; omega
            · have e1 : decide (x > 0) = false := by simpa using hxp
              have e1' : decide (0 < x) = false := by simpa using hxp
              rw [if_neg hxp] at hmc
              rw [onesM, if_neg (by omega)] at hf
              have HI2 := Lib.hid hI
              have HF2 := Lib.hid hf
              have HP := Lib.hid hP
              have HB2 := Lib.hid hBr
              have HXP := Lib.hid hxp
              have HMC := Lib.hid hmc
              have HMP := Lib.hid hmp
              clear hI hBr hp hget hx hbk hdb hdw hf hP hxp hmc hmp
              go_wp2
              go_roundw
              case rel => exact ⟨k + 1, m', P ++ [y], by omega, by go_num, rfl, by simp [HP.out], by omega, by have := HMC.out; omega, by simpa using HI2.out, by simpa using HF2.out, HB2.out⟩
              case measure => simp [intOf]; omega
          · have e2 : decide (m' > 0) = false := by simpa using hmp
            have e2' : decide (0 < m') = false := by simpa using hmp
            rw [onesM_zero (by omega)] at hf
            rw [hf] at hI
            have HI2 := Lib.hid hI
            have HB2 := Lib.hid hBr
            clear hI hBr hf hP hmc
            go_wp2
            go_ret
            exact ⟨rfl, HI2.out, HB2.out⟩
end Go.Proofs.Ytnkoeekgdehhiac
end
section
namespace Go.Proofs.Ytnkoeekgdehhiac
open Go.RowKit
set_option linter.unusedVariables false
set_option maxHeartbeats 1000000
attribute [local go_sem] growUpon_value growUpon_skip growUpon_enter
def wB (x : Int) : Bool := rng x 0 5
def sbB (n : Int) (ws : List Int) : Bool := rng n 0 400 && (rng ws.length 1 5 && ws.all wB)
theorem sbB_yes {n : Int} {ws : List Int} (h : sbB n ws = true) : wsOK ws ∧ 0 ≤ n ∧ n ≤ 400 := by
  simp only [sbB, Bool.and_eq_true, rng_iff, List.all_eq_true, wB] at h
  exact ⟨⟨h.2.2, by omega, by omega⟩, h.1⟩
theorem within_w (n a b : Int) (t : Bool) (w : World) (h : rng n a b = t) : Calls Try.prog 42 #[.int .i64 n, .int .i64 a, .int .i64 b] w fun e w' => e = .returned (.bool t) ∧ w = w' := by rw [← h]; exact within_any n a b w
theorem inRange_w (n a b : Int) (t : Bool) (w : World) (h : rng n a b = t) : Calls Try.prog 40 #[.int .i64 n, .int .i64 a, .int .i64 b] w fun e w' => e = .returned (.bool t) ∧ w = w' := by rw [← h]; exact inRange_any n a b w
theorem inRange_b (n : Int) (t : Bool) (w : World) (h : wB n = t) : Calls Try.prog 40 #[.int .i64 n, .int .i64 0, .int .i64 5] w fun e w' => e = .returned (.bool t) ∧ w = w' := inRange_w n 0 5 t w h
theorem validWeight_w (n : Int) (t : Bool) (w : World) (h : wB n = t) : Calls Try.prog 44 #[.int .i64 n] w fun e w' => e = .returned (.bool t) ∧ w = w' := by
  go_enter Try.func44, Try.ntmps44
  go_wp2_with (go_at_call 42; refine (within_w _ _ _ t _ h).mono ?_; rintro e w' ⟨rfl, rfl⟩)
  go_ret
  exact ⟨rfl, rfl⟩
theorem all_snocI {f : Int → Bool} {L : List Int} {k : Nat} {p : Int} (h : L[k]? = some p) : (L.take (k + 1)).all f = ((L.take k).all f && f p) := by
  have hk : k < L.length := (List.getElem?_eq_some_iff.1 h).1
  have e : L[k] = p := (List.getElem?_eq_some_iff.1 h).2
  rw [List.take_succ_eq_append_getElem hk, e]
  simp
set_option maxRecDepth 100000 in
theorem allOfI_any (A : Option Addr) (c : Nat) (L : List Int) (w : World) (h : NV w A L) (hL : L.length ≤ 1048576) :
    Calls Try.prog 43 #[.slice A L.length c, .func (.func 44) #[] #[]] w fun e w' => e = .returned (.bool (L.all wB)) ∧ w = w' := by
  go_enter Try.func43, Try.ntmps43
  go_wp2_with fail
  go_loop [9] (fun i => ∃ k : Nat, k ≤ L.length ∧ i = .int .i64 k ∧ (L.take k).all wB = true) (fun i => L.length - (intOf i).toNat)
  case atStart => exact ⟨0, by omega, rfl, rfl⟩
  case round =>
    obtain ⟨k, hk, rfl, hok⟩ := hrel
    by_cases hlt : k < L.length
    · have hd : decide ((k : Int) < (L.length : Int)) = true := by simpa using hlt
      obtain ⟨b, off, rfl, hb, hp⟩ := h.cells (by omega)
      have hget : L[k]? = some L[k] := List.getElem?_eq_getElem hlt
      have c0 := hp k _ hget
      generalize hx : L[k] = p at *
      have HG := Lib.hid hget
      have HX := Lib.hid hx
      have HO := Lib.hid hok
      have HP := Lib.hid hp
      clear hget hx hok hp
      cases hv : wB p
      all_goals
        have Hv := Lib.hid hv
        clear hv
        go_wp2_with fail
        first | (with_reducible refine (validWeight_w p false _ Hv.out).mono ?_) | (with_reducible refine (validWeight_w p true _ Hv.out).mono ?_)
        rintro e w1 ⟨rfl, rfl⟩
        go_wp2
      · go_ret
        exact ⟨ret_bool (by
          symm
          rw [Bool.eq_false_iff]
          intro hh
          have h1 := List.all_eq_true.1 hh p (List.mem_of_getElem? HG.out)
          rw [Hv.out] at h1
          cases h1), rfl⟩
      · go_round
        case rel => exact ⟨k + 1, by omega, by go_num, by rw [all_snocI HG.out, HO.out, Hv.out]; rfl⟩
        case measure => simp [intOf]; omega
    · have hd : decide ((k : Int) < (L.length : Int)) = false := by simp; omega
      have he : L.take k = L := List.take_of_length_le (by omega)
      rw [he] at hok
      have HO := Lib.hid hok
      clear hok he
      go_wp2
      go_ret
      exact ⟨ret_bool HO.out.symm, rfl⟩
theorem allOfI_v (A : Option Addr) (c : Nat) (L : List Int) (b : Bool) (w : World) (h : NV w A L) (hL : L.length ≤ 1048576) (hb : L.all wB = b) :
    Calls Try.prog 43 #[.slice A L.length c, .func (.func 44) #[] #[]] w fun e w' => e = .returned (.bool b) ∧ w = w' := by rw [← hb]; exact allOfI_any A c L w h hL
set_option maxRecDepth 100000 in
theorem SpreadBy_no (A : Option Addr) (c : Nat) (n : Int) (L : List Int) (w : World) (h : NV w A L) (hL : L.length ≤ 1048576) (hv : sbB n L = false) :
    Calls Try.prog 11 #[.int .i64 n, .slice A L.length c] w fun e w' => e = .returned (.slice none 0 0) ∧ Below w.heap.size w w' := by
  cases h1 : rng n 0 400
  · go_enter Try.func11, Try.ntmps11
    go_wp2_with fail
    with_reducible refine (within_w n 0 400 false _ h1).mono ?_
    rintro e w1 ⟨rfl, rfl⟩
    go_wp2
    go_ret
    exact ⟨rfl, Below.refl _ _⟩
  · cases h2 : rng (L.length : Int) 1 5
    · go_enter Try.func11, Try.ntmps11
      go_wp2_with fail
      with_reducible refine (within_w n 0 400 true _ h1).mono ?_
      rintro e w1 ⟨rfl, rfl⟩
      go_wp2_with fail
      with_reducible refine (within_w _ 1 5 false _ h2).mono ?_
      rintro e w1 ⟨rfl, rfl⟩
      go_wp2
      go_ret
      exact ⟨rfl, Below.refl _ _⟩
    · have h3 : L.all wB = false := by simpa [sbB, h1, h2] using hv
      go_enter Try.func11, Try.ntmps11
      go_wp2_with fail
      with_reducible refine (within_w n 0 400 true _ h1).mono ?_
      rintro e w1 ⟨rfl, rfl⟩
      go_wp2_with fail
      with_reducible refine (within_w _ 1 5 true _ h2).mono ?_
      rintro e w1 ⟨rfl, rfl⟩
      go_wp2_with fail
      with_reducible refine (allOfI_v A c L false _ h hL h3).mono ?_
      rintro e w1 ⟨rfl, rfl⟩
      go_wp2
      go_ret
      exact ⟨rfl, Below.refl _ _⟩
set_option maxRecDepth 100000 in
theorem SpreadBy_yes (A : Option Addr) (c : Nat) (n : Int) (L : List Int) (w : World) (h : NV w A L) (hv : sbB n L = true) :
    Calls Try.prog 11 #[.int .i64 n, .slice A L.length c] w fun e w' => (∃ g, e = .returned (.slice (some ⟨g, 0, none⟩) L.length L.length) ∧ w.heap.size ≤ g ∧ IB w' g (spreadM n L)) ∧ Below w.heap.size w w' := by
  obtain ⟨hw, hn0, hn1⟩ := sbB_yes hv
  have h1 : rng n 0 400 = true := rng_iff.2 ⟨hn0, hn1⟩
  have h2 : rng (L.length : Int) 1 5 = true := rng_iff.2 (by have := hw.2; omega)
  have hL5 : L.length ≤ 1048576 := by have := hw.2.2; omega
  have h3 : L.all wB = true := List.all_eq_true.2 (fun x hx => rng_iff.2 (hw.1 x hx))
  go_enter Try.func11, Try.ntmps11
  go_wp2_with fail
  with_reducible refine (within_w n 0 400 true _ h1).mono ?_
  rintro e w1 ⟨rfl, rfl⟩
  go_wp2_with fail
  with_reducible refine (within_w _ 1 5 true _ h2).mono ?_
  rintro e w1 ⟨rfl, rfl⟩
  go_wp2_with fail
  with_reducible refine (allOfI_v A c L true _ h hL5 h3).mono ?_
  rintro e w1 ⟨rfl, rfl⟩
  have HW := Lib.hid hw
  clear h1 h2 h3 hv hw
  go_wp2_with fail
  with_reducible refine (spread_v A c n L _ h HW.out hn0 (by omega)).mono ?_
  rintro e w2 ⟨rfl, hi, hb⟩
  have HI := Lib.hid hi
  have HB := Lib.hid hb
  clear hi hb
  go_wp2
  go_ret
  exact ⟨⟨_, rfl, Nat.le_refl _, HI.out⟩, HB.out⟩
set_option maxRecDepth 100000 in
theorem sSpreadBy_any (A : Option Addr) (c : Nat) (n : Int) (L : List Int) (w : World) (h : NV w A L) (hL : L.length ≤ 1048576) :
    Calls Try.prog 9 #[.int .i64 n, .slice A L.length c] w fun e w' => ((sbB n L = false ∧ e = .returned (.slice none 0 0)) ∨ (sbB n L = true ∧ ∃ g, e = .returned (.slice (some ⟨g, 0, none⟩) L.length L.length) ∧ w.heap.size ≤ g ∧ IB w' g (spreadM n L))) ∧ Below w.heap.size w w' := by
  go_enter Try.func9, Try.ntmps9
  go_wp2_with fail
  go_loop [5] (fun i => ∃ k : Nat, k ≤ L.length ∧ i = .int .i64 k ∧ (L.take k).all wB = true) (fun i => L.length - (intOf i).toNat)
  case atStart => exact ⟨0, by omega, rfl, rfl⟩
  case round =>
    obtain ⟨k, hk, rfl, hok⟩ := hrel
    by_cases hlt : k < L.length
    · have hd : decide ((k : Int) < (L.length : Int)) = true := by simpa using hlt
      obtain ⟨b, off, rfl, hb, hp⟩ := h.cells (by omega)
      have hget : L[k]? = some L[k] := List.getElem?_eq_getElem hlt
      have c0 := hp k _ hget
      generalize hx : L[k] = p at *
      have HG := Lib.hid hget
      have HX := Lib.hid hx
      have HO := Lib.hid hok
      have HP := Lib.hid hp
      clear hget hx hok hp
      cases hv : wB p
      all_goals
        have Hv := Lib.hid hv
        clear hv
        go_wp2_with fail
        first | (with_reducible refine (inRange_b p false _ Hv.out).mono ?_) | (with_reducible refine (inRange_b p true _ Hv.out).mono ?_)
        rintro e w1 ⟨rfl, rfl⟩
        go_wp2
      · go_ret
        refine ⟨.inl ⟨?_, rfl⟩, Below.refl _ _⟩
        have : L.all wB = false := by
          rw [Bool.eq_false_iff]
          intro hh
          have h1 := List.all_eq_true.1 hh p (List.mem_of_getElem? HG.out)
          rw [Hv.out] at h1
          cases h1
        simp [sbB, this]
      · go_round
        case rel => exact ⟨k + 1, by omega, by go_num, by rw [all_snocI HG.out, HO.out, Hv.out]; rfl⟩
        case measure => simp [intOf]; omega
    · have hd : decide ((k : Int) < (L.length : Int)) = false := by simp; omega
      have he : L.take k = L := List.take_of_length_le (by omega)
      rw [he] at hok
      have HO := Lib.hid hok
      clear hok he
      cases h1 : rng n 0 400
      · have H1 := Lib.hid h1
        clear h1
        go_wp2_with fail
        with_reducible refine (inRange_w n 0 400 false _ H1.out).mono ?_
        rintro e w1 ⟨rfl, rfl⟩
        go_wp2
        go_ret
        exact ⟨.inl ⟨by simp [sbB, H1.out], rfl⟩, Below.refl _ _⟩
      · cases h2 : rng (L.length : Int) 1 5
        · have H1 := Lib.hid h1
          have H2 := Lib.hid h2
          clear h1 h2
          go_wp2_with fail
          with_reducible refine (inRange_w n 0 400 true _ H1.out).mono ?_
          rintro e w1 ⟨rfl, rfl⟩
          go_wp2_with fail
          with_reducible refine (inRange_w _ 1 5 false _ H2.out).mono ?_
          rintro e w1 ⟨rfl, rfl⟩
          go_wp2
          go_ret
          exact ⟨.inl ⟨by simp [sbB, H2.out], rfl⟩, Below.refl _ _⟩
        · have hsb : sbB n L = true := by simp [sbB, h1, h2, HO.out]
          obtain ⟨hw, hn0, hn1⟩ := sbB_yes hsb
          have H1 := Lib.hid h1
          have H2 := Lib.hid h2
          have HW := Lib.hid hw
          have HSB := Lib.hid hsb
          clear h1 h2 hw hsb
          go_wp2_with fail
          with_reducible refine (inRange_w n 0 400 true _ H1.out).mono ?_
          rintro e w1 ⟨rfl, rfl⟩
          go_wp2_with fail
          with_reducible refine (inRange_w _ 1 5 true _ H2.out).mono ?_
          rintro e w1 ⟨rfl, rfl⟩
          go_wp2_with fail
          with_reducible refine (sspread_v A c n L _ h HW.out hn0 (by omega)).mono ?_
          rintro e w2 ⟨rfl, hi, hb⟩
          have HI := Lib.hid hi
          have HB := Lib.hid hb
          clear hi hb
          go_wp2
          go_ret
          exact ⟨.inr ⟨HSB.out, _, rfl, Nat.le_refl _, HI.out⟩, HB.out⟩
end Go.Proofs.Ytnkoeekgdehhiac
end
