/- FnLineSizes: for every code the law returns true. No condition. -/
import Derived.Test.YtignigcknfklkabQ08
namespace Go.Proofs.Ytignigcknfklkab.lLineSizes
open Go.ChangeShapes Go.WideShapes Go.ChangeAt Go.RowKit Go.Joins
set_option linter.unusedVariables false
set_option maxHeartbeats 1000000
attribute [local go_sem] growUpon_value growUpon_skip growUpon_enter
set_option maxRecDepth 100000 in
theorem walk (A : Option Addr) (n c : Nat) (z : List Int) (w : World) (wz : IsRow .u8 w A n c z) : Calls Try.prog 5 #[.slice A n c] w fun e w' => e = .returned (.bool true) ∧ Below w.heap.size w w' := by
  obtain ⟨hb, hn, hc⟩ := wz.bts
  clear wz
  by_cases hlen : n ≤ 1048576
  · have hl1 : ¬ (1048576 : Int) < n := by omega
    go_enter Try.func5, Try.ntmps5
    go_wp2_with fail
    with_reducible refine (DrawLineSizes_any A n c _ hb hn hc).mono ?_
    rintro e w1 ⟨⟨A1, c1, L, A2, c2, S, room, rfl, hlv, hsv, hL5, hS6, hcap, hA2⟩, hB⟩
    have HB := Lib.hid hB
    clear hb hn hc hB
    obtain ⟨M, hM⟩ : ∃ M, lsM L S room = M := ⟨_, rfl⟩
    have hM5 := lsM_len L S room
    rw [hM] at hM5
    have hM6 : M.length ≤ 1048576 := by omega
    have HM := Lib.hid hM
    have HL := Lib.hid hlv
    have HS := Lib.hid hsv
    clear hM hlv hsv
    go_wp2_with fail
    with_reducible refine (LineSizes_c A1 c1 _ L A2 c2 _ S room M _ HL.out HS.out rfl rfl (by omega) (by omega) hcap HM.out).mono ?_
    rintro e w2 ⟨⟨B, rfl, hmv⟩, hb2⟩
    replace HL := Lib.hid (HL.out.keep hb2)
    replace HS := Lib.hid (HS.out.keep hb2)
    replace HB := Lib.hid (bkeep2 HB.out hb2)
    clear hb2
    have HV := Lib.hid hmv
    have HR := Lib.hid (show NR w2 (.slice B M.length M.length) M from ⟨_, _, rfl, hmv⟩)
    clear hmv
    by_cases hM0 : M.length = 0
    · have hm0 : ((M.length : Int) == 0) = true := by rw [hM0]; rfl
      clear hM0
      go_wp2_with fail
      with_reducible refine (sLineSizes_c A1 c1 _ L A2 c2 _ S room M _ HL.out HS.out rfl rfl (by omega) (by omega) hcap HM.out).mono ?_
      rintro e w3 ⟨⟨x, rfl, hx⟩, hb3⟩
      replace HL := Lib.hid (HL.out.keep hb3)
      replace HS := Lib.hid (HS.out.keep hb3)
      replace HR := Lib.hid (HR.out.keep hb3)
      replace HB := Lib.hid (bkeep2 HB.out hb3)
      clear hb3
      go_wp2_with fail
      with_reducible refine (equalInts_z _ _ M _ HR.out hx hM6).mono ?_
      rintro e w4 ⟨rfl, hb4⟩
      clear hx
      replace HL := Lib.hid (HL.out.keep hb4)
      replace HS := Lib.hid (HS.out.keep hb4)
      replace HR := Lib.hid (HR.out.keep hb4)
      replace HB := Lib.hid (bkeep2 HB.out hb4)
      clear hb4
      go_wp2_with fail
      with_reducible refine (sLineSizes_c A1 c1 _ L A2 c2 _ S room M _ HL.out HS.out rfl rfl (by omega) (by omega) hcap HM.out).mono ?_
      rintro e w5 ⟨⟨x, rfl, hx⟩, hb5⟩
      replace HL := Lib.hid (HL.out.keep hb5)
      replace HS := Lib.hid (HS.out.keep hb5)
      replace HR := Lib.hid (HR.out.keep hb5)
      replace HB := Lib.hid (bkeep2 HB.out hb5)
      clear hb5
      go_wp2_with fail
      with_reducible refine (equalInts_z _ _ M _ HR.out hx hM6).mono ?_
      rintro e w6 ⟨rfl, hb6⟩
      clear hx
      replace HL := Lib.hid (HL.out.keep hb6)
      replace HS := Lib.hid (HS.out.keep hb6)
      replace HR := Lib.hid (HR.out.keep hb6)
      replace HB := Lib.hid (bkeep2 HB.out hb6)
      clear hb6
      go_wp2
      go_ret
      exact ⟨rfl, HB.out⟩
    · have hm0 : ((M.length : Int) == 0) = false := beq_eq_false_iff_ne.2 (by omega)
      have hg := lsM_yes (L := L) (S := S) (room := room) (by rw [HM.out]; omega)
      obtain ⟨v1, v2, hr, e3⟩ := hg
      rw [HM.out] at e3
      have hwo := wish_ok v1 v2
      obtain ⟨hsok, hWL, hWx, hW0, hW1⟩ := hwo
      obtain ⟨W, hW⟩ : ∃ W, wishM L S = W := ⟨_, rfl⟩
      have hlr : lrM L S = W := by unfold lrM; rw [if_pos (by rw [v1, v2]; rfl), hW]
      have hSw := wish_ok v1 v2
      rw [hW] at hSw
      have h5 := (linesB_len v1).2
      have hW5 : W.length ≤ 5 := by rw [hSw.2.1]; exact h5
      have hWs : Smal 1000000000 W := smal_of (b := 1000000) (fun x hx => ⟨by have := (hSw.2.2.1 x hx).1; omega, (hSw.2.2.1 x hx).2⟩) (by omega) (by omega)
      have hw0 : 0 ≤ sumI W := hSw.2.2.2.1
      have hw1 : sumI W ≤ 2150 := hSw.2.2.2.2
      have hls : sumI W ≤ 400 → lsM L S (sumI W) = W := fun h => by
        unfold lsM
        rw [if_pos (by rw [v1, v2, rng_iff.2 ⟨hw0, h⟩]; rfl)]
        have := sized_wish v1 v2
        rwa [hW] at this
      have hW6 : W.length ≤ 1048576 := by omega
      have HLR := Lib.hid hlr
      have HLS := Lib.hid hls
      have HWS := Lib.hid hWs
      have hlaw := sized_law v1 v2 hr.1 hr.2
      rw [hW, ← e3] at hlaw
      obtain ⟨hl1', hl2', hl3', hl4'⟩ := hlaw
      have hsz := sized_ok v1 v2 hr.1 hr.2
      rw [← e3] at hsz
      have hML := hsz.2.1
      have hMs : Smal 1000000000 M := smal_of (b := 1000000) (fun x hx => ⟨by have := (hsz.2.2.1 x hx).1; omega, (hsz.2.2.1 x hx).2⟩) (by omega) (by omega)
      have hWL' : W.length = L.length := hSw.2.1
      have hlb : ∀ l ∈ L, (0 ≤ l.wt ∧ l.wt ≤ 5) ∧ (0 ≤ l.mi ∧ l.mi ≤ 30) := fun l hl => linesB_get v1 hl
      have hWb : ∀ x ∈ W, 0 ≤ x ∧ x ≤ 1000000 := hSw.2.2.1
      have hwtS : Smal 1000000000 (L.map Ln.wt) := smal_of (b := 5) (fun x hx => by obtain ⟨l, h1, rfl⟩ := List.mem_map.1 hx; have := hlb l h1; omega) (by omega) (by rw [List.length_map]; omega)
      have hwt0 : 0 ≤ sumI (L.map Ln.wt) := (min_bd v1).2.sum.1
      have HLAW := Lib.hid hl1'
      have HML := Lib.hid hML
      have HWL := Lib.hid hWL'
      have HMS := Lib.hid hMs
      have HLB := Lib.hid hlb
      have HWB := Lib.hid hWb
      have HWT := Lib.hid hwtS
      clear hsz hML hMs hWL' hlb hWb hwtS hl1'
      clear hM0 v1 v2 e3 hsok hWL hWx hW0 hW1 hW hlr hSw hWs hls
      go_wp2_with fail
      with_reducible refine (sLineSizes_c A1 c1 _ L A2 c2 _ S room M _ HL.out HS.out rfl rfl (by omega) (by omega) hcap HM.out).mono ?_
      rintro e w3 ⟨⟨x, rfl, hx⟩, hb3⟩
      replace HL := Lib.hid (HL.out.keep hb3)
      replace HS := Lib.hid (HS.out.keep hb3)
      replace HR := Lib.hid (HR.out.keep hb3)
      replace HV := Lib.hid (HV.out.keep hb3)
      replace HB := Lib.hid (bkeep2 HB.out hb3)
      clear hb3
      go_wp2_with fail
      with_reducible refine (equalInts_z _ _ M _ HR.out hx hM6).mono ?_
      rintro e w4 ⟨rfl, hb4⟩
      clear hx
      replace HL := Lib.hid (HL.out.keep hb4)
      replace HS := Lib.hid (HS.out.keep hb4)
      replace HR := Lib.hid (HR.out.keep hb4)
      replace HV := Lib.hid (HV.out.keep hb4)
      replace HB := Lib.hid (bkeep2 HB.out hb4)
      clear hb4
      go_wp2_with fail
      with_reducible refine (LineRequests_c A1 c1 _ L A2 c2 _ S W _ HL.out HS.out rfl rfl (by omega) (by omega) HLR.out).mono ?_
      rintro e w5 ⟨⟨B1, rfl, hwv⟩, hb5⟩
      replace HL := Lib.hid (HL.out.keep hb5)
      replace HS := Lib.hid (HS.out.keep hb5)
      replace HR := Lib.hid (HR.out.keep hb5)
      replace HV := Lib.hid (HV.out.keep hb5)
      replace HB := Lib.hid (bkeep2 HB.out hb5)
      clear hb5
      have HWV := Lib.hid hwv
      clear hwv
      go_wp2_with fail
      go_loopw [8, 9, 10] (fun ws lst i wr => ∃ k : Nat, k ≤ L.length ∧ i = .int .i64 k ∧ ws = .int .i64 (sumI ((L.map Ln.wt).take k)) ∧ lst = .int .i64 (lstM (L.take k) (W.take k)) ∧ (0 ≤ lstM (L.take k) (W.take k) ∧ lstM (L.take k) (W.take k) ≤ 1000000 * k) ∧ Below w5.heap.size w5 wr) (fun _ _ i _ => L.length - (intOf i).toNat)
      case atStart => exact ⟨0, by omega, rfl, rfl, rfl, by simp [lstM], Below.refl _ _⟩
      case round =>
        obtain ⟨k, hk, rfl, rfl, rfl, hbd, hBr⟩ := hrel
        by_cases hlt : k < L.length
        · have hd : decide ((k : Int) < (L.length : Int)) = true := by simpa using hlt
          have hltM : k < M.length := by have := HML.out; omega
          have hltW : k < W.length := by have := HWL.out; omega
          obtain ⟨bm, om, rfl, hbm, hpm⟩ := (HV.out.keep hBr).cells (by omega)
          obtain ⟨bw, ow, rfl, hbw, hpw⟩ := (HWV.out.keep hBr).cells (by omega)
          obtain ⟨bl, ol, rfl, hbl, hpl⟩ := (HL.out.keep hBr).cells (by omega)
          have hgm : M[k]? = some M[k] := List.getElem?_eq_getElem hltM
          have hgw : W[k]? = some W[k] := List.getElem?_eq_getElem hltW
          have hgl : L[k]? = some L[k] := List.getElem?_eq_getElem hlt
          obtain ⟨hle, hz⟩ := HLAW.out k _ _ _ hgl hgw hgm
          obtain ⟨⟨lw0, lw5⟩, lm0, lm3⟩ := HLB.out _ (List.getElem_mem hlt)
          obtain ⟨wx0, wx1⟩ := HWB.out _ (List.getElem_mem hltW)
          have c0 := hpm k _ hgm
          have n0 := hpw k _ hgw
          obtain ⟨d0, d1⟩ := hpl k _ hgl
          have hs1 := sumI_snoc (show (L.map Ln.wt)[k]? = some L[k].wt by rw [List.getElem?_map, hgl]; rfl)
          have hs2 := lstM_snoc hgl hgw
          have b1 := HWT.out k
          have b2 := HWT.out (k + 1)
          rw [hs1] at b2
          generalize L[k] = x at *
          generalize M[k] = y at *
          generalize W[k] = g at *
          obtain ⟨q1, hq1⟩ : ∃ q, sumI ((L.map Ln.wt).take k) = q := ⟨_, rfl⟩
          obtain ⟨q2, hq2⟩ : ∃ q, lstM (L.take k) (W.take k) = q := ⟨_, rfl⟩
          rw [hq1] at hs1 b1 b2
          rw [hq2] at hs2 hbd
          rw [hq1, hq2]
          have e0 : decide (y < x.mi) = false := decide_eq_false (by omega)
          have HS1 := Lib.hid hs1
          have HS2 := Lib.hid hs2
          have HBR := Lib.hid hBr
          have hbd2 : 0 ≤ q2 ∧ q2 ≤ 5000000 := by omega
          have HBD := Lib.hid hbd
          clear hpm hpl hpw hgm hgl hgw hBr hs1 hs2 hq1 hq2 hbd
          by_cases hwt : 0 < x.wt
          · have hd3 : decide (x.wt > 0) = true := by simpa using hwt
            have hd3' : decide (0 < x.wt) = true := by simpa using hwt
            clear hz
            go_wp2_with fail
            refine wp_region_grow 10 0 (· < 10) (by kernel_rfl) (by kernel_rfl) rfl ?_
            iterate 10 (refine wpG_step (fun K hK => ?_); first | (refine grow_skip rfl ?_; go_simp; refine hK _ ?_; clear hK K) | (apply Exists.intro; refine ⟨.inl ⟨rfl, fun w' hw' => ?_⟩, ?_⟩; (focus ((obtain ⟨hc, hf⟩ := bcell hw'.out); (have hcS := bcellS hw'.out); go_simp <;> first | rfl | fail)); (go_simp; refine hK _ ?_; clear hK K)))
            refine wpG_nil ?_
            refine wpK_tail (by kernel_rfl) (fun w8 hg8 => ?_)
            have hb8 := bdrewn hg8.out
            refine wpAny_end (by kernel_rfl) ?_
            refine NoPan.thn ?_
            clear hg8
            replace HBR := Lib.hid (HBR.out.trans (hb8.mono HBR.out.size))
            obtain ⟨hc8, -⟩ := bcell hb8
            have d0' := (hc8 _ _ hbl).trans d0
            have d1' := (hc8 _ _ hbl).trans d1
            clear hb8 hc8 c0 d0 d1 n0
            go_wp2
            go_roundw
            case rel => exact ⟨k + 1, by omega, by go_num, by rw [HS1.out], by rw [HS2.out, if_pos hwt], by rw [HS2.out, if_pos hwt]; have := HBD.out; omega, HBR.out⟩
            case measure => simp [intOf]; omega
          · have hd3 : decide (x.wt > 0) = false := by simpa using hwt
            have hd3' : decide (0 < x.wt) = false := by simpa using hwt
            have hyg : y = g := hz (by omega)
            subst hyg
            clear hz
            go_wp2_with fail
            refine wp_region_grow 10 0 (· < 10) (by kernel_rfl) (by kernel_rfl) rfl ?_
            iterate 10 (refine wpG_step (fun K hK => ?_); first | (refine grow_skip rfl ?_; go_simp; refine hK _ ?_; clear hK K) | (apply Exists.intro; refine ⟨.inl ⟨rfl, fun w' hw' => ?_⟩, ?_⟩; (focus ((obtain ⟨hc, hf⟩ := bcell hw'.out); (have hcS := bcellS hw'.out); go_simp <;> first | rfl | fail)); (go_simp; refine hK _ ?_; clear hK K)))
            refine wpG_nil ?_
            refine wpK_tail (by kernel_rfl) (fun w8 hg8 => ?_)
            have hb8 := bdrewn hg8.out
            refine wpAny_end (by kernel_rfl) ?_
            refine NoPan.thn ?_
            clear hg8
            replace HBR := Lib.hid (HBR.out.trans (hb8.mono HBR.out.size))
            obtain ⟨hc8, -⟩ := bcell hb8
            have d0' := (hc8 _ _ hbl).trans d0
            have n0' := (hc8 _ _ hbw).trans n0
            have c0' := (hc8 _ _ hbm).trans c0
            have hs8 := hb8.size
            have lm8 : bm < w8.heap.size := by omega
            have lw8 : bw < w8.heap.size := by omega
            clear hb8 hc8 c0 d0 d1 n0
            go_wp2_with fail
            refine wp_region_grow 9 0 (· < 9) (by kernel_rfl) (by kernel_rfl) rfl ?_
            iterate 9 (refine wpG_step (fun K hK => ?_); first | (refine grow_skip rfl ?_; go_simp; refine hK _ ?_; clear hK K) | (apply Exists.intro; refine ⟨.inl ⟨rfl, fun w' hw' => ?_⟩, ?_⟩; (focus ((obtain ⟨hc, hf⟩ := bcell hw'.out); (have hcS := bcellS hw'.out); go_simp <;> first | rfl | fail)); (go_simp; refine hK _ ?_; clear hK K)))
            refine wpG_nil ?_
            refine wpK_tail (by kernel_rfl) (fun w7 hg7 => ?_)
            have hb7 := bdrewn hg7.out
            refine wpAny_end (by kernel_rfl) ?_
            refine NoPan.thn ?_
            clear hg7
            replace HBR := Lib.hid (HBR.out.trans (hb7.mono HBR.out.size))
            clear hb7 d0' n0' c0'
            go_wp2
            go_roundw
            case rel => exact ⟨k + 1, by omega, by go_num, by rw [HS1.out], by rw [HS2.out, if_neg (show ¬ 0 < x.wt by omega)], by rw [HS2.out, if_neg (show ¬ 0 < x.wt by omega)]; have := HBD.out; omega, HBR.out⟩
            case measure => simp [intOf]; omega
        · have hd : decide ((k : Int) < (L.length : Int)) = false := decide_eq_false (by omega)
          obtain rfl : k = L.length := by omega
          have e1 : (L.map Ln.wt).take L.length = L.map Ln.wt := List.take_of_length_le (by simp)
          have e2 : L.take L.length = L := List.take_of_length_le (Nat.le_refl _)
          have e3 : W.take L.length = W := List.take_of_length_le (by rw [HWL.out]; exact Nat.le_refl _)
          rw [e1, e2, e3]
          clear hbd
          have HV2 := Lib.hid (HV.out.keep hBr)
          have HW2 := Lib.hid (HWV.out.keep hBr)
          have HBR := Lib.hid (HB.out.trans (hBr.mono HB.out.size))
          clear hBr e1 e2 e3 HLAW HML HWL HLB HWB HWT
          obtain ⟨q1, hq1⟩ : ∃ q, sumI (L.map Ln.wt) = q := ⟨_, rfl⟩
          obtain ⟨q2, hq2⟩ : ∃ q, lstM L W = q := ⟨_, rfl⟩
          obtain ⟨q3, hq3⟩ : ∃ q, sumI M = q := ⟨_, rfl⟩
          have HQ3 := Lib.hid hq3
          rw [hq1] at hl2' hl3' hl4' hwt0
          rw [hq2, hq3] at hl2' hl3' hl4'
          rw [hq1, hq2]
          clear hq1 hq2 hq3
          by_cases hws : 0 < q1
          · have e1 : decide (q1 > 0) = true := by simpa using hws
            have e1' : decide (0 < q1) = true := by simpa using hws
            by_cases hrl : q2 ≤ room
            · have e2 : decide (room ≥ q2) = true := by simpa using hrl
              have e2' : decide (q2 ≤ room) = true := by simpa using hrl
              have e3 := hl2' hws hrl
              have e4 : (q3 == room) = true := by simpa using e3
              clear hl2' hl3' hl4'
              go_wp2_with fail
              with_reducible refine (ltotal_n _ _ M.length M _ HV2.out rfl hM6 HMS.out).mono ?_
              rintro e w9 ⟨rfl, rfl⟩
              rw [HQ3.out]
              go_wp2
              go_ret
              exact ⟨rfl, HBR.out⟩
            · have e2 : decide (room ≥ q2) = false := by simpa using hrl
              have e2' : decide (q2 ≤ room) = false := by simpa using hrl
              have e3 := hl3' hws (by omega)
              have e4 : (q3 == q2) = true := by simpa using e3
              clear hl2' hl3' hl4'
              go_wp2_with fail
              with_reducible refine (ltotal_n _ _ M.length M _ HV2.out rfl hM6 HMS.out).mono ?_
              rintro e w9 ⟨rfl, rfl⟩
              rw [HQ3.out]
              go_wp2
              go_ret
              exact ⟨rfl, HBR.out⟩
          · have e1 : decide (q1 > 0) = false := by simpa using hws
            have e1' : decide (0 < q1) = false := by simpa using hws
            have e3 := hl4' (by omega)
            have e4 : (q3 == q2) = true := by simpa using e3
            clear hl2' hl3' hl4'
            by_cases hrl : q2 ≤ room
            · have e2 : decide (room ≥ q2) = true := by simpa using hrl
              have e2' : decide (q2 ≤ room) = true := by simpa using hrl
              go_wp2_with fail
              with_reducible refine (ltotal_n _ _ W.length W _ HW2.out rfl hW6 HWS.out).mono ?_
              rintro e w9 ⟨rfl, rfl⟩
              obtain ⟨t, ht⟩ : ∃ t, decide (room ≤ sumI W) = t := ⟨_, rfl⟩
              cases t
              all_goals
                go_wp2_with fail
                with_reducible refine (ltotal_n _ _ M.length M _ HV2.out rfl hM6 HMS.out).mono ?_
                rintro e w9 ⟨rfl, rfl⟩
                rw [HQ3.out]
                go_wp2
                go_ret
                exact ⟨rfl, HBR.out⟩
            · have e2 : decide (room ≥ q2) = false := by simpa using hrl
              have e2' : decide (q2 ≤ room) = false := by simpa using hrl
              go_wp2_with fail
              with_reducible refine (ltotal_n _ _ M.length M _ HV2.out rfl hM6 HMS.out).mono ?_
              rintro e w9 ⟨rfl, rfl⟩
              rw [HQ3.out]
              go_wp2
              go_ret
              exact ⟨rfl, HBR.out⟩
  · have hl1 : (1048576 : Int) < n := by omega
    go_enter Try.func5, Try.ntmps5
    go_wp2
    go_ret
    exact ⟨rfl, Below.refl _ _⟩
set_option maxRecDepth 100000 in
theorem lifted (os : Os) (started : os.Started) (H : Type) (enc : TypeId × Value → H) :
    ReturnsInHanded {} Try.checked os 5 .any (Rows.fnLineSizesSpec.pre6 enc Try.prog Try.f5 Rows.fnLineSizesRow.domain false) (Rows.fnLineSizesSpec.post enc Try.prog Try.f5 false true false false) := by
  refine returnsInHanded_of_change (C := Try.checked) own started (by kernel_rfl) Try.func5
    (ChangeSpec.witness6 (enc := enc) (C := Try.checked) false ⟨#[], #[.slice none 0 0], []⟩ 8 (by kernel_rfl) (by kernel_rfl) (by kernel_rfl) (by kernel_rfl)) ?_
  intro W base args ds gs before hval0 hW hcnd _
  have hval : ∀ (j : Nat) t v, Try.f5.params[j]? = some t → args[j]? = some v → Value.okWide Try.prog W .any base t v := hval0
  have hW' := hW
  obtain ⟨p, q, hA0, hV, rfl, hfz, hnd⟩ := hW
  have hA : DataW.TrodAll enc Try.prog W 0 (fun _ => true) true Try.f5.params.toList args.toList ds p := hA0
  rw [Try.params5] at hA hval
  obtain ⟨v0, vs0, d0, ds0, p0, q0, hargs, rfl, rfl, h0, r0⟩ := trodAll_cons hA
  obtain ⟨rfl, rfl, rfl⟩ := trodAll_nil r0
  obtain rfl : args = #[v0] := by cases args; simp_all
  obtain ⟨rfl, rfl⟩ := trodVars_none hV
  have k0 := h0
  have lt0 : ∀ x ∈ p0, x.block < W.heap.size := by obtain ⟨m, hm⟩ := k0; exact DataW.trod_lt m _ _ _ hm
  obtain ⟨a0, len0, cap0, rfl⟩ := okWide_slice Try.underlying22 (hval 0 22 v0 rfl rfl)
  obtain ⟨z0, wz0⟩ : ∃ zs, IsRow .u8 W a0 len0 cap0 zs := by
    obtain ⟨fuel, hf⟩ := h0
    rcases open_ints Try.underlying22 Try.underlying5 (by kernel_rfl) hf with ⟨hcs, _⟩ | ⟨x, l, c, zs, hcs, _, hl, hm, hz, _, hcell, hwz⟩
    · simp [Value.cells] at hcs
      obtain ⟨rfl, rfl, rfl⟩ := hcs
      exact ⟨[], .inl ⟨rfl, rfl, rfl, rfl⟩⟩
    · simp [Value.cells] at hcs
      obtain ⟨rfl, rfl, rfl⟩ := hcs
      exact ⟨zs, .inr ⟨_, rfl, hl, hm, by simpa using hz, hcell, hwz⟩⟩
  clear hA0 hval0
  refine (walk a0 len0 cap0 z0 W wz0).mono fun e W' ⟨he, bel⟩ => ?_
  subst he
  exact ⟨_, rfl, _, _, _, [], _, [], hW', trodAll_mk1 (shut_bool Try.underlying4 _), (trodAll_cons_mk (Below.trod laidOut (by kernel_rfl) (of_decide_eq_true (by kernel_rfl)) k0 bel lt0) trodAll_mk0), rfl, bel.frame _, fun h => by cases h⟩
theorem over : Rows.fnLineSizesRow.holds Try.pinned (OpenSpec.ofChange Rows.fnLineSizesSpec) :=
  OpenClaim.holds_of_wide 5 Try.f5 rfl rfl rfl rfl rfl rfl rfl ⟨rfl, rfl, rfl, rfl, rfl⟩ rfl rfl rfl rfl rfl (by kernel_rfl) Try.func5 (by kernel_rfl)
    (of_decide_eq_true (by kernel_rfl)) (by unfold Func.isWrapper; first | (rw [if_pos (by decide +kernel)]; kernel_rfl) | (rw [if_neg (by decide +kernel)]; exact ⟨rfl, rfl⟩))
    (fun os started H enc _ => lifted os started H enc)
theorem proved : Rows.FnLineSizesSaid := over
end Go.Proofs.Ytignigcknfklkab.lLineSizes
