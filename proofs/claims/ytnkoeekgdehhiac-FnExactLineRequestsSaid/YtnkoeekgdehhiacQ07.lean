import Derived.Test.YtnkoeekgdehhiacQ06
section
namespace Go.Proofs.Ytnkoeekgdehhiac
open Go.RowKit
set_option linter.unusedVariables false
set_option maxHeartbeats 1000000
attribute [local go_sem 5000] run_mx run_mn
attribute [local go_sem] growUpon_value growUpon_skip growUpon_enter
theorem OB.but {w w' : World} {g h cap : Nat} {L : List Int} (hi : OB w h cap L) (hg : w.grownBy w' (some g)) (hne : h ≠ g) : OB w' h cap L := by
  obtain ⟨hl, cs, hh, hs, hc⟩ := hi
  exact ⟨hl, cs, (hg.block h (ltS hh) (fun e => hne (Option.some.inj e))).trans hh, hs, hc⟩
theorem below_own0 {n : Nat} {a W w5 : World} {v : Value} {lo hi : Nat} (h' : Below n a W) (hg : W.grownBy w5 v.ownBlock) (hob : ∀ k, v.ownBlock = some k → lo ≤ k ∧ k < hi) (hlo : n ≤ lo) (hn : n ≤ a.heap.size) : Below n a w5 :=
  ⟨hg.os.trans h'.os, hg.tape.trans h'.tape, hg.output.trans h'.output, Nat.le_trans h'.size hg.size, fun k hk => (hg.block k (Nat.lt_of_lt_of_le (Nat.lt_of_lt_of_le hk hn) h'.size) (fun e => by have := hob k e.symm; omega)).trans (h'.block k hk)⟩
theorem mixM_skip {B : List Int} {k : Nat} (h : B[k]? = some 0) : mixM B (k + 1) = mixM B k := by
  obtain ⟨hk, e⟩ := List.getElem?_eq_some_iff.1 h
  unfold mixM
  rw [List.take_succ_eq_append_getElem hk, e, show B.length - k = (B.length - (k + 1)) + 1 from by omega, List.replicate_succ, List.append_assoc]
  rfl
set_option maxRecDepth 100000 in
theorem sshrunk_v (A : Option Addr) (c no : Nat) (O : List Int) (A' : Option Addr) (c' : Nat) (L : List Ln) (n : Int) (w : World) (h : NV w A O) (hno : no = O.length) (h' : LnV w A' L) (hL : linesB L = true) (hS : SOK L O) (hn : n ≤ 100000) (hn0 : 0 ≤ n) :
    Calls Try.prog 87 #[.slice A' L.length c', .slice A no c, .int .i64 n] w fun e w' => (∃ g cap, e = .returned (.slice (some ⟨g, 0, none⟩) no cap) ∧ w.heap.size ≤ g ∧ OB w' g cap (shrZ L n O)) ∧ Below w.heap.size w w' := by
  obtain ⟨hl1, hl5⟩ := linesB_len hL
  have hol := hS.len
  have hno5 : no ≤ 5 := by omega
  have hno1 : 1 ≤ no := by omega
  obtain ⟨ti, tz, ti1, ti2, ti3, ti4, ti5⟩ := int_infoW
  have hmk : ∀ w : World, (Instr.makeSlice 22 (.int .i64 (L.length : Int)) (.int .i64 (L.length : Int))).run Try.prog w = .ok (.slice (some ⟨w.heap.size, 0, none⟩) L.length L.length) (w.alloc (.cells (ivals (List.replicate L.length 0)) 3)) := fun w => madeI L.length w (by omega)
  obtain ⟨b, off, rfl, hb, hp⟩ := h.cells (by omega)
  have hB0 : Below w.heap.size w (w.alloc (.cells #[] 3 (0, 0))) := balloc (Below.refl _ _)
  have hsrc : ∀ j v, (nvalsW O)[j]? = some v → (w.alloc (.cells #[] 3 (0, 0))).cell? ((⟨b, off, none⟩ : Addr).add j) = some v := fun j v hj => by
    unfold nvalsW at hj
    rw [List.getElem?_map] at hj
    cases ho : O[j]? with
    | none => rw [ho] at hj; cases hj
    | some x =>
      rw [ho] at hj
      obtain rfl := Option.some.inj hj
      rw [add_none]
      exact (hB0.cell (p := ⟨b, off + j, none⟩) hb).trans (hp j x ho)
  have ho0 : (w.alloc (.cells #[] 3 (0, 0))).ownsRow w.heap.size 3 1 (.slice (some ⟨w.heap.size, 0, none⟩) 0 0) 0 (nvalsW []) := World.ownsRow_lit (base := w.heap.size) (e := 3) (size := 1) w #[] 0 (Nat.le_refl _) (by decide) rfl
  have hob := ho0.lt
  have HO := Lib.hid ho0
  have HSRC := Lib.hid hsrc
  have HB0 := Lib.hid hB0
  have HL := Lib.hid hL
  have HS := Lib.hid hS
  have HNO := Lib.hid hno
  have HNL := Lib.hid (show no = L.length by omega)
  have HMK := Lib.hid hmk
  have h1c : ∀ v ∈ nvalsW O, v.oneCell' = true := by simp [nvalsW, Value.oneCell']
  have hnl : (nvalsW O).length = no := by simp [nvalsW, hno]
  have HNV := Lib.hid hnl
  clear hsrc hB0 hp hL hS hol hno ho0 hmk hnl
  go_enter Try.func87, Try.ntmps87
  go_wp2_with (at_builtin; refine wpList_append_own _ rfl _ _ 22 rfl w.heap.size 3 ti tz 1 8 Try.underlying22 ti1 ti2 ti3 ti4 ti5 (by decide) _ _ _ rfl HO.out ⟨b, off, none⟩ no c (nvalsW O) rfl (by rw [HNV.out, Nat.mul_one]) HSRC.out h1c (by simp only [maxLen]; omega) (by omega) (by simp) ?_)
  intro v5 w5 how5 hgr5 _
  have hnv0 : nvalsW [] ++ nvalsW O = nvalsW O := by simp [nvalsW]
  simp only [hnv0, Nat.zero_add] at how5
  have HB5 := Lib.hid (below_own0 HB0.out hgr5 hob (Nat.le_refl _) (Nat.le_refl _))
  rcases own_inW how5 HNO.out with ⟨rfl, hM⟩ | ⟨g, cap, rfl, hbg, hO⟩
  · have : O.length = 0 := by rw [hM]; rfl
    have := HNO.out
    omega
  have HO5 := Lib.hid hO
  clear how5 hgr5 hnv0 HO HSRC HB0 hob hO h1c
  go_wp2_with fail
  go_loopw [2] (fun nv wr => ∃ (n' : Int) (O' : List Int), nv = .int .i64 n' ∧ 0 ≤ n' ∧ n' ≤ 100000 ∧ SOK L O' ∧ OB wr g cap O' ∧ shrZ L n' O' = shrZ L n O ∧ Below w.heap.size w wr) (fun nv _ => (intOf nv).toNat)
  case atStart => exact ⟨n, O, rfl, hn0, hn, HS.out, HO5.out, rfl, HB5.out⟩
  case round =>
    obtain ⟨n', O', rfl, hn0', hn', hS, hI, hR, hBr⟩ := hrel
    clear HO5 HB5 HS
    have HI := Lib.hid hI
    have HB := Lib.hid hBr
    have HS := Lib.hid hS
    have HR := Lib.hid hR
    have hol := hS.len
    clear hI hBr hS hR
    by_cases hpos : 0 < n'
    · have hd : decide (n' > 0) = true := by simpa using hpos
      have hmk := HMK.out
      go_wp2_with fail
      have hIg := HI.out.lt
      have hBa : Below wr.heap.size wr (wr.alloc (.cells (ivals (List.replicate L.length 0)) 3)) := balloc (Below.refl _ _)
      have HI1 := Lib.hid (HI.out.keep hBa)
      have HB1 := Lib.hid (bkeep2 HB.out hBa)
      have hW1 : IB (wr.alloc (.cells (ivals (List.replicate L.length 0)) 3)) wr.heap.size (mixM (wtZ L O') 0) := by rw [mixM_zero, wtZ_len HS.out.len]; exact makeI_b _ _
      have HW1 := Lib.hid hW1
      have hwl := wtZ_len HS.out.len
      have HWL := Lib.hid hwl.symm
      have hwg : w.heap.size ≤ wr.heap.size := HB.out.size
      clear hBa hW1 hmk hwl HI HB
      generalize wr.heap.size = gw at *
      go_loopw [9] (fun i wr => ∃ k : Nat, k ≤ L.length ∧ i = .int .i64 k ∧ OB wr g cap O' ∧ IB wr gw (mixM (wtZ L O') k) ∧ Below w.heap.size w wr) (fun i _ => L.length - (intOf i).toNat)
      case atStart => exact ⟨0, by omega, rfl, HI1.out, HW1.out, HB1.out⟩
      case round =>
        obtain ⟨k, hk, rfl, hI, hWr, hBr⟩ := hrel
        clear HI1 HW1 HB1
        by_cases hlt : k < L.length
        · have hd2 : decide ((k : Int) < (L.length : Int)) = true := by simpa using hlt
          obtain ⟨b', off', rfl, hb', hp⟩ := (h'.keep hBr).cells (by omega)
          have hget : L[k]? = some L[k] := List.getElem?_eq_getElem hlt
          obtain ⟨c0, c1⟩ := hp k _ hget
          have hko : k < O'.length := by omega
          have hgo : O'[k]? = some O'[k] := List.getElem?_eq_getElem hko
          have hwz := wtZ_get hget hgo
          have hlo := SOK.each HL.out HS.out hget hgo
          generalize L[k] = l at *
          generalize O'[k] = o at *
          have p0 := hI.cell hgo
          have hkn : (k : Int) < (no : Int) := by have := HNL.out; omega
          have hs1 := hI.lt
          obtain ⟨y, hy⟩ := mixM_get (B := wtZ L O') (k := k) (by rw [← HWL.out]; exact hlt)
          have HI := Lib.hid hI
          have HW := Lib.hid hWr
          have HB := Lib.hid hBr
          have HY := Lib.hid hy
          have HGO := Lib.hid hgo
          clear hI hWr hBr hp hget hgo hy
          by_cases e : l.mi < o
          · have hz : decide (o > l.mi) = true := by simpa using e
            rw [if_pos e] at hwz
            have HWZ := Lib.hid hwz
            clear hwz
            go_wp2_with fail
            refine wp_region_grow 10 0 (· < 10) (by kernel_rfl) (by kernel_rfl) rfl ?_
            iterate 10 (refine wpG_step (fun K hK => ?_); first | (refine grow_skip rfl ?_; go_simp; refine hK _ ?_; clear hK K) | (apply Exists.intro; refine ⟨.inl ⟨rfl, fun w' hw' => ?_⟩, ?_⟩; (focus ((obtain ⟨hc, hf⟩ := bcell hw'.out); (have hcS := bcellS hw'.out); go_simp <;> first | rfl | fail)); (go_simp; refine hK _ ?_; clear hK K)))
            refine wpG_nil ?_
            refine wpK_tail (by kernel_rfl) (fun w5 hg5 => ?_)
            have hb5 := bdrewn hg5.out
            refine wpAny_end (by kernel_rfl) ?_
            refine NoPan.thn ?_
            clear hg5
            have HW5 := HW.out.keep hb5
            have d0 := HW5.cell HY.out
            have f0 := HW5.frozen k
            have HW6 := HW5.set k l.wt
            rw [mixM_set HWZ.out] at HW6
            have HW6 := Lib.hid HW6
            have HI6 := Lib.hid ((HI.out.keep hb5).but (gsetI (greflI _ gw) k (.int .i64 l.wt)) (by omega))
            have HB6 := Lib.hid ((bkeep2 HB.out hb5).setCell (p := ⟨gw, k, none⟩) (by show w.heap.size ≤ gw; omega) (.int .i64 l.wt))
            have e0 := (hb5.cell (p := ⟨b', off' + k * 2, none⟩) hb').trans c0
            have hb6 := Nat.lt_of_lt_of_le hb' hb5.size
            clear HW5 hb5 HW HI HB c0 c1 p0
            go_wp2
            go_roundw
            case rel => exact ⟨k + 1, by omega, by go_num, HI6.out, HW6.out, HB6.out⟩
            case measure => simp [intOf]; omega
          · have hz : decide (o > l.mi) = false := by simpa using e
            rw [if_neg e] at hwz
            have HWZ := Lib.hid hwz
            clear hwz
            go_wp2_with fail
            refine wp_region_grow 10 0 (· < 10) (by kernel_rfl) (by kernel_rfl) rfl ?_
            iterate 10 (refine wpG_step (fun K hK => ?_); first | (refine grow_skip rfl ?_; go_simp; refine hK _ ?_; clear hK K) | (apply Exists.intro; refine ⟨.inl ⟨rfl, fun w' hw' => ?_⟩, ?_⟩; (focus ((obtain ⟨hc, hf⟩ := bcell hw'.out); (have hcS := bcellS hw'.out); go_simp <;> first | rfl | fail)); (go_simp; refine hK _ ?_; clear hK K)))
            refine wpG_nil ?_
            refine wpK_tail (by kernel_rfl) (fun w5 hg5 => ?_)
            have hb5 := bdrewn hg5.out
            refine wpAny_end (by kernel_rfl) ?_
            refine NoPan.thn ?_
            clear hg5
            have HW6 := HW.out.keep hb5
            rw [← mixM_skip HWZ.out] at HW6
            have HW6 := Lib.hid HW6
            have HI6 := Lib.hid (HI.out.keep hb5)
            have HB6 := Lib.hid (bkeep2 HB.out hb5)
            clear hb5 HW HI HB
            go_wp2
            go_roundw
            case rel => exact ⟨k + 1, by omega, by go_num, HI6.out, HW6.out, HB6.out⟩
            case measure => simp [intOf]; omega
        · have hd2 : decide ((k : Int) < (L.length : Int)) = false := decide_eq_false (by omega)
          obtain rfl : k = L.length := by omega
          have hwl := HWL.out
          rw [hwl, mixM_all] at hWr
          have HI := Lib.hid hI
          have HW := Lib.hid hWr
          have HB := Lib.hid hBr
          have HOK := Lib.hid (wtZ_ok HL.out HS.out)
          clear hI hWr hBr hwl
          go_wp2_with fail
          with_reducible refine (total_n _ _ L.length (wtZ L O') _ HW.out.nv HWL.out (by omega) HOK.out.smal).mono ?_
          rintro e w5 ⟨rfl, rfl⟩
          by_cases hs : sumI (wtZ L O') = 0
          · have hz : (sumI (wtZ L O') == 0) = true := by simpa using hs
            have HE := Lib.hid (shr_end (L := L) (n := n') (.inr hs))
            clear hs
            go_wp2
            go_ret
            exact ⟨⟨g, cap, rfl, hbg, by rw [← HR.out, HE.out]; exact HI.out⟩, HB.out⟩
          · have hz : (sumI (wtZ L O') == 0) = false := by simpa using hs
            have HGO := Lib.hid (shr_go HL.out HS.out hpos hs)
            have HRK := Lib.hid (round_ok HL.out HS.out hpos hs)
            clear hs
            go_wp2_with fail
            with_reducible refine (sspread_n _ _ L.length n' (wtZ L O') _ HW.out.nv HWL.out HOK.out hn0' hn').mono ?_
            rintro e w5 ⟨rfl, hp5, hb5⟩
            have HI5 := Lib.hid (HI.out.keep hb5)
            have HB5 := Lib.hid (bkeep2 HB.out hb5)
            have HP := Lib.hid hp5
            have hgp : g < wr.heap.size := HI.out.lt
            have HPB := Lib.hid (spread_pos (n := n') hn0' HOK.out)
            have hpl : (spreadM n' (wtZ L O')).length = L.length := by rw [spreadM_len]; exact HWL.out.symm
            have HPL := Lib.hid hpl
            clear hp5 hb5 hpl HI HW HB
            generalize wr.heap.size = gp at *
            generalize spreadM n' (wtZ L O') = P at *
            go_wp2_with fail
            go_loopw [2, 11] (fun nv i wr => ∃ k : Nat, k ≤ L.length ∧ i = .int .i64 k ∧ nv = .int .i64 (n' - tknZ L O' (P.take k)) ∧ OB wr g cap (takZ L O' (P.take k)) ∧ w5.grownBy wr (some g)) (fun _ i _ => L.length - (intOf i).toNat)
            case atStart => exact ⟨0, by omega, rfl, by rw [List.take_zero, tknZ_nil, Int.sub_zero], by rw [List.take_zero, takZ_nil]; exact HI5.out, greflI _ _⟩
            case round =>
              obtain ⟨k, hk, rfl, rfl, hI, hgr⟩ := hrel
              clear HI5
              by_cases hlt : k < L.length
              · have hd2 : decide ((k : Int) < (L.length : Int)) = true := by simpa using hlt
                have hBr := below_grown HB5.out hgr hbg HB5.out.size
                obtain ⟨b', off', rfl, hb', hq⟩ := (h'.keep hBr).cells (by omega)
                have hget : L[k]? = some L[k] := List.getElem?_eq_getElem hlt
                obtain ⟨c0, c1⟩ := hq k _ hget
                have hko : k < O'.length := by omega
                have hgo : O'[k]? = some O'[k] := List.getElem?_eq_getElem hko
                have hkp : k < P.length := by have := HPL.out; omega
                have hgq : P[k]? = some P[k] := List.getElem?_eq_getElem hkp
                have hlo := SOK.each HL.out HS.out hget hgo
                have hpb := HPB.out _ (List.getElem_mem hkp)
                have hpt : ∀ x ∈ P.take k, (0 : Int) ≤ x ∧ x ≤ 100000 := fun x hx => by have := HPB.out x (List.mem_of_mem_take hx); omega
                have htb := tkn_bd (P := P.take k) HS.out (fun x hx => (hpt x hx).1)
                have hsb := sumI_bd hpt
                have hlt5 : (P.take k).length ≤ 5 := by rw [List.length_take]; omega
                have hts := takZ_snoc hget hgo hgq
                have htk := tknZ_snoc hget hgo hgq
                have hx0 : (takZ L O' (P.take k))[k]? = some O'[k] := takZ_get hgo (by rw [List.length_take]; omega)
                generalize L[k] = l at *
                generalize O'[k] = o at *
                generalize P[k] = p at *
                obtain ⟨hlo1, hlo2, hlo3, hlo4⟩ := hlo
                obtain ⟨hp0, hp1⟩ := hpb
                have q0 := (HP.out.but hgr (by omega)).cell hgq
                have d0 := hI.cell hx0
                have hs1 := hI.lt
                have hs2 := (HP.out.but hgr (by omega)).lt
                have hkn : (k : Int) < (no : Int) := by have := HNL.out; omega
                have hwr : IntKind.i64.wrap (o - l.mi) = o - l.mi := IntWalk.i64_in _ (by omega)
                have hmn := mn_spec p (o - l.mi)
                have HX0 := Lib.hid hx0
                have HI := Lib.hid hI
                have HG := Lib.hid hgr
                have HTS := Lib.hid hts
                have HTK := Lib.hid htk
                have HMN := Lib.hid hmn
                have ht00 : 0 ≤ tknZ L O' (P.take k) := htb.1
                have ht01 : tknZ L O' (P.take k) ≤ 500000 := by omega
                generalize tknZ L O' (P.take k) = t0 at *
                clear hI hgr hBr hts htk hmn hx0 hget hgo hgq hq htb hsb hpt hlt5
                go_wp2_with fail
                refine wp_region_grow 15 1 (· < 15) (by kernel_rfl) (by kernel_rfl) rfl ?_
                iterate 15 (refine wpG_step (fun K hK => ?_); first | (refine grow_skip rfl ?_; go_simp; refine hK _ ?_; clear hK K) | (apply Exists.intro; refine ⟨.inl ⟨rfl, fun w' hw' => ?_⟩, ?_⟩; (focus ((obtain ⟨hc, hf⟩ := bcell hw'.out); (have hcS := bcellS hw'.out); go_simp <;> first | rfl | fail)); (go_simp; refine hK _ ?_; clear hK K)))
                refine wpG_nil ?_
                refine wpK_tail (by kernel_rfl) (fun w7 hg7 => ?_)
                have hb7 := bdrewn hg7.out
                obtain ⟨hc7, hf7⟩ := bcell hb7
                refine wpAny_one (i := 15) (by kernel_rfl) rfl rfl ?_
                go_simp
                refine wpAny_end (by kernel_rfl) ?_
                refine NoPan.thn ?_
                clear hc7 hf7
                clear hg7
                obtain ⟨t, ht⟩ : ∃ t, mn p (o - l.mi) = t := ⟨_, rfl⟩
                have hmn := HMN.out
                have HTS2 := HTS.out
                have HTK2 := HTK.out
                rw [ht] at hmn HTS2 HTK2
                rw [ht]
                have HI7 := HI.out.keep hb7
                have d7 := HI7.cell HX0.out
                have f7 := HI7.frozen k
                have HI8 := HI7.set k (o - t) (by rw [takZ_len]; exact hko)
                rw [HTS2] at HI8
                have HI8 := Lib.hid HI8
                have HG8 := Lib.hid (gsetI (grown_below HG.out hb7) k (.int .i64 (o - t)))
                have HTK2 := Lib.hid HTK2
                have ht0 : 0 ≤ t := by omega
                have ht1 : t ≤ p := hmn.1
                clear HI7 HTS2 hb7 hmn ht HMN HTS HTK HI HG
                go_wp2
                go_roundw
                case rel => exact ⟨k + 1, by omega, by go_num, by rw [HTK2.out]; go_num, HI8.out, HG8.out⟩
                case measure => simp [intOf]; omega
              · have hd2 : decide ((k : Int) < (L.length : Int)) = false := decide_eq_false (by omega)
                have hke : P.take k = P := List.take_of_length_le (by have := HPL.out; omega)
                rw [hke] at hI ⊢
                obtain ⟨hr1, hr2, hr3, hr4⟩ := HRK.out
                have HI6 := Lib.hid hI
                have HB6 := Lib.hid (below_grown HB5.out hgr hbg HB5.out.size)
                have HS6 := Lib.hid hr4
                clear hI hgr hke hr1 hr4
                go_wp2
                go_roundw
                case rel => exact ⟨_, _, rfl, by omega, by omega, HS6.out, HI6.out, by rw [← HGO.out]; exact HR.out, HB6.out⟩
                case measure => simp [intOf]; omega
    · have hd : decide (n' > 0) = false := by simpa using hpos
      have HE := Lib.hid (shr_end (L := L) (O := O') (n := n') (.inl (by omega)))
      go_wp2
      go_ret
      exact ⟨⟨g, cap, rfl, hbg, by rw [← HR.out, HE.out]; exact HI.out⟩, HB.out⟩
end Go.Proofs.Ytnkoeekgdehhiac
end
section
namespace Go.Proofs.Ytnkoeekgdehhiac
open Go.RowKit
set_option linter.unusedVariables false
set_option maxHeartbeats 1000000
attribute [local go_sem 5000] run_mx run_mn
attribute [local go_sem] growUpon_value growUpon_skip growUpon_enter
def sizedO (L : List Ln) (O : List Int) (room : Int) : List Int :=
  if room - sumI O < 0 then shrZ L (-(room - sumI O)) O
  else if sumI (L.map Ln.wt) = 0 then O
  else addAt O 0 (spreadM (room - sumI O) (L.map Ln.wt))
set_option maxRecDepth 100000 in
theorem sized_v (B : Option Addr) (c no : Nat) (O : List Int) (A' : Option Addr) (c' : Nat) (L : List Ln) (room : Int) (w : World) (h : NV w B O) (hno : no = O.length) (h' : LnV w A' L) (hL : linesB L = true) (hS : SOK L O) (hO : ∀ x ∈ O, 0 ≤ x ∧ x ≤ 1000000) (hs0 : 0 ≤ sumI O) (hs1 : sumI O ≤ 2150) (hr0 : 0 ≤ room) (hr1 : room ≤ 400) :
    Calls Try.prog 56 #[.slice A' L.length c', .slice B no c, .int .i64 room] w fun e w' => (∃ g cap, e = .returned (.slice (some ⟨g, 0, none⟩) no cap) ∧ w.heap.size ≤ g ∧ OB w' g cap (sizedO L O room)) ∧ Below w.heap.size w w' := by
  obtain ⟨hl1, hl5⟩ := linesB_len hL
  have hol := hS.len
  have hno5 : no ≤ 5 := by omega
  have hno1 : 1 ≤ no := by omega
  have hww := (min_bd hL).2
  have hws := hww.sum
  have HSM := Lib.hid (smal_of (L := O) (b := 1000000) (M := 1000000000) (fun x hx => by have := hO x hx; omega) (by omega) (by omega))
  have HWW := Lib.hid hww
  have HO := Lib.hid hO
  have HL := Lib.hid hL
  have HS := Lib.hid hS
  have HNO := Lib.hid hno
  have HNL := Lib.hid (show no = L.length by omega)
  obtain ⟨ti, tz, ti1, ti2, ti3, ti4, ti5⟩ := int_infoW
  obtain ⟨b, off, rfl, hb, hp⟩ := h.cells (by omega)
  have HPP := Lib.hid hp
  clear hww hO hL hS hol hno hp
  go_enter Try.func56, Try.ntmps56
  go_wp2_with fail
  with_reducible refine (total_n _ _ no O _ h HNO.out (by omega) HSM.out).mono ?_
  rintro e w3 ⟨rfl, rfl⟩
  obtain ⟨q, hq⟩ : ∃ q, sumI O = q := ⟨_, rfl⟩
  rw [hq] at hs0 hs1
  rw [hq]
  have HQ := Lib.hid hq
  clear hq
  by_cases hneg : room - q < 0
  · have hd : decide (room - q < 0) = true := by simpa using hneg
    have he : sizedO L O room = shrZ L (-(room - q)) O := by unfold sizedO; rw [HQ.out, if_pos hneg]
    have HE := Lib.hid he
    clear he
    go_wp2_with fail
    refine (sshrunk_v _ _ no O _ _ L _ _ h HNO.out h' HL.out HS.out (by omega) (by omega)).mono ?_
    rintro e w5 ⟨⟨g, cap, rfl, hg, hi5⟩, hb5⟩
    have HB5 := Lib.hid hb5
    first | rw [← HE.out] at hi5 | (rw [show q - room = -(room - q) from by omega, ← HE.out] at hi5) | (rw [show 0 - (room - q) = -(room - q) from by omega, ← HE.out] at hi5)
    have HI5 := Lib.hid hi5
    clear hi5 hb5
    go_wp2
    go_ret
    exact ⟨⟨g, cap, rfl, hg, HI5.out⟩, HB5.out⟩
  · have hd : decide (room - q < 0) = false := by simpa using hneg
    have hB0 : Below w.heap.size w (w.alloc (.cells #[] 3 (0, 0))) := balloc (Below.refl _ _)
    have hsrc : ∀ j v, (nvalsW O)[j]? = some v → (w.alloc (.cells #[] 3 (0, 0))).cell? ((⟨b, off, none⟩ : Addr).add j) = some v := fun j v hj => by
      unfold nvalsW at hj
      rw [List.getElem?_map] at hj
      cases ho : O[j]? with
      | none => rw [ho] at hj; cases hj
      | some x =>
        rw [ho] at hj
        obtain rfl := Option.some.inj hj
        rw [add_none]
        exact (hB0.cell (p := ⟨b, off + j, none⟩) hb).trans (HPP.out j x ho)
    have ho0 : (w.alloc (.cells #[] 3 (0, 0))).ownsRow w.heap.size 3 1 (.slice (some ⟨w.heap.size, 0, none⟩) 0 0) 0 (nvalsW []) := World.ownsRow_lit (base := w.heap.size) (e := 3) (size := 1) w #[] 0 (Nat.le_refl _) (by decide) rfl
    have hob := ho0.lt
    have HO0 := Lib.hid ho0
    have HSRC := Lib.hid hsrc
    have HB0 := Lib.hid hB0
    have h1c : ∀ v ∈ nvalsW O, v.oneCell' = true := by simp [nvalsW, Value.oneCell']
    have hnl : (nvalsW O).length = no := by simp [nvalsW, HNO.out]
    have HNV := Lib.hid hnl
    clear hsrc hB0 ho0 hnl
    go_wp2_with (at_builtin; refine wpList_append_own _ rfl _ _ 22 rfl w.heap.size 3 ti tz 1 8 Try.underlying22 ti1 ti2 ti3 ti4 ti5 (by decide) _ _ _ rfl HO0.out ⟨b, off, none⟩ no c (nvalsW O) rfl (by rw [HNV.out, Nat.mul_one]) HSRC.out h1c (by simp only [maxLen]; omega) (by omega) (by simp) ?_)
    intro v5 w5 how5 hgr5 _
    have hnv0 : nvalsW [] ++ nvalsW O = nvalsW O := by simp [nvalsW]
    simp only [hnv0, Nat.zero_add] at how5
    have HB5 := Lib.hid (below_own0 HB0.out hgr5 hob (Nat.le_refl _) (Nat.le_refl _))
    rcases own_inW how5 HNO.out with ⟨rfl, hM⟩ | ⟨g, cap, rfl, hbg, hOB⟩
    · have : O.length = 0 := by rw [hM]; rfl
      have := HNO.out
      omega
    have HI := Lib.hid hOB
    clear how5 hgr5 hnv0 HO0 HSRC HB0 hob hOB h1c
    have HLV := Lib.hid (h'.keep HB5.out)
    go_wp2_with fail
    refine (weightsOf_v _ _ L.length L _ HLV.out rfl (by omega)).mono ?_
    rintro e w6 ⟨⟨A2, c2, rfl, hn6⟩, hb6⟩
    have HN6 := Lib.hid hn6
    replace HI := Lib.hid (HI.out.keep hb6)
    replace HB5 := Lib.hid (bkeep2 HB5.out hb6)
    clear hn6 hb6 HLV
    go_wp2_with fail
    with_reducible refine (total_n _ _ L.length (L.map Ln.wt) _ HN6.out (by simp) (by omega) HWW.out.smal).mono ?_
    rintro e w7 ⟨rfl, rfl⟩
    by_cases hz0 : sumI (L.map Ln.wt) = 0
    · have hz : (sumI (L.map Ln.wt) == 0) = true := by simpa using hz0
      have he : sizedO L O room = O := by unfold sizedO; rw [HQ.out, if_neg (by omega), if_pos hz0]
      have HE := Lib.hid he
      clear he hz0
      go_wp2
      go_ret
      exact ⟨⟨g, cap, rfl, hbg, by rw [HE.out]; exact HI.out⟩, HB5.out⟩
    · have hz : (sumI (L.map Ln.wt) == 0) = false := by simpa using hz0
      have he : sizedO L O room = addAt O 0 (spreadM (room - q) (L.map Ln.wt)) := by unfold sizedO; rw [HQ.out, if_neg (by omega), if_neg hz0]
      have HE := Lib.hid he
      have HLV := Lib.hid (h'.keep HB5.out)
      clear he hz0
      go_wp2_with fail
      refine (weightsOf_v _ _ L.length L _ HLV.out rfl (by omega)).mono ?_
      rintro e w8 ⟨⟨A3, c3, rfl, hn8⟩, hb8⟩
      have HN8 := Lib.hid hn8
      replace HI := Lib.hid (HI.out.keep hb8)
      replace HB5 := Lib.hid (bkeep2 HB5.out hb8)
      clear hn8 hb8 HLV HN6
      go_wp2_with fail
      refine (sspread_n _ _ L.length (room - q) (L.map Ln.wt) _ HN8.out (by simp) HWW.out (by omega) (by omega)).mono ?_
      rintro e w9 ⟨rfl, hp9, hb9⟩
      have hgp := HI.out.lt
      have HP := Lib.hid hp9
      replace HI := Lib.hid (HI.out.keep hb9)
      replace HB5 := Lib.hid (bkeep2 HB5.out hb9)
      have HPB := Lib.hid (spread_pos (n := room - q) (by omega) HWW.out)
      have HPL := Lib.hid (show (spreadM (room - q) (L.map Ln.wt)).length = no by rw [spreadM_len, List.length_map, HNL.out])
      clear hp9 hb9 HN8
      generalize w8.heap.size = gp at *
      generalize spreadM (room - q) (L.map Ln.wt) = P at *
      go_wp2_with fail
      go_loopw [10] (fun i wr => ∃ k : Nat, k ≤ no ∧ i = .int .i64 k ∧ OB wr g cap (addAt O 0 (P.take k)) ∧ w9.grownBy wr (some g)) (fun i _ => no - (intOf i).toNat)
      case atStart => exact ⟨0, by omega, rfl, by rw [List.take_zero, addAt_nil]; exact HI.out, greflI _ _⟩
      case round =>
        obtain ⟨k, hk, rfl, hI, hgr⟩ := hrel
        clear HI
        by_cases hlt : k < no
        · have hd2 : decide ((k : Int) < (no : Int)) = true := by simpa using hlt
          have hkp : k < P.length := by have := HPL.out; omega
          have hgq : P[k]? = some P[k] := List.getElem?_eq_getElem hkp
          have hko : 0 + k < O.length := by have := HNO.out; omega
          have hgo : O[0 + k]? = some O[0 + k] := List.getElem?_eq_getElem hko
          have hpb := HPB.out _ (List.getElem_mem hkp)
          have hob := HO.out _ (List.getElem_mem hko)
          generalize P[k] = p at *
          generalize O[0 + k] = o at *
          obtain ⟨hp0, hp1⟩ := hpb
          obtain ⟨ho0, ho1⟩ := hob
          have hx0 := addAt_get hgo (P := P.take k) (by rw [List.length_take]; omega)
          have has := addAt_snoc hgo hgq
          rw [Nat.zero_add] at hx0 has
          have q0 := (HP.out.but hgr (by omega)).cell hgq
          have d0 := hI.cell hx0
          have hs2 := hI.lt
          have hs3 := (HP.out.but hgr (by omega)).lt
          have hkl : (k : Int) < (L.length : Int) := by have := HNL.out; omega
          have hwr3 : IntKind.i64.wrap (o + p) = o + p := IntWalk.i64_in _ (by omega)
          have hal3 : k < (addAt O 0 (P.take k)).length := by rw [addAt_len]; omega
          have HX0 := Lib.hid hx0
          have HI6 := Lib.hid hI
          have HG6 := Lib.hid hgr
          have HAS := Lib.hid has
          clear hI hgr hgq hgo hx0 has
          go_wp2_with fail
          refine wp_region_grow 12 1 (· < 12) (by kernel_rfl) (by kernel_rfl) rfl ?_
          iterate 12 (refine wpG_step (fun K hK => ?_); first | (refine grow_skip rfl ?_; go_simp; refine hK _ ?_; clear hK K) | (apply Exists.intro; refine ⟨.inl ⟨rfl, fun w' hw' => ?_⟩, ?_⟩; (focus ((obtain ⟨hc, hf⟩ := bcell hw'.out); (have hcS := bcellS hw'.out); go_simp <;> rfl)); (go_simp; refine hK _ ?_; clear hK K)))
          refine wpG_nil ?_
          refine wpK_tail (by kernel_rfl) (fun w7 hg7 => ?_)
          have hb7 := bdrewn hg7.out
          have HI7 := HI6.out.keep hb7
          have d7 := HI7.cell HX0.out
          have f7 := HI7.frozen k
          have HI8 := HI7.set k (o + p) hal3
          rw [HAS.out] at HI8
          have HI8 := Lib.hid HI8
          have HG8 := Lib.hid (gsetI (grown_below HG6.out hb7) k (.int .i64 (o + p)))
          clear HI7
          refine wpAny_one (i := 12) (by kernel_rfl) rfl rfl ?_
          go_simp
          refine wpAny_end (by kernel_rfl) ?_
          refine nopan_normal9 ?_
          clear hb7 hg7
          go_wp2
          go_roundw
          case rel => exact ⟨k + 1, by omega, by go_num, HI8.out, HG8.out⟩
          case measure => simp [intOf]; omega
        · have hd2 : decide ((k : Int) < (no : Int)) = false := decide_eq_false (by omega)
          have hke : P.take k = P := List.take_of_length_le (by have := HPL.out; omega)
          rw [hke, ← HE.out] at hI
          have HI6 := Lib.hid hI
          have HB6 := Lib.hid (below_grown HB5.out hgr hbg HB5.out.size)
          clear hI hgr hke
          go_wp2
          go_ret
          exact ⟨⟨g, cap, rfl, hbg, HI6.out⟩, HB6.out⟩
end Go.Proofs.Ytnkoeekgdehhiac
end
section
namespace Go.Proofs.Ytnkoeekgdehhiac
open Go.RowKit
set_option linter.unusedVariables false
set_option maxHeartbeats 1000000
theorem shrZ_len (L : List Ln) : ∀ (f : Nat) (n : Int) (O : List Int), n.toNat ≤ f → (shrZ L n O).length = O.length
  | 0, n, O, hf => by rw [shr_end (.inl (by omega))]
  | f + 1, n, O, hf => by
    rw [shrZ]
    split
    · rename_i hh
      rw [shrZ_len L f _ _ (by omega), takZ_len]
    · rfl
theorem sizedM_len {L : List Ln} {S : List Sp} {room : Int} (hL : linesB L = true) (hS : spansB L.length S = true) : (sizedM L S room).length = L.length := by
  have h := wishM_len hL hS
  unfold sizedM
  split
  · rw [shrZ_len L _ _ _ (Nat.le_refl _), h]
  · split
    · exact h
    · rw [addAt_len, h]
theorem LineSizes_no (A : Option Addr) (c : Nat) (L : List Ln) (A' : Option Addr) (c' : Nat) (S : List Sp) (room : Int) (w : World) (h : LnV w A L) (h' : SpV w A' S) (hL : L.length ≤ 1048576) (hS : S.length ≤ 1048576) (hv : (linesB L && spansB L.length S && rng room 0 400) = false) :
    Calls Try.prog 26 #[.slice A L.length c, .slice A' S.length c', .int .i64 room] w fun e w' => e = .returned (.slice none 0 0) ∧ Below w.heap.size w w' := by
  cases h1 : linesB L
  · go_enter Try.func26, Try.ntmps26
    go_wp2_with fail
    with_reducible refine (validLines_v A c L false _ h hL h1).mono ?_
    rintro e w1 ⟨rfl, hb1⟩
    have HB := Lib.hid hb1
    clear hb1
    go_wp2
    go_ret
    exact ⟨rfl, HB.out⟩
  · obtain ⟨hl1, hl5⟩ := linesB_len h1
    cases h2 : spansB L.length S
    · go_enter Try.func26, Try.ntmps26
      go_wp2_with fail
      with_reducible refine (validLines_v A c L true _ h hL h1).mono ?_
      rintro e w1 ⟨rfl, hb1⟩
      have HB := Lib.hid hb1
      have HH := Lib.hid (h'.keep hb1)
      clear hb1
      go_wp2_with fail
      with_reducible refine (validSpans_v A' c' S L.length false _ HH.out hS (by omega) (by omega) h2).mono ?_
      rintro e w2 ⟨rfl, hb2⟩
      replace HB := Lib.hid (bkeep2 HB.out hb2)
      clear hb2
      go_wp2
      go_ret
      exact ⟨rfl, HB.out⟩
    · have h3 : rng room 0 400 = false := by simpa [h1, h2] using hv
      go_enter Try.func26, Try.ntmps26
      go_wp2_with fail
      with_reducible refine (validLines_v A c L true _ h hL h1).mono ?_
      rintro e w1 ⟨rfl, hb1⟩
      have HB := Lib.hid hb1
      have HH := Lib.hid (h'.keep hb1)
      clear hb1
      go_wp2_with fail
      with_reducible refine (validSpans_v A' c' S L.length true _ HH.out hS (by omega) (by omega) h2).mono ?_
      rintro e w2 ⟨rfl, hb2⟩
      replace HB := Lib.hid (bkeep2 HB.out hb2)
      clear hb2
      go_wp2_with fail
      with_reducible refine (within_w room 0 400 false _ h3).mono ?_
      rintro e w3 ⟨rfl, rfl⟩
      go_wp2
      go_ret
      exact ⟨rfl, HB.out⟩
theorem LineSizes_yes (A : Option Addr) (c : Nat) (L : List Ln) (A' : Option Addr) (c' : Nat) (S : List Sp) (room : Int) (w : World) (h : LnV w A L) (h' : SpV w A' S) (h1 : linesB L = true) (h2 : spansB L.length S = true) (h3 : rng room 0 400 = true) (hc : L.length ≤ c) :
    Calls Try.prog 26 #[.slice A L.length c, .slice A' S.length c', .int .i64 room] w fun e w' => (∃ g cap, e = .returned (.slice (some ⟨g, 0, none⟩) L.length cap) ∧ w.heap.size ≤ g ∧ cap = L.length ∧ IB w' g (sizedM L S room)) ∧ Below w.heap.size w w' := by
  obtain ⟨hl1, hl5⟩ := linesB_len h1
  obtain ⟨hs8, _⟩ := spansB_yes h2
  obtain ⟨hr0, hr1⟩ := rng_iff.1 h3
  go_enter Try.func26, Try.ntmps26
  go_wp2_with fail
  with_reducible refine (validLines_v A c L true _ h (by omega) h1).mono ?_
  rintro e w1 ⟨rfl, hb1⟩
  have HB := Lib.hid hb1
  clear hb1
  go_wp2_with fail
  with_reducible refine (validSpans_v A' c' S L.length true _ (h'.keep HB.out) (by omega) (by omega) (by omega) h2).mono ?_
  rintro e w2 ⟨rfl, hb2⟩
  replace HB := Lib.hid (bkeep2 HB.out hb2)
  clear hb2
  go_wp2_with fail
  with_reducible refine (within_w room 0 400 true _ h3).mono ?_
  rintro e w3 ⟨rfl, rfl⟩
  go_wp2_with fail
  with_reducible refine (lineSizes_v A c L A' c' S room _ (h.keep HB.out) h1 (h'.keep HB.out) h2 hr0 hr1).mono ?_
  rintro e w4 ⟨⟨g, rfl, hg, hi⟩, hb4⟩
  have HI := Lib.hid hi
  have hsz := HB.out.size
  replace HB := Lib.hid (bkeep2 HB.out hb4)
  clear hb4 hi
  go_wp2
  go_ret
  exact ⟨⟨g, _, rfl, Nat.le_trans hsz hg, rfl, HI.out⟩, HB.out⟩
theorem sLineSizes_no (A : Option Addr) (c : Nat) (L : List Ln) (A' : Option Addr) (c' : Nat) (S : List Sp) (room : Int) (w : World) (h : LnV w A L) (h' : SpV w A' S) (hL : L.length ≤ 1048576) (hS : S.length ≤ 1048576) (hv : (linesB L && spansB L.length S && rng room 0 400) = false) :
    Calls Try.prog 25 #[.slice A L.length c, .slice A' S.length c', .int .i64 room] w fun e w' => e = .returned (.slice none 0 0) ∧ Below w.heap.size w w' := by
  cases h1 : linesB L
  · go_enter Try.func25, Try.ntmps25
    go_wp2_with fail
    with_reducible refine (svalidLines_v A c L false _ h hL h1).mono ?_
    rintro e w1 ⟨rfl, hb1⟩
    have HB := Lib.hid hb1
    clear hb1
    go_wp2
    go_ret
    exact ⟨rfl, HB.out⟩
  · obtain ⟨hl1, hl5⟩ := linesB_len h1
    cases h2 : spansB L.length S
    · go_enter Try.func25, Try.ntmps25
      go_wp2_with fail
      with_reducible refine (svalidLines_v A c L true _ h hL h1).mono ?_
      rintro e w1 ⟨rfl, hb1⟩
      have HB := Lib.hid hb1
      have HH := Lib.hid (h'.keep hb1)
      clear hb1
      go_wp2_with fail
      with_reducible refine (svalidSpans_v A' c' S L.length false _ HH.out hS (by omega) (by omega) h2).mono ?_
      rintro e w2 ⟨rfl, hb2⟩
      replace HB := Lib.hid (bkeep2 HB.out hb2)
      clear hb2
      go_wp2
      go_ret
      exact ⟨rfl, HB.out⟩
    · have h3 : rng room 0 400 = false := by simpa [h1, h2] using hv
      go_enter Try.func25, Try.ntmps25
      go_wp2_with fail
      with_reducible refine (svalidLines_v A c L true _ h hL h1).mono ?_
      rintro e w1 ⟨rfl, hb1⟩
      have HB := Lib.hid hb1
      have HH := Lib.hid (h'.keep hb1)
      clear hb1
      go_wp2_with fail
      with_reducible refine (svalidSpans_v A' c' S L.length true _ HH.out hS (by omega) (by omega) h2).mono ?_
      rintro e w2 ⟨rfl, hb2⟩
      replace HB := Lib.hid (bkeep2 HB.out hb2)
      clear hb2
      go_wp2_with fail
      with_reducible refine (inRange_w room 0 400 false _ h3).mono ?_
      rintro e w3 ⟨rfl, rfl⟩
      go_wp2
      go_ret
      exact ⟨rfl, HB.out⟩
theorem sLineSizes_yes (A : Option Addr) (c : Nat) (L : List Ln) (A' : Option Addr) (c' : Nat) (S : List Sp) (room : Int) (w : World) (h : LnV w A L) (h' : SpV w A' S) (h1 : linesB L = true) (h2 : spansB L.length S = true) (h3 : rng room 0 400 = true) (hc : L.length ≤ c) :
    Calls Try.prog 25 #[.slice A L.length c, .slice A' S.length c', .int .i64 room] w fun e w' => (∃ g cap, e = .returned (.slice (some ⟨g, 0, none⟩) L.length cap) ∧ w.heap.size ≤ g ∧ OB w' g cap (sizedM L S room)) ∧ Below w.heap.size w w' := by
  obtain ⟨hl1, hl5⟩ := linesB_len h1
  obtain ⟨hs8, _⟩ := spansB_yes h2
  obtain ⟨hr0, hr1⟩ := rng_iff.1 h3
  go_enter Try.func25, Try.ntmps25
  go_wp2_with fail
  with_reducible refine (svalidLines_v A c L true _ h (by omega) h1).mono ?_
  rintro e w1 ⟨rfl, hb1⟩
  have HB := Lib.hid hb1
  clear hb1
  go_wp2_with fail
  with_reducible refine (svalidSpans_v A' c' S L.length true _ (h'.keep HB.out) (by omega) (by omega) (by omega) h2).mono ?_
  rintro e w2 ⟨rfl, hb2⟩
  replace HB := Lib.hid (bkeep2 HB.out hb2)
  clear hb2
  go_wp2_with fail
  with_reducible refine (inRange_w room 0 400 true _ h3).mono ?_
  rintro e w3 ⟨rfl, rfl⟩
  go_wp2_with fail
  with_reducible refine (wished_v A c L A' c' S _ (h.keep HB.out) h1 (h'.keep HB.out) h2 hc).mono ?_
  rintro e w4 ⟨⟨g, cap, rfl, hg, hi⟩, hb4⟩
  have HI := Lib.hid hi
  replace HB := Lib.hid (bkeep2 HB.out hb4)
  clear hb4 hi
  obtain ⟨hk1, hk2, hk3, hk4, hk5⟩ := wish_ok h1 h2
  have HK1 := Lib.hid hk1
  have HK2 := Lib.hid hk2
  have HK3 := Lib.hid hk3
  have HK45 := Lib.hid (And.intro hk4 hk5)
  have H1 := Lib.hid h1
  clear hk1 hk2 hk3 hk4 hk5
  go_wp2_with fail
  refine (sized_v _ _ L.length (wishM L S) _ _ L room _ HI.out.nv HK2.out.symm (h.keep HB.out) H1.out HK1.out HK3.out HK45.out.1 HK45.out.2 hr0 hr1).mono ?_
  rintro e w5 ⟨⟨g', cap', rfl, hg', hi5⟩, hb5⟩
  have HI5 := Lib.hid hi5
  have hsz := HB.out.size
  replace HB := Lib.hid (bkeep2 HB.out hb5)
  clear hb5 hi5
  go_wp2
  go_ret
  exact ⟨⟨g', cap', rfl, Nat.le_trans hsz hg', HI5.out⟩, HB.out⟩
end Go.Proofs.Ytnkoeekgdehhiac
end
