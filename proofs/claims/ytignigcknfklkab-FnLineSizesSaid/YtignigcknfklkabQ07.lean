import Derived.Test.YtignigcknfklkabQ06
section
namespace Go.Proofs.Ytignigcknfklkab
open Go.RowKit
set_option linter.unusedVariables false
set_option maxHeartbeats 1000000
attribute [local go_sem 5000] run_mx run_mn
attribute [local go_sem] growUpon_value growUpon_skip growUpon_enter
theorem OB.but {w w' : World} {g h cap : Nat} {L : List Int} (hi : OB w h cap L) (hg : w.grownBy w' (some g)) (hne : h ≠ g) : OB w' h cap L := by
  obtain ⟨hl, cs, hh, hs, hc⟩ := hi
  exact ⟨hl, cs, (hg.block h (ltS hh) (fun e => hne (Option.some.inj e))).trans hh, hs, hc⟩
theorem below_own0 {n : Nat} {a W w5 : World} {v : Value} {lo hi : Nat} (h' : Below n a W) (hg : W.grownBy w5 v.ownBlock) (hob : ∀ k, v.ownBlock = some k → lo ≤ k ∧ k < hi) (hlo : n ≤ lo) (hn : n ≤ a.heap.size) : Below n a w5 :=
  ⟨hg.os.trans h'.os, hg.tape.trans h'.tape, hg.output.trans h'.output, Nat.le_trans h'.size hg.size, fun k hk => (hg.block k (Nat.lt_of_lt_of_le (Nat.lt_of_lt_of_le hk hn) h'.size) (fun e => by have := hob k e.symm; omega)).trans (h'.block k hk)⟩
theorem mixM_skip {B : List Int} {k : Nat} (h : B[k]? = some 0) : mixM B (k + 1) = mixM B k := by
  obtain ⟨hk, e⟩ := List.getElem?_eq_some_iff.1 h
  unfold mixM
  rw [List.take_succ_eq_append_getElem hk, e, show B.length - k = (B.length - (k + 1)) + 1 from by omega, List.replicate_succ, List.append_assoc]
  rfl
set_option maxRecDepth 100000 in
theorem sshrunk_v (A : Option Addr) (c no : Nat) (O : List Int) (A' : Option Addr) (c' : Nat) (L : List Ln) (n : Int) (w : World) (h : NV w A O) (hno : no = O.length) (h' : LnV w A' L) (hL : linesB L = true) (hS : SOK L O) (hn : n ≤ 100000) (hn0 : 0 ≤ n) :
    Calls Try.prog 67 #[.slice A' L.length c', .slice A no c, .int .i64 n] w fun e w' => (∃ g cap, e = .returned (.slice (some ⟨g, 0, none⟩) no cap) ∧ w.heap.size ≤ g ∧ OB w' g cap (shrZ L n O)) ∧ Below w.heap.size w w' := by
  obtain ⟨hl1, hl5⟩ := linesB_len hL
  have hol := hS.len
  have hno5 : no ≤ 5 := by omega
  have hno1 : 1 ≤ no := by omega
  obtain ⟨ti, tz, ti1, ti2, ti3, ti4, ti5⟩ := int_infoW
  have hmk : ∀ w : World, (Instr.makeSlice 27 (.int .i64 (L.length : Int)) (.int .i64 (L.length : Int))).run Try.prog w = .ok (.slice (some ⟨w.heap.size, 0, none⟩) L.length L.length) (w.alloc (.cells (ivals (List.replicate L.length 0)) 3)) := fun w => madeI L.length w (by omega)
  obtain ⟨b, off, rfl, hb, hp⟩ := h.cells (by omega)
  have hB0 : Below w.heap.size w (w.alloc (.cells #[] 3 (0, 0))) := balloc (Below.refl _ _)
  have hsrc : ∀ j v, (nvalsW O)[j]? = some v → (w.alloc (.cells #[] 3 (0, 0))).cell? ((⟨b, off, none⟩ : Addr).add j) = some v := fun j v hj => by
    unfold nvalsW at hj
    rw [List.getElem?_map] at hj
    cases ho : O[j]? with
    | none => rw [ho] at hj; cases hj
    | some x =>
      rw [ho] at hj
      obtain rfl := Option.some.inj hj
      rw [add_none]
      exact (hB0.cell (p := ⟨b, off + j, none⟩) hb).trans (hp j x ho)
  have ho0 : (w.alloc (.cells #[] 3 (0, 0))).ownsRow w.heap.size 3 1 (.slice (some ⟨w.heap.size, 0, none⟩) 0 0) 0 (nvalsW []) := World.ownsRow_lit (base := w.heap.size) (e := 3) (size := 1) w #[] 0 (Nat.le_refl _) (by decide) rfl
  have hob := ho0.lt
  have HO := Lib.hid ho0
  have HSRC := Lib.hid hsrc
  have HB0 := Lib.hid hB0
  have HL := Lib.hid hL
  have HS := Lib.hid hS
  have HNO := Lib.hid hno
  have HNL := Lib.hid (show no = L.length by omega)
  have HMK := Lib.hid hmk
  have h1c : ∀ v ∈ nvalsW O, v.oneCell' = true := by simp [nvalsW, Value.oneCell']
  have hnl : (nvalsW O).length = no := by simp [nvalsW, hno]
  have HNV := Lib.hid hnl
  clear hsrc hB0 hp hL hS hol hno ho0 hmk hnl
  go_enter Try.func67, Try.ntmps67
  go_wp2_with (at_builtin; refine wpList_append_own _ rfl _ _ 27 rfl w.heap.size 3 ti tz 1 8 Try.underlying27 ti1 ti2 ti3 ti4 ti5 (by decide) _ _ _ rfl HO.out ⟨b, off, none⟩ no c (nvalsW O) rfl (by rw [HNV.out, Nat.mul_one]) HSRC.out h1c (by simp only [maxLen]; omega) (by omega) (by simp) ?_)
  intro v5 w5 how5 hgr5 _
  have hnv0 : nvalsW [] ++ nvalsW O = nvalsW O := by simp [nvalsW]
  simp only [hnv0, Nat.zero_add] at how5
  have HB5 := Lib.hid (below_own0 HB0.out hgr5 hob (Nat.le_refl _) (Nat.le_refl _))
  rcases own_inW how5 HNO.out with ⟨rfl, hM⟩ | ⟨g, cap, rfl, hbg, hO⟩
  · have : O.length = 0 := by rw [hM]; rfl
    have := HNO.out
    omega
  have HO5 := Lib.hid hO
  clear how5 hgr5 hnv0 HO HSRC HB0 hob hO h1c
  go_wp2_with fail
  go_loopw [2] (fun nv wr => ∃ (n' : Int) (O' : List Int), nv = .int .i64 n' ∧ 0 ≤ n' ∧ n' ≤ 100000 ∧ SOK L O' ∧ OB wr g cap O' ∧ shrZ L n' O' = shrZ L n O ∧ Below w.heap.size w wr) (fun nv _ => (intOf nv).toNat)
  case atStart => exact ⟨n, O, rfl, hn0, hn, HS.out, HO5.out, rfl, HB5.out⟩
  case round =>
    obtain ⟨n', O', rfl, hn0', hn', hS, hI, hR, hBr⟩ := hrel
    clear HO5 HB5 HS
    have HI := Lib.hid hI
    have HB := Lib.hid hBr
    have HS := Lib.hid hS
    have HR := Lib.hid hR
    have hol := hS.len
    clear hI hBr hS hR
    by_cases hpos : 0 < n'
    · have hd : decide (n' > 0) = true := by simpa using hpos
      have hmk := HMK.out
      go_wp2_with fail
      have hIg := HI.out.lt
      have hBa : Below wr.heap.size wr (wr.alloc (.cells (ivals (List.replicate L.length 0)) 3)) := balloc (Below.refl _ _)
      have HI1 := Lib.hid (HI.out.keep hBa)
      have HB1 := Lib.hid (bkeep2 HB.out hBa)
      have hW1 : IB (wr.alloc (.cells (ivals (List.replicate L.length 0)) 3)) wr.heap.size (mixM (wtZ L O') 0) := by rw [mixM_zero, wtZ_len HS.out.len]; exact makeI_b _ _
      have HW1 := Lib.hid hW1
      have hwl := wtZ_len HS.out.len
      have HWL := Lib.hid hwl.symm
      have hwg : w.heap.size ≤ wr.heap.size := HB.out.size
      clear hBa hW1 hmk hwl HI HB
      generalize wr.heap.size = gw at *
      go_loopw [9] (fun i wr => ∃ k : Nat, k ≤ L.length ∧ i = .int .i64 k ∧ OB wr g cap O' ∧ IB wr gw (mixM (wtZ L O') k) ∧ Below w.heap.size w wr) (fun i _ => L.length - (intOf i).toNat)
      case atStart => exact ⟨0, by omega, rfl, HI1.out, HW1.out, HB1.out⟩
      case round =>
        obtain ⟨k, hk, rfl, hI, hWr, hBr⟩ := hrel
        clear HI1 HW1 HB1
        by_cases hlt : k < L.length
        · have hd2 : decide ((k : Int) < (L.length : Int)) = true := by simpa using hlt
          obtain ⟨b', off', rfl, hb', hp⟩ := (h'.keep hBr).cells (by omega)
          have hget : L[k]? = some L[k] := List.getElem?_eq_getElem hlt
          obtain ⟨c0, c1⟩ := hp k _ hget
          have hko : k < O'.length := by omega
          have hgo : O'[k]? = some O'[k] := List.getElem?_eq_getElem hko
          have hwz := wtZ_get hget hgo
          have hlo := SOK.each HL.out HS.out hget hgo
          generalize L[k] = l at *
          generalize O'[k] = o at *
          have p0 := hI.cell hgo
          have hkn : (k : Int) < (no : Int) := by have := HNL.out; omega
          have hs1 := hI.lt
          obtain ⟨y, hy⟩ := mixM_get (B := wtZ L O') (k := k) (by rw [← HWL.out]; exact hlt)
          have HI := Lib.hid hI
          have HW := Lib.hid hWr
          have HB := Lib.hid hBr
          have HY := Lib.hid hy
          have HGO := Lib.hid hgo
          clear hI hWr hBr hp hget hgo hy
          by_cases e : l.mi < o
          · have hz : decide (o > l.mi) = true := by simpa using e
            rw [if_pos e] at hwz
            have HWZ := Lib.hid hwz
            clear hwz
            go_wp2_with fail
            refine wp_region_grow 10 0 (· < 10) (by kernel_rfl) (by kernel_rfl) rfl ?_
            iterate 10 (refine wpG_step (fun K hK => ?_); first | (refine grow_skip rfl ?_; go_simp; refine hK _ ?_; clear hK K) | (apply Exists.intro; refine ⟨.inl ⟨rfl, fun w' hw' => ?_⟩, ?_⟩; (focus ((obtain ⟨hc, hf⟩ := bcell hw'.out); (have hcS := bcellS hw'.out); go_simp <;> first | rfl | fail)); (go_simp; refine hK _ ?_; clear hK K)))
            refine wpG_nil ?_
            refine wpK_tail (by kernel_rfl) (fun w5 hg5 => ?_)
            have hb5 := bdrewn hg5.out
            refine wpAny_end (by kernel_rfl) ?_
            refine NoPan.thn ?_
            clear hg5
            have HW5 := HW.out.keep hb5
            have d0 := HW5.cell HY.out
            have f0 := HW5.frozen k
            have HW6 := HW5.set k l.wt
            rw [mixM_set HWZ.out] at HW6
            have HW6 := Lib.hid HW6
            have HI6 := Lib.hid ((HI.out.keep hb5).but (gsetI (greflI _ gw) k (.int .i64 l.wt)) (by omega))
            have HB6 := Lib.hid ((bkeep2 HB.out hb5).setCell (p := ⟨gw, k, none⟩) (by show w.heap.size ≤ gw; omega) (.int .i64 l.wt))
            have e0 := (hb5.cell (p := ⟨b', off' + k * 2, none⟩) hb').trans c0
            have hb6 := Nat.lt_of_lt_of_le hb' hb5.size
            clear HW5 hb5 HW HI HB c0 c1 p0
            go_wp2
            go_roundw
            case rel => exact ⟨k + 1, by omega, by go_num, HI6.out, HW6.out, HB6.out⟩
            case measure => simp [intOf]; omega
          · have hz : decide (o > l.mi) = false := by simpa using e
            rw [if_neg e] at hwz
            have HWZ := Lib.hid hwz
            clear hwz
            go_wp2_with fail
            refine wp_region_grow 10 0 (· < 10) (by kernel_rfl) (by kernel_rfl) rfl ?_
            iterate 10 (refine wpG_step (fun K hK => ?_); first | (refine grow_skip rfl ?_; go_simp; refine hK _ ?_; clear hK K) | (apply Exists.intro; refine ⟨.inl ⟨rfl, fun w' hw' => ?_⟩, ?_⟩; (focus ((obtain ⟨hc, hf⟩ := bcell hw'.out); (have hcS := bcellS hw'.out); go_simp <;> first | rfl | fail)); (go_simp; refine hK _ ?_; clear hK K)))
            refine wpG_nil ?_
            refine wpK_tail (by kernel_rfl) (fun w5 hg5 => ?_)
            have hb5 := bdrewn hg5.out
            refine wpAny_end (by kernel_rfl) ?_
            refine NoPan.thn ?_
            clear hg5
            have HW6 := HW.out.keep hb5
            rw [← mixM_skip HWZ.out] at HW6
            have HW6 := Lib.hid HW6
            have HI6 := Lib.hid (HI.out.keep hb5)
            have HB6 := Lib.hid (bkeep2 HB.out hb5)
            clear hb5 HW HI HB
            go_wp2
            go_roundw
            case rel => exact ⟨k + 1, by omega, by go_num, HI6.out, HW6.out, HB6.out⟩
            case measure => simp [intOf]; omega
        · have hd2 : decide ((k : Int) < (L.length : Int)) = false := decide_eq_false (by omega)
          obtain rfl : k = L.length := by omega
          have hwl := HWL.out
          rw [hwl, mixM_all] at hWr
          have HI := Lib.hid hI
          have HW := Lib.hid hWr
          have HB := Lib.hid hBr
          have HOK := Lib.hid (wtZ_ok HL.out HS.out)
          clear hI hWr hBr hwl
          go_wp2_with fail
          with_reducible refine (total_n _ _ L.length (wtZ L O') _ HW.out.nv HWL.out (by omega) HOK.out.smal).mono ?_
          rintro e w5 ⟨rfl, rfl⟩
          by_cases hs : sumI (wtZ L O') = 0
          · have hz : (sumI (wtZ L O') == 0) = true := by simpa using hs
            have HE := Lib.hid (shr_end (L := L) (n := n') (.inr hs))
            clear hs
            go_wp2
            go_ret
            exact ⟨⟨g, cap, rfl, hbg, by rw [← HR.out, HE.out]; exact HI.out⟩, HB.out⟩
          · have hz : (sumI (wtZ L O') == 0) = false := by simpa using hs
            have HGO := Lib.hid (shr_go HL.out HS.out hpos hs)
            have HRK := Lib.hid (round_ok HL.out HS.out hpos hs)
            clear hs
            go_wp2_with fail
            with_reducible refine (sspread_n _ _ L.length n' (wtZ L O') _ HW.out.nv HWL.out HOK.out hn0' hn').mono ?_
            rintro e w5 ⟨rfl, hp5, hb5⟩
            have HI5 := Lib.hid (HI.out.keep hb5)
            have HB5 := Lib.hid (bkeep2 HB.out hb5)
            have HP := Lib.hid hp5
            have hgp : g < wr.heap.size := HI.out.lt
            have HPB := Lib.hid (spread_pos (n := n') hn0' HOK.out)
            have hpl : (spreadM n' (wtZ L O')).length = L.length := by rw [spreadM_len]; exact HWL.out.symm
            have HPL := Lib.hid hpl
            clear hp5 hb5 hpl HI HW HB
            generalize wr.heap.size = gp at *
            generalize spreadM n' (wtZ L O') = P at *
            go_wp2_with fail
            go_loopw [2, 11] (fun nv i wr => ∃ k : Nat, k ≤ L.length ∧ i = .int .i64 k ∧ nv = .int .i64 (n' - tknZ L O' (P.take k)) ∧ OB wr g cap (takZ L O' (P.take k)) ∧ w5.grownBy wr (some g)) (fun _ i _ => L.length - (intOf i).toNat)
            case atStart => exact ⟨0, by omega, rfl, by rw [List.take_zero, tknZ_nil, Int.sub_zero], by rw [List.take_zero, takZ_nil]; exact HI5.out, greflI _ _⟩
            case round =>
              obtain ⟨k, hk, rfl, rfl, hI, hgr⟩ := hrel
              clear HI5
              by_cases hlt : k < L.length
              · have hd2 : decide ((k : Int) < (L.length : Int)) = true := by simpa using hlt
                have hBr := below_grown HB5.out hgr hbg HB5.out.size
                obtain ⟨b', off', rfl, hb', hq⟩ := (h'.keep hBr).cells (by omega)
                have hget : L[k]? = some L[k] := List.getElem?_eq_getElem hlt
                obtain ⟨c0, c1⟩ := hq k _ hget
                have hko : k < O'.length := by omega
                have hgo : O'[k]? = some O'[k] := List.getElem?_eq_getElem hko
                have hkp : k < P.length := by have := HPL.out; omega
                have hgq : P[k]? = some P[k] := List.getElem?_eq_getElem hkp
                have hlo := SOK.each HL.out HS.out hget hgo
                have hpb := HPB.out _ (List.getElem_mem hkp)
                have hpt : ∀ x ∈ P.take k, (0 : Int) ≤ x ∧ x ≤ 100000 := fun x hx => by have := HPB.out x (List.mem_of_mem_take hx); omega
                have htb := tkn_bd (P := P.take k) HS.out (fun x hx => (hpt x hx).1)
                have hsb := sumI_bd hpt
                have hlt5 : (P.take k).length ≤ 5 := by rw [List.length_take]; omega
                have hts := takZ_snoc hget hgo hgq
                have htk := tknZ_snoc hget hgo hgq
                have hx0 : (takZ L O' (P.take k))[k]? = some O'[k] := takZ_get hgo (by rw [List.length_take]; omega)
                generalize L[k] = l at *
                generalize O'[k] = o at *
                generalize P[k] = p at *
                obtain ⟨hlo1, hlo2, hlo3, hlo4⟩ := hlo
                obtain ⟨hp0, hp1⟩ := hpb
                have q0 := (HP.out.but hgr (by omega)).cell hgq
                have d0 := hI.cell hx0
                have hs1 := hI.lt
                have hs2 := (HP.out.but hgr (by omega)).lt
                have hkn : (k : Int) < (no : Int) := by have := HNL.out; omega
                have hwr : IntKind.i64.wrap (o - l.mi) = o - l.mi := IntWalk.i64_in _ (by omega)
                have hmn := mn_spec p (o - l.mi)
                have HX0 := Lib.hid hx0
                have HI := Lib.hid hI
                have HG := Lib.hid hgr
                have HTS := Lib.hid hts
                have HTK := Lib.hid htk
                have HMN := Lib.hid hmn
                have ht00 : 0 ≤ tknZ L O' (P.take k) := htb.1
                have ht01 : tknZ L O' (P.take k) ≤ 500000 := by omega
                generalize tknZ L O' (P.take k) = t0 at *
                clear hI hgr hBr hts htk hmn hx0 hget hgo hgq hq htb hsb hpt hlt5
                go_wp2_with fail
                refine wp_region_grow 15 1 (· < 15) (by kernel_rfl) (by kernel_rfl) rfl ?_
                iterate 15 (refine wpG_step (fun K hK => ?_); first | (refine grow_skip rfl ?_; go_simp; refine hK _ ?_; clear hK K) | (apply Exists.intro; refine ⟨.inl ⟨rfl, fun w' hw' => ?_⟩, ?_⟩; (focus ((obtain ⟨hc, hf⟩ := bcell hw'.out); (have hcS := bcellS hw'.out); go_simp <;> first | rfl | fail)); (go_simp; refine hK _ ?_; clear hK K)))
                refine wpG_nil ?_
                refine wpK_tail (by kernel_rfl) (fun w7 hg7 => ?_)
                have hb7 := bdrewn hg7.out
                obtain ⟨hc7, hf7⟩ := bcell hb7
                refine wpAny_one (i := 15) (by kernel_rfl) rfl rfl ?_
                go_simp
                refine wpAny_end (by kernel_rfl) ?_
                refine NoPan.thn ?_
                clear hc7 hf7
                clear hg7
                obtain ⟨t, ht⟩ : ∃ t, mn p (o - l.mi) = t := ⟨_, rfl⟩
                have hmn := HMN.out
                have HTS2 := HTS.out
                have HTK2 := HTK.out
                rw [ht] at hmn HTS2 HTK2
                rw [ht]
                have HI7 := HI.out.keep hb7
                have d7 := HI7.cell HX0.out
                have f7 := HI7.frozen k
                have HI8 := HI7.set k (o - t) (by rw [takZ_len]; exact hko)
                rw [HTS2] at HI8
                have HI8 := Lib.hid HI8
                have HG8 := Lib.hid (gsetI (grown_below HG.out hb7) k (.int .i64 (o - t)))
                have HTK2 := Lib.hid HTK2
                have ht0 : 0 ≤ t := by omega
                have ht1 : t ≤ p := hmn.1
                clear HI7 HTS2 hb7 hmn ht HMN HTS HTK HI HG
                go_wp2
                go_roundw
                case rel => exact ⟨k + 1, by omega, by go_num, by rw [HTK2.out]; go_num, HI8.out, HG8.out⟩
                case measure => simp [intOf]; omega
              · have hd2 : decide ((k : Int) < (L.length : Int)) = false := decide_eq_false (by omega)
                have hke : P.take k = P := List.take_of_length_le (by have := HPL.out; omega)
                rw [hke] at hI ⊢
                obtain ⟨hr1, hr2, hr3, hr4⟩ := HRK.out
                have HI6 := Lib.hid hI
                have HB6 := Lib.hid (below_grown HB5.out hgr hbg HB5.out.size)
                have HS6 := Lib.hid hr4
                clear hI hgr hke hr1 hr4
                go_wp2
                go_roundw
                case rel => exact ⟨_, _, rfl, by omega, by omega, HS6.out, HI6.out, by rw [← HGO.out]; exact HR.out, HB6.out⟩
                case measure => simp [intOf]; omega
    · have hd : decide (n' > 0) = false := by simpa using hpos
      have HE := Lib.hid (shr_end (L := L) (O := O') (n := n') (.inl (by omega)))
      go_wp2
      go_ret
      exact ⟨⟨g, cap, rfl, hbg, by rw [← HR.out, HE.out]; exact HI.out⟩, HB.out⟩
end Go.Proofs.Ytignigcknfklkab
end
section
namespace Go.Proofs.Ytignigcknfklkab
open Go.RowKit
set_option linter.unusedVariables false
set_option maxHeartbeats 1000000
attribute [local go_sem 5000] run_mx run_mn
attribute [local go_sem] growUpon_value growUpon_skip growUpon_enter
def sizedO (L : List Ln) (O : List Int) (room : Int) : List Int :=
  if room - sumI O < 0 then shrZ L (-(room - sumI O)) O
  else if sumI (L.map Ln.wt) = 0 then O
  else addAt O 0 (spreadM (room - sumI O) (L.map Ln.wt))
set_option maxRecDepth 100000 in
theorem sized_v (B : Option Addr) (c no : Nat) (O : List Int) (A' : Option Addr) (c' : Nat) (L : List Ln) (room : Int) (w : World) (h : NV w B O) (hno : no = O.length) (h' : LnV w A' L) (hL : linesB L = true) (hS : SOK L O) (hO : ∀ x ∈ O, 0 ≤ x ∧ x ≤ 1000000) (hs0 : 0 ≤ sumI O) (hs1 : sumI O ≤ 2150) (hr0 : 0 ≤ room) (hr1 : room ≤ 400) :
    Calls Try.prog 39 #[.slice A' L.length c', .slice B no c, .int .i64 room] w fun e w' => (∃ g cap, e = .returned (.slice (some ⟨g, 0, none⟩) no cap) ∧ w.heap.size ≤ g ∧ OB w' g cap (sizedO L O room)) ∧ Below w.heap.size w w' := by
  obtain ⟨hl1, hl5⟩ := linesB_len hL
  have hol := hS.len
  have hno5 : no ≤ 5 := by omega
  have hno1 : 1 ≤ no := by omega
  have hww := (min_bd hL).2
  have hws := hww.sum
  have HSM := Lib.hid (smal_of (L := O) (b := 1000000) (M := 1000000000) (fun x hx => by have := hO x hx; omega) (by omega) (by omega))
  have HWW := Lib.hid hww
  have HO := Lib.hid hO
  have HL := Lib.hid hL
  have HS := Lib.hid hS
  have HNO := Lib.hid hno
  have HNL := Lib.hid (show no = L.length by omega)
  obtain ⟨ti, tz, ti1, ti2, ti3, ti4, ti5⟩ := int_infoW
  obtain ⟨b, off, rfl, hb, hp⟩ := h.cells (by omega)
  have HPP := Lib.hid hp
  clear hww hO hL hS hol hno hp
  go_enter Try.func39, Try.ntmps39
  go_wp2_with fail
  with_reducible refine (total_n _ _ no O _ h HNO.out (by omega) HSM.out).mono ?_
  rintro e w3 ⟨rfl, rfl⟩
  obtain ⟨q, hq⟩ : ∃ q, sumI O = q := ⟨_, rfl⟩
  rw [hq] at hs0 hs1
  rw [hq]
  have HQ := Lib.hid hq
  clear hq
  by_cases hneg : room - q < 0
  · have hd : decide (room - q < 0) = true := by simpa using hneg
    have he : sizedO L O room = shrZ L (-(room - q)) O := by unfold sizedO; rw [HQ.out, if_pos hneg]
    have HE := Lib.hid he
    clear he
    go_wp2_with fail
    refine (sshrunk_v _ _ no O _ _ L _ _ h HNO.out h' HL.out HS.out (by omega) (by omega)).mono ?_
    rintro e w5 ⟨⟨g, cap, rfl, hg, hi5⟩, hb5⟩
    have HB5 := Lib.hid hb5
    first | rw [← HE.out] at hi5 | (rw [show q - room = -(room - q) from by omega, ← HE.out] at hi5) | (rw [show 0 - (room - q) = -(room - q) from by omega, ← HE.out] at hi5)
    have HI5 := Lib.hid hi5
    clear hi5 hb5
    go_wp2
    go_ret
    exact ⟨⟨g, cap, rfl, hg, HI5.out⟩, HB5.out⟩
  · have hd : decide (room - q < 0) = false := by simpa using hneg
    have hB0 : Below w.heap.size w (w.alloc (.cells #[] 3 (0, 0))) := balloc (Below.refl _ _)
    have hsrc : ∀ j v, (nvalsW O)[j]? = some v → (w.alloc (.cells #[] 3 (0, 0))).cell? ((⟨b, off, none⟩ : Addr).add j) = some v := fun j v hj => by
      unfold nvalsW at hj
      rw [List.getElem?_map] at hj
      cases ho : O[j]? with
      | none => rw [ho] at hj; cases hj
      | some x =>
        rw [ho] at hj
        obtain rfl := Option.some.inj hj
        rw [add_none]
        exact (hB0.cell (p := ⟨b, off + j, none⟩) hb).trans (HPP.out j x ho)
    have ho0 : (w.alloc (.cells #[] 3 (0, 0))).ownsRow w.heap.size 3 1 (.slice (some ⟨w.heap.size, 0, none⟩) 0 0) 0 (nvalsW []) := World.ownsRow_lit (base := w.heap.size) (e := 3) (size := 1) w #[] 0 (Nat.le_refl _) (by decide) rfl
    have hob := ho0.lt
    have HO0 := Lib.hid ho0
    have HSRC := Lib.hid hsrc
    have HB0 := Lib.hid hB0
    have h1c : ∀ v ∈ nvalsW O, v.oneCell' = true := by simp [nvalsW, Value.oneCell']
    have hnl : (nvalsW O).length = no := by simp [nvalsW, HNO.out]
    have HNV := Lib.hid hnl
    clear hsrc hB0 ho0 hnl
    go_wp2_with (at_builtin; refine wpList_append_own _ rfl _ _ 27 rfl w.heap.size 3 ti tz 1 8 Try.underlying27 ti1 ti2 ti3 ti4 ti5 (by decide) _ _ _ rfl HO0.out ⟨b, off, none⟩ no c (nvalsW O) rfl (by rw [HNV.out, Nat.mul_one]) HSRC.out h1c (by simp only [maxLen]; omega) (by omega) (by simp) ?_)
    intro v5 w5 how5 hgr5 _
    have hnv0 : nvalsW [] ++ nvalsW O = nvalsW O := by simp [nvalsW]
    simp only [hnv0, Nat.zero_add] at how5
    have HB5 := Lib.hid (below_own0 HB0.out hgr5 hob (Nat.le_refl _) (Nat.le_refl _))
    rcases own_inW how5 HNO.out with ⟨rfl, hM⟩ | ⟨g, cap, rfl, hbg, hOB⟩
    · have : O.length = 0 := by rw [hM]; rfl
      have := HNO.out
      omega
    have HI := Lib.hid hOB
    clear how5 hgr5 hnv0 HO0 HSRC HB0 hob hOB h1c
    have HLV := Lib.hid (h'.keep HB5.out)
    go_wp2_with fail
    refine (weightsOf_v _ _ L.length L _ HLV.out rfl (by omega)).mono ?_
    rintro e w6 ⟨⟨A2, c2, rfl, hn6⟩, hb6⟩
    have HN6 := Lib.hid hn6
    replace HI := Lib.hid (HI.out.keep hb6)
    replace HB5 := Lib.hid (bkeep2 HB5.out hb6)
    clear hn6 hb6 HLV
    go_wp2_with fail
    with_reducible refine (total_n _ _ L.length (L.map Ln.wt) _ HN6.out (by simp) (by omega) HWW.out.smal).mono ?_
    rintro e w7 ⟨rfl, rfl⟩
    by_cases hz0 : sumI (L.map Ln.wt) = 0
    · have hz : (sumI (L.map Ln.wt) == 0) = true := by simpa using hz0
      have he : sizedO L O room = O := by unfold sizedO; rw [HQ.out, if_neg (by omega), if_pos hz0]
      have HE := Lib.hid he
      clear he hz0
      go_wp2
      go_ret
      exact ⟨⟨g, cap, rfl, hbg, by rw [HE.out]; exact HI.out⟩, HB5.out⟩
    · have hz : (sumI (L.map Ln.wt) == 0) = false := by simpa using hz0
      have he : sizedO L O room = addAt O 0 (spreadM (room - q) (L.map Ln.wt)) := by unfold sizedO; rw [HQ.out, if_neg (by omega), if_neg hz0]
      have HE := Lib.hid he
      have HLV := Lib.hid (h'.keep HB5.out)
      clear he hz0
      go_wp2_with fail
      refine (weightsOf_v _ _ L.length L _ HLV.out rfl (by omega)).mono ?_
      rintro e w8 ⟨⟨A3, c3, rfl, hn8⟩, hb8⟩
      have HN8 := Lib.hid hn8
      replace HI := Lib.hid (HI.out.keep hb8)
      replace HB5 := Lib.hid (bkeep2 HB5.out hb8)
      clear hn8 hb8 HLV HN6
      go_wp2_with fail
      refine (sspread_n _ _ L.length (room - q) (L.map Ln.wt) _ HN8.out (by simp) HWW.out (by omega) (by omega)).mono ?_
      rintro e w9 ⟨rfl, hp9, hb9⟩
      have hgp := HI.out.lt
      have HP := Lib.hid hp9
      replace HI := Lib.hid (HI.out.keep hb9)
      replace HB5 := Lib.hid (bkeep2 HB5.out hb9)
      have HPB := Lib.hid (spread_pos (n := room - q) (by omega) HWW.out)
      have HPL := Lib.hid (show (spreadM (room - q) (L.map Ln.wt)).length = no by rw [spreadM_len, List.length_map, HNL.out])
      clear hp9 hb9 HN8
      generalize w8.heap.size = gp at *
      generalize spreadM (room - q) (L.map Ln.wt) = P at *
      go_wp2_with fail
      go_loopw [10] (fun i wr => ∃ k : Nat, k ≤ no ∧ i = .int .i64 k ∧ OB wr g cap (addAt O 0 (P.take k)) ∧ w9.grownBy wr (some g)) (fun i _ => no - (intOf i).toNat)
      case atStart => exact ⟨0, by omega, rfl, by rw [List.take_zero, addAt_nil]; exact HI.out, greflI _ _⟩
      case round =>
        obtain ⟨k, hk, rfl, hI, hgr⟩ := hrel
        clear HI
        by_cases hlt : k < no
        · have hd2 : decide ((k : Int) < (no : Int)) = true := by simpa using hlt
          have hkp : k < P.length := by have := HPL.out; omega
          have hgq : P[k]? = some P[k] := List.getElem?_eq_getElem hkp
          have hko : 0 + k < O.length := by have := HNO.out; omega
          have hgo : O[0 + k]? = some O[0 + k] := List.getElem?_eq_getElem hko
          have hpb := HPB.out _ (List.getElem_mem hkp)
          have hob := HO.out _ (List.getElem_mem hko)
          generalize P[k] = p at *
          generalize O[0 + k] = o at *
          obtain ⟨hp0, hp1⟩ := hpb
          obtain ⟨ho0, ho1⟩ := hob
          have hx0 := addAt_get hgo (P := P.take k) (by rw [List.length_take]; omega)
          have has := addAt_snoc hgo hgq
          rw [Nat.zero_add] at hx0 has
          have q0 := (HP.out.but hgr (by omega)).cell hgq
          have d0 := hI.cell hx0
          have hs2 := hI.lt
          have hs3 := (HP.out.but hgr (by omega)).lt
          have hkl : (k : Int) < (L.length : Int) := by have := HNL.out; omega
          have hwr3 : IntKind.i64.wrap (o + p) = o + p := IntWalk.i64_in _ (by omega)
          have hal3 : k < (addAt O 0 (P.take k)).length := by rw [addAt_len]; omega
          have HX0 := Lib.hid hx0
          have HI6 := Lib.hid hI
          have HG6 := Lib.hid hgr
          have HAS := Lib.hid has
          clear hI hgr hgq hgo hx0 has
          go_wp2_with fail
          refine wp_region_grow 12 1 (· < 12) (by kernel_rfl) (by kernel_rfl) rfl ?_
          iterate 12 (refine wpG_step (fun K hK => ?_); first | (refine grow_skip rfl ?_; go_simp; refine hK _ ?_; clear hK K) | (apply Exists.intro; refine ⟨.inl ⟨rfl, fun w' hw' => ?_⟩, ?_⟩; (focus ((obtain ⟨hc, hf⟩ := bcell hw'.out); (have hcS := bcellS hw'.out); go_simp <;> rfl)); (go_simp; refine hK _ ?_; clear hK K)))
          refine wpG_nil ?_
          refine wpK_tail (by kernel_rfl) (fun w7 hg7 => ?_)
          have hb7 := bdrewn hg7.out
          have HI7 := HI6.out.keep hb7
          have d7 := HI7.cell HX0.out
          have f7 := HI7.frozen k
          have HI8 := HI7.set k (o + p) hal3
          rw [HAS.out] at HI8
          have HI8 := Lib.hid HI8
          have HG8 := Lib.hid (gsetI (grown_below HG6.out hb7) k (.int .i64 (o + p)))
          clear HI7
          refine wpAny_one (i := 12) (by kernel_rfl) rfl rfl ?_
          go_simp
          refine wpAny_end (by kernel_rfl) ?_
          refine nopan_normal9 ?_
          clear hb7 hg7
          go_wp2
          go_roundw
          case rel => exact ⟨k + 1, by omega, by go_num, HI8.out, HG8.out⟩
          case measure => simp [intOf]; omega
        · have hd2 : decide ((k : Int) < (no : Int)) = false := decide_eq_false (by omega)
          have hke : P.take k = P := List.take_of_length_le (by have := HPL.out; omega)
          rw [hke, ← HE.out] at hI
          have HI6 := Lib.hid hI
          have HB6 := Lib.hid (below_grown HB5.out hgr hbg HB5.out.size)
          clear hI hgr hke
          go_wp2
          go_ret
          exact ⟨⟨g, cap, rfl, hbg, HI6.out⟩, HB6.out⟩
end Go.Proofs.Ytignigcknfklkab
end
section
namespace Go.Proofs.Ytignigcknfklkab
open Go.RowKit
set_option linter.unusedVariables false
set_option maxHeartbeats 1000000
theorem shrZ_len (L : List Ln) : ∀ (f : Nat) (n : Int) (O : List Int), n.toNat ≤ f → (shrZ L n O).length = O.length
  | 0, n, O, hf => by rw [shr_end (.inl (by omega))]
  | f + 1, n, O, hf => by
    rw [shrZ]
    split
    · rename_i hh
      rw [shrZ_len L f _ _ (by omega), takZ_len]
    · rfl
theorem sizedM_len {L : List Ln} {S : List Sp} {room : Int} (hL : linesB L = true) (hS : spansB L.length S = true) : (sizedM L S room).length = L.length := by
  have h := wishM_len hL hS
  unfold sizedM
  split
  · rw [shrZ_len L _ _ _ (Nat.le_refl _), h]
  · split
    · exact h
    · rw [addAt_len, h]
theorem LineSizes_no (A : Option Addr) (c : Nat) (L : List Ln) (A' : Option Addr) (c' : Nat) (S : List Sp) (room : Int) (w : World) (h : LnV w A L) (h' : SpV w A' S) (hL : L.length ≤ 1048576) (hS : S.length ≤ 1048576) (hv : (linesB L && spansB L.length S && rng room 0 400) = false) :
    Calls Try.prog 15 #[.slice A L.length c, .slice A' S.length c', .int .i64 room] w fun e w' => e = .returned (.slice none 0 0) ∧ Below w.heap.size w w' := by
  cases h1 : linesB L
  · go_enter Try.func15, Try.ntmps15
    go_wp2_with fail
    with_reducible refine (validLines_v A c L false _ h hL h1).mono ?_
    rintro e w1 ⟨rfl, hb1⟩
    have HB := Lib.hid hb1
    clear hb1
    go_wp2
    go_ret
    exact ⟨rfl, HB.out⟩
  · obtain ⟨hl1, hl5⟩ := linesB_len h1
    cases h2 : spansB L.length S
    · go_enter Try.func15, Try.ntmps15
      go_wp2_with fail
      with_reducible refine (validLines_v A c L true _ h hL h1).mono ?_
      rintro e w1 ⟨rfl, hb1⟩
      have HB := Lib.hid hb1
      have HH := Lib.hid (h'.keep hb1)
      clear hb1
      go_wp2_with fail
      with_reducible refine (validSpans_v A' c' S L.length false _ HH.out hS (by omega) (by omega) h2).mono ?_
      rintro e w2 ⟨rfl, hb2⟩
      replace HB := Lib.hid (bkeep2 HB.out hb2)
      clear hb2
      go_wp2
      go_ret
      exact ⟨rfl, HB.out⟩
    · have h3 : rng room 0 400 = false := by simpa [h1, h2] using hv
      go_enter Try.func15, Try.ntmps15
      go_wp2_with fail
      with_reducible refine (validLines_v A c L true _ h hL h1).mono ?_
      rintro e w1 ⟨rfl, hb1⟩
      have HB := Lib.hid hb1
      have HH := Lib.hid (h'.keep hb1)
      clear hb1
      go_wp2_with fail
      with_reducible refine (validSpans_v A' c' S L.length true _ HH.out hS (by omega) (by omega) h2).mono ?_
      rintro e w2 ⟨rfl, hb2⟩
      replace HB := Lib.hid (bkeep2 HB.out hb2)
      clear hb2
      go_wp2_with fail
      with_reducible refine (within_w room 0 400 false _ h3).mono ?_
      rintro e w3 ⟨rfl, rfl⟩
      go_wp2
      go_ret
      exact ⟨rfl, HB.out⟩
theorem LineSizes_yes (A : Option Addr) (c : Nat) (L : List Ln) (A' : Option Addr) (c' : Nat) (S : List Sp) (room : Int) (w : World) (h : LnV w A L) (h' : SpV w A' S) (h1 : linesB L = true) (h2 : spansB L.length S = true) (h3 : rng room 0 400 = true) (hc : L.length ≤ c) :
    Calls Try.prog 15 #[.slice A L.length c, .slice A' S.length c', .int .i64 room] w fun e w' => (∃ g cap, e = .returned (.slice (some ⟨g, 0, none⟩) L.length cap) ∧ w.heap.size ≤ g ∧ cap = L.length ∧ IB w' g (sizedM L S room)) ∧ Below w.heap.size w w' := by
  obtain ⟨hl1, hl5⟩ := linesB_len h1
  obtain ⟨hs8, _⟩ := spansB_yes h2
  obtain ⟨hr0, hr1⟩ := rng_iff.1 h3
  go_enter Try.func15, Try.ntmps15
  go_wp2_with fail
  with_reducible refine (validLines_v A c L true _ h (by omega) h1).mono ?_
  rintro e w1 ⟨rfl, hb1⟩
  have HB := Lib.hid hb1
  clear hb1
  go_wp2_with fail
  with_reducible refine (validSpans_v A' c' S L.length true _ (h'.keep HB.out) (by omega) (by omega) (by omega) h2).mono ?_
  rintro e w2 ⟨rfl, hb2⟩
  replace HB := Lib.hid (bkeep2 HB.out hb2)
  clear hb2
  go_wp2_with fail
  with_reducible refine (within_w room 0 400 true _ h3).mono ?_
  rintro e w3 ⟨rfl, rfl⟩
  go_wp2_with fail
  with_reducible refine (lineSizes_v A c L A' c' S room _ (h.keep HB.out) h1 (h'.keep HB.out) h2 hr0 hr1).mono ?_
  rintro e w4 ⟨⟨g, rfl, hg, hi⟩, hb4⟩
  have HI := Lib.hid hi
  have hsz := HB.out.size
  replace HB := Lib.hid (bkeep2 HB.out hb4)
  clear hb4 hi
  go_wp2
  go_ret
  exact ⟨⟨g, _, rfl, Nat.le_trans hsz hg, rfl, HI.out⟩, HB.out⟩
theorem sLineSizes_no (A : Option Addr) (c : Nat) (L : List Ln) (A' : Option Addr) (c' : Nat) (S : List Sp) (room : Int) (w : World) (h : LnV w A L) (h' : SpV w A' S) (hL : L.length ≤ 1048576) (hS : S.length ≤ 1048576) (hv : (linesB L && spansB L.length S && rng room 0 400) = false) :
    Calls Try.prog 16 #[.slice A L.length c, .slice A' S.length c', .int .i64 room] w fun e w' => e = .returned (.slice none 0 0) ∧ Below w.heap.size w w' := by
  cases h1 : linesB L
  · go_enter Try.func16, Try.ntmps16
    go_wp2_with fail
    with_reducible refine (svalidLines_v A c L false _ h hL h1).mono ?_
    rintro e w1 ⟨rfl, hb1⟩
    have HB := Lib.hid hb1
    clear hb1
    go_wp2
    go_ret
    exact ⟨rfl, HB.out⟩
  · obtain ⟨hl1, hl5⟩ := linesB_len h1
    cases h2 : spansB L.length S
    · go_enter Try.func16, Try.ntmps16
      go_wp2_with fail
      with_reducible refine (svalidLines_v A c L true _ h hL h1).mono ?_
      rintro e w1 ⟨rfl, hb1⟩
      have HB := Lib.hid hb1
      have HH := Lib.hid (h'.keep hb1)
      clear hb1
      go_wp2_with fail
      with_reducible refine (svalidSpans_v A' c' S L.length false _ HH.out hS (by omega) (by omega) h2).mono ?_
      rintro e w2 ⟨rfl, hb2⟩
      replace HB := Lib.hid (bkeep2 HB.out hb2)
      clear hb2
      go_wp2
      go_ret
      exact ⟨rfl, HB.out⟩
    · have h3 : rng room 0 400 = false := by simpa [h1, h2] using hv
      go_enter Try.func16, Try.ntmps16
      go_wp2_with fail
      with_reducible refine (svalidLines_v A c L true _ h hL h1).mono ?_
      rintro e w1 ⟨rfl, hb1⟩
      have HB := Lib.hid hb1
      have HH := Lib.hid (h'.keep hb1)
      clear hb1
      go_wp2_with fail
      with_reducible refine (svalidSpans_v A' c' S L.length true _ HH.out hS (by omega) (by omega) h2).mono ?_
      rintro e w2 ⟨rfl, hb2⟩
      replace HB := Lib.hid (bkeep2 HB.out hb2)
      clear hb2
      go_wp2_with fail
      with_reducible refine (inRange_w room 0 400 false _ h3).mono ?_
      rintro e w3 ⟨rfl, rfl⟩
      go_wp2
      go_ret
      exact ⟨rfl, HB.out⟩
theorem sLineSizes_yes (A : Option Addr) (c : Nat) (L : List Ln) (A' : Option Addr) (c' : Nat) (S : List Sp) (room : Int) (w : World) (h : LnV w A L) (h' : SpV w A' S) (h1 : linesB L = true) (h2 : spansB L.length S = true) (h3 : rng room 0 400 = true) (hc : L.length ≤ c) :
    Calls Try.prog 16 #[.slice A L.length c, .slice A' S.length c', .int .i64 room] w fun e w' => (∃ g cap, e = .returned (.slice (some ⟨g, 0, none⟩) L.length cap) ∧ w.heap.size ≤ g ∧ OB w' g cap (sizedM L S room)) ∧ Below w.heap.size w w' := by
  obtain ⟨hl1, hl5⟩ := linesB_len h1
  obtain ⟨hs8, _⟩ := spansB_yes h2
  obtain ⟨hr0, hr1⟩ := rng_iff.1 h3
  go_enter Try.func16, Try.ntmps16
  go_wp2_with fail
  with_reducible refine (svalidLines_v A c L true _ h (by omega) h1).mono ?_
  rintro e w1 ⟨rfl, hb1⟩
  have HB := Lib.hid hb1
  clear hb1
  go_wp2_with fail
  with_reducible refine (svalidSpans_v A' c' S L.length true _ (h'.keep HB.out) (by omega) (by omega) (by omega) h2).mono ?_
  rintro e w2 ⟨rfl, hb2⟩
  replace HB := Lib.hid (bkeep2 HB.out hb2)
  clear hb2
  go_wp2_with fail
  with_reducible refine (inRange_w room 0 400 true _ h3).mono ?_
  rintro e w3 ⟨rfl, rfl⟩
  go_wp2_with fail
  with_reducible refine (wished_v A c L A' c' S _ (h.keep HB.out) h1 (h'.keep HB.out) h2 hc).mono ?_
  rintro e w4 ⟨⟨g, cap, rfl, hg, hi⟩, hb4⟩
  have HI := Lib.hid hi
  replace HB := Lib.hid (bkeep2 HB.out hb4)
  clear hb4 hi
  obtain ⟨hk1, hk2, hk3, hk4, hk5⟩ := wish_ok h1 h2
  have HK1 := Lib.hid hk1
  have HK2 := Lib.hid hk2
  have HK3 := Lib.hid hk3
  have HK45 := Lib.hid (And.intro hk4 hk5)
  have H1 := Lib.hid h1
  clear hk1 hk2 hk3 hk4 hk5
  go_wp2_with fail
  refine (sized_v _ _ L.length (wishM L S) _ _ L room _ HI.out.nv HK2.out.symm (h.keep HB.out) H1.out HK1.out HK3.out HK45.out.1 HK45.out.2 hr0 hr1).mono ?_
  rintro e w5 ⟨⟨g', cap', rfl, hg', hi5⟩, hb5⟩
  have HI5 := Lib.hid hi5
  have hsz := HB.out.size
  replace HB := Lib.hid (bkeep2 HB.out hb5)
  clear hb5 hi5
  go_wp2
  go_ret
  exact ⟨⟨g', cap', rfl, Nat.le_trans hsz hg', HI5.out⟩, HB.out⟩
end Go.Proofs.Ytignigcknfklkab
end
section
namespace Go.Proofs.Ytignigcknfklkab
set_option linter.unusedVariables false
theorem takZ_at : ∀ {L : List Ln} {O P : List Int} {i : Nat} {l : Ln} {o p : Int}, L[i]? = some l → O[i]? = some o → P[i]? = some p → (takZ L O P)[i]? = some (o - mn p (o - l.mi))
  | l' :: L, o' :: O, p' :: P, 0, l, o, p, hl, ho, hp => by
    simp only [List.getElem?_cons_zero, Option.some.injEq] at hl ho hp
    subst hl ho hp
    simp [takZ]
  | l' :: L, o' :: O, p' :: P, i + 1, l, o, p, hl, ho, hp => by
    simp only [List.getElem?_cons_succ] at hl ho hp
    simp only [takZ, List.getElem?_cons_succ]
    exact takZ_at hl ho hp
  | [], _, _, i, l, o, p, hl, _, _ => by simp at hl
  | _ :: _, [], _, i, l, o, p, _, ho, _ => by simp at ho
  | _ :: _, _ :: _, [], i, l, o, p, _, _, hp => by simp at hp
theorem takZ_sum : ∀ (L : List Ln) (O P : List Int), sumI (takZ L O P) = sumI O - tknZ L O P
  | l :: L, o :: O, p :: P => by simp only [takZ, tknZ, sumI, takZ_sum L O P]; omega
  | [], O, P => by simp [takZ, tknZ]
  | l :: L, [], P => by simp [takZ, tknZ]
  | l :: L, o :: O, [] => by simp [takZ, tknZ]
theorem shr_all {L : List Ln} (hL : linesB L = true) : ∀ (f : Nat) (n : Int) (O : List Int), n.toNat ≤ f → 0 ≤ n → SOK L O →
    SOK L (shrZ L n O) ∧ (∀ (i : Nat) (l : Ln) (o r : Int), L[i]? = some l → O[i]? = some o → (shrZ L n O)[i]? = some r → r ≤ o ∧ (l.wt = 0 → r = o)) ∧ sumI (shrZ L n O) ≤ sumI O ∧ sumI O - n ≤ sumI (shrZ L n O) ∧ (sumI (shrZ L n O) = sumI O - n ∨ sumI (wtZ L (shrZ L n O)) = 0)
  | 0, n, O, hf, hn, h => by
    obtain rfl : n = 0 := by omega
    rw [shr_end (.inl (by omega))]
    exact ⟨h, fun i l o r _ h1 h2 => by rw [h1] at h2; obtain rfl := Option.some.inj h2; exact ⟨Int.le_refl _, fun _ => rfl⟩, Int.le_refl _, by omega, .inl (by omega)⟩
  | f + 1, n, O, hf, hn, h => by
    by_cases h0 : 0 < n ∧ sumI (wtZ L O) ≠ 0
    · obtain ⟨hp0, hs⟩ := h0
      obtain ⟨hp, ht0, htn, hk⟩ := round_ok hL h hp0 hs
      rw [shr_go hL h hp0 hs]
      have hw := wtZ_ok hL h
      have hs0 : 0 < sumI (wtZ L O) := by have := hw.sum; omega
      have hsum := takZ_sum L O (spreadM n (wtZ L O))
      obtain ⟨a1, a2, a3, a4, a5⟩ := shr_all hL f (n - tknZ L O (spreadM n (wtZ L O))) (takZ L O (spreadM n (wtZ L O))) (by omega) (by omega) hk
      refine ⟨a1, fun i l o r h1 h2 h3 => ?_, by omega, by omega, ?_⟩
      · obtain ⟨y, e1, y0, y1, e2⟩ := spread_get (n := n) (by omega) hw (wtZ_get h1 h2)
        have := takZ_at h1 h2 e1
        have hr := a2 i l _ r h1 this h3
        have hmi := (h.get h1 h2).1
        have hm := mn_spec y (o - l.mi)
        refine ⟨by omega, fun hw0 => ?_⟩
        have h4 := (e2 hs0).1 (by rw [hw0]; simp)
        have := hr.2 hw0
        subst h4
        omega
      · rcases a5 with a5 | a5
        · exact .inl (by omega)
        · exact .inr a5
    · have he : shrZ L n O = O := shr_end (by omega)
      rw [he]
      refine ⟨h, fun i l o r _ h1 h2 => by rw [h1] at h2; obtain rfl := Option.some.inj h2; exact ⟨Int.le_refl _, fun _ => rfl⟩, Int.le_refl _, by omega, ?_⟩
      by_cases hp0 : 0 < n
      · exact .inr (by omega)
      · exact .inl (by omega)
theorem addP_at : ∀ {O P : List Int} {i : Nat} {o p : Int}, O[i]? = some o → P[i]? = some p → (addP O P)[i]? = some (o + p)
  | o' :: O, p' :: P, 0, o, p, h, hp => by
    simp only [List.getElem?_cons_zero, Option.some.injEq] at h hp
    subst h hp
    simp [addP]
  | o' :: O, p' :: P, i + 1, o, p, h, hp => by
    simp only [List.getElem?_cons_succ] at h hp
    simp only [addP, List.getElem?_cons_succ]
    exact addP_at h hp
  | [], P, i, o, p, h, _ => by simp at h
  | o' :: O, [], i, o, p, _, hp => by simp at hp
theorem addAt0 (O P : List Int) : addAt O 0 P = addP O P := by simp [addAt]
theorem linesB_get {L : List Ln} (hL : linesB L = true) {l : Ln} (hl : l ∈ L) : (0 ≤ l.wt ∧ l.wt ≤ 5) ∧ (0 ≤ l.mi ∧ l.mi ≤ 30) := by
  obtain ⟨h1, h2⟩ := min_bd hL
  refine ⟨h2.1 _ (List.mem_map_of_mem hl), ?_⟩
  simp only [linesB, Bool.and_eq_true, List.all_eq_true] at hL
  have := hL.2 l hl
  simp only [lineB, Bool.and_eq_true, rng_iff] at this
  exact this.2
/-- the sizes of lines in a room -/
theorem sized_ok {L : List Ln} {S : List Sp} {room : Int} (hL : linesB L = true) (hS : spansB L.length S = true) (hr0 : 0 ≤ room) (hr1 : room ≤ 400) :
    SOK L (sizedM L S room) ∧ (sizedM L S room).length = L.length ∧ (∀ x ∈ sizedM L S room, 0 ≤ x ∧ x ≤ 1000000) ∧ sumI (sizedM L S room) ≤ 2150 := by
  obtain ⟨k1, k2, k3, k4, k5⟩ := wish_ok hL hS
  have key : SOK L (sizedM L S room) ∧ sumI (sizedM L S room) ≤ 2150 := by
    unfold sizedM
    split
    · obtain ⟨a1, a2, a3, a4, a5⟩ := shr_all hL _ (-(room - sumI (wishM L S))) (wishM L S) (Nat.le_refl _) (by omega) k1
      exact ⟨a1, by omega⟩
    · split
      · exact ⟨k1, k5⟩
      · obtain ⟨hO, hW⟩ := min_bd hL
        have hn : 0 ≤ room - sumI (wishM L S) := by omega
        have hsum := spread_sum hn hW
        have hnn := spread_nn hn hW
        have hlen : (spreadM (room - sumI (wishM L S)) (L.map Ln.wt)).length = L.length := by rw [spreadM_len, List.length_map]
        have hs := sum_addAt (O := wishM L S) (P := spreadM (room - sumI (wishM L S)) (L.map Ln.wt)) (k := 0) (by omega)
        have hmi : MI L (addAt (wishM L S) 0 (spreadM (room - sumI (wishM L S)) (L.map Ln.wt))) := MI.add (fun i l o h1 h2 => (k1.get h1 h2).1) hnn
        have hx0 := nn_addAt (k := 0) (fun x hx => (k3 x hx).1) hnn
        have hx1 := mem_le_sum hx0
        refine ⟨SOK.of (by rw [addAt_len]; exact k2) hmi (fun x hx => by have := hx1 x hx; omega), by omega⟩
  refine ⟨key.1, key.1.len, fun x hx => ?_, key.2⟩
  obtain ⟨i, hi, e⟩ := List.mem_iff_getElem.1 hx
  have hl : i < L.length := by rw [← key.1.len]; exact hi
  have := key.1.get (List.getElem?_eq_getElem hl) (by rw [List.getElem?_eq_getElem hi, e])
  have := (linesB_get hL (List.getElem_mem hl)).2
  omega
theorem sized_smal {L : List Ln} {S : List Sp} {room : Int} (hL : linesB L = true) (hS : spansB L.length S = true) (hr0 : 0 ≤ room) (hr1 : room ≤ 400) : Smal 1000000000 (sizedM L S room) ∧ (sizedM L S room).length ≤ 5 := by
  obtain ⟨-, hl, hx, -⟩ := sized_ok hL hS hr0 hr1
  have h5 := (linesB_len hL).2
  refine ⟨smal_of (b := 1000000) (fun x h => ⟨by have := (hx x h).1; omega, (hx x h).2⟩) (by omega) ?_, by omega⟩
  rw [hl]; omega
/-- where each line begins, up to one of them -/
def edP (S : List Int) (k : Nat) : List Int := (List.range (S.length + 1)).map fun i => if i ≤ k then sumI (S.take i) else 0
def edL (S : List Int) : List Int := (List.range (S.length + 1)).map fun i => sumI (S.take i)
theorem edP_len (S : List Int) (k : Nat) : (edP S k).length = S.length + 1 := by simp [edP]
theorem edL_len (S : List Int) : (edL S).length = S.length + 1 := by simp [edL]
theorem edP_zero (S : List Int) : List.replicate (S.length + 1) 0 = edP S 0 := by
  apply List.ext_getElem
  · simp [edP]
  · intro i h1 h2
    simp only [edP, List.getElem_map, List.getElem_range, List.getElem_replicate]
    split
    · rename_i h
      obtain rfl : i = 0 := by omega
      simp [sumI]
    · rfl
theorem edP_end (S : List Int) : edP S S.length = edL S := by
  apply List.ext_getElem
  · simp [edP, edL]
  · intro i h1 h2
    simp only [edP, edL, List.getElem_map, List.getElem_range]
    rw [if_pos]
    simp [edP] at h1
    omega
theorem edP_get {S : List Int} {k i : Nat} (hi : i ≤ S.length) : (edP S k)[i]? = some (if i ≤ k then sumI (S.take i) else 0) := by
  rw [List.getElem?_eq_getElem (by rw [edP_len]; omega)]
  simp [edP]
theorem edL_get {S : List Int} {i : Nat} (hi : i ≤ S.length) : (edL S)[i]? = some (sumI (S.take i)) := by
  rw [List.getElem?_eq_getElem (by rw [edL_len]; omega)]
  simp [edL]
theorem edP_set {S : List Int} {k : Nat} (hk : k < S.length) : (edP S k).set (k + 1) (sumI (S.take (k + 1))) = edP S (k + 1) := by
  apply List.ext_getElem
  · simp [edP]
  · intro i h1 h2
    rw [List.getElem_set]
    simp only [edP, List.getElem_map, List.getElem_range]
    split
    · rename_i h
      subst h
      rw [if_pos (Nat.le_refl _)]
    · rename_i h
      by_cases h3 : i ≤ k
      · rw [if_pos h3, if_pos (by omega)]
      · rw [if_neg h3, if_neg (by omega)]
/-- the line in which a place lies, told from the one that begins at a place -/
def lnAt : List Int → Int → Int → Int → Int
  | [], _, _, _ => -1
  | s :: t, a, p, i => if a ≤ p ∧ p < a + s then i else lnAt t (a + s) p (i + 1)
def lineM (S : List Int) (p : Int) : Int := lnAt S 0 p 0
theorem lnAt_bd : ∀ (S : List Int) (a p i : Int), 0 ≤ i → -1 ≤ lnAt S a p i ∧ lnAt S a p i < i + S.length ∨ lnAt S a p i = -1
  | [], a, p, i, h => by simp [lnAt]
  | s :: t, a, p, i, h => by
    unfold lnAt
    split
    · simp only [List.length_cons]; omega
    · rcases lnAt_bd t (a + s) p (i + 1) (by omega) with h1 | h1
      · simp only [List.length_cons]; omega
      · exact .inr h1
theorem lnAt_drop {S : List Int} {k : Nat} {s p R : Int} (hs : S[k]? = some s) (h : lnAt (S.drop k) (sumI (S.take k)) p k = R) :
    (sumI (S.take k) ≤ p ∧ p < sumI (S.take k) + s → R = k) ∧ (¬ (sumI (S.take k) ≤ p ∧ p < sumI (S.take k) + s) → lnAt (S.drop (k + 1)) (sumI (S.take (k + 1))) p ((k + 1 : Nat) : Int) = R) := by
  obtain ⟨hk, e⟩ := List.getElem?_eq_some_iff.1 hs
  rw [List.drop_eq_getElem_cons hk, e, lnAt] at h
  rw [sumI_snoc hs]
  constructor
  · intro hc; rw [if_pos hc] at h; exact h.symm
  · intro hc; rw [if_neg hc] at h; rw [← h]; rfl
theorem lnAt_done {S : List Int} {k : Nat} {p R : Int} (hk : S.length ≤ k) (h : lnAt (S.drop k) (sumI (S.take k)) p k = R) : R = -1 := by
  rw [List.drop_eq_nil_of_le hk, lnAt] at h
  exact h.symm
end Go.Proofs.Ytignigcknfklkab
end
section
namespace Go.Proofs.Ytignigcknfklkab
set_option linter.unusedVariables false
/-- one list is nowhere less than another -/
def PW : List Int → List Int → Prop
  | [], [] => True
  | x :: X, y :: Y => x ≤ y ∧ PW X Y
  | _, _ => False
theorem PW.refl : ∀ X : List Int, PW X X
  | [] => trivial
  | x :: X => ⟨Int.le_refl _, PW.refl X⟩
theorem PW.trans : ∀ {X Y Z : List Int}, PW X Y → PW Y Z → PW X Z
  | [], [], [], _, _ => trivial
  | x :: X, y :: Y, z :: Z, h, k => ⟨Int.le_trans h.1 k.1, PW.trans h.2 k.2⟩
  | [], y :: Y, _, h, _ => by simp [PW] at h
  | x :: X, [], _, h, _ => by simp [PW] at h
  | [], [], z :: Z, _, h => by simp [PW] at h
  | x :: X, y :: Y, [], _, h => by simp [PW] at h
theorem PW.sum : ∀ {X Y : List Int}, PW X Y → sumI X ≤ sumI Y
  | [], [], _ => Int.le_refl _
  | x :: X, y :: Y, h => by have := PW.sum h.2; have := h.1; simp only [sumI]; omega
  | [], y :: Y, h => by simp [PW] at h
  | x :: X, [], h => by simp [PW] at h
theorem PW.drop : ∀ {X Y : List Int} (k : Nat), PW X Y → PW (X.drop k) (Y.drop k)
  | X, Y, 0, h => by simpa using h
  | [], [], k + 1, h => by simp [PW]
  | x :: X, y :: Y, k + 1, h => by simpa using PW.drop k h.2
  | [], y :: Y, k + 1, h => by simp [PW] at h
  | x :: X, [], k + 1, h => by simp [PW] at h
theorem PW.take : ∀ {X Y : List Int} (k : Nat), PW X Y → PW (X.take k) (Y.take k)
  | X, Y, 0, h => by simp [PW]
  | [], [], k + 1, h => by simp [PW]
  | x :: X, y :: Y, k + 1, h => by simpa [PW] using ⟨h.1, PW.take k h.2⟩
  | [], y :: Y, k + 1, h => by simp [PW] at h
  | x :: X, [], k + 1, h => by simp [PW] at h
theorem PW.seg {X Y : List Int} (a m : Nat) (h : PW X Y) : sumI (segI X a m) ≤ sumI (segI Y a m) := ((h.drop a).take m).sum
theorem PW.append : ∀ {X Y Z W : List Int}, PW X Y → PW Z W → PW (X ++ Z) (Y ++ W)
  | [], [], _, _, _, k => k
  | x :: X, y :: Y, _, _, h, k => ⟨h.1, PW.append h.2 k⟩
  | [], y :: Y, _, _, h, _ => by simp [PW] at h
  | x :: X, [], _, _, h, _ => by simp [PW] at h
theorem PW.addP : ∀ {O P : List Int}, (∀ x ∈ P, 0 ≤ x) → PW O (addP O P)
  | [], P, _ => by cases P <;> simp [Go.Proofs.Ytignigcknfklkab.addP, PW]
  | o :: O, [], _ => PW.refl _
  | o :: O, p :: P, h => ⟨by have := h p List.mem_cons_self; omega, PW.addP (fun x hx => h x (List.mem_cons_of_mem _ hx))⟩
theorem PW.addAt {O P : List Int} {k : Nat} (h : ∀ x ∈ P, 0 ≤ x) : PW O (addAt O k P) := by
  have := PW.append (PW.refl (O.take k)) (PW.addP (O := O.drop k) h)
  rwa [List.take_append_drop] at this
theorem addP_take : ∀ (X P : List Int) (m : Nat), (addP X P).take m = addP (X.take m) (P.take m)
  | X, P, 0 => by simp [addP]
  | [], P, m + 1 => by cases P <;> simp [addP]
  | x :: X, [], m + 1 => by simp [addP]
  | x :: X, p :: P, m + 1 => by simp [addP, addP_take X P m]
theorem seg_addAt {O P : List Int} {a m : Nat} (hP : P.length = m) (h : a + m ≤ O.length) : segI (addAt O a P) a m = addP (segI O a m) P := by
  have hl : (O.take a).length = a := by rw [List.length_take]; omega
  unfold segI addAt
  rw [List.drop_append, hl, Nat.sub_self, List.drop_of_length_le (by omega), List.drop_zero, List.nil_append, addP_take, List.take_of_length_le (by omega : P.length ≤ m)]
theorem step_need {n : Nat} {ws O : List Int} {s : Sp} (hw : wsOK ws) (hl : ws.length = n) (hO : O.length = n) (hs : spanB n s = true) :
    PW O (stepM ws O s) ∧ (stepM ws O s).length = n ∧ s.need ≤ sumI (segI (stepM ws O s) s.sa.toNat s.many.toNat) := by
  obtain ⟨a, m, e1, e2, h1, h2, h3, h4⟩ := spanB_yes hs
  unfold stepM
  rw [e1, e2]
  simp only [Int.toNat_natCast]
  have hseg := seg_ok hw h1 (by rw [hl]; exact h2)
  have hx := mx_spec (s.need - sumI (segI O a m)) 0
  have hn : 0 ≤ mx (s.need - sumI (segI O a m)) 0 := by omega
  have hnn := spread_nn hn hseg
  have hlen : (spreadM (mx (s.need - sumI (segI O a m)) 0) (segI ws a m)).length = m := by rw [spreadM_len, segI_len (by omega)]
  refine ⟨PW.addAt hnn, by rw [addAt_len, hO], ?_⟩
  rw [seg_addAt hlen (by omega), sum_addP (by rw [hlen, segI_len (by omega)]; exact Nat.le_refl _), spread_sum hn hseg]
  omega
theorem round_ge {n : Nat} {ws : List Int} {m : Int} (hw : wsOK ws) (hl : ws.length = n) : ∀ {S : List Sp} {O : List Int}, (∀ s ∈ S, spanB n s = true) → O.length = n →
    PW O (roundM ws m S O) ∧ (roundM ws m S O).length = n ∧ ∀ s ∈ S, s.many = m → s.need ≤ sumI (segI (roundM ws m S O) s.sa.toNat s.many.toNat)
  | [], O, _, hO => ⟨PW.refl _, hO, fun s hs => by simp at hs⟩
  | t :: S, O, hs, hO => by
    have hst := step_need hw hl hO (hs t List.mem_cons_self)
    have e : roundM ws m (t :: S) O = roundM ws m S (if t.many = m then stepM ws O t else O) := rfl
    rw [e]
    have hO' : (if t.many = m then stepM ws O t else O).length = n := by split; exact hst.2.1; exact hO
    have hPW : PW O (if t.many = m then stepM ws O t else O) := by split; exact hst.1; exact PW.refl _
    obtain ⟨h1, h2, h3⟩ := round_ge (S := S) (m := m) hw hl (fun s hh => hs s (List.mem_cons_of_mem _ hh)) hO'
    refine ⟨hPW.trans h1, h2, fun s hh hm => ?_⟩
    rcases List.mem_cons.1 hh with rfl | hh
    · rw [if_pos hm] at h1 ⊢
      exact Int.le_trans hst.2.2 (h1.seg _ _)
    · exact h3 s hh hm
theorem req_ge {n : Nat} {ws : List Int} {S : List Sp} {O : List Int} (hw : wsOK ws) (hl : ws.length = n) (hs : ∀ s ∈ S, spanB n s = true) (hO : O.length = n) : ∀ i : Nat,
    (reqN ws S O i).length = n ∧ PW O (reqN ws S O i) ∧ ∀ s ∈ S, s.many ≤ i → s.need ≤ sumI (segI (reqN ws S O i) s.sa.toNat s.many.toNat)
  | 0 => ⟨hO, PW.refl _, fun s hh hm => by
      obtain ⟨a, m, e1, e2, h1, _⟩ := spanB_yes (hs s hh)
      omega⟩
  | i + 1 => by
    obtain ⟨h1, h2, h3⟩ := req_ge hw hl hs hO i
    obtain ⟨k1, k2, k3⟩ := round_ge (m := (i : Int) + 1) hw hl hs h1
    refine ⟨k2, h2.trans k1, fun s hh hm => ?_⟩
    by_cases h : s.many = (i : Int) + 1
    · exact k3 s hh h
    · exact Int.le_trans (h3 s hh (by omega)) (k1.seg _ _)
/-- requests are enough for all spans -/
theorem wish_need {L : List Ln} {S : List Sp} (hL : linesB L = true) (hS : spansB L.length S = true) : ∀ s ∈ S, s.need ≤ sumI (segI (wishM L S) s.sa.toNat s.many.toNat) := fun s hs => by
  obtain ⟨-, hW⟩ := min_bd hL
  obtain ⟨-, hss⟩ := spansB_yes hS
  obtain ⟨a, m, e1, e2, h1, h2, -⟩ := spanB_yes (hss s hs)
  exact (req_ge (O := L.map Ln.mi) hW (by simp) hss (by simp) L.length).2.2 s hs (by omega)
theorem wish_nil (L : List Ln) : wishM L [] = L.map Ln.mi := by
  have : ∀ i, reqN (L.map Ln.wt) [] (L.map Ln.mi) i = L.map Ln.mi := fun i => by
    induction i with
    | zero => rfl
    | succ i ih => show roundM _ _ [] _ = _; rw [ih]; rfl
  exact this _
theorem round_app (ws : List Int) (m : Int) (S : List Sp) (s : Sp) (O : List Int) : roundM ws m (S ++ [s]) O = (if s.many = m then stepM ws (roundM ws m S O) s else roundM ws m S O) := by
  unfold roundM
  rw [List.foldl_append]
  rfl
/-- a span that has enough changes nothing -/
theorem wish_more {L : List Ln} {S : List Sp} {need : Int} (hL : linesB L = true) (hS : spansB L.length S = true) (hn : need ≤ sumI (wishM L S)) : wishM L (S ++ [⟨0, L.length, need⟩]) = wishM L S := by
  obtain ⟨-, hW⟩ := min_bd hL
  obtain ⟨-, hss⟩ := spansB_yes hS
  have h1 := (linesB_len hL).1
  have key : ∀ i, i < L.length → reqN (L.map Ln.wt) (S ++ [⟨0, L.length, need⟩]) (L.map Ln.mi) i = reqN (L.map Ln.wt) S (L.map Ln.mi) i := fun i => by
    induction i with
    | zero => intro _; rfl
    | succ i ih =>
      intro hi
      show roundM _ _ (S ++ _) _ = roundM _ _ S _
      rw [ih (by omega), round_app, if_neg (by simp; omega)]
  obtain ⟨n, hn1⟩ : ∃ n, L.length = n + 1 := ⟨L.length - 1, by omega⟩
  have hlen := (wish_ok hL hS).2.1
  unfold wishM at hn hlen ⊢
  rw [hn1] at key hn hlen ⊢
  show roundM _ _ (S ++ _) _ = roundM _ _ S _
  rw [key n (by omega), round_app, if_pos (by simp)]
  have e : roundM (L.map Ln.wt) ((n : Int) + 1) S (reqN (L.map Ln.wt) S (L.map Ln.mi) n) = reqN (L.map Ln.wt) S (L.map Ln.mi) (n + 1) := rfl
  rw [e]
  have hseg : segI (reqN (L.map Ln.wt) S (L.map Ln.mi) (n + 1)) 0 (n + 1) = reqN (L.map Ln.wt) S (L.map Ln.mi) (n + 1) := by
    unfold segI
    rw [List.drop_zero, List.take_of_length_le (by omega)]
  refine step_none ?_ ?_
  · have : segI (L.map Ln.wt) (0 : Int).toNat (((n + 1 : Nat) : Int)).toNat = L.map Ln.wt := by
      unfold segI
      simp only [Int.toNat_zero, List.drop_zero, Int.toNat_natCast]
      exact List.take_of_length_le (by simp; omega)
    dsimp only
    rw [this]
    exact hW
  · dsimp only
    rw [Int.toNat_zero, Int.toNat_natCast, hseg]
    omega
end Go.Proofs.Ytignigcknfklkab
end
