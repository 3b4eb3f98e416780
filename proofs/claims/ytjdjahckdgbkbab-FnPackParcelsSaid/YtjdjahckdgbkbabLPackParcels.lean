/- FnPackParcels: for every code the law returns true. No condition. -/
import Derived.Test.YtjdjahckdgbkbabQ11
namespace Go.Proofs.Ytjdjahckdgbkbab.lPackParcels
open Go.ChangeShapes Go.WideShapes Go.ChangeAt Go.RowKit Go.Joins
set_option linter.unusedVariables false
set_option maxHeartbeats 1000000
attribute [local go_sem 5000] run_mx run_mn run_eqlR run_neqR
attribute [local go_sem] growUpon_value growUpon_skip growUpon_enter givesUpon_value givesUpon_skip givesUpon_enter
set_option maxRecDepth 100000 in
theorem walk (A : Option Addr) (n c : Nat) (z : List Int) (w : World) (wz : IsRow .u8 w A n c z) : Calls Try.prog 7 #[.slice A n c] w fun e w' => e = .returned (.bool true) ∧ Below w.heap.size w w' := by
  obtain ⟨hb, hn, hc⟩ := wz.bts
  clear wz
  by_cases hlen : n ≤ 1048576
  · have hl1 : ¬ (1048576 : Int) < n := by omega
    obtain ⟨ti, tz, ti1, ti2, ti3, ti4, ti5⟩ := rect_info
    go_enter Try.func7, Try.ntmps7
    go_wp2_with fail
    with_reducible refine (DrawPackParcels_any A n c _ hb hn hc).mono ?_
    rintro e w1 ⟨⟨A', c', L, a, b, rfl, hL8, hcap, hpv⟩, hB⟩
    have HB := Lib.hid hB
    clear hb hn hc hB
    have hL : L.length ≤ 1048576 := by omega
    have hM7 := parL_len (L := L) (u := a) (v := b)
    obtain ⟨M, hM⟩ : ∃ M, parL L a b = M := ⟨_, rfl⟩
    rw [hM] at hM7
    have HM := Lib.hid hM
    have HP := Lib.hid hpv
    clear hM hpv
    go_wp2_with fail
    with_reducible refine (PackParcels_n A' c' _ L a b _ HP.out rfl hcap hL M HM.out).mono ?_
    rintro e w2 ⟨⟨B, rfl, hrv⟩, hb2⟩
    replace HP := Lib.hid (HP.out.keep hb2)
    replace HB := Lib.hid (bkeep2 HB.out hb2)
    clear hb2
    have HV := Lib.hid hrv
    clear hrv
    by_cases hM0 : M.length = 0
    · have hm0 : ((M.length : Int) == 0) = true := by rw [hM0]; rfl
      clear hM0
      go_wp2_with fail
      with_reducible refine (sPackParcels_n A' c' _ L a b _ HP.out rfl hcap hL M HM.out).mono ?_
      rintro e w3 ⟨⟨r, rfl, hrv⟩, hb3⟩
      replace HP := Lib.hid (HP.out.keep hb3)
      replace HV := Lib.hid (HV.out.keep hb3)
      replace HB := Lib.hid (bkeep2 HB.out hb3)
      clear hb3
      go_wp2_with fail
      with_reducible refine (equalRects_z _ _ M _ HV.out hrv (by omega)).mono ?_
      rintro e w4 ⟨rfl, hb4⟩
      clear hrv
      replace HP := Lib.hid (HP.out.keep hb4)
      replace HV := Lib.hid (HV.out.keep hb4)
      replace HB := Lib.hid (bkeep2 HB.out hb4)
      clear hb4
      go_wp2_with fail
      with_reducible refine (sPackParcels_n A' c' _ L a b _ HP.out rfl hcap hL M HM.out).mono ?_
      rintro e w5 ⟨⟨r, rfl, hrv⟩, hb5⟩
      replace HP := Lib.hid (HP.out.keep hb5)
      replace HV := Lib.hid (HV.out.keep hb5)
      replace HB := Lib.hid (bkeep2 HB.out hb5)
      clear hb5
      go_wp2_with fail
      with_reducible refine (equalRects_z _ _ M _ HV.out hrv (by omega)).mono ?_
      rintro e w6 ⟨rfl, hb6⟩
      clear hrv
      replace HP := Lib.hid (HP.out.keep hb6)
      replace HV := Lib.hid (HV.out.keep hb6)
      replace HB := Lib.hid (bkeep2 HB.out hb6)
      clear hb6
      go_wp2
      go_ret
      exact ⟨rfl, HB.out⟩
    · have hm0 : ((M.length : Int) == 0) = false := beq_eq_false_iff_ne.2 (by omega)
      have hg : gpB L a b = true := by
        cases hg : gpB L a b
        · exfalso; apply hM0; rw [← HM.out]; simp [parL, hg]
        · rfl
      obtain ⟨hvv, hrr⟩ := gpB_yes hg
      have hML : M.length = L.length := by rw [← HM.out]; simp [parL, hg, parcM_len]
      have hMv : M = (parcM L ⟨0, 0, a, b⟩).1 := by rw [← HM.out]; simp [parL, hg]
      obtain ⟨R, hR⟩ : ∃ R, leftR L a b = R := ⟨_, rfl⟩
      have hRv : R = (parcM L ⟨0, 0, a, b⟩).2 := by rw [← hR]; simp [leftR, hg]
      have hall := parcM_all (L := L) (z := ⟨0, 0, a, b⟩) (vpsB_iff.1 hvv).1 (rmB_ok hrr)
      rw [← hMv, ← hRv] at hall
      obtain ⟨N, hN⟩ : ∃ N, M ++ [R] = N := ⟨_, rfl⟩
      have hNl : N.length = M.length + 1 := by rw [← hN]; simp
      rw [hN] at hall
      have HA := Lib.hid hall
      have HRR := Lib.hid hR
      have HML := Lib.hid hML
      have HN := Lib.hid hN
      have HNL := Lib.hid hNl
      have hN8 : N.length ≤ 8 := by omega
      have hrz := rmB_ok hrr
      obtain ⟨za1, za2, za3, za4, -⟩ := vr_iff.1 hrz
      dsimp only at za1 za2 za3 za4
      have hM1 : 0 < M.length := by omega
      clear hg hvv hrr hMv hRv hall hR hML hN hNl hM0
      go_wp2_with fail
      with_reducible refine (sPackParcels_n A' c' _ L a b _ HP.out rfl hcap hL M HM.out).mono ?_
      rintro e w3 ⟨⟨r, rfl, hrv⟩, hb3⟩
      replace HP := Lib.hid (HP.out.keep hb3)
      replace HV := Lib.hid (HV.out.keep hb3)
      replace HB := Lib.hid (bkeep2 HB.out hb3)
      clear hb3
      go_wp2_with fail
      with_reducible refine (equalRects_z _ _ M _ HV.out hrv (by omega)).mono ?_
      rintro e w4 ⟨rfl, hb4⟩
      clear hrv
      replace HP := Lib.hid (HP.out.keep hb4)
      replace HV := Lib.hid (HV.out.keep hb4)
      replace HB := Lib.hid (bkeep2 HB.out hb4)
      clear hb4
      obtain ⟨-, hb⟩ := HV.out.at
      obtain ⟨bm, rfl, hbm, hcm⟩ := hb hM1
      have hnews := rv_all hcm
      have HNW := Lib.hid hnews
      have ho0 : (w4.alloc (.cells #[] 42 (0, 0))).ownsRow w4.heap.size 42 4 (.slice (some ⟨w4.heap.size, 0, none⟩) 0 0) 0 [] := World.ownsRow_lit (base := w4.heap.size) (e := 42) (size := 4) w4 #[] 0 (Nat.le_refl _) (by decide) rfl
      have HO := Lib.hid ho0
      clear hcm hnews hb ho0
      go_wp2_with (at_builtin; refine wpList_append_own _ rfl _ _ 37 rfl w4.heap.size 42 ti tz 4 32 Try.underlying37 ti1 ti2 ti3 ti4 ti5 (by decide) _ _ _ rfl HO.out ⟨bm, 0, none⟩ M.length M.length (rvals M) rfl (rvals_len M) (fun j u hu => cell_old _ (HNW.out j u hu) hbm) (rvals_one M) (by simp only [maxLen]; omega) (by omega) (by simp) ?_)
      intro v5 w5 how5 hgr5 _
      obtain ⟨-, hbl⟩ := grown_old hgr5 HO.out.lt
      have HW := Lib.hid (hbl w4.heap.size w4 (Below.refl _ _) (Nat.le_refl _) (Nat.le_refl _))
      replace HO := Lib.hid how5
      clear hbl hgr5 how5
      have hs5 := HW.out.size
      go_wp2_with fail
      with_reducible refine (PackLeft_c A' c' L a b _ (HP.out.keep HW.out) hcap hL R HRR.out).mono ?_
      rintro e w6 ⟨rfl, hb6⟩
      replace HW := Lib.hid (bkeep2 HW.out hb6)
      replace HO := Lib.hid (own_blw HO.out hb6)
      have hs6 := HW.out.size
      have hob := HO.out.lt
      clear hb6
      go_wp2_with (at_builtin; refine wpList_append_own _ rfl _ _ 37 rfl w4.heap.size 42 ti tz 4 32 Try.underlying37 ti1 ti2 ti3 ti4 ti5 (by decide) _ _ _ rfl (HO.out.alloc _) ⟨w6.heap.size, 0, none⟩ 1 1 (vals4 R) rfl rfl (new4 _ _ _) (vals4_one _) (by simp only [maxLen]; omega) (by omega) (by simp; omega) ?_)
      intro v7 w7 how7 hgr7 _
      obtain ⟨-, hbl⟩ := grown_old hgr7 hob
      replace HW := Lib.hid (hbl w4.heap.size w4 HW.out (Nat.le_refl _) (by omega))
      rw [rvals_snoc', HN.out] at how7
      have hrv7 := RV.own how7 HNL.out.symm
      obtain ⟨A7, c7, rfl, hc7⟩ := hrv7
      replace HB := Lib.hid (bkeep2 HB.out HW.out)
      have HC := Lib.hid hc7
      clear hbl hgr7 how7 HO hob HW HP HV hs5 hs6 HNW hc7
      obtain ⟨ha1, ha2, ha3, ha4⟩ := HA.out
      have HA1 := Lib.hid ha1
      have HA2 := Lib.hid ha2
      have HA4 := Lib.hid ha4
      have hzz : areas N = a * b := ha3
      have HZ := Lib.hid hzz
      have hmb : 0 ≤ a * b ∧ a * b ≤ 160000 := by have := area_bds hrz; exact this
      obtain ⟨hmb1, hmb2⟩ := hmb
      clear HA ha1 ha2 ha3 ha4 hzz hbm
      go_wp2_with fail
      go_loopw [8, 9] (fun s i wr => ∃ k : Nat, k ≤ N.length ∧ i = .int .i64 k ∧ s = .int .i64 (areas (N.take k)) ∧ Below w7.heap.size w7 wr) (fun _ i _ => N.length - (intOf i).toNat)
      case atStart => exact ⟨0, by omega, rfl, rfl, Below.refl _ _⟩
      case round =>
        obtain ⟨k, hk, rfl, rfl, hBr⟩ := hrel
        by_cases hlt : k < N.length
        · have hd : decide ((k : Int) < (N.length : Int)) = true := by simpa using hlt
          obtain ⟨b7, rfl, hb7, hcc⟩ := HC.out (by omega)
          have hget : N[k]? = some N[k] := List.getElem?_eq_getElem hlt
          obtain ⟨c0, c1, c2, c3⟩ := (hcc k _ hget).at (hBr.block b7 hb7)
          generalize hx : N[k] = r at *
          have hrok : r.ok = true := HA4.out r (List.mem_of_getElem? hget)
          have hin : (Rc.mk 0 0 a b).inn r := HA1.out r (List.mem_of_getElem? hget)
          have hsn := areas_snoc hget
          obtain ⟨s1, s2⟩ := areas_take HA4.out k
          obtain ⟨s3, s4⟩ := areas_take HA4.out (k + 1)
          rw [hsn] at s3 s4
          rw [HZ.out] at s2 s4
          have hra := area_bds hrok
          have hra1 : 0 ≤ r.area := hra.1
          have hra2 : r.area ≤ 160000 := hra.2
          have HS := Lib.hid hsn
          have HG := Lib.hid hget
          have HCC := Lib.hid hcc
          have HBR := Lib.hid hBr
          clear hget hx hsn hcc hBr hra
          obtain ⟨S, hS⟩ : ∃ S, areas (N.take k) = S := ⟨_, rfl⟩
          rw [hS] at s1 s2 s3 s4
          rw [hS]
          have HS0 := Lib.hid hS
          clear hS
          go_wp2_with fail
          with_reducible refine (area_z r hrok _).mono ?_
          rintro e w8 ⟨rfl, hb8⟩
          replace HBR := Lib.hid (HBR.out.trans (hb8.mono HBR.out.size))
          clear hb8 c0 c1 c2 c3
          obtain ⟨c0, c1, c2, c3⟩ := (HCC.out k _ HG.out).at (HBR.out.block b7 hb7)
          have hb78 := Nat.lt_of_lt_of_le hb7 HBR.out.size
          go_wp2_with fail
          refine wp_region_grow 9 0 (· < 9) (by kernel_rfl) (by kernel_rfl) rfl ?_
          iterate 9 (refine wpG_step (fun K hK => ?_); first | (refine grow_skip rfl ?_; go_simp; refine hK _ ?_; clear hK K) | (apply Exists.intro; refine ⟨.inl ⟨rfl, fun w' hw' => ?_⟩, ?_⟩; (focus ((obtain ⟨hc, hf⟩ := bcell hw'.out); (have hcS := bcellS hw'.out); go_simp <;> first | rfl | (go_at_call 28; exact room_z a b _) | (go_at_call 22; exact within2_z ⟨0, 0, a, b⟩ r hrz hrok hin _))); (go_simp; refine hK _ ?_; clear hK K)))
          refine wpG_nil ?_
          refine wpK_tail (by kernel_rfl) (fun w9 hg9 => ?_)
          have hb9 := bdrewn hg9.out
          refine wpAny_end (by kernel_rfl) ?_
          refine NoPan.thn ?_
          clear hg9
          replace HBR := Lib.hid (HBR.out.trans (hb9.mono HBR.out.size))
          clear hb9 c0 c1 c2 c3 hb78
          go_wp2_with fail
          go_loopw [10] (fun i wr2 => ∃ j : Nat, j ≤ k ∧ i = .int .i64 j ∧ Below w7.heap.size w7 wr2) (fun i _ => k - (intOf i).toNat)
          case atStart => exact ⟨0, by omega, rfl, HBR.out⟩
          case round =>
            obtain ⟨j, hj, rfl, hBq⟩ := hrel
            clear HBR
            by_cases hjk : j < k
            · have hd2 : decide ((j : Int) < (k : Int)) = true := by simpa using hjk
              have hjl : j < N.length := by omega
              have hgetj : N[j]? = some N[j] := List.getElem?_eq_getElem hjl
              obtain ⟨c0, c1, c2, c3⟩ := (HCC.out k _ HG.out).at (hBq.block b7 hb7)
              obtain ⟨d0, d1, d2, d3⟩ := (HCC.out j _ hgetj).at (hBq.block b7 hb7)
              have hb78 := Nat.lt_of_lt_of_le hb7 hBq.size
              generalize hx : N[j] = q at *
              have hmet := meetB_met (pair_of HA2.out hjk hgetj HG.out)
              have HBQ := Lib.hid hBq
              clear hgetj hx hBq
              go_wp2_with fail
              refine wp_named (fun W1 e1 => ?_)
              replace e1 := Lib.hid e1
              refine wp_region_grow 12 3 (fun i => decide (i < 13) && i != 11) (by kernel_rfl) (by kernel_rfl) rfl ?_
              iterate 12 (refine wpG_step (fun K hK => ?_); apply Exists.intro; refine ⟨.inl ⟨rfl, fun w' hw' => ?_⟩, ?_⟩; (focus ((obtain ⟨hc, hf⟩ := bcell hw'.out); (have hcS := bcellS hw'.out); go_simp <;> first | rfl | (go_at_call 32; exact MeetRects_no q.x q.y q.u q.v r.x r.y r.u r.v _ hmet))); (go_simp; refine hK _ ?_; clear hK K))
              refine wpG_nil ?_
              refine wpK_one (i := 12) (by kernel_rfl) rfl rfl (by kernel_rfl) (fun w1_0 h1_0 => ?_)
              go_simp
              refine ⟨Gr.alloc _ _, ?_⟩
              refine wpK_tail (by kernel_rfl) (fun w1_9 h1_9 => ?_)
              obtain ⟨hc1_9, hf1_9⟩ := bcell h1_9.out
              refine wpAny_one (i := 13) (by kernel_rfl) rfl rfl ?_
              go_simp
              refine wpAny_one (i := 14) (by kernel_rfl) rfl rfl ?_
              go_simp
              refine wpAny_end (by kernel_rfl) ?_
              have s1_a : W1.heap.size ≤ w1_9.heap.size := by rw [e1.out]; exact Nat.le_trans h1_0.out.size (Nat.le_trans (by simp) h1_9.out.size)
              have s1_b : W1.heap.size ≤ w1_0.heap.size := by rw [e1.out]; exact h1_0.out.size
              have s1_c : w1_0.heap.size < w1_9.heap.size := by have := h1_9.out.size; simp at this; omega
              have b1_a : Below W1.heap.size W1 w1_9 := by rw [e1.out]; exact bgrow (balloc (bgrow (Below.refl _ _).drew h1_0)) h1_9
              refine NoPan.gen (fun wf => Below W1.heap.size W1 wf ∧ W1.heap.size ≤ w1_0.heap.size ∧ w1_0.heap.size < wf.heap.size ∧ wf.cell? ⟨w1_0.heap.size, 0, none⟩ = some (.int .i64 0) ∧ wf.frozen? ⟨w1_0.heap.size, 0, none⟩ = false ∧ wf.cell? ⟨w1_0.heap.size, 1, none⟩ = some (.int .i64 0) ∧ wf.frozen? ⟨w1_0.heap.size, 1, none⟩ = false ∧ wf.cell? ⟨w1_0.heap.size, 2, none⟩ = some (.int .i64 0) ∧ wf.frozen? ⟨w1_0.heap.size, 2, none⟩ = false ∧ wf.cell? ⟨w1_0.heap.size, 3, none⟩ = some (.int .i64 0) ∧ wf.frozen? ⟨w1_0.heap.size, 3, none⟩ = false) ?_ (fun wf1 hwf1 => ?_)
              · refine ⟨by repeat (first | exact b1_a | (refine bset ?_ ?_; rotate_left; ((try dsimp only); omega))), ?_⟩
                refine ⟨s1_b, ?_⟩
                refine ⟨by simp; omega, ?_⟩
                go_simp
              generalize hgb1 : w1_0.heap.size = b1 at *
              have E := e1.out
              subst E
              obtain ⟨hB1, hl1, hu1, c1_0, f1_0, c1_1, f1_1, c1_2, f1_2, c1_3, f1_3⟩ := hwf1
              try simp only [World.size_alloc] at hl1
              clear hgb1 e1 hc1_9 hf1_9 s1_a s1_b s1_c b1_a h1_9 w1_9 h1_0 w1_0
              obtain ⟨hc1, hf1⟩ := bcell hB1
              replace HBQ := Lib.hid (HBQ.out.trans (hB1.mono HBQ.out.size))
              clear hB1 hc1 hf1 c0 c1 c2 c3 d0 d1 d2 d3 hb78
              go_wp2
              go_roundw
              case rel => exact ⟨j + 1, by omega, by go_num, HBQ.out⟩
              case measure => simp [intOf]; omega
            · have hd2 : decide ((j : Int) < (k : Int)) = false := by simp; omega
              have HBQ := Lib.hid hBq
              clear hBq
              go_wp2
              go_roundw
              case rel => exact ⟨k + 1, by omega, by go_num, by rw [HS.out, HS0.out], HBQ.out⟩
              case measure => simp [intOf]; omega
        · have hd : decide ((k : Int) < (N.length : Int)) = false := by simp; omega
          obtain rfl : k = N.length := by omega
          rw [List.take_length, HZ.out]
          have HBR := Lib.hid hBr
          have hml : ((M.length : Int) == (L.length : Int)) = true := by rw [HML.out]; simp
          clear hBr
          go_wp2
          go_ret
          exact ⟨rfl, HB.out.trans (HBR.out.mono HB.out.size)⟩
  · have hl1 : (1048576 : Int) < n := by omega
    go_enter Try.func7, Try.ntmps7
    go_wp2
    go_ret
    exact ⟨rfl, Below.refl _ _⟩
set_option maxRecDepth 100000 in
theorem lifted (os : Os) (started : os.Started) (H : Type) (enc : TypeId × Value → H) :
    ReturnsInHanded {} Try.checked os 7 .any (Rows.fnPackParcelsSpec.pre6 enc Try.prog Try.f7 Rows.fnPackParcelsRow.domain false) (Rows.fnPackParcelsSpec.post enc Try.prog Try.f7 false true false false) := by
  refine returnsInHanded_of_change (C := Try.checked) own started (by kernel_rfl) Try.func7
    (ChangeSpec.witness6 (enc := enc) (C := Try.checked) false ⟨#[], #[.slice none 0 0], []⟩ 8 (by kernel_rfl) (by kernel_rfl) (by kernel_rfl) (by kernel_rfl)) ?_
  intro W base args ds gs before hval0 hW hcnd _
  have hval : ∀ (j : Nat) t v, Try.f7.params[j]? = some t → args[j]? = some v → Value.okWide Try.prog W .any base t v := hval0
  have hW' := hW
  obtain ⟨p, q, hA0, hV, rfl, hfz, hnd⟩ := hW
  have hA : DataW.TrodAll enc Try.prog W 0 (fun _ => true) true Try.f7.params.toList args.toList ds p := hA0
  rw [Try.params7] at hA hval
  obtain ⟨v0, vs0, d0, ds0, p0, q0, hargs, rfl, rfl, h0, r0⟩ := trodAll_cons hA
  obtain ⟨rfl, rfl, rfl⟩ := trodAll_nil r0
  obtain rfl : args = #[v0] := by cases args; simp_all
  obtain ⟨rfl, rfl⟩ := trodVars_none hV
  have k0 := h0
  have lt0 : ∀ x ∈ p0, x.block < W.heap.size := by obtain ⟨m, hm⟩ := k0; exact DataW.trod_lt m _ _ _ hm
  obtain ⟨a0, len0, cap0, rfl⟩ := okWide_slice Try.underlying29 (hval 0 29 v0 rfl rfl)
  obtain ⟨z0, wz0⟩ : ∃ zs, IsRow .u8 W a0 len0 cap0 zs := by
    obtain ⟨fuel, hf⟩ := h0
    rcases open_ints Try.underlying29 Try.underlying5 (by kernel_rfl) hf with ⟨hcs, _⟩ | ⟨x, l, c, zs, hcs, _, hl, hm, hz, _, hcell, hwz⟩
    · simp [Value.cells] at hcs
      obtain ⟨rfl, rfl, rfl⟩ := hcs
      exact ⟨[], .inl ⟨rfl, rfl, rfl, rfl⟩⟩
    · simp [Value.cells] at hcs
      obtain ⟨rfl, rfl, rfl⟩ := hcs
      exact ⟨zs, .inr ⟨_, rfl, hl, hm, by simpa using hz, hcell, hwz⟩⟩
  clear hA0 hval0
  refine (walk a0 len0 cap0 z0 W wz0).mono fun e W' ⟨he, bel⟩ => ?_
  subst he
  exact ⟨_, rfl, _, _, _, [], _, [], hW', trodAll_mk1 (shut_bool Try.underlying4 _), (trodAll_cons_mk (Below.trod laidOut (by kernel_rfl) (of_decide_eq_true (by kernel_rfl)) k0 bel lt0) trodAll_mk0), rfl, bel.frame _, fun h => by cases h⟩
theorem over : Rows.fnPackParcelsRow.holds Try.pinned (OpenSpec.ofChange Rows.fnPackParcelsSpec) :=
  OpenClaim.holds_of_wide 7 Try.f7 rfl rfl rfl rfl rfl rfl rfl ⟨rfl, rfl, rfl, rfl, rfl⟩ rfl rfl rfl rfl rfl (by kernel_rfl) Try.func7 (by kernel_rfl)
    (of_decide_eq_true (by kernel_rfl)) (by unfold Func.isWrapper; first | (rw [if_pos (by decide +kernel)]; kernel_rfl) | (rw [if_neg (by decide +kernel)]; exact ⟨rfl, rfl⟩))
    (fun os started H enc _ => lifted os started H enc)
theorem proved : Rows.FnPackParcelsSaid := over
end Go.Proofs.Ytjdjahckdgbkbab.lPackParcels
