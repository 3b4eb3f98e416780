/- FnLineRequestsNone: for every code the law returns true. No condition. -/
import Derived.Test.YtignigcknfklkabQ08
namespace Go.Proofs.Ytignigcknfklkab.lLineRequestsNone
open Go.ChangeShapes Go.WideShapes Go.ChangeAt Go.RowKit Go.Joins
set_option linter.unusedVariables false
set_option maxHeartbeats 1000000
attribute [local go_sem] growUpon_value growUpon_skip growUpon_enter
attribute [local go_sem 5000] run_mx run_mn
theorem spvals_len : ∀ L : List Sp, (spvals L).length = L.length * 3
  | [] => rfl
  | x :: t => by simp only [spvals, List.length_append, spvals_len t, List.length_cons, valsSp, List.length_nil]; omega
theorem spvals_one : ∀ (L : List Sp), ∀ u ∈ spvals L, u.oneCell' = true
  | [], u, h => by simp [spvals] at h
  | x :: t, u, h => by
    simp only [spvals, List.mem_append] at h
    rcases h with h | h
    · exact valsSp_oneG x u h
    · exact spvals_one t u h
theorem spvals_at {w : World} {b off : Nat} {S : List Sp} (hp : ∀ i p, S[i]? = some p → w.cell? ⟨b, off + i * 3, none⟩ = some (.int .i64 p.sa) ∧ w.cell? ⟨b, off + i * 3 + 1, none⟩ = some (.int .i64 p.many) ∧ w.cell? ⟨b, off + i * 3 + 2, none⟩ = some (.int .i64 p.need)) :
    ∀ (j : Nat) (u : Value), (spvals S)[j]? = some u → w.cell? ⟨b, off + j, none⟩ = some u := fun j u hu => by
  have hj := (List.getElem?_eq_some_iff.1 hu).1
  rw [spvals_len] at hj
  have hi : j / 3 < S.length := by omega
  have hg := List.getElem?_eq_getElem hi
  have h3 := spvals_get hg (j % 3) (by omega)
  rw [show j / 3 * 3 + j % 3 = j by omega, hu] at h3
  obtain ⟨h0, h1, h2⟩ := hp _ _ hg
  have hm : j % 3 = 0 ∨ j % 3 = 1 ∨ j % 3 = 2 := by omega
  rcases hm with e | e | e
  · rw [e] at h3
    simp [valsSp] at h3
    rw [h3, ← h0]; congr 2; omega
  · rw [e] at h3
    simp [valsSp] at h3
    rw [h3, ← h1]; congr 2; omega
  · rw [e] at h3
    simp [valsSp] at h3
    rw [h3, ← h2]; congr 2; omega
theorem ltot_zz (g o n c : Nat) (L : List Int) (W : World) (h : NV W (some ⟨g, o, none⟩) L) (hn : n = L.length) (hM : Smal 1000000000 L) (h5 : n ≤ 5) : ∀ w', Below W.heap.size W w' → Calls Try.prog 13 #[.slice (some ⟨g, o, none⟩) n c] w' fun e w'' => e = .returned (.int .i64 (sumI L)) ∧ Gr w' w'' :=
  fun w' hb => (ltotal_n _ c n L w' (h.keep hb) hn (by omega) hM).mono fun e w'' ⟨he, hw⟩ => ⟨he, by subst hw; exact Gr.refl _⟩
set_option maxRecDepth 100000 in
theorem walk (A : Option Addr) (n c : Nat) (z : List Int) (w : World) (wz : IsRow .u8 w A n c z) : Calls Try.prog 4 #[.slice A n c] w fun e w' => e = .returned (.bool true) ∧ Below w.heap.size w w' := by
  obtain ⟨hb, hn, hc⟩ := wz.bts
  clear wz
  by_cases hlen : n ≤ 1048576
  · have hl1 : ¬ (1048576 : Int) < n := by omega
    go_enter Try.func4, Try.ntmps4
    go_wp2_with fail
    with_reducible refine (DrawLineRequests_any A n c _ hb hn hc).mono ?_
    rintro e w1 ⟨⟨A1, c1, L, A2, c2, S, rfl, hlv, hsv, hL5, hS6, hcap, hA2⟩, hB⟩
    have HB := Lib.hid hB
    clear hb hn hc hB
    obtain ⟨M, hM⟩ : ∃ M, lrM L S = M := ⟨_, rfl⟩
    have hM5 := lrM_len L S
    rw [hM] at hM5
    have hM6 : M.length ≤ 1048576 := by omega
    have HM := Lib.hid hM
    have HL := Lib.hid hlv
    have HS := Lib.hid hsv
    clear hM hlv hsv
    go_wp2_with fail
    with_reducible refine (LineRequests_c A1 c1 _ L A2 c2 _ S M _ HL.out HS.out rfl rfl (by omega) (by omega) HM.out).mono ?_
    rintro e w2 ⟨⟨B, rfl, hmv⟩, hb2⟩
    replace HL := Lib.hid (HL.out.keep hb2)
    replace HS := Lib.hid (HS.out.keep hb2)
    replace HB := Lib.hid (bkeep2 HB.out hb2)
    clear hb2
    have HV := Lib.hid hmv
    have HR := Lib.hid (show NR w2 (.slice B M.length M.length) M from ⟨_, _, rfl, hmv⟩)
    clear hmv
    by_cases hM0 : M.length = 0
    · have hm0 : ((M.length : Int) == 0) = true := by rw [hM0]; rfl
      clear hM0
      go_wp2_with fail
      with_reducible refine (sLineRequests_c A1 c1 _ L A2 c2 _ S M _ HL.out HS.out rfl rfl (by omega) (by omega) hcap HM.out).mono ?_
      rintro e w3 ⟨⟨x, rfl, hx⟩, hb3⟩
      replace HL := Lib.hid (HL.out.keep hb3)
      replace HS := Lib.hid (HS.out.keep hb3)
      replace HR := Lib.hid (HR.out.keep hb3)
      replace HB := Lib.hid (bkeep2 HB.out hb3)
      clear hb3
      go_wp2_with fail
      with_reducible refine (equalInts_z _ _ M _ HR.out hx hM6).mono ?_
      rintro e w4 ⟨rfl, hb4⟩
      clear hx
      replace HL := Lib.hid (HL.out.keep hb4)
      replace HS := Lib.hid (HS.out.keep hb4)
      replace HR := Lib.hid (HR.out.keep hb4)
      replace HB := Lib.hid (bkeep2 HB.out hb4)
      clear hb4
      go_wp2_with fail
      with_reducible refine (sLineRequests_c A1 c1 _ L A2 c2 _ S M _ HL.out HS.out rfl rfl (by omega) (by omega) hcap HM.out).mono ?_
      rintro e w5 ⟨⟨x, rfl, hx⟩, hb5⟩
      replace HL := Lib.hid (HL.out.keep hb5)
      replace HS := Lib.hid (HS.out.keep hb5)
      replace HR := Lib.hid (HR.out.keep hb5)
      replace HB := Lib.hid (bkeep2 HB.out hb5)
      clear hb5
      go_wp2_with fail
      with_reducible refine (equalInts_z _ _ M _ HR.out hx hM6).mono ?_
      rintro e w6 ⟨rfl, hb6⟩
      clear hx
      replace HL := Lib.hid (HL.out.keep hb6)
      replace HS := Lib.hid (HS.out.keep hb6)
      replace HR := Lib.hid (HR.out.keep hb6)
      replace HB := Lib.hid (bkeep2 HB.out hb6)
      clear hb6
      go_wp2
      go_ret
      exact ⟨rfl, HB.out⟩
    · have hm0 : ((M.length : Int) == 0) = false := beq_eq_false_iff_ne.2 (by omega)
      have hg := lrM_yes (L := L) (S := S) (by rw [HM.out]; omega)
      obtain ⟨v1, v2, e3⟩ := hg
      rw [HM.out] at e3
      have hwo := wish_ok v1 v2
      rw [← e3] at hwo
      obtain ⟨hsok, hML, hMx, -, -⟩ := hwo
      have hsm : 0 ≤ sumI M ∧ sumI M ≤ 2150 := by have h := wish_ok v1 v2; rw [← e3] at h; exact h.2.2.2
      have hSml : Smal 1000000000 M := smal_of (b := 1000000) (fun x hx => ⟨by have := (hMx x hx).1; omega, (hMx x hx).2⟩) (by omega) (by omega)
      have hmn := mn_spec (sumI M) 30
      have hL1 := (linesB_len v1).1
      have hnone : lrM L [] = L.map Ln.mi := by
        unfold lrM
        rw [if_pos (by rw [v1]; simp [spansB]), wish_nil]
      have hmore : lrM L (S ++ [⟨0, L.length, mn (sumI M) 30⟩]) = M := by
        have hsp : spansB L.length (S ++ [⟨0, L.length, mn (sumI M) 30⟩]) = true := by
          have h8 := (spansB_yes v2).2
          simp only [spansB, Bool.and_eq_true, decide_eq_true_eq, List.all_append, List.length_append, List.length_cons, List.length_nil, List.all_cons, List.all_nil, Bool.and_true]
          refine ⟨by omega, List.all_eq_true.2 h8, ?_⟩
          simp only [spanB, runB, Bool.and_eq_true, rng_iff]
          omega
        unfold lrM
        rw [if_pos (by rw [v1, hsp]; rfl), wish_more v1 v2 (by rw [← e3]; omega), e3]
      have hmin : ∀ (k : Nat) (x : Ln) (y : Int), L[k]? = some x → M[k]? = some y → x.mi ≤ y := fun k x y h1 h2 => (hsok.get h1 h2).1
      have HML := Lib.hid hML
      have HMN := Lib.hid hmin
      have HNO := Lib.hid hnone
      have HMO := Lib.hid hmore
      have HSL := Lib.hid hSml
      have HAD := Lib.hid hmn
      obtain ⟨sm0, sm1⟩ := hsm
      have hm1 : 0 < M.length := by omega
      have hS8 : decide ((S.length : Int) ≥ 8) = false := decide_eq_false (by omega)
      have hS8' : decide ((8 : Int) ≤ (S.length : Int)) = false := decide_eq_false (by omega)
      clear hM0 v1 v2 e3 hML hsok hMx hSml hmn hnone hmore hmin
      go_wp2_with fail
      with_reducible refine (sLineRequests_c A1 c1 _ L A2 c2 _ S M _ HL.out HS.out rfl rfl (by omega) (by omega) hcap HM.out).mono ?_
      rintro e w3 ⟨⟨x, rfl, hx⟩, hb3⟩
      replace HL := Lib.hid (HL.out.keep hb3)
      replace HS := Lib.hid (HS.out.keep hb3)
      replace HR := Lib.hid (HR.out.keep hb3)
      replace HV := Lib.hid (HV.out.keep hb3)
      replace HB := Lib.hid (bkeep2 HB.out hb3)
      clear hb3
      go_wp2_with fail
      with_reducible refine (equalInts_z _ _ M _ HR.out hx hM6).mono ?_
      rintro e w4 ⟨rfl, hb4⟩
      clear hx
      replace HL := Lib.hid (HL.out.keep hb4)
      replace HS := Lib.hid (HS.out.keep hb4)
      replace HR := Lib.hid (HR.out.keep hb4)
      replace HV := Lib.hid (HV.out.keep hb4)
      replace HB := Lib.hid (bkeep2 HB.out hb4)
      clear hb4
      go_wp2_with fail
      with_reducible refine (LineRequests_c A1 c1 _ L none 0 0 [] (L.map Ln.mi) _ HL.out (SpV.nil _ _) rfl rfl (by omega) (by simp) HNO.out).mono ?_
      rintro e w5 ⟨⟨B0, rfl, hnv⟩, hb5⟩
      replace HL := Lib.hid (HL.out.keep hb5)
      replace HS := Lib.hid (HS.out.keep hb5)
      replace HR := Lib.hid (HR.out.keep hb5)
      replace HV := Lib.hid (HV.out.keep hb5)
      replace HB := Lib.hid (bkeep2 HB.out hb5)
      clear hb5
      have HN0 := Lib.hid hnv
      clear hnv
      rw [List.length_map]
      go_wp2_with fail
      go_loopw [7] (fun i wr => ∃ k : Nat, k ≤ L.length ∧ i = .int .i64 k ∧ Below w5.heap.size w5 wr) (fun i _ => L.length - (intOf i).toNat)
      case atStart => exact ⟨0, by omega, rfl, Below.refl _ _⟩
      case round =>
        obtain ⟨k, hk, rfl, hB9⟩ := hrel
        by_cases hltL : k < L.length
        · have hd2 : decide ((k : Int) < (L.length : Int)) = true := by simpa using hltL
          have hlt2 : k < M.length := by have := HML.out; omega
          obtain ⟨bm, om, rfl, hbm, hpm⟩ := (HV.out.keep hB9).cells (by omega)
          obtain ⟨bn, on_, rfl, hbn, hpn⟩ := (HN0.out.keep hB9).cells (by simp; omega)
          obtain ⟨bl, ol, rfl, hbl, hpl⟩ := (HL.out.keep hB9).cells (by omega)
          have hgm : M[k]? = some M[k] := List.getElem?_eq_getElem hlt2
          have hgl : L[k]? = some L[k] := List.getElem?_eq_getElem hltL
          have hle := HMN.out k _ _ hgl hgm
          have c0 := hpm k _ hgm
          have n0 := hpn k _ (show (L.map Ln.mi)[k]? = some L[k].mi by rw [List.getElem?_map, hgl]; rfl)
          obtain ⟨d0, d1⟩ := hpl k _ hgl
          generalize L[k] = x at *
          generalize M[k] = y at *
          have e0 : decide (y < x.mi) = false := decide_eq_false (by omega)
          have HB9 := Lib.hid hB9
          clear hpm hpl hpn hgm hgl hB9
          go_wp2_with fail
          refine wp_region_grow 21 0 (· < 21) (by kernel_rfl) (by kernel_rfl) rfl ?_
          iterate 21 (refine wpG_step (fun K hK => ?_); first | (refine grow_skip rfl ?_; go_simp; refine hK _ ?_; clear hK K) | (apply Exists.intro; refine ⟨.inl ⟨rfl, fun w' hw' => ?_⟩, ?_⟩; (focus ((obtain ⟨hc, hf⟩ := bcell hw'.out); (have hcS := bcellS hw'.out); go_simp <;> first | rfl | fail)); (go_simp; refine hK _ ?_; clear hK K)))
          refine wpG_nil ?_
          refine wpK_tail (by kernel_rfl) (fun w7 hg7 => ?_)
          have hb7 := bdrewn hg7.out
          refine wpAny_end (by kernel_rfl) ?_
          refine NoPan.thn ?_
          clear hg7
          replace HB9 := Lib.hid (HB9.out.trans (hb7.mono HB9.out.size))
          clear hb7 c0 d0 d1 n0
          go_wp2
          go_roundw
          case rel => exact ⟨k + 1, by omega, by go_num, HB9.out⟩
          case measure => simp [intOf]; omega
        · have hd2 : decide ((k : Int) < (L.length : Int)) = false := decide_eq_false (by omega)
          replace HB := Lib.hid (HB.out.trans (hB9.mono HB.out.size))
          replace HL := Lib.hid (HL.out.keep hB9)
          replace HS := Lib.hid (HS.out.keep hB9)
          replace HR := Lib.hid (HR.out.keep hB9)
          replace HV := Lib.hid (HV.out.keep hB9)
          clear hB9 HN0
          obtain ⟨ti, tz, ti1, ti2, ti3, ti4, ti5⟩ := sp_infoG
          have ho0 : (wr.alloc (.cells #[] 32 (0, 0))).ownsRow wr.heap.size 32 3 (.slice (some ⟨wr.heap.size, 0, none⟩) 0 0) 0 (spvals []) := World.ownsRow_lit (base := wr.heap.size) (e := 32) (size := 3) wr #[] 0 (Nat.le_refl _) (by decide) rfl
          have HO := Lib.hid ho0
          have hob0 := ho0.lt
          clear ho0
          rcases A2 with _ | ad
          · exact absurd rfl hA2
          · have hnews : ∀ (j : Nat) (u : Value), (spvals S)[j]? = some u → (wr.alloc (.cells #[] 32 (0, 0))).cell? (ad.add j) = some u := fun j u hu => by
              have h0 : 0 < S.length := by
                rcases Nat.eq_zero_or_pos S.length with h | h
                · rw [List.length_eq_zero_iff.1 h] at hu; simp [spvals] at hu
                · exact h
              obtain ⟨b, off, e, hlt, hp⟩ := HS.out.cells h0
              cases e
              have hadd : (⟨b, off, none⟩ : Addr).add j = ⟨b, off + j, none⟩ := by unfold Addr.add; split <;> simp_all
              rw [hadd, Below.cell (Below.alloc (Below.refl wr.heap.size wr) (Nat.le_refl _) _) (p := ⟨b, off + j, none⟩) hlt]
              exact spvals_at hp j u hu
            have HNW := Lib.hid hnews
            clear hnews
            go_wp2_with (at_builtin; refine wpList_append_own _ rfl _ _ 24 rfl wr.heap.size 32 ti tz 3 24 Try.underlying24 ti1 ti2 ti3 ti4 ti5 (by decide) _ _ _ rfl HO.out ad S.length c2 (spvals S) rfl (spvals_len S) HNW.out (spvals_one S) (by simp only [maxLen]; omega) (by omega) (by simp) ?_)
            intro v5 w6 how5 hgr5 _
            have HB6 := below_own (Below.refl wr.heap.size wr) hgr5 hob0 (Nat.le_refl _) (Nat.le_refl _)
            have hob6 := how5.lt
            have HOX := Lib.hid (show w6.ownsRow wr.heap.size 32 3 v5 S.length (spvals S) by simpa [spvals] using how5)
            clear how5 hgr5 HNW hob0
            have HBX := Lib.hid HB6
            replace HV := Lib.hid (HV.out.keep HB6)
            clear HB6
            clear HO
            go_wp2_with fail
            with_reducible refine (ltotal_n B M.length M.length M _ HV.out rfl hM6 HSL.out).mono ?_
            rintro e w7 ⟨rfl, rfl⟩
            have hobx := HOX.out.lt
            have hsx := HBX.out.size
            go_wp2_with (at_builtin; refine wpList_append_own _ rfl _ _ 24 rfl wr.heap.size 32 ti tz 3 24 Try.underlying24 ti1 ti2 ti3 ti4 ti5 (by decide) _ _ _ rfl (HOX.out.alloc _) ⟨(w6).heap.size, 0, none⟩ 1 1 (valsSp ⟨0, L.length, mn (sumI M) 30⟩) rfl rfl (sp_newG _ ⟨0, L.length, mn (sumI M) 30⟩ _) (valsSp_oneG _) (by simp only [maxLen]; omega) (by omega) (by first | (simp; done) | (simp; omega) | omega) ?_)
            intro v8 w8 how8 hgr8 _
            rw [spvals_snoc] at how8
            have hb8 : Below wr.heap.size wr w8 := below_own HBX.out hgr8 hobx (Nat.le_refl _) (Nat.le_refl _)
            obtain ⟨A9, c9, rfl, -, hv9, -⟩ := SpO.of (L := S ++ [⟨0, L.length, mn (sumI M) 30⟩]) (by simpa using how8)
            have HL8 := Lib.hid (HL.out.keep hb8)
            have HR8 := Lib.hid (HR.out.keep hb8)
            have HB8 := Lib.hid (bkeep2 HB.out hb8)
            have HV9 := Lib.hid hv9
            clear hgr8 hb8 hobx hv9 how8 HOX HV
            go_wp2_with fail
            with_reducible refine (LineRequests_c A1 c1 _ L A9 c9 _ (S ++ [⟨0, L.length, mn (sumI M) 30⟩]) M _ HL8.out HV9.out rfl (by simp) (by omega) (by simp; omega) HMO.out).mono ?_
            rintro e w10 ⟨⟨B2, rfl, hm2⟩, hb10⟩
            have HR10 := Lib.hid (HR8.out.keep hb10)
            have HM2 := Lib.hid (show NR w10 (.slice B2 M.length M.length) M from ⟨_, _, rfl, hm2⟩)
            replace HB8 := Lib.hid (bkeep2 HB8.out hb10)
            clear hm2 hb10
            go_wp2_with fail
            with_reducible refine (equalInts_z _ _ M _ HM2.out HR10.out hM6).mono ?_
            rintro e w11 ⟨rfl, hb11⟩
            replace HB8 := Lib.hid (bkeep2 HB8.out hb11)
            clear hb11
            go_wp2
            go_ret
            exact ⟨rfl, HB8.out⟩
  · have hl1 : (1048576 : Int) < n := by omega
    go_enter Try.func4, Try.ntmps4
    go_wp2
    go_ret
    exact ⟨rfl, Below.refl _ _⟩
set_option maxRecDepth 100000 in
theorem lifted (os : Os) (started : os.Started) (H : Type) (enc : TypeId × Value → H) :
    ReturnsInHanded {} Try.checked os 4 .any (Rows.fnLineRequestsNoneSpec.pre6 enc Try.prog Try.f4 Rows.fnLineRequestsNoneRow.domain false) (Rows.fnLineRequestsNoneSpec.post enc Try.prog Try.f4 false true false false) := by
  refine returnsInHanded_of_change (C := Try.checked) own started (by kernel_rfl) Try.func4
    (ChangeSpec.witness6 (enc := enc) (C := Try.checked) false ⟨#[], #[.slice none 0 0], []⟩ 8 (by kernel_rfl) (by kernel_rfl) (by kernel_rfl) (by kernel_rfl)) ?_
  intro W base args ds gs before hval0 hW hcnd _
  have hval : ∀ (j : Nat) t v, Try.f4.params[j]? = some t → args[j]? = some v → Value.okWide Try.prog W .any base t v := hval0
  have hW' := hW
  obtain ⟨p, q, hA0, hV, rfl, hfz, hnd⟩ := hW
  have hA : DataW.TrodAll enc Try.prog W 0 (fun _ => true) true Try.f4.params.toList args.toList ds p := hA0
  rw [Try.params4] at hA hval
  obtain ⟨v0, vs0, d0, ds0, p0, q0, hargs, rfl, rfl, h0, r0⟩ := trodAll_cons hA
  obtain ⟨rfl, rfl, rfl⟩ := trodAll_nil r0
  obtain rfl : args = #[v0] := by cases args; simp_all
  obtain ⟨rfl, rfl⟩ := trodVars_none hV
  have k0 := h0
  have lt0 : ∀ x ∈ p0, x.block < W.heap.size := by obtain ⟨m, hm⟩ := k0; exact DataW.trod_lt m _ _ _ hm
  obtain ⟨a0, len0, cap0, rfl⟩ := okWide_slice Try.underlying22 (hval 0 22 v0 rfl rfl)
  obtain ⟨z0, wz0⟩ : ∃ zs, IsRow .u8 W a0 len0 cap0 zs := by
    obtain ⟨fuel, hf⟩ := h0
    rcases open_ints Try.underlying22 Try.underlying5 (by kernel_rfl) hf with ⟨hcs, _⟩ | ⟨x, l, c, zs, hcs, _, hl, hm, hz, _, hcell, hwz⟩
    · simp [Value.cells] at hcs
      obtain ⟨rfl, rfl, rfl⟩ := hcs
      exact ⟨[], .inl ⟨rfl, rfl, rfl, rfl⟩⟩
    · simp [Value.cells] at hcs
      obtain ⟨rfl, rfl, rfl⟩ := hcs
      exact ⟨zs, .inr ⟨_, rfl, hl, hm, by simpa using hz, hcell, hwz⟩⟩
  clear hA0 hval0
  refine (walk a0 len0 cap0 z0 W wz0).mono fun e W' ⟨he, bel⟩ => ?_
  subst he
  exact ⟨_, rfl, _, _, _, [], _, [], hW', trodAll_mk1 (shut_bool Try.underlying4 _), (trodAll_cons_mk (Below.trod laidOut (by kernel_rfl) (of_decide_eq_true (by kernel_rfl)) k0 bel lt0) trodAll_mk0), rfl, bel.frame _, fun h => by cases h⟩
theorem over : Rows.fnLineRequestsNoneRow.holds Try.pinned (OpenSpec.ofChange Rows.fnLineRequestsNoneSpec) :=
  OpenClaim.holds_of_wide 4 Try.f4 rfl rfl rfl rfl rfl rfl rfl ⟨rfl, rfl, rfl, rfl, rfl⟩ rfl rfl rfl rfl rfl (by kernel_rfl) Try.func4 (by kernel_rfl)
    (of_decide_eq_true (by kernel_rfl)) (by unfold Func.isWrapper; first | (rw [if_pos (by decide +kernel)]; kernel_rfl) | (rw [if_neg (by decide +kernel)]; exact ⟨rfl, rfl⟩))
    (fun os started H enc _ => lifted os started H enc)
theorem proved : Rows.FnLineRequestsNoneSaid := over
end Go.Proofs.Ytignigcknfklkab.lLineRequestsNone
