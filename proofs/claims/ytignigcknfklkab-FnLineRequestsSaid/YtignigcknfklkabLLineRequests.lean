/- FnLineRequests: for every code the law returns true. No condition. -/
import Derived.Test.YtignigcknfklkabQ08
namespace Go.Proofs.Ytignigcknfklkab.lLineRequests
open Go.ChangeShapes Go.WideShapes Go.ChangeAt Go.RowKit Go.Joins
set_option linter.unusedVariables false
set_option maxHeartbeats 1000000
attribute [local go_sem] growUpon_value growUpon_skip growUpon_enter
theorem ltot_z (g o n c : Nat) (L : List Int) (W : World) (h : NV W (some ⟨g, o, none⟩) L) (hn : n = L.length) (hM : Smal 1000000000 L) (h5 : n ≤ 5) : ∀ w', Below W.heap.size W w' → Calls Try.prog 13 #[.slice (some ⟨g, o, none⟩) n c] w' fun e w'' => e = .returned (.int .i64 (sumI L)) ∧ Gr w' w'' :=
  fun w' hb => (ltotal_n _ c n L w' (h.keep hb) hn (by omega) hM).mono fun e w'' ⟨he, hw⟩ => ⟨he, by subst hw; exact Gr.refl _⟩
set_option maxRecDepth 100000 in
theorem walk (A : Option Addr) (n c : Nat) (z : List Int) (w : World) (wz : IsRow .u8 w A n c z) : Calls Try.prog 3 #[.slice A n c] w fun e w' => e = .returned (.bool true) ∧ Below w.heap.size w w' := by
  obtain ⟨hb, hn, hc⟩ := wz.bts
  clear wz
  by_cases hlen : n ≤ 1048576
  · have hl1 : ¬ (1048576 : Int) < n := by omega
    go_enter Try.func3, Try.ntmps3
    go_wp2_with fail
    with_reducible refine (DrawLineRequests_any A n c _ hb hn hc).mono ?_
    rintro e w1 ⟨⟨A1, c1, L, A2, c2, S, rfl, hlv, hsv, hL5, hS6, hcap⟩, hB⟩
    have HB := Lib.hid hB
    clear hb hn hc hB
    obtain ⟨M, hM⟩ : ∃ M, lrM L S = M := ⟨_, rfl⟩
    have hM5 := lrM_len L S
    rw [hM] at hM5
    have hM6 : M.length ≤ 1048576 := by omega
    have HM := Lib.hid hM
    have HL := Lib.hid hlv
    have HS := Lib.hid hsv
    clear hM hlv hsv
    go_wp2_with fail
    with_reducible refine (LineRequests_c A1 c1 _ L A2 c2 _ S M _ HL.out HS.out rfl rfl (by omega) (by omega) HM.out).mono ?_
    rintro e w2 ⟨⟨B, rfl, hmv⟩, hb2⟩
    replace HL := Lib.hid (HL.out.keep hb2)
    replace HS := Lib.hid (HS.out.keep hb2)
    replace HB := Lib.hid (bkeep2 HB.out hb2)
    clear hb2
    have HV := Lib.hid hmv
    have HR := Lib.hid (show NR w2 (.slice B M.length M.length) M from ⟨_, _, rfl, hmv⟩)
    clear hmv
    by_cases hM0 : M.length = 0
    · have hm0 : ((M.length : Int) == 0) = true := by rw [hM0]; rfl
      clear hM0
      go_wp2_with fail
      with_reducible refine (sLineRequests_c A1 c1 _ L A2 c2 _ S M _ HL.out HS.out rfl rfl (by omega) (by omega) hcap HM.out).mono ?_
      rintro e w3 ⟨⟨x, rfl, hx⟩, hb3⟩
      replace HL := Lib.hid (HL.out.keep hb3)
      replace HS := Lib.hid (HS.out.keep hb3)
      replace HR := Lib.hid (HR.out.keep hb3)
      replace HB := Lib.hid (bkeep2 HB.out hb3)
      clear hb3
      go_wp2_with fail
      with_reducible refine (equalInts_z _ _ M _ HR.out hx hM6).mono ?_
      rintro e w4 ⟨rfl, hb4⟩
      clear hx
      replace HL := Lib.hid (HL.out.keep hb4)
      replace HS := Lib.hid (HS.out.keep hb4)
      replace HR := Lib.hid (HR.out.keep hb4)
      replace HB := Lib.hid (bkeep2 HB.out hb4)
      clear hb4
      go_wp2_with fail
      with_reducible refine (sLineRequests_c A1 c1 _ L A2 c2 _ S M _ HL.out HS.out rfl rfl (by omega) (by omega) hcap HM.out).mono ?_
      rintro e w5 ⟨⟨x, rfl, hx⟩, hb5⟩
      replace HL := Lib.hid (HL.out.keep hb5)
      replace HS := Lib.hid (HS.out.keep hb5)
      replace HR := Lib.hid (HR.out.keep hb5)
      replace HB := Lib.hid (bkeep2 HB.out hb5)
      clear hb5
      go_wp2_with fail
      with_reducible refine (equalInts_z _ _ M _ HR.out hx hM6).mono ?_
      rintro e w6 ⟨rfl, hb6⟩
      clear hx
      replace HL := Lib.hid (HL.out.keep hb6)
      replace HS := Lib.hid (HS.out.keep hb6)
      replace HR := Lib.hid (HR.out.keep hb6)
      replace HB := Lib.hid (bkeep2 HB.out hb6)
      clear hb6
      go_wp2
      go_ret
      exact ⟨rfl, HB.out⟩
    · have hm0 : ((M.length : Int) == 0) = false := beq_eq_false_iff_ne.2 (by omega)
      have hg := lrM_yes (L := L) (S := S) (by rw [HM.out]; omega)
      obtain ⟨v1, v2, e3⟩ := hg
      rw [HM.out] at e3
      have hwo := wish_ok v1 v2
      rw [← e3] at hwo
      obtain ⟨hsok, hML, hMx, -, -⟩ := hwo
      have hneed := wish_need v1 v2
      rw [← e3] at hneed
      have hspan := (spansB_yes v2).2
      have hseg : ∀ a m, a + m ≤ M.length → Smal 1000000000 (segI M a m) := fun a m h => (seg_sum hMx h (by omega)).2.2
      have HML := Lib.hid hML
      have HSK := Lib.hid hsok
      have HND := Lib.hid hneed
      have HSP := Lib.hid hspan
      have HSG := Lib.hid hseg
      have hm1 : 0 < M.length := by omega
      clear hM0 v1 v2 e3 hML hsok hneed hspan hseg hMx
      go_wp2_with fail
      with_reducible refine (sLineRequests_c A1 c1 _ L A2 c2 _ S M _ HL.out HS.out rfl rfl (by omega) (by omega) hcap HM.out).mono ?_
      rintro e w3 ⟨⟨x, rfl, hx⟩, hb3⟩
      replace HL := Lib.hid (HL.out.keep hb3)
      replace HS := Lib.hid (HS.out.keep hb3)
      replace HR := Lib.hid (HR.out.keep hb3)
      replace HV := Lib.hid (HV.out.keep hb3)
      replace HB := Lib.hid (bkeep2 HB.out hb3)
      clear hb3
      go_wp2_with fail
      with_reducible refine (equalInts_z _ _ M _ HR.out hx hM6).mono ?_
      rintro e w4 ⟨rfl, hb4⟩
      clear hx
      replace HL := Lib.hid (HL.out.keep hb4)
      replace HS := Lib.hid (HS.out.keep hb4)
      replace HR := Lib.hid (HR.out.keep hb4)
      replace HV := Lib.hid (HV.out.keep hb4)
      replace HB := Lib.hid (bkeep2 HB.out hb4)
      clear hb4
      go_wp2_with fail
      go_loopw [6] (fun i wr => ∃ k : Nat, k ≤ S.length ∧ i = .int .i64 k ∧ Below w4.heap.size w4 wr) (fun i _ => S.length - (intOf i).toNat)
      case atStart => exact ⟨0, by omega, rfl, Below.refl _ _⟩
      case round =>
        obtain ⟨k, hk, rfl, hBr⟩ := hrel
        by_cases hlt : k < S.length
        · have hd : decide ((k : Int) < (S.length : Int)) = true := by simpa using hlt
          have hvv := HV.out.keep hBr
          obtain ⟨bm, om, rfl, hbm, hpm⟩ := hvv.cells (by omega)
          obtain ⟨bs, os, rfl, hbs, hps⟩ := (HS.out.keep hBr).cells (by omega)
          have hgs : S[k]? = some S[k] := List.getElem?_eq_getElem hlt
          have hmem := List.getElem_mem hlt
          obtain ⟨a, m, ea, em, hm1', ham, hn0, hn1⟩ := spanB_yes (HSP.out _ hmem)
          have hnd := HND.out _ hmem
          obtain ⟨s0, s1, s2⟩ := hps k _ hgs
          generalize S[k] = x at *
          rw [ea] at s0 hnd
          rw [em] at s1 hnd
          simp only [Int.toNat_natCast] at hnd
          have hML := HML.out
          have haM : a + m ≤ M.length := by omega
          have hmn : m ≤ 5 := by omega
          have T1 := Lib.hid (ltot_z bm (om + a) m (M.length - a) (segI M a m) wr (NV.segV hbm hpm a m) (segI_len haM).symm (HSG.out a m haM) hmn)
          obtain ⟨q, hq⟩ : ∃ q, sumI (segI M a m) = q := ⟨_, rfl⟩
          rw [hq] at T1 hnd
          have e0 : decide (q < x.need) = false := decide_eq_false (by omega)
          have j1 : a ≤ M.length := by omega
          have j5 : (0 : Int) ≤ (a : Int) + (m : Int) := by omega
          have j6 : (a : Int) + (m : Int) ≤ (M.length : Int) := by omega
          have j7 : ((a : Int) + (m : Int)).toNat = a + m := by omega
          have j11 : ¬ M.length = a := by omega
          have j1w : IntKind.i64.wrap ((a : Int) + (m : Int)) = (a : Int) + (m : Int) := IntWalk.i64_in _ (by omega)
          have HBR := Lib.hid hBr
          clear hpm hps hgs hBr hvv hmem ea em hnd hq hML haM
          go_wp2_with fail
          refine wp_region_grow 25 0 (· < 25) (by kernel_rfl) (by kernel_rfl) rfl ?_
          iterate 25 (refine wpG_step (fun K hK => ?_); first | (refine grow_skip rfl ?_; go_simp; refine hK _ ?_; clear hK K) | (apply Exists.intro; refine ⟨.inl ⟨rfl, fun w' hw' => ?_⟩, ?_⟩; (focus ((obtain ⟨hc, hf⟩ := bcell hw'.out); (have hcS := bcellS hw'.out); go_simp <;> first | rfl | (go_at_call 13; with_reducible exact T1.out _ (bdrewn hw'.out)))); (go_simp; refine hK _ ?_; clear hK K)))
          refine wpG_nil ?_
          refine wpK_tail (by kernel_rfl) (fun w8 hg8 => ?_)
          have hb8 := bdrewn hg8.out
          refine wpAny_end (by kernel_rfl) ?_
          refine NoPan.thn ?_
          clear hg8
          replace HBR := Lib.hid (HBR.out.trans (hb8.mono HBR.out.size))
          clear hb8 s0 s1 s2
          go_wp2
          go_roundw
          case rel => exact ⟨k + 1, by omega, by go_num, HBR.out⟩
          case measure => simp [intOf]; omega
        · have hd : decide ((k : Int) < (S.length : Int)) = false := decide_eq_false (by omega)
          have HV2 := Lib.hid (HV.out.keep hBr)
          have HL2 := Lib.hid (HL.out.keep hBr)
          have HBR := Lib.hid hBr
          clear hBr
          go_wp2_with fail
          go_loopw [7] (fun i w9 => ∃ k : Nat, k ≤ M.length ∧ i = .int .i64 k ∧ Below wr.heap.size wr w9) (fun i _ => M.length - (intOf i).toNat)
          case atStart => exact ⟨0, by omega, rfl, Below.refl _ _⟩
          case round =>
            rename_i w9
            obtain ⟨k, hk, rfl, hB9⟩ := hrel
            by_cases hlt2 : k < M.length
            · have hd2 : decide ((k : Int) < (M.length : Int)) = true := by simpa using hlt2
              have hltL : k < L.length := by have := HML.out; omega
              obtain ⟨bm, om, rfl, hbm, hpm⟩ := (HV2.out.keep hB9).cells (by omega)
              obtain ⟨bl, ol, rfl, hbl, hpl⟩ := (HL2.out.keep hB9).cells (by omega)
              have hgm : M[k]? = some M[k] := List.getElem?_eq_getElem hlt2
              have hgl : L[k]? = some L[k] := List.getElem?_eq_getElem hltL
              have hle := (HSK.out.get hgl hgm).1
              have c0 := hpm k _ hgm
              obtain ⟨d0, d1⟩ := hpl k _ hgl
              generalize L[k] = x at *
              generalize M[k] = y at *
              have e0 : decide (y < x.mi) = false := decide_eq_false (by omega)
              have HB9 := Lib.hid hB9
              clear hpm hpl hgm hgl hB9
              go_wp2_with fail
              refine wp_region_grow 10 0 (· < 10) (by kernel_rfl) (by kernel_rfl) rfl ?_
              iterate 10 (refine wpG_step (fun K hK => ?_); first | (refine grow_skip rfl ?_; go_simp; refine hK _ ?_; clear hK K) | (apply Exists.intro; refine ⟨.inl ⟨rfl, fun w' hw' => ?_⟩, ?_⟩; (focus ((obtain ⟨hc, hf⟩ := bcell hw'.out); (have hcS := bcellS hw'.out); go_simp <;> first | rfl | fail)); (go_simp; refine hK _ ?_; clear hK K)))
              refine wpG_nil ?_
              refine wpK_tail (by kernel_rfl) (fun w7 hg7 => ?_)
              have hb7 := bdrewn hg7.out
              refine wpAny_end (by kernel_rfl) ?_
              refine NoPan.thn ?_
              clear hg7
              replace HB9 := Lib.hid (HB9.out.trans (hb7.mono HB9.out.size))
              clear hb7 c0 d0 d1
              go_wp2
              go_roundw
              case rel => exact ⟨k + 1, by omega, by go_num, HB9.out⟩
              case measure => simp [intOf]; omega
            · have hd2 : decide ((k : Int) < (M.length : Int)) = false := decide_eq_false (by omega)
              have hml : ((M.length : Int) == (L.length : Int)) = true := by rw [HML.out]; simp
              have HB9 := Lib.hid hB9
              clear hB9
              go_wp2
              go_ret
              exact ⟨rfl, HB.out.trans ((HBR.out.trans (HB9.out.mono HBR.out.size)).mono HB.out.size)⟩
  · have hl1 : (1048576 : Int) < n := by omega
    go_enter Try.func3, Try.ntmps3
    go_wp2
    go_ret
    exact ⟨rfl, Below.refl _ _⟩
set_option maxRecDepth 100000 in
theorem lifted (os : Os) (started : os.Started) (H : Type) (enc : TypeId × Value → H) :
    ReturnsInHanded {} Try.checked os 3 .any (Rows.fnLineRequestsSpec.pre6 enc Try.prog Try.f3 Rows.fnLineRequestsRow.domain false) (Rows.fnLineRequestsSpec.post enc Try.prog Try.f3 false true false false) := by
  refine returnsInHanded_of_change (C := Try.checked) own started (by kernel_rfl) Try.func3
    (ChangeSpec.witness6 (enc := enc) (C := Try.checked) false ⟨#[], #[.slice none 0 0], []⟩ 8 (by kernel_rfl) (by kernel_rfl) (by kernel_rfl) (by kernel_rfl)) ?_
  intro W base args ds gs before hval0 hW hcnd _
  have hval : ∀ (j : Nat) t v, Try.f3.params[j]? = some t → args[j]? = some v → Value.okWide Try.prog W .any base t v := hval0
  have hW' := hW
  obtain ⟨p, q, hA0, hV, rfl, hfz, hnd⟩ := hW
  have hA : DataW.TrodAll enc Try.prog W 0 (fun _ => true) true Try.f3.params.toList args.toList ds p := hA0
  rw [Try.params3] at hA hval
  obtain ⟨v0, vs0, d0, ds0, p0, q0, hargs, rfl, rfl, h0, r0⟩ := trodAll_cons hA
  obtain ⟨rfl, rfl, rfl⟩ := trodAll_nil r0
  obtain rfl : args = #[v0] := by cases args; simp_all
  obtain ⟨rfl, rfl⟩ := trodVars_none hV
  have k0 := h0
  have lt0 : ∀ x ∈ p0, x.block < W.heap.size := by obtain ⟨m, hm⟩ := k0; exact DataW.trod_lt m _ _ _ hm
  obtain ⟨a0, len0, cap0, rfl⟩ := okWide_slice Try.underlying22 (hval 0 22 v0 rfl rfl)
  obtain ⟨z0, wz0⟩ : ∃ zs, IsRow .u8 W a0 len0 cap0 zs := by
    obtain ⟨fuel, hf⟩ := h0
    rcases open_ints Try.underlying22 Try.underlying5 (by kernel_rfl) hf with ⟨hcs, _⟩ | ⟨x, l, c, zs, hcs, _, hl, hm, hz, _, hcell, hwz⟩
    · simp [Value.cells] at hcs
      obtain ⟨rfl, rfl, rfl⟩ := hcs
      exact ⟨[], .inl ⟨rfl, rfl, rfl, rfl⟩⟩
    · simp [Value.cells] at hcs
      obtain ⟨rfl, rfl, rfl⟩ := hcs
      exact ⟨zs, .inr ⟨_, rfl, hl, hm, by simpa using hz, hcell, hwz⟩⟩
  clear hA0 hval0
  refine (walk a0 len0 cap0 z0 W wz0).mono fun e W' ⟨he, bel⟩ => ?_
  subst he
  exact ⟨_, rfl, _, _, _, [], _, [], hW', trodAll_mk1 (shut_bool Try.underlying4 _), (trodAll_cons_mk (Below.trod laidOut (by kernel_rfl) (of_decide_eq_true (by kernel_rfl)) k0 bel lt0) trodAll_mk0), rfl, bel.frame _, fun h => by cases h⟩
theorem over : Rows.fnLineRequestsRow.holds Try.pinned (OpenSpec.ofChange Rows.fnLineRequestsSpec) :=
  OpenClaim.holds_of_wide 3 Try.f3 rfl rfl rfl rfl rfl rfl rfl ⟨rfl, rfl, rfl, rfl, rfl⟩ rfl rfl rfl rfl rfl (by kernel_rfl) Try.func3 (by kernel_rfl)
    (of_decide_eq_true (by kernel_rfl)) (by unfold Func.isWrapper; first | (rw [if_pos (by decide +kernel)]; kernel_rfl) | (rw [if_neg (by decide +kernel)]; exact ⟨rfl, rfl⟩))
    (fun os started H enc _ => lifted os started H enc)
theorem proved : Rows.FnLineRequestsSaid := over
end Go.Proofs.Ytignigcknfklkab.lLineRequests
