/- FnSpreadBy: for every code the law returns true. No condition. -/
import Derived.Test.YtnkoeekgdehhiadQ04
namespace Go.Proofs.Ytnkoeekgdehhiad.lSpreadBy
open Go.ChangeShapes Go.WideShapes Go.ChangeAt Go.RowKit Go.Joins
set_option linter.unusedVariables false
set_option maxHeartbeats 1000000
attribute [local go_sem] growUpon_value growUpon_skip growUpon_enter
set_option maxRecDepth 100000 in
theorem walk (A : Option Addr) (n c : Nat) (z : List Int) (w : World) (wz : IsRow .u8 w A n c z) : Calls Try.prog 4 #[.slice A n c] w fun e w' => e = .returned (.bool true) ∧ Below w.heap.size w w' := by
  obtain ⟨hb, hn, hc⟩ := wz.bts
  clear wz
  by_cases hlen : n ≤ 1048576
  · have hl1 : ¬ (1048576 : Int) < n := by omega
    go_enter Try.func4, Try.ntmps4
    go_wp2_with fail
    with_reducible refine (DrawSpreadBy_any A n c _ hb hn hc).mono ?_
    rintro e w1 ⟨⟨A', c', L, r, rfl, hL8, hnv⟩, hB⟩
    have HB := Lib.hid hB
    clear hb hn hc hB
    have hL : L.length ≤ 1048576 := by omega
    have hM5 := sbL_len (n := r) (L := L)
    obtain ⟨M, hM⟩ : ∃ M, sbL r L = M := ⟨_, rfl⟩
    rw [hM] at hM5
    have hM6 : M.length ≤ 1048576 := by omega
    have HM := Lib.hid hM
    have HP := Lib.hid hnv
    clear hM hnv
    go_wp2_with fail
    with_reducible refine (SpreadBy_c A' c' r L M _ HP.out hL HM.out).mono ?_
    rintro e w2 ⟨⟨B, rfl, hmv⟩, hb2⟩
    replace HP := Lib.hid (HP.out.keep hb2)
    replace HB := Lib.hid (bkeep2 HB.out hb2)
    clear hb2
    have HV := Lib.hid hmv
    have HR := Lib.hid (show NR w2 (.slice B M.length M.length) M from ⟨_, _, rfl, hmv⟩)
    clear hmv
    by_cases hM0 : M.length = 0
    · have hm0 : ((M.length : Int) == 0) = true := by rw [hM0]; rfl
      clear hM0
      go_wp2_with fail
      with_reducible refine (sSpreadBy_c A' c' r L M _ HP.out hL HM.out).mono ?_
      rintro e w3 ⟨⟨x, rfl, hx⟩, hb3⟩
      replace HP := Lib.hid (HP.out.keep hb3)
      replace HR := Lib.hid (HR.out.keep hb3)
      replace HB := Lib.hid (bkeep2 HB.out hb3)
      clear hb3
      go_wp2_with fail
      with_reducible refine (equalInts_z _ _ M _ HR.out hx hM6).mono ?_
      rintro e w4 ⟨rfl, hb4⟩
      clear hx
      replace HP := Lib.hid (HP.out.keep hb4)
      replace HR := Lib.hid (HR.out.keep hb4)
      replace HB := Lib.hid (bkeep2 HB.out hb4)
      clear hb4
      go_wp2_with fail
      with_reducible refine (sSpreadBy_c A' c' r L M _ HP.out hL HM.out).mono ?_
      rintro e w5 ⟨⟨x, rfl, hx⟩, hb5⟩
      replace HP := Lib.hid (HP.out.keep hb5)
      replace HR := Lib.hid (HR.out.keep hb5)
      replace HB := Lib.hid (bkeep2 HB.out hb5)
      clear hb5
      go_wp2_with fail
      with_reducible refine (equalInts_z _ _ M _ HR.out hx hM6).mono ?_
      rintro e w6 ⟨rfl, hb6⟩
      clear hx
      replace HP := Lib.hid (HP.out.keep hb6)
      replace HR := Lib.hid (HR.out.keep hb6)
      replace HB := Lib.hid (bkeep2 HB.out hb6)
      clear hb6
      go_wp2
      go_ret
      exact ⟨rfl, HB.out⟩
    · have hm0 : ((M.length : Int) == 0) = false := beq_eq_false_iff_ne.2 (by omega)
      have hg : sbB r L = true := by
        cases hg : sbB r L
        · exfalso; apply hM0; rw [← HM.out]; simp [sbL, hg]
        · rfl
      have hMv : M = spreadM r L := by rw [← HM.out]; simp [sbL, hg]
      have hML : M.length = L.length := by rw [hMv, spreadM_len]
      obtain ⟨hw, hr0, hr1⟩ := sbB_yes hg
      have hsum : sumI M = r := by rw [hMv]; exact spread_sum hr0 hw
      have hget : ∀ k x, L[k]? = some x → ∃ y, M[k]? = some y ∧ 0 ≤ y ∧ y ≤ r ∧ (0 < sumI L → (x = 0 → y = 0) ∧ y * sumI L ≤ r * x + sumI L ∧ r * x - sumI L ≤ y * sumI L) := fun k x hx => by rw [hMv]; exact spread_get hr0 hw hx
      have hwx := hw.1
      have hws := hw.sum
      have hsmL := hw.smal
      have hMb : ∀ y ∈ M, -1000 ≤ y ∧ y ≤ 1000 := fun y hy => by
        obtain ⟨k, hk, e⟩ := List.mem_iff_getElem.1 hy
        obtain ⟨y', h1, h2, h3, _⟩ := hget k L[k] (List.getElem?_eq_getElem (by omega))
        rw [List.getElem?_eq_getElem hk, e] at h1
        obtain rfl := Option.some.inj h1
        omega
      have hsmM : Smal 1000000000 M := smal_of (b := 1000) hMb (by omega) (by omega)
      have HML := Lib.hid hML
      have HSUM := Lib.hid hsum
      have HGET := Lib.hid hget
      have HWX := Lib.hid hwx
      have HSL := Lib.hid hsmL
      have HSM := Lib.hid hsmM
      obtain ⟨S, hS⟩ : ∃ S, sumI L = S := ⟨_, rfl⟩
      rw [hS] at hws
      obtain ⟨hs0, hs1⟩ := hws
      have HS := Lib.hid hS
      have hm1 : 0 < M.length := by omega
      clear hM0 hg hMv hML hw hsum hget hwx hsmL hMb hsmM hS
      go_wp2_with fail
      with_reducible refine (sSpreadBy_c A' c' r L M _ HP.out hL HM.out).mono ?_
      rintro e w3 ⟨⟨x, rfl, hx⟩, hb3⟩
      replace HP := Lib.hid (HP.out.keep hb3)
      replace HR := Lib.hid (HR.out.keep hb3)
      replace HV := Lib.hid (HV.out.keep hb3)
      replace HB := Lib.hid (bkeep2 HB.out hb3)
      clear hb3
      go_wp2_with fail
      with_reducible refine (equalInts_z _ _ M _ HR.out hx hM6).mono ?_
      rintro e w4 ⟨rfl, hb4⟩
      clear hx
      replace HP := Lib.hid (HP.out.keep hb4)
      replace HR := Lib.hid (HR.out.keep hb4)
      replace HV := Lib.hid (HV.out.keep hb4)
      replace HB := Lib.hid (bkeep2 HB.out hb4)
      clear hb4
      go_wp2_with fail
      with_reducible refine (ltotal_n A' c' _ L _ HP.out rfl hL HSL.out).mono ?_
      rintro e w5 ⟨rfl, rfl⟩
      rw [HS.out]
      go_wp2_with fail
      go_loopw [7] (fun i wr => ∃ k : Nat, k ≤ M.length ∧ i = .int .i64 k ∧ Below w4.heap.size w4 wr) (fun i _ => M.length - (intOf i).toNat)
      case atStart => exact ⟨0, by omega, rfl, Below.refl _ _⟩
      case round =>
        obtain ⟨k, hk, rfl, hBr⟩ := hrel
        by_cases hlt : k < M.length
        · have hd : decide ((k : Int) < (M.length : Int)) = true := by simpa using hlt
          have hlt2 : k < L.length := by have := HML.out; omega
          obtain ⟨bm, om, rfl, hbm, hpm⟩ := (HV.out.keep hBr).cells (by omega)
          obtain ⟨bl, ol, rfl, hbl, hpl⟩ := (HP.out.keep hBr).cells (by omega)
          have hgl : L[k]? = some L[k] := List.getElem?_eq_getElem hlt2
          have hx05 := HWX.out _ (List.getElem_mem hlt2)
          generalize L[k] = x at *
          obtain ⟨y, hgm, y0, y1, hy⟩ := HGET.out k x hgl
          rw [HS.out] at hy
          have c0 := hpm k y hgm
          have d0 := hpl k x hgl
          obtain ⟨hx0, hx5⟩ := hx05
          have HBR := Lib.hid hBr
          clear hpm hpl hgl hgm hBr
          have e0 : decide (y < 0) = false := decide_eq_false (by omega)
          by_cases hsp : 0 < S
          · obtain ⟨g1, g2, g3⟩ := hy hsp
            have es : decide (0 < S) = true := by simpa using hsp
            have p1 : 0 ≤ y * S ∧ y * S ≤ 100000 := ⟨Int.mul_nonneg y0 (by omega), Int.le_trans (Int.mul_le_mul (show y ≤ 400 by omega) hs1 (by omega) (by omega)) (by omega)⟩
            have p2 : 0 ≤ r * x ∧ r * x ≤ 100000 := ⟨Int.mul_nonneg hr0 hx0, Int.le_trans (Int.mul_le_mul hr1 hx5 hx0 (by omega)) (by omega)⟩
            obtain ⟨p1a, p1b⟩ := p1
            obtain ⟨p2a, p2b⟩ := p2
            have m1 : IntKind.i64.wrap (y * S) = y * S := IntWalk.i64_in _ (by omega)
            have m2 : IntKind.i64.wrap (r * x) = r * x := IntWalk.i64_in _ (by omega)
            have m3 : IntKind.i64.wrap (r * x + S) = r * x + S := IntWalk.i64_in _ (by omega)
            have m4 : IntKind.i64.wrap (r * x - S) = r * x - S := IntWalk.i64_in _ (by omega)
            have e1 : decide (r * x + S < y * S) = false := decide_eq_false (by omega)
            have e2 : decide (y * S < r * x - S) = false := decide_eq_false (by omega)
            clear g2 g3 p1a p1b p2a p2b hy
            by_cases hx00 : x = 0
            · have hy0 := g1 hx00
              have ex : (x == 0) = true := by simpa using hx00
              have ey : decide (0 < y) = false := decide_eq_false (by omega)
              have HX0 := Lib.hid hx00
              have HY0 := Lib.hid hy0
              clear g1 hx00 hy0
              go_wp2_with fail
              refine wp_region_grow 36 0 (· < 36) (by kernel_rfl) (by kernel_rfl) rfl ?_
              iterate 36 (refine wpG_step (fun K hK => ?_); first | (refine grow_skip rfl ?_; go_simp; refine hK _ ?_; clear hK K) | (apply Exists.intro; refine ⟨.inl ⟨rfl, fun w' hw' => ?_⟩, ?_⟩; (focus ((obtain ⟨hc, hf⟩ := bcell hw'.out); (have hcS := bcellS hw'.out); go_simp <;> first | rfl | fail)); (go_simp; refine hK _ ?_; clear hK K)))
              refine wpG_nil ?_
              refine wpK_tail (by kernel_rfl) (fun w8 hg8 => ?_)
              have hb8 := bdrewn hg8.out
              refine wpAny_end (by kernel_rfl) ?_
              refine NoPan.thn ?_
              clear hg8
              replace HBR := Lib.hid (HBR.out.trans (hb8.mono HBR.out.size))
              clear hb8 c0 d0
              go_wp2
              go_roundw
              case rel => exact ⟨k + 1, by omega, by go_num, HBR.out⟩
              case measure => simp [intOf]; omega
            · have ex : (x == 0) = false := by simpa using hx00
              have HX0 := Lib.hid hx00
              clear g1 hx00
              go_wp2_with fail
              refine wp_region_grow 36 0 (· < 36) (by kernel_rfl) (by kernel_rfl) rfl ?_
              iterate 36 (refine wpG_step (fun K hK => ?_); first | (refine grow_skip rfl ?_; go_simp; refine hK _ ?_; clear hK K) | (apply Exists.intro; refine ⟨.inl ⟨rfl, fun w' hw' => ?_⟩, ?_⟩; (focus ((obtain ⟨hc, hf⟩ := bcell hw'.out); (have hcS := bcellS hw'.out); go_simp <;> first | rfl | fail)); (go_simp; refine hK _ ?_; clear hK K)))
              refine wpG_nil ?_
              refine wpK_tail (by kernel_rfl) (fun w8 hg8 => ?_)
              have hb8 := bdrewn hg8.out
              refine wpAny_end (by kernel_rfl) ?_
              refine NoPan.thn ?_
              clear hg8
              replace HBR := Lib.hid (HBR.out.trans (hb8.mono HBR.out.size))
              clear hb8 c0 d0
              go_wp2
              go_roundw
              case rel => exact ⟨k + 1, by omega, by go_num, HBR.out⟩
              case measure => simp [intOf]; omega
          · have es : decide (0 < S) = false := by simpa using hsp
            clear hy
            go_wp2_with fail
            refine wp_region_grow 36 0 (· < 36) (by kernel_rfl) (by kernel_rfl) rfl ?_
            iterate 36 (refine wpG_step (fun K hK => ?_); first | (refine grow_skip rfl ?_; go_simp; refine hK _ ?_; clear hK K) | (apply Exists.intro; refine ⟨.inl ⟨rfl, fun w' hw' => ?_⟩, ?_⟩; (focus ((obtain ⟨hc, hf⟩ := bcell hw'.out); (have hcS := bcellS hw'.out); go_simp <;> first | rfl | fail)); (go_simp; refine hK _ ?_; clear hK K)))
            refine wpG_nil ?_
            refine wpK_tail (by kernel_rfl) (fun w8 hg8 => ?_)
            have hb8 := bdrewn hg8.out
            refine wpAny_end (by kernel_rfl) ?_
            refine NoPan.thn ?_
            clear hg8
            replace HBR := Lib.hid (HBR.out.trans (hb8.mono HBR.out.size))
            clear hb8 c0 d0
            go_wp2
            go_roundw
            case rel => exact ⟨k + 1, by omega, by go_num, HBR.out⟩
            case measure => simp [intOf]; omega
        · have hd : decide ((k : Int) < (M.length : Int)) = false := decide_eq_false (by omega)
          have HV2 := Lib.hid (HV.out.keep hBr)
          have HBR := Lib.hid hBr
          have hml : ((M.length : Int) == (L.length : Int)) = true := by rw [HML.out]; simp
          clear hBr
          go_wp2_with fail
          with_reducible refine (ltotal_n B M.length _ M _ HV2.out rfl hM6 HSM.out).mono ?_
          rintro e w9 ⟨rfl, rfl⟩
          rw [HSUM.out]
          go_wp2
          go_ret
          exact ⟨rfl, HB.out.trans (HBR.out.mono HB.out.size)⟩
  · have hl1 : (1048576 : Int) < n := by omega
    go_enter Try.func4, Try.ntmps4
    go_wp2
    go_ret
    exact ⟨rfl, Below.refl _ _⟩
set_option maxRecDepth 100000 in
theorem lifted (os : Os) (started : os.Started) (H : Type) (enc : TypeId × Value → H) :
    ReturnsInHanded {} Try.checked os 4 .any (Rows.fnSpreadBySpec.pre6 enc Try.prog Try.f4 Rows.fnSpreadByRow.domain false) (Rows.fnSpreadBySpec.post enc Try.prog Try.f4 false true false false) := by
  refine returnsInHanded_of_change (C := Try.checked) own started (by kernel_rfl) Try.func4
    (ChangeSpec.witness6 (enc := enc) (C := Try.checked) false ⟨#[], #[.slice none 0 0], []⟩ 8 (by kernel_rfl) (by kernel_rfl) (by kernel_rfl) (by kernel_rfl)) ?_
  intro W base args ds gs before hval0 hW hcnd _
  have hval : ∀ (j : Nat) t v, Try.f4.params[j]? = some t → args[j]? = some v → Value.okWide Try.prog W .any base t v := hval0
  have hW' := hW
  obtain ⟨p, q, hA0, hV, rfl, hfz, hnd⟩ := hW
  have hA : DataW.TrodAll enc Try.prog W 0 (fun _ => true) true Try.f4.params.toList args.toList ds p := hA0
  rw [Try.params4] at hA hval
  obtain ⟨v0, vs0, d0, ds0, p0, q0, hargs, rfl, rfl, h0, r0⟩ := trodAll_cons hA
  obtain ⟨rfl, rfl, rfl⟩ := trodAll_nil r0
  obtain rfl : args = #[v0] := by cases args; simp_all
  obtain ⟨rfl, rfl⟩ := trodVars_none hV
  have k0 := h0
  have lt0 : ∀ x ∈ p0, x.block < W.heap.size := by obtain ⟨m, hm⟩ := k0; exact DataW.trod_lt m _ _ _ hm
  obtain ⟨a0, len0, cap0, rfl⟩ := okWide_slice Try.underlying36 (hval 0 36 v0 rfl rfl)
  obtain ⟨z0, wz0⟩ : ∃ zs, IsRow .u8 W a0 len0 cap0 zs := by
    obtain ⟨fuel, hf⟩ := h0
    rcases open_ints Try.underlying36 Try.underlying5 (by kernel_rfl) hf with ⟨hcs, _⟩ | ⟨x, l, c, zs, hcs, _, hl, hm, hz, _, hcell, hwz⟩
    · simp [Value.cells] at hcs
      obtain ⟨rfl, rfl, rfl⟩ := hcs
      exact ⟨[], .inl ⟨rfl, rfl, rfl, rfl⟩⟩
    · simp [Value.cells] at hcs
      obtain ⟨rfl, rfl, rfl⟩ := hcs
      exact ⟨zs, .inr ⟨_, rfl, hl, hm, by simpa using hz, hcell, hwz⟩⟩
  clear hA0 hval0
  refine (walk a0 len0 cap0 z0 W wz0).mono fun e W' ⟨he, bel⟩ => ?_
  subst he
  exact ⟨_, rfl, _, _, _, [], _, [], hW', trodAll_mk1 (shut_bool Try.underlying4 _), (trodAll_cons_mk (Below.trod laidOut (by kernel_rfl) (of_decide_eq_true (by kernel_rfl)) k0 bel lt0) trodAll_mk0), rfl, bel.frame _, fun h => by cases h⟩
theorem over : Rows.fnSpreadByRow.holds Try.pinned (OpenSpec.ofChange Rows.fnSpreadBySpec) :=
  OpenClaim.holds_of_wide 4 Try.f4 rfl rfl rfl rfl rfl rfl rfl ⟨rfl, rfl, rfl, rfl, rfl⟩ rfl rfl rfl rfl rfl (by kernel_rfl) Try.func4 (by kernel_rfl)
    (of_decide_eq_true (by kernel_rfl)) (by unfold Func.isWrapper; first | (rw [if_pos (by decide +kernel)]; kernel_rfl) | (rw [if_neg (by decide +kernel)]; exact ⟨rfl, rfl⟩))
    (fun os started H enc _ => lifted os started H enc)
theorem proved : Rows.FnSpreadBySaid := over
end Go.Proofs.Ytnkoeekgdehhiad.lSpreadBy
