/- FnGridRects: for every code the law returns true. No condition. -/
import Derived.Test.YtikndbinlpmgaaaQ17
namespace Go.Proofs.Ytikndbinlpmgaaa.lGridRects
open Go.ChangeShapes Go.WideShapes Go.ChangeAt Go.RowKit Go.Joins
set_option linter.unusedVariables false
set_option maxHeartbeats 1000000
attribute [local go_sem] growUpon_value growUpon_skip growUpon_enter
/-- what the law asks of the rectangles of a grid with room enough -/
theorem fits {L1 L2 : List Ln} {L3 : List Ce} {u v : Int} {k : Nat} {r : Re} (hk : (grM L1 L2 L3 u v)[k]? = some r) (h1 : (gqM L1 L2 L3).1 ≤ u) (h2 : (gqM L1 L2 L3).2 ≤ v) :
    ∃ p, L3[k]? = some p ∧ (p.cw ≤ r.u ∧ p.ch ≤ r.v) ∧ (Sq 0 0 u v ∧ Sq r.x r.y r.u r.v) ∧ (0 ≤ r.x ∧ 0 ≤ r.y ∧ r.x + r.u ≤ 0 + u ∧ r.y + r.v ≤ 0 + v) := by
  unfold grM at hk
  split at hk
  · rename_i h
    simp only [Bool.and_eq_true] at h
    obtain ⟨hu, hv⟩ := rgG_yes h.2
    rw [List.getElem?_map] at hk
    cases hp : L3[k]? with
    | none => rw [hp] at hk; cases hk
    | some p =>
      rw [hp] at hk
      have e : cellR (sizedM L1 (L3.map acM) u) (sizedM L2 (L3.map dnM) v) p = r := Option.some.inj hk
      have hf := cells_fit h.1 hu hv h1 h2 p (List.mem_of_getElem? hp)
      rw [e] at hf
      obtain ⟨⟨a1, a2, a3, a4⟩, b1, b2, b3, b4⟩ := hf
      refine ⟨p, rfl, ⟨a1, b1⟩, ⟨?_, ?_⟩, by omega⟩ <;> unfold Sq <;> omega
  · simp at hk
theorem rer {w : World} {A : Option Addr} {c : Nat} {M : List Re} (h : ReV w A M) : ReR w (.slice A M.length c) M := ⟨A, c, rfl, h⟩
theorem gr_len {L1 L2 : List Ln} {L3 : List Ce} {u v : Int} : (grM L1 L2 L3 u v).length ≤ 8 ∧ (¬ (grM L1 L2 L3 u v).length = 0 → (grM L1 L2 L3 u v).length = L3.length) := by
  unfold grM
  split
  · rename_i h
    simp only [Bool.and_eq_true] at h
    have := (GF.of h.1).hl8
    rw [List.length_map]; omega
  · simp
set_option maxRecDepth 100000 in
theorem walk (A : Option Addr) (n c : Nat) (z : List Int) (w : World) (wz : IsRow .u8 w A n c z) : Calls Try.prog 3 #[.slice A n c] w fun e w' => e = .returned (.bool true) ∧ Below w.heap.size w w' := by
  obtain ⟨hb, hn, hc⟩ := wz.bts
  clear wz
  by_cases hlen : n ≤ 1048576
  · have hl1 : ¬ (1048576 : Int) < n := by omega
    go_enter Try.func3, Try.ntmps3
    go_wp2_with fail
    with_reducible refine (DrawGridRects_any A n c _ hb hn hc).mono ?_
    rintro e w1 ⟨⟨A1, c1, L1, A2, c2, L2, A3, c3, L3, u, v, rfl, hv1, hv2, hv3, ⟨h15, h25, h38⟩, hcap1, hcap2, hcap3, ⟨hu1, hu2⟩, ⟨hw1, hw2⟩⟩, hB⟩
    have hb2 : Below w1.heap.size w1 (w1.alloc (.cells #[.slice A1 L1.length c1, .slice A2 L2.length c2, .slice A3 L3.length c3] 26 (0, 0))) := balloc (Below.refl _ _)
    have HX := Lib.hid (newS w1 (.cells #[.slice A1 L1.length c1, .slice A2 L2.length c2, .slice A3 L3.length c3] 26 (0, 0)))
    have HV1 := Lib.hid (hv1.keep hb2)
    have HV2 := Lib.hid (hv2.keep hb2)
    have HV3 := Lib.hid (hv3.keep hb2)
    have HB := Lib.hid (bkeep2 hB hb2)
    have k1 : L1.length ≤ 1048576 := by omega
    have k2 : L2.length ≤ 1048576 := by omega
    have k3 : L3.length ≤ 1048576 := by omega
    have HF := Lib.hid (fun (k : Nat) (r : Re) => fits (L1 := L1) (L2 := L2) (L3 := L3) (u := u) (v := v) (k := k) (r := r))
    have HL := gr_len (L1 := L1) (L2 := L2) (L3 := L3) (u := u) (v := v)
    obtain ⟨ra, hra⟩ : ∃ r, (gqM L1 L2 L3).1 = r := ⟨_, rfl⟩
    obtain ⟨rb, hrb⟩ : ∃ r, (gqM L1 L2 L3).2 = r := ⟨_, rfl⟩
    obtain ⟨M, hM⟩ : ∃ M, grM L1 L2 L3 u v = M := ⟨_, rfl⟩
    rw [hM] at HL
    rw [hra, hrb, hM] at HF
    have HRA := Lib.hid hra
    have HRB := Lib.hid hrb
    have HM := Lib.hid hM
    obtain ⟨hl8, hll⟩ := HL
    clear hb hn hc hB hb2 hv1 hv2 hv3 hra hrb hM
    have d0 := cellS HX.out 0
    have d1 := cellS HX.out 1
    have d2 := cellS HX.out 2
    go_wp2_with fail
    with_reducible refine (GridRects_v A1 c1 L1 A2 c2 L2 A3 c3 L3 u v _ HV1.out HV2.out HV3.out k1 k2 k3).mono ?_
    rintro e w2 ⟨⟨x, rfl, hx⟩, hb⟩
    rw [HM.out] at hx
    obtain ⟨A4, c4, rfl, hre⟩ := hx.rv
    have HRE := Lib.hid hre
    clear d0 d1 d2 hx hre
    replace HX := Lib.hid ((hb.block _ (Array.getElem?_eq_some_iff.1 HX.out).1).trans HX.out)
    replace HV1 := Lib.hid (HV1.out.keep hb)
    replace HV2 := Lib.hid (HV2.out.keep hb)
    replace HV3 := Lib.hid (HV3.out.keep hb)
    replace HB := Lib.hid (bkeep2 HB.out hb)
    clear hb
    have d0 := cellS HX.out 0
    have d1 := cellS HX.out 1
    have d2 := cellS HX.out 2
    go_wp2_with fail
    with_reducible refine (sGridRects_v A1 c1 L1 A2 c2 L2 A3 c3 L3 u v _ HV1.out HV2.out HV3.out k1 k2 k3 hcap1 hcap2).mono ?_
    rintro e w3 ⟨⟨x3, rfl, hx3⟩, hb⟩
    rw [HM.out] at hx3
    obtain ⟨A5, c5, rfl, hre5⟩ := hx3
    have HS := Lib.hid hre5
    clear d0 d1 d2 hre5
    replace HX := Lib.hid ((hb.block _ (Array.getElem?_eq_some_iff.1 HX.out).1).trans HX.out)
    replace HV1 := Lib.hid (HV1.out.keep hb)
    replace HV2 := Lib.hid (HV2.out.keep hb)
    replace HV3 := Lib.hid (HV3.out.keep hb)
    replace HRE := Lib.hid (HRE.out.keep hb)
    replace HB := Lib.hid (bkeep2 HB.out hb)
    clear hb
    go_wp2_with fail
    with_reducible refine (equalRects_g _ _ M _ (rer HRE.out) (rer HS.out) (by omega)).mono ?_
    rintro e w4 ⟨rfl, hb⟩
    replace HX := Lib.hid ((hb.block _ (Array.getElem?_eq_some_iff.1 HX.out).1).trans HX.out)
    replace HV1 := Lib.hid (HV1.out.keep hb)
    replace HV2 := Lib.hid (HV2.out.keep hb)
    replace HV3 := Lib.hid (HV3.out.keep hb)
    replace HRE := Lib.hid (HRE.out.keep hb)
    replace HB := Lib.hid (bkeep2 HB.out hb)
    clear hb
    clear HS
    have d0 := cellS HX.out 0
    have d1 := cellS HX.out 1
    have d2 := cellS HX.out 2
    by_cases hz : M.length = 0
    · have e0 : decide ((M.length : Int) = 0) = true := decide_eq_true (by omega)
      have hz' : ((M.length : Nat) : Int) = 0 := by omega
      clear hll hl8 hz
      go_wp2_with fail
      with_reducible refine (sGridRects_v A1 c1 L1 A2 c2 L2 A3 c3 L3 u v _ HV1.out HV2.out HV3.out k1 k2 k3 hcap1 hcap2).mono ?_
      rintro e w5 ⟨⟨x5, rfl, hx5⟩, hb⟩
      rw [HM.out] at hx5
      obtain ⟨A6, c6, rfl, hre6⟩ := hx5
      have HS := Lib.hid hre6
      clear d0 d1 d2 hre6
      replace HRE := Lib.hid (HRE.out.keep hb)
      replace HB := Lib.hid (bkeep2 HB.out hb)
      clear hb
      go_wp2_with fail
      with_reducible refine (equalRects_g _ _ M _ (rer HRE.out) (rer HS.out) (by omega)).mono ?_
      rintro e w6 ⟨rfl, hb⟩
      replace HB := Lib.hid (bkeep2 HB.out hb)
      clear hb
      go_wp2
      go_ret
      exact ⟨rfl, HB.out⟩
    · have e0 : decide ((M.length : Int) = 0) = false := decide_eq_false (by omega)
      have hz' : ¬ ((M.length : Nat) : Int) = 0 := by omega
      obtain hLL := hll hz
      have hLI : (M.length : Int) = (L3.length : Int) := by omega
      have HLL := Lib.hid hLL
      have HLI := Lib.hid hLI
      have hzp : 0 < M.length := by omega
      clear hll hLL hLI hz
      go_wp2_with fail
      with_reducible refine (GridRequest_v A1 c1 L1 A2 c2 L2 A3 c3 L3 _ HV1.out HV2.out HV3.out k1 k2 k3).mono ?_
      rintro e w5 ⟨rfl, hb⟩
      rw [HRA.out, HRB.out]
      clear d0 d1 d2
      replace HX := Lib.hid ((hb.block _ (Array.getElem?_eq_some_iff.1 HX.out).1).trans HX.out)
      replace HV1 := Lib.hid (HV1.out.keep hb)
      replace HV2 := Lib.hid (HV2.out.keep hb)
      replace HV3 := Lib.hid (HV3.out.keep hb)
      replace HRE := Lib.hid (HRE.out.keep hb)
      replace HB := Lib.hid (bkeep2 HB.out hb)
      clear hb
      have d0 := cellS HX.out 0
      have d1 := cellS HX.out 1
      have d2 := cellS HX.out 2
      by_cases g1 : u < ra
      · have g1' : decide (u < ra) = true := by simpa using g1
        have hle : decide ((M.length : Int) = (L3.length : Int)) = true := by rw [HLI.out]; simp
        have hle' := HLI.out
        go_wp2
        go_ret
        exact ⟨ret_bool (by simp [HLI.out]), HB.out⟩
      · by_cases g2 : v < rb
        · have g1' : decide (u < ra) = false := by simpa using g1
          have g2' : decide (v < rb) = true := by simpa using g2
          have hle' := HLI.out
          go_wp2
          go_ret
          exact ⟨ret_bool (by simp [HLI.out]), HB.out⟩
        · have g1' : decide (u < ra) = false := by simpa using g1
          have g2' : decide (v < rb) = false := by simpa using g2
          have g1n : ra ≤ u := by omega
          have g2n : rb ≤ v := by omega
          have HFK := Lib.hid (fun (k : Nat) (r : Re) (hk : M[k]? = some r) => HF.out k r hk (HRA.out ▸ g1n) (HRB.out ▸ g2n))
          have lx := ltS HX.out
          clear g1n g2n HF
          go_wp2_with fail
          go_loopw [9] (fun i wr => ∃ k : Nat, k ≤ M.length ∧ i = .int .i64 k ∧ Below w5.heap.size w5 wr) (fun i _ => M.length - (intOf i).toNat)
          case atStart => exact ⟨0, by omega, rfl, Below.refl _ _⟩
          case round =>
            obtain ⟨k, hk, rfl, hBr⟩ := hrel
            have hxg := (hBr.block _ lx).trans HX.out
            clear d0 d1 d2
            by_cases hlt : k < M.length
            · have hd : decide ((k : Int) < (M.length : Int)) = true := by simpa using hlt
              have hlt3 : k < L3.length := by have := HLL.out; omega
              have d2 := cellS hxg 2
              have lxg := ltS hxg
              have hget : M[k]? = some M[k] := List.getElem?_eq_getElem hlt
              obtain ⟨p, hp, ⟨f1, f2⟩, ⟨hs1, hs2⟩, hin⟩ := HFK.out k _ hget
              obtain ⟨b, off, rfl, hb, hc⟩ := (HRE.out.keep hBr).cells (by omega)
              obtain ⟨b', off', rfl, hb', hc'⟩ := (HV3.out.keep hBr).cells (by omega)
              obtain ⟨q0, q1, q2, q3⟩ := hc k _ hget
              obtain ⟨s0, s1, s2, s3, s4, s5, s6, s7, s8⟩ := hc' k _ hp
              generalize M[k] = r at *
              have f1' : decide (r.u < p.cw) = false := decide_eq_false (by omega)
              have f2' : decide (r.v < p.ch) = false := decide_eq_false (by omega)
              have HBR := Lib.hid hBr
              clear hBr hc hc' hget hp hxg s0 s1 s2 s3 s6 s7 s8 f1 f2
              go_wp2_with fail
              refine wp_region_grow 37 0 (· < 37) (by kernel_rfl) (by kernel_rfl) rfl ?_
              iterate 37 (refine wpG_step (fun K hK => ?_); first | (refine grow_skip rfl ?_; go_simp; refine hK _ ?_; clear hK K) | (apply Exists.intro; refine ⟨.inl ⟨rfl, fun w' hw' => ?_⟩, ?_⟩; (focus ((obtain ⟨hc, hf⟩ := bcell hw'.out); (have hcS := bcellS hw'.out); go_simp <;> first | rfl | (go_at_call 15; exact room_g _ _ _) | (go_at_call 14; exact within2_g _ _ _ _ _ _ _ _ _ hs1 hs2 hin))); (go_simp; refine hK _ ?_; clear hK K)))
              refine wpG_nil ?_
              refine wpK_tail (by kernel_rfl) (fun w9 hg9 => ?_)
              have hb9 := bdrewn hg9.out
              refine wpAny_end (by kernel_rfl) ?_
              refine NoPan.thn ?_
              clear hg9
              replace HBR := Lib.hid (bkeep2 HBR.out hb9)
              clear hb9 q0 q1 q2 q3 s4 s5 d2 hs1 hs2 hin
              go_wp2
              go_roundw
              case rel => exact ⟨k + 1, by omega, by go_num, HBR.out⟩
              case measure => simp [intOf]; omega
            · have hd : decide ((k : Int) < (M.length : Int)) = false := decide_eq_false (by omega)
              have HBR := Lib.hid (HB.out.trans (hBr.mono HB.out.size))
              clear hBr hxg
              go_wp2
              go_ret
              exact ⟨rfl, HBR.out⟩
  · have hl1 : (1048576 : Int) < n := by omega
    go_enter Try.func3, Try.ntmps3
    go_wp2
    go_ret
    exact ⟨rfl, Below.refl _ _⟩
set_option maxRecDepth 100000 in
theorem lifted (os : Os) (started : os.Started) (H : Type) (enc : TypeId × Value → H) :
    ReturnsInHanded {} Try.checked os 3 .any (Rows.fnGridRectsSpec.pre6 enc Try.prog Try.f3 Rows.fnGridRectsRow.domain false) (Rows.fnGridRectsSpec.post enc Try.prog Try.f3 false true false false) := by
  refine returnsInHanded_of_change (C := Try.checked) own started (by kernel_rfl) Try.func3
    (ChangeSpec.witness6 (enc := enc) (C := Try.checked) false ⟨#[], #[.slice none 0 0], []⟩ 8 (by kernel_rfl) (by kernel_rfl) (by kernel_rfl) (by kernel_rfl)) ?_
  intro W base args ds gs before hval0 hW hcnd _
  have hval : ∀ (j : Nat) t v, Try.f3.params[j]? = some t → args[j]? = some v → Value.okWide Try.prog W .any base t v := hval0
  have hW' := hW
  obtain ⟨p, q, hA0, hV, rfl, hfz, hnd⟩ := hW
  have hA : DataW.TrodAll enc Try.prog W 0 (fun _ => true) true Try.f3.params.toList args.toList ds p := hA0
  rw [Try.params3] at hA hval
  obtain ⟨v0, vs0, d0, ds0, p0, q0, hargs, rfl, rfl, h0, r0⟩ := trodAll_cons hA
  obtain ⟨rfl, rfl, rfl⟩ := trodAll_nil r0
  obtain rfl : args = #[v0] := by cases args; simp_all
  obtain ⟨rfl, rfl⟩ := trodVars_none hV
  have k0 := h0
  have lt0 : ∀ x ∈ p0, x.block < W.heap.size := by obtain ⟨m, hm⟩ := k0; exact DataW.trod_lt m _ _ _ hm
  obtain ⟨a0, len0, cap0, rfl⟩ := okWide_slice Try.underlying22 (hval 0 22 v0 rfl rfl)
  obtain ⟨z0, wz0⟩ : ∃ zs, IsRow .u8 W a0 len0 cap0 zs := by
    obtain ⟨fuel, hf⟩ := h0
    rcases open_ints Try.underlying22 Try.underlying5 (by kernel_rfl) hf with ⟨hcs, _⟩ | ⟨x, l, c, zs, hcs, _, hl, hm, hz, _, hcell, hwz⟩
    · simp [Value.cells] at hcs
      obtain ⟨rfl, rfl, rfl⟩ := hcs
      exact ⟨[], .inl ⟨rfl, rfl, rfl, rfl⟩⟩
    · simp [Value.cells] at hcs
      obtain ⟨rfl, rfl, rfl⟩ := hcs
      exact ⟨zs, .inr ⟨_, rfl, hl, hm, by simpa using hz, hcell, hwz⟩⟩
  clear hA0 hval0
  refine (walk a0 len0 cap0 z0 W wz0).mono fun e W' ⟨he, bel⟩ => ?_
  subst he
  exact ⟨_, rfl, _, _, _, [], _, [], hW', trodAll_mk1 (shut_bool Try.underlying4 _), (trodAll_cons_mk (Below.trod laidOut (by kernel_rfl) (of_decide_eq_true (by kernel_rfl)) k0 bel lt0) trodAll_mk0), rfl, bel.frame _, fun h => by cases h⟩
theorem over : Rows.fnGridRectsRow.holds Try.pinned (OpenSpec.ofChange Rows.fnGridRectsSpec) :=
  OpenClaim.holds_of_wide 3 Try.f3 rfl rfl rfl rfl rfl rfl rfl ⟨rfl, rfl, rfl, rfl, rfl⟩ rfl rfl rfl rfl rfl (by kernel_rfl) Try.func3 (by kernel_rfl)
    (of_decide_eq_true (by kernel_rfl)) (by unfold Func.isWrapper; first | (rw [if_pos (by decide +kernel)]; kernel_rfl) | (rw [if_neg (by decide +kernel)]; exact ⟨rfl, rfl⟩))
    (fun os started H enc _ => lifted os started H enc)
theorem proved : Rows.FnGridRectsSaid := over
end Go.Proofs.Ytikndbinlpmgaaa.lGridRects
