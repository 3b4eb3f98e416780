/- FnGridAt: for every code the law returns true. No condition. -/
import Derived.Test.YtikndbinlpmgaaaQ18
import Derived.Deep.DeepCutAuto
import Derived.Deep.LoopGhost
namespace Go.Proofs.Ytikndbinlpmgaaa.lGridAt
open Go.ChangeShapes Go.WideShapes Go.ChangeAt Go.RowKit Go.Joins
set_option linter.unusedVariables false
set_option maxHeartbeats 4000000
attribute [local go_sem] growUpon_value growUpon_skip growUpon_enter
theorem mul_bdg {u v : Int} (h1 : 0 ≤ u) (h2 : u ≤ 4000) (h3 : 0 ≤ v) (h4 : v ≤ 4000) : 0 ≤ u * v ∧ u * v ≤ 16000000 :=
  ⟨Int.mul_nonneg h1 h3, Int.le_trans (Int.mul_le_mul h2 h4 h3 (by omega)) (by omega)⟩
theorem area_g (x y u v : Int) (hS : (0 ≤ u ∧ u ≤ 4000) ∧ (0 ≤ v ∧ v ≤ 4000)) (w : World) : Calls Try.prog 21 #[.agg #[.int .i64 (x), .int .i64 (y), .int .i64 (u), .int .i64 (v)]] w fun e w' => e = .returned (.int .i64 (u * v)) ∧ Below w.heap.size w w' := by
  obtain ⟨⟨h1, h2⟩, h3, h4⟩ := hS
  obtain ⟨h5, h6⟩ := mul_bdg h1 h2 h3 h4
  go_enter Try.func21, Try.ntmps21
  go_wp2_with fail
  all_goals try go_quiet (fail)
  all_goals try go_wp2
  go_ret
  exact ⟨rfl, (by repeat (first | with_reducible exact Below.refl _ _ | with_reducible assumption | with_reducible refine balloc ?_ | (with_reducible refine bset ?_ ?_; rotate_left; ((try dsimp only); omega)) | refine bkeep2 ?_ (by assumption) | with_reducible refine Below.drew ?_))⟩
theorem gat_w (A1 : Option Addr) (c1 : Nat) (L1 : List Ln) (A2 : Option Addr) (c2 : Nat) (L2 : List Ln) (A3 : Option Addr) (c3 : Nat) (L3 : List Ce) (u v x y a b : Int) (w : World) (h1 : LnV w A1 L1) (h2 : LnV w A2 L2) (h3 : CeV w A3 L3) (k1 : L1.length ≤ 1048576) (k2 : L2.length ≤ 1048576) (k3 : L3.length ≤ 1048576) (hab : gaM L1 L2 L3 u v x y = (a, b)) :
    Calls Try.prog 18 #[.agg #[.slice A1 L1.length c1, .slice A2 L2.length c2, .slice A3 L3.length c3], .int .i64 u, .int .i64 v, .int .i64 x, .int .i64 y] w fun e w' => e = .returned (.tuple #[.int .i64 a, .int .i64 b]) ∧ Below w.heap.size w w' := by
  have := GridAt_v A1 c1 L1 A2 c2 L2 A3 c3 L3 u v x y w h1 h2 h3 k1 k2 k3
  rw [hab] at this
  exact this
theorem sgat_w (A1 : Option Addr) (c1 : Nat) (L1 : List Ln) (A2 : Option Addr) (c2 : Nat) (L2 : List Ln) (A3 : Option Addr) (c3 : Nat) (L3 : List Ce) (u v x y a b : Int) (w : World) (h1 : LnV w A1 L1) (h2 : LnV w A2 L2) (h3 : CeV w A3 L3) (k1 : L1.length ≤ 1048576) (k2 : L2.length ≤ 1048576) (k3 : L3.length ≤ 1048576) (q1 : L1.length ≤ c1) (q2 : L2.length ≤ c2) (hab : gaM L1 L2 L3 u v x y = (a, b)) :
    Calls Try.prog 19 #[.agg #[.slice A1 L1.length c1, .slice A2 L2.length c2, .slice A3 L3.length c3], .int .i64 u, .int .i64 v, .int .i64 x, .int .i64 y] w fun e w' => e = .returned (.tuple #[.int .i64 a, .int .i64 b]) ∧ Below w.heap.size w w' := by
  have := sGridAt_v A1 c1 L1 A2 c2 L2 A3 c3 L3 u v x y w h1 h2 h3 k1 k2 k3 q1 q2
  rw [hab] at this
  exact this
theorem gr_len8 {L1 L2 : List Ln} {L3 : List Ce} {u v : Int} : (grM L1 L2 L3 u v).length ≤ 8 := by
  unfold grM
  split
  · rename_i h
    simp only [Bool.and_eq_true] at h
    have := (GF.of h.1).hl8
    rw [List.length_map]; omega
  · simp
set_option maxRecDepth 100000 in
theorem walk (A : Option Addr) (n c : Nat) (z : List Int) (w : World) (wz : IsRow .u8 w A n c z) : Calls Try.prog 5 #[.slice A n c] w fun e w' => e = .returned (.bool true) ∧ Below w.heap.size w w' := by
  obtain ⟨hb, hn, hc⟩ := wz.bts
  clear wz
  by_cases hlen : n ≤ 1048576
  · have hl1 : ¬ (1048576 : Int) < n := by omega
    go_enter Try.func5, Try.ntmps5
    go_wp2_with fail
    with_reducible refine (DrawGridAt_any A n c _ hb hn hc).mono ?_
    rintro e w1 ⟨⟨A1, c1, L1, A2, c2, L2, A3, c3, L3, u, v, x, y, rfl, hv1, hv2, hv3, ⟨h15, h25, h38⟩, hcap1, hcap2, hcap3, ⟨hu1, hu2⟩, ⟨hw1, hw2⟩⟩, hB⟩
    have hb2 : Below w1.heap.size w1 (w1.alloc (.cells #[.slice A1 L1.length c1, .slice A2 L2.length c2, .slice A3 L3.length c3] 26 (0, 0))) := balloc (Below.refl _ _)
    have HX := Lib.hid (newS w1 (.cells #[.slice A1 L1.length c1, .slice A2 L2.length c2, .slice A3 L3.length c3] 26 (0, 0)))
    have HV1 := Lib.hid (hv1.keep hb2)
    have HV2 := Lib.hid (hv2.keep hb2)
    have HV3 := Lib.hid (hv3.keep hb2)
    have HB := Lib.hid (bkeep2 hB hb2)
    have k1 : L1.length ≤ 1048576 := by omega
    have k2 : L2.length ≤ 1048576 := by omega
    have k3 : L3.length ≤ 1048576 := by omega
    obtain ⟨⟨a, b⟩, hab⟩ : ∃ q, gaM L1 L2 L3 u v x y = q := ⟨_, rfl⟩
    obtain ⟨⟨la1, la2⟩, lb1, lb2⟩ := ga_lt hab
    have HL := gr_len8 (L1 := L1) (L2 := L2) (L3 := L3) (u := u) (v := v)
    have HAT := Lib.hid (fun (k : Nat) (r : Re) (a b : Int) => at_in (L1 := L1) (L2 := L2) (L3 := L3) (u := u) (v := v) (k := k) (r := r) (a := a) (b := b))
    obtain ⟨M, hM⟩ : ∃ M, grM L1 L2 L3 u v = M := ⟨_, rfl⟩
    obtain ⟨gb, hgb⟩ : ∃ g, gridB L1 L2 L3 = g := ⟨_, rfl⟩
    rw [hM] at HL
    rw [hM] at HAT
    have HAB := Lib.hid hab
    have HM := Lib.hid hM
    have HGB := Lib.hid hgb
    clear hb hn hc hB hb2 hv1 hv2 hv3 hab hM hgb
    have d0 := cellS HX.out 0
    have d1 := cellS HX.out 1
    have d2 := cellS HX.out 2
    go_wp2_with fail
    with_reducible refine (gat_w A1 c1 L1 A2 c2 L2 A3 c3 L3 u v x y a b _ HV1.out HV2.out HV3.out k1 k2 k3 HAB.out).mono ?_
    rintro e w2 ⟨rfl, hb⟩
    clear d0 d1 d2
    replace HX := Lib.hid ((hb.block _ (Array.getElem?_eq_some_iff.1 HX.out).1).trans HX.out)
    replace HV1 := Lib.hid (HV1.out.keep hb)
    replace HV2 := Lib.hid (HV2.out.keep hb)
    replace HV3 := Lib.hid (HV3.out.keep hb)
    replace HB := Lib.hid (bkeep2 HB.out hb)
    clear hb
    have d0 := cellS HX.out 0
    have d1 := cellS HX.out 1
    have d2 := cellS HX.out 2
    go_wp2_with fail
    with_reducible refine (sgat_w A1 c1 L1 A2 c2 L2 A3 c3 L3 u v x y a b _ HV1.out HV2.out HV3.out k1 k2 k3 hcap1 hcap2 HAB.out).mono ?_
    rintro e w3 ⟨rfl, hb⟩
    clear d0 d1 d2
    replace HX := Lib.hid ((hb.block _ (Array.getElem?_eq_some_iff.1 HX.out).1).trans HX.out)
    replace HV1 := Lib.hid (HV1.out.keep hb)
    replace HV2 := Lib.hid (HV2.out.keep hb)
    replace HV3 := Lib.hid (HV3.out.keep hb)
    replace HB := Lib.hid (bkeep2 HB.out hb)
    clear hb
    have d0 := cellS HX.out 0
    have d1 := cellS HX.out 1
    have d2 := cellS HX.out 2
    have e1 : (a != a) = false := by simp
    have e2 : (b != b) = false := by simp
    cases gb
    · go_wp2_with fail
      with_reducible refine (validGrid_v A1 c1 L1 A2 c2 L2 A3 c3 L3 false _ HV1.out HV2.out HV3.out k1 k2 k3 HGB.out).mono ?_
      rintro e w4 ⟨rfl, hb⟩
      replace HB := Lib.hid (bkeep2 HB.out hb)
      clear hb
      go_wp2
      go_ret
      exact ⟨ret_bool (by simp), HB.out⟩
    · go_wp2_with fail
      with_reducible refine (validGrid_v A1 c1 L1 A2 c2 L2 A3 c3 L3 true _ HV1.out HV2.out HV3.out k1 k2 k3 HGB.out).mono ?_
      rintro e w4 ⟨rfl, hb⟩
      clear d0 d1 d2
      replace HX := Lib.hid ((hb.block _ (Array.getElem?_eq_some_iff.1 HX.out).1).trans HX.out)
      replace HV1 := Lib.hid (HV1.out.keep hb)
      replace HV2 := Lib.hid (HV2.out.keep hb)
      replace HV3 := Lib.hid (HV3.out.keep hb)
      replace HB := Lib.hid (bkeep2 HB.out hb)
      clear hb
      have d0 := cellS HX.out 0
      have d1 := cellS HX.out 1
      have d2 := cellS HX.out 2
      go_wp2_with fail
      with_reducible refine (GridRects_v A1 c1 L1 A2 c2 L2 A3 c3 L3 u v _ HV1.out HV2.out HV3.out k1 k2 k3).mono ?_
      rintro e w5 ⟨⟨xx, rfl, hx⟩, hb⟩
      rw [HM.out] at hx
      obtain ⟨A4, c4, rfl, hre⟩ := hx.rv
      have HRE := Lib.hid hre
      clear d0 d1 d2 hx hre
      replace HX := Lib.hid ((hb.block _ (Array.getElem?_eq_some_iff.1 HX.out).1).trans HX.out)
      replace HV1 := Lib.hid (HV1.out.keep hb)
      replace HV2 := Lib.hid (HV2.out.keep hb)
      replace HV3 := Lib.hid (HV3.out.keep hb)
      replace HB := Lib.hid (bkeep2 HB.out hb)
      clear hb
      have lx := ltS HX.out
      have hla : decide (a < (L1.length : Int)) = true := decide_eq_true la2
      have hlb : decide (b < (L2.length : Int)) = true := decide_eq_true lb2
      go_wp2_with fail
      go_loopg [13] M.length (fun g i wr => ∃ k : Nat, k ≤ M.length ∧ g = M.length - k ∧ i = .int .i64 k ∧ Below w5.heap.size w5 wr)
      case atStart => exact ⟨0, by omega, by omega, rfl, Below.refl _ _⟩
      case round =>
        obtain ⟨k, hk, rfl, rfl, hBr⟩ := hrel
        have hxg := (hBr.block _ lx).trans HX.out
        have d0 := cellS hxg 0
        have d1 := cellS hxg 1
        have d2 := cellS hxg 2
        have lxg := ltS hxg
        by_cases hlt : k < M.length
        · have hd : decide ((k : Int) < (M.length : Int)) = true := by simpa using hlt
          have hget : M[k]? = some M[k] := List.getElem?_eq_getElem hlt
          obtain ⟨b1, off, rfl, hb, hcl⟩ := (HRE.out.keep hBr).cells (by omega)
          obtain ⟨q0, q1, q2, q3⟩ := hcl k _ hget
          generalize M[k] = r at *
          obtain ⟨⟨ka, kb⟩, hkab⟩ : ∃ q, gaM L1 L2 L3 u v r.x r.y = q := ⟨_, rfl⟩
          obtain ⟨p, hp, rp, hsz, hin⟩ := HAT.out k r ka kb hget hkab
          have HV1 := Lib.hid (HV1.out.keep hBr)
          have HV2 := Lib.hid (HV2.out.keep hBr)
          have HV3 := Lib.hid (HV3.out.keep hBr)
          have HBR := Lib.hid hBr
          have HIN := Lib.hid hin
          have HKAB := Lib.hid hkab
          have HP := Lib.hid hp
          have HXG := Lib.hid hxg
          clear hBr hcl hget hin hkab hp hxg
          by_cases hz : r.u * r.v = 0
          · have e3 : (r.u * r.v == 0) = true := by rw [hz]; rfl
            have e3' : decide (r.u * r.v = 0) = true := decide_eq_true hz
            have HZ := Lib.hid hz
            clear hz
            go_wp2_with fail
            with_reducible refine (area_g r.x r.y r.u r.v hsz _).mono ?_
            rintro e w6 ⟨rfl, hb6⟩
            replace HBR := Lib.hid (bkeep2 HBR.out hb6)
            clear hb6 q0 q1 q2 q3 d0 d1 d2
            go_wp2
            go_roundg (M.length - (k + 1))
            case measure => omega
            case rel => exact ⟨k + 1, by omega, rfl, by go_num, HBR.out⟩
          · have e3 : (r.u * r.v == 0) = false := by rw [beq_eq_false_iff_ne]; exact hz
            have e3' : decide (r.u * r.v = 0) = false := decide_eq_false hz
            obtain ⟨⟨i1, i2⟩, i3, i4⟩ := HIN.out hz
            have HZ := Lib.hid hz
            clear hz HIN
            go_wp2_with fail
            with_reducible refine (area_g r.x r.y r.u r.v hsz _).mono ?_
            rintro e w6 ⟨rfl, hb6⟩
            have HRR := Lib.hid (And.intro q0 (And.intro q1 (And.intro q2 q3)))
            clear q0 q1 q2 q3 d0 d1 d2
            replace HBR := Lib.hid (bkeep2 HBR.out hb6)
            replace HV1 := Lib.hid (HV1.out.keep hb6)
            replace HV2 := Lib.hid (HV2.out.keep hb6)
            replace HV3 := Lib.hid (HV3.out.keep hb6)
            have hxg := (hb6.block _ lxg).trans HXG.out
            have hc6 := bcell hb6
            have q0 := (hc6.1 _ _ hb).trans HRR.out.1
            have q1 := (hc6.1 _ _ hb).trans HRR.out.2.1
            have d0 := cellS hxg 0
            have d1 := cellS hxg 1
            have d2 := cellS hxg 2
            have lxg6 := ltS hxg
            have hb6' : b1 < w6.heap.size := Nat.lt_of_lt_of_le hb hb6.size
            have HXG6 := Lib.hid hxg
            clear hb6 hc6 HRR hxg HXG
            go_upto_region 13 with (fail)
            refine wp_named (fun W1 e1 => ?_)
            replace e1 := Lib.hid e1
            refine wp_region_grow 17 2 (fun i => decide (i < 17) && i != 16) (by kernel_rfl) (by kernel_rfl) rfl ?_
            iterate 17 (refine wpG_step (fun K hK => ?_); apply Exists.intro; refine ⟨.inl ⟨rfl, fun w' hw' => ?_⟩, ?_⟩; (focus ((obtain ⟨hc, hf⟩ := bcell hw'.out); (have hcS := bcellS hw'.out); go_simp <;> first | rfl | (go_at_call 18; exact gat_w A1 c1 L1 A2 c2 L2 A3 c3 L3 u v r.x r.y ka kb _ (HV1.out.keep (bdrewn hw'.out)) (HV2.out.keep (bdrewn hw'.out)) (HV3.out.keep (bdrewn hw'.out)) k1 k2 k3 HKAB.out))); (go_simp; refine hK _ ?_; clear hK K))
            refine wpG_nil ?_
            refine wpK_tail (by kernel_rfl) (fun w1_9 h1_9 => ?_)
            refine wpAny_one (i := 17) (by kernel_rfl) rfl rfl ?_
            go_simp
            refine wpAny_one (i := 18) (by kernel_rfl) rfl rfl ?_
            go_simp
            refine wpAny_end (by kernel_rfl) ?_
            have s1_a : W1.heap.size ≤ w1_9.heap.size := by rw [e1.out]; exact h1_9.out.size
            have b1_a : Below W1.heap.size W1 w1_9 := by rw [e1.out]; exact bgrow (Below.refl _ _).drew h1_9
            refine NoPan.gen (fun wf => Below W1.heap.size W1 wf) ?_ (fun wf1 hwf1 => ?_)
            · exact b1_a
            have E := e1.out
            subst E
            clear e1 s1_a b1_a h1_9 w1_9
            obtain ⟨hc1, hf1⟩ := bcell hwf1
            have hb9 := hwf1
            clear hc1 hf1 hwf1
            replace HBR := Lib.hid (bkeep2 HBR.out hb9)
            replace HV3 := Lib.hid (HV3.out.keep hb9)
            have hxg := (hb9.block _ lxg6).trans HXG6.out
            clear hb9 q0 q1 d0 d1 d2
            have d2 := cellS hxg 2
            have lxg9 := ltS hxg
            obtain ⟨b3, off3, e9, hb3, hc3⟩ := HV3.out.cells (by have := (List.getElem?_eq_some_iff.1 HP.out).1; omega)
            cases e9
            obtain ⟨s0, s1, s2, s3, s4, s5, s6, s7, s8⟩ := hc3 k _ HP.out
            have hlk : (k : Int) < (L3.length : Int) := by have := (List.getElem?_eq_some_iff.1 HP.out).1; omega
            clear hxg hc3
            obtain ⟨⟨⟨o1, o2⟩, o3, o4⟩, ⟨o5, o6⟩, o7, o8⟩ := rp
            have f1 : decide (ka < p.co) = false := decide_eq_false (by omega)
            have f2 : decide (p.co + p.mc ≤ ka) = false := decide_eq_false (by omega)
            have f3 : decide (kb < p.ro) = false := decide_eq_false (by omega)
            have f4 : decide (p.ro + p.mr ≤ kb) = false := decide_eq_false (by omega)
            clear i1 i2 i3 i4
            go_wp2
            go_roundg (M.length - (k + 1))
            case measure => omega
            case rel => exact ⟨k + 1, by omega, rfl, by go_num, balloc HBR.out⟩
        · have hd : decide ((k : Int) < (M.length : Int)) = false := decide_eq_false (by omega)
          have HBR := Lib.hid (HB.out.trans (hBr.mono HB.out.size))
          clear hBr hxg
          go_wp2
          go_ret
          exact ⟨rfl, HBR.out⟩
  · have hl1 : (1048576 : Int) < n := by omega
    go_enter Try.func5, Try.ntmps5
    go_wp2
    go_ret
    exact ⟨rfl, Below.refl _ _⟩
set_option maxRecDepth 100000 in
theorem lifted (os : Os) (started : os.Started) (H : Type) (enc : TypeId × Value → H) :
    ReturnsInHanded {} Try.checked os 5 .any (Rows.fnGridAtSpec.pre6 enc Try.prog Try.f5 Rows.fnGridAtRow.domain false) (Rows.fnGridAtSpec.post enc Try.prog Try.f5 false true false false) := by
  refine returnsInHanded_of_change (C := Try.checked) own started (by kernel_rfl) Try.func5
    (ChangeSpec.witness6 (enc := enc) (C := Try.checked) false ⟨#[], #[.slice none 0 0], []⟩ 8 (by kernel_rfl) (by kernel_rfl) (by kernel_rfl) (by kernel_rfl)) ?_
  intro W base args ds gs before hval0 hW hcnd _
  have hval : ∀ (j : Nat) t v, Try.f5.params[j]? = some t → args[j]? = some v → Value.okWide Try.prog W .any base t v := hval0
  have hW' := hW
  obtain ⟨p, q, hA0, hV, rfl, hfz, hnd⟩ := hW
  have hA : DataW.TrodAll enc Try.prog W 0 (fun _ => true) true Try.f5.params.toList args.toList ds p := hA0
  rw [Try.params5] at hA hval
  obtain ⟨v0, vs0, d0, ds0, p0, q0, hargs, rfl, rfl, h0, r0⟩ := trodAll_cons hA
  obtain ⟨rfl, rfl, rfl⟩ := trodAll_nil r0
  obtain rfl : args = #[v0] := by cases args; simp_all
  obtain ⟨rfl, rfl⟩ := trodVars_none hV
  have k0 := h0
  have lt0 : ∀ x ∈ p0, x.block < W.heap.size := by obtain ⟨m, hm⟩ := k0; exact DataW.trod_lt m _ _ _ hm
  obtain ⟨a0, len0, cap0, rfl⟩ := okWide_slice Try.underlying22 (hval 0 22 v0 rfl rfl)
  obtain ⟨z0, wz0⟩ : ∃ zs, IsRow .u8 W a0 len0 cap0 zs := by
    obtain ⟨fuel, hf⟩ := h0
    rcases open_ints Try.underlying22 Try.underlying5 (by kernel_rfl) hf with ⟨hcs, _⟩ | ⟨x, l, c, zs, hcs, _, hl, hm, hz, _, hcell, hwz⟩
    · simp [Value.cells] at hcs
      obtain ⟨rfl, rfl, rfl⟩ := hcs
      exact ⟨[], .inl ⟨rfl, rfl, rfl, rfl⟩⟩
    · simp [Value.cells] at hcs
      obtain ⟨rfl, rfl, rfl⟩ := hcs
      exact ⟨zs, .inr ⟨_, rfl, hl, hm, by simpa using hz, hcell, hwz⟩⟩
  clear hA0 hval0
  refine (walk a0 len0 cap0 z0 W wz0).mono fun e W' ⟨he, bel⟩ => ?_
  subst he
  exact ⟨_, rfl, _, _, _, [], _, [], hW', trodAll_mk1 (shut_bool Try.underlying4 _), (trodAll_cons_mk (Below.trod laidOut (by kernel_rfl) (of_decide_eq_true (by kernel_rfl)) k0 bel lt0) trodAll_mk0), rfl, bel.frame _, fun h => by cases h⟩
theorem over : Rows.fnGridAtRow.holds Try.pinned (OpenSpec.ofChange Rows.fnGridAtSpec) :=
  OpenClaim.holds_of_wide 5 Try.f5 rfl rfl rfl rfl rfl rfl rfl ⟨rfl, rfl, rfl, rfl, rfl⟩ rfl rfl rfl rfl rfl (by kernel_rfl) Try.func5 (by kernel_rfl)
    (of_decide_eq_true (by kernel_rfl)) (by unfold Func.isWrapper; first | (rw [if_pos (by decide +kernel)]; kernel_rfl) | (rw [if_neg (by decide +kernel)]; exact ⟨rfl, rfl⟩))
    (fun os started H enc _ => lifted os started H enc)
theorem proved : Rows.FnGridAtSaid := over
end Go.Proofs.Ytikndbinlpmgaaa.lGridAt
