/- FnGridRequest: for every code the law returns true. No condition. -/
import Derived.Test.YtjdjahckdgbkbacQ13
namespace Go.Proofs.Ytjdjahckdgbkbac.lGridRequest
open Go.ChangeShapes Go.WideShapes Go.ChangeAt Go.RowKit Go.Joins
set_option linter.unusedVariables false
set_option maxHeartbeats 1000000
attribute [local go_sem] growUpon_value growUpon_skip growUpon_enter
def flp (p : Ce) : Ce := ⟨p.ro, p.co, p.mr, p.mc, p.ch, p.cw, 0, p.py, p.px⟩
theorem grid_flp {L1 L2 : List Ln} {L3 : List Ce} (h : gridB L1 L2 L3 = true) : gridB L2 L1 (L3.map flp) = true := by
  simp only [gridB, Bool.and_eq_true, decide_eq_true_eq, List.length_map, List.all_map, List.all_eq_true] at *
  refine ⟨h.2.1, h.1, h.2.2.1, fun p hp => ?_⟩
  have := h.2.2.2 p hp
  simp only [Function.comp, flp, cellB, Bool.and_eq_true, rng_iff] at *
  exact ⟨this.2.1, this.1, this.2.2.2.1, this.2.2.1, by omega, this.2.2.2.2.2.2, this.2.2.2.2.2.1⟩
theorem gq_flp {L1 L2 : List Ln} {L3 : List Ce} (h : gridB L1 L2 L3 = true) : (gqM L2 L1 (L3.map flp)).1 = (gqM L1 L2 L3).2 ∧ (gqM L2 L1 (L3.map flp)).2 = (gqM L1 L2 L3).1 := by
  unfold gqM
  rw [if_pos (grid_flp h), if_pos h, List.map_map, List.map_map]
  exact ⟨rfl, rfl⟩
theorem cevals_succ {M : List Ce} {k : Nat} {r : Ce} (h : M[k]? = some r) : cevals (M.take k) ++ valsCe r = cevals (M.take (k + 1)) := by
  rw [List.take_add_one, h, Option.toList, cevals_snoc]
theorem below_ownG {n : Nat} {a W w5 : World} {v : Value} {o : Obj} {lo hi : Nat} (h : Below n a W) (hg : (W.alloc o).grownBy w5 v.ownBlock) (hob : ∀ k, v.ownBlock = some k → lo ≤ k ∧ k < hi) (hlo : n ≤ lo) (hn : n ≤ a.heap.size) : Below n a w5 :=
  have h' : Below n a (W.alloc o) := h.alloc (Nat.le_trans hn h.size) o
  ⟨hg.os.trans h'.os, hg.tape.trans h'.tape, hg.output.trans h'.output, Nat.le_trans h'.size hg.size, fun k hk => (hg.block k (Nat.lt_of_lt_of_le (Nat.lt_of_lt_of_le hk hn) h'.size) (fun e => by have := hob k e.symm; omega)).trans (h'.block k hk)⟩
theorem gq_pos {L1 L2 : List Ln} {L3 : List Ce} (h : gridB L1 L2 L3 = true) : 0 ≤ (gqM L1 L2 L3).1 ∧ 0 ≤ (gqM L1 L2 L3).2 := by
  unfold gqM
  rw [if_pos h]
  obtain ⟨v1, v2, -, -, s1, s2⟩ := gridB_yes h
  exact ⟨(wish_ok v1 s1).2.2.2.1, (wish_ok v2 s2).2.2.2.1⟩
set_option maxRecDepth 100000 in
theorem walk (A : Option Addr) (n c : Nat) (z : List Int) (w : World) (wz : IsRow .u8 w A n c z) : Calls Try.prog 7 #[.slice A n c] w fun e w' => e = .returned (.bool true) ∧ Below w.heap.size w w' := by
  obtain ⟨hb, hn, hc⟩ := wz.bts
  clear wz
  by_cases hlen : n ≤ 1048576
  · have hl1 : ¬ (1048576 : Int) < n := by omega
    go_enter Try.func7, Try.ntmps7
    go_wp2_with fail
    with_reducible refine (DrawGridRequest_any A n c _ hb hn hc).mono ?_
    rintro e w1 ⟨⟨A1, c1, L1, A2, c2, L2, A3, c3, L3, rfl, hv1, hv2, hv3, ⟨h15, h25, h38⟩, hcap1, hcap2, hcap3⟩, hB⟩
    have hb2 : Below w1.heap.size w1 (w1.alloc (.cells #[.slice A1 L1.length c1, .slice A2 L2.length c2, .slice A3 L3.length c3] 45 (0, 0))) := balloc (Below.refl _ _)
    have HX := Lib.hid (newS w1 (.cells #[.slice A1 L1.length c1, .slice A2 L2.length c2, .slice A3 L3.length c3] 45 (0, 0)))
    have HV1 := Lib.hid (hv1.keep hb2)
    have HV2 := Lib.hid (hv2.keep hb2)
    have HV3 := Lib.hid (hv3.keep hb2)
    have HB := Lib.hid (bkeep2 hB hb2)
    have k1 : L1.length ≤ 1048576 := by omega
    have k2 : L2.length ≤ 1048576 := by omega
    have k3 : L3.length ≤ 1048576 := by omega
    have hflp : gridB L1 L2 L3 = true → (gqM L2 L1 (L3.map flp)).1 = (gqM L1 L2 L3).2 ∧ (gqM L2 L1 (L3.map flp)).2 = (gqM L1 L2 L3).1 := gq_flp
    have hpos : gridB L1 L2 L3 = true → 0 ≤ (gqM L1 L2 L3).1 ∧ 0 ≤ (gqM L1 L2 L3).2 := gq_pos
    have hneg : gridB L1 L2 L3 = false → (gqM L1 L2 L3).1 = -1 := fun h => by simp [gqM, h]
    obtain ⟨ra, hra⟩ : ∃ r, (gqM L1 L2 L3).1 = r := ⟨_, rfl⟩
    obtain ⟨rb, hrb⟩ : ∃ r, (gqM L1 L2 L3).2 = r := ⟨_, rfl⟩
    rw [hra, hrb] at hflp hpos
    rw [hra] at hneg
    have HRA := Lib.hid hra
    have HRB := Lib.hid hrb
    clear hb hn hc hB hb2 hv1 hv2 hv3 hra hrb
    have d0 := cellS HX.out 0
    have d1 := cellS HX.out 1
    have d2 := cellS HX.out 2
    go_wp2_with fail
    with_reducible refine (GridRequest_v A1 c1 L1 A2 c2 L2 A3 c3 L3 _ HV1.out HV2.out HV3.out k1 k2 k3).mono ?_
    rintro e w2 ⟨rfl, hb⟩
    rw [HRA.out, HRB.out]
    clear d0 d1 d2
    replace HX := Lib.hid ((hb.block _ (Array.getElem?_eq_some_iff.1 HX.out).1).trans HX.out)
    replace HV1 := Lib.hid (HV1.out.keep hb)
    replace HV2 := Lib.hid (HV2.out.keep hb)
    replace HV3 := Lib.hid (HV3.out.keep hb)
    replace HB := Lib.hid (bkeep2 HB.out hb)
    clear hb
    have d0 := cellS HX.out 0
    have d1 := cellS HX.out 1
    have d2 := cellS HX.out 2
    go_wp2_with fail
    with_reducible refine (sGridRequest_v A1 c1 L1 A2 c2 L2 A3 c3 L3 _ HV1.out HV2.out HV3.out k1 k2 k3 hcap1 hcap2).mono ?_
    rintro e w3 ⟨rfl, hb⟩
    rw [HRA.out, HRB.out]
    clear d0 d1 d2
    replace HX := Lib.hid ((hb.block _ (Array.getElem?_eq_some_iff.1 HX.out).1).trans HX.out)
    replace HV1 := Lib.hid (HV1.out.keep hb)
    replace HV2 := Lib.hid (HV2.out.keep hb)
    replace HV3 := Lib.hid (HV3.out.keep hb)
    replace HB := Lib.hid (bkeep2 HB.out hb)
    clear hb
    have d0 := cellS HX.out 0
    have d1 := cellS HX.out 1
    have d2 := cellS HX.out 2
    cases ht : gridB L1 L2 L3
    · have hn1 := hneg ht
      have e0 : decide (ra < 0) = true := by simp; omega
      clear ht hneg hpos hflp hn1
      go_wp2
      go_ret
      exact ⟨rfl, HB.out⟩
    · obtain ⟨hp1, hp2⟩ := hpos ht
      have HF := Lib.hid (hflp ht)
      have e0 : decide (ra < 0) = false := by simp; omega
      clear ht hneg hpos hflp
      obtain ⟨ti, tz, ti1, ti2, ti3, ti4, ti5⟩ := ce_infoG
      have lx := ltS HX.out
      go_wp2_with fail
      go_loopw [9] (fun i wr => ∃ k : Nat, k ≤ L3.length ∧ i = .int .i64 k ∧ ∃ u : Value, wr.heap[w3.heap.size]? = some (.cells #[.slice A2 L2.length c2, .slice A1 L1.length c1, u] 45 (0, 0)) ∧ wr.ownsRow (w3.heap.size + 1) 52 9 u k (cevals ((L3.map flp).take k)) ∧ Below w3.heap.size w3 wr) (fun i _ => L3.length - (intOf i).toNat)
      case atStart => exact ⟨0, by omega, rfl, .slice none 0 0, newS _ _, World.ownsRow_nil _ _ _ _, balloc (Below.refl _ _)⟩
      case round =>
        obtain ⟨k, hk, rfl, u, hx, ho, hBr⟩ := hrel
        have hxg := (hBr.block _ lx).trans HX.out
        have hs3 := hBr.size
        clear d0 d1 d2
        have d2 := cellS hxg 2
        have lxg := ltS hxg
        by_cases hlt : k < L3.length
        · have hd : decide ((k : Int) < (L3.length : Int)) = true := by simpa using hlt
          obtain ⟨b, off, rfl, hb, hp⟩ := (HV3.out.keep hBr).cells (by omega)
          have hget : L3[k]? = some L3[k] := List.getElem?_eq_getElem hlt
          obtain ⟨s0, s1, s2, s3, s4, s5, s6, s7, s8⟩ := hp k _ hget
          generalize L3[k] = p at *
          have HTS := Lib.hid (cevals_succ (show (L3.map flp)[k]? = some (flp p) by rw [List.getElem?_map, hget]; rfl))
          have HXT := Lib.hid hx
          have HO := Lib.hid ho
          have HBR := Lib.hid hBr
          have hbt : w3.heap.size < wr.heap.size := ltS hx
          clear hx ho hBr hp hget hxg
          go_upto_region 13 with (fail)
          refine wp_genGS (fun W => W.heap[wr.heap.size]? = some (.cells #[.int .i64 p.co, .int .i64 p.ro, .int .i64 p.mc, .int .i64 p.mr, .int .i64 p.cw, .int .i64 p.ch, .int .i64 p.sk, .int .i64 p.px, .int .i64 p.py] 52 (0, 0)) ∧ W.heap[w3.heap.size]? = some (.cells #[.slice A2 L2.length c2, .slice A1 L1.length c1, u] 45 (0, 0)) ∧ W.ownsRow (w3.heap.size + 1) 52 9 u k (cevals ((L3.map flp).take k)) ∧ Below w3.heap.size w3 W ∧ wr.heap.size < W.heap.size) ⟨newS _ _, (Below.heap_alloc _ _ _ hbt).trans HXT.out, HO.out.alloc _, balloc HBR.out, by simp⟩ (fun W hW => ?_)
          clear HXT HO HBR s0 s1 s2 s3 s4 s5 s6 s7 s8 d2
          obtain ⟨hc0, hx, ho, hBr, hsw⟩ := hW
          have x0 := cellS hc0 0
          have x1 := cellS hc0 1
          have x2 := cellS hc0 2
          have x3 := cellS hc0 3
          have x4 := cellS hc0 4
          have x5 := cellS hc0 5
          have x7 := cellS hc0 7
          have x8 := cellS hc0 8
          have y2 := cellS hx 2
          have hbt2 : w3.heap.size < W.heap.size := ltS hx
          have hob := ho.lt
          have HXT := Lib.hid hx
          have HO := Lib.hid ho
          have HBR := Lib.hid hBr
          clear hc0 hx ho hBr
          go_wp2_with (at_builtin; refine wpList_append_own _ rfl _ _ 43 rfl (w3.heap.size + 1) 52 ti tz 9 72 Try.underlying43 ti1 ti2 ti3 ti4 ti5 (by decide) _ _ _ rfl (HO.out.alloc _) ⟨W.heap.size, 0, none⟩ 1 1 (valsCe (flp p)) rfl rfl (ce_newG _ (flp p) _) (valsCe_oneG _) (by simp only [maxLen]; omega) (by omega) (by simp; omega) ?_)
          intro v5 w5 how5 hgr5 _
          rw [HTS.out] at how5
          obtain ⟨A8, c8, rfl⟩ := own_slice how5
          have hx5 := (hgr5.block w3.heap.size (by simp; omega) (fun e => by have := (hob _ e.symm).1; omega)).trans ((Below.heap_alloc _ _ _ hbt2).trans HXT.out)
          have hb5 := below_ownG HBR.out hgr5 hob (by omega) (Nat.le_refl _)
          have z2 := cellS hx5 2
          have zf := frozenS hx5 2
          have hob5 := how5.lt
          have HXT5 := Lib.hid (put3s2 hx5 (.slice A8 (k + 1) c8))
          have HO5 := Lib.hid (own_setN how5 (b := w3.heap.size) (fun q hq => by have := (hob5 q hq).1; omega) 2 (.slice A8 (k + 1) c8))
          have HB5 := Lib.hid (hb5.setCell (p := ⟨w3.heap.size, 2, none⟩) (by simp) (.slice A8 (k + 1) c8))
          clear how5 hgr5 hob hob5 hx5 hb5 HXT HO HBR x0 x1 x2 x3 x4 x5 x7 x8 y2
          go_wp2
          go_roundw
          case rel => exact ⟨k + 1, by omega, by go_num, .slice A8 (k + 1) c8, HXT5.out, by simpa using HO5.out, HB5.out⟩
          case measure => simp [intOf]; omega
        · have hd : decide ((k : Int) < (L3.length : Int)) = false := decide_eq_false (by omega)
          obtain rfl : k = L3.length := by omega
          have he : (L3.map flp).take L3.length = L3.map flp := List.take_of_length_le (by simp)
          rw [he] at ho
          obtain ⟨A9, c9, rfl, -, hv9, -⟩ := CeO.of (L := L3.map flp) (by simpa using ho)
          have HV9 := Lib.hid hv9
          have W1 := Lib.hid (HV1.out.keep hBr)
          have W2 := Lib.hid (HV2.out.keep hBr)
          have HBR := Lib.hid (HB.out.trans (hBr.mono HB.out.size))
          have y0 := cellS hx 0
          have y1 := cellS hx 1
          have y2 := cellS hx 2
          clear hx ho hBr hv9 he hxg
          go_wp2_with fail
          have hgr := GridRequest_v A2 c2 L2 A1 c1 L1 A9 c9 (L3.map flp) wr W2.out W1.out HV9.out k2 k1 (by simp; omega)
          rw [List.length_map] at hgr
          with_reducible refine hgr.mono ?_
          clear hgr
          rintro e w9 ⟨rfl, hb9⟩
          rw [HF.out.1, HF.out.2]
          replace HBR := Lib.hid (bkeep2 HBR.out hb9)
          clear hb9 y0 y1 y2 d2
          go_wp2
          go_ret
          exact ⟨rfl, HBR.out⟩
  · have hl1 : (1048576 : Int) < n := by omega
    go_enter Try.func7, Try.ntmps7
    go_wp2
    go_ret
    exact ⟨rfl, Below.refl _ _⟩
set_option maxRecDepth 100000 in
theorem lifted (os : Os) (started : os.Started) (H : Type) (enc : TypeId × Value → H) :
    ReturnsInHanded {} Try.checked os 7 .any (Rows.fnGridRequestSpec.pre6 enc Try.prog Try.f7 Rows.fnGridRequestRow.domain false) (Rows.fnGridRequestSpec.post enc Try.prog Try.f7 false true false false) := by
  refine returnsInHanded_of_change (C := Try.checked) own started (by kernel_rfl) Try.func7
    (ChangeSpec.witness6 (enc := enc) (C := Try.checked) false ⟨#[], #[.slice none 0 0], []⟩ 8 (by kernel_rfl) (by kernel_rfl) (by kernel_rfl) (by kernel_rfl)) ?_
  intro W base args ds gs before hval0 hW hcnd _
  have hval : ∀ (j : Nat) t v, Try.f7.params[j]? = some t → args[j]? = some v → Value.okWide Try.prog W .any base t v := hval0
  have hW' := hW
  obtain ⟨p, q, hA0, hV, rfl, hfz, hnd⟩ := hW
  have hA : DataW.TrodAll enc Try.prog W 0 (fun _ => true) true Try.f7.params.toList args.toList ds p := hA0
  rw [Try.params7] at hA hval
  obtain ⟨v0, vs0, d0, ds0, p0, q0, hargs, rfl, rfl, h0, r0⟩ := trodAll_cons hA
  obtain ⟨rfl, rfl, rfl⟩ := trodAll_nil r0
  obtain rfl : args = #[v0] := by cases args; simp_all
  obtain ⟨rfl, rfl⟩ := trodVars_none hV
  have k0 := h0
  have lt0 : ∀ x ∈ p0, x.block < W.heap.size := by obtain ⟨m, hm⟩ := k0; exact DataW.trod_lt m _ _ _ hm
  obtain ⟨a0, len0, cap0, rfl⟩ := okWide_slice Try.underlying22 (hval 0 22 v0 rfl rfl)
  obtain ⟨z0, wz0⟩ : ∃ zs, IsRow .u8 W a0 len0 cap0 zs := by
    obtain ⟨fuel, hf⟩ := h0
    rcases open_ints Try.underlying22 Try.underlying5 (by kernel_rfl) hf with ⟨hcs, _⟩ | ⟨x, l, c, zs, hcs, _, hl, hm, hz, _, hcell, hwz⟩
    · simp [Value.cells] at hcs
      obtain ⟨rfl, rfl, rfl⟩ := hcs
      exact ⟨[], .inl ⟨rfl, rfl, rfl, rfl⟩⟩
    · simp [Value.cells] at hcs
      obtain ⟨rfl, rfl, rfl⟩ := hcs
      exact ⟨zs, .inr ⟨_, rfl, hl, hm, by simpa using hz, hcell, hwz⟩⟩
  clear hA0 hval0
  refine (walk a0 len0 cap0 z0 W wz0).mono fun e W' ⟨he, bel⟩ => ?_
  subst he
  exact ⟨_, rfl, _, _, _, [], _, [], hW', trodAll_mk1 (shut_bool Try.underlying4 _), (trodAll_cons_mk (Below.trod laidOut (by kernel_rfl) (of_decide_eq_true (by kernel_rfl)) k0 bel lt0) trodAll_mk0), rfl, bel.frame _, fun h => by cases h⟩
theorem over : Rows.fnGridRequestRow.holds Try.pinned (OpenSpec.ofChange Rows.fnGridRequestSpec) :=
  OpenClaim.holds_of_wide 7 Try.f7 rfl rfl rfl rfl rfl rfl rfl ⟨rfl, rfl, rfl, rfl, rfl⟩ rfl rfl rfl rfl rfl (by kernel_rfl) Try.func7 (by kernel_rfl)
    (of_decide_eq_true (by kernel_rfl)) (by unfold Func.isWrapper; first | (rw [if_pos (by decide +kernel)]; kernel_rfl) | (rw [if_neg (by decide +kernel)]; exact ⟨rfl, rfl⟩))
    (fun os started H enc _ => lifted os started H enc)
theorem proved : Rows.FnGridRequestSaid := over
end Go.Proofs.Ytjdjahckdgbkbac.lGridRequest
