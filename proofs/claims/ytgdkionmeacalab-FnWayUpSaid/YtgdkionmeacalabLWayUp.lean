/- FnWayUp: for every code the law returns true. No condition. -/
import Derived.Test.YtgdkionmeacalabQ14
namespace Go.Proofs.Ytgdkionmeacalab.lWayUp
open Go.ChangeShapes Go.WideShapes Go.ChangeAt Go.RowKit Go.Joins
set_option linter.unusedVariables false
set_option maxHeartbeats 2000000
attribute [local go_sem] growUpon_value growUpon_skip growUpon_enter
set_option linter.unusedSimpArgs false
attribute [local go_sem] givesUpon_value givesUpon_skip givesUpon_enter
theorem nrI {w : World} {A : Option Addr} {c : Nat} {L : List Int} (h : NV w A L) : NR w (.slice A L.length c) L := ⟨A, c, rfl, h⟩
theorem up_head {L : List Nd} : ∀ {xs : List Int} {p : Int}, IsUp L p xs → xs ≠ [] → xs[0]? = some p
  | [], p, _, h => absurd rfl h
  | x :: r, p, h, _ => by unfold IsUp at h; simp [h.1]
theorem up_step {L : List Nd} : ∀ {xs : List Int} {p : Int}, IsUp L p xs → ∀ k, k + 1 < xs.length → ∃ (j : Nat) (n : Nd), xs[k]? = some (j : Int) ∧ L[j]? = some n ∧ xs[k + 1]? = some n.pa
  | [], p, _, k, hk => by simp at hk
  | x :: r, p, h, k, hk => by
    unfold IsUp at h
    obtain ⟨rfl, h0, n, hn, _, _, hr⟩ := h
    rcases k with _ | k
    · refine ⟨x.toNat, n, ?_, hn, ?_⟩
      · simp; omega
      · simpa using up_head hr (by intro e; subst e; simp at hk)
    · obtain ⟨j, n', h1, h2, h3⟩ := up_step hr k (by simp at hk; omega)
      exact ⟨j, n', by simpa using h1, h2, by simpa using h3⟩
theorem up_last {L : List Nd} (ht : treeB L = true) : ∀ {xs : List Int} {p : Int}, IsUp L p xs → ∀ m, xs.length = m + 1 → xs[m]? = some 0
  | [], p, _, m, hm => by simp at hm
  | x :: r, p, h, m, hm => by
    unfold IsUp at h
    obtain ⟨rfl, h0, n, hn, _, _, hr⟩ := h
    rcases m with _ | m
    · obtain rfl : r = [] := by simpa using hm
      have hp : n.pa = -1 := by unfold IsUp at hr; exact hr
      obtain ⟨-, hu, -⟩ := tree_nok ht hn
      by_cases hz : x.toNat = 0
      · have : x = 0 := by omega
        simp [this]
      · rw [upB, if_neg hz, rng_iff] at hu
        omega
    · have := up_last ht hr m (by simpa using hm)
      simpa using this
set_option maxRecDepth 100000 in
theorem walk (A : Option Addr) (n c : Nat) (z : List Int) (w : World) (wz : IsRow .u8 w A n c z) : Calls Try.prog 4 #[.slice A n c] w fun e w' => e = .returned (.bool true) ∧ Below w.heap.size w w' := by
  obtain ⟨hb, hn, hc⟩ := wz.bts
  clear wz
  by_cases hlen : n ≤ 1048576
  · have hl1 : ¬ (1048576 : Int) < n := by omega
    go_enter Try.func4, Try.ntmps4
    go_wp2_with fail
    with_reducible refine (DrawWayUp_any A n c _ hb hn hc).mono ?_
    rintro e w1 ⟨⟨g, c0, R, q, rfl, htk, hcap, r1, r2⟩, hB⟩
    have hbb : Below w1.heap.size w1 (w1.alloc (.cells #[.slice (some ⟨g, 0, none⟩) R.length c0] 25)) := balloc (Below.refl _ _)
    have HX := Lib.hid (newS w1 (.cells #[.slice (some ⟨g, 0, none⟩) R.length c0] 25))
    have HK := Lib.hid (htk.keep hbb)
    have HB := Lib.hid (balloc (o := (.cells #[.slice (some ⟨g, 0, none⟩) R.length c0] 25)) hB)
    clear hB hb hn hc htk hbb
    cases hbt : (treeB (R.map Nr.n) && rng q 0 ((R.length : Int) - 1))
    · have HT := Lib.hid hbt
      clear hbt
      have gN : ∀ w, NR w (.slice none 0 0) [] := fun w => ⟨none, 0, rfl, NV.nil _ _⟩
      have HG := Lib.hid gN
      clear gN
      have x0 := cellS HX.out 0
      go_wp2_with fail
      with_reducible refine (WayUp_no _ c0 R.length R q _ rfl HK.out.nrv HK.out.rdr (by omega) HK.out.mx HT.out).mono ?_
      rintro e w2 ⟨rfl, hb⟩
      clear x0
      replace HX := Lib.hid ((hb.block _ (Array.getElem?_eq_some_iff.1 HX.out).1).trans HX.out)
      replace HK := Lib.hid (HK.out.keep hb)
      replace HB := Lib.hid (bkeep2 HB.out hb)
      clear hb
      have x0 := cellS HX.out 0
      go_wp2_with fail
      with_reducible refine (sWayUp_no _ c0 R.length R q _ rfl HK.out.nrv HK.out.rdr (by omega) HK.out.mx HT.out).mono ?_
      rintro e w3 ⟨rfl, hb⟩
      clear x0
      replace HX := Lib.hid ((hb.block _ (Array.getElem?_eq_some_iff.1 HX.out).1).trans HX.out)
      replace HK := Lib.hid (HK.out.keep hb)
      replace HB := Lib.hid (bkeep2 HB.out hb)
      clear hb
      go_wp2_with fail
      with_reducible refine (equalInts_z _ _ [] _ (HG.out _) (HG.out _) (by simp)).mono ?_
      rintro e w4 ⟨rfl, hb⟩
      replace HX := Lib.hid ((hb.block _ (Array.getElem?_eq_some_iff.1 HX.out).1).trans HX.out)
      replace HK := Lib.hid (HK.out.keep hb)
      replace HB := Lib.hid (bkeep2 HB.out hb)
      clear hb
      have x0 := cellS HX.out 0
      go_wp2_with fail
      with_reducible refine (sWayUp_no _ c0 R.length R q _ rfl HK.out.nrv HK.out.rdr (by omega) HK.out.mx HT.out).mono ?_
      rintro e w5 ⟨rfl, hb⟩
      clear x0
      replace HX := Lib.hid ((hb.block _ (Array.getElem?_eq_some_iff.1 HX.out).1).trans HX.out)
      replace HK := Lib.hid (HK.out.keep hb)
      replace HB := Lib.hid (bkeep2 HB.out hb)
      clear hb
      go_wp2_with fail
      with_reducible refine (equalInts_z _ _ [] _ (HG.out _) (HG.out _) (by simp)).mono ?_
      rintro e w6 ⟨rfl, hb⟩
      replace HX := Lib.hid ((hb.block _ (Array.getElem?_eq_some_iff.1 HX.out).1).trans HX.out)
      replace HK := Lib.hid (HK.out.keep hb)
      replace HB := Lib.hid (bkeep2 HB.out hb)
      clear hb
      go_wp2
      go_ret
      exact ⟨rfl, HB.out⟩
    · rw [Bool.and_eq_true, rng_iff] at hbt
      obtain ⟨ht, h0, h1⟩ := hbt
      obtain ⟨j, rfl⟩ := Int.eq_ofNat_of_zero_le h0
      obtain ⟨xs, hup, hxl⟩ := up_ex ht j (by simp; omega)
      have hjl : j < R.length := by omega
      have hx20 : xs.length ≤ 20 := by omega
      have hnn : xs ≠ [] := fun e => by subst e; unfold IsUp at hup; omega
      have hx1 : 1 ≤ xs.length := List.length_pos_iff.2 hnn
      have HT := Lib.hid ht
      have HU := Lib.hid hup
      have HH := Lib.hid (up_head hup hnn)
      clear ht hup h0 h1 hnn hxl
      have x0 := cellS HX.out 0
      go_wp2_with fail
      with_reducible refine (WayUp_yes _ c0 R.length R j xs _ rfl HK.out.nrv HK.out.rdr (by omega) HK.out.mx HT.out hjl HU.out hx20).mono ?_
      rintro e w2 ⟨⟨v, rfl, hgo⟩, hb⟩
      obtain ⟨A2, c2, rfl, hv⟩ := hgo.nr
      clear x0 hgo
      replace HX := Lib.hid ((hb.block _ (Array.getElem?_eq_some_iff.1 HX.out).1).trans HX.out)
      replace HK := Lib.hid (HK.out.keep hb)
      replace HB := Lib.hid (bkeep2 HB.out hb)
      clear hb
      have HV := Lib.hid hv
      clear hv
      have x0 := cellS HX.out 0
      go_wp2_with fail
      with_reducible refine (sWayUp_yes _ c0 R.length R j xs _ rfl HK.out.nrv HK.out.rdr (by omega) HK.out.mx HT.out hjl HU.out hx20).mono ?_
      rintro e w3 ⟨⟨v3, rfl, hv3⟩, hb⟩
      clear x0
      replace HX := Lib.hid ((hb.block _ (Array.getElem?_eq_some_iff.1 HX.out).1).trans HX.out)
      replace HK := Lib.hid (HK.out.keep hb)
      replace HV := Lib.hid (HV.out.keep hb)
      replace HB := Lib.hid (bkeep2 HB.out hb)
      clear hb
      go_wp2_with fail
      with_reducible refine (equalInts_z _ _ xs _ (nrI HV.out) hv3 (by omega)).mono ?_
      rintro e w4 ⟨rfl, hb⟩
      clear hv3
      replace HX := Lib.hid ((hb.block _ (Array.getElem?_eq_some_iff.1 HX.out).1).trans HX.out)
      replace HK := Lib.hid (HK.out.keep hb)
      replace HV := Lib.hid (HV.out.keep hb)
      replace HB := Lib.hid (bkeep2 HB.out hb)
      clear hb
      have hz : ((xs.length : Int) == 0) = false := by simp only [beq_eq_false_iff_ne, ne_eq]; omega
      go_wp2_with fail
      clear hz
      go_loopw [6] (fun i wr => ∃ k : Nat, k + 1 ≤ xs.length ∧ i = .int .i64 ((k + 1 : Nat) : Int) ∧ Below w4.heap.size w4 wr) (fun i _ => xs.length - (intOf i).toNat)
      case atStart => exact ⟨0, by omega, rfl, Below.refl _ _⟩
      case round =>
        obtain ⟨k, hk, rfl, hBr⟩ := hrel
        have HBR := Lib.hid hBr
        have HXr := Lib.hid ((hBr.block _ (ltS HX.out)).trans HX.out)
        have HKr := Lib.hid (HK.out.keep hBr)
        have HVr := Lib.hid (HV.out.keep hBr)
        clear hBr
        by_cases hlt : k + 1 < xs.length
        · have hd : decide ((k : Int) + 1 < (xs.length : Int)) = true := by simp; omega
          have hd2 : decide (((k + 1 : Nat) : Int) < (xs.length : Int)) = true := by simp; omega
          obtain ⟨i, nd, e1, e2, e3⟩ := up_step HU.out k hlt
          obtain ⟨p, hp, rfl⟩ : ∃ p, R[i]? = some p ∧ p.n = nd := by
            rw [List.getElem?_map] at e2
            cases hq : R[i]? with
            | none => rw [hq] at e2; cases e2
            | some p => rw [hq] at e2; exact ⟨p, rfl, by simpa using e2⟩
          have hil : (i : Int) < (R.length : Int) := by have := (List.getElem?_eq_some_iff.1 hp).1; omega
          obtain ⟨b, off, rfl, hbl, hcl⟩ := HVr.out.cells (by omega)
          have y0 := hcl k _ e1
          have y1 := hcl (k + 1) _ e3
          have y2 := HKr.out.cellAt hp 0 _ rfl
          have x0 := cellS HXr.out 0
          have hkl : (k : Int) < (xs.length : Int) := by omega
          have hkl1 : (k : Int) + 1 < (xs.length : Int) := by omega
          have hk0 : (0 : Int) ≤ (k : Int) + 1 := by omega
          have wk : IntKind.i64.wrap (k : Int) = (k : Int) := IntWalk.i64_in _ (by omega)
          obtain ⟨pa, hpa⟩ : ∃ pa, p.n.pa = pa := ⟨_, rfl⟩
          simp only [valsNr, hpa, Nat.add_zero] at y1 y2
          clear hcl e1 e2 e3 hp hpa
          go_wp2_with fail
          refine wp_region_grow 15 0 (· < 15) (by kernel_rfl) (by kernel_rfl) rfl ?_
          iterate 15 (refine wpG_step (fun K hK => ?_); first | (refine grow_skip rfl ?_; go_simp; refine hK _ ?_; clear hK K) | (apply Exists.intro; refine ⟨.inl ⟨rfl, fun w' hw' => ?_⟩, ?_⟩; (focus ((obtain ⟨hc, hf⟩ := bcell hw'.out); (have hcS := bcellS hw'.out); go_simp <;> first | rfl | fail)); (go_simp; refine hK _ ?_; clear hK K)))
          refine wpG_nil ?_
          refine wpK_tail (by kernel_rfl) (fun w5 hg5 => ?_)
          have hb5 := bdrewn hg5.out
          refine wpAny_end (by kernel_rfl) ?_
          refine NoPan.thn ?_
          clear hg5
          replace HBR := Lib.hid (HBR.out.trans (hb5.mono HBR.out.size))
          clear hb5 x0 y0 y1 y2
          go_wp2
          go_roundw
          case rel => exact ⟨k + 1, by omega, by go_num, HBR.out⟩
          case measure => simp [intOf]; omega
        · obtain ⟨m, hm⟩ : ∃ m, xs.length = m + 1 := ⟨xs.length - 1, by omega⟩
          obtain ⟨b, off, rfl, hbl, hcl⟩ := HVr.out.cells (by omega)
          have y0 := hcl 0 _ HH.out
          have y1 := hcl m _ (up_last HT.out HU.out m hm)
          have hd : decide (((k + 1 : Nat) : Int) < (xs.length : Int)) = false := by simp; omega
          have hd1 : decide ((k : Int) + 1 < (xs.length : Int)) = false := by simp; omega
          have wm : IntKind.i64.wrap (m : Int) = (m : Int) := IntWalk.i64_in _ (by omega)
          have wm2 : IntKind.i64.wrap ((xs.length : Int) - 1) = (m : Int) := by rw [IntWalk.i64_in _ (by omega)]; omega
          have hml : (m : Int) < (xs.length : Int) := by omega
          have hpos : (0 : Int) < (xs.length : Int) := by omega
          simp only [Nat.add_zero] at y0
          have HM := Lib.hid hm
          clear hcl hm
          go_wp2
          go_ret
          exact ⟨rfl, HB.out.trans (HBR.out.mono HB.out.size)⟩
  · have hl1 : (1048576 : Int) < n := by omega
    go_enter Try.func4, Try.ntmps4
    go_wp2
    go_ret
    exact ⟨rfl, Below.refl _ _⟩
set_option maxRecDepth 100000 in
theorem lifted (os : Os) (started : os.Started) (H : Type) (enc : TypeId × Value → H) :
    ReturnsInHanded {} Try.checked os 4 .any (Rows.fnWayUpSpec.pre6 enc Try.prog Try.f4 Rows.fnWayUpRow.domain false) (Rows.fnWayUpSpec.post enc Try.prog Try.f4 false true false false) := by
  refine returnsInHanded_of_change (C := Try.checked) own started (by kernel_rfl) Try.func4
    (ChangeSpec.witness6 (enc := enc) (C := Try.checked) false ⟨#[], #[.slice none 0 0], []⟩ 8 (by kernel_rfl) (by kernel_rfl) (by kernel_rfl) (by kernel_rfl)) ?_
  intro W base args ds gs before hval0 hW hcnd _
  have hval : ∀ (j : Nat) t v, Try.f4.params[j]? = some t → args[j]? = some v → Value.okWide Try.prog W .any base t v := hval0
  have hW' := hW
  obtain ⟨p, q, hA0, hV, rfl, hfz, hnd⟩ := hW
  have hA : DataW.TrodAll enc Try.prog W 0 (fun _ => true) true Try.f4.params.toList args.toList ds p := hA0
  rw [Try.params4] at hA hval
  obtain ⟨v0, vs0, d0, ds0, p0, q0, hargs, rfl, rfl, h0, r0⟩ := trodAll_cons hA
  obtain ⟨rfl, rfl, rfl⟩ := trodAll_nil r0
  obtain rfl : args = #[v0] := by cases args; simp_all
  obtain ⟨rfl, rfl⟩ := trodVars_none hV
  have k0 := h0
  have lt0 : ∀ x ∈ p0, x.block < W.heap.size := by obtain ⟨m, hm⟩ := k0; exact DataW.trod_lt m _ _ _ hm
  obtain ⟨a0, len0, cap0, rfl⟩ := okWide_slice Try.underlying22 (hval 0 22 v0 rfl rfl)
  obtain ⟨z0, wz0⟩ : ∃ zs, IsRow .u8 W a0 len0 cap0 zs := by
    obtain ⟨fuel, hf⟩ := h0
    rcases open_ints Try.underlying22 Try.underlying5 (by kernel_rfl) hf with ⟨hcs, _⟩ | ⟨x, l, c, zs, hcs, _, hl, hm, hz, _, hcell, hwz⟩
    · simp [Value.cells] at hcs
      obtain ⟨rfl, rfl, rfl⟩ := hcs
      exact ⟨[], .inl ⟨rfl, rfl, rfl, rfl⟩⟩
    · simp [Value.cells] at hcs
      obtain ⟨rfl, rfl, rfl⟩ := hcs
      exact ⟨zs, .inr ⟨_, rfl, hl, hm, by simpa using hz, hcell, hwz⟩⟩
  clear hA0 hval0
  refine (walk a0 len0 cap0 z0 W wz0).mono fun e W' ⟨he, bel⟩ => ?_
  subst he
  exact ⟨_, rfl, _, _, _, [], _, [], hW', trodAll_mk1 (shut_bool Try.underlying4 _), (trodAll_cons_mk (Below.trod laidOut (by kernel_rfl) (of_decide_eq_true (by kernel_rfl)) k0 bel lt0) trodAll_mk0), rfl, bel.frame _, fun h => by cases h⟩
theorem over : Rows.fnWayUpRow.holds Try.pinned (OpenSpec.ofChange Rows.fnWayUpSpec) :=
  OpenClaim.holds_of_wide 4 Try.f4 rfl rfl rfl rfl rfl rfl rfl ⟨rfl, rfl, rfl, rfl, rfl⟩ rfl rfl rfl rfl rfl (by kernel_rfl) Try.func4 (by kernel_rfl)
    (of_decide_eq_true (by kernel_rfl)) (by unfold Func.isWrapper; first | (rw [if_pos (by decide +kernel)]; kernel_rfl) | (rw [if_neg (by decide +kernel)]; exact ⟨rfl, rfl⟩))
    (fun os started H enc _ => lifted os started H enc)
theorem proved : Rows.FnWayUpSaid := over
end Go.Proofs.Ytgdkionmeacalab.lWayUp
