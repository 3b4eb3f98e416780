/- FnTouchedBy: for every code the law returns true. No condition. -/
import Derived.Test.YtgdkionmeacalabGreatQ29
namespace Go.Proofs.YtgdkionmeacalabGreat.lTouchedBy
open Go.ChangeShapes Go.WideShapes Go.ChangeAt Go.RowKit Go.Joins
set_option linter.unusedVariables false
set_option maxHeartbeats 8000000
attribute [local go_sem] growUpon_value growUpon_skip growUpon_enter
set_option linter.unusedSimpArgs false
attribute [local go_sem] givesUpon_value givesUpon_skip givesUpon_enter
theorem nrI {w : World} {A : Option Addr} {c : Nat} {L : List Int} (h : NV w A L) : NR w (.slice A L.length c) L := ⟨A, c, rfl, h⟩
set_option maxRecDepth 100000 in
theorem walk (A : Option Addr) (n c : Nat) (z : List Int) (w : World) (wz : IsRow .u8 w A n c z) : Calls Tryz.prog 4 #[.slice A n c] w fun e w' => e = .returned (.bool true) ∧ Below w.heap.size w w' := by
  obtain ⟨hb, hn, hc⟩ := wz.bts
  clear wz
  by_cases hlen : n ≤ 1048576
  · have hl1 : ¬ (1048576 : Int) < n := by omega
    go_enter Tryz.func4, Tryz.ntmps4
    go_wp2_with fail
    with_reducible refine (DrawTouchedBy_any A n c _ hb hn hc).mono ?_
    rintro e w1 ⟨⟨g, c0, R, q, u, v, rfl, htk, hcap, r1, r2⟩, hB⟩
    obtain ⟨k, hk⟩ : ∃ k, R.length = k := ⟨_, rfl⟩
    rw [hk] at hcap r1 r2
    rw [hk]
    have hbb : Below w1.heap.size w1 (w1.alloc (.cells #[.slice (some ⟨g, 0, none⟩) k c0] 25)) := balloc (Below.refl _ _)
    have HX := Lib.hid (newS w1 (.cells #[.slice (some ⟨g, 0, none⟩) k c0] 25))
    have HK := Lib.hid (htk.keep hbb)
    have HB := Lib.hid (balloc (o := (.cells #[.slice (some ⟨g, 0, none⟩) k c0] 25)) hB)
    have HKL := Lib.hid hk
    clear hB hb hn hc htk hbb hk hl1 hlen
    cases hbt : askB (R.map Nr.n) k q u v
    · have HT := Lib.hid hbt
      clear hbt
      have gN : ∀ w, NR w (.slice none 0 0) [] := fun w => ⟨none, 0, rfl, NV.nil _ _⟩
      have HG := Lib.hid gN
      clear gN
      have x0 := cellS HX.out 0
      go_wp2_with fail
      with_reducible refine (TouchedBy_no _ c0 k R q u v _ HKL.out.symm HK.out.nrv HK.out.rdr (by have := HKL.out; omega) HK.out.mx HT.out).mono ?_
      rintro e w2 ⟨rfl, hb⟩
      clear x0
      replace HX := Lib.hid ((hb.block _ (Array.getElem?_eq_some_iff.1 HX.out).1).trans HX.out)
      replace HK := Lib.hid (HK.out.keep hb)
      replace HB := Lib.hid (bkeep2 HB.out hb)
      clear hb
      have x0 := cellS HX.out 0
      go_wp2_with fail
      with_reducible refine (sTouchedBy_no _ c0 k R q u v _ HKL.out.symm HK.out.nrv HK.out.rdr (by have := HKL.out; omega) HK.out.mx HT.out).mono ?_
      rintro e w3 ⟨rfl, hb⟩
      clear x0
      replace HX := Lib.hid ((hb.block _ (Array.getElem?_eq_some_iff.1 HX.out).1).trans HX.out)
      replace HK := Lib.hid (HK.out.keep hb)
      replace HB := Lib.hid (bkeep2 HB.out hb)
      clear hb
      go_wp2_with fail
      with_reducible refine (equalInts_z _ _ [] _ (HG.out _) (HG.out _) (by simp)).mono ?_
      rintro e w4 ⟨rfl, hb⟩
      replace HX := Lib.hid ((hb.block _ (Array.getElem?_eq_some_iff.1 HX.out).1).trans HX.out)
      replace HK := Lib.hid (HK.out.keep hb)
      replace HB := Lib.hid (bkeep2 HB.out hb)
      clear hb
      have x0 := cellS HX.out 0
      go_wp2_with fail
      with_reducible refine (sTouchedBy_no _ c0 k R q u v _ HKL.out.symm HK.out.nrv HK.out.rdr (by have := HKL.out; omega) HK.out.mx HT.out).mono ?_
      rintro e w5 ⟨rfl, hb⟩
      clear x0
      replace HX := Lib.hid ((hb.block _ (Array.getElem?_eq_some_iff.1 HX.out).1).trans HX.out)
      replace HK := Lib.hid (HK.out.keep hb)
      replace HB := Lib.hid (bkeep2 HB.out hb)
      clear hb
      go_wp2_with fail
      with_reducible refine (equalInts_z _ _ [] _ (HG.out _) (HG.out _) (by simp)).mono ?_
      rintro e w6 ⟨rfl, hb⟩
      replace HX := Lib.hid ((hb.block _ (Array.getElem?_eq_some_iff.1 HX.out).1).trans HX.out)
      replace HK := Lib.hid (HK.out.keep hb)
      replace HB := Lib.hid (bkeep2 HB.out hb)
      clear hb
      go_wp2
      go_ret
      exact ⟨rfl, HB.out⟩
    · obtain ⟨ht, ⟨h0, h1⟩, hu, hv⟩ := askB_iff.1 hbt
      obtain ⟨j, rfl⟩ := Int.eq_ofNat_of_zero_le h0
      have hjl : j < R.length := by have := HKL.out; omega
      have hml : j < (R.map Nr.n).length := by rw [List.length_map]; exact hjl
      obtain ⟨xs, hup, hxl⟩ := up_ex ht j hml
      have hx20 : xs.length ≤ 20 := by omega
      have hmt := askM_tree (j := j) ht hu hv
      have HWY := Lib.hid (fun (x : Int) hx => tch_way (x := x) ht hmt (List.getElem?_eq_getElem hml) hup hx)
      have HGP := Lib.hid (fun (m : Nat) (a : Int) ha hx => tch_gap (m := m) (a := a) ht hmt (List.getElem?_eq_getElem hml) hup ha hx)
      have hol : (tchM (R.map Nr.n) j u v).length ≤ 1048576 := by
        have := idsM_len (fun k => neW (szM (R.map Nr.n) k) (szM (askM (R.map Nr.n) j u v) k)) (R.map Nr.n).length
        rw [List.length_map, HKL.out] at this
        unfold tchM
        rw [List.length_map, HKL.out]
        omega
      have HAS := Lib.hid (show ∀ (m : Nat) (a b : Int), (tchM (R.map Nr.n) j u v)[m]? = some a → (tchM (R.map Nr.n) j u v)[m + 1]? = some b → a < b from fun m a b h1 h2 => idsM_asc h1 h2)
      have HTI := Lib.hid (TouchedBy_yes (some ⟨g, 0, none⟩) c0 k R j u v)
      have HTS := Lib.hid (sTouchedBy_yes (some ⟨g, 0, none⟩) c0 k R j u v)
      obtain ⟨O, hO⟩ : ∃ O, tchM (R.map Nr.n) j u v = O := ⟨_, rfl⟩
      rw [hO] at HWY HGP hol HAS HTI HTS
      have HT := Lib.hid ht
      have HBT := Lib.hid hbt
      have HU := Lib.hid hup
      have HJL := Lib.hid hjl
      clear ht hbt hup h0 h1 hu hv hmt hO hjl hml hxl
      have x0 := cellS HX.out 0
      go_wp2_with fail
      with_reducible refine (HTI.out _ HKL.out.symm HK.out.nrv HK.out.rdr (by have := HKL.out; omega) HK.out.mx HJL.out HBT.out).mono ?_
      rintro e w2 ⟨⟨x, rfl, hx⟩, hb⟩
      obtain ⟨A2, c2, rfl, hv⟩ := hx.nr
      clear x0 hx
      replace HX := Lib.hid ((hb.block _ (Array.getElem?_eq_some_iff.1 HX.out).1).trans HX.out)
      replace HK := Lib.hid (HK.out.keep hb)
      replace HB := Lib.hid (bkeep2 HB.out hb)
      clear hb
      have HV := Lib.hid hv
      clear hv
      have x0 := cellS HX.out 0
      go_wp2_with fail
      with_reducible refine (HTS.out _ HKL.out.symm HK.out.nrv HK.out.rdr (by have := HKL.out; omega) HK.out.mx HJL.out HBT.out).mono ?_
      rintro e w3 ⟨⟨v3, rfl, hv3⟩, hb⟩
      clear x0
      replace HX := Lib.hid ((hb.block _ (Array.getElem?_eq_some_iff.1 HX.out).1).trans HX.out)
      replace HK := Lib.hid (HK.out.keep hb)
      replace HV := Lib.hid (HV.out.keep hb)
      replace HB := Lib.hid (bkeep2 HB.out hb)
      clear hb
      go_wp2_with fail
      with_reducible refine (equalInts_z _ _ O _ (nrI HV.out) hv3 hol).mono ?_
      rintro e w4 ⟨rfl, hb⟩
      clear hv3
      replace HX := Lib.hid ((hb.block _ (Array.getElem?_eq_some_iff.1 HX.out).1).trans HX.out)
      replace HK := Lib.hid (HK.out.keep hb)
      replace HV := Lib.hid (HV.out.keep hb)
      replace HB := Lib.hid (bkeep2 HB.out hb)
      clear hb
      by_cases hz0 : O.length = 0
      · have hz : ((O.length : Int) == 0) = true := by simp [hz0]
        clear hz0
        have x0 := cellS HX.out 0
        go_wp2_with fail
        with_reducible refine (HTS.out _ HKL.out.symm HK.out.nrv HK.out.rdr (by have := HKL.out; omega) HK.out.mx HJL.out HBT.out).mono ?_
        rintro e w5 ⟨⟨v5, rfl, hv5⟩, hb⟩
        clear x0
        replace HX := Lib.hid ((hb.block _ (Array.getElem?_eq_some_iff.1 HX.out).1).trans HX.out)
        replace HK := Lib.hid (HK.out.keep hb)
        replace HV := Lib.hid (HV.out.keep hb)
        replace HB := Lib.hid (bkeep2 HB.out hb)
        clear hb
        go_wp2_with fail
        with_reducible refine (equalInts_z _ _ O _ (nrI HV.out) hv5 hol).mono ?_
        rintro e w6 ⟨rfl, hb⟩
        clear hv5
        replace HX := Lib.hid ((hb.block _ (Array.getElem?_eq_some_iff.1 HX.out).1).trans HX.out)
        replace HK := Lib.hid (HK.out.keep hb)
        replace HV := Lib.hid (HV.out.keep hb)
        replace HB := Lib.hid (bkeep2 HB.out hb)
        clear hb
        go_wp2
        go_ret
        exact ⟨rfl, HB.out⟩
      · have hz : ((O.length : Int) == 0) = false := by simp only [beq_eq_false_iff_ne, ne_eq]; omega
        clear hz0
        have x0 := cellS HX.out 0
        go_wp2_with fail
        with_reducible refine (WayUp_yes _ c0 k R j xs _ HKL.out.symm HK.out.nrv HK.out.rdr (by have := HKL.out; omega) HK.out.mx HT.out HJL.out HU.out hx20).mono ?_
        rintro e w5 ⟨⟨x, rfl, hx⟩, hb⟩
        obtain ⟨A3, c3, rfl, hv⟩ := hx.nr
        clear x0 hx hz HTI HTS
        replace HX := Lib.hid ((hb.block _ (Array.getElem?_eq_some_iff.1 HX.out).1).trans HX.out)
        replace HK := Lib.hid (HK.out.keep hb)
        replace HV := Lib.hid (HV.out.keep hb)
        replace HB := Lib.hid (bkeep2 HB.out hb)
        clear hb
        have HW := Lib.hid hv
        clear hv
        go_wp2_with fail
        go_loopw [9] (fun i wr => ∃ m : Nat, m ≤ O.length ∧ i = .int .i64 (m : Int) ∧ Below w5.heap.size w5 wr) (fun i _ => O.length - (intOf i).toNat)
        case atStart => exact ⟨0, by omega, rfl, Below.refl _ _⟩
        case round =>
          obtain ⟨m, hm, rfl, hBr⟩ := hrel
          have HVr := Lib.hid (HV.out.keep hBr)
          have HWr := Lib.hid (HW.out.keep hBr)
          by_cases hlt : m < O.length
          · have HBR := Lib.hid hBr
            clear hBr
            have hd : decide ((m : Int) < (O.length : Int)) = true := by simpa using hlt
            have hget : O[m]? = some O[m] := List.getElem?_eq_getElem hlt
            have hmem : O[m] ∈ O := List.getElem_mem hlt
            obtain ⟨b, off, rfl, hbl, hcl⟩ := HVr.out.cells (by omega)
            have y0 := hcl m _ hget
            generalize O[m] = y at *
            have HME := Lib.hid (HWY.out y hmem)
            clear hget hcl hmem
            go_wp2_with fail
            with_reducible refine (isIn_v _ y xs true _ (nrI HWr.out) (by omega) (decide_eq_true HME.out)).mono ?_
            rintro e w6 ⟨rfl, hb⟩
            clear y0
            replace HBR := Lib.hid (bkeep2 HBR.out hb)
            clear hb
            go_wp2
            go_roundw
            case rel => exact ⟨m + 1, by omega, by go_num, HBR.out⟩
            case measure => simp [intOf]; omega
          · have hd : decide ((m : Int) < (O.length : Int)) = false := decide_eq_false (by omega)
            replace HX := Lib.hid ((hBr.block _ (ltS HX.out)).trans HX.out)
            replace HK := Lib.hid (HK.out.keep hBr)
            replace HB := Lib.hid (bkeep2 HB.out hBr)
            clear HV HW hBr
            go_wp2_with fail
            clear hd
            go_loopw [10] (fun i ws => ∃ m : Nat, i = .int .i64 ((m + 1 : Nat) : Int) ∧ Below wr.heap.size wr ws) (fun i _ => xs.length - (intOf i).toNat)
            case atStart => exact ⟨0, rfl, Below.refl _ _⟩
            case round =>
              obtain ⟨m, rfl, hBr⟩ := hrel
              have HVs := Lib.hid (HVr.out.keep hBr)
              have HWs := Lib.hid (HWr.out.keep hBr)
              have HXs := Lib.hid ((hBr.block _ (ltS HX.out)).trans HX.out)
              have HKs := Lib.hid (HK.out.keep hBr)
              have HBR := Lib.hid hBr
              clear hBr
              by_cases hlt : m + 1 < xs.length
              · have hd : decide ((m : Int) + 1 < (xs.length : Int)) = true := by simp; omega
                have hd2 : decide (((m + 1 : Nat) : Int) < (xs.length : Int)) = true := by simp; omega
                obtain ⟨b, off, rfl, hbl, hcl⟩ := HWs.out.cells (by omega)
                obtain ⟨x, hx⟩ : ∃ x, xs[m]? = some x := ⟨_, List.getElem?_eq_getElem (by omega)⟩
                obtain ⟨y, hy⟩ : ∃ y, xs[m + 1]? = some y := ⟨_, List.getElem?_eq_getElem hlt⟩
                have y0 := hcl m _ hx
                have y1 := hcl (m + 1) _ hy
                have hkl : (m : Int) < (xs.length : Int) := by omega
                have hkl1 : (m : Int) + 1 < (xs.length : Int) := by omega
                have hk0 : (0 : Int) ≤ (m : Int) + 1 := by omega
                have wk : IntKind.i64.wrap (m : Int) = (m : Int) := IntWalk.i64_in _ (by omega)
                by_cases hyO : y ∈ O
                · obtain ⟨kk, nd, b', e1, e2, e3, e4, e5, e6⟩ := HGP.out m y hy hyO
                  rw [hx] at e5
                  obtain rfl := Option.some.inj e5
                  subst e1
                  obtain ⟨p, hp, rfl⟩ : ∃ p, R[kk]? = some p ∧ p.n = nd := by
                    rw [List.getElem?_map] at e2
                    cases hq : R[kk]? with
                    | none => rw [hq] at e2; cases e2
                    | some p => rw [hq] at e2; exact ⟨p, rfl, by simpa using e2⟩
                  have hil : (kk : Int) < (k : Int) := by have := (List.getElem?_eq_some_iff.1 hp).1; have := HKL.out; omega
                  have x0 := cellS HXs.out 0
                  have y3 := HKs.out.cellAt hp 3 _ rfl
                  have y4 := HKs.out.cellAt hp 4 _ rfl
                  rw [e3] at y3
                  obtain ⟨ki, hki⟩ : ∃ ki, p.n.ki = ki := ⟨_, rfl⟩
                  rw [hki] at y4 e4
                  have hk2 : (ki == 2) = false := by simpa using e4
                  have HY := Lib.hid hyO
                  have HXO := Lib.hid e6
                  clear hcl hx hy e2 e3 e4 e6 hp hki hyO
                  go_wp2_with fail
                  refine wp_region_grow 39 0 (· < 39) (by kernel_rfl) (by kernel_rfl) rfl ?_
                  iterate 39 (refine wpG_step (fun K hK => ?_); first | (refine grow_skip rfl ?_; go_simp; refine hK _ ?_; clear hK K) | (apply Exists.intro; refine ⟨.inl ⟨rfl, fun w' hw' => ?_⟩, ?_⟩; (focus ((obtain ⟨hc, hf⟩ := bcell hw'.out); (have hcS := bcellS hw'.out); go_simp <;> first | rfl | (go_at_call 14; exact isIn_v _ _ O true _ (nrI (HVs.out.keep (bdrewn hw'.out))) hol (decide_eq_true HY.out)) | (go_at_call 14; exact isIn_v _ _ O true _ (nrI (HVs.out.keep (bdrewn hw'.out))) hol (decide_eq_true HXO.out)))); (go_simp; refine hK _ ?_; clear hK K)))
                  refine wpG_nil ?_
                  refine wpK_tail (by kernel_rfl) (fun w5 hg5 => ?_)
                  have hb5 := bdrewn hg5.out
                  refine wpAny_end (by kernel_rfl) ?_
                  refine NoPan.thn ?_
                  clear hg5
                  replace HBR := Lib.hid (HBR.out.trans (hb5.mono HBR.out.size))
                  clear hb5 x0 y0 y1 y3 y4
                  go_wp2
                  go_roundw
                  case rel => exact ⟨m + 1, by go_num, HBR.out⟩
                  case measure => simp [intOf]; omega
                · have HY := Lib.hid hyO
                  clear hcl hx hy hyO
                  go_wp2_with fail
                  refine wp_region_grow 39 0 (· < 39) (by kernel_rfl) (by kernel_rfl) rfl ?_
                  iterate 39 (refine wpG_step (fun K hK => ?_); first | (refine grow_skip rfl ?_; go_simp; refine hK _ ?_; clear hK K) | (apply Exists.intro; refine ⟨.inl ⟨rfl, fun w' hw' => ?_⟩, ?_⟩; (focus ((obtain ⟨hc, hf⟩ := bcell hw'.out); (have hcS := bcellS hw'.out); go_simp <;> first | rfl | (go_at_call 14; exact isIn_v _ _ O false _ (nrI (HVs.out.keep (bdrewn hw'.out))) hol (decide_eq_false HY.out)))); (go_simp; refine hK _ ?_; clear hK K)))
                  refine wpG_nil ?_
                  refine wpK_tail (by kernel_rfl) (fun w5 hg5 => ?_)
                  have hb5 := bdrewn hg5.out
                  refine wpAny_end (by kernel_rfl) ?_
                  refine NoPan.thn ?_
                  clear hg5
                  replace HBR := Lib.hid (HBR.out.trans (hb5.mono HBR.out.size))
                  clear hb5 y0 y1
                  go_wp2
                  go_roundw
                  case rel => exact ⟨m + 1, by go_num, HBR.out⟩
                  case measure => simp [intOf]; omega
              · have hd : decide ((m : Int) + 1 < (xs.length : Int)) = false := decide_eq_false (by omega)
                have hd2 : decide (((m + 1 : Nat) : Int) < (xs.length : Int)) = false := decide_eq_false (by omega)
                go_wp2_with fail
                with_reducible refine (ascends_v _ O _ (nrI HVs.out) hol HAS.out).mono ?_
                rintro e w7 ⟨rfl, hb⟩
                replace HBR := Lib.hid (bkeep2 HBR.out hb)
                clear hb
                go_wp2
                go_ret
                exact ⟨rfl, bkeep2 HB.out HBR.out⟩
  · have hl1 : (1048576 : Int) < n := by omega
    go_enter Tryz.func4, Tryz.ntmps4
    go_wp2
    go_ret
    exact ⟨rfl, Below.refl _ _⟩
set_option maxRecDepth 100000 in
theorem lifted (os : Os) (started : os.Started) (H : Type) (enc : TypeId × Value → H) :
    ReturnsInHanded {} Tryz.checked os 4 .any (Rows.fnTouchedBySpec.pre6 enc Tryz.prog Tryz.f4 Rows.fnTouchedByRow.domain false) (Rows.fnTouchedBySpec.post enc Tryz.prog Tryz.f4 false true false false) := by
  refine returnsInHanded_of_change (C := Tryz.checked) own started (by kernel_rfl) Tryz.func4
    (ChangeSpec.witness6 (enc := enc) (C := Tryz.checked) false ⟨#[], #[.slice none 0 0], []⟩ 8 (by kernel_rfl) (by kernel_rfl) (by kernel_rfl) (by kernel_rfl)) ?_
  intro W base args ds gs before hval0 hW hcnd _
  have hval : ∀ (j : Nat) t v, Tryz.f4.params[j]? = some t → args[j]? = some v → Value.okWide Tryz.prog W .any base t v := hval0
  have hW' := hW
  obtain ⟨p, q, hA0, hV, rfl, hfz, hnd⟩ := hW
  have hA : DataW.TrodAll enc Tryz.prog W 0 (fun _ => true) true Tryz.f4.params.toList args.toList ds p := hA0
  rw [Tryz.params4] at hA hval
  obtain ⟨v0, vs0, d0, ds0, p0, q0, hargs, rfl, rfl, h0, r0⟩ := trodAll_cons hA
  obtain ⟨rfl, rfl, rfl⟩ := trodAll_nil r0
  obtain rfl : args = #[v0] := by cases args; simp_all
  obtain ⟨rfl, rfl⟩ := trodVars_none hV
  have k0 := h0
  have lt0 : ∀ x ∈ p0, x.block < W.heap.size := by obtain ⟨m, hm⟩ := k0; exact DataW.trod_lt m _ _ _ hm
  obtain ⟨a0, len0, cap0, rfl⟩ := okWide_slice Tryz.underlying22 (hval 0 22 v0 rfl rfl)
  obtain ⟨z0, wz0⟩ : ∃ zs, IsRow .u8 W a0 len0 cap0 zs := by
    obtain ⟨fuel, hf⟩ := h0
    rcases open_ints Tryz.underlying22 Tryz.underlying5 (by kernel_rfl) hf with ⟨hcs, _⟩ | ⟨x, l, c, zs, hcs, _, hl, hm, hz, _, hcell, hwz⟩
    · simp [Value.cells] at hcs
      obtain ⟨rfl, rfl, rfl⟩ := hcs
      exact ⟨[], .inl ⟨rfl, rfl, rfl, rfl⟩⟩
    · simp [Value.cells] at hcs
      obtain ⟨rfl, rfl, rfl⟩ := hcs
      exact ⟨zs, .inr ⟨_, rfl, hl, hm, by simpa using hz, hcell, hwz⟩⟩
  clear hA0 hval0
  refine (walk a0 len0 cap0 z0 W wz0).mono fun e W' ⟨he, bel⟩ => ?_
  subst he
  exact ⟨_, rfl, _, _, _, [], _, [], hW', trodAll_mk1 (shut_bool Tryz.underlying4 _), (trodAll_cons_mk (Below.trod laidOut (by kernel_rfl) (of_decide_eq_true (by kernel_rfl)) k0 bel lt0) trodAll_mk0), rfl, bel.frame _, fun h => by cases h⟩
theorem over : Rows.fnTouchedByRow.holds Tryz.pinned (OpenSpec.ofChange Rows.fnTouchedBySpec) :=
  OpenClaim.holds_of_wide 4 Tryz.f4 rfl rfl rfl rfl rfl rfl rfl ⟨rfl, rfl, rfl, rfl, rfl⟩ rfl rfl rfl rfl rfl (by kernel_rfl) Tryz.func4 (by kernel_rfl)
    (of_decide_eq_true (by kernel_rfl)) (by unfold Func.isWrapper; first | (rw [if_pos (by decide +kernel)]; kernel_rfl) | (rw [if_neg (by decide +kernel)]; exact ⟨rfl, rfl⟩))
    (fun os started H enc _ => lifted os started H enc)
theorem proved : Rows.FnTouchedBySaid := over
end Go.Proofs.YtgdkionmeacalabGreat.lTouchedBy
