/- FnRequestOf: for every code the law returns true. No condition. -/
import Derived.Test.YtgdkionmeacalabGreatQ27
namespace Go.Proofs.YtgdkionmeacalabGreat.lRequestOf
open Go.ChangeShapes Go.WideShapes Go.ChangeAt Go.RowKit Go.Joins
set_option linter.unusedVariables false
set_option maxHeartbeats 4000000
attribute [local go_sem] growUpon_value growUpon_skip growUpon_enter
set_option linter.unusedSimpArgs false
attribute [local go_sem] givesUpon_value givesUpon_skip givesUpon_enter
set_option maxRecDepth 100000 in
theorem walk (A : Option Addr) (n c : Nat) (z : List Int) (w : World) (wz : IsRow .u8 w A n c z) : Calls Tryz.prog 3 #[.slice A n c] w fun e w' => e = .returned (.bool true) ∧ Below w.heap.size w w' := by
  obtain ⟨hb, hn, hc⟩ := wz.bts
  clear wz
  by_cases hlen : n ≤ 1048576
  · have hl1 : ¬ (1048576 : Int) < n := by omega
    go_enter Tryz.func3, Tryz.ntmps3
    go_wp2_with fail
    with_reducible refine (DrawRequestOf_any A n c _ hb hn hc).mono ?_
    rintro e w1 ⟨⟨g, c0, R, q, rfl, htk, hcap, r1, r2⟩, hB⟩
    have hbb : Below w1.heap.size w1 (w1.alloc (.cells #[.slice (some ⟨g, 0, none⟩) R.length c0] 25)) := balloc (Below.refl _ _)
    have HX := Lib.hid (newS w1 (.cells #[.slice (some ⟨g, 0, none⟩) R.length c0] 25))
    have HK := Lib.hid (htk.keep hbb)
    have HB := Lib.hid (balloc (o := (.cells #[.slice (some ⟨g, 0, none⟩) R.length c0] 25)) hB)
    clear hB hb hn hc htk hbb
    cases hbt : (treeB (R.map Nr.n) && rng q 0 ((R.length : Int) - 1))
    · have HT := Lib.hid hbt
      clear hbt
      have x0 := cellS HX.out 0
      go_wp2_with fail
      with_reducible refine (RequestOf_no _ c0 R.length R q _ rfl HK.out.nrv HK.out.rdr (by omega) HK.out.mx HT.out).mono ?_
      rintro e w2 ⟨rfl, hb⟩
      clear x0
      replace HX := Lib.hid ((hb.block _ (Array.getElem?_eq_some_iff.1 HX.out).1).trans HX.out)
      replace HK := Lib.hid (HK.out.keep hb)
      replace HB := Lib.hid (bkeep2 HB.out hb)
      clear hb
      have x0 := cellS HX.out 0
      go_wp2_with fail
      with_reducible refine (sRequestOf_no _ c0 R.length R q _ rfl HK.out.nrv HK.out.rdr (by omega) HK.out.mx HT.out).mono ?_
      rintro e w3 ⟨rfl, hb⟩
      clear x0
      replace HX := Lib.hid ((hb.block _ (Array.getElem?_eq_some_iff.1 HX.out).1).trans HX.out)
      replace HK := Lib.hid (HK.out.keep hb)
      replace HB := Lib.hid (bkeep2 HB.out hb)
      clear hb
      go_wp2
      go_ret
      exact ⟨rfl, HB.out⟩
    · rw [Bool.and_eq_true, rng_iff] at hbt
      obtain ⟨ht, h0, h1⟩ := hbt
      obtain ⟨j, rfl⟩ := Int.eq_ofNat_of_zero_le h0
      have hjl : j < R.length := by omega
      have hji : (j : Int) < (R.length : Int) := by omega
      have hOK := trOK_of ht
      obtain ⟨⟨b1, -⟩, ⟨b2, -⟩⟩ := szM_bd hOK j
      have hget : R[j]? = some R[j] := List.getElem?_eq_getElem hjl
      generalize R[j] = p at *
      have hmg : (R.map Nr.n)[j]? = some p.n := by rw [List.getElem?_map, hget]; rfl
      have HT := Lib.hid ht
      have HO := Lib.hid hOK
      have HG := Lib.hid hget
      have HMG := Lib.hid hmg
      have HSZ := Lib.hid (szM_eq hOK hmg)
      obtain ⟨s1, hs1⟩ : ∃ s1, (szM (R.map Nr.n) j).1 = s1 := ⟨_, rfl⟩
      obtain ⟨s2, hs2⟩ : ∃ s2, (szM (R.map Nr.n) j).2 = s2 := ⟨_, rfl⟩
      rw [hs1] at b1
      rw [hs2] at b2
      have HS1 := Lib.hid hs1
      have HS2 := Lib.hid hs2
      have hneg : decide (s1 < 0) = false := decide_eq_false (by omega)
      have HRI := Lib.hid (RequestOf_yes (some ⟨g, 0, none⟩) c0 R.length R)
      have HRS := Lib.hid (sRequestOf_yes (some ⟨g, 0, none⟩) c0 R.length R j)
      rw [hs1, hs2] at HRS
      have HRJ := Lib.hid (HRI.out j)
      rw [hs1, hs2] at HRJ
      clear ht h0 h1 hOK hget hmg hs1 hs2
      have x0 := cellS HX.out 0
      go_wp2_with fail
      with_reducible refine (HRJ.out _ (by trivial) HK.out.nrv HK.out.rdr (by omega) HK.out.mx HT.out hjl).mono ?_
      rintro e w2 ⟨rfl, hb⟩
      clear x0
      replace HX := Lib.hid ((hb.block _ (Array.getElem?_eq_some_iff.1 HX.out).1).trans HX.out)
      replace HK := Lib.hid (HK.out.keep hb)
      replace HB := Lib.hid (bkeep2 HB.out hb)
      clear hb
      have x0 := cellS HX.out 0
      go_wp2_with fail
      with_reducible refine (HRS.out _ (by trivial) HK.out.nrv HK.out.rdr (by omega) HK.out.mx HT.out hjl).mono ?_
      rintro e w3 ⟨rfl, hb⟩
      clear x0 HRS HRJ
      replace HX := Lib.hid ((hb.block _ (Array.getElem?_eq_some_iff.1 HX.out).1).trans HX.out)
      replace HK := Lib.hid (HK.out.keep hb)
      replace HB := Lib.hid (bkeep2 HB.out hb)
      clear hb
      have x0 := cellS HX.out 0
      have HC : Hid (w3.rangeAt g (j * 34) (valsNr p)) := Lib.hid (fun o v hv => HK.out.cellAt HG.out o v hv)
      go_upto_region 9 with (first | (refine ldN _ p g (j * 34) rfl rfl rfl HC.out ?_) | (refine stN (.tmp 9) (.tmp 57) p w3.heap.size 0 rfl rfl rfl rfl (newS _ _) (by show (0 + 34 : Nat) ≤ 34; omega) ?_))
      refine wp_genGG (fun W => W.heap[w3.heap.size]? = some (.cells (valsNr p).toArray 38 (0, 0)) ∧ Below w3.heap.size w3 W) ⟨new_fullW p rfl rfl, below_setCells (Nat.le_refl _) _ _ _ (balloc (Below.refl _ _))⟩ (fun W4 h4 => ?_)
      obtain ⟨hn4, hb⟩ := h4
      have HN := Lib.hid hn4
      clear hn4 x0 HC
      replace HX := Lib.hid ((hb.block _ (Array.getElem?_eq_some_iff.1 HX.out).1).trans HX.out)
      replace HK := Lib.hid (HK.out.keep hb)
      replace HB := Lib.hid (bkeep2 HB.out hb)
      clear hb
      have y1 : W4.cell? ⟨w3.heap.size, 1, none⟩ = some (.int .i64 p.n.ww) := cellS HN.out 1
      have y2 : W4.cell? ⟨w3.heap.size, 2, none⟩ = some (.int .i64 p.n.hh) := cellS HN.out 2
      have y3 : W4.cell? ⟨w3.heap.size, 3, none⟩ = some (.bool p.n.ke) := cellS HN.out 3
      cases hke : p.n.ke
      · rw [hke] at y3
        have HKE := Lib.hid hke
        have x0 := cellS HX.out 0
        have wj : IntKind.i64.wrap ((j : Int) + 1) = (j : Int) + 1 := IntWalk.i64_in _ (by omega)
        clear hke
        go_wp2_with fail
        clear y1 y2 y3 x0 hneg wj
        go_loopw [10] (fun i wr => ∃ k : Nat, k ≤ R.length ∧ j < k ∧ i = .int .i64 (k : Int) ∧ Below W4.heap.size W4 wr) (fun i _ => R.length - (intOf i).toNat)
        case atStart => exact ⟨j + 1, by omega, by omega, by go_num, Below.refl _ _⟩
        case round =>
          obtain ⟨k, hk, hjk, rfl, hBr⟩ := hrel
          have HBR := Lib.hid hBr
          have HXr := Lib.hid ((hBr.block _ (ltS HX.out)).trans HX.out)
          have HKr := Lib.hid (HK.out.keep hBr)
          have HNr := Lib.hid ((hBr.block _ (ltS HN.out)).trans HN.out)
          clear hBr
          have x0 := cellS HXr.out 0
          by_cases hlt : k < R.length
          · have hd : decide ((k : Int) < (R.length : Int)) = true := by simpa using hlt
            have hki : (k : Int) < (R.length : Int) := by omega
            go_wp2_with fail
            with_reducible refine (HRI.out k _ (by trivial) HKr.out.nrv HKr.out.rdr (by omega) HKr.out.mx HT.out hlt).mono ?_
            rintro e w5 ⟨rfl, hb⟩
            clear x0 hd
            replace HXr := Lib.hid ((hb.block _ (ltS HXr.out)).trans HXr.out)
            replace HKr := Lib.hid (HKr.out.keep hb)
            replace HNr := Lib.hid ((hb.block _ (ltS HNr.out)).trans HNr.out)
            replace HBR := Lib.hid (bkeep2 HBR.out hb)
            clear hb
            have hget : R[k]? = some R[k] := List.getElem?_eq_getElem hlt
            generalize R[k] = u at *
            have hmk : (R.map Nr.n)[k]? = some u.n := by rw [List.getElem?_map, hget]; rfl
            have z0 := HKr.out.cellAt hget 0 _ rfl
            have z4 : w5.cell? ⟨w3.heap.size, 4, none⟩ = some (.int .i64 p.n.ki) := cellS HNr.out 4
            have x0 := cellS HXr.out 0
            obtain ⟨a, ha⟩ : ∃ a, (szM (R.map Nr.n) k).1 = a := ⟨_, rfl⟩
            obtain ⟨b, hb⟩ : ∃ b, (szM (R.map Nr.n) k).2 = b := ⟨_, rfl⟩
            rw [ha, hb]
            obtain ⟨pa, hpa⟩ : ∃ pa, u.n.pa = pa := ⟨_, rfl⟩
            obtain ⟨ki, hkk⟩ : ∃ ki, p.n.ki = ki := ⟨_, rfl⟩
            rw [hkk] at z4
            simp only [valsNr, hpa, Nat.add_zero] at z0
            by_cases c1 : pa = (j : Int)
            · by_cases c2 : ki = 0
              · obtain ⟨l1, l2⟩ := kid_le HO.out HMG.out HKE.out (by rw [hkk]; exact c2) hmk (by rw [hpa]; exact c1)
                rw [ha, HS1.out] at l1
                rw [hb, HS2.out] at l2
                have d1 : (pa == (j : Int)) = true := by simp [c1]
                have d2 : (ki == 0) = true := by simp [c2]
                have d3 : decide (a > s1) = false := decide_eq_false (by omega)
                have d4 : decide (s1 < a) = false := decide_eq_false (by omega)
                have d5 : decide (b > s2) = false := decide_eq_false (by omega)
                have d6 : decide (s2 < b) = false := decide_eq_false (by omega)
                clear c1 c2 hpa hkk ha hb hmk hget l1 l2
                go_wp2
                go_roundw
                case rel => exact ⟨k + 1, by omega, by omega, by go_num, HBR.out⟩
                case measure => simp [intOf]; omega
              · have d1 : (pa == (j : Int)) = true := by simp [c1]
                have d2 : (ki == 0) = false := by simp [c2]
                clear c1 c2 hpa hkk ha hb hmk hget
                go_wp2
                go_roundw
                case rel => exact ⟨k + 1, by omega, by omega, by go_num, HBR.out⟩
                case measure => simp [intOf]; omega
            · have d1 : (pa == (j : Int)) = false := by simp [c1]
              clear c1 hpa hkk ha hb hmk hget
              go_wp2
              go_roundw
              case rel => exact ⟨k + 1, by omega, by omega, by go_num, HBR.out⟩
              case measure => simp [intOf]; omega
          · have hd : decide ((k : Int) < (R.length : Int)) = false := decide_eq_false (by omega)
            go_wp2
            go_ret
            exact ⟨rfl, bkeep2 HB.out HBR.out⟩
      · rw [hke] at y3
        obtain ⟨e1, e2⟩ : s1 = p.n.ww ∧ s2 = p.n.hh := by
          have := HSZ.out.trans (askN_own (.inl hke))
          rw [← HS1.out, ← HS2.out, this]
          exact ⟨rfl, rfl⟩
        rw [← e1] at y1
        rw [← e2] at y2
        clear hke e1 e2
        go_wp2
        go_ret
        exact ⟨rfl, HB.out⟩
  · have hl1 : (1048576 : Int) < n := by omega
    go_enter Tryz.func3, Tryz.ntmps3
    go_wp2
    go_ret
    exact ⟨rfl, Below.refl _ _⟩
set_option maxRecDepth 100000 in
theorem lifted (os : Os) (started : os.Started) (H : Type) (enc : TypeId × Value → H) :
    ReturnsInHanded {} Tryz.checked os 3 .any (Rows.fnRequestOfSpec.pre6 enc Tryz.prog Tryz.f3 Rows.fnRequestOfRow.domain false) (Rows.fnRequestOfSpec.post enc Tryz.prog Tryz.f3 false true false false) := by
  refine returnsInHanded_of_change (C := Tryz.checked) own started (by kernel_rfl) Tryz.func3
    (ChangeSpec.witness6 (enc := enc) (C := Tryz.checked) false ⟨#[], #[.slice none 0 0], []⟩ 8 (by kernel_rfl) (by kernel_rfl) (by kernel_rfl) (by kernel_rfl)) ?_
  intro W base args ds gs before hval0 hW hcnd _
  have hval : ∀ (j : Nat) t v, Tryz.f3.params[j]? = some t → args[j]? = some v → Value.okWide Tryz.prog W .any base t v := hval0
  have hW' := hW
  obtain ⟨p, q, hA0, hV, rfl, hfz, hnd⟩ := hW
  have hA : DataW.TrodAll enc Tryz.prog W 0 (fun _ => true) true Tryz.f3.params.toList args.toList ds p := hA0
  rw [Tryz.params3] at hA hval
  obtain ⟨v0, vs0, d0, ds0, p0, q0, hargs, rfl, rfl, h0, r0⟩ := trodAll_cons hA
  obtain ⟨rfl, rfl, rfl⟩ := trodAll_nil r0
  obtain rfl : args = #[v0] := by cases args; simp_all
  obtain ⟨rfl, rfl⟩ := trodVars_none hV
  have k0 := h0
  have lt0 : ∀ x ∈ p0, x.block < W.heap.size := by obtain ⟨m, hm⟩ := k0; exact DataW.trod_lt m _ _ _ hm
  obtain ⟨a0, len0, cap0, rfl⟩ := okWide_slice Tryz.underlying22 (hval 0 22 v0 rfl rfl)
  obtain ⟨z0, wz0⟩ : ∃ zs, IsRow .u8 W a0 len0 cap0 zs := by
    obtain ⟨fuel, hf⟩ := h0
    rcases open_ints Tryz.underlying22 Tryz.underlying5 (by kernel_rfl) hf with ⟨hcs, _⟩ | ⟨x, l, c, zs, hcs, _, hl, hm, hz, _, hcell, hwz⟩
    · simp [Value.cells] at hcs
      obtain ⟨rfl, rfl, rfl⟩ := hcs
      exact ⟨[], .inl ⟨rfl, rfl, rfl, rfl⟩⟩
    · simp [Value.cells] at hcs
      obtain ⟨rfl, rfl, rfl⟩ := hcs
      exact ⟨zs, .inr ⟨_, rfl, hl, hm, by simpa using hz, hcell, hwz⟩⟩
  clear hA0 hval0
  refine (walk a0 len0 cap0 z0 W wz0).mono fun e W' ⟨he, bel⟩ => ?_
  subst he
  exact ⟨_, rfl, _, _, _, [], _, [], hW', trodAll_mk1 (shut_bool Tryz.underlying4 _), (trodAll_cons_mk (Below.trod laidOut (by kernel_rfl) (of_decide_eq_true (by kernel_rfl)) k0 bel lt0) trodAll_mk0), rfl, bel.frame _, fun h => by cases h⟩
theorem over : Rows.fnRequestOfRow.holds Tryz.pinned (OpenSpec.ofChange Rows.fnRequestOfSpec) :=
  OpenClaim.holds_of_wide 3 Tryz.f3 rfl rfl rfl rfl rfl rfl rfl ⟨rfl, rfl, rfl, rfl, rfl⟩ rfl rfl rfl rfl rfl (by kernel_rfl) Tryz.func3 (by kernel_rfl)
    (of_decide_eq_true (by kernel_rfl)) (by unfold Func.isWrapper; first | (rw [if_pos (by decide +kernel)]; kernel_rfl) | (rw [if_neg (by decide +kernel)]; exact ⟨rfl, rfl⟩))
    (fun os started H enc _ => lifted os started H enc)
theorem proved : Rows.FnRequestOfSaid := over
end Go.Proofs.YtgdkionmeacalabGreat.lRequestOf
