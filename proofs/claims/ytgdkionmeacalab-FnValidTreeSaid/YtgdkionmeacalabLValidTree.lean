/- FnValidTree: for every code the law returns true. No condition. -/
import Derived.Test.YtgdkionmeacalabQ13
namespace Go.Proofs.Ytgdkionmeacalab.lValidTree
open Go.ChangeShapes Go.WideShapes Go.ChangeAt Go.RowKit Go.Joins
set_option linter.unusedVariables false
set_option maxHeartbeats 2000000
attribute [local go_sem] growUpon_value growUpon_skip growUpon_enter
set_option linter.unusedSimpArgs false
attribute [local go_sem] givesUpon_value givesUpon_skip givesUpon_enter
theorem treeB_take {L : List Nd} (h : treeB L = true) {k : Nat} (h1 : 1 ≤ k) (hk : k ≤ L.length) : treeB (L.take k) = true := by
  have hl := tree_len h
  unfold treeB
  rw [Bool.and_eq_true, rng_iff, List.length_take, Nat.min_eq_left hk]
  refine ⟨by omega, List.all_eq_true.2 fun i hi => ?_⟩
  have hik : i < k := List.mem_range.1 hi
  obtain ⟨n, hn⟩ : ∃ n, L[i]? = some n := ⟨_, List.getElem?_eq_getElem (by omega)⟩
  obtain ⟨a, b, c⟩ := tree_nok h hn
  have hn' : (L.take k)[i]? = some n := by rw [List.getElem?_take, if_pos hik]; exact hn
  rw [nokB_at hn', a, b]
  by_cases h0 : i = 0
  · simp [clB, h0]
  · rw [upB, if_neg h0, rng_iff] at b
    have e : (L.take k)[n.pa.toNat]? = L[n.pa.toNat]? := by rw [List.getElem?_take, if_pos (by omega)]
    have c' : clB (L.take k) i n = true := by
      rw [← c]; unfold clB; rw [e]
    rw [c']; rfl
set_option maxRecDepth 100000 in
theorem walk (A : Option Addr) (n c : Nat) (z : List Int) (w : World) (wz : IsRow .u8 w A n c z) : Calls Try.prog 5 #[.slice A n c] w fun e w' => e = .returned (.bool true) ∧ Below w.heap.size w w' := by
  obtain ⟨hb, hn, hc⟩ := wz.bts
  clear wz
  by_cases hlen : n ≤ 1048576
  · have hl1 : ¬ (1048576 : Int) < n := by omega
    go_enter Try.func5, Try.ntmps5
    go_wp2_with fail
    with_reducible refine (DrawValidTree_any A n c _ hb hn hc).mono ?_
    rintro e w1 ⟨⟨g, c0, R, rfl, htk, hcap, r1, r2⟩, hB⟩
    have hbb : Below w1.heap.size w1 (w1.alloc (.cells #[.slice (some ⟨g, 0, none⟩) R.length c0] 25)) := balloc (Below.refl _ _)
    have HX := Lib.hid (newS w1 (.cells #[.slice (some ⟨g, 0, none⟩) R.length c0] 25))
    have HK := Lib.hid (htk.keep hbb)
    have HB := Lib.hid (balloc (o := (.cells #[.slice (some ⟨g, 0, none⟩) R.length c0] 25)) hB)
    clear hB hb hn hc htk hbb
    obtain ⟨b, hbt⟩ : ∃ b, treeB (R.map Nr.n) = b := ⟨_, rfl⟩
    have HT := Lib.hid hbt
    clear hbt
    have x0 := cellS HX.out 0
    go_wp2_with fail
    with_reducible refine (ValidTree_n _ c0 R.length R b _ rfl HK.out.nrv HK.out.rdr (by omega) HK.out.mx HT.out).mono ?_
    rintro e w2 ⟨rfl, hb⟩
    clear x0
    replace HX := Lib.hid ((hb.block _ (Array.getElem?_eq_some_iff.1 HX.out).1).trans HX.out)
    replace HK := Lib.hid (HK.out.keep hb)
    replace HB := Lib.hid (bkeep2 HB.out hb)
    clear hb
    have x0 := cellS HX.out 0
    go_wp2_with fail
    with_reducible refine (sValidTree_n _ c0 R.length R b _ rfl HK.out.nrv HK.out.rdr (by omega) HK.out.mx HT.out).mono ?_
    rintro e w3 ⟨rfl, hb⟩
    clear x0
    replace HX := Lib.hid ((hb.block _ (Array.getElem?_eq_some_iff.1 HX.out).1).trans HX.out)
    replace HK := Lib.hid (HK.out.keep hb)
    replace HB := Lib.hid (bkeep2 HB.out hb)
    clear hb
    have x0 := cellS HX.out 0
    cases b
    · go_wp2_with fail
      with_reducible refine (sValidTree_n _ c0 R.length R false _ rfl HK.out.nrv HK.out.rdr (by omega) HK.out.mx HT.out).mono ?_
      rintro e w4 ⟨rfl, hb⟩
      clear x0
      replace HX := Lib.hid ((hb.block _ (Array.getElem?_eq_some_iff.1 HX.out).1).trans HX.out)
      replace HK := Lib.hid (HK.out.keep hb)
      replace HB := Lib.hid (bkeep2 HB.out hb)
      clear hb
      go_wp2
      go_ret
      exact ⟨rfl, HB.out⟩
    · obtain ⟨m, hm⟩ : ∃ m, R.length = m + 1 := ⟨R.length - 1, by omega⟩
      rcases Nat.eq_zero_or_pos m with h0 | h0
      · have h1 : ((R.length : Int) == 1) = true := by rw [beq_iff_eq]; omega
        clear hm
        go_wp2
        go_ret
        exact ⟨rfl, HB.out⟩
      · have h1 : ((R.length : Int) == 1) = false := by simp only [beq_eq_false_iff_ne, ne_eq]; omega
        have wL : IntKind.i64.wrap ((R.length : Int) - 1) = (m : Int) := by rw [IntWalk.i64_in _ (by omega)]; omega
        have hmc : (m : Int) ≤ (c0 : Int) := by omega
        have hmc2 : m ≤ c0 := by omega
        have HL := Lib.hid (show m = (R.take m).length by rw [List.length_take]; omega)
        have HTT := Lib.hid (show treeB ((R.take m).map Nr.n) = true by rw [List.map_take]; exact treeB_take HT.out h0 (by rw [List.length_map]; omega))
        have hmm : m ≤ 1048576 := by omega
        have hl10 : (R.take m).length ≤ 1048576 := by rw [List.length_take]; omega
        clear hm
        go_wp2_with fail
        with_reducible refine (ValidTree_n _ c0 m (R.take m) true _ HL.out (HK.out.nrv.take m) (HK.out.rdr.take m) hl10 (fun p hp => HK.out.mx p (List.mem_of_mem_take hp)) HTT.out).mono ?_
        rintro e w4 ⟨rfl, hb⟩
        clear x0
        replace HX := Lib.hid ((hb.block _ (Array.getElem?_eq_some_iff.1 HX.out).1).trans HX.out)
        replace HK := Lib.hid (HK.out.keep hb)
        replace HB := Lib.hid (bkeep2 HB.out hb)
        clear hb
        go_wp2
        go_ret
        exact ⟨rfl, HB.out⟩
  · have hl1 : (1048576 : Int) < n := by omega
    go_enter Try.func5, Try.ntmps5
    go_wp2
    go_ret
    exact ⟨rfl, Below.refl _ _⟩
set_option maxRecDepth 100000 in
theorem lifted (os : Os) (started : os.Started) (H : Type) (enc : TypeId × Value → H) :
    ReturnsInHanded {} Try.checked os 5 .any (Rows.fnValidTreeSpec.pre6 enc Try.prog Try.f5 Rows.fnValidTreeRow.domain false) (Rows.fnValidTreeSpec.post enc Try.prog Try.f5 false true false false) := by
  refine returnsInHanded_of_change (C := Try.checked) own started (by kernel_rfl) Try.func5
    (ChangeSpec.witness6 (enc := enc) (C := Try.checked) false ⟨#[], #[.slice none 0 0], []⟩ 8 (by kernel_rfl) (by kernel_rfl) (by kernel_rfl) (by kernel_rfl)) ?_
  intro W base args ds gs before hval0 hW hcnd _
  have hval : ∀ (j : Nat) t v, Try.f5.params[j]? = some t → args[j]? = some v → Value.okWide Try.prog W .any base t v := hval0
  have hW' := hW
  obtain ⟨p, q, hA0, hV, rfl, hfz, hnd⟩ := hW
  have hA : DataW.TrodAll enc Try.prog W 0 (fun _ => true) true Try.f5.params.toList args.toList ds p := hA0
  rw [Try.params5] at hA hval
  obtain ⟨v0, vs0, d0, ds0, p0, q0, hargs, rfl, rfl, h0, r0⟩ := trodAll_cons hA
  obtain ⟨rfl, rfl, rfl⟩ := trodAll_nil r0
  obtain rfl : args = #[v0] := by cases args; simp_all
  obtain ⟨rfl, rfl⟩ := trodVars_none hV
  have k0 := h0
  have lt0 : ∀ x ∈ p0, x.block < W.heap.size := by obtain ⟨m, hm⟩ := k0; exact DataW.trod_lt m _ _ _ hm
  obtain ⟨a0, len0, cap0, rfl⟩ := okWide_slice Try.underlying22 (hval 0 22 v0 rfl rfl)
  obtain ⟨z0, wz0⟩ : ∃ zs, IsRow .u8 W a0 len0 cap0 zs := by
    obtain ⟨fuel, hf⟩ := h0
    rcases open_ints Try.underlying22 Try.underlying5 (by kernel_rfl) hf with ⟨hcs, _⟩ | ⟨x, l, c, zs, hcs, _, hl, hm, hz, _, hcell, hwz⟩
    · simp [Value.cells] at hcs
      obtain ⟨rfl, rfl, rfl⟩ := hcs
      exact ⟨[], .inl ⟨rfl, rfl, rfl, rfl⟩⟩
    · simp [Value.cells] at hcs
      obtain ⟨rfl, rfl, rfl⟩ := hcs
      exact ⟨zs, .inr ⟨_, rfl, hl, hm, by simpa using hz, hcell, hwz⟩⟩
  clear hA0 hval0
  refine (walk a0 len0 cap0 z0 W wz0).mono fun e W' ⟨he, bel⟩ => ?_
  subst he
  exact ⟨_, rfl, _, _, _, [], _, [], hW', trodAll_mk1 (shut_bool Try.underlying4 _), (trodAll_cons_mk (Below.trod laidOut (by kernel_rfl) (of_decide_eq_true (by kernel_rfl)) k0 bel lt0) trodAll_mk0), rfl, bel.frame _, fun h => by cases h⟩
theorem over : Rows.fnValidTreeRow.holds Try.pinned (OpenSpec.ofChange Rows.fnValidTreeSpec) :=
  OpenClaim.holds_of_wide 5 Try.f5 rfl rfl rfl rfl rfl rfl rfl ⟨rfl, rfl, rfl, rfl, rfl⟩ rfl rfl rfl rfl rfl (by kernel_rfl) Try.func5 (by kernel_rfl)
    (of_decide_eq_true (by kernel_rfl)) (by unfold Func.isWrapper; first | (rw [if_pos (by decide +kernel)]; kernel_rfl) | (rw [if_neg (by decide +kernel)]; exact ⟨rfl, rfl⟩))
    (fun os started H enc _ => lifted os started H enc)
theorem proved : Rows.FnValidTreeSaid := over
end Go.Proofs.Ytgdkionmeacalab.lValidTree
