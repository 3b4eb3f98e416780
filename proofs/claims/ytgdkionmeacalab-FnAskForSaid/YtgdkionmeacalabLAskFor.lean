/- FnAskFor: for every code the law returns true. No condition. -/
import Derived.Test.YtgdkionmeacalabQ23
namespace Go.Proofs.Ytgdkionmeacalab.lAskFor
open Go.ChangeShapes Go.WideShapes Go.ChangeAt Go.RowKit Go.Joins
set_option linter.unusedVariables false
set_option maxHeartbeats 8000000
attribute [local go_sem] growUpon_value growUpon_skip growUpon_enter
set_option linter.unusedSimpArgs false
attribute [local go_sem] givesUpon_value givesUpon_skip givesUpon_enter
theorem nil_rdr (w : World) : RdR w [] := fun p hp => by cases hp
theorem nil_mx : ∀ p ∈ ([] : List Nr), p.n.cs.length ≤ 1048576 ∧ p.n.rs.length ≤ 1048576 := fun p hp => by cases hp
set_option maxRecDepth 100000 in
theorem walk (A : Option Addr) (n c : Nat) (z : List Int) (w : World) (wz : IsRow .u8 w A n c z) : Calls Try.prog 3 #[.slice A n c] w fun e w' => e = .returned (.bool true) ∧ Below w.heap.size w w' := by
  obtain ⟨hb, hn, hc⟩ := wz.bts
  clear wz
  by_cases hlen : n ≤ 1048576
  · have hl1 : ¬ (1048576 : Int) < n := by omega
    go_enter Try.func3, Try.ntmps3
    go_wp2_with fail
    with_reducible refine (DrawAskFor_any A n c _ hb hn hc).mono ?_
    rintro e w1 ⟨⟨g, c0, R, q, u, v, rfl, htk, hcap, r1, r2⟩, hB⟩
    obtain ⟨k, hk⟩ : ∃ k, R.length = k := ⟨_, rfl⟩
    rw [hk] at hcap r1 r2
    rw [hk]
    have hbb : Below w1.heap.size w1 (w1.alloc (.cells #[.slice (some ⟨g, 0, none⟩) k c0] 25)) := balloc (Below.refl _ _)
    have HX := Lib.hid (newS w1 (.cells #[.slice (some ⟨g, 0, none⟩) k c0] 25))
    have HK := Lib.hid (htk.keep hbb)
    have HB := Lib.hid (balloc (o := (.cells #[.slice (some ⟨g, 0, none⟩) k c0] 25)) hB)
    have HKL := Lib.hid hk
    clear hB hb hn hc htk hbb hk hl1 hlen
    cases hbt : askB (R.map Nr.n) k q u v
    · have HT := Lib.hid hbt
      clear hbt
      have x0 := cellS HX.out 0
      go_wp2_with fail
      with_reducible refine (AskFor_no _ c0 k R q u v _ HKL.out.symm HK.out.nrv HK.out.rdr (by have := HKL.out; omega) HK.out.mx HT.out).mono ?_
      rintro e w2 ⟨rfl, hb⟩
      clear x0
      replace HX := Lib.hid ((hb.block _ (Array.getElem?_eq_some_iff.1 HX.out).1).trans HX.out)
      replace HK := Lib.hid (HK.out.keep hb)
      replace HB := Lib.hid (bkeep2 HB.out hb)
      clear hb
      have hb : Below w2.heap.size w2 (w2.alloc (.cells #[.slice none 0 0] 25)) := balloc (Below.refl _ _)
      have HO := Lib.hid (newS w2 (.cells #[.slice none 0 0] 25))
      replace HX := Lib.hid ((hb.block _ (Array.getElem?_eq_some_iff.1 HX.out).1).trans HX.out)
      replace HK := Lib.hid (HK.out.keep hb)
      replace HB := Lib.hid (bkeep2 HB.out hb)
      clear hb
      have x0 := cellS HX.out 0
      go_wp2_with fail
      with_reducible refine (sAskFor_no _ c0 k R q u v _ HKL.out.symm HK.out.nrv HK.out.rdr (by have := HKL.out; omega) HK.out.mx HT.out).mono ?_
      rintro e w3 ⟨rfl, hb⟩
      clear x0
      replace HX := Lib.hid ((hb.block _ (Array.getElem?_eq_some_iff.1 HX.out).1).trans HX.out)
      replace HO := Lib.hid ((hb.block _ (Array.getElem?_eq_some_iff.1 HO.out).1).trans HO.out)
      replace HK := Lib.hid (HK.out.keep hb)
      replace HB := Lib.hid (bkeep2 HB.out hb)
      clear hb
      have hb : Below w3.heap.size w3 (w3.alloc (.cells #[.slice none 0 0] 25)) := balloc (Below.refl _ _)
      have HS := Lib.hid (newS w3 (.cells #[.slice none 0 0] 25))
      replace HX := Lib.hid ((hb.block _ (Array.getElem?_eq_some_iff.1 HX.out).1).trans HX.out)
      replace HO := Lib.hid ((hb.block _ (Array.getElem?_eq_some_iff.1 HO.out).1).trans HO.out)
      replace HK := Lib.hid (HK.out.keep hb)
      replace HB := Lib.hid (bkeep2 HB.out hb)
      clear hb
      have o0 := cellS HO.out 0
      have s0 := cellS HS.out 0
      go_wp2_with fail
      with_reducible refine (equalTree_same none none 0 0 [] [] _ 0 rfl rfl (NrV.nil _ _) (NrV.nil _ _) (nil_rdr _) (nil_rdr _) (by simp) nil_mx).mono ?_
      rintro e w4 ⟨rfl, hb⟩
      clear o0 s0
      replace HX := Lib.hid ((hb.block _ (Array.getElem?_eq_some_iff.1 HX.out).1).trans HX.out)
      replace HO := Lib.hid ((hb.block _ (Array.getElem?_eq_some_iff.1 HO.out).1).trans HO.out)
      replace HS := Lib.hid ((hb.block _ (Array.getElem?_eq_some_iff.1 HS.out).1).trans HS.out)
      replace HK := Lib.hid (HK.out.keep hb)
      replace HB := Lib.hid (bkeep2 HB.out hb)
      clear hb
      have o0 := cellS HO.out 0
      have s0 := cellS HS.out 0
      go_wp2_with fail
      with_reducible refine (equalTree_same none none 0 0 [] [] _ 0 rfl rfl (NrV.nil _ _) (NrV.nil _ _) (nil_rdr _) (nil_rdr _) (by simp) nil_mx).mono ?_
      rintro e w5 ⟨rfl, hb⟩
      clear o0 s0
      replace HB := Lib.hid (bkeep2 HB.out hb)
      clear hb
      go_wp2
      go_ret
      exact ⟨rfl, HB.out⟩
    · obtain ⟨ht, ⟨h0, h1⟩, hu, hv⟩ := askB_ifA.1 hbt
      obtain ⟨j, rfl⟩ := Int.eq_ofNat_of_zero_le h0
      have hjk : j < k := by omega
      have hjl : j < R.length := by have := HKL.out; omega
      have hji : (j : Int) < (k : Int) := by omega
      have hget : R[j]? = some R[j] := List.getElem?_eq_getElem hjl
      generalize R[j] = p at *
      have hmg : (R.map Nr.n)[j]? = some p.n := by rw [List.getElem?_map, hget]; rfl
      have HT := Lib.hid ht
      have HBT := Lib.hid hbt
      have HG := Lib.hid hget
      have HJL := Lib.hid hjl
      have HW := Lib.hid (show (rng u 0 30 && rng v 0 30) = true by rw [Bool.and_eq_true, rng_iff, rng_iff]; exact ⟨hu, hv⟩)
      have HW2 := Lib.hid (tree_rngA ht hmg)
      have hml := askM_len (R.map Nr.n) j u v
      rw [List.length_map, HKL.out] at hml
      have hmt := askM_treeA (j := j) ht hu hv
      have hmx := askM_mxA (j := j) (u := u) (v := v) (mx_upA HK.out.mx)
      have hmj := (askM_getA (u := u) (v := v) hmg j).trans (if_pos rfl)
      have hmm := askM_backA (u := u) (v := v) hmg
      obtain ⟨M, hM⟩ : ∃ M, askM (R.map Nr.n) j u v = M := ⟨_, rfl⟩
      rw [hM] at hml hmt hmx hmj hmm
      have HM := Lib.hid hM
      have HML := Lib.hid hml
      have HMT := Lib.hid hmt
      have HMX := Lib.hid hmx
      have HMJ := Lib.hid hmj
      have HMM := Lib.hid hmm
      clear hbt ht h0 h1 hu hv hget hmg hml hmt hmx hmj hmm hM hjl
      have x0 := cellS HX.out 0
      go_wp2_with fail
      with_reducible refine (AskFor_yes _ c0 k R j u v _ HKL.out.symm HK.out.nrv HK.out.rdr (by have := HKL.out; omega) HK.out.mx HT.out HJL.out HW.out).mono ?_
      rintro e w2 ⟨⟨x, rfl, hx⟩, hb⟩
      rw [HM.out] at hx
      obtain ⟨A1, c1, S1, rfl, v1, d1, e1, l1⟩ := hx.open2 HML.out
      clear x0 hx
      replace HX := Lib.hid ((hb.block _ (Array.getElem?_eq_some_iff.1 HX.out).1).trans HX.out)
      replace HK := Lib.hid (HK.out.keep hb)
      replace HB := Lib.hid (bkeep2 HB.out hb)
      clear hb
      have hb : Below w2.heap.size w2 (w2.alloc (.cells #[.slice A1 k c1] 25)) := balloc (Below.refl _ _)
      have HO := Lib.hid (newS w2 (.cells #[.slice A1 k c1] 25))
      have HV1 := Lib.hid (v1.keep hb)
      have HD1 := Lib.hid (d1.keep hb)
      have HE1 := Lib.hid e1
      have HL1 := Lib.hid l1
      have HB1 := Lib.hid (mx_mapA (by rw [e1]; exact HMX.out))
      replace HX := Lib.hid ((hb.block _ (Array.getElem?_eq_some_iff.1 HX.out).1).trans HX.out)
      replace HK := Lib.hid (HK.out.keep hb)
      replace HB := Lib.hid (bkeep2 HB.out hb)
      clear hb
      clear v1 d1 e1 l1
      have x0 := cellS HX.out 0
      go_wp2_with fail
      with_reducible refine (sAskFor_yes _ c0 k R j u v _ HKL.out.symm HK.out.nrv HK.out.rdr (by have := HKL.out; omega) HK.out.mx HJL.out HBT.out).mono ?_
      rintro e w3 ⟨⟨x, rfl, hx⟩, hb⟩
      rw [HM.out] at hx
      obtain ⟨A2, c2, S2, rfl, v1, d1, e1, l1⟩ := hx.open2 HML.out
      clear x0 hx
      replace HX := Lib.hid ((hb.block _ (Array.getElem?_eq_some_iff.1 HX.out).1).trans HX.out)
      replace HO := Lib.hid ((hb.block _ (Array.getElem?_eq_some_iff.1 HO.out).1).trans HO.out)
      replace HK := Lib.hid (HK.out.keep hb)
      replace HV1 := Lib.hid (HV1.out.keep hb)
      replace HD1 := Lib.hid (HD1.out.keep hb)
      replace HB := Lib.hid (bkeep2 HB.out hb)
      clear hb
      have hb : Below w3.heap.size w3 (w3.alloc (.cells #[.slice A2 k c2] 25)) := balloc (Below.refl _ _)
      have HS := Lib.hid (newS w3 (.cells #[.slice A2 k c2] 25))
      have HV2 := Lib.hid (v1.keep hb)
      have HD2 := Lib.hid (d1.keep hb)
      have HE2 := Lib.hid e1
      replace HX := Lib.hid ((hb.block _ (Array.getElem?_eq_some_iff.1 HX.out).1).trans HX.out)
      replace HO := Lib.hid ((hb.block _ (Array.getElem?_eq_some_iff.1 HO.out).1).trans HO.out)
      replace HK := Lib.hid (HK.out.keep hb)
      replace HV1 := Lib.hid (HV1.out.keep hb)
      replace HD1 := Lib.hid (HD1.out.keep hb)
      replace HB := Lib.hid (bkeep2 HB.out hb)
      clear hb
      clear v1 d1 e1 l1
      have o0 := cellS HO.out 0
      have s0 := cellS HS.out 0
      go_wp2_with fail
      with_reducible refine (equalTree_same A1 A2 c1 c2 S1 S2 _ k HL1.out.symm (by rw [HE2.out, HE1.out]) HV1.out HV2.out HD1.out HD2.out (by have := HL1.out; omega) HB1.out).mono ?_
      rintro e w4 ⟨rfl, hb⟩
      clear o0 s0
      replace HX := Lib.hid ((hb.block _ (Array.getElem?_eq_some_iff.1 HX.out).1).trans HX.out)
      replace HO := Lib.hid ((hb.block _ (Array.getElem?_eq_some_iff.1 HO.out).1).trans HO.out)
      replace HK := Lib.hid (HK.out.keep hb)
      replace HV1 := Lib.hid (HV1.out.keep hb)
      replace HD1 := Lib.hid (HD1.out.keep hb)
      replace HB := Lib.hid (bkeep2 HB.out hb)
      clear hb
      clear HS HV2 HD2 HE2
      go_upto_region 8 with (fail)
      refine wp_region_rgt (fun kk => ((fun v _ => v = .agg #[.slice A1 k c1]) :: (fun v _ => v = .int .i64 (j : Int)) :: (fun v _ => v = .pointer (some ⟨w1.heap.size, 0, none⟩)) :: (fun v _ => v = .slice (some ⟨g, 0, none⟩) k c0) :: (fun v _ => v = .int .i64 (j : Int)) :: (fun v _ => v = .pointer (some ⟨g, j * 34, none⟩)) :: (fun v _ => v = .pointer (some ⟨g, j * 34 + 1, none⟩)) :: (fun v _ => v = .int .i64 p.n.ww) :: (fun v _ => v = .pointer (some ⟨w1.heap.size, 0, none⟩)) :: (fun v _ => v = .slice (some ⟨g, 0, none⟩) k c0) :: (fun v _ => v = .int .i64 (j : Int)) :: (fun v _ => v = .pointer (some ⟨g, j * 34, none⟩)) :: (fun v _ => v = .pointer (some ⟨g, j * 34 + 2, none⟩)) :: (fun v _ => v = .int .i64 p.n.hh) :: (fun v W => ∃ x, v = .tuple #[x, .bool true] ∧ TrR w4.heap.size W x (R.map Nr.n)) :: (fun v W => ∃ x, v = .tuple #[x, .bool true] ∧ TrR w4.heap.size W x (R.map Nr.n)) :: (fun v W => TrR w4.heap.size W v (R.map Nr.n)) :: (fun v _ => v = .bool true) :: (fun v W => ∃ b, v = .pointer (some ⟨b, 0, none⟩) ∧ w4.heap.size ≤ b ∧ ∃ u, W.heap[b]? = some (.cells #[u] 25 (0, 0))) :: (fun _ _ => True) :: (fun v _ => v = .bool true) :: []).getD kk (fun _ _ => True)) (RSb w4.heap.size (R.map Nr.n)) (fun _ _ => True) (by kernel_rfl) (by kernel_rfl) (fun a => RSb.refl a) (fun _ _ _ h k => h.trans k) ?hTs trivial 19 18 11 _ (fun v W => ∃ b, v = .pointer (some ⟨b, 0, none⟩) ∧ NB w4.heap.size (R.map Nr.n) b W) rfl rfl rfl (by kernel_rfl) (by kernel_rfl) (fun _ _ => trivial) (fun v a b ⟨x, e, h⟩ hc => ⟨x, e, hc.nn _ h⟩) ?hopN ?hops ?hfin
      case hops =>
        refine ⟨opOK_ds [(7, none)] (by kernel_rfl) rfl ?_, ?_⟩
        · intro mm act w' hm' hR hI h1
          have hk : ∀ v, act.eval (.const v) = v := fun _ => rfl
          have hf : ∀ f, act.eval (.func f) = .func (.func f) #[] #[] := fun _ => rfl
          generalize act.eval = ρ at *
          replace h1 : ρ (.tmp 7) = .pointer (some ⟨w2.heap.size, 0, none⟩) := h1
          refine gx_genT (fun K hK => ?_)
          have hB4 : Below w4.heap.size w4 w' := (Below.refl _ _).drew.trans hR.bel
          have d0 := cellS ((hB4.block _ (ltS HO.out)).trans HO.out) 0
          go_simp
          exact hK _ _ ⟨rfl, RSb.refl _, trivial⟩
        refine ⟨opOK_ds [(4, none)] (by kernel_rfl) rfl ?_, ?_⟩
        · intro mm act w' hm' hR hI h1
          have hk : ∀ v, act.eval (.const v) = v := fun _ => rfl
          have hf : ∀ f, act.eval (.func f) = .func (.func f) #[] #[] := fun _ => rfl
          generalize act.eval = ρ at *
          replace h1 : ρ (.tmp 4) = .int .i64 (j : Int) := h1
          refine gx_genT (fun K hK => ?_)
          go_simp
          exact hK _ _ ⟨rfl, RSb.refl _, trivial⟩
        refine ⟨opOK_ds [(3, none)] (by kernel_rfl) rfl ?_, ?_⟩
        · intro mm act w' hm' hR hI h1
          have hk : ∀ v, act.eval (.const v) = v := fun _ => rfl
          have hf : ∀ f, act.eval (.func f) = .func (.func f) #[] #[] := fun _ => rfl
          generalize act.eval = ρ at *
          replace h1 : ρ (.tmp 3) = .pointer (some ⟨w1.heap.size, 0, none⟩) := h1
          refine gx_genT (fun K hK => ?_)
          go_simp
          exact hK _ _ ⟨rfl, RSb.refl _, trivial⟩
        refine ⟨opOK_ds [(65, some 2)] (by kernel_rfl) rfl ?_, ?_⟩
        · intro mm act w' hm' hR hI h1
          have hk : ∀ v, act.eval (.const v) = v := fun _ => rfl
          have hf : ∀ f, act.eval (.func f) = .func (.func f) #[] #[] := fun _ => rfl
          generalize act.eval = ρ at *
          replace h1 : ρ (.tmp 65) = .pointer (some ⟨w1.heap.size, 0, none⟩) := h1
          refine gx_genT (fun K hK => ?_)
          have hB4 : Below w4.heap.size w4 w' := (Below.refl _ _).drew.trans hR.bel
          have d0 := cellS ((hB4.block _ (ltS HX.out)).trans HX.out) 0
          go_simp
          exact hK _ _ ⟨rfl, RSb.refl _, trivial⟩
        refine ⟨opOK_ds [(4, none)] (by kernel_rfl) rfl ?_, ?_⟩
        · intro mm act w' hm' hR hI h1
          have hk : ∀ v, act.eval (.const v) = v := fun _ => rfl
          have hf : ∀ f, act.eval (.func f) = .func (.func f) #[] #[] := fun _ => rfl
          generalize act.eval = ρ at *
          replace h1 : ρ (.tmp 4) = .int .i64 (j : Int) := h1
          refine gx_genT (fun K hK => ?_)
          go_simp
          exact hK _ _ ⟨rfl, RSb.refl _, trivial⟩
        refine ⟨opOK_ds [(66, some 3), (67, some 4)] (by kernel_rfl) rfl ?_, ?_⟩
        · intro mm act w' hm' hR hI h1 h2
          have hk : ∀ v, act.eval (.const v) = v := fun _ => rfl
          have hf : ∀ f, act.eval (.func f) = .func (.func f) #[] #[] := fun _ => rfl
          generalize act.eval = ρ at *
          replace h1 : ρ (.tmp 66) = .slice (some ⟨g, 0, none⟩) k c0 := h1
          replace h2 : ρ (.tmp 67) = .int .i64 (j : Int) := h2
          refine gx_genT (fun K hK => ?_)
          go_simp
          exact hK _ _ ⟨rfl, RSb.refl _, trivial⟩
        refine ⟨opOK_ds [(68, some 5)] (by kernel_rfl) rfl ?_, ?_⟩
        · intro mm act w' hm' hR hI h1
          have hk : ∀ v, act.eval (.const v) = v := fun _ => rfl
          have hf : ∀ f, act.eval (.func f) = .func (.func f) #[] #[] := fun _ => rfl
          generalize act.eval = ρ at *
          replace h1 : ρ (.tmp 68) = .pointer (some ⟨g, j * 34, none⟩) := h1
          refine gx_genT (fun K hK => ?_)
          go_simp
          exact hK _ _ ⟨rfl, RSb.refl _, trivial⟩
        refine ⟨opOK_ds [(69, some 6)] (by kernel_rfl) rfl ?_, ?_⟩
        · intro mm act w' hm' hR hI h1
          have hk : ∀ v, act.eval (.const v) = v := fun _ => rfl
          have hf : ∀ f, act.eval (.func f) = .func (.func f) #[] #[] := fun _ => rfl
          generalize act.eval = ρ at *
          replace h1 : ρ (.tmp 69) = .pointer (some ⟨g, j * 34 + 1, none⟩) := h1
          refine gx_genT (fun K hK => ?_)
          have hB4 : Below w4.heap.size w4 w' := (Below.refl _ _).drew.trans hR.bel
          have d0 := (HK.out.keep hB4).cellAt HG.out 1 _ rfl
          go_simp
          exact hK _ _ ⟨rfl, RSb.refl _, trivial⟩
        refine ⟨opOK_ds [(3, none)] (by kernel_rfl) rfl ?_, ?_⟩
        · intro mm act w' hm' hR hI h1
          have hk : ∀ v, act.eval (.const v) = v := fun _ => rfl
          have hf : ∀ f, act.eval (.func f) = .func (.func f) #[] #[] := fun _ => rfl
          generalize act.eval = ρ at *
          replace h1 : ρ (.tmp 3) = .pointer (some ⟨w1.heap.size, 0, none⟩) := h1
          refine gx_genT (fun K hK => ?_)
          go_simp
          exact hK _ _ ⟨rfl, RSb.refl _, trivial⟩
        refine ⟨opOK_ds [(71, some 8)] (by kernel_rfl) rfl ?_, ?_⟩
        · intro mm act w' hm' hR hI h1
          have hk : ∀ v, act.eval (.const v) = v := fun _ => rfl
          have hf : ∀ f, act.eval (.func f) = .func (.func f) #[] #[] := fun _ => rfl
          generalize act.eval = ρ at *
          replace h1 : ρ (.tmp 71) = .pointer (some ⟨w1.heap.size, 0, none⟩) := h1
          refine gx_genT (fun K hK => ?_)
          have hB4 : Below w4.heap.size w4 w' := (Below.refl _ _).drew.trans hR.bel
          have d0 := cellS ((hB4.block _ (ltS HX.out)).trans HX.out) 0
          go_simp
          exact hK _ _ ⟨rfl, RSb.refl _, trivial⟩
        refine ⟨opOK_ds [(4, none)] (by kernel_rfl) rfl ?_, ?_⟩
        · intro mm act w' hm' hR hI h1
          have hk : ∀ v, act.eval (.const v) = v := fun _ => rfl
          have hf : ∀ f, act.eval (.func f) = .func (.func f) #[] #[] := fun _ => rfl
          generalize act.eval = ρ at *
          replace h1 : ρ (.tmp 4) = .int .i64 (j : Int) := h1
          refine gx_genT (fun K hK => ?_)
          go_simp
          exact hK _ _ ⟨rfl, RSb.refl _, trivial⟩
        refine ⟨opOK_ds [(72, some 9), (73, some 10)] (by kernel_rfl) rfl ?_, ?_⟩
        · intro mm act w' hm' hR hI h1 h2
          have hk : ∀ v, act.eval (.const v) = v := fun _ => rfl
          have hf : ∀ f, act.eval (.func f) = .func (.func f) #[] #[] := fun _ => rfl
          generalize act.eval = ρ at *
          replace h1 : ρ (.tmp 72) = .slice (some ⟨g, 0, none⟩) k c0 := h1
          replace h2 : ρ (.tmp 73) = .int .i64 (j : Int) := h2
          refine gx_genT (fun K hK => ?_)
          go_simp
          exact hK _ _ ⟨rfl, RSb.refl _, trivial⟩
        refine ⟨opOK_ds [(74, some 11)] (by kernel_rfl) rfl ?_, ?_⟩
        · intro mm act w' hm' hR hI h1
          have hk : ∀ v, act.eval (.const v) = v := fun _ => rfl
          have hf : ∀ f, act.eval (.func f) = .func (.func f) #[] #[] := fun _ => rfl
          generalize act.eval = ρ at *
          replace h1 : ρ (.tmp 74) = .pointer (some ⟨g, j * 34, none⟩) := h1
          refine gx_genT (fun K hK => ?_)
          go_simp
          exact hK _ _ ⟨rfl, RSb.refl _, trivial⟩
        refine ⟨opOK_ds [(75, some 12)] (by kernel_rfl) rfl ?_, ?_⟩
        · intro mm act w' hm' hR hI h1
          have hk : ∀ v, act.eval (.const v) = v := fun _ => rfl
          have hf : ∀ f, act.eval (.func f) = .func (.func f) #[] #[] := fun _ => rfl
          generalize act.eval = ρ at *
          replace h1 : ρ (.tmp 75) = .pointer (some ⟨g, j * 34 + 2, none⟩) := h1
          refine gx_genT (fun K hK => ?_)
          have hB4 : Below w4.heap.size w4 w' := (Below.refl _ _).drew.trans hR.bel
          have d0 := (HK.out.keep hB4).cellAt HG.out 2 _ rfl
          go_simp
          exact hK _ _ ⟨rfl, RSb.refl _, trivial⟩
        refine ⟨opOK_ds [(63, some 0), (64, some 1), (70, some 7), (76, some 13)] (by kernel_rfl) rfl ?_, ?_⟩
        · intro mm act w' hm' hR hI h1 h2 h3 h4
          have hk : ∀ v, act.eval (.const v) = v := fun _ => rfl
          have hf : ∀ f, act.eval (.func f) = .func (.func f) #[] #[] := fun _ => rfl
          generalize act.eval = ρ at *
          replace h1 : ρ (.tmp 63) = .agg #[.slice A1 k c1] := h1
          replace h2 : ρ (.tmp 64) = .int .i64 (j : Int) := h2
          replace h3 : ρ (.tmp 70) = .int .i64 p.n.ww := h3
          replace h4 : ρ (.tmp 76) = .int .i64 p.n.hh := h4
          refine gx_genT (fun K hK => ?_)
          have hB4 : Below w4.heap.size w4 w' := (Below.refl _ _).drew.trans hR.bel
          go_simp
          with_reducible refine (AskFor_yes A1 c1 k S1 j p.n.ww p.n.hh _ HL1.out.symm (HV1.out.keep hB4) (HD1.out.keep hB4) (by have := HL1.out; omega) HB1.out (by rw [HE1.out]; exact HMT.out) (by rw [HL1.out]; exact hjk) HW2.out).mono ?_
          rintro e w5 ⟨⟨x, rfl, hx⟩, hb⟩
          rw [HE1.out, HMM.out] at hx
          exact ⟨_, rfl, hK _ _ ⟨⟨x, rfl, hx.mono hB4.size⟩, RSb.of hB4.size hb, trivial⟩⟩
        refine ⟨opOK_ds [(77, some 14)] (by kernel_rfl) rfl ?_, ?_⟩
        · intro mm act w' hm' hR hI h1
          have hk : ∀ v, act.eval (.const v) = v := fun _ => rfl
          have hf : ∀ f, act.eval (.func f) = .func (.func f) #[] #[] := fun _ => rfl
          generalize act.eval = ρ at *
          replace h1 : (fun v W => ∃ x, v = .tuple #[x, .bool true] ∧ TrR w4.heap.size W x (R.map Nr.n)) (ρ (.tmp 77)) w' := h1
          refine gx_genT (fun K hK => ?_)
          obtain ⟨x, h1, hx⟩ := h1
          go_simp
          exact hK _ _ ⟨⟨x, rfl, hx⟩, RSb.refl _, trivial⟩
        refine ⟨opOK_ds [(62, some 15)] (by kernel_rfl) rfl ?_, ?_⟩
        · intro mm act w' hm' hR hI h1
          have hk : ∀ v, act.eval (.const v) = v := fun _ => rfl
          have hf : ∀ f, act.eval (.func f) = .func (.func f) #[] #[] := fun _ => rfl
          generalize act.eval = ρ at *
          replace h1 : (fun v W => ∃ x, v = .tuple #[x, .bool true] ∧ TrR w4.heap.size W x (R.map Nr.n)) (ρ (.tmp 62)) w' := h1
          refine gx_genT (fun K hK => ?_)
          obtain ⟨x, h1, hx⟩ := h1
          go_simp
          exact hK _ _ ⟨hx, RSb.refl _, trivial⟩
        refine ⟨opOK_ds [(62, some 15)] (by kernel_rfl) rfl ?_, ?_⟩
        · intro mm act w' hm' hR hI h1
          have hk : ∀ v, act.eval (.const v) = v := fun _ => rfl
          have hf : ∀ f, act.eval (.func f) = .func (.func f) #[] #[] := fun _ => rfl
          generalize act.eval = ρ at *
          replace h1 : (fun v W => ∃ x, v = .tuple #[x, .bool true] ∧ TrR w4.heap.size W x (R.map Nr.n)) (ρ (.tmp 62)) w' := h1
          refine gx_genT (fun K hK => ?_)
          obtain ⟨x, h1, hx⟩ := h1
          go_simp
          exact hK _ _ ⟨rfl, RSb.refl _, trivial⟩
        refine ⟨opOK_ds [] (by kernel_rfl) rfl ?_, ?_⟩
        · intro mm act w' hm' hR hI 
          have hk : ∀ v, act.eval (.const v) = v := fun _ => rfl
          have hf : ∀ f, act.eval (.func f) = .func (.func f) #[] #[] := fun _ => rfl
          generalize act.eval = ρ at *
          refine gx_genT (fun K hK => ?_)
          have hB4 : Below w4.heap.size w4 w' := (Below.refl _ _).drew.trans hR.bel
          go_simp
          exact hK _ _ ⟨⟨w'.heap.size, rfl, hB4.size, ⟨_, newS _ _⟩⟩, RSb.of hB4.size (balloc (Below.refl _ _)), trivial⟩
        refine ⟨opOK_ds [(11, some 18), (78, some 16)] (by kernel_rfl) rfl ?_, ?_⟩
        · intro mm act w' hm' hR hI h1 h2
          have hk : ∀ v, act.eval (.const v) = v := fun _ => rfl
          have hf : ∀ f, act.eval (.func f) = .func (.func f) #[] #[] := fun _ => rfl
          generalize act.eval = ρ at *
          replace h1 : (fun v W => ∃ b, v = .pointer (some ⟨b, 0, none⟩) ∧ w4.heap.size ≤ b ∧ ∃ u, W.heap[b]? = some (.cells #[u] 25 (0, 0))) (ρ (.tmp 11)) w' := h1
          replace h2 : (fun v W => TrR w4.heap.size W v (R.map Nr.n)) (ρ (.tmp 78)) w' := h2
          refine gx_genT (fun K hK => ?_)
          obtain ⟨b, h1, hlb, u0, hq⟩ := h1
          obtain ⟨A9, c9, S9, e9, hr9⟩ := h2
          have ht9 : TrR w4.heap.size w' (.agg #[.slice A9 S9.length c9]) (R.map Nr.n) := ⟨A9, c9, S9, rfl, hr9⟩
          have c0' := cellS hq 0
          have f0' := frozenS hq 0
          clear hr9
          go_simp
          exact hK _ _ ⟨trivial, (RSb.store hlb hq ht9).1, trivial⟩
        refine ⟨opOK_ds [(79, some 17)] (by kernel_rfl) rfl ?_, ?_⟩
        · intro mm act w' hm' hR hI h1
          have hk : ∀ v, act.eval (.const v) = v := fun _ => rfl
          have hf : ∀ f, act.eval (.func f) = .func (.func f) #[] #[] := fun _ => rfl
          generalize act.eval = ρ at *
          replace h1 : ρ (.tmp 79) = .bool true := h1
          refine gx_genT (fun K hK => ?_)
          go_simp
          exact hK _ _ ⟨rfl, RSb.refl _, trivial⟩
        exact trivial
      case hopN =>
        refine fun mm act w' hm' hR hI => look_at [(11, some 18), (78, some 16)] (by kernel_rfl) ?_
        intro h1 h2
        show givesUpon _ (fun v w'' => (fun v W => ∃ b, v = .pointer (some ⟨b, 0, none⟩) ∧ NB w4.heap.size (R.map Nr.n) b W) (act.eval (.tmp 11)) w'' ∧ RSb w4.heap.size (R.map Nr.n) w' w'' ∧ True) _
        have hk : ∀ v, act.eval (.const v) = v := fun _ => rfl
        have hf : ∀ f, act.eval (.func f) = .func (.func f) #[] #[] := fun _ => rfl
        generalize act.eval = ρ at *
        replace h1 : (fun v W => ∃ b, v = .pointer (some ⟨b, 0, none⟩) ∧ w4.heap.size ≤ b ∧ ∃ u, W.heap[b]? = some (.cells #[u] 25 (0, 0))) (ρ (.tmp 11)) w' := h1
        replace h2 : (fun v W => TrR w4.heap.size W v (R.map Nr.n)) (ρ (.tmp 78)) w' := h2
        refine gx_genT (fun K hK => ?_)
        obtain ⟨b, h1, hlb, u0, hq⟩ := h1
        obtain ⟨A9, c9, S9, e9, hr9⟩ := h2
        have ht9 : TrR w4.heap.size w' (.agg #[.slice A9 S9.length c9]) (R.map Nr.n) := ⟨A9, c9, S9, rfl, hr9⟩
        have c0' := cellS hq 0
        have f0' := frozenS hq 0
        clear hr9
        go_simp
        exact hK _ _ ⟨⟨b, h1, (RSb.store hlb hq ht9).2⟩, (RSb.store hlb hq ht9).1, trivial⟩
      case hTs =>
        intro k v x y hv hc
        exact stab_listX (by
          intro T hT
          simp only [List.mem_cons, List.not_mem_nil, or_false] at hT
          rcases hT with rfl | rfl | rfl | rfl | rfl | rfl | rfl | rfl | rfl | rfl | rfl | rfl | rfl | rfl | rfl | rfl | rfl | rfl | rfl | rfl | rfl <;> first | exact fun v a b h _ => h | exact fun v a b h hc => h.kt hc.kt | exact fun v a b ⟨x, e, h⟩ hc => ⟨x, e, h.kt hc.kt⟩ | exact fun v a b ⟨x, e, l, u, hu⟩ hc => ⟨x, e, l, hc.box _ u hu⟩)
          k v x y hv hc
      case hfin =>
        intro w5 hR5 _
        intro v63 t63 v64 t64 v65 t65 v66 t66 v67 t67 v68 t68 v69 t69 v70 t70 v71 t71 v72 t72 v73 t73 v74 t74 v75 t75 v76 t76 v77 t77 v62 t62 v78 t78 v79 t79 v11 t11 v12 t12
        obtain rfl : v12 = .bool true := t12.1
        obtain ⟨b, rfl, y, hy, hty⟩ := t11.2 rfl
        clear t63 t64 t65 t66 t67 t68 t69 t70 t71 t72 t73 t74 t75 t76 t77 t62 t78 t79 t11
        simp only [finP, Act.put, List.setIfInBounds_toArray, List.set_cons_succ, List.set_cons_zero]
        obtain ⟨Ab, cb, Sb, ey, vb, db, eb, lb⟩ := hty.open2 (k := k) (by rw [List.length_map]; exact HKL.out)
        obtain rfl : y = .slice Ab k cb := by simpa using ey
        have hb : Below w4.heap.size w4 w5 := (Below.refl _ _).drew.trans hR5.bel
        replace HX := Lib.hid ((hb.block _ (Array.getElem?_eq_some_iff.1 HX.out).1).trans HX.out)
        replace HO := Lib.hid ((hb.block _ (Array.getElem?_eq_some_iff.1 HO.out).1).trans HO.out)
        replace HK := Lib.hid (HK.out.keep hb)
        replace HV1 := Lib.hid (HV1.out.keep hb)
        replace HD1 := Lib.hid (HD1.out.keep hb)
        replace HB := Lib.hid (bkeep2 HB.out hb)
        clear hb
        have HY := Lib.hid hy
        have HVb := Lib.hid vb
        have HDb := Lib.hid db
        have HEb := Lib.hid eb
        have HLb := Lib.hid lb
        have HBb := Lib.hid (mx_mapA (by rw [eb]; exact mx_upA HK.out.mx))
        clear hR5 hty ey vb db eb lb hy
        obtain ⟨s1, hs1⟩ : ∃ s1, (szM M j).1 = s1 := ⟨_, rfl⟩
        obtain ⟨s2, hs2⟩ : ∃ s2, (szM M j).2 = s2 := ⟨_, rfl⟩
        have HRQ := Lib.hid (RequestOf_yes A1 c1 k S1 j)
        rw [HE1.out, hs1, hs2] at HRQ
        have HS1 := Lib.hid hs1
        have HS2 := Lib.hid hs2
        clear hs1 hs2
        have o0 := cellS HO.out 0
        go_wp2_with fail
        with_reducible refine (HRQ.out _ HL1.out.symm HV1.out HD1.out (by have := HL1.out; omega) HB1.out HMT.out (by rw [HL1.out]; exact hjk)).mono ?_
        rintro e w6 ⟨rfl, hb⟩
        clear o0 HRQ
        replace HX := Lib.hid ((hb.block _ (Array.getElem?_eq_some_iff.1 HX.out).1).trans HX.out)
        replace HO := Lib.hid ((hb.block _ (Array.getElem?_eq_some_iff.1 HO.out).1).trans HO.out)
        replace HY := Lib.hid ((hb.block _ (Array.getElem?_eq_some_iff.1 HY.out).1).trans HY.out)
        replace HK := Lib.hid (HK.out.keep hb)
        replace HV1 := Lib.hid (HV1.out.keep hb)
        replace HD1 := Lib.hid (HD1.out.keep hb)
        replace HVb := Lib.hid (HVb.out.keep hb)
        replace HDb := Lib.hid (HDb.out.keep hb)
        replace HB := Lib.hid (bkeep2 HB.out hb)
        clear hb
        have x0 := cellS HX.out 0
        have y0 := cellS HY.out 0
        go_wp2_with fail
        with_reducible refine (equalTree_same Ab _ cb c0 Sb R _ k HLb.out.symm HEb.out.symm HVb.out HK.out.nrv HDb.out HK.out.rdr (by have := HLb.out; omega) HBb.out).mono ?_
        rintro e w7 ⟨rfl, hb⟩
        clear x0 y0
        replace HX := Lib.hid ((hb.block _ (Array.getElem?_eq_some_iff.1 HX.out).1).trans HX.out)
        replace HO := Lib.hid ((hb.block _ (Array.getElem?_eq_some_iff.1 HO.out).1).trans HO.out)
        replace HK := Lib.hid (HK.out.keep hb)
        replace HV1 := Lib.hid (HV1.out.keep hb)
        replace HD1 := Lib.hid (HD1.out.keep hb)
        replace HB := Lib.hid (bkeep2 HB.out hb)
        clear hb
        have o0 := cellS HO.out 0
        go_wp2_with fail
        with_reducible refine (ValidTree_n A1 c1 k S1 true _ HL1.out.symm HV1.out HD1.out (by have := HL1.out; omega) HB1.out (by rw [HE1.out]; exact HMT.out)).mono ?_
        rintro e w8 ⟨rfl, hb⟩
        clear o0
        replace HO := Lib.hid ((hb.block _ (Array.getElem?_eq_some_iff.1 HO.out).1).trans HO.out)
        replace HV1 := Lib.hid (HV1.out.keep hb)
        replace HB := Lib.hid (bkeep2 HB.out hb)
        clear hb
        have o0 := cellS HO.out 0
        obtain ⟨b1, off1, hA1, hb1, hp1⟩ := HV1.out.cells (by have := HL1.out; omega)
        subst hA1
        obtain ⟨p1, hp⟩ : ∃ p1, S1[j]? = some p1 := ⟨_, List.getElem?_eq_getElem (by rw [HL1.out]; exact hjk)⟩
        have hn1 : p1.n = wishD p.n u v := by
          have h1 : (S1.map Nr.n)[j]? = some p1.n := by rw [List.getElem?_map, hp]; rfl
          rw [HE1.out, HMJ.out] at h1
          exact (Option.some.inj h1).symm
        have k3 : w8.cell? ⟨b1, off1 + j * 34 + 3, none⟩ = some (.bool p.n.ke) := by
          have := hp1 j p1 hp 3 (.bool p1.n.ke) rfl
          rw [hn1] at this
          exact this
        have HSZ := Lib.hid (szM_eq (trOK_of HMT.out) HMJ.out)
        clear hp1 hn1 hp
        cases hke : p.n.ke
        · rw [hke] at k3
          clear hke
          go_wp2
          go_ret
          exact ⟨rfl, HB.out⟩
        · rw [hke] at k3
          obtain ⟨e1, e2⟩ : s1 = u ∧ s2 = v := by
            have := HSZ.out.trans (askN_own (.inl hke))
            rw [← HS1.out, ← HS2.out, this]
            exact ⟨rfl, rfl⟩
          subst e1 e2
          clear hke
          go_wp2
          go_ret
          exact ⟨rfl, HB.out⟩
  · have hl1 : (1048576 : Int) < n := by omega
    go_enter Try.func3, Try.ntmps3
    go_wp2
    go_ret
    exact ⟨rfl, Below.refl _ _⟩
set_option maxRecDepth 100000 in
theorem lifted (os : Os) (started : os.Started) (H : Type) (enc : TypeId × Value → H) :
    ReturnsInHanded {} Try.checked os 3 .any (Rows.fnAskForSpec.pre6 enc Try.prog Try.f3 Rows.fnAskForRow.domain false) (Rows.fnAskForSpec.post enc Try.prog Try.f3 false true false false) := by
  refine returnsInHanded_of_change (C := Try.checked) own started (by kernel_rfl) Try.func3
    (ChangeSpec.witness6 (enc := enc) (C := Try.checked) false ⟨#[], #[.slice none 0 0], []⟩ 8 (by kernel_rfl) (by kernel_rfl) (by kernel_rfl) (by kernel_rfl)) ?_
  intro W base args ds gs before hval0 hW hcnd _
  have hval : ∀ (j : Nat) t v, Try.f3.params[j]? = some t → args[j]? = some v → Value.okWide Try.prog W .any base t v := hval0
  have hW' := hW
  obtain ⟨p, q, hA0, hV, rfl, hfz, hnd⟩ := hW
  have hA : DataW.TrodAll enc Try.prog W 0 (fun _ => true) true Try.f3.params.toList args.toList ds p := hA0
  rw [Try.params3] at hA hval
  obtain ⟨v0, vs0, d0, ds0, p0, q0, hargs, rfl, rfl, h0, r0⟩ := trodAll_cons hA
  obtain ⟨rfl, rfl, rfl⟩ := trodAll_nil r0
  obtain rfl : args = #[v0] := by cases args; simp_all
  obtain ⟨rfl, rfl⟩ := trodVars_none hV
  have k0 := h0
  have lt0 : ∀ x ∈ p0, x.block < W.heap.size := by obtain ⟨m, hm⟩ := k0; exact DataW.trod_lt m _ _ _ hm
  obtain ⟨a0, len0, cap0, rfl⟩ := okWide_slice Try.underlying22 (hval 0 22 v0 rfl rfl)
  obtain ⟨z0, wz0⟩ : ∃ zs, IsRow .u8 W a0 len0 cap0 zs := by
    obtain ⟨fuel, hf⟩ := h0
    rcases open_ints Try.underlying22 Try.underlying5 (by kernel_rfl) hf with ⟨hcs, _⟩ | ⟨x, l, c, zs, hcs, _, hl, hm, hz, _, hcell, hwz⟩
    · simp [Value.cells] at hcs
      obtain ⟨rfl, rfl, rfl⟩ := hcs
      exact ⟨[], .inl ⟨rfl, rfl, rfl, rfl⟩⟩
    · simp [Value.cells] at hcs
      obtain ⟨rfl, rfl, rfl⟩ := hcs
      exact ⟨zs, .inr ⟨_, rfl, hl, hm, by simpa using hz, hcell, hwz⟩⟩
  clear hA0 hval0
  refine (walk a0 len0 cap0 z0 W wz0).mono fun e W' ⟨he, bel⟩ => ?_
  subst he
  exact ⟨_, rfl, _, _, _, [], _, [], hW', trodAll_mk1 (shut_bool Try.underlying4 _), (trodAll_cons_mk (Below.trod laidOut (by kernel_rfl) (of_decide_eq_true (by kernel_rfl)) k0 bel lt0) trodAll_mk0), rfl, bel.frame _, fun h => by cases h⟩
theorem over : Rows.fnAskForRow.holds Try.pinned (OpenSpec.ofChange Rows.fnAskForSpec) :=
  OpenClaim.holds_of_wide 3 Try.f3 rfl rfl rfl rfl rfl rfl rfl ⟨rfl, rfl, rfl, rfl, rfl⟩ rfl rfl rfl rfl rfl (by kernel_rfl) Try.func3 (by kernel_rfl)
    (of_decide_eq_true (by kernel_rfl)) (by unfold Func.isWrapper; first | (rw [if_pos (by decide +kernel)]; kernel_rfl) | (rw [if_neg (by decide +kernel)]; exact ⟨rfl, rfl⟩))
    (fun os started H enc _ => lifted os started H enc)
theorem proved : Rows.FnAskForSaid := over
end Go.Proofs.Ytgdkionmeacalab.lAskFor
