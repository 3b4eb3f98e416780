import Derived.Test.YtjdjahckdgbkbaeDoorQ06
import Derived.LaidEql
import Derived.RowKitTokens
section
namespace Go.Proofs.YtjdjahckdgbkbaeDoor
open Go.RowKit
set_option linter.unusedVariables false
set_option linter.unusedSimpArgs false
set_option maxHeartbeats 1000000
attribute [local go_sem 5000] run_mx run_mn
attribute [local go_sem] growUpon_value growUpon_skip growUpon_enter
attribute [local go_sem] givesUpon_value givesUpon_skip givesUpon_enter
theorem gby_trans {w w1 w2 : World} {g : Nat} (hb : Below w.heap.size w w1) (hg : w1.grownBy w2 (some g)) : w.grownBy w2 (some g) :=
  ⟨hg.os.trans hb.os, hg.tape.trans hb.tape, hg.output.trans hb.output, Nat.le_trans hb.size hg.size, fun k hk hne => (hg.block k (Nat.lt_of_lt_of_le hk hb.size) hne).trans (hb.block k hk)⟩
set_option maxRecDepth 100000 in
theorem resize_yes (p g1 q1 g2 q2 : Nat) (S M : List Int) (y : Int) (w : World) (hp : w.heap[p]? = some (.cells #[.slice (some ⟨g1, 0, none⟩) S.length q1, .slice (some ⟨g2, 0, none⟩) M.length q2] 35 (0, 0)))
    (h1 : OB w g1 q1 S) (h2 : OB w g2 q2 M) (hp1 : p ≠ g1) (hp2 : p ≠ g2) (h12 : g1 ≠ g2) (hv : pnP S M) (hy : 0 ≤ y ∧ y ≤ 400) (ht : resB S M y = true) :
    Calls Tryd.prog 37 #[.pointer (some ⟨p, 0, none⟩), .int .i64 y] w fun e w' => e = .returned .nilIface ∧ OB w' g1 q1 (resM S M y) ∧ w.grownBy w' (some g1) := by
  have hl := hv.six
  have h1l := hv.one
  have HLM := Lib.hid hv.len
  have hgp := GP.of hv
  have HSM := Lib.hid hv.smal.1
  have hsum := hv.sum
  have hs0 : 0 ≤ sumI S := sumI_nn (fun x hx => (hv.mem.1 x hx).1)
  obtain ⟨n, hn⟩ : ∃ n, y - sumI S = n := ⟨_, rfl⟩
  have wN : IntKind.i64.wrap (y - sumI S) = n := (IntWalk.i64_in _ (by omega)).trans hn
  obtain ⟨j, hj⟩ : ∃ j, S.length = j + 1 := ⟨S.length - 1, by omega⟩
  have wL : IntKind.i64.wrap ((S.length : Int) - 1) = (j : Int) := (IntWalk.i64_in _ (by omega)).trans (by omega)
  have HP := Lib.hid hp
  have k0 : w.cell? ⟨p, 0, none⟩ = some (.slice (some ⟨g1, 0, none⟩) S.length q1) := (cellS hp 0).trans rfl
  have hlp := ltS hp
  have HO1 := Lib.hid h1
  have HO2 := Lib.hid h2
  by_cases hge : 0 ≤ y - sumI S
  · rw [show resM S M y = S.set j (S.getD j 0 + n) by rw [resM, if_pos hge, hn, hj]; rfl]
    have e1 : S[j]? = some S[j] := List.getElem?_eq_getElem (by omega)
    have d1 := gapD e1
    rw [d1]
    have hxb := hv.mem.1 S[j] (List.getElem_mem (by omega))
    generalize S[j] = x at *
    have wX : IntKind.i64.wrap (x + n) = x + n := IntWalk.i64_in _ (by omega)
    have HE := Lib.hid e1
    have hjl : j < S.length := by omega
    have hdk : ((j : Nat) : Int) < (S.length : Int) := by omega
    have hdk2 : ¬ ((j : Nat) : Int) < 0 := by omega
    have hd : decide (n ≥ 0) = true := by simp; omega
    have hd2 : decide ((j : Int) < (S.length : Int)) = true := by simpa using hjl
    have HJ := Lib.hid hj
    clear hn hge e1 d1 hxb hsum hs0 hgp hv hj ht hp h1 h2
    go_enter Tryd.func37, Tryd.ntmps37
    go_wp2_with fail
    refine wp_region_rxl 15 0 [(0, 7, 0)] #[true, true, true, true, true, true, true, true, true, true, true, true, true, true, true] (by kernel_rfl) (by kernel_rfl) (by kernel_rfl) (XV (.pointer (some ⟨p, 0, none⟩)) :: XV (.pointer (some ⟨p, 0, none⟩)) :: XV (.pointer (some ⟨p, 0, none⟩)) :: XV (.slice (some ⟨g1, 0, none⟩) S.length q1) :: XV (.int .i64 S.length) :: XV (.int .i64 j) :: XV (.int .i64 y) :: XV (.pointer (some ⟨p, 0, none⟩)) :: XV (.pointer (some ⟨p, 0, none⟩)) :: XV (.pointer (some ⟨p, 0, none⟩)) :: XV (.slice (some ⟨g1, 0, none⟩) S.length q1) :: XV (.int .i64 (sumI S)) :: XV (.int .i64 n) :: XV (.int .i64 j) :: XV (.int .i64 n) :: []) (by kernel_rfl) (by kernel_rfl) (by kernel_rfl) ?hTs ?hXs ?hops ?hfin
    case hTs =>
      intro T hT
      simp only [List.mem_cons, List.not_mem_nil, or_false] at hT
      rcases hT with rfl | rfl | rfl | rfl | rfl | rfl | rfl | rfl | rfl | rfl | rfl | rfl | rfl | rfl | rfl <;> first | exact stay_V _ | exact stay_T | exact stay_of (fun v a b x g => x.keep g) | exact stay_of (fun v a b x g => x)
    case hXs =>
      intro x d s hx
      simp only [List.mem_cons, List.not_mem_nil, or_false, Prod.mk.injEq] at hx
      rcases hx with ⟨rfl, rfl, rfl⟩ <;> exact ⟨by omega, rfl⟩
    case hops =>
      refine ⟨opOK_rx [(0, none)] (by kernel_rfl) rfl ?_, ?_⟩
      · intro act w' hw' h1
        have hk : ∀ v, act.eval (.const v) = v := fun _ => rfl
        have hf : ∀ f, act.eval (.func f) = .func (.func f) #[] #[] := fun _ => rfl
        generalize act.eval = ρ at *
        replace h1 : ρ (.tmp 0) = .pointer (some ⟨p, 0, none⟩) := h1
        refine gx_gen (fun K hK => ?_)
        obtain ⟨hc, hf'⟩ := bcell (bdrewn hw'.out)
        go_simp
        exact hK _ _ ⟨rfl, Gr.refl _⟩
      refine ⟨opOK_rx [(7, some 0)] (by kernel_rfl) rfl ?_, ?_⟩
      · intro act w' hw' h1
        have hk : ∀ v, act.eval (.const v) = v := fun _ => rfl
        have hf : ∀ f, act.eval (.func f) = .func (.func f) #[] #[] := fun _ => rfl
        generalize act.eval = ρ at *
        replace h1 : ρ (.tmp 7) = .pointer (some ⟨p, 0, none⟩) := h1
        refine gx_gen (fun K hK => ?_)
        obtain ⟨hc, hf'⟩ := bcell (bdrewn hw'.out)
        go_simp
        exact hK _ _ ⟨rfl, Gr.refl _⟩
      refine ⟨opOK_rx [(8, some 1)] (by kernel_rfl) rfl ?_, ?_⟩
      · intro act w' hw' h1
        have hk : ∀ v, act.eval (.const v) = v := fun _ => rfl
        have hf : ∀ f, act.eval (.func f) = .func (.func f) #[] #[] := fun _ => rfl
        generalize act.eval = ρ at *
        replace h1 : ρ (.tmp 8) = .pointer (some ⟨p, 0, none⟩) := h1
        refine gx_gen (fun K hK => ?_)
        obtain ⟨hc, hf'⟩ := bcell (bdrewn hw'.out)
        go_simp
        exact hK _ _ ⟨rfl, Gr.refl _⟩
      refine ⟨opOK_rx [(9, some 2)] (by kernel_rfl) rfl ?_, ?_⟩
      · intro act w' hw' h1
        have hk : ∀ v, act.eval (.const v) = v := fun _ => rfl
        have hf : ∀ f, act.eval (.func f) = .func (.func f) #[] #[] := fun _ => rfl
        generalize act.eval = ρ at *
        replace h1 : ρ (.tmp 9) = .pointer (some ⟨p, 0, none⟩) := h1
        refine gx_gen (fun K hK => ?_)
        obtain ⟨hc, hf'⟩ := bcell (bdrewn hw'.out)
        go_simp
        exact hK _ _ ⟨rfl, Gr.refl _⟩
      refine ⟨opOK_rx [(10, some 3)] (by kernel_rfl) rfl ?_, ?_⟩
      · intro act w' hw' h1
        have hk : ∀ v, act.eval (.const v) = v := fun _ => rfl
        have hf : ∀ f, act.eval (.func f) = .func (.func f) #[] #[] := fun _ => rfl
        generalize act.eval = ρ at *
        replace h1 : ρ (.tmp 10) = .slice (some ⟨g1, 0, none⟩) S.length q1 := h1
        refine gx_gen (fun K hK => ?_)
        obtain ⟨hc, hf'⟩ := bcell (bdrewn hw'.out)
        go_simp
        exact hK _ _ ⟨rfl, Gr.refl _⟩
      refine ⟨opOK_rx [(11, some 4)] (by kernel_rfl) rfl ?_, ?_⟩
      · intro act w' hw' h1
        have hk : ∀ v, act.eval (.const v) = v := fun _ => rfl
        have hf : ∀ f, act.eval (.func f) = .func (.func f) #[] #[] := fun _ => rfl
        generalize act.eval = ρ at *
        replace h1 : ρ (.tmp 11) = .int .i64 S.length := h1
        refine gx_gen (fun K hK => ?_)
        obtain ⟨hc, hf'⟩ := bcell (bdrewn hw'.out)
        go_simp
        exact hK _ _ ⟨rfl, Gr.refl _⟩
      refine ⟨opOK_rx [(1, none)] (by kernel_rfl) rfl ?_, ?_⟩
      · intro act w' hw' h1
        have hk : ∀ v, act.eval (.const v) = v := fun _ => rfl
        have hf : ∀ f, act.eval (.func f) = .func (.func f) #[] #[] := fun _ => rfl
        generalize act.eval = ρ at *
        replace h1 : ρ (.tmp 1) = .int .i64 y := h1
        refine gx_gen (fun K hK => ?_)
        obtain ⟨hc, hf'⟩ := bcell (bdrewn hw'.out)
        go_simp
        exact hK _ _ ⟨rfl, Gr.refl _⟩
      refine ⟨opOK_rx [(0, none)] (by kernel_rfl) rfl ?_, ?_⟩
      · intro act w' hw' h1
        have hk : ∀ v, act.eval (.const v) = v := fun _ => rfl
        have hf : ∀ f, act.eval (.func f) = .func (.func f) #[] #[] := fun _ => rfl
        generalize act.eval = ρ at *
        replace h1 : ρ (.tmp 0) = .pointer (some ⟨p, 0, none⟩) := h1
        refine gx_gen (fun K hK => ?_)
        obtain ⟨hc, hf'⟩ := bcell (bdrewn hw'.out)
        go_simp
        exact hK _ _ ⟨rfl, Gr.refl _⟩
      refine ⟨opOK_rx [(14, some 7)] (by kernel_rfl) rfl ?_, ?_⟩
      · intro act w' hw' h1
        have hk : ∀ v, act.eval (.const v) = v := fun _ => rfl
        have hf : ∀ f, act.eval (.func f) = .func (.func f) #[] #[] := fun _ => rfl
        generalize act.eval = ρ at *
        replace h1 : ρ (.tmp 14) = .pointer (some ⟨p, 0, none⟩) := h1
        refine gx_gen (fun K hK => ?_)
        obtain ⟨hc, hf'⟩ := bcell (bdrewn hw'.out)
        go_simp
        exact hK _ _ ⟨rfl, Gr.refl _⟩
      refine ⟨opOK_rx [(15, some 8)] (by kernel_rfl) rfl ?_, ?_⟩
      · intro act w' hw' h1
        have hk : ∀ v, act.eval (.const v) = v := fun _ => rfl
        have hf : ∀ f, act.eval (.func f) = .func (.func f) #[] #[] := fun _ => rfl
        generalize act.eval = ρ at *
        replace h1 : ρ (.tmp 15) = .pointer (some ⟨p, 0, none⟩) := h1
        refine gx_gen (fun K hK => ?_)
        obtain ⟨hc, hf'⟩ := bcell (bdrewn hw'.out)
        go_simp
        exact hK _ _ ⟨rfl, Gr.refl _⟩
      refine ⟨opOK_rx [(16, some 9)] (by kernel_rfl) rfl ?_, ?_⟩
      · intro act w' hw' h1
        have hk : ∀ v, act.eval (.const v) = v := fun _ => rfl
        have hf : ∀ f, act.eval (.func f) = .func (.func f) #[] #[] := fun _ => rfl
        generalize act.eval = ρ at *
        replace h1 : ρ (.tmp 16) = .pointer (some ⟨p, 0, none⟩) := h1
        refine gx_gen (fun K hK => ?_)
        obtain ⟨hc, hf'⟩ := bcell (bdrewn hw'.out)
        go_simp
        exact hK _ _ ⟨rfl, Gr.refl _⟩
      refine ⟨opOK_rx [(17, some 10)] (by kernel_rfl) rfl ?_, ?_⟩
      · intro act w' hw' h1
        have hk : ∀ v, act.eval (.const v) = v := fun _ => rfl
        have hf : ∀ f, act.eval (.func f) = .func (.func f) #[] #[] := fun _ => rfl
        generalize act.eval = ρ at *
        replace h1 : ρ (.tmp 17) = .slice (some ⟨g1, 0, none⟩) S.length q1 := h1
        refine gx_gen (fun K hK => ?_)
        obtain ⟨hc, hf'⟩ := bcell (bdrewn hw'.out)
        go_simp
        (with_reducible refine (sum_v (some ⟨g1, 0, none⟩) q1 S _ (HO1.out.nv.keep (bdrewn hw'.out)) (by omega) HSM.out).mono ?_); rintro e w2 ⟨rfl, rfl⟩; exact ⟨_, rfl, hK _ _ ⟨rfl, Gr.refl _⟩⟩
      refine ⟨opOK_rx [(13, some 6), (18, some 11)] (by kernel_rfl) rfl ?_, ?_⟩
      · intro act w' hw' h1 h2
        have hk : ∀ v, act.eval (.const v) = v := fun _ => rfl
        have hf : ∀ f, act.eval (.func f) = .func (.func f) #[] #[] := fun _ => rfl
        generalize act.eval = ρ at *
        replace h1 : ρ (.tmp 13) = .int .i64 y := h1
        replace h2 : ρ (.tmp 18) = .int .i64 (sumI S) := h2
        refine gx_gen (fun K hK => ?_)
        obtain ⟨hc, hf'⟩ := bcell (bdrewn hw'.out)
        go_simp
        exact hK _ _ ⟨rfl, Gr.refl _⟩
      refine ⟨opOK_rx [(12, some 5)] (by kernel_rfl) rfl ?_, ?_⟩
      · intro act w' hw' h1
        have hk : ∀ v, act.eval (.const v) = v := fun _ => rfl
        have hf : ∀ f, act.eval (.func f) = .func (.func f) #[] #[] := fun _ => rfl
        generalize act.eval = ρ at *
        replace h1 : ρ (.tmp 12) = .int .i64 j := h1
        refine gx_gen (fun K hK => ?_)
        obtain ⟨hc, hf'⟩ := bcell (bdrewn hw'.out)
        go_simp
        exact hK _ _ ⟨rfl, Gr.refl _⟩
      refine ⟨opOK_rx [(19, some 12)] (by kernel_rfl) rfl ?_, ?_⟩
      · intro act w' hw' h1
        have hk : ∀ v, act.eval (.const v) = v := fun _ => rfl
        have hf : ∀ f, act.eval (.func f) = .func (.func f) #[] #[] := fun _ => rfl
        generalize act.eval = ρ at *
        replace h1 : ρ (.tmp 19) = .int .i64 n := h1
        refine gx_gen (fun K hK => ?_)
        obtain ⟨hc, hf'⟩ := bcell (bdrewn hw'.out)
        go_simp
        exact hK _ _ ⟨rfl, Gr.refl _⟩
      exact trivial
    case hfin =>
      intro w1 hg1
      intro v7 t7
      replace t7 : v7 = .pointer (some ⟨p, 0, none⟩) := t7
      subst t7
      intro v8 t8
      replace t8 : v8 = .pointer (some ⟨p, 0, none⟩) := t8
      subst t8
      intro v9 t9
      replace t9 : v9 = .pointer (some ⟨p, 0, none⟩) := t9
      subst t9
      intro v10 t10
      replace t10 : v10 = .slice (some ⟨g1, 0, none⟩) S.length q1 := t10
      subst t10
      intro v11 t11
      replace t11 : v11 = .int .i64 S.length := t11
      subst t11
      intro v12 t12
      replace t12 : v12 = .int .i64 j := t12
      subst t12
      intro v13 t13
      replace t13 : v13 = .int .i64 y := t13
      subst t13
      intro v14 t14
      replace t14 : v14 = .pointer (some ⟨p, 0, none⟩) := t14
      subst t14
      intro v15 t15
      replace t15 : v15 = .pointer (some ⟨p, 0, none⟩) := t15
      subst t15
      intro v16 t16
      replace t16 : v16 = .pointer (some ⟨p, 0, none⟩) := t16
      subst t16
      intro v17 t17
      replace t17 : v17 = .slice (some ⟨g1, 0, none⟩) S.length q1 := t17
      subst t17
      intro v18 t18
      replace t18 : v18 = .int .i64 (sumI S) := t18
      subst t18
      intro v19 t19
      replace t19 : v19 = .int .i64 n := t19
      subst t19
      intro v5 t5
      replace t5 : v5 = .int .i64 j := t5
      subst t5
      intro v6 t6
      replace t6 : v6 = .int .i64 n := t6
      subst t6
      have hb1 := bdrewn hg1.out
      clear hg1
      simp only [finP, List.take_succ_cons, List.take_zero, Act.put, List.setIfInBounds_toArray, List.set_cons_succ, List.set_cons_zero]
      refine wpAny_end (by kernel_rfl) ?_
      refine NoPan.thn ?_
      replace HP := Lib.hid ((hb1.block p (ltS HP.out)).trans HP.out)
      replace HO1 := Lib.hid (HO1.out.keep hb1)
      replace HO2 := Lib.hid (HO2.out.keep hb1)
      have HB1 := Lib.hid hb1
      clear hb1 k0
      have k0 : w1.cell? ⟨p, 0, none⟩ = some (.slice (some ⟨g1, 0, none⟩) S.length q1) := (cellS HP.out 0).trans rfl
      have kx := HO1.out.cell HE.out
      have fx := HO1.out.frozen j
      have HS := Lib.hid (HO1.out.set j (x + n) hjl)
      have HG := Lib.hid (gsetP (gofP g1 HB1.out) j (.int .i64 (x + n)))
      go_wp2
      go_ret
      exact ⟨rfl, HS.out, HG.out⟩
  · have hrem : Rem S.length (-1) (j : Int) (downs S.length) := by
      have h := rem_bwd S.length S.length (by omega)
      have e : (S.length : Int) - 1 = (j : Int) := by omega
      rw [e] at h
      exact h
    have hs := goL_spec (downs S.length) hgp (r := -n) (by omega) hrem.lt
    have HTK := Lib.hid (fun (w1 : World) hp h1 h2 => take_v p g1 q1 g2 q2 S.length M.length S M (-n) (j : Int) (-1) (downs S.length) w1 hp rfl rfl h1 h2 hp1 hp2 h12 hgp hl (by omega) hrem (by omega) (by omega) (by omega) (by omega))
    have eO : resO S M y = goL M (downs S.length) S (-n) := by rw [resO, hn]
    have eB : resB S M y = decide ((resO S M y).2 ≤ 0) := by rw [resB, if_neg hge]
    rw [show resM S M y = (resO S M y).1 by rw [resM, if_neg hge], eO]
    rw [eB, eO] at ht
    have hlo := hs.lo
    obtain ⟨F, hF⟩ : ∃ F, goL M (downs S.length) S (-n) = F := ⟨_, rfl⟩
    rw [hF] at HTK ht hlo ⊢
    have wM2 : IntKind.i64.wrap (-n) = -n := IntWalk.i64_in _ (by omega)
    have wM3 : wrap64 (-n) = -n := IntWalk.wrap64_in _ (by omega)
    have hd : decide (n ≥ 0) = false := by simp; omega
    have hf : decide (-n - F.2 < -n) = false := by simp at ht ⊢; omega
    have HJ := Lib.hid hj
    clear hF hs hrem hgp eO eB ht hn hge hsum hs0 hv hj hp h1 h2 hlo
    go_enter Tryd.func37, Tryd.ntmps37
    go_wp2_with fail
    refine wp_region_rxl 15 0 [(0, 7, 0)] #[true, true, true, true, true, true, true, true, true, true, true, true, true, true, true] (by kernel_rfl) (by kernel_rfl) (by kernel_rfl) (XV (.pointer (some ⟨p, 0, none⟩)) :: XV (.pointer (some ⟨p, 0, none⟩)) :: XV (.pointer (some ⟨p, 0, none⟩)) :: XV (.slice (some ⟨g1, 0, none⟩) S.length q1) :: XV (.int .i64 S.length) :: XV (.int .i64 j) :: XV (.int .i64 y) :: XV (.pointer (some ⟨p, 0, none⟩)) :: XV (.pointer (some ⟨p, 0, none⟩)) :: XV (.pointer (some ⟨p, 0, none⟩)) :: XV (.slice (some ⟨g1, 0, none⟩) S.length q1) :: XV (.int .i64 (sumI S)) :: XV (.int .i64 n) :: XV (.int .i64 j) :: XV (.int .i64 n) :: []) (by kernel_rfl) (by kernel_rfl) (by kernel_rfl) ?hTs ?hXs ?hops ?hfin
    case hTs =>
      intro T hT
      simp only [List.mem_cons, List.not_mem_nil, or_false] at hT
      rcases hT with rfl | rfl | rfl | rfl | rfl | rfl | rfl | rfl | rfl | rfl | rfl | rfl | rfl | rfl | rfl <;> first | exact stay_V _ | exact stay_T | exact stay_of (fun v a b x g => x.keep g) | exact stay_of (fun v a b x g => x)
    case hXs =>
      intro x d s hx
      simp only [List.mem_cons, List.not_mem_nil, or_false, Prod.mk.injEq] at hx
      rcases hx with ⟨rfl, rfl, rfl⟩ <;> exact ⟨by omega, rfl⟩
    case hops =>
      refine ⟨opOK_rx [(0, none)] (by kernel_rfl) rfl ?_, ?_⟩
      · intro act w' hw' h1
        have hk : ∀ v, act.eval (.const v) = v := fun _ => rfl
        have hf : ∀ f, act.eval (.func f) = .func (.func f) #[] #[] := fun _ => rfl
        generalize act.eval = ρ at *
        replace h1 : ρ (.tmp 0) = .pointer (some ⟨p, 0, none⟩) := h1
        refine gx_gen (fun K hK => ?_)
        obtain ⟨hc, hf'⟩ := bcell (bdrewn hw'.out)
        go_simp
        exact hK _ _ ⟨rfl, Gr.refl _⟩
      refine ⟨opOK_rx [(7, some 0)] (by kernel_rfl) rfl ?_, ?_⟩
      · intro act w' hw' h1
        have hk : ∀ v, act.eval (.const v) = v := fun _ => rfl
        have hf : ∀ f, act.eval (.func f) = .func (.func f) #[] #[] := fun _ => rfl
        generalize act.eval = ρ at *
        replace h1 : ρ (.tmp 7) = .pointer (some ⟨p, 0, none⟩) := h1
        refine gx_gen (fun K hK => ?_)
        obtain ⟨hc, hf'⟩ := bcell (bdrewn hw'.out)
        go_simp
        exact hK _ _ ⟨rfl, Gr.refl _⟩
      refine ⟨opOK_rx [(8, some 1)] (by kernel_rfl) rfl ?_, ?_⟩
      · intro act w' hw' h1
        have hk : ∀ v, act.eval (.const v) = v := fun _ => rfl
        have hf : ∀ f, act.eval (.func f) = .func (.func f) #[] #[] := fun _ => rfl
        generalize act.eval = ρ at *
        replace h1 : ρ (.tmp 8) = .pointer (some ⟨p, 0, none⟩) := h1
        refine gx_gen (fun K hK => ?_)
        obtain ⟨hc, hf'⟩ := bcell (bdrewn hw'.out)
        go_simp
        exact hK _ _ ⟨rfl, Gr.refl _⟩
      refine ⟨opOK_rx [(9, some 2)] (by kernel_rfl) rfl ?_, ?_⟩
      · intro act w' hw' h1
        have hk : ∀ v, act.eval (.const v) = v := fun _ => rfl
        have hf : ∀ f, act.eval (.func f) = .func (.func f) #[] #[] := fun _ => rfl
        generalize act.eval = ρ at *
        replace h1 : ρ (.tmp 9) = .pointer (some ⟨p, 0, none⟩) := h1
        refine gx_gen (fun K hK => ?_)
        obtain ⟨hc, hf'⟩ := bcell (bdrewn hw'.out)
        go_simp
        exact hK _ _ ⟨rfl, Gr.refl _⟩
      refine ⟨opOK_rx [(10, some 3)] (by kernel_rfl) rfl ?_, ?_⟩
      · intro act w' hw' h1
        have hk : ∀ v, act.eval (.const v) = v := fun _ => rfl
        have hf : ∀ f, act.eval (.func f) = .func (.func f) #[] #[] := fun _ => rfl
        generalize act.eval = ρ at *
        replace h1 : ρ (.tmp 10) = .slice (some ⟨g1, 0, none⟩) S.length q1 := h1
        refine gx_gen (fun K hK => ?_)
        obtain ⟨hc, hf'⟩ := bcell (bdrewn hw'.out)
        go_simp
        exact hK _ _ ⟨rfl, Gr.refl _⟩
      refine ⟨opOK_rx [(11, some 4)] (by kernel_rfl) rfl ?_, ?_⟩
      · intro act w' hw' h1
        have hk : ∀ v, act.eval (.const v) = v := fun _ => rfl
        have hf : ∀ f, act.eval (.func f) = .func (.func f) #[] #[] := fun _ => rfl
        generalize act.eval = ρ at *
        replace h1 : ρ (.tmp 11) = .int .i64 S.length := h1
        refine gx_gen (fun K hK => ?_)
        obtain ⟨hc, hf'⟩ := bcell (bdrewn hw'.out)
        go_simp
        exact hK _ _ ⟨rfl, Gr.refl _⟩
      refine ⟨opOK_rx [(1, none)] (by kernel_rfl) rfl ?_, ?_⟩
      · intro act w' hw' h1
        have hk : ∀ v, act.eval (.const v) = v := fun _ => rfl
        have hf : ∀ f, act.eval (.func f) = .func (.func f) #[] #[] := fun _ => rfl
        generalize act.eval = ρ at *
        replace h1 : ρ (.tmp 1) = .int .i64 y := h1
        refine gx_gen (fun K hK => ?_)
        obtain ⟨hc, hf'⟩ := bcell (bdrewn hw'.out)
        go_simp
        exact hK _ _ ⟨rfl, Gr.refl _⟩
      refine ⟨opOK_rx [(0, none)] (by kernel_rfl) rfl ?_, ?_⟩
      · intro act w' hw' h1
        have hk : ∀ v, act.eval (.const v) = v := fun _ => rfl
        have hf : ∀ f, act.eval (.func f) = .func (.func f) #[] #[] := fun _ => rfl
        generalize act.eval = ρ at *
        replace h1 : ρ (.tmp 0) = .pointer (some ⟨p, 0, none⟩) := h1
        refine gx_gen (fun K hK => ?_)
        obtain ⟨hc, hf'⟩ := bcell (bdrewn hw'.out)
        go_simp
        exact hK _ _ ⟨rfl, Gr.refl _⟩
      refine ⟨opOK_rx [(14, some 7)] (by kernel_rfl) rfl ?_, ?_⟩
      · intro act w' hw' h1
        have hk : ∀ v, act.eval (.const v) = v := fun _ => rfl
        have hf : ∀ f, act.eval (.func f) = .func (.func f) #[] #[] := fun _ => rfl
        generalize act.eval = ρ at *
        replace h1 : ρ (.tmp 14) = .pointer (some ⟨p, 0, none⟩) := h1
        refine gx_gen (fun K hK => ?_)
        obtain ⟨hc, hf'⟩ := bcell (bdrewn hw'.out)
        go_simp
        exact hK _ _ ⟨rfl, Gr.refl _⟩
      refine ⟨opOK_rx [(15, some 8)] (by kernel_rfl) rfl ?_, ?_⟩
      · intro act w' hw' h1
        have hk : ∀ v, act.eval (.const v) = v := fun _ => rfl
        have hf : ∀ f, act.eval (.func f) = .func (.func f) #[] #[] := fun _ => rfl
        generalize act.eval = ρ at *
        replace h1 : ρ (.tmp 15) = .pointer (some ⟨p, 0, none⟩) := h1
        refine gx_gen (fun K hK => ?_)
        obtain ⟨hc, hf'⟩ := bcell (bdrewn hw'.out)
        go_simp
        exact hK _ _ ⟨rfl, Gr.refl _⟩
      refine ⟨opOK_rx [(16, some 9)] (by kernel_rfl) rfl ?_, ?_⟩
      · intro act w' hw' h1
        have hk : ∀ v, act.eval (.const v) = v := fun _ => rfl
        have hf : ∀ f, act.eval (.func f) = .func (.func f) #[] #[] := fun _ => rfl
        generalize act.eval = ρ at *
        replace h1 : ρ (.tmp 16) = .pointer (some ⟨p, 0, none⟩) := h1
        refine gx_gen (fun K hK => ?_)
        obtain ⟨hc, hf'⟩ := bcell (bdrewn hw'.out)
        go_simp
        exact hK _ _ ⟨rfl, Gr.refl _⟩
      refine ⟨opOK_rx [(17, some 10)] (by kernel_rfl) rfl ?_, ?_⟩
      · intro act w' hw' h1
        have hk : ∀ v, act.eval (.const v) = v := fun _ => rfl
        have hf : ∀ f, act.eval (.func f) = .func (.func f) #[] #[] := fun _ => rfl
        generalize act.eval = ρ at *
        replace h1 : ρ (.tmp 17) = .slice (some ⟨g1, 0, none⟩) S.length q1 := h1
        refine gx_gen (fun K hK => ?_)
        obtain ⟨hc, hf'⟩ := bcell (bdrewn hw'.out)
        go_simp
        (with_reducible refine (sum_v (some ⟨g1, 0, none⟩) q1 S _ (HO1.out.nv.keep (bdrewn hw'.out)) (by omega) HSM.out).mono ?_); rintro e w2 ⟨rfl, rfl⟩; exact ⟨_, rfl, hK _ _ ⟨rfl, Gr.refl _⟩⟩
      refine ⟨opOK_rx [(13, some 6), (18, some 11)] (by kernel_rfl) rfl ?_, ?_⟩
      · intro act w' hw' h1 h2
        have hk : ∀ v, act.eval (.const v) = v := fun _ => rfl
        have hf : ∀ f, act.eval (.func f) = .func (.func f) #[] #[] := fun _ => rfl
        generalize act.eval = ρ at *
        replace h1 : ρ (.tmp 13) = .int .i64 y := h1
        replace h2 : ρ (.tmp 18) = .int .i64 (sumI S) := h2
        refine gx_gen (fun K hK => ?_)
        obtain ⟨hc, hf'⟩ := bcell (bdrewn hw'.out)
        go_simp
        exact hK _ _ ⟨rfl, Gr.refl _⟩
      refine ⟨opOK_rx [(12, some 5)] (by kernel_rfl) rfl ?_, ?_⟩
      · intro act w' hw' h1
        have hk : ∀ v, act.eval (.const v) = v := fun _ => rfl
        have hf : ∀ f, act.eval (.func f) = .func (.func f) #[] #[] := fun _ => rfl
        generalize act.eval = ρ at *
        replace h1 : ρ (.tmp 12) = .int .i64 j := h1
        refine gx_gen (fun K hK => ?_)
        obtain ⟨hc, hf'⟩ := bcell (bdrewn hw'.out)
        go_simp
        exact hK _ _ ⟨rfl, Gr.refl _⟩
      refine ⟨opOK_rx [(19, some 12)] (by kernel_rfl) rfl ?_, ?_⟩
      · intro act w' hw' h1
        have hk : ∀ v, act.eval (.const v) = v := fun _ => rfl
        have hf : ∀ f, act.eval (.func f) = .func (.func f) #[] #[] := fun _ => rfl
        generalize act.eval = ρ at *
        replace h1 : ρ (.tmp 19) = .int .i64 n := h1
        refine gx_gen (fun K hK => ?_)
        obtain ⟨hc, hf'⟩ := bcell (bdrewn hw'.out)
        go_simp
        exact hK _ _ ⟨rfl, Gr.refl _⟩
      exact trivial
    case hfin =>
      intro w1 hg1
      intro v7 t7
      replace t7 : v7 = .pointer (some ⟨p, 0, none⟩) := t7
      subst t7
      intro v8 t8
      replace t8 : v8 = .pointer (some ⟨p, 0, none⟩) := t8
      subst t8
      intro v9 t9
      replace t9 : v9 = .pointer (some ⟨p, 0, none⟩) := t9
      subst t9
      intro v10 t10
      replace t10 : v10 = .slice (some ⟨g1, 0, none⟩) S.length q1 := t10
      subst t10
      intro v11 t11
      replace t11 : v11 = .int .i64 S.length := t11
      subst t11
      intro v12 t12
      replace t12 : v12 = .int .i64 j := t12
      subst t12
      intro v13 t13
      replace t13 : v13 = .int .i64 y := t13
      subst t13
      intro v14 t14
      replace t14 : v14 = .pointer (some ⟨p, 0, none⟩) := t14
      subst t14
      intro v15 t15
      replace t15 : v15 = .pointer (some ⟨p, 0, none⟩) := t15
      subst t15
      intro v16 t16
      replace t16 : v16 = .pointer (some ⟨p, 0, none⟩) := t16
      subst t16
      intro v17 t17
      replace t17 : v17 = .slice (some ⟨g1, 0, none⟩) S.length q1 := t17
      subst t17
      intro v18 t18
      replace t18 : v18 = .int .i64 (sumI S) := t18
      subst t18
      intro v19 t19
      replace t19 : v19 = .int .i64 n := t19
      subst t19
      intro v5 t5
      replace t5 : v5 = .int .i64 j := t5
      subst t5
      intro v6 t6
      replace t6 : v6 = .int .i64 n := t6
      subst t6
      have hb1 := bdrewn hg1.out
      clear hg1
      simp only [finP, List.take_succ_cons, List.take_zero, Act.put, List.setIfInBounds_toArray, List.set_cons_succ, List.set_cons_zero]
      refine wpAny_end (by kernel_rfl) ?_
      refine NoPan.thn ?_
      replace HP := Lib.hid ((hb1.block p (ltS HP.out)).trans HP.out)
      replace HO1 := Lib.hid (HO1.out.keep hb1)
      replace HO2 := Lib.hid (HO2.out.keep hb1)
      have HB1 := Lib.hid hb1
      clear hb1 k0
      have k0 : w1.cell? ⟨p, 0, none⟩ = some (.slice (some ⟨g1, 0, none⟩) S.length q1) := (cellS HP.out 0).trans rfl
      go_wp2_with fail
      with_reducible refine (HTK.out _ HP.out HO1.out HO2.out).mono ?_
      rintro e w2 ⟨rfl, ho, hg⟩
      have HS := Lib.hid ho
      have HG := Lib.hid (gby_trans HB1.out hg)
      clear HTK ho hg k0
      go_wp2
      go_ret
      exact ⟨rfl, HS.out, HG.out⟩
end Go.Proofs.YtjdjahckdgbkbaeDoor
end
section
namespace Go.Proofs.YtjdjahckdgbkbaeDoor
open Go.RowKit Go.Extern.Stop Go.Stop Go.Extern
set_option linter.unusedVariables false
set_option linter.unusedSimpArgs false
set_option maxHeartbeats 1000000

/-! errors.Is at nil and at the sentinel itself. -/
theorem isTypeOf (v : Value) (w : World) : (Extern.ReflectliteType.typeOf #[.iface 106 v]).run Tryd.prog w = .ok (.iface 80 (.agg #[.pointer (some ⟨4, 106, none⟩)])) w := by kernel_rfl
def cmpF : Array Value → Sem Value := Extern.ReflectliteType.method fun t => do Extern.Rtype.noPackHeld "Comparable" t; pure (.bool (← typeInfo t).comparable)
theorem isComparable (w : World) : (cmpF #[.agg #[.pointer (some ⟨4, 106, none⟩)]]).run Tryd.prog w = .ok (.bool true) w := by kernel_rfl
theorem isMethodComparable (v : Value) (w : World) : (Go.method 243 80 v "Comparable").run Tryd.prog w = .ok (91, v) w := by kernel_rfl
theorem isComp : (Tryd.prog.info? 106).map (·.comparable) = some true := by kernel_rfl
theorem isSize : (Tryd.prog.info? 131).map (·.size) = some 1 := by kernel_rfl
theorem is_nil (b : Addr) (w : World) :
    Calls Tryd.prog 38 #[.nilIface, .iface 106 (.pointer (some b))] w fun e w' => e = .returned (.bool false) ∧ w' = w := by
  have hn := run_eql_iface_nil_left (P := Tryd.prog) w 106 (.pointer (some b)) Tryd.underlying59
  go_enter Tryd.func38, Tryd.ntmps38
  go_wp2
  go_ret
  exact ⟨rfl, rfl⟩
set_option maxRecDepth 100000 in
theorem is_same (a : Addr) (w : World) :
    Calls Tryd.prog 38 #[.iface 106 (.pointer (some a)), .iface 106 (.pointer (some a))] w fun e w' => e = .returned (.bool true) ∧ w' = w := by
  obtain ⟨i, hi, hcmp⟩ := Option.map_eq_some_iff.1 isComp
  obtain ⟨j, hj, hjs⟩ := Option.map_eq_some_iff.1 isSize
  have h8 := @run_callFunc_extern Tryd.prog 57 _ Extern.ReflectliteType.typeOf Tryd.func57 (by kernel_rfl) (by kernel_rfl) (by kernel_rfl) (by kernel_rfl)
  have h32 := @run_callFunc_extern Tryd.prog 91 _ cmpF Tryd.func91 (by kernel_rfl) (by kernel_rfl) (by kernel_rfl) (by kernel_rfl)
  have heq := run_eql_iface_ptr_same (P := Tryd.prog) w a Tryd.underlying59 Tryd.underlying106 hi hcmp hj
  have tT := isTypeOf
  have cT := isComparable
  have mR := isMethodComparable
  go_enter Tryd.func38, Tryd.ntmps38
  go_wp2
  refine wp_loop_rounds 1 ?_
  rw [rounds_succ]
  go_wp2
  go_ret
  exact ⟨rfl, rfl⟩
end Go.Proofs.YtjdjahckdgbkbaeDoor
end
section
namespace Go.Proofs.YtjdjahckdgbkbaeDoor
open Go.RowKit
set_option linter.unusedVariables false
set_option linter.unusedSimpArgs false
set_option maxHeartbeats 1000000
attribute [local go_sem 5000] run_mx run_mn
attribute [local go_sem] growUpon_value growUpon_skip growUpon_enter
attribute [local go_sem] givesUpon_value givesUpon_skip givesUpon_enter
set_option maxRecDepth 100000 in
theorem resize_no (p g1 q1 g2 q2 : Nat) (S M : List Int) (y : Int) (w : World) (hp : w.heap[p]? = some (.cells #[.slice (some ⟨g1, 0, none⟩) S.length q1, .slice (some ⟨g2, 0, none⟩) M.length q2] 35 (0, 0)))
    (h1 : OB w g1 q1 S) (h2 : OB w g2 q2 M) (hp1 : p ≠ g1) (hp2 : p ≠ g2) (h12 : g1 ≠ g2) (hv : pnP S M) (hy : 0 ≤ y ∧ y ≤ 400) (ht : resB S M y = false) (a : Addr) (h0 : w.cell? ⟨0, 0, none⟩ = some (.iface 106 (.pointer (some a)))) (hg10 : 0 ≠ g1) :
    Calls Tryd.prog 37 #[.pointer (some ⟨p, 0, none⟩), .int .i64 y] w fun e w' => e = .returned (.iface 106 (.pointer (some a))) ∧ w.grownBy w' (some g1) := by
  have hl := hv.six
  have h1l := hv.one
  have HLM := Lib.hid hv.len
  have hgp := GP.of hv
  have HSM := Lib.hid hv.smal.1
  have hsum := hv.sum
  have hs0 : 0 ≤ sumI S := sumI_nn (fun x hx => (hv.mem.1 x hx).1)
  obtain ⟨n, hn⟩ : ∃ n, y - sumI S = n := ⟨_, rfl⟩
  have wN : IntKind.i64.wrap (y - sumI S) = n := (IntWalk.i64_in _ (by omega)).trans hn
  obtain ⟨j, hj⟩ : ∃ j, S.length = j + 1 := ⟨S.length - 1, by omega⟩
  have wL : IntKind.i64.wrap ((S.length : Int) - 1) = (j : Int) := (IntWalk.i64_in _ (by omega)).trans (by omega)
  have HP := Lib.hid hp
  have k0 : w.cell? ⟨p, 0, none⟩ = some (.slice (some ⟨g1, 0, none⟩) S.length q1) := (cellS hp 0).trans rfl
  have hlp := ltS hp
  have HO1 := Lib.hid h1
  have HO2 := Lib.hid h2
  by_cases hge : 0 ≤ y - sumI S
  · rw [resB, if_pos hge] at ht; cases ht
  have hrem : Rem S.length (-1) (j : Int) (downs S.length) := by
    have h := rem_bwd S.length S.length (by omega)
    have e : (S.length : Int) - 1 = (j : Int) := by omega
    rw [e] at h
    exact h
  have hs := goL_spec (downs S.length) hgp (r := -n) (by omega) hrem.lt
  have HTK := Lib.hid (fun (w1 : World) hp h1 h2 => take_v p g1 q1 g2 q2 S.length M.length S M (-n) (j : Int) (-1) (downs S.length) w1 hp rfl rfl h1 h2 hp1 hp2 h12 hgp hl (by omega) hrem (by omega) (by omega) (by omega) (by omega))
  have eO : resO S M y = goL M (downs S.length) S (-n) := by rw [resO, hn]
  have eB : resB S M y = decide ((resO S M y).2 ≤ 0) := by rw [resB, if_neg hge]
  rw [eB, eO] at ht
  have hlo := hs.lo
  obtain ⟨F, hF⟩ : ∃ F, goL M (downs S.length) S (-n) = F := ⟨_, rfl⟩
  rw [hF] at HTK ht hlo
  have wM2 : IntKind.i64.wrap (-n) = -n := IntWalk.i64_in _ (by omega)
  have wM3 : wrap64 (-n) = -n := IntWalk.wrap64_in _ (by omega)
  have hd : decide (n ≥ 0) = false := by simp; omega
  have hf : decide (-n - F.2 < -n) = true := by simp at ht ⊢; omega
  have hzs : 0 < w.heap.size := World.block_lt_of_cell? _ _ h0
  have H0 := Lib.hid h0
  have HJ := Lib.hid hj
  clear hF hs hrem hgp eO eB ht hn hge hsum hs0 hv hj hp h1 h2 hlo h0
  go_enter Tryd.func37, Tryd.ntmps37
  go_wp2_with fail
  refine wp_region_rxl 15 0 [(0, 7, 0)] #[true, true, true, true, true, true, true, true, true, true, true, true, true, true, true] (by kernel_rfl) (by kernel_rfl) (by kernel_rfl) (XV (.pointer (some ⟨p, 0, none⟩)) :: XV (.pointer (some ⟨p, 0, none⟩)) :: XV (.pointer (some ⟨p, 0, none⟩)) :: XV (.slice (some ⟨g1, 0, none⟩) S.length q1) :: XV (.int .i64 S.length) :: XV (.int .i64 j) :: XV (.int .i64 y) :: XV (.pointer (some ⟨p, 0, none⟩)) :: XV (.pointer (some ⟨p, 0, none⟩)) :: XV (.pointer (some ⟨p, 0, none⟩)) :: XV (.slice (some ⟨g1, 0, none⟩) S.length q1) :: XV (.int .i64 (sumI S)) :: XV (.int .i64 n) :: XV (.int .i64 j) :: XV (.int .i64 n) :: []) (by kernel_rfl) (by kernel_rfl) (by kernel_rfl) ?hTs ?hXs ?hops ?hfin
  case hTs =>
    intro T hT
    simp only [List.mem_cons, List.not_mem_nil, or_false] at hT
    rcases hT with rfl | rfl | rfl | rfl | rfl | rfl | rfl | rfl | rfl | rfl | rfl | rfl | rfl | rfl | rfl <;> first | exact stay_V _ | exact stay_T | exact stay_of (fun v a b x g => x.keep g) | exact stay_of (fun v a b x g => x)
  case hXs =>
    intro x d s hx
    simp only [List.mem_cons, List.not_mem_nil, or_false, Prod.mk.injEq] at hx
    rcases hx with ⟨rfl, rfl, rfl⟩ <;> exact ⟨by omega, rfl⟩
  case hops =>
    refine ⟨opOK_rx [(0, none)] (by kernel_rfl) rfl ?_, ?_⟩
    · intro act w' hw' h1
      have hk : ∀ v, act.eval (.const v) = v := fun _ => rfl
      have hf : ∀ f, act.eval (.func f) = .func (.func f) #[] #[] := fun _ => rfl
      generalize act.eval = ρ at *
      replace h1 : ρ (.tmp 0) = .pointer (some ⟨p, 0, none⟩) := h1
      refine gx_gen (fun K hK => ?_)
      obtain ⟨hc, hf'⟩ := bcell (bdrewn hw'.out)
      go_simp
      exact hK _ _ ⟨rfl, Gr.refl _⟩
    refine ⟨opOK_rx [(7, some 0)] (by kernel_rfl) rfl ?_, ?_⟩
    · intro act w' hw' h1
      have hk : ∀ v, act.eval (.const v) = v := fun _ => rfl
      have hf : ∀ f, act.eval (.func f) = .func (.func f) #[] #[] := fun _ => rfl
      generalize act.eval = ρ at *
      replace h1 : ρ (.tmp 7) = .pointer (some ⟨p, 0, none⟩) := h1
      refine gx_gen (fun K hK => ?_)
      obtain ⟨hc, hf'⟩ := bcell (bdrewn hw'.out)
      go_simp
      exact hK _ _ ⟨rfl, Gr.refl _⟩
    refine ⟨opOK_rx [(8, some 1)] (by kernel_rfl) rfl ?_, ?_⟩
    · intro act w' hw' h1
      have hk : ∀ v, act.eval (.const v) = v := fun _ => rfl
      have hf : ∀ f, act.eval (.func f) = .func (.func f) #[] #[] := fun _ => rfl
      generalize act.eval = ρ at *
      replace h1 : ρ (.tmp 8) = .pointer (some ⟨p, 0, none⟩) := h1
      refine gx_gen (fun K hK => ?_)
      obtain ⟨hc, hf'⟩ := bcell (bdrewn hw'.out)
      go_simp
      exact hK _ _ ⟨rfl, Gr.refl _⟩
    refine ⟨opOK_rx [(9, some 2)] (by kernel_rfl) rfl ?_, ?_⟩
    · intro act w' hw' h1
      have hk : ∀ v, act.eval (.const v) = v := fun _ => rfl
      have hf : ∀ f, act.eval (.func f) = .func (.func f) #[] #[] := fun _ => rfl
      generalize act.eval = ρ at *
      replace h1 : ρ (.tmp 9) = .pointer (some ⟨p, 0, none⟩) := h1
      refine gx_gen (fun K hK => ?_)
      obtain ⟨hc, hf'⟩ := bcell (bdrewn hw'.out)
      go_simp
      exact hK _ _ ⟨rfl, Gr.refl _⟩
    refine ⟨opOK_rx [(10, some 3)] (by kernel_rfl) rfl ?_, ?_⟩
    · intro act w' hw' h1
      have hk : ∀ v, act.eval (.const v) = v := fun _ => rfl
      have hf : ∀ f, act.eval (.func f) = .func (.func f) #[] #[] := fun _ => rfl
      generalize act.eval = ρ at *
      replace h1 : ρ (.tmp 10) = .slice (some ⟨g1, 0, none⟩) S.length q1 := h1
      refine gx_gen (fun K hK => ?_)
      obtain ⟨hc, hf'⟩ := bcell (bdrewn hw'.out)
      go_simp
      exact hK _ _ ⟨rfl, Gr.refl _⟩
    refine ⟨opOK_rx [(11, some 4)] (by kernel_rfl) rfl ?_, ?_⟩
    · intro act w' hw' h1
      have hk : ∀ v, act.eval (.const v) = v := fun _ => rfl
      have hf : ∀ f, act.eval (.func f) = .func (.func f) #[] #[] := fun _ => rfl
      generalize act.eval = ρ at *
      replace h1 : ρ (.tmp 11) = .int .i64 S.length := h1
      refine gx_gen (fun K hK => ?_)
      obtain ⟨hc, hf'⟩ := bcell (bdrewn hw'.out)
      go_simp
      exact hK _ _ ⟨rfl, Gr.refl _⟩
    refine ⟨opOK_rx [(1, none)] (by kernel_rfl) rfl ?_, ?_⟩
    · intro act w' hw' h1
      have hk : ∀ v, act.eval (.const v) = v := fun _ => rfl
      have hf : ∀ f, act.eval (.func f) = .func (.func f) #[] #[] := fun _ => rfl
      generalize act.eval = ρ at *
      replace h1 : ρ (.tmp 1) = .int .i64 y := h1
      refine gx_gen (fun K hK => ?_)
      obtain ⟨hc, hf'⟩ := bcell (bdrewn hw'.out)
      go_simp
      exact hK _ _ ⟨rfl, Gr.refl _⟩
    refine ⟨opOK_rx [(0, none)] (by kernel_rfl) rfl ?_, ?_⟩
    · intro act w' hw' h1
      have hk : ∀ v, act.eval (.const v) = v := fun _ => rfl
      have hf : ∀ f, act.eval (.func f) = .func (.func f) #[] #[] := fun _ => rfl
      generalize act.eval = ρ at *
      replace h1 : ρ (.tmp 0) = .pointer (some ⟨p, 0, none⟩) := h1
      refine gx_gen (fun K hK => ?_)
      obtain ⟨hc, hf'⟩ := bcell (bdrewn hw'.out)
      go_simp
      exact hK _ _ ⟨rfl, Gr.refl _⟩
    refine ⟨opOK_rx [(14, some 7)] (by kernel_rfl) rfl ?_, ?_⟩
    · intro act w' hw' h1
      have hk : ∀ v, act.eval (.const v) = v := fun _ => rfl
      have hf : ∀ f, act.eval (.func f) = .func (.func f) #[] #[] := fun _ => rfl
      generalize act.eval = ρ at *
      replace h1 : ρ (.tmp 14) = .pointer (some ⟨p, 0, none⟩) := h1
      refine gx_gen (fun K hK => ?_)
      obtain ⟨hc, hf'⟩ := bcell (bdrewn hw'.out)
      go_simp
      exact hK _ _ ⟨rfl, Gr.refl _⟩
    refine ⟨opOK_rx [(15, some 8)] (by kernel_rfl) rfl ?_, ?_⟩
    · intro act w' hw' h1
      have hk : ∀ v, act.eval (.const v) = v := fun _ => rfl
      have hf : ∀ f, act.eval (.func f) = .func (.func f) #[] #[] := fun _ => rfl
      generalize act.eval = ρ at *
      replace h1 : ρ (.tmp 15) = .pointer (some ⟨p, 0, none⟩) := h1
      refine gx_gen (fun K hK => ?_)
      obtain ⟨hc, hf'⟩ := bcell (bdrewn hw'.out)
      go_simp
      exact hK _ _ ⟨rfl, Gr.refl _⟩
    refine ⟨opOK_rx [(16, some 9)] (by kernel_rfl) rfl ?_, ?_⟩
    · intro act w' hw' h1
      have hk : ∀ v, act.eval (.const v) = v := fun _ => rfl
      have hf : ∀ f, act.eval (.func f) = .func (.func f) #[] #[] := fun _ => rfl
      generalize act.eval = ρ at *
      replace h1 : ρ (.tmp 16) = .pointer (some ⟨p, 0, none⟩) := h1
      refine gx_gen (fun K hK => ?_)
      obtain ⟨hc, hf'⟩ := bcell (bdrewn hw'.out)
      go_simp
      exact hK _ _ ⟨rfl, Gr.refl _⟩
    refine ⟨opOK_rx [(17, some 10)] (by kernel_rfl) rfl ?_, ?_⟩
    · intro act w' hw' h1
      have hk : ∀ v, act.eval (.const v) = v := fun _ => rfl
      have hf : ∀ f, act.eval (.func f) = .func (.func f) #[] #[] := fun _ => rfl
      generalize act.eval = ρ at *
      replace h1 : ρ (.tmp 17) = .slice (some ⟨g1, 0, none⟩) S.length q1 := h1
      refine gx_gen (fun K hK => ?_)
      obtain ⟨hc, hf'⟩ := bcell (bdrewn hw'.out)
      go_simp
      (with_reducible refine (sum_v (some ⟨g1, 0, none⟩) q1 S _ (HO1.out.nv.keep (bdrewn hw'.out)) (by omega) HSM.out).mono ?_); rintro e w2 ⟨rfl, rfl⟩; exact ⟨_, rfl, hK _ _ ⟨rfl, Gr.refl _⟩⟩
    refine ⟨opOK_rx [(13, some 6), (18, some 11)] (by kernel_rfl) rfl ?_, ?_⟩
    · intro act w' hw' h1 h2
      have hk : ∀ v, act.eval (.const v) = v := fun _ => rfl
      have hf : ∀ f, act.eval (.func f) = .func (.func f) #[] #[] := fun _ => rfl
      generalize act.eval = ρ at *
      replace h1 : ρ (.tmp 13) = .int .i64 y := h1
      replace h2 : ρ (.tmp 18) = .int .i64 (sumI S) := h2
      refine gx_gen (fun K hK => ?_)
      obtain ⟨hc, hf'⟩ := bcell (bdrewn hw'.out)
      go_simp
      exact hK _ _ ⟨rfl, Gr.refl _⟩
    refine ⟨opOK_rx [(12, some 5)] (by kernel_rfl) rfl ?_, ?_⟩
    · intro act w' hw' h1
      have hk : ∀ v, act.eval (.const v) = v := fun _ => rfl
      have hf : ∀ f, act.eval (.func f) = .func (.func f) #[] #[] := fun _ => rfl
      generalize act.eval = ρ at *
      replace h1 : ρ (.tmp 12) = .int .i64 j := h1
      refine gx_gen (fun K hK => ?_)
      obtain ⟨hc, hf'⟩ := bcell (bdrewn hw'.out)
      go_simp
      exact hK _ _ ⟨rfl, Gr.refl _⟩
    refine ⟨opOK_rx [(19, some 12)] (by kernel_rfl) rfl ?_, ?_⟩
    · intro act w' hw' h1
      have hk : ∀ v, act.eval (.const v) = v := fun _ => rfl
      have hf : ∀ f, act.eval (.func f) = .func (.func f) #[] #[] := fun _ => rfl
      generalize act.eval = ρ at *
      replace h1 : ρ (.tmp 19) = .int .i64 n := h1
      refine gx_gen (fun K hK => ?_)
      obtain ⟨hc, hf'⟩ := bcell (bdrewn hw'.out)
      go_simp
      exact hK _ _ ⟨rfl, Gr.refl _⟩
    exact trivial
  case hfin =>
    intro w1 hg1
    intro v7 t7
    replace t7 : v7 = .pointer (some ⟨p, 0, none⟩) := t7
    subst t7
    intro v8 t8
    replace t8 : v8 = .pointer (some ⟨p, 0, none⟩) := t8
    subst t8
    intro v9 t9
    replace t9 : v9 = .pointer (some ⟨p, 0, none⟩) := t9
    subst t9
    intro v10 t10
    replace t10 : v10 = .slice (some ⟨g1, 0, none⟩) S.length q1 := t10
    subst t10
    intro v11 t11
    replace t11 : v11 = .int .i64 S.length := t11
    subst t11
    intro v12 t12
    replace t12 : v12 = .int .i64 j := t12
    subst t12
    intro v13 t13
    replace t13 : v13 = .int .i64 y := t13
    subst t13
    intro v14 t14
    replace t14 : v14 = .pointer (some ⟨p, 0, none⟩) := t14
    subst t14
    intro v15 t15
    replace t15 : v15 = .pointer (some ⟨p, 0, none⟩) := t15
    subst t15
    intro v16 t16
    replace t16 : v16 = .pointer (some ⟨p, 0, none⟩) := t16
    subst t16
    intro v17 t17
    replace t17 : v17 = .slice (some ⟨g1, 0, none⟩) S.length q1 := t17
    subst t17
    intro v18 t18
    replace t18 : v18 = .int .i64 (sumI S) := t18
    subst t18
    intro v19 t19
    replace t19 : v19 = .int .i64 n := t19
    subst t19
    intro v5 t5
    replace t5 : v5 = .int .i64 j := t5
    subst t5
    intro v6 t6
    replace t6 : v6 = .int .i64 n := t6
    subst t6
    have hb1 := bdrewn hg1.out
    clear hg1
    simp only [finP, List.take_succ_cons, List.take_zero, Act.put, List.setIfInBounds_toArray, List.set_cons_succ, List.set_cons_zero]
    refine wpAny_end (by kernel_rfl) ?_
    refine NoPan.thn ?_
    replace HP := Lib.hid ((hb1.block p (ltS HP.out)).trans HP.out)
    replace HO1 := Lib.hid (HO1.out.keep hb1)
    replace HO2 := Lib.hid (HO2.out.keep hb1)
    have HB1 := Lib.hid hb1
    clear hb1 k0
    have k0 : w1.cell? ⟨p, 0, none⟩ = some (.slice (some ⟨g1, 0, none⟩) S.length q1) := (cellS HP.out 0).trans rfl
    go_wp2_with fail
    with_reducible refine (HTK.out _ HP.out HO1.out HO2.out).mono ?_
    rintro e w2 ⟨rfl, ho, hg⟩
    have HG := Lib.hid (gby_trans HB1.out hg)
    clear HTK ho hg k0
    have kg : w2.cell? ⟨0, 0, none⟩ = some (.iface 106 (.pointer (some a))) := (World.cell?_of_block (HG.out.block 0 hzs (fun e => absurd (Option.some.inj e) (by omega)))).trans H0.out
    go_wp2
    go_ret
    exact ⟨rfl, HG.out⟩
set_option maxRecDepth 100000 in
theorem ResizePanes_no (A A' : Option Addr) (c c' : Nat) (S M : List Int) (y : Int) (w : World) (h : NV w A S) (h' : NV w A' M) (hm : M.length ≤ 1048576) (hL : S.length ≤ 1048576) (hv : ¬ pnP S M ∨ (pnP S M ∧ rng y 0 400 = false)) : Calls Tryd.prog 13 #[.agg #[.slice A S.length c, .slice A' M.length c'], .int .i64 y] w fun e w' => e = .returned (.tuple #[.agg #[.slice none 0 0, .slice none 0 0], .bool false]) ∧ Below w.heap.size w w' := by
  rcases hv with hv | ⟨hv, hy⟩
  · go_enter Tryd.func13, Tryd.ntmps13
    go_upto_region 1 with (fail)
    refine wp_P (fun W => W.heap[w.heap.size]? = some (.cells #[.slice A S.length c, .slice A' M.length c'] 35 (0, 0)) ∧ W.heap[w.heap.size + 1]? = some (.cells #[.slice none 0 0, .slice none 0 0] 35 (0, 0)) ∧ NV W A S ∧ NV W A' M ∧ Below w.heap.size w W) ⟨oldP _ _ _, newP _ _ _, h.keep (balloc (balloc (Below.refl _ _))), h'.keep (balloc (balloc (Below.refl _ _))), balloc (balloc (Below.refl _ _))⟩ ?_
    clear h h'
    rintro w0 ⟨hx, hz, hn, hn', hB⟩
    have HX := Lib.hid hx
    have HZ := Lib.hid hz
    have HN := Lib.hid hn
    have HN' := Lib.hid hn'
    have HB := Lib.hid hB
    obtain ⟨c0, c1⟩ := c2P hx
    obtain ⟨d0, d1⟩ := c2P hz
    obtain ⟨g0, g1⟩ := f2P hz
    clear hx hz hn hn' hB
    go_wp2_with fail
    with_reducible refine (ValidPanes_v _ _ _ _ _ _ S M false _ HN.out HN'.out rfl rfl hL hm (by simp [hv])).mono ?_
    rintro e w1 ⟨rfl, hb⟩
    clear c0 c1 d0 d1 g0 g1
    replace HX := Lib.hid ((hb.block _ (ltS HX.out)).trans HX.out)
    replace HZ := Lib.hid ((hb.block _ (ltS HZ.out)).trans HZ.out)
    replace HN := Lib.hid (HN.out.keep hb)
    replace HN' := Lib.hid (HN'.out.keep hb)
    replace HB := Lib.hid (bkeep2 HB.out hb)
    clear hb
    obtain ⟨c0, c1⟩ := c2P HX.out
    obtain ⟨d0, d1⟩ := c2P HZ.out
    obtain ⟨g0, g1⟩ := f2P HZ.out
    go_wp2
    refine bpP (fun W => W.heap[w.heap.size + 1]? = some (.cells #[.slice none 0 0, .slice none 0 0] 35 (0, 0)) ∧ Below w.heap.size w W) ⟨put2P HZ.out _ _, put2B HB.out (by omega) _ _⟩ ?_
    clear HX HZ HB HN HN' c0 c1 d0 d1 g0 g1
    rintro W ⟨hz, hB⟩
    obtain ⟨d0, d1⟩ := c2P hz
    exact bodyPost_ret (v := .tuple #[.agg #[.slice none 0 0, .slice none 0 0], .bool false]) (by simp only [results, Tryd.results13]; go_simp) rfl ⟨rfl, hB⟩
  · go_enter Tryd.func13, Tryd.ntmps13
    go_upto_region 1 with (fail)
    refine wp_P (fun W => W.heap[w.heap.size]? = some (.cells #[.slice A S.length c, .slice A' M.length c'] 35 (0, 0)) ∧ W.heap[w.heap.size + 1]? = some (.cells #[.slice none 0 0, .slice none 0 0] 35 (0, 0)) ∧ NV W A S ∧ NV W A' M ∧ Below w.heap.size w W) ⟨oldP _ _ _, newP _ _ _, h.keep (balloc (balloc (Below.refl _ _))), h'.keep (balloc (balloc (Below.refl _ _))), balloc (balloc (Below.refl _ _))⟩ ?_
    clear h h'
    rintro w0 ⟨hx, hz, hn, hn', hB⟩
    have HX := Lib.hid hx
    have HZ := Lib.hid hz
    have HN := Lib.hid hn
    have HN' := Lib.hid hn'
    have HB := Lib.hid hB
    obtain ⟨c0, c1⟩ := c2P hx
    obtain ⟨d0, d1⟩ := c2P hz
    obtain ⟨g0, g1⟩ := f2P hz
    clear hx hz hn hn' hB
    go_wp2_with fail
    with_reducible refine (ValidPanes_v _ _ _ _ _ _ S M true _ HN.out HN'.out rfl rfl hL hm (by simp [hv])).mono ?_
    rintro e w1 ⟨rfl, hb⟩
    clear c0 c1 d0 d1 g0 g1
    replace HX := Lib.hid ((hb.block _ (ltS HX.out)).trans HX.out)
    replace HZ := Lib.hid ((hb.block _ (ltS HZ.out)).trans HZ.out)
    replace HN := Lib.hid (HN.out.keep hb)
    replace HN' := Lib.hid (HN'.out.keep hb)
    replace HB := Lib.hid (bkeep2 HB.out hb)
    clear hb
    obtain ⟨c0, c1⟩ := c2P HX.out
    obtain ⟨d0, d1⟩ := c2P HZ.out
    obtain ⟨g0, g1⟩ := f2P HZ.out
    go_wp2_with fail
    with_reducible refine (within_PB _ _ _ false _ hy).mono ?_
    rintro e w1 ⟨rfl, hb⟩
    clear c0 c1 d0 d1 g0 g1
    replace HX := Lib.hid ((hb.block _ (ltS HX.out)).trans HX.out)
    replace HZ := Lib.hid ((hb.block _ (ltS HZ.out)).trans HZ.out)
    replace HN := Lib.hid (HN.out.keep hb)
    replace HN' := Lib.hid (HN'.out.keep hb)
    replace HB := Lib.hid (bkeep2 HB.out hb)
    clear hb
    obtain ⟨c0, c1⟩ := c2P HX.out
    obtain ⟨d0, d1⟩ := c2P HZ.out
    obtain ⟨g0, g1⟩ := f2P HZ.out
    go_wp2
    refine bpP (fun W => W.heap[w.heap.size + 1]? = some (.cells #[.slice none 0 0, .slice none 0 0] 35 (0, 0)) ∧ Below w.heap.size w W) ⟨put2P HZ.out _ _, put2B HB.out (by omega) _ _⟩ ?_
    clear HX HZ HB HN HN' c0 c1 d0 d1 g0 g1
    rintro W ⟨hz, hB⟩
    obtain ⟨d0, d1⟩ := c2P hz
    exact bodyPost_ret (v := .tuple #[.agg #[.slice none 0 0, .slice none 0 0], .bool false]) (by simp only [results, Tryd.results13]; go_simp) rfl ⟨rfl, hB⟩
set_option maxRecDepth 100000 in
theorem ResizePanes_yes (A A' : Option Addr) (c c' : Nat) (S M : List Int) (y : Int) (w : World) (h : NV w A S) (h' : NV w A' M) (hm : M.length ≤ 1048576) (hL : S.length ≤ 1048576) (hv : pnP S M) (hy : rng y 0 400 = true) (ht : resB S M y = true) (a : Addr) (h0 : w.cell? ⟨0, 0, none⟩ = some (.iface 106 (.pointer (some a)))) : Calls Tryd.prog 13 #[.agg #[.slice A S.length c, .slice A' M.length c'], .int .i64 y] w fun e w' => (∃ v, e = .returned (.tuple #[v, .bool true]) ∧ PS w.heap.size w'.heap.size w' v (resM S M y) M) ∧ Below w.heap.size w w' := by
  have hyb := rng_iff.1 hy
  have HP := Lib.hid hv
  have HLEN := Lib.hid (res_spec hv hyb).len
  have hzs : 0 < w.heap.size := World.block_lt_of_cell? _ _ h0
  have H0 := Lib.hid h0
  clear hv h0
  go_enter Tryd.func13, Tryd.ntmps13
  go_upto_region 1 with (fail)
  refine wp_P (fun W => W.heap[w.heap.size]? = some (.cells #[.slice A S.length c, .slice A' M.length c'] 35 (0, 0)) ∧ W.heap[w.heap.size + 1]? = some (.cells #[.slice none 0 0, .slice none 0 0] 35 (0, 0)) ∧ NV W A S ∧ NV W A' M ∧ Below w.heap.size w W) ⟨oldP _ _ _, newP _ _ _, h.keep (balloc (balloc (Below.refl _ _))), h'.keep (balloc (balloc (Below.refl _ _))), balloc (balloc (Below.refl _ _))⟩ ?_
  clear h h'
  rintro w0 ⟨hx, hz, hn, hn', hB⟩
  have HX := Lib.hid hx
  have HZ := Lib.hid hz
  have HN := Lib.hid hn
  have HN' := Lib.hid hn'
  have HB := Lib.hid hB
  obtain ⟨c0, c1⟩ := c2P hx
  obtain ⟨d0, d1⟩ := c2P hz
  obtain ⟨g0, g1⟩ := f2P hz
  clear hx hz hn hn' hB
  go_wp2_with fail
  with_reducible refine (ValidPanes_v _ _ _ _ _ _ S M true _ HN.out HN'.out rfl rfl hL hm (by simp [HP.out])).mono ?_
  rintro e w1 ⟨rfl, hb⟩
  clear c0 c1 d0 d1 g0 g1
  replace HX := Lib.hid ((hb.block _ (ltS HX.out)).trans HX.out)
  replace HZ := Lib.hid ((hb.block _ (ltS HZ.out)).trans HZ.out)
  replace HN := Lib.hid (HN.out.keep hb)
  replace HN' := Lib.hid (HN'.out.keep hb)
  replace HB := Lib.hid (bkeep2 HB.out hb)
  clear hb
  obtain ⟨c0, c1⟩ := c2P HX.out
  obtain ⟨d0, d1⟩ := c2P HZ.out
  obtain ⟨g0, g1⟩ := f2P HZ.out
  go_wp2_with fail
  with_reducible refine (within_PB _ _ _ true _ hy).mono ?_
  rintro e w1 ⟨rfl, hb⟩
  clear c0 c1 d0 d1 g0 g1
  replace HX := Lib.hid ((hb.block _ (ltS HX.out)).trans HX.out)
  replace HZ := Lib.hid ((hb.block _ (ltS HZ.out)).trans HZ.out)
  replace HN := Lib.hid (HN.out.keep hb)
  replace HN' := Lib.hid (HN'.out.keep hb)
  replace HB := Lib.hid (bkeep2 HB.out hb)
  clear hb
  obtain ⟨c0, c1⟩ := c2P HX.out
  obtain ⟨d0, d1⟩ := c2P HZ.out
  obtain ⟨g0, g1⟩ := f2P HZ.out
  clear c0 c1 d0 d1 g0 g1
  go_wp2_with fail
  with_reducible refine (detach_v w.heap.size A A' c c' S M _ HX.out HN.out HN'.out (by have := HP.out.one; omega) (by have := HP.out.len; have := HP.out.one; omega) hL hm).mono ?_
  rintro e w2 ⟨⟨x, rfl⟩, v1, v2, hx, ⟨b1, q1, b2, q2, rfl, rfl, hb1, hb12, o1, o2⟩, hg⟩
  have hz := (hg.block _ (ltS HZ.out) (fun e => absurd (Option.some.inj e) (by omega))).trans HZ.out
  have hB := below_gP HB.out hg (Nat.le_refl _)
  have l2 := ltS hz
  have l3 : w.heap.size + 1 < w1.heap.size := ltS HZ.out
  have hbne : b1 ≠ b2 := by omega
  replace HX := Lib.hid hx
  replace HZ := Lib.hid hz
  replace HB := Lib.hid hB
  have HO2 := Lib.hid o2
  have HO1 := Lib.hid o1
  clear hx hz hB o1 o2 hg HN HN'
  go_wp2_with fail
  with_reducible refine (resize_yes w.heap.size b1 q1 b2 q2 S M y _ HX.out HO1.out HO2.out (by omega) (by omega) hbne HP.out hyb ht).mono ?_
  rintro e w3 ⟨rfl, o1, hg⟩
  replace HX := Lib.hid ((hg.block _ (ltS HX.out) (fun e => absurd (Option.some.inj e) (by omega))).trans HX.out)
  replace HZ := Lib.hid ((hg.block _ (ltS HZ.out) (fun e => absurd (Option.some.inj e) (by omega))).trans HZ.out)
  replace HO2 := Lib.hid (HO2.out.other hg (Ne.symm hbne))
  replace HB := Lib.hid (below_gP HB.out hg (by omega))
  replace HO1 := Lib.hid o1
  clear o1 hg
  obtain ⟨c0, c1⟩ := c2P HX.out
  obtain ⟨d0, d1⟩ := c2P HZ.out
  obtain ⟨g0, g1⟩ := f2P HZ.out
  have kg : w3.cell? ⟨0, 0, none⟩ = some (.iface 106 (.pointer (some a))) := (World.cell?_of_block (HB.out.block 0 hzs)).trans H0.out
  go_wp2_with fail
  with_reducible refine (is_nil a _).mono ?_
  rintro e w4 ⟨rfl, rfl⟩
  go_wp2
  refine bpP (fun W => W.heap[w.heap.size + 1]? = some (.cells #[.slice (some ⟨b1, 0, none⟩) S.length q1, .slice (some ⟨b2, 0, none⟩) M.length q2] 35 (0, 0)) ∧ OB W b1 q1 (resM S M y) ∧ OB W b2 q2 M ∧ Below w.heap.size w W) ⟨put2P HZ.out _ _, HO1.out.sameh (put2o (by omega) _ _), HO2.out.sameh (put2o (by omega) _ _), put2B HB.out (by omega) _ _⟩ ?_
  clear HX HZ HB c0 c1 d0 d1 g0 g1 HO1 HO2
  rintro W ⟨hz, o1, o2, hB⟩
  obtain ⟨d0, d1⟩ := c2P hz
  exact bodyPost_ret (v := .tuple #[.agg #[.slice (some ⟨b1, 0, none⟩) S.length q1, .slice (some ⟨b2, 0, none⟩) M.length q2], .bool true]) (by simp only [results, Tryd.results13]; go_simp) rfl ⟨⟨_, rfl, .inr ⟨b1, q1, b2, q2, by rw [HLEN.out], by omega, o1.lt, by omega, o2.lt, hbne, o1, o2⟩⟩, hB⟩
set_option maxRecDepth 100000 in
theorem ResizePanes_full (A A' : Option Addr) (c c' : Nat) (S M : List Int) (y : Int) (w : World) (h : NV w A S) (h' : NV w A' M) (hm : M.length ≤ 1048576) (hL : S.length ≤ 1048576) (hv : pnP S M) (hy : rng y 0 400 = true) (ht : resB S M y = false) (a : Addr) (h0 : w.cell? ⟨0, 0, none⟩ = some (.iface 106 (.pointer (some a)))) : Calls Tryd.prog 13 #[.agg #[.slice A S.length c, .slice A' M.length c'], .int .i64 y] w fun e w' => e = .returned (.tuple #[.agg #[.slice none 0 0, .slice none 0 0], .bool false]) ∧ Below w.heap.size w w' := by
  have hyb := rng_iff.1 hy
  have HP := Lib.hid hv
  have hzs : 0 < w.heap.size := World.block_lt_of_cell? _ _ h0
  have H0 := Lib.hid h0
  clear hv h0
  go_enter Tryd.func13, Tryd.ntmps13
  go_upto_region 1 with (fail)
  refine wp_P (fun W => W.heap[w.heap.size]? = some (.cells #[.slice A S.length c, .slice A' M.length c'] 35 (0, 0)) ∧ W.heap[w.heap.size + 1]? = some (.cells #[.slice none 0 0, .slice none 0 0] 35 (0, 0)) ∧ NV W A S ∧ NV W A' M ∧ Below w.heap.size w W) ⟨oldP _ _ _, newP _ _ _, h.keep (balloc (balloc (Below.refl _ _))), h'.keep (balloc (balloc (Below.refl _ _))), balloc (balloc (Below.refl _ _))⟩ ?_
  clear h h'
  rintro w0 ⟨hx, hz, hn, hn', hB⟩
  have HX := Lib.hid hx
  have HZ := Lib.hid hz
  have HN := Lib.hid hn
  have HN' := Lib.hid hn'
  have HB := Lib.hid hB
  obtain ⟨c0, c1⟩ := c2P hx
  obtain ⟨d0, d1⟩ := c2P hz
  obtain ⟨g0, g1⟩ := f2P hz
  clear hx hz hn hn' hB
  go_wp2_with fail
  with_reducible refine (ValidPanes_v _ _ _ _ _ _ S M true _ HN.out HN'.out rfl rfl hL hm (by simp [HP.out])).mono ?_
  rintro e w1 ⟨rfl, hb⟩
  clear c0 c1 d0 d1 g0 g1
  replace HX := Lib.hid ((hb.block _ (ltS HX.out)).trans HX.out)
  replace HZ := Lib.hid ((hb.block _ (ltS HZ.out)).trans HZ.out)
  replace HN := Lib.hid (HN.out.keep hb)
  replace HN' := Lib.hid (HN'.out.keep hb)
  replace HB := Lib.hid (bkeep2 HB.out hb)
  clear hb
  obtain ⟨c0, c1⟩ := c2P HX.out
  obtain ⟨d0, d1⟩ := c2P HZ.out
  obtain ⟨g0, g1⟩ := f2P HZ.out
  go_wp2_with fail
  with_reducible refine (within_PB _ _ _ true _ hy).mono ?_
  rintro e w1 ⟨rfl, hb⟩
  clear c0 c1 d0 d1 g0 g1
  replace HX := Lib.hid ((hb.block _ (ltS HX.out)).trans HX.out)
  replace HZ := Lib.hid ((hb.block _ (ltS HZ.out)).trans HZ.out)
  replace HN := Lib.hid (HN.out.keep hb)
  replace HN' := Lib.hid (HN'.out.keep hb)
  replace HB := Lib.hid (bkeep2 HB.out hb)
  clear hb
  obtain ⟨c0, c1⟩ := c2P HX.out
  obtain ⟨d0, d1⟩ := c2P HZ.out
  obtain ⟨g0, g1⟩ := f2P HZ.out
  clear c0 c1 d0 d1 g0 g1
  go_wp2_with fail
  with_reducible refine (detach_v w.heap.size A A' c c' S M _ HX.out HN.out HN'.out (by have := HP.out.one; omega) (by have := HP.out.len; have := HP.out.one; omega) hL hm).mono ?_
  rintro e w2 ⟨⟨x, rfl⟩, v1, v2, hx, ⟨b1, q1, b2, q2, rfl, rfl, hb1, hb12, o1, o2⟩, hg⟩
  have hz := (hg.block _ (ltS HZ.out) (fun e => absurd (Option.some.inj e) (by omega))).trans HZ.out
  have hB := below_gP HB.out hg (Nat.le_refl _)
  have l2 := ltS hz
  have l3 : w.heap.size + 1 < w1.heap.size := ltS HZ.out
  have hbne : b1 ≠ b2 := by omega
  replace HX := Lib.hid hx
  replace HZ := Lib.hid hz
  replace HB := Lib.hid hB
  have HO2 := Lib.hid o2
  have HO1 := Lib.hid o1
  clear hx hz hB o1 o2 hg HN HN'
  go_wp2_with fail
  with_reducible refine (resize_no w.heap.size b1 q1 b2 q2 S M y _ HX.out HO1.out HO2.out (by omega) (by omega) hbne HP.out hyb ht a ((World.cell?_of_block (HB.out.block 0 hzs)).trans H0.out) (by omega)).mono ?_
  rintro e w3 ⟨rfl, hg⟩
  replace HX := Lib.hid ((hg.block _ (ltS HX.out) (fun e => absurd (Option.some.inj e) (by omega))).trans HX.out)
  replace HZ := Lib.hid ((hg.block _ (ltS HZ.out) (fun e => absurd (Option.some.inj e) (by omega))).trans HZ.out)
  replace HB := Lib.hid (below_gP HB.out hg (by omega))
  clear hg HO1 HO2
  obtain ⟨c0, c1⟩ := c2P HX.out
  obtain ⟨d0, d1⟩ := c2P HZ.out
  obtain ⟨g0, g1⟩ := f2P HZ.out
  have kg : w3.cell? ⟨0, 0, none⟩ = some (.iface 106 (.pointer (some a))) := (World.cell?_of_block (HB.out.block 0 hzs)).trans H0.out
  go_wp2_with fail
  with_reducible refine (is_same a _).mono ?_
  rintro e w4 ⟨rfl, rfl⟩
  go_wp2
  refine bpP (fun W => W.heap[w.heap.size + 1]? = some (.cells #[.slice none 0 0, .slice none 0 0] 35 (0, 0)) ∧ Below w.heap.size w W) ⟨put2P HZ.out _ _, put2B HB.out (by omega) _ _⟩ ?_
  clear HX HZ HB c0 c1 d0 d1 g0 g1
  rintro W ⟨hz, hB⟩
  obtain ⟨d0, d1⟩ := c2P hz
  exact bodyPost_ret (v := .tuple #[.agg #[.slice none 0 0, .slice none 0 0], .bool false]) (by simp only [results, Tryd.results13]; go_simp) rfl ⟨rfl, hB⟩
end Go.Proofs.YtjdjahckdgbkbaeDoor
end
