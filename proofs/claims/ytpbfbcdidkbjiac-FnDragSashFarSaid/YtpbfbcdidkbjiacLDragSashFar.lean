/- FnDragSashFar: for every code the law returns true. No condition. -/
import Derived.Test.YtpbfbcdidkbjiacQ09
namespace Go.Proofs.Ytpbfbcdidkbjiac.lDragSashFar
open Go.ChangeShapes Go.WideShapes Go.ChangeAt Go.RowKit Go.Joins
set_option linter.unusedVariables false
set_option maxHeartbeats 2000000
attribute [local go_sem 5000] run_mx run_mn
attribute [local go_sem] growUpon_value growUpon_skip growUpon_enter
set_option linter.unusedSimpArgs false
attribute [local go_sem] givesUpon_value givesUpon_skip givesUpon_enter
set_option maxRecDepth 100000 in
theorem walk (A : Option Addr) (n c : Nat) (z : List Int) (w : World) (wz : IsRow .u8 w A n c z) : Calls Try.prog 5 #[.slice A n c] w fun e w' => e = .returned (.bool true) ∧ Below w.heap.size w w' := by
  obtain ⟨hb, hn, hc⟩ := wz.bts
  clear wz
  by_cases hlen : n ≤ 1048576
  · have hl1 : ¬ (1048576 : Int) < n := by omega
    go_enter Try.func5, Try.ntmps5
    go_wp2_with fail
    with_reducible refine (DrawDragSash_any A n c _ hb hn hc).mono ?_
    rintro e w1 ⟨⟨A1, c1, L1, A2, c2, L2, r, y, rfl, v1, v2, l1, l2, l3, l4⟩, hB⟩
    have HX := Lib.hid (newS w1 (.cells #[.slice A1 L1.length c1, .slice A2 L2.length c2] 25))
    have hbb : Below w1.heap.size w1 (w1.alloc (.cells #[.slice A1 L1.length c1, .slice A2 L2.length c2] 25)) := balloc (Below.refl _ _)
    have HV1 := Lib.hid (v1.keep hbb)
    have HV2 := Lib.hid (v2.keep hbb)
    have HB := Lib.hid (balloc (o := (.cells #[.slice A1 L1.length c1, .slice A2 L2.length c2] 25)) hB)
    have k1 : L1.length ≤ 1048576 := by omega
    have k2 : L2.length ≤ 1048576 := by omega
    clear hB hb hn hc v1 v2 hbb
    obtain ⟨t, ht⟩ := vpT L1 L2
    have HT := Lib.hid ht
    clear ht
    by_cases hq : pnP L1 L2 ∧ rng r 0 ((L1.length : Int) - 2) = true ∧ rng y (-400) 400 = true
    · obtain ⟨hv, hr, hy⟩ := hq
      have hr' := rng_iff.1 hr
      have hy' := rng_iff.1 hy
      have hd := drag_spec hv (k := r.toNat) (y := y) (by omega)
      have hlr := hd.len
      have hR0 : 1 ≤ (dragM L1 L2 r.toNat y).length := by have := hv.one; omega
      have hRn : dragM L1 L2 r.toNat y ≠ [] := fun e => by rw [e] at hR0; simp at hR0
      have HI := Lib.hid (fun w h h' => DragSash_nv A1 A2 c1 c2 L1 L2 r y w h h' k2 k1 hv hr hy hRn)
      have HSP := Lib.hid (fun w h h' => sDragSash_pr A1 A2 c1 c2 L1 L2 r y w h h' k2 k1 hv hr hy)
      have HA := Lib.hid (fun w h h' => SashAt_yes A1 A2 c1 c2 L1 L2 r w h h' k2 l3 k1 hv hr)
      have ht := take_all (S := L1) (fun x hx => (hv.mem.1 x hx).1) (r.toNat + 1)
      have hs4 := hv.sum
      clear hRn
      obtain ⟨R, hR⟩ : ∃ R, dragM L1 L2 r.toNat y = R := ⟨_, rfl⟩
      rw [hR] at HI HSP hd hlr hR0
      have hRl : R.length ≤ 1048576 := by omega
      have hr2 : rng r 0 ((R.length : Int) - 2) = true := by rw [hd.len]; exact hr
      have HA2 := Lib.hid (fun (B1 B2 : Option Addr) (e1 e2 : Nat) (w : World) h h' (he : R.length ≤ e1) => SashAt_yes B1 B2 e1 e2 R L2 r w h h' k2 he hRl hd.pn hr2)
      have hup := hd.up
      have hdn := hd.dn
      have hfar := hd.far
      obtain ⟨T, hT⟩ : ∃ T, sumI (L1.take (r.toNat + 1)) = T := ⟨_, rfl⟩
      obtain ⟨T2, hT2⟩ : ∃ T2, sumI (R.take (r.toNat + 1)) = T2 := ⟨_, rfl⟩
      rw [hT] at HA hup hdn hfar ht
      rw [hT2] at HA2 hup hdn hfar
      have wT : IntKind.i64.wrap (T + y) = T + y := IntWalk.i64_in _ (by omega)
      have hml : L2.length = R.length := by rw [hd.pn.len]
      have HF := Lib.hid hfar
      clear hfar
      have HML := Lib.hid hml
      have HR0 := Lib.hid (show 0 ≤ r from hr'.1)
      have hRz : ¬ (R.length : Int) = 0 := by omega
      have hRb : ((R.length : Int) == 0) = false := by simpa using hRz
      clear hR hT hT2 hd hv hr hy hr2 hup hdn hlr hml hr' ht hs4 HT
      obtain ⟨c0, c1'⟩ := c2L HX.out
      go_wp2_with fail
      with_reducible refine (HI.out _ HV1.out HV2.out).mono ?_
      rintro e w2 ⟨⟨B1, e1, B2, e2, rfl, n1, n2, he1, he2⟩, hb⟩
      clear c0 c1'
      replace HX := Lib.hid ((hb.block _ (Array.getElem?_eq_some_iff.1 HX.out).1).trans HX.out)
      replace HV1 := Lib.hid (HV1.out.keep hb)
      replace HV2 := Lib.hid (HV2.out.keep hb)
      replace HB := Lib.hid (bkeep2 HB.out hb)
      clear hb
      have HY := Lib.hid (newS w2 (.cells #[.slice B1 R.length e1, .slice B2 L2.length e2] 25))
      have hb : Below w2.heap.size w2 (w2.alloc (.cells #[.slice B1 R.length e1, .slice B2 L2.length e2] 25)) := balloc (Below.refl _ _)
      have HN1 := Lib.hid (n1.keep hb)
      have HN2 := Lib.hid (n2.keep hb)
      clear n1 n2
      replace HX := Lib.hid ((hb.block _ (Array.getElem?_eq_some_iff.1 HX.out).1).trans HX.out)
      replace HV1 := Lib.hid (HV1.out.keep hb)
      replace HV2 := Lib.hid (HV2.out.keep hb)
      replace HB := Lib.hid (bkeep2 HB.out hb)
      clear hb
      have hlc : w1.heap.size ≤ w2.heap.size := by have := ltS HX.out; simp only [World.size_alloc] at this; omega
      have hld : w1.heap.size < w2.heap.size + 1 := by omega
      have HWV := Lib.hid (show PR _ (.agg #[.slice B1 R.length e1, .slice B2 L2.length e2]) R L2 from ⟨_, _, rfl, nrOf e1 HN1.out, nrOf e2 HN2.out⟩)
      obtain ⟨c0, c1'⟩ := c2L HX.out
      obtain ⟨d0, d1⟩ := c2L HY.out
      have hla := ltS HX.out
      have hlb := ltS HY.out
      go_wp2_with fail
      refine wp_region_rxl 6 7 [(2, 23, 4), (3, 24, 5)] #[true, true, true, true, true, true, false, false, false, false, false, false, false] (by kernel_rfl) (by kernel_rfl) (by kernel_rfl) (XV (.agg #[.slice B1 R.length e1, .slice B2 L2.length e2]) :: XV (.agg #[.slice A1 L1.length c1, .slice A2 L2.length c2]) :: XV (.int .i64 r) :: XV (.int .i64 y) :: (fun v a => PR a v R L2) :: XV (.bool true) :: []) (by kernel_rfl) (by kernel_rfl) (by kernel_rfl) ?hTs ?hXs ?hops ?hfin
      case hTs =>
        intro T hT
        simp only [List.mem_cons, List.not_mem_nil, or_false] at hT
        rcases hT with rfl | rfl | rfl | rfl | rfl | rfl <;> first | exact stay_V _ | exact stay_T | exact stay_of (fun v a b x g => x.keep g) | exact stay_of (fun v a b x g => x)
      case hXs =>
        intro x d s hx
        simp only [List.mem_cons, List.not_mem_nil, or_false, Prod.mk.injEq] at hx
        rcases hx with ⟨rfl, rfl, rfl⟩ | ⟨rfl, rfl, rfl⟩ <;> exact ⟨by omega, rfl⟩
      case hops =>
        refine ⟨opOK_rx [(6, none)] (by kernel_rfl) rfl ?_, ?_⟩
        · intro act w' hw' h1
          have hk : ∀ v, act.eval (.const v) = v := fun _ => rfl
          have hf : ∀ f, act.eval (.func f) = .func (.func f) #[] #[] := fun _ => rfl
          generalize act.eval = ρ at *
          replace h1 : ρ (.tmp 6) = .pointer (some ⟨w2.heap.size, 0, none⟩) := h1
          refine gx_gen (fun K hK => ?_)
          obtain ⟨hc, hf'⟩ := bcell (bdrewn hw'.out)
          go_simp
          exact hK _ _ ⟨rfl, Gr.refl _⟩
        refine ⟨opOK_rx [(3, none)] (by kernel_rfl) rfl ?_, ?_⟩
        · intro act w' hw' h1
          have hk : ∀ v, act.eval (.const v) = v := fun _ => rfl
          have hf : ∀ f, act.eval (.func f) = .func (.func f) #[] #[] := fun _ => rfl
          generalize act.eval = ρ at *
          replace h1 : ρ (.tmp 3) = .pointer (some ⟨w1.heap.size, 0, none⟩) := h1
          refine gx_gen (fun K hK => ?_)
          obtain ⟨hc, hf'⟩ := bcell (bdrewn hw'.out)
          go_simp
          exact hK _ _ ⟨rfl, Gr.refl _⟩
        refine ⟨opOK_rx [(4, none)] (by kernel_rfl) rfl ?_, ?_⟩
        · intro act w' hw' h1
          have hk : ∀ v, act.eval (.const v) = v := fun _ => rfl
          have hf : ∀ f, act.eval (.func f) = .func (.func f) #[] #[] := fun _ => rfl
          generalize act.eval = ρ at *
          replace h1 : ρ (.tmp 4) = .int .i64 r := h1
          refine gx_gen (fun K hK => ?_)
          obtain ⟨hc, hf'⟩ := bcell (bdrewn hw'.out)
          go_simp
          exact hK _ _ ⟨rfl, Gr.refl _⟩
        refine ⟨opOK_rx [(5, none)] (by kernel_rfl) rfl ?_, ?_⟩
        · intro act w' hw' h1
          have hk : ∀ v, act.eval (.const v) = v := fun _ => rfl
          have hf : ∀ f, act.eval (.func f) = .func (.func f) #[] #[] := fun _ => rfl
          generalize act.eval = ρ at *
          replace h1 : ρ (.tmp 5) = .int .i64 y := h1
          refine gx_gen (fun K hK => ?_)
          obtain ⟨hc, hf'⟩ := bcell (bdrewn hw'.out)
          go_simp
          exact hK _ _ ⟨rfl, Gr.refl _⟩
        refine ⟨opOK_rx [(22, some 1), (23, some 2), (24, some 3)] (by kernel_rfl) rfl ?_, ?_⟩
        · intro act w' hw' h1 h2 h3
          have hk : ∀ v, act.eval (.const v) = v := fun _ => rfl
          have hf : ∀ f, act.eval (.func f) = .func (.func f) #[] #[] := fun _ => rfl
          generalize act.eval = ρ at *
          replace h1 : ρ (.tmp 22) = .agg #[.slice A1 L1.length c1, .slice A2 L2.length c2] := h1
          replace h2 : ρ (.tmp 23) = .int .i64 r := h2
          replace h3 : ρ (.tmp 24) = .int .i64 y := h3
          refine gx_gen (fun K hK => ?_)
          obtain ⟨hc, hf'⟩ := bcell (bdrewn hw'.out)
          go_simp
          (with_reducible refine (HSP.out _ (HV1.out.keep (bdrewn hw'.out)) (HV2.out.keep (bdrewn hw'.out))).mono ?_); rintro e w2 ⟨⟨v, rfl, hv⟩, hb⟩; exact ⟨v, rfl, hK _ _ ⟨hv, Gr.of hb⟩⟩
        refine ⟨opOK_rx [(21, some 0), (25, some 4)] (by kernel_rfl) rfl ?_, ?_⟩
        · intro act w' hw' h1 h2
          have hk : ∀ v, act.eval (.const v) = v := fun _ => rfl
          have hf : ∀ f, act.eval (.func f) = .func (.func f) #[] #[] := fun _ => rfl
          generalize act.eval = ρ at *
          replace h1 : ρ (.tmp 21) = .agg #[.slice B1 R.length e1, .slice B2 L2.length e2] := h1
          replace h2 : (fun v a => PR a v R L2) (ρ (.tmp 25)) w' := h2
          refine gx_gen (fun K hK => ?_)
          obtain ⟨hc, hf'⟩ := bcell (bdrewn hw'.out)
          go_simp
          (with_reducible refine (equalPanes_same _ _ R L2 _ (HWV.out.keep (bdrewn hw'.out)) h2 hRl k2).mono ?_); rintro e w2 ⟨rfl, hb⟩; exact ⟨_, rfl, hK _ _ ⟨rfl, Gr.of hb⟩⟩
        exact trivial
      case hfin =>
        intro w5 hg5
        intro v21 t21
        replace t21 : v21 = .agg #[.slice B1 R.length e1, .slice B2 L2.length e2] := t21
        subst t21
        intro v22 t22
        replace t22 : v22 = .agg #[.slice A1 L1.length c1, .slice A2 L2.length c2] := t22
        subst t22
        intro v23 t23
        replace t23 : v23 = .int .i64 r := t23
        subst t23
        intro v24 t24
        replace t24 : v24 = .int .i64 y := t24
        subst t24
        intro v25 t25
        replace t25 : (fun v a => PR a v R L2) v25 w5 := t25
        intro v26 t26
        replace t26 : v26 = .bool true := t26
        subst t26
        have hb5 := bdrewn hg5.out
        clear hg5
        simp only [finP, List.take_succ_cons, List.take_zero, Act.put, List.setIfInBounds_toArray, List.set_cons_succ, List.set_cons_zero]
        clear t25
        have hb := hb5
        clear hb5 c0 c1' d0 d1 hla hlb HWV
        replace HX := Lib.hid ((hb.block _ (Array.getElem?_eq_some_iff.1 HX.out).1).trans HX.out)
        replace HY := Lib.hid ((hb.block _ (Array.getElem?_eq_some_iff.1 HY.out).1).trans HY.out)
        replace HV1 := Lib.hid (HV1.out.keep hb)
        replace HV2 := Lib.hid (HV2.out.keep hb)
        replace HN1 := Lib.hid (HN1.out.keep hb)
        replace HN2 := Lib.hid (HN2.out.keep hb)
        replace HB := Lib.hid (bkeep2 HB.out hb)
        clear hb
        obtain ⟨c0, c1'⟩ := c2L HX.out
        obtain ⟨d0, d1⟩ := c2L HY.out
        have hla := ltS HX.out
        have hlb := ltS HY.out
        refine wpAny_one (i := 6) (by kernel_rfl) rfl rfl ?_
        go_simp
        refine wpAny_one (i := 7) (by kernel_rfl) rfl rfl ?_
        go_simp
        refine wpAny_oneG (i := 8) (by kernel_rfl) rfl rfl ?_
        go_simp
        refine wpAny_oneG (i := 9) (by kernel_rfl) rfl rfl ?_
        go_simp
        refine wpAny_oneG (i := 10) (by kernel_rfl) rfl rfl ?_
        go_simp
        refine wpAny_oneG (i := 11) (by kernel_rfl) rfl rfl ?_
        go_simp
        refine wpAny_one (i := 12) (by kernel_rfl) rfl rfl ?_
        go_simp
        refine wpAny_end (by kernel_rfl) ?_
        refine NoPan.thn ?_
        clear c0 c1' d0 d1 hla hlb
        obtain ⟨c0, c1'⟩ := c2L HX.out
        obtain ⟨d0, d1⟩ := c2L HY.out
        have hla := ltS HX.out
        have hlb := ltS HY.out
        go_wp2_with fail
        refine wp_region_grow 9 0 (· < 9) (by kernel_rfl) (by kernel_rfl) rfl ?_
        iterate 9 (refine wpG_step (fun K hK => ?_); first | (refine grow_skip rfl ?_; go_simp; refine hK _ ?_; clear hK K) | (apply Exists.intro; refine ⟨.inl ⟨rfl, fun w' hw' => ?_⟩, ?_⟩; (focus ((obtain ⟨hc, hf⟩ := bcell hw'.out); (have hcS := bcellS hw'.out); go_simp <;> first | rfl | (go_at_call 17; first | (with_reducible refine (HA2.out _ _ _ _ _ (HN1.out.keep (bdrewn hw'.out)) (HN2.out.keep (bdrewn hw'.out)) he1).mono ?_; first | exact fun e w'' h => ⟨h.1, Gr.of h.2⟩ | exact fun e w'' h => h) | (with_reducible refine (HA.out _ (HV1.out.keep (bdrewn hw'.out)) (HV2.out.keep (bdrewn hw'.out))).mono ?_; first | exact fun e w'' h => ⟨h.1, Gr.of h.2⟩ | exact fun e w'' h => h)))); (go_simp; refine hK _ ?_; clear hK K)))
        refine wpG_nil ?_
        refine wpK_tail (by kernel_rfl) (fun w7 hg7 => ?_)
        have hb7 := bdrewn hg7.out
        refine wpAny_end (by kernel_rfl) ?_
        refine NoPan.thn ?_
        clear hg7
        have hb := hb7
        clear hb7 c0 c1' d0 d1 hla hlb
        replace HX := Lib.hid ((hb.block _ (Array.getElem?_eq_some_iff.1 HX.out).1).trans HX.out)
        replace HY := Lib.hid ((hb.block _ (Array.getElem?_eq_some_iff.1 HY.out).1).trans HY.out)
        replace HV1 := Lib.hid (HV1.out.keep hb)
        replace HV2 := Lib.hid (HV2.out.keep hb)
        replace HN1 := Lib.hid (HN1.out.keep hb)
        replace HN2 := Lib.hid (HN2.out.keep hb)
        replace HB := Lib.hid (bkeep2 HB.out hb)
        clear hb
        obtain ⟨bq, hbq⟩ : ∃ bq, (T2 == T + y) = bq := ⟨_, rfl⟩
        rw [hbq]
        cases bq
        case true =>
          clear hbq
          go_wp2
          go_ret
          exact ⟨rfl, HB.out⟩
        have qe : T2 ≠ T + y := by simpa using hbq
        clear hbq
        obtain ⟨hy0, hall⟩ := HF.out qe
        have HALL := Lib.hid hall
        have hyc : (decide (y > 0) = true ∧ decide (y < 0) = false ∧ 0 < y) ∨ (decide (y > 0) = false ∧ decide (y < 0) = true ∧ y < 0) := by
          by_cases h : 0 < y
          · exact .inl ⟨by simpa using h, by simp; omega, h⟩
          · exact .inr ⟨by simpa using h, by simp; omega, by omega⟩
        have HYC := Lib.hid hyc
        have HYB := Lib.hid (show (y != 0) = true by simpa using hy0)
        clear hyc hy0 hall qe HF HI HSP HA HA2
        obtain ⟨d0, d1⟩ := c2L HY.out
        go_wp2_with fail
        clear d0 d1
        go_loopw [7] (fun i wr => ∃ k : Nat, k ≤ R.length ∧ i = .int .i64 k ∧ Below w7.heap.size w7 wr) (fun i _ => R.length - (intOf i).toNat)
        case atStart => exact ⟨0, by omega, rfl, Below.refl _ _⟩
        case round =>
          obtain ⟨k, hk, rfl, hBr⟩ := hrel
          have HBR := Lib.hid hBr
          have HYr := Lib.hid ((hBr.block _ (ltS HY.out)).trans HY.out)
          have HM1 := Lib.hid (HN1.out.keep hBr)
          have HM2 := Lib.hid (HN2.out.keep hBr)
          have hlb := ltS HYr.out
          obtain ⟨d0, d1⟩ := c2L HYr.out
          clear hBr
          by_cases hlt : k < R.length
          · have hd : decide ((k : Int) < (R.length : Int)) = true := by simpa using hlt
            have hki : ((k : Int) > r) = (r.toNat < k) := by
              have := HR0.out
              exact propext ⟨fun h => by omega, fun h => by omega⟩
            have h5 := HALL.out k hlt
            have hm := HML.out
            have HH := Lib.hid hki
            clear hki
            have hyc := HYC.out
            rcases hyc with ⟨p1, p2, p3⟩ | ⟨p1, p2, p3⟩
            · by_cases q : r.toNat < k
              · have p4 : decide ((k : Int) > r) = true := by simpa only [HH.out, decide_eq_true_eq] using q
                have h6 := h5 (.inl ⟨p3, q⟩)
                clear h5 q p3
                have hget : R[k]? = some R[k] := List.getElem?_eq_getElem hlt
                rw [hget] at h6
                have hk2 : k < L2.length := by omega
                obtain ⟨b, off, rfl, hb, hp⟩ := HM1.out.cells (by omega)
                obtain ⟨b', off', rfl, hb', hp'⟩ := HM2.out.cells (by omega)
                have x0 := hp k _ hget
                have y0 := hp' k _ h6.symm
                have hlk : decide (k < L2.length) = true := by simpa using hk2
                have hlk2 : (k : Int) < (L2.length : Int) := by omega
                have hlk1 : (k : Int) < (R.length : Int) := by omega
                generalize hx : R[k] = x at *
                clear hget hx hp hp' h6 hm
                go_wp2_with fail
                refine wp_region_grow 29 0 (· < 29) (by kernel_rfl) (by kernel_rfl) rfl ?_
                iterate 29 (refine wpG_step (fun K hK => ?_); first | (refine grow_skip rfl ?_; go_simp; refine hK _ ?_; clear hK K) | (apply Exists.intro; refine ⟨.inl ⟨rfl, fun w' hw' => ?_⟩, ?_⟩; (focus ((obtain ⟨hc, hf⟩ := bcell hw'.out); (have hcS := bcellS hw'.out); go_simp <;> first | rfl | fail)); (go_simp; refine hK _ ?_; clear hK K)))
                refine wpG_nil ?_
                refine wpK_tail (by kernel_rfl) (fun w8 hg8 => ?_)
                have hb8 := bdrewn hg8.out
                refine wpAny_end (by kernel_rfl) ?_
                refine NoPan.thn ?_
                clear hg8
                replace HBR := Lib.hid (HBR.out.trans (hb8.mono HBR.out.size))
                clear hb8 d0 d1
                go_wp2
                go_roundw
                case rel =>
                  first
                  | exact ⟨k + 1, by omega, by go_num, HBR.out⟩
                  | ((repeat apply Exists.intro); refine ⟨⟨k + 1, by omega, ?_, HBR.out⟩, rfl⟩; go_num)
                case measure => simp [intOf]; omega
              · have p4 : decide ((k : Int) > r) = false := by simpa only [HH.out, decide_eq_false_iff_not] using q
                clear h5 q p3 hm
                go_wp2_with fail
                refine wp_region_grow 29 0 (· < 29) (by kernel_rfl) (by kernel_rfl) rfl ?_
                iterate 29 (refine wpG_step (fun K hK => ?_); first | (refine grow_skip rfl ?_; go_simp; refine hK _ ?_; clear hK K) | (apply Exists.intro; refine ⟨.inl ⟨rfl, fun w' hw' => ?_⟩, ?_⟩; (focus ((obtain ⟨hc, hf⟩ := bcell hw'.out); (have hcS := bcellS hw'.out); go_simp <;> first | rfl | fail)); (go_simp; refine hK _ ?_; clear hK K)))
                refine wpG_nil ?_
                refine wpK_tail (by kernel_rfl) (fun w8 hg8 => ?_)
                have hb8 := bdrewn hg8.out
                refine wpAny_end (by kernel_rfl) ?_
                refine NoPan.thn ?_
                clear hg8
                replace HBR := Lib.hid (HBR.out.trans (hb8.mono HBR.out.size))
                clear hb8 d0 d1
                go_wp2
                go_roundw
                case rel =>
                  first
                  | exact ⟨k + 1, by omega, by go_num, HBR.out⟩
                  | ((repeat apply Exists.intro); refine ⟨⟨k + 1, by omega, ?_, HBR.out⟩, rfl⟩; go_num)
                case measure => simp [intOf]; omega
            · by_cases q : r.toNat < k
              · have p4 : decide ((k : Int) ≤ r) = false := by
                  have := HR0.out
                  simp only [decide_eq_false_iff_not]; omega
                clear h5 q p3 hm
                go_wp2_with fail
                refine wp_region_grow 29 0 (· < 29) (by kernel_rfl) (by kernel_rfl) rfl ?_
                iterate 29 (refine wpG_step (fun K hK => ?_); first | (refine grow_skip rfl ?_; go_simp; refine hK _ ?_; clear hK K) | (apply Exists.intro; refine ⟨.inl ⟨rfl, fun w' hw' => ?_⟩, ?_⟩; (focus ((obtain ⟨hc, hf⟩ := bcell hw'.out); (have hcS := bcellS hw'.out); go_simp <;> first | rfl | fail)); (go_simp; refine hK _ ?_; clear hK K)))
                refine wpG_nil ?_
                refine wpK_tail (by kernel_rfl) (fun w8 hg8 => ?_)
                have hb8 := bdrewn hg8.out
                refine wpAny_end (by kernel_rfl) ?_
                refine NoPan.thn ?_
                clear hg8
                replace HBR := Lib.hid (HBR.out.trans (hb8.mono HBR.out.size))
                clear hb8 d0 d1
                go_wp2
                go_roundw
                case rel =>
                  first
                  | exact ⟨k + 1, by omega, by go_num, HBR.out⟩
                  | ((repeat apply Exists.intro); refine ⟨⟨k + 1, by omega, ?_, HBR.out⟩, rfl⟩; go_num)
                case measure => simp [intOf]; omega
              · have p4 : decide ((k : Int) ≤ r) = true := by
                  have := HR0.out
                  simp only [decide_eq_true_eq]; omega
                have h6 := h5 (.inr ⟨p3, by omega⟩)
                clear h5 q p3
                have hget : R[k]? = some R[k] := List.getElem?_eq_getElem hlt
                rw [hget] at h6
                have hk2 : k < L2.length := by omega
                obtain ⟨b, off, rfl, hb, hp⟩ := HM1.out.cells (by omega)
                obtain ⟨b', off', rfl, hb', hp'⟩ := HM2.out.cells (by omega)
                have x0 := hp k _ hget
                have y0 := hp' k _ h6.symm
                have hlk : decide (k < L2.length) = true := by simpa using hk2
                have hlk2 : (k : Int) < (L2.length : Int) := by omega
                have hlk1 : (k : Int) < (R.length : Int) := by omega
                generalize hx : R[k] = x at *
                clear hget hx hp hp' h6 hm
                go_wp2_with fail
                refine wp_region_grow 29 0 (· < 29) (by kernel_rfl) (by kernel_rfl) rfl ?_
                iterate 29 (refine wpG_step (fun K hK => ?_); first | (refine grow_skip rfl ?_; go_simp; refine hK _ ?_; clear hK K) | (apply Exists.intro; refine ⟨.inl ⟨rfl, fun w' hw' => ?_⟩, ?_⟩; (focus ((obtain ⟨hc, hf⟩ := bcell hw'.out); (have hcS := bcellS hw'.out); go_simp <;> first | rfl | fail)); (go_simp; refine hK _ ?_; clear hK K)))
                refine wpG_nil ?_
                refine wpK_tail (by kernel_rfl) (fun w8 hg8 => ?_)
                have hb8 := bdrewn hg8.out
                refine wpAny_end (by kernel_rfl) ?_
                refine NoPan.thn ?_
                clear hg8
                replace HBR := Lib.hid (HBR.out.trans (hb8.mono HBR.out.size))
                clear hb8 d0 d1
                go_wp2
                go_roundw
                case rel =>
                  first
                  | exact ⟨k + 1, by omega, by go_num, HBR.out⟩
                  | ((repeat apply Exists.intro); refine ⟨⟨k + 1, by omega, ?_, HBR.out⟩, rfl⟩; go_num)
                case measure => simp [intOf]; omega
          · have hd : decide ((k : Int) < (R.length : Int)) = false := by simpa using hlt
            have p1 := HYB.out
            go_wp2
            go_ret
            exact ⟨rfl, HB.out.trans (HBR.out.mono HB.out.size)⟩
    · have hno : ¬ pnP L1 L2 ∨ (pnP L1 L2 ∧ rng r 0 ((L1.length : Int) - 2) = false) ∨ (pnP L1 L2 ∧ rng r 0 ((L1.length : Int) - 2) = true ∧ rng y (-400) 400 = false) := by
        by_cases h : pnP L1 L2
        · cases e : rng r 0 ((L1.length : Int) - 2) with
          | false => exact .inr (.inl ⟨h, rfl⟩)
          | true => cases e2 : rng y (-400) 400 with
            | false => exact .inr (.inr ⟨h, rfl, rfl⟩)
            | true => exact absurd ⟨h, e, e2⟩ hq
        · exact .inl h
      clear hq HT
      obtain ⟨c0, c1'⟩ := c2L HX.out
      go_wp2_with fail
      with_reducible refine (DragSash_no A1 A2 c1 c2 L1 L2 r y _ HV1.out HV2.out k2 k1 hno).mono ?_
      rintro e w2 ⟨rfl, hb⟩
      clear c0 c1'
      replace HX := Lib.hid ((hb.block _ (Array.getElem?_eq_some_iff.1 HX.out).1).trans HX.out)
      replace HV1 := Lib.hid (HV1.out.keep hb)
      replace HV2 := Lib.hid (HV2.out.keep hb)
      replace HB := Lib.hid (bkeep2 HB.out hb)
      clear hb
      have HY := Lib.hid (newS w2 (.cells #[.slice none 0 0, .slice none 0 0] 25))
      have hb : Below w2.heap.size w2 (w2.alloc (.cells #[.slice none 0 0, .slice none 0 0] 25)) := balloc (Below.refl _ _)
      replace HX := Lib.hid ((hb.block _ (Array.getElem?_eq_some_iff.1 HX.out).1).trans HX.out)
      replace HV1 := Lib.hid (HV1.out.keep hb)
      replace HV2 := Lib.hid (HV2.out.keep hb)
      replace HB := Lib.hid (bkeep2 HB.out hb)
      clear hb
      have hlc : w1.heap.size ≤ w2.heap.size := by have := ltS HX.out; simp only [World.size_alloc] at this; omega
      have hld : w1.heap.size < w2.heap.size + 1 := by omega
      obtain ⟨c0, c1'⟩ := c2L HX.out
      obtain ⟨d0, d1⟩ := c2L HY.out
      have hla := ltS HX.out
      have hlb := ltS HY.out
      go_wp2_with fail
      refine wp_region_grow 13 0 (· < 13) (by kernel_rfl) (by kernel_rfl) rfl ?_
      iterate 13 (refine wpG_step (fun K hK => ?_); first | (refine grow_skip rfl ?_; go_simp; refine hK _ ?_; clear hK K) | (apply Exists.intro; refine ⟨.inl ⟨rfl, fun w' hw' => ?_⟩, ?_⟩; (focus ((obtain ⟨hc, hf⟩ := bcell hw'.out); (have hcS := bcellS hw'.out); go_simp <;> first | rfl | (go_at_call 16; exact sDragSash_no A1 A2 c1 c2 L1 L2 r y _ (HV1.out.keep (bdrewn hw'.out)) (HV2.out.keep (bdrewn hw'.out)) k2 k1 hno) | (go_at_call 15; exact equalPanes_same _ _ [] [] _ (prnil _) (prnil _) (by simp) (by simp)))); (go_simp; refine hK _ ?_; clear hK K)))
      refine wpG_nil ?_
      refine wpK_tail (by kernel_rfl) (fun w8 hg8 => ?_)
      have hb8 := bdrewn hg8.out
      refine wpAny_end (by kernel_rfl) ?_
      refine NoPan.thn ?_
      clear hg8
      have hb := hb8
      clear hb8 c0 c1' d0 d1 hla hlb
      replace HX := Lib.hid ((hb.block _ (Array.getElem?_eq_some_iff.1 HX.out).1).trans HX.out)
      replace HY := Lib.hid ((hb.block _ (Array.getElem?_eq_some_iff.1 HY.out).1).trans HY.out)
      replace HV1 := Lib.hid (HV1.out.keep hb)
      replace HV2 := Lib.hid (HV2.out.keep hb)
      replace HB := Lib.hid (bkeep2 HB.out hb)
      clear hb
      obtain ⟨c0, c1'⟩ := c2L HX.out
      obtain ⟨d0, d1⟩ := c2L HY.out
      have hla := ltS HX.out
      have hlb := ltS HY.out
      go_wp2_with fail
      refine wp_region_grow 6 1 (· < 6) (by kernel_rfl) (by kernel_rfl) rfl ?_
      iterate 6 (refine wpG_step (fun K hK => ?_); first | (refine grow_skip rfl ?_; go_simp; refine hK _ ?_; clear hK K) | (apply Exists.intro; refine ⟨.inl ⟨rfl, fun w' hw' => ?_⟩, ?_⟩; (focus ((obtain ⟨hc, hf⟩ := bcell hw'.out); (have hcS := bcellS hw'.out); go_simp <;> first | rfl | (go_at_call 16; exact sDragSash_no A1 A2 c1 c2 L1 L2 r y _ (HV1.out.keep (bdrewn hw'.out)) (HV2.out.keep (bdrewn hw'.out)) k2 k1 hno) | (go_at_call 15; exact equalPanes_same _ _ [] [] _ (prnil _) (prnil _) (by simp) (by simp)))); (go_simp; refine hK _ ?_; clear hK K)))
      refine wpG_nil ?_
      refine wpK_tail (by kernel_rfl) (fun w9 hg9 => ?_)
      have hb9 := bdrewn hg9.out
      obtain ⟨hc9, hf9⟩ := bcell hb9
      refine wpAny_one (i := 6) (by kernel_rfl) rfl rfl ?_
      go_simp
      refine wpAny_end (by kernel_rfl) ?_
      refine NoPan.thn ?_
      clear hc9 hf9
      clear hg9
      replace HB := Lib.hid (bkeep2 HB.out hb9)
      clear hb9
      go_wp2
      go_ret
      exact ⟨rfl, HB.out⟩
  · have hl1 : (1048576 : Int) < n := by omega
    go_enter Try.func5, Try.ntmps5
    go_wp2
    go_ret
    exact ⟨rfl, Below.refl _ _⟩
set_option maxRecDepth 100000 in
theorem lifted (os : Os) (started : os.Started) (H : Type) (enc : TypeId × Value → H) :
    ReturnsInHanded {} Try.checked os 5 .any (Rows.fnDragSashFarSpec.pre6 enc Try.prog Try.f5 Rows.fnDragSashFarRow.domain false) (Rows.fnDragSashFarSpec.post enc Try.prog Try.f5 false true false false) := by
  refine returnsInHanded_of_change (C := Try.checked) own started (by kernel_rfl) Try.func5
    (ChangeSpec.witness6 (enc := enc) (C := Try.checked) false ⟨#[], #[.slice none 0 0], []⟩ 8 (by kernel_rfl) (by kernel_rfl) (by kernel_rfl) (by kernel_rfl)) ?_
  intro W base args ds gs before hval0 hW hcnd _
  have hval : ∀ (j : Nat) t v, Try.f5.params[j]? = some t → args[j]? = some v → Value.okWide Try.prog W .any base t v := hval0
  have hW' := hW
  obtain ⟨p, q, hA0, hV, rfl, hfz, hnd⟩ := hW
  have hA : DataW.TrodAll enc Try.prog W 0 (fun _ => true) true Try.f5.params.toList args.toList ds p := hA0
  rw [Try.params5] at hA hval
  obtain ⟨v0, vs0, d0, ds0, p0, q0, hargs, rfl, rfl, h0, r0⟩ := trodAll_cons hA
  obtain ⟨rfl, rfl, rfl⟩ := trodAll_nil r0
  obtain rfl : args = #[v0] := by cases args; simp_all
  obtain ⟨rfl, rfl⟩ := trodVars_none hV
  have k0 := h0
  have lt0 : ∀ x ∈ p0, x.block < W.heap.size := by obtain ⟨m, hm⟩ := k0; exact DataW.trod_lt m _ _ _ hm
  obtain ⟨a0, len0, cap0, rfl⟩ := okWide_slice Try.underlying22 (hval 0 22 v0 rfl rfl)
  obtain ⟨z0, wz0⟩ : ∃ zs, IsRow .u8 W a0 len0 cap0 zs := by
    obtain ⟨fuel, hf⟩ := h0
    rcases open_ints Try.underlying22 Try.underlying5 (by kernel_rfl) hf with ⟨hcs, _⟩ | ⟨x, l, c, zs, hcs, _, hl, hm, hz, _, hcell, hwz⟩
    · simp [Value.cells] at hcs
      obtain ⟨rfl, rfl, rfl⟩ := hcs
      exact ⟨[], .inl ⟨rfl, rfl, rfl, rfl⟩⟩
    · simp [Value.cells] at hcs
      obtain ⟨rfl, rfl, rfl⟩ := hcs
      exact ⟨zs, .inr ⟨_, rfl, hl, hm, by simpa using hz, hcell, hwz⟩⟩
  clear hA0 hval0
  refine (walk a0 len0 cap0 z0 W wz0).mono fun e W' ⟨he, bel⟩ => ?_
  subst he
  exact ⟨_, rfl, _, _, _, [], _, [], hW', trodAll_mk1 (shut_bool Try.underlying4 _), (trodAll_cons_mk (Below.trod laidOut (by kernel_rfl) (of_decide_eq_true (by kernel_rfl)) k0 bel lt0) trodAll_mk0), rfl, bel.frame _, fun h => by cases h⟩
theorem over : Rows.fnDragSashFarRow.holds Try.pinned (OpenSpec.ofChange Rows.fnDragSashFarSpec) :=
  OpenClaim.holds_of_wide 5 Try.f5 rfl rfl rfl rfl rfl rfl rfl ⟨rfl, rfl, rfl, rfl, rfl⟩ rfl rfl rfl rfl rfl (by kernel_rfl) Try.func5 (by kernel_rfl)
    (of_decide_eq_true (by kernel_rfl)) (by unfold Func.isWrapper; first | (rw [if_pos (by decide +kernel)]; kernel_rfl) | (rw [if_neg (by decide +kernel)]; exact ⟨rfl, rfl⟩))
    (fun os started H enc _ => lifted os started H enc)
theorem proved : Rows.FnDragSashFarSaid := over
end Go.Proofs.Ytpbfbcdidkbjiac.lDragSashFar
