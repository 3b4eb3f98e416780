/- FnPackLeft: for every code the law returns true. No condition. -/
import Derived.Test.YtjdjahckdgbkbabQ10
namespace Go.Proofs.Ytjdjahckdgbkbab.lPackLeft
open Go.ChangeShapes Go.WideShapes Go.ChangeAt Go.RowKit Go.Joins
set_option linter.unusedVariables false
set_option maxHeartbeats 1000000
attribute [local go_sem 5000] run_mx run_mn run_eqlR run_neqR
attribute [local go_sem] growUpon_value growUpon_skip growUpon_enter
theorem left_ok {L : List Pk} {a b : Int} : (leftR L a b).ok = true := by
  unfold leftR
  split
  · rename_i h
    obtain ⟨hv, hr⟩ := gpB_yes h
    obtain ⟨_, _, _, h4⟩ := parcM_all (L := L) (z := ⟨0, 0, a, b⟩) (vpsB_iff.1 hv).1 (rmB_ok hr)
    exact h4 _ (by simp)
  · decide
set_option maxRecDepth 100000 in
theorem walk (A : Option Addr) (n c : Nat) (z : List Int) (w : World) (wz : IsRow .u8 w A n c z) : Calls Try.prog 6 #[.slice A n c] w fun e w' => e = .returned (.bool true) ∧ Below w.heap.size w w' := by
  obtain ⟨hb, hn, hc⟩ := wz.bts
  clear wz
  by_cases hlen : n ≤ 1048576
  · have hl1 : ¬ (1048576 : Int) < n := by omega
    go_enter Try.func6, Try.ntmps6
    go_wp2_with fail
    with_reducible refine (DrawPackLeft_any A n c _ hb hn hc).mono ?_
    rintro e w1 ⟨⟨A', c', L, a, b, rfl, hL8, hcap, hpv⟩, hB⟩
    have HB := Lib.hid hB
    clear hb hn hc hB
    have hL : L.length ≤ 1048576 := by omega
    have hok := left_ok (L := L) (a := a) (b := b)
    obtain ⟨R, hR⟩ : ∃ R, leftR L a b = R := ⟨_, rfl⟩
    rw [hR] at hok
    have HR := Lib.hid hR
    have HP := Lib.hid hpv
    clear hR hpv
    go_wp2_with fail
    with_reducible refine (PackLeft_c A' c' L a b _ HP.out hcap hL R HR.out).mono ?_
    rintro e w2 ⟨rfl, hb2⟩
    replace HP := Lib.hid (HP.out.keep hb2)
    replace HB := Lib.hid (bkeep2 HB.out hb2)
    clear hb2
    go_wp2_with fail
    refine wp_named (fun W eW => ?_)
    have hbW : Below w2.heap.size w2 W := by rw [eW]; exact balloc (Below.refl _ _)
    have HX : Hid (W.heap[w2.heap.size]? = some (.cells #[.int .i64 R.x, .int .i64 R.y, .int .i64 R.u, .int .i64 R.v] 42 (0, 0))) := Lib.hid (by rw [eW]; exact heap_alloc_new _ _)
    rw [← eW]
    clear eW
    replace HP := Lib.hid (HP.out.keep hbW)
    replace HB := Lib.hid (bkeep2 HB.out hbW)
    clear hbW
    obtain ⟨b0, b1, b2, b3⟩ := cells4 HX.out
    have bl := lt_of_heap HX.out
    cases hg : gpB L a b
    · go_wp2_with fail
      refine wp_region_grow 14 0 (· < 14) (by kernel_rfl) (by kernel_rfl) rfl ?_
      iterate 14 (refine wpG_step (fun K hK => ?_); first | (refine grow_skip rfl ?_; go_simp; refine hK _ ?_; clear hK K) | (apply Exists.intro; refine ⟨.inl ⟨rfl, fun w' hw' => ?_⟩, ?_⟩; (focus ((obtain ⟨hc, hf⟩ := bcell hw'.out); (have hcS := bcellS hw'.out); go_simp <;> first | rfl | (go_at_call 27; exact sPackLeft_c A' c' L a b _ (HP.out.keep (bdrewn hw'.out)) hcap hL R HR.out) | (go_at_call 26; exact equalRect_z R _) | (go_at_call 15; exact goodPacks_any A' c' L a b _ (HP.out.keep (bdrewn hw'.out)) hL false hg))); (go_simp; refine hK _ ?_; clear hK K)))
      refine wpG_nil ?_
      refine wpK_tail (by kernel_rfl) (fun w3 hg3 => ?_)
      have hb3 := bdrewn hg3.out
      refine wpAny_end (by kernel_rfl) ?_
      refine NoPan.thn ?_
      clear hg3
      replace HX := Lib.hid ((hb3.block _ (Array.getElem?_eq_some_iff.1 HX.out).1).trans HX.out)
      replace HP := Lib.hid (HP.out.keep hb3)
      replace HB := Lib.hid (bkeep2 HB.out hb3)
      clear hb3
      clear b0 b1 b2 b3 bl
      obtain ⟨b0, b1, b2, b3⟩ := cells4 HX.out
      have bl := lt_of_heap HX.out
      go_wp2_with fail
      refine wp_region_grow 6 1 (· < 6) (by kernel_rfl) (by kernel_rfl) rfl ?_
      iterate 6 (refine wpG_step (fun K hK => ?_); first | (refine grow_skip rfl ?_; go_simp; refine hK _ ?_; clear hK K) | (apply Exists.intro; refine ⟨.inl ⟨rfl, fun w' hw' => ?_⟩, ?_⟩; (focus ((obtain ⟨hc, hf⟩ := bcell hw'.out); (have hcS := bcellS hw'.out); go_simp <;> first | rfl | (go_at_call 27; exact sPackLeft_c A' c' L a b _ (HP.out.keep (bdrewn hw'.out)) hcap hL R HR.out) | (go_at_call 26; exact equalRect_z R _))); (go_simp; refine hK _ ?_; clear hK K)))
      refine wpG_nil ?_
      refine wpK_tail (by kernel_rfl) (fun w4 hg4 => ?_)
      have hb4 := bdrewn hg4.out
      obtain ⟨hc4, hf4⟩ := bcell hb4
      refine wpAny_one (i := 6) (by kernel_rfl) rfl rfl ?_
      go_simp
      refine wpAny_end (by kernel_rfl) ?_
      refine NoPan.thn ?_
      clear hc4 hf4
      clear hg4
      replace HX := Lib.hid ((hb4.block _ (Array.getElem?_eq_some_iff.1 HX.out).1).trans HX.out)
      replace HP := Lib.hid (HP.out.keep hb4)
      replace HB := Lib.hid (bkeep2 HB.out hb4)
      clear hb4
      clear b0 b1 b2 b3 bl
      go_wp2
      go_ret
      exact ⟨rfl, HB.out⟩
    · obtain ⟨hv, hr⟩ := gpB_yes hg
      go_wp2_with fail
      refine wp_region_grow 14 0 (· < 14) (by kernel_rfl) (by kernel_rfl) rfl ?_
      iterate 14 (refine wpG_step (fun K hK => ?_); first | (refine grow_skip rfl ?_; go_simp; refine hK _ ?_; clear hK K) | (apply Exists.intro; refine ⟨.inl ⟨rfl, fun w' hw' => ?_⟩, ?_⟩; (focus ((obtain ⟨hc, hf⟩ := bcell hw'.out); (have hcS := bcellS hw'.out); go_simp <;> first | rfl | (go_at_call 27; exact sPackLeft_c A' c' L a b _ (HP.out.keep (bdrewn hw'.out)) hcap hL R HR.out) | (go_at_call 26; exact equalRect_z R _) | (go_at_call 15; exact goodPacks_any A' c' L a b _ (HP.out.keep (bdrewn hw'.out)) hL true hg))); (go_simp; refine hK _ ?_; clear hK K)))
      refine wpG_nil ?_
      refine wpK_tail (by kernel_rfl) (fun w3 hg3 => ?_)
      have hb3 := bdrewn hg3.out
      refine wpAny_end (by kernel_rfl) ?_
      refine NoPan.thn ?_
      clear hg3
      replace HX := Lib.hid ((hb3.block _ (Array.getElem?_eq_some_iff.1 HX.out).1).trans HX.out)
      replace HP := Lib.hid (HP.out.keep hb3)
      replace HB := Lib.hid (bkeep2 HB.out hb3)
      clear hb3
      clear b0 b1 b2 b3 bl
      obtain ⟨b0, b1, b2, b3⟩ := cells4 HX.out
      have bl := lt_of_heap HX.out
      have hRv : R = (parcM L ⟨0, 0, a, b⟩).2 := by rw [← HR.out]; simp [leftR, hg]
      rcases List.eq_nil_or_concat L with rfl | ⟨T, p, hTp⟩
      · have hRz : R = ⟨0, 0, a, b⟩ := by rw [hRv]; rfl
        subst hRz
        clear hRv HR HP
        have h0 : decide ((([] : List Pk).length : Int) = 0) = true := by simp
        have heq : eqR 0 0 a b 0 0 a b = true := eqR_self
        go_wp2_with fail
        refine wp_region_grow 5 1 (· < 5) (by kernel_rfl) (by kernel_rfl) rfl ?_
        iterate 5 (refine wpG_step (fun K hK => ?_); first | (refine grow_skip rfl ?_; go_simp; refine hK _ ?_; clear hK K) | (apply Exists.intro; refine ⟨.inl ⟨rfl, fun w' hw' => ?_⟩, ?_⟩; (focus ((obtain ⟨hc, hf⟩ := bcell hw'.out); (have hcS := bcellS hw'.out); go_simp <;> first | rfl | (go_at_call 28; exact room_z a b _))); (go_simp; refine hK _ ?_; clear hK K)))
        refine wpG_nil ?_
        refine wpK_tail (by kernel_rfl) (fun w4 hg4 => ?_)
        have hb4 := bdrewn hg4.out
        obtain ⟨hc4, hf4⟩ := bcell hb4
        refine wpAny_one (i := 5) (by kernel_rfl) rfl rfl ?_
        go_simp
        refine wpAny_end (by kernel_rfl) ?_
        refine NoPan.thn ?_
        clear hc4 hf4
        clear hg4
        replace HX := Lib.hid ((hb4.block _ (Array.getElem?_eq_some_iff.1 HX.out).1).trans HX.out)
        replace HB := Lib.hid (bkeep2 HB.out hb4)
        clear hb4
        clear b0 b1 b2 b3 bl
        go_wp2
        go_ret
        exact ⟨rfl, HB.out⟩
      · rw [List.concat_eq_append] at hTp
        subst hTp
        have hin : (Rc.mk 0 0 a b).inn R := by
          rw [hRv]
          obtain ⟨h1, _⟩ := parcM_all (L := T ++ [p]) (z := ⟨0, 0, a, b⟩) (vpsB_iff.1 hv).1 (rmB_ok hr)
          exact h1 _ (by simp)
        have hlast : p.ex = true → R.area = 0 := fun hx => by rw [hRv]; exact parcM_last p (vpsB_iff.1 hv).1 (rmB_ok hr) hx
        obtain ⟨j, hj⟩ : ∃ j, (T ++ [p]).length = j + 1 := ⟨T.length, by simp⟩
        have hget : (T ++ [p])[j]? = some p := by
          have : j = T.length := by simp at hj; omega
          subst this; simp
        generalize T ++ [p] = L at *
        have h0 : ((L.length : Int) == 0) = false := beq_eq_false_iff_ne.2 (by omega)
        have e1 : (L.length : Int) - 1 = (j : Int) := by omega
        have e2 : IntKind.i64.wrap ((L.length : Int) - 1) = (j : Int) := by rw [e1]; exact IntWalk.i64_in _ (by omega)
        have hjl : j < L.length := by omega
        obtain ⟨bp, off, rfl, hbp, hps⟩ := HP.out.cells (by omega)
        obtain ⟨c0, c1, c2, c3, c4, c5, c6, c7, c8⟩ := hps j p hget
        have HIN := Lib.hid hin
        have HLA := Lib.hid hlast
        have hrz := rmB_ok hr
        clear hRv HR HP hps hget hin hlast hg hv
        have HJ := Lib.hid hj
        clear hj
        cases hx : p.ex
        · rw [hx] at c5
          clear hx
          go_wp2_with fail
          refine wp_named (fun W eW => ?_)
          have hbW : Below w3.heap.size w3 W := by rw [eW]; exact balloc (Below.refl _ _)
          have HY : Hid (W.heap[w3.heap.size]? = some (.cells #[.int .i64 p.w, .int .i64 p.h, .int .i64 p.s, .bool p.fx, .bool p.fy, .bool false, .int .i64 p.an, .int .i64 p.px, .int .i64 p.py] 35 (0, 0))) := Lib.hid (by rw [eW]; exact heap_alloc_new _ _)
          rw [← eW]
          clear eW
          replace HX := Lib.hid ((hbW.block _ (Array.getElem?_eq_some_iff.1 HX.out).1).trans HX.out)
          replace HB := Lib.hid (bkeep2 HB.out hbW)
          clear hbW
          clear b0 b1 b2 b3 bl c0 c1 c2 c3 c4 c5 c6 c7 c8
          obtain ⟨b0, b1, b2, b3⟩ := cells4 HX.out
          have bl := lt_of_heap HX.out
          have y5 := cellH HY.out 5
          have yl := lt_of_heap HY.out
          simp only [List.getElem?_toArray, List.getElem?_cons_succ, List.getElem?_cons_zero] at y5
          go_wp2_with fail
          refine wp_region_grow 5 1 (· < 5) (by kernel_rfl) (by kernel_rfl) rfl ?_
          iterate 5 (refine wpG_step (fun K hK => ?_); first | (refine grow_skip rfl ?_; go_simp; refine hK _ ?_; clear hK K) | (apply Exists.intro; refine ⟨.inl ⟨rfl, fun w' hw' => ?_⟩, ?_⟩; (focus ((obtain ⟨hc, hf⟩ := bcell hw'.out); (have hcS := bcellS hw'.out); go_simp <;> first | rfl | (go_at_call 28; exact room_z a b _) | (go_at_call 22; exact within2_z ⟨0, 0, a, b⟩ R hrz hok HIN.out _))); (go_simp; refine hK _ ?_; clear hK K)))
          refine wpG_nil ?_
          refine wpK_tail (by kernel_rfl) (fun w4 hg4 => ?_)
          have hb4 := bdrewn hg4.out
          obtain ⟨hc4, hf4⟩ := bcell hb4
          refine wpAny_one (i := 5) (by kernel_rfl) rfl rfl ?_
          go_simp
          refine wpAny_end (by kernel_rfl) ?_
          refine NoPan.thn ?_
          clear hc4 hf4
          clear hg4
          replace HX := Lib.hid ((hb4.block _ (Array.getElem?_eq_some_iff.1 HX.out).1).trans HX.out)
          replace HB := Lib.hid (bkeep2 HB.out hb4)
          clear hb4
          clear b0 b1 b2 b3 bl
          go_wp2
          go_ret
          exact ⟨rfl, HB.out⟩
        · rw [hx] at c5
          have hz := HLA.out hx
          have HZ := Lib.hid hz
          clear hx hz
          go_wp2_with fail
          with_reducible refine (area_z R hok _).mono ?_
          rintro e w4 ⟨rfl, hb4⟩
          rw [HZ.out]
          replace HB := Lib.hid (bkeep2 (balloc HB.out) hb4)
          clear b0 b1 b2 b3 bl c0 c1 c2 c3 c4 c5 c6 c7 c8 hb4
          go_wp2
          go_ret
          exact ⟨rfl, HB.out⟩
  · have hl1 : (1048576 : Int) < n := by omega
    go_enter Try.func6, Try.ntmps6
    go_wp2
    go_ret
    exact ⟨rfl, Below.refl _ _⟩
set_option maxRecDepth 100000 in
theorem lifted (os : Os) (started : os.Started) (H : Type) (enc : TypeId × Value → H) :
    ReturnsInHanded {} Try.checked os 6 .any (Rows.fnPackLeftSpec.pre6 enc Try.prog Try.f6 Rows.fnPackLeftRow.domain false) (Rows.fnPackLeftSpec.post enc Try.prog Try.f6 false true false false) := by
  refine returnsInHanded_of_change (C := Try.checked) own started (by kernel_rfl) Try.func6
    (ChangeSpec.witness6 (enc := enc) (C := Try.checked) false ⟨#[], #[.slice none 0 0], []⟩ 8 (by kernel_rfl) (by kernel_rfl) (by kernel_rfl) (by kernel_rfl)) ?_
  intro W base args ds gs before hval0 hW hcnd _
  have hval : ∀ (j : Nat) t v, Try.f6.params[j]? = some t → args[j]? = some v → Value.okWide Try.prog W .any base t v := hval0
  have hW' := hW
  obtain ⟨p, q, hA0, hV, rfl, hfz, hnd⟩ := hW
  have hA : DataW.TrodAll enc Try.prog W 0 (fun _ => true) true Try.f6.params.toList args.toList ds p := hA0
  rw [Try.params6] at hA hval
  obtain ⟨v0, vs0, d0, ds0, p0, q0, hargs, rfl, rfl, h0, r0⟩ := trodAll_cons hA
  obtain ⟨rfl, rfl, rfl⟩ := trodAll_nil r0
  obtain rfl : args = #[v0] := by cases args; simp_all
  obtain ⟨rfl, rfl⟩ := trodVars_none hV
  have k0 := h0
  have lt0 : ∀ x ∈ p0, x.block < W.heap.size := by obtain ⟨m, hm⟩ := k0; exact DataW.trod_lt m _ _ _ hm
  obtain ⟨a0, len0, cap0, rfl⟩ := okWide_slice Try.underlying29 (hval 0 29 v0 rfl rfl)
  obtain ⟨z0, wz0⟩ : ∃ zs, IsRow .u8 W a0 len0 cap0 zs := by
    obtain ⟨fuel, hf⟩ := h0
    rcases open_ints Try.underlying29 Try.underlying5 (by kernel_rfl) hf with ⟨hcs, _⟩ | ⟨x, l, c, zs, hcs, _, hl, hm, hz, _, hcell, hwz⟩
    · simp [Value.cells] at hcs
      obtain ⟨rfl, rfl, rfl⟩ := hcs
      exact ⟨[], .inl ⟨rfl, rfl, rfl, rfl⟩⟩
    · simp [Value.cells] at hcs
      obtain ⟨rfl, rfl, rfl⟩ := hcs
      exact ⟨zs, .inr ⟨_, rfl, hl, hm, by simpa using hz, hcell, hwz⟩⟩
  clear hA0 hval0
  refine (walk a0 len0 cap0 z0 W wz0).mono fun e W' ⟨he, bel⟩ => ?_
  subst he
  exact ⟨_, rfl, _, _, _, [], _, [], hW', trodAll_mk1 (shut_bool Try.underlying4 _), (trodAll_cons_mk (Below.trod laidOut (by kernel_rfl) (of_decide_eq_true (by kernel_rfl)) k0 bel lt0) trodAll_mk0), rfl, bel.frame _, fun h => by cases h⟩
theorem over : Rows.fnPackLeftRow.holds Try.pinned (OpenSpec.ofChange Rows.fnPackLeftSpec) :=
  OpenClaim.holds_of_wide 6 Try.f6 rfl rfl rfl rfl rfl rfl rfl ⟨rfl, rfl, rfl, rfl, rfl⟩ rfl rfl rfl rfl rfl (by kernel_rfl) Try.func6 (by kernel_rfl)
    (of_decide_eq_true (by kernel_rfl)) (by unfold Func.isWrapper; first | (rw [if_pos (by decide +kernel)]; kernel_rfl) | (rw [if_neg (by decide +kernel)]; exact ⟨rfl, rfl⟩))
    (fun os started H enc _ => lifted os started H enc)
theorem proved : Rows.FnPackLeftSaid := over
end Go.Proofs.Ytjdjahckdgbkbab.lPackLeft
