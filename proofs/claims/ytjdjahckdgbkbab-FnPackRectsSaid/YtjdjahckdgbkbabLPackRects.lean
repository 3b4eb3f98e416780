/- FnPackRects: for every code the law returns true. No condition. -/
import Derived.Test.YtjdjahckdgbkbabQ11
namespace Go.Proofs.Ytjdjahckdgbkbab.lPackRects
open Go.ChangeShapes Go.WideShapes Go.ChangeAt Go.RowKit Go.Joins
set_option linter.unusedVariables false
set_option maxHeartbeats 2000000
attribute [local go_sem 5000] run_mx run_mn run_eqlR run_neqR
attribute [local go_sem] growUpon_value growUpon_skip growUpon_enter givesUpon_value givesUpon_skip givesUpon_enter
theorem setL_get {L : List Pk} {M : List Rc} {k : Nat} {p : Pk} {r : Rc} (hp : L[k]? = some p) (hr : M[k]? = some r) : (setL L M)[k]? = some (setP p r) := by
  unfold setL
  rw [List.getElem?_zipWith, hp, hr]
theorem inn_ok {a b : Rc} (ha : a.ok = true) (h : a.inn b) (h0 : 0 ≤ b.u ∧ 0 ≤ b.v) : b.ok = true := by
  obtain ⟨a1, a2, a3, a4, a5, a6, a7, a8⟩ := vr_iff.1 ha
  unfold Rc.inn at h
  exact vr_iff.2 (by omega)
theorem inset_w (p : Pk) (r q : Rc) (hq : insP r p.px p.py = q) (h : p.ok = true) (hr : r.ok = true) (w : World) : Calls Try.prog 23 #[.agg #[.int .i64 (r.x), .int .i64 (r.y), .int .i64 (r.u), .int .i64 (r.v)], .int .i64 p.px, .int .i64 p.py] w fun e w' => e = .returned (.agg #[.int .i64 (q.x), .int .i64 (q.y), .int .i64 (q.u), .int .i64 (q.v)]) ∧ Below w.heap.size w w' := by
  subst hq
  exact InsetRect_yes _ _ _ _ _ _ _ (ins_inB h hr)
set_option maxRecDepth 100000 in
theorem walk (A : Option Addr) (n c : Nat) (z : List Int) (w : World) (wz : IsRow .u8 w A n c z) : Calls Try.prog 5 #[.slice A n c] w fun e w' => e = .returned (.bool true) ∧ Below w.heap.size w w' := by
  obtain ⟨hb, hn, hc⟩ := wz.bts
  clear wz
  by_cases hlen : n ≤ 1048576
  · have hl1 : ¬ (1048576 : Int) < n := by omega
    go_enter Try.func5, Try.ntmps5
    go_wp2_with fail
    with_reducible refine (DrawPackRects_any A n c _ hb hn hc).mono ?_
    rintro e w1 ⟨⟨A', c', L, a, b, rfl, hL8, hcap, hpv⟩, hB⟩
    have HB := Lib.hid hB
    clear hb hn hc hB
    have hL : L.length ≤ 1048576 := by omega
    have hN7 := recL_len (L := L) (u := a) (v := b)
    obtain ⟨N, hN⟩ : ∃ N, recL L a b = N := ⟨_, rfl⟩
    rw [hN] at hN7
    have HN := Lib.hid hN
    have HP := Lib.hid hpv
    clear hN hpv
    go_wp2_with fail
    with_reducible refine (PackRects_c A' c' L a b _ HP.out hcap hL N HN.out).mono ?_
    rintro e w2 ⟨⟨v, rfl, hrv⟩, hb2⟩
    replace HP := Lib.hid (HP.out.keep hb2)
    replace HB := Lib.hid (bkeep2 HB.out hb2)
    clear hb2
    obtain ⟨B, cB, rfl, -⟩ := id hrv
    have HV := Lib.hid hrv
    clear hrv
    by_cases hN0 : N.length = 0
    · have hm0 : ((N.length : Int) == 0) = true := by rw [hN0]; rfl
      clear hN0
      go_wp2_with fail
      with_reducible refine (sPackRects_c A' c' L a b _ HP.out hcap hL N HN.out).mono ?_
      rintro e w3 ⟨⟨r, rfl, hrv⟩, hb3⟩
      replace HP := Lib.hid (HP.out.keep hb3)
      replace HV := Lib.hid (HV.out.keep hb3)
      replace HB := Lib.hid (bkeep2 HB.out hb3)
      clear hb3
      go_wp2_with fail
      with_reducible refine (equalRects_z _ _ N _ HV.out hrv (by omega)).mono ?_
      rintro e w4 ⟨rfl, hb4⟩
      clear hrv
      replace HP := Lib.hid (HP.out.keep hb4)
      replace HV := Lib.hid (HV.out.keep hb4)
      replace HB := Lib.hid (bkeep2 HB.out hb4)
      clear hb4
      go_wp2_with fail
      with_reducible refine (sPackRects_c A' c' L a b _ HP.out hcap hL N HN.out).mono ?_
      rintro e w5 ⟨⟨r, rfl, hrv⟩, hb5⟩
      replace HP := Lib.hid (HP.out.keep hb5)
      replace HV := Lib.hid (HV.out.keep hb5)
      replace HB := Lib.hid (bkeep2 HB.out hb5)
      clear hb5
      go_wp2_with fail
      with_reducible refine (equalRects_z _ _ N _ HV.out hrv (by omega)).mono ?_
      rintro e w6 ⟨rfl, hb6⟩
      clear hrv
      replace HP := Lib.hid (HP.out.keep hb6)
      replace HV := Lib.hid (HV.out.keep hb6)
      replace HB := Lib.hid (bkeep2 HB.out hb6)
      clear hb6
      go_wp2
      go_ret
      exact ⟨rfl, HB.out⟩
    · have hm0 : ((N.length : Int) == 0) = false := beq_eq_false_iff_ne.2 (by omega)
      have hg : gpB L a b = true := by
        cases hg : gpB L a b
        · exfalso; apply hN0; rw [← HN.out]; simp [recL, hg]
        · rfl
      obtain ⟨hvv, hrr⟩ := gpB_yes hg
      obtain ⟨M, hM⟩ : ∃ M, parL L a b = M := ⟨_, rfl⟩
      have hMv : M = (parcM L ⟨0, 0, a, b⟩).1 := by rw [← hM]; simp [parL, hg]
      have hML : M.length = L.length := by rw [hMv, parcM_len]
      have hNv : N = setL L M := by rw [← HN.out, hMv]; simp [recL, hg]
      have hNL : N.length = L.length := by rw [hNv]; exact setL_len hML
      obtain ⟨-, -, -, hall⟩ := parcM_all (L := L) (z := ⟨0, 0, a, b⟩) (vpsB_iff.1 hvv).1 (rmB_ok hrr)
      rw [← hMv] at hall
      have HA := Lib.hid (show ∀ r ∈ M, r.ok = true from fun r hr => hall r (by simp [hr]))
      have HK := Lib.hid (vpsB_iff.1 hvv).1
      have HM := Lib.hid hM
      have HML := Lib.hid hML
      have HNV := Lib.hid hNv
      have HNL := Lib.hid hNL
      clear hg hvv hrr hMv hall hM hML hNv hNL hN0
      go_wp2_with fail
      with_reducible refine (sPackRects_c A' c' L a b _ HP.out hcap hL N HN.out).mono ?_
      rintro e w3 ⟨⟨r, rfl, hrv⟩, hb3⟩
      replace HP := Lib.hid (HP.out.keep hb3)
      replace HV := Lib.hid (HV.out.keep hb3)
      replace HB := Lib.hid (bkeep2 HB.out hb3)
      clear hb3
      go_wp2_with fail
      with_reducible refine (equalRects_z _ _ N _ HV.out hrv (by omega)).mono ?_
      rintro e w4 ⟨rfl, hb4⟩
      clear hrv
      replace HP := Lib.hid (HP.out.keep hb4)
      replace HV := Lib.hid (HV.out.keep hb4)
      replace HB := Lib.hid (bkeep2 HB.out hb4)
      clear hb4
      go_wp2_with fail
      with_reducible refine (PackParcels_n A' c' _ L a b _ HP.out rfl hcap hL M HM.out).mono ?_
      rintro e w5 ⟨⟨B', rfl, hrv⟩, hb5⟩
      replace HP := Lib.hid (HP.out.keep hb5)
      replace HV := Lib.hid (HV.out.keep hb5)
      replace HB := Lib.hid (bkeep2 HB.out hb5)
      clear hb5
      have HU := Lib.hid hrv
      clear hrv
      go_wp2_with fail
      go_loopw [8] (fun i wr => ∃ k : Nat, k ≤ N.length ∧ i = .int .i64 k ∧ Below w5.heap.size w5 wr) (fun i _ => N.length - (intOf i).toNat)
      case atStart => exact ⟨0, by omega, rfl, Below.refl _ _⟩
      case round =>
        obtain ⟨k, hk, rfl, hBr⟩ := hrel
        have hnl := HNL.out
        have hml := HML.out
        by_cases hlt : k < N.length
        · have hd : decide ((k : Int) < (N.length : Int)) = true := by simpa using hlt
          obtain ⟨bp, off, rfl, hbp, hps⟩ := HP.out.cells (by omega)
          obtain ⟨bm, rfl, hbm, hcm⟩ := HU.out.at.2 (by omega)
          obtain ⟨bn, rfl, hbn, hcn⟩ := HV.out.at.2 (by omega)
          have hgp : L[k]? = some L[k] := List.getElem?_eq_getElem (by omega)
          have hgm : M[k]? = some M[k] := List.getElem?_eq_getElem (by omega)
          generalize L[k] = p at *
          generalize M[k] = r at *
          have hgn : N[k]? = some (setP p r) := by rw [HNV.out]; exact setL_get hgp hgm
          have hpk : p.ok = true := HK.out p (List.mem_of_getElem? hgp)
          have hrk : r.ok = true := HA.out r (List.mem_of_getElem? hgm)
          have hqk : (setP p r).ok = true := inn_ok hrk (setP_inn hpk hrk) (set_ok hpk hrk)
          have hkl : k < L.length := by omega
          have hkm : k < M.length := by omega
          have hin := setP_inn hpk hrk
          obtain ⟨c0, c1, c2, c3, c4, c5, c6, c7, c8⟩ := (hps k p hgp).keep (hBr.block bp hbp)
          have hu1 : p.fx = false → (setP p r).u ≤ p.w := fun h => setP_u (r := r) h
          have hu2 : p.fy = false → (setP p r).v ≤ p.h := fun h => setP_v (r := r) h
          have hu3 : p.fx = true → p.fy = true → insP r p.px p.py = setP p r := fun h1 h2 => (setP_fill h1 h2).symm
          generalize setP p r = q at *
          have HX1 := Lib.hid hu1
          have HX2 := Lib.hid hu2
          have HX3 := Lib.hid hu3
          have HIN := Lib.hid hin
          have HQ := Lib.hid (hcn k q hgn)
          have HR := Lib.hid (hcm k r hgm)
          have HBR := Lib.hid hBr
          clear hu1 hu2 hu3 hin hgn hgm hgp hcn hcm hps hBr hnl hml
          go_wp2_with fail
          refine wp_named (fun W eW => ?_)
          have hbW : Below wr.heap.size wr W := by rw [eW]; exact balloc (Below.refl _ _)
          have HY : Hid (W.heap[wr.heap.size]? = some (.cells #[.int .i64 p.w, .int .i64 p.h, .int .i64 p.s, .bool p.fx, .bool p.fy, .bool p.ex, .int .i64 p.an, .int .i64 p.px, .int .i64 p.py] 35 (0, 0))) := Lib.hid (by rw [eW]; exact heap_alloc_new _ _)
          rw [← eW]
          clear eW
          replace HBR := Lib.hid (HBR.out.trans (hbW.mono HBR.out.size))
          clear hbW c0 c1 c2 c3 c4 c5 c6 c7 c8
          obtain ⟨c0, c1, c2, c3, c4, c5, c6, c7, c8⟩ := b9c HY.out
          have yl := lt_of_heap HY.out
          have bnl := Nat.lt_of_lt_of_le hbn HBR.out.size
          have bml := Nat.lt_of_lt_of_le hbm HBR.out.size
          obtain ⟨q0, q1, q2, q3⟩ := HQ.out.at (HBR.out.block bn hbn)
          obtain ⟨r0, r1, r2, r3⟩ := HR.out.at (HBR.out.block bm hbm)
          cases hfx : p.fx
          · cases hfy : p.fy
            · have hl1 : decide (p.w < q.u) = false := by have := HX1.out hfx; simp; omega
              have hl2 : decide (p.h < q.v) = false := by have := HX2.out hfy; simp; omega
              rw [hfx] at c3
              rw [hfy] at c4
              have hfx' := hfx
              have hfy' := hfy
              replace hfx' := Lib.hid hfx'
              replace hfy' := Lib.hid hfy'
              clear hfx hfy
              have hin := HIN.out
              go_wp2_with fail
              refine wp_region_grow 40 0 (· < 40) (by kernel_rfl) (by kernel_rfl) rfl ?_
              iterate 40 (refine wpG_step (fun K hK => ?_); first | (refine grow_skip rfl ?_; go_simp; refine hK _ ?_; clear hK K) | (apply Exists.intro; refine ⟨.inl ⟨rfl, fun w' hw' => ?_⟩, ?_⟩; (focus ((obtain ⟨hc, hf⟩ := bcell hw'.out); (have hcS := bcellS hw'.out); go_simp <;> first | rfl | (go_at_call 22; exact within2_z r q hrk hqk hin _))); (go_simp; refine hK _ ?_; clear hK K)))
              refine wpG_nil ?_
              refine wpK_tail (by kernel_rfl) (fun w7 hg7 => ?_)
              have hb7 := bdrewn hg7.out
              refine wpAny_end (by kernel_rfl) ?_
              refine NoPan.thn ?_
              clear hg7
              replace HBR := Lib.hid (HBR.out.trans (hb7.mono HBR.out.size))
              replace HY := Lib.hid ((hb7.block _ (lt_of_heap HY.out)).trans HY.out)
              clear hb7 hin c0 c1 c2 c3 c4 c5 c6 c7 c8 yl bnl bml q0 q1 q2 q3 r0 r1 r2 r3
              obtain ⟨c0, c1, c2, c3, c4, c5, c6, c7, c8⟩ := b9c HY.out
              rw [hfx'.out] at c3
              rw [hfy'.out] at c4
              have yl := lt_of_heap HY.out
              have bnl := Nat.lt_of_lt_of_le hbn HBR.out.size
              have bml := Nat.lt_of_lt_of_le hbm HBR.out.size
              obtain ⟨q0, q1, q2, q3⟩ := HQ.out.at (HBR.out.block bn hbn)
              obtain ⟨r0, r1, r2, r3⟩ := HR.out.at (HBR.out.block bm hbm)
              go_wp2_with fail
              refine wp_region_grow 22 0 (· < 22) (by kernel_rfl) (by kernel_rfl) rfl ?_
              iterate 22 (refine wpG_step (fun K hK => ?_); first | (refine grow_skip rfl ?_; go_simp; refine hK _ ?_; clear hK K) | (apply Exists.intro; refine ⟨.inl ⟨rfl, fun w' hw' => ?_⟩, ?_⟩; (focus ((obtain ⟨hc, hf⟩ := bcell hw'.out); (have hcS := bcellS hw'.out); go_simp <;> first | rfl | fail)); (go_simp; refine hK _ ?_; clear hK K)))
              refine wpG_nil ?_
              refine wpK_tail (by kernel_rfl) (fun w8 hg8 => ?_)
              have hb8 := bdrewn hg8.out
              refine wpAny_end (by kernel_rfl) ?_
              refine NoPan.thn ?_
              clear hg8
              replace HBR := Lib.hid (HBR.out.trans (hb8.mono HBR.out.size))
              clear hb8 c0 c1 c2 c3 c4 c5 c6 c7 c8 yl bnl bml q0 q1 q2 q3 r0 r1 r2 r3
              go_wp2
              go_roundw
              case rel => exact ⟨k + 1, by omega, by go_num, HBR.out⟩
              case measure => simp [intOf]; omega
            · have hl1 : decide (p.w < q.u) = false := by have := HX1.out hfx; simp; omega
              rw [hfx] at c3
              rw [hfy] at c4
              have hfx' := hfx
              have hfy' := hfy
              replace hfx' := Lib.hid hfx'
              replace hfy' := Lib.hid hfy'
              clear hfx hfy
              have hin := HIN.out
              go_wp2_with fail
              refine wp_region_grow 40 0 (· < 40) (by kernel_rfl) (by kernel_rfl) rfl ?_
              iterate 40 (refine wpG_step (fun K hK => ?_); first | (refine grow_skip rfl ?_; go_simp; refine hK _ ?_; clear hK K) | (apply Exists.intro; refine ⟨.inl ⟨rfl, fun w' hw' => ?_⟩, ?_⟩; (focus ((obtain ⟨hc, hf⟩ := bcell hw'.out); (have hcS := bcellS hw'.out); go_simp <;> first | rfl | (go_at_call 22; exact within2_z r q hrk hqk hin _))); (go_simp; refine hK _ ?_; clear hK K)))
              refine wpG_nil ?_
              refine wpK_tail (by kernel_rfl) (fun w7 hg7 => ?_)
              have hb7 := bdrewn hg7.out
              refine wpAny_end (by kernel_rfl) ?_
              refine NoPan.thn ?_
              clear hg7
              replace HBR := Lib.hid (HBR.out.trans (hb7.mono HBR.out.size))
              replace HY := Lib.hid ((hb7.block _ (lt_of_heap HY.out)).trans HY.out)
              clear hb7 hin c0 c1 c2 c3 c4 c5 c6 c7 c8 yl bnl bml q0 q1 q2 q3 r0 r1 r2 r3
              obtain ⟨c0, c1, c2, c3, c4, c5, c6, c7, c8⟩ := b9c HY.out
              rw [hfx'.out] at c3
              rw [hfy'.out] at c4
              have yl := lt_of_heap HY.out
              have bnl := Nat.lt_of_lt_of_le hbn HBR.out.size
              have bml := Nat.lt_of_lt_of_le hbm HBR.out.size
              obtain ⟨q0, q1, q2, q3⟩ := HQ.out.at (HBR.out.block bn hbn)
              obtain ⟨r0, r1, r2, r3⟩ := HR.out.at (HBR.out.block bm hbm)
              go_wp2_with fail
              refine wp_region_grow 22 0 (· < 22) (by kernel_rfl) (by kernel_rfl) rfl ?_
              iterate 22 (refine wpG_step (fun K hK => ?_); first | (refine grow_skip rfl ?_; go_simp; refine hK _ ?_; clear hK K) | (apply Exists.intro; refine ⟨.inl ⟨rfl, fun w' hw' => ?_⟩, ?_⟩; (focus ((obtain ⟨hc, hf⟩ := bcell hw'.out); (have hcS := bcellS hw'.out); go_simp <;> first | rfl | fail)); (go_simp; refine hK _ ?_; clear hK K)))
              refine wpG_nil ?_
              refine wpK_tail (by kernel_rfl) (fun w8 hg8 => ?_)
              have hb8 := bdrewn hg8.out
              refine wpAny_end (by kernel_rfl) ?_
              refine NoPan.thn ?_
              clear hg8
              replace HBR := Lib.hid (HBR.out.trans (hb8.mono HBR.out.size))
              clear hb8 c0 c1 c2 c3 c4 c5 c6 c7 c8 yl bnl bml q0 q1 q2 q3 r0 r1 r2 r3
              go_wp2
              go_roundw
              case rel => exact ⟨k + 1, by omega, by go_num, HBR.out⟩
              case measure => simp [intOf]; omega
          · cases hfy : p.fy
            · have hl2 : decide (p.h < q.v) = false := by have := HX2.out hfy; simp; omega
              rw [hfx] at c3
              rw [hfy] at c4
              have hfx' := hfx
              have hfy' := hfy
              replace hfx' := Lib.hid hfx'
              replace hfy' := Lib.hid hfy'
              clear hfx hfy
              have hin := HIN.out
              go_wp2_with fail
              refine wp_region_grow 40 0 (· < 40) (by kernel_rfl) (by kernel_rfl) rfl ?_
              iterate 40 (refine wpG_step (fun K hK => ?_); first | (refine grow_skip rfl ?_; go_simp; refine hK _ ?_; clear hK K) | (apply Exists.intro; refine ⟨.inl ⟨rfl, fun w' hw' => ?_⟩, ?_⟩; (focus ((obtain ⟨hc, hf⟩ := bcell hw'.out); (have hcS := bcellS hw'.out); go_simp <;> first | rfl | (go_at_call 22; exact within2_z r q hrk hqk hin _))); (go_simp; refine hK _ ?_; clear hK K)))
              refine wpG_nil ?_
              refine wpK_tail (by kernel_rfl) (fun w7 hg7 => ?_)
              have hb7 := bdrewn hg7.out
              refine wpAny_end (by kernel_rfl) ?_
              refine NoPan.thn ?_
              clear hg7
              replace HBR := Lib.hid (HBR.out.trans (hb7.mono HBR.out.size))
              replace HY := Lib.hid ((hb7.block _ (lt_of_heap HY.out)).trans HY.out)
              clear hb7 hin c0 c1 c2 c3 c4 c5 c6 c7 c8 yl bnl bml q0 q1 q2 q3 r0 r1 r2 r3
              obtain ⟨c0, c1, c2, c3, c4, c5, c6, c7, c8⟩ := b9c HY.out
              rw [hfx'.out] at c3
              rw [hfy'.out] at c4
              have yl := lt_of_heap HY.out
              have bnl := Nat.lt_of_lt_of_le hbn HBR.out.size
              have bml := Nat.lt_of_lt_of_le hbm HBR.out.size
              obtain ⟨q0, q1, q2, q3⟩ := HQ.out.at (HBR.out.block bn hbn)
              obtain ⟨r0, r1, r2, r3⟩ := HR.out.at (HBR.out.block bm hbm)
              go_wp2_with fail
              refine wp_region_grow 22 0 (· < 22) (by kernel_rfl) (by kernel_rfl) rfl ?_
              iterate 22 (refine wpG_step (fun K hK => ?_); first | (refine grow_skip rfl ?_; go_simp; refine hK _ ?_; clear hK K) | (apply Exists.intro; refine ⟨.inl ⟨rfl, fun w' hw' => ?_⟩, ?_⟩; (focus ((obtain ⟨hc, hf⟩ := bcell hw'.out); (have hcS := bcellS hw'.out); go_simp <;> first | rfl | fail)); (go_simp; refine hK _ ?_; clear hK K)))
              refine wpG_nil ?_
              refine wpK_tail (by kernel_rfl) (fun w8 hg8 => ?_)
              have hb8 := bdrewn hg8.out
              refine wpAny_end (by kernel_rfl) ?_
              refine NoPan.thn ?_
              clear hg8
              replace HBR := Lib.hid (HBR.out.trans (hb8.mono HBR.out.size))
              clear hb8 c0 c1 c2 c3 c4 c5 c6 c7 c8 yl bnl bml q0 q1 q2 q3 r0 r1 r2 r3
              go_wp2
              go_roundw
              case rel => exact ⟨k + 1, by omega, by go_num, HBR.out⟩
              case measure => simp [intOf]; omega
            · have hi := HX3.out hfx hfy
              have HI := Lib.hid hi
              clear hi
              rw [hfx] at c3
              rw [hfy] at c4
              have hfx' := hfx
              have hfy' := hfy
              replace hfx' := Lib.hid hfx'
              replace hfy' := Lib.hid hfy'
              clear hfx hfy
              have hin := HIN.out
              go_wp2_with fail
              refine wp_region_grow 40 0 (· < 40) (by kernel_rfl) (by kernel_rfl) rfl ?_
              iterate 40 (refine wpG_step (fun K hK => ?_); first | (refine grow_skip rfl ?_; go_simp; refine hK _ ?_; clear hK K) | (apply Exists.intro; refine ⟨.inl ⟨rfl, fun w' hw' => ?_⟩, ?_⟩; (focus ((obtain ⟨hc, hf⟩ := bcell hw'.out); (have hcS := bcellS hw'.out); go_simp <;> first | rfl | (go_at_call 22; exact within2_z r q hrk hqk hin _))); (go_simp; refine hK _ ?_; clear hK K)))
              refine wpG_nil ?_
              refine wpK_tail (by kernel_rfl) (fun w7 hg7 => ?_)
              have hb7 := bdrewn hg7.out
              refine wpAny_end (by kernel_rfl) ?_
              refine NoPan.thn ?_
              clear hg7
              replace HBR := Lib.hid (HBR.out.trans (hb7.mono HBR.out.size))
              replace HY := Lib.hid ((hb7.block _ (lt_of_heap HY.out)).trans HY.out)
              clear hb7 hin c0 c1 c2 c3 c4 c5 c6 c7 c8 yl bnl bml q0 q1 q2 q3 r0 r1 r2 r3
              obtain ⟨c0, c1, c2, c3, c4, c5, c6, c7, c8⟩ := b9c HY.out
              rw [hfx'.out] at c3
              rw [hfy'.out] at c4
              have yl := lt_of_heap HY.out
              have bnl := Nat.lt_of_lt_of_le hbn HBR.out.size
              have bml := Nat.lt_of_lt_of_le hbm HBR.out.size
              obtain ⟨q0, q1, q2, q3⟩ := HQ.out.at (HBR.out.block bn hbn)
              obtain ⟨r0, r1, r2, r3⟩ := HR.out.at (HBR.out.block bm hbm)
              have heq : eqR q.x q.y q.u q.v q.x q.y q.u q.v = true := eqR_self
              go_wp2_with fail
              refine wp_region_grow 22 0 (· < 22) (by kernel_rfl) (by kernel_rfl) rfl ?_
              iterate 22 (refine wpG_step (fun K hK => ?_); first | (refine grow_skip rfl ?_; go_simp; refine hK _ ?_; clear hK K) | (apply Exists.intro; refine ⟨.inl ⟨rfl, fun w' hw' => ?_⟩, ?_⟩; (focus ((obtain ⟨hc, hf⟩ := bcell hw'.out); (have hcS := bcellS hw'.out); go_simp <;> first | rfl | (go_at_call 23; exact inset_w p r q HI.out hpk hrk _))); (go_simp; refine hK _ ?_; clear hK K)))
              refine wpG_nil ?_
              refine wpK_tail (by kernel_rfl) (fun w8 hg8 => ?_)
              have hb8 := bdrewn hg8.out
              refine wpAny_end (by kernel_rfl) ?_
              refine NoPan.thn ?_
              clear hg8
              replace HBR := Lib.hid (HBR.out.trans (hb8.mono HBR.out.size))
              clear hb8 c0 c1 c2 c3 c4 c5 c6 c7 c8 yl bnl bml q0 q1 q2 q3 r0 r1 r2 r3
              go_wp2
              go_roundw
              case rel => exact ⟨k + 1, by omega, by go_num, HBR.out⟩
              case measure => simp [intOf]; omega
        · have hd : decide ((k : Int) < (N.length : Int)) = false := by simp; omega
          have hml2 : ((N.length : Int) == (L.length : Int)) = true := by rw [HNL.out]; simp
          have HBR := Lib.hid hBr
          clear hBr
          go_wp2
          go_ret
          exact ⟨rfl, HB.out.trans (HBR.out.mono HB.out.size)⟩
  · have hl1 : (1048576 : Int) < n := by omega
    go_enter Try.func5, Try.ntmps5
    go_wp2
    go_ret
    exact ⟨rfl, Below.refl _ _⟩
set_option maxRecDepth 100000 in
theorem lifted (os : Os) (started : os.Started) (H : Type) (enc : TypeId × Value → H) :
    ReturnsInHanded {} Try.checked os 5 .any (Rows.fnPackRectsSpec.pre6 enc Try.prog Try.f5 Rows.fnPackRectsRow.domain false) (Rows.fnPackRectsSpec.post enc Try.prog Try.f5 false true false false) := by
  refine returnsInHanded_of_change (C := Try.checked) own started (by kernel_rfl) Try.func5
    (ChangeSpec.witness6 (enc := enc) (C := Try.checked) false ⟨#[], #[.slice none 0 0], []⟩ 8 (by kernel_rfl) (by kernel_rfl) (by kernel_rfl) (by kernel_rfl)) ?_
  intro W base args ds gs before hval0 hW hcnd _
  have hval : ∀ (j : Nat) t v, Try.f5.params[j]? = some t → args[j]? = some v → Value.okWide Try.prog W .any base t v := hval0
  have hW' := hW
  obtain ⟨p, q, hA0, hV, rfl, hfz, hnd⟩ := hW
  have hA : DataW.TrodAll enc Try.prog W 0 (fun _ => true) true Try.f5.params.toList args.toList ds p := hA0
  rw [Try.params5] at hA hval
  obtain ⟨v0, vs0, d0, ds0, p0, q0, hargs, rfl, rfl, h0, r0⟩ := trodAll_cons hA
  obtain ⟨rfl, rfl, rfl⟩ := trodAll_nil r0
  obtain rfl : args = #[v0] := by cases args; simp_all
  obtain ⟨rfl, rfl⟩ := trodVars_none hV
  have k0 := h0
  have lt0 : ∀ x ∈ p0, x.block < W.heap.size := by obtain ⟨m, hm⟩ := k0; exact DataW.trod_lt m _ _ _ hm
  obtain ⟨a0, len0, cap0, rfl⟩ := okWide_slice Try.underlying29 (hval 0 29 v0 rfl rfl)
  obtain ⟨z0, wz0⟩ : ∃ zs, IsRow .u8 W a0 len0 cap0 zs := by
    obtain ⟨fuel, hf⟩ := h0
    rcases open_ints Try.underlying29 Try.underlying5 (by kernel_rfl) hf with ⟨hcs, _⟩ | ⟨x, l, c, zs, hcs, _, hl, hm, hz, _, hcell, hwz⟩
    · simp [Value.cells] at hcs
      obtain ⟨rfl, rfl, rfl⟩ := hcs
      exact ⟨[], .inl ⟨rfl, rfl, rfl, rfl⟩⟩
    · simp [Value.cells] at hcs
      obtain ⟨rfl, rfl, rfl⟩ := hcs
      exact ⟨zs, .inr ⟨_, rfl, hl, hm, by simpa using hz, hcell, hwz⟩⟩
  clear hA0 hval0
  refine (walk a0 len0 cap0 z0 W wz0).mono fun e W' ⟨he, bel⟩ => ?_
  subst he
  exact ⟨_, rfl, _, _, _, [], _, [], hW', trodAll_mk1 (shut_bool Try.underlying4 _), (trodAll_cons_mk (Below.trod laidOut (by kernel_rfl) (of_decide_eq_true (by kernel_rfl)) k0 bel lt0) trodAll_mk0), rfl, bel.frame _, fun h => by cases h⟩
theorem over : Rows.fnPackRectsRow.holds Try.pinned (OpenSpec.ofChange Rows.fnPackRectsSpec) :=
  OpenClaim.holds_of_wide 5 Try.f5 rfl rfl rfl rfl rfl rfl rfl ⟨rfl, rfl, rfl, rfl, rfl⟩ rfl rfl rfl rfl rfl (by kernel_rfl) Try.func5 (by kernel_rfl)
    (of_decide_eq_true (by kernel_rfl)) (by unfold Func.isWrapper; first | (rw [if_pos (by decide +kernel)]; kernel_rfl) | (rw [if_neg (by decide +kernel)]; exact ⟨rfl, rfl⟩))
    (fun os started H enc _ => lifted os started H enc)
theorem proved : Rows.FnPackRectsSaid := over
end Go.Proofs.Ytjdjahckdgbkbab.lPackRects
