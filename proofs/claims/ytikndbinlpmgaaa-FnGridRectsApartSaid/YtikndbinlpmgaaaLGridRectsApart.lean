/- FnGridRectsApart: for every code the law returns true. No condition. -/
import Derived.Test.YtikndbinlpmgaaaQ17
import Derived.Deep.DeepCutAuto
import Derived.Deep.LoopGhost
namespace Go.Proofs.Ytikndbinlpmgaaa.lGridRectsApart
open Go.ChangeShapes Go.WideShapes Go.ChangeAt Go.RowKit Go.Joins
set_option linter.unusedVariables false
set_option maxHeartbeats 8000000
attribute [local go_sem] growUpon_value growUpon_skip growUpon_enter
theorem take_mono {S : List Int} (h : ∀ x ∈ S, 0 ≤ x) {a b : Nat} (hab : a ≤ b) : sumI (S.take a) ≤ sumI (S.take b) := by
  have h1 := take_seg S a (b - a)
  rw [show a + (b - a) = b by omega] at h1
  have h2 := sumI_nonneg (L := segI S a (b - a)) (fun x hx => h x (segI_mem hx))
  omega
def rnC (c : Ce) : Prop := ((0 ≤ c.co ∧ c.co ≤ 5) ∧ (0 ≤ c.mc ∧ c.mc ≤ 5)) ∧ ((0 ≤ c.ro ∧ c.ro ≤ 5) ∧ (0 ≤ c.mr ∧ c.mr ≤ 5))
theorem rnC_of {L1 L2 : List Ln} {L3 : List Ce} (g : GF L1 L2 L3) {c : Ce} (hc : c ∈ L3) : rnC c := by
  have s1 := g.s1; have s2 := g.s2
  simp only [spansB, Bool.and_eq_true, List.all_eq_true] at s1 s2
  have h1 := s1.2 (acM c) (List.mem_map_of_mem hc)
  have h2 := s2.2 (dnM c) (List.mem_map_of_mem hc)
  simp only [spanB, runB, Bool.and_eq_true, rng_iff, acM, dnM] at h1 h2
  have n1 := g.n1; have n2 := g.n2
  unfold rnC
  omega
theorem off_apart {S1 S2 : List Int} {p q : Ce} (h1 : ∀ x ∈ S1, 0 ≤ x) (h2 : ∀ x ∈ S2, 0 ≤ x) (hp : smC p) (hq : smC q) (rp : rnC p) (rq : rnC q) :
    (p.co + p.mc ≤ q.co → (cellR S1 S2 p).x + (cellR S1 S2 p).u ≤ (cellR S1 S2 q).x) ∧ (p.ro + p.mr ≤ q.ro → (cellR S1 S2 p).y + (cellR S1 S2 p).v ≤ (cellR S1 S2 q).y) := by
  have c1 := cell_in h1 h2 hp
  have c2 := cell_in h1 h2 hq
  have t1 := take_seg S1 p.co.toNat p.mc.toNat
  have t2 := take_seg S2 p.ro.toNat p.mr.toNat
  unfold rnC at rp rq
  simp only [areaR] at c1 c2
  refine ⟨fun h => ?_, fun h => ?_⟩
  · have m := take_mono h1 (show p.co.toNat + p.mc.toNat ≤ q.co.toNat by omega)
    omega
  · have m := take_mono h2 (show p.ro.toNat + p.mr.toNat ≤ q.ro.toNat by omega)
    omega
def apB (p q : Ce) : Prop := p.co + p.mc ≤ q.co ∨ q.co + q.mc ≤ p.co ∨ p.ro + p.mr ≤ q.ro ∨ q.ro + q.mr ≤ p.ro
/-- what the law asks of two rectangles -/
theorem pairs {L1 L2 : List Ln} {L3 : List Ce} {u v : Int} {i k : Nat} {r1 r2 : Re} (hi : (grM L1 L2 L3 u v)[i]? = some r1) (hk : (grM L1 L2 L3 u v)[k]? = some r2) :
    ∃ p q, L3[i]? = some p ∧ L3[k]? = some q ∧ (rnC p ∧ rnC q) ∧ (meetB r1.x r1.y r1.u r1.v r2.x r2.y r2.u r2.v = true → ¬ apB p q) := by
  unfold grM at hi hk
  split at hk
  · rename_i h
    rw [if_pos h] at hi
    simp only [Bool.and_eq_true] at h
    obtain ⟨hu, hv⟩ := rgG_yes h.2
    have gf := GF.of h.1
    rw [List.getElem?_map] at hi hk
    cases hp : L3[i]? with
    | none => rw [hp] at hi; cases hi
    | some p =>
      cases hq : L3[k]? with
      | none => rw [hq] at hk; cases hk
      | some q =>
        rw [hp] at hi
        rw [hq] at hk
        have e1 : cellR (sizedM L1 (L3.map acM) u) (sizedM L2 (L3.map dnM) v) p = r1 := Option.some.inj hi
        have e2 : cellR (sizedM L1 (L3.map acM) u) (sizedM L2 (L3.map dnM) v) q = r2 := Option.some.inj hk
        have z1 := SzB.of gf.v1 gf.s1 hu.1 hu.2
        have z2 := SzB.of gf.v2 gf.s2 hv.1 hv.2
        have mp := List.mem_of_getElem? hp
        have mq := List.mem_of_getElem? hq
        have rp := rnC_of gf mp
        have rq := rnC_of gf mq
        have o1 := off_apart z1.1 z2.1 (gf.hsm p mp) (gf.hsm q mq) rp rq
        have o2 := off_apart z1.1 z2.1 (gf.hsm q mq) (gf.hsm p mp) rq rp
        rw [e1, e2] at o1 o2
        refine ⟨p, q, rfl, rfl, ⟨rp, rq⟩, fun hm ha => ?_⟩
        have hh := hitB_iff.1 (meetB_yes hm).2.2
        have x1 := mn_spec (r1.x + r1.u) (r2.x + r2.u); have x2 := mx_spec r1.x r2.x
        have x3 := mn_spec (r1.y + r1.v) (r2.y + r2.v); have x4 := mx_spec r1.y r2.y
        unfold apB at ha
        rcases ha with ha | ha | ha | ha
        · have := o1.1 ha; omega
        · have := o2.1 ha; omega
        · have := o1.2 ha; omega
        · have := o2.2 ha; omega
  · simp at hk
theorem newS1 {w : World} {o : Obj} {n : Nat} (h : w.heap.size = n) : (w.alloc o).heap[n]? = some o := h ▸ newS w o
theorem rer {w : World} {A : Option Addr} {c : Nat} {M : List Re} (h : ReV w A M) : ReR w (.slice A M.length c) M := ⟨A, c, rfl, h⟩
theorem gr_len {L1 L2 : List Ln} {L3 : List Ce} {u v : Int} : (grM L1 L2 L3 u v).length ≤ 8 ∧ (¬ (grM L1 L2 L3 u v).length = 0 → (grM L1 L2 L3 u v).length = L3.length) := by
  unfold grM
  split
  · rename_i h
    simp only [Bool.and_eq_true] at h
    have := (GF.of h.1).hl8
    rw [List.length_map]; omega
  · simp
set_option maxRecDepth 100000 in
theorem walk (A : Option Addr) (n c : Nat) (z : List Int) (w : World) (wz : IsRow .u8 w A n c z) : Calls Try.prog 4 #[.slice A n c] w fun e w' => e = .returned (.bool true) ∧ Below w.heap.size w w' := by
  obtain ⟨hb, hn, hc⟩ := wz.bts
  clear wz
  by_cases hlen : n ≤ 1048576
  · have hl1 : ¬ (1048576 : Int) < n := by omega
    go_enter Try.func4, Try.ntmps4
    go_wp2_with fail
    with_reducible refine (DrawGridRects_any A n c _ hb hn hc).mono ?_
    rintro e w1 ⟨⟨A1, c1, L1, A2, c2, L2, A3, c3, L3, u, v, rfl, hv1, hv2, hv3, ⟨h15, h25, h38⟩, hcap1, hcap2, hcap3, ⟨hu1, hu2⟩, ⟨hw1, hw2⟩⟩, hB⟩
    have hb2 : Below w1.heap.size w1 (w1.alloc (.cells #[.slice A1 L1.length c1, .slice A2 L2.length c2, .slice A3 L3.length c3] 26 (0, 0))) := balloc (Below.refl _ _)
    have HX := Lib.hid (newS w1 (.cells #[.slice A1 L1.length c1, .slice A2 L2.length c2, .slice A3 L3.length c3] 26 (0, 0)))
    have HV1 := Lib.hid (hv1.keep hb2)
    have HV2 := Lib.hid (hv2.keep hb2)
    have HV3 := Lib.hid (hv3.keep hb2)
    have HB := Lib.hid (bkeep2 hB hb2)
    have k1 : L1.length ≤ 1048576 := by omega
    have k2 : L2.length ≤ 1048576 := by omega
    have k3 : L3.length ≤ 1048576 := by omega
    have HF := Lib.hid (fun (i k : Nat) (r1 r2 : Re) => pairs (L1 := L1) (L2 := L2) (L3 := L3) (u := u) (v := v) (i := i) (k := k) (r1 := r1) (r2 := r2))
    have HL := gr_len (L1 := L1) (L2 := L2) (L3 := L3) (u := u) (v := v)
    obtain ⟨M, hM⟩ : ∃ M, grM L1 L2 L3 u v = M := ⟨_, rfl⟩
    rw [hM] at HL
    rw [hM] at HF
    have HM := Lib.hid hM
    obtain ⟨hl8, hll⟩ := HL
    clear hb hn hc hB hb2 hv1 hv2 hv3 hM
    have d0 := cellS HX.out 0
    have d1 := cellS HX.out 1
    have d2 := cellS HX.out 2
    go_wp2_with fail
    with_reducible refine (GridRects_v A1 c1 L1 A2 c2 L2 A3 c3 L3 u v _ HV1.out HV2.out HV3.out k1 k2 k3).mono ?_
    rintro e w2 ⟨⟨x, rfl, hx⟩, hb⟩
    rw [HM.out] at hx
    obtain ⟨A4, c4, rfl, hre⟩ := hx.rv
    have HRE := Lib.hid hre
    clear d0 d1 d2 hx hre
    replace HX := Lib.hid ((hb.block _ (Array.getElem?_eq_some_iff.1 HX.out).1).trans HX.out)
    replace HV1 := Lib.hid (HV1.out.keep hb)
    replace HV2 := Lib.hid (HV2.out.keep hb)
    replace HV3 := Lib.hid (HV3.out.keep hb)
    replace HB := Lib.hid (bkeep2 HB.out hb)
    clear hb
    have d0 := cellS HX.out 0
    have d1 := cellS HX.out 1
    have d2 := cellS HX.out 2
    go_wp2_with fail
    with_reducible refine (sGridRects_v A1 c1 L1 A2 c2 L2 A3 c3 L3 u v _ HV1.out HV2.out HV3.out k1 k2 k3 hcap1 hcap2).mono ?_
    rintro e w3 ⟨⟨x3, rfl, hx3⟩, hb⟩
    rw [HM.out] at hx3
    obtain ⟨A5, c5, rfl, hre5⟩ := hx3
    have HS := Lib.hid hre5
    clear d0 d1 d2 hre5
    replace HX := Lib.hid ((hb.block _ (Array.getElem?_eq_some_iff.1 HX.out).1).trans HX.out)
    replace HV1 := Lib.hid (HV1.out.keep hb)
    replace HV2 := Lib.hid (HV2.out.keep hb)
    replace HV3 := Lib.hid (HV3.out.keep hb)
    replace HRE := Lib.hid (HRE.out.keep hb)
    replace HB := Lib.hid (bkeep2 HB.out hb)
    clear hb
    go_wp2_with fail
    with_reducible refine (equalRects_g _ _ M _ (rer HRE.out) (rer HS.out) (by omega)).mono ?_
    rintro e w4 ⟨rfl, hb⟩
    replace HX := Lib.hid ((hb.block _ (Array.getElem?_eq_some_iff.1 HX.out).1).trans HX.out)
    replace HV1 := Lib.hid (HV1.out.keep hb)
    replace HV2 := Lib.hid (HV2.out.keep hb)
    replace HV3 := Lib.hid (HV3.out.keep hb)
    replace HRE := Lib.hid (HRE.out.keep hb)
    replace HB := Lib.hid (bkeep2 HB.out hb)
    clear hb
    clear HS
    have d0 := cellS HX.out 0
    have d1 := cellS HX.out 1
    have d2 := cellS HX.out 2
    by_cases hz : M.length = 0
    · have e0 : decide ((M.length : Int) = 0) = true := decide_eq_true (by omega)
      have hz' : ((M.length : Nat) : Int) = 0 := by omega
      clear hll hl8 hz
      go_wp2_with fail
      with_reducible refine (sGridRects_v A1 c1 L1 A2 c2 L2 A3 c3 L3 u v _ HV1.out HV2.out HV3.out k1 k2 k3 hcap1 hcap2).mono ?_
      rintro e w5 ⟨⟨x5, rfl, hx5⟩, hb⟩
      rw [HM.out] at hx5
      obtain ⟨A6, c6, rfl, hre6⟩ := hx5
      have HS := Lib.hid hre6
      clear d0 d1 d2 hre6
      replace HRE := Lib.hid (HRE.out.keep hb)
      replace HB := Lib.hid (bkeep2 HB.out hb)
      clear hb
      go_wp2_with fail
      with_reducible refine (equalRects_g _ _ M _ (rer HRE.out) (rer HS.out) (by omega)).mono ?_
      rintro e w6 ⟨rfl, hb⟩
      replace HB := Lib.hid (bkeep2 HB.out hb)
      clear hb
      go_wp2
      go_ret
      exact ⟨rfl, HB.out⟩
    · have e0 : decide ((M.length : Int) = 0) = false := decide_eq_false (by omega)
      have e0' : (((M.length : Nat) : Int) == 0) = false := by rw [beq_eq_false_iff_ne]; omega
      have hz' : ¬ ((M.length : Nat) : Int) = 0 := by omega
      obtain hLL := hll hz
      have hLI : (M.length : Int) = (L3.length : Int) := by omega
      have HLL := Lib.hid hLL
      have HLI := Lib.hid hLI
      have hzp : 0 < M.length := by omega
      clear hll hLL hLI hz
      obtain ⟨b', off', rfl, -, -⟩ := HV3.out.cells (by have := HLL.out; omega)
      obtain ⟨b, off, rfl, -, -⟩ := HRE.out.cells hzp
      have lx := ltS HX.out
      go_wp2_with fail
      go_loopw [7] (fun i wr => ∃ k : Nat, k ≤ M.length ∧ i = .int .i64 k ∧ Below w4.heap.size w4 wr) (fun i _ => M.length - (intOf i).toNat)
      case atStart => exact ⟨0, by omega, rfl, Below.refl _ _⟩
      case round =>
        obtain ⟨k, hk, rfl, hBr⟩ := hrel
        clear d0 d1 d2
        by_cases hlt : k < M.length
        · have hd : decide ((k : Int) < (M.length : Int)) = true := by simpa using hlt
          have HBR := Lib.hid hBr
          clear hBr
          go_wp2_with fail
          go_loopg [8] k (fun g i wr2 => ∃ j : Nat, j ≤ k ∧ g = k - j ∧ i = .int .i64 j ∧ Below w4.heap.size w4 wr2)
          case atStart => exact ⟨0, by omega, by omega, rfl, HBR.out⟩
          case round =>
            obtain ⟨j, hj, rfl, rfl, hBq⟩ := hrel
            clear HBR
            by_cases hjk : j < k
            · have hd2 : decide ((j : Int) < (k : Int)) = true := by simpa using hjk
              have hjl : j < M.length := by omega
              have hlt3 : k < L3.length := by have := HLL.out; omega
              have hjt3 : j < L3.length := by have := HLL.out; omega
              have hxg := (hBq.block _ lx).trans HX.out
              have d2 := cellS hxg 2
              have lxg := ltS hxg
              have hgk : M[k]? = some M[k] := List.getElem?_eq_getElem hlt
              have hgj : M[j]? = some M[j] := List.getElem?_eq_getElem hjl
              obtain ⟨p, q, hp, hq, ⟨rp, rq⟩, hno⟩ := HF.out j k _ _ hgj hgk
              obtain ⟨b2, off2, e2, hb', hc'⟩ := (HV3.out.keep hBq).cells (by omega)
              cases e2
              obtain ⟨s0, s1, s2, s3, s4, s5, s6, s7, s8⟩ := hc' j _ hp
              obtain ⟨t0, t1, t2, t3, t4, t5, t6, t7, t8⟩ := hc' k _ hq
              generalize M[k] = r2 at *
              generalize M[j] = r1 at *
              have HNO := Lib.hid hno
              have HGK := Lib.hid hgk
              have HGJ := Lib.hid hgj
              have HBQ := Lib.hid hBq
              clear hno hgk hgj hBq hc' hp hq hxg
              go_upto_region 15 with (fail)
              refine wp_genGS (fun W => W.heap[wr.heap.size]? = some (.cells #[.int .i64 p.co, .int .i64 p.ro, .int .i64 p.mc, .int .i64 p.mr, .int .i64 p.cw, .int .i64 p.ch, .int .i64 p.sk, .int .i64 p.px, .int .i64 p.py] 37 (0, 0)) ∧ W.heap[wr.heap.size + 1]? = some (.cells #[.int .i64 q.co, .int .i64 q.ro, .int .i64 q.mc, .int .i64 q.mr, .int .i64 q.cw, .int .i64 q.ch, .int .i64 q.sk, .int .i64 q.px, .int .i64 q.py] 37 (0, 0)) ∧ Below w4.heap.size w4 W) ⟨(Below.heap_alloc _ _ _ (by simp)).trans (newS _ _), newS1 (by simp), balloc (balloc HBQ.out)⟩ (fun W hW => ?_)
              clear HBQ s0 s1 s2 s3 s4 s5 s6 s7 s8 t0 t1 t2 t3 t4 t5 t6 t7 t8 d2
              obtain ⟨hcp, hcq, hBW⟩ := hW
              obtain ⟨⟨⟨u1, u2⟩, u3, u4⟩, ⟨u5, u6⟩, u7, u8⟩ := rp
              obtain ⟨⟨⟨y1, y2⟩, y3, y4⟩, ⟨y5, y6⟩, y7, y8⟩ := rq
              obtain ⟨b3, off3, e3, hb, hc⟩ := (HRE.out.keep hBW).cells (by omega)
              cases e3
              obtain ⟨q0, q1, q2, q3⟩ := hc k _ HGK.out
              obtain ⟨z0, z1, z2, z3⟩ := hc j _ HGJ.out
              have p0 := cellS hcp 0
              have p1 := cellS hcp 1
              have p2 := cellS hcp 2
              have p3 := cellS hcp 3
              have x0 := cellS hcq 0
              have x1 := cellS hcq 1
              have x2 := cellS hcq 2
              have x3 := cellS hcq 3
              have HBW := Lib.hid hBW
              clear hc hcp hcq hBW
              go_cut [11] (fun s wx => ∃ t : Bool, s = .bool t ∧ (t = true → apB p q) ∧ wx = W)
              case first =>
                have five : decide (p.co + p.mc ≤ q.co) = true ∨ (decide (p.co + p.mc ≤ q.co) = false ∧ decide (q.co + q.mc ≤ p.co) = true) ∨ (decide (p.co + p.mc ≤ q.co) = false ∧ decide (q.co + q.mc ≤ p.co) = false ∧ decide (p.ro + p.mr ≤ q.ro) = true) ∨ (decide (p.co + p.mc ≤ q.co) = false ∧ decide (q.co + q.mc ≤ p.co) = false ∧ decide (p.ro + p.mr ≤ q.ro) = false ∧ decide (q.ro + q.mr ≤ p.ro) = true) ∨ (decide (p.co + p.mc ≤ q.co) = false ∧ decide (q.co + q.mc ≤ p.co) = false ∧ decide (p.ro + p.mr ≤ q.ro) = false ∧ decide (q.ro + q.mr ≤ p.ro) = false) := by
                  simp only [decide_eq_true_eq, decide_eq_false_iff_not]; omega
                rcases five with a1 | ⟨a1, a2⟩ | ⟨a1, a2, a3⟩ | ⟨a1, a2, a3, a4⟩ | ⟨a1, a2, a3, a4⟩
                · go_wp2
                  go_meet
                  exact ⟨true, rfl, fun _ => .inl (of_decide_eq_true a1), rfl⟩
                · go_wp2
                  go_meet
                  exact ⟨true, rfl, fun _ => .inr (.inl (of_decide_eq_true a2)), rfl⟩
                · go_wp2
                  go_meet
                  exact ⟨true, rfl, fun _ => .inr (.inr (.inl (of_decide_eq_true a3))), rfl⟩
                · go_wp2
                  go_meet
                  exact ⟨true, rfl, fun _ => .inr (.inr (.inr (of_decide_eq_true a4))), rfl⟩
                · go_wp2
                  go_meet
                  exact ⟨false, rfl, (fun h => by cases h), rfl⟩
              case rest =>
                obtain ⟨t, rfl, ht, rfl⟩ := hcut
                clear p0 p1 p2 p3 x0 x1 x2 x3
                cases hm : meetB r1.x r1.y r1.u r1.v r2.x r2.y r2.u r2.v
                · have HMT := Lib.hid hm
                  clear hm HNO ht
                  go_wp2_with fail
                  refine wp_named (fun W1 e1 => ?_)
                  replace e1 := Lib.hid e1
                  refine wp_region_grow 12 3 (fun i => decide (i < 13) && i != 11) (by kernel_rfl) (by kernel_rfl) rfl ?_
                  iterate 12 (refine wpG_step (fun K hK => ?_); apply Exists.intro; refine ⟨.inl ⟨rfl, fun w' hw' => ?_⟩, ?_⟩; (focus ((obtain ⟨hc, hf⟩ := bcell hw'.out); (have hcS := bcellS hw'.out); go_simp <;> first | rfl | (go_at_call 16; exact MeetRects_no r1.x r1.y r1.u r1.v r2.x r2.y r2.u r2.v _ HMT.out))); (go_simp; refine hK _ ?_; clear hK K))
                  refine wpG_nil ?_
                  refine wpK_one (i := 12) (by kernel_rfl) rfl rfl (by kernel_rfl) (fun w1_0 h1_0 => ?_)
                  go_simp
                  refine ⟨Gr.alloc _ _, ?_⟩
                  refine wpK_tail (by kernel_rfl) (fun w1_9 h1_9 => ?_)
                  obtain ⟨hc1_9, hf1_9⟩ := bcell h1_9.out
                  refine wpAny_one (i := 13) (by kernel_rfl) rfl rfl ?_
                  go_simp
                  refine wpAny_one (i := 14) (by kernel_rfl) rfl rfl ?_
                  go_simp
                  refine wpAny_end (by kernel_rfl) ?_
                  have s1_a : W1.heap.size ≤ w1_9.heap.size := by rw [e1.out]; exact Nat.le_trans h1_0.out.size (Nat.le_trans (by simp) h1_9.out.size)
                  have s1_b : W1.heap.size ≤ w1_0.heap.size := by rw [e1.out]; exact h1_0.out.size
                  have s1_c : w1_0.heap.size < w1_9.heap.size := by have := h1_9.out.size; simp at this; omega
                  have b1_a : Below W1.heap.size W1 w1_9 := by rw [e1.out]; exact bgrow (balloc (bgrow (Below.refl _ _).drew h1_0)) h1_9
                  refine NoPan.gen (fun wf => Below W1.heap.size W1 wf ∧ W1.heap.size ≤ w1_0.heap.size ∧ w1_0.heap.size < wf.heap.size ∧ wf.cell? ⟨w1_0.heap.size, 0, none⟩ = some (.int .i64 0) ∧ wf.frozen? ⟨w1_0.heap.size, 0, none⟩ = false ∧ wf.cell? ⟨w1_0.heap.size, 1, none⟩ = some (.int .i64 0) ∧ wf.frozen? ⟨w1_0.heap.size, 1, none⟩ = false ∧ wf.cell? ⟨w1_0.heap.size, 2, none⟩ = some (.int .i64 0) ∧ wf.frozen? ⟨w1_0.heap.size, 2, none⟩ = false ∧ wf.cell? ⟨w1_0.heap.size, 3, none⟩ = some (.int .i64 0) ∧ wf.frozen? ⟨w1_0.heap.size, 3, none⟩ = false) ?_ (fun wf1 hwf1 => ?_)
                  · refine ⟨by repeat (first | exact b1_a | (refine bset ?_ ?_; rotate_left; ((try dsimp only); omega))), ?_⟩
                    refine ⟨s1_b, ?_⟩
                    refine ⟨by simp; omega, ?_⟩
                    go_simp
                  generalize hgb1 : w1_0.heap.size = b1 at *
                  have E := e1.out
                  subst E
                  obtain ⟨hB1, hl1, hu1, c1_0, f1_0, c1_1, f1_1, c1_2, f1_2, c1_3, f1_3⟩ := hwf1
                  try simp only [World.size_alloc] at hl1
                  clear hgb1 e1 hc1_9 hf1_9 s1_a s1_b s1_c b1_a h1_9 w1_9 h1_0 w1_0
                  obtain ⟨hc1, hf1⟩ := bcell hB1
                  replace HBW := Lib.hid (bkeep2 HBW.out hB1)
                  clear hB1 hc1 hf1 q0 q1 q2 q3 z0 z1 z2 z3
                  go_wp2
                  go_roundg (k - (j + 1))
                  case measure => omega
                  case rel => exact ⟨j + 1, by omega, rfl, by go_num, HBW.out⟩
                · have hna := HNO.out hm
                  obtain rfl : t = false := by
                    cases t
                    · rfl
                    · exact absurd (ht rfl) hna
                  obtain ⟨X, hX⟩ : ∃ X, mx r1.x r2.x = X := ⟨_, rfl⟩
                  obtain ⟨Y, hY⟩ : ∃ Y, mx r1.y r2.y = Y := ⟨_, rfl⟩
                  obtain ⟨U, hU⟩ : ∃ U, mn (r1.x + r1.u) (r2.x + r2.u) - X = U := ⟨_, rfl⟩
                  obtain ⟨V, hV⟩ : ∃ V, mn (r1.y + r1.v) (r2.y + r2.v) - Y = V := ⟨_, rfl⟩
                  have HCA := Lib.hid (fun w0 => meet_v r1.x r1.y r1.u r1.v r2.x r2.y r2.u r2.v X Y U V w0 hm hX hY hU hV)
                  clear hm HNO hna hX hY hU hV ht
                  go_wp2_with fail
                  refine wp_named (fun W2 e2 => ?_)
                  replace e2 := Lib.hid e2
                  refine wp_region_grow 12 3 (fun i => decide (i < 13) && i != 11) (by kernel_rfl) (by kernel_rfl) rfl ?_
                  iterate 12 (refine wpG_step (fun K hK => ?_); apply Exists.intro; refine ⟨.inl ⟨rfl, fun w' hw' => ?_⟩, ?_⟩; (focus ((obtain ⟨hc, hf⟩ := bcell hw'.out); (have hcS := bcellS hw'.out); go_simp <;> first | rfl | (go_at_call 16; exact HCA.out _))); (go_simp; refine hK _ ?_; clear hK K))
                  refine wpG_nil ?_
                  refine wpK_one (i := 12) (by kernel_rfl) rfl rfl (by kernel_rfl) (fun w2_0 h2_0 => ?_)
                  go_simp
                  refine ⟨Gr.alloc _ _, ?_⟩
                  refine wpK_tail (by kernel_rfl) (fun w2_9 h2_9 => ?_)
                  obtain ⟨hc2_9, hf2_9⟩ := bcell h2_9.out
                  refine wpAny_one (i := 13) (by kernel_rfl) rfl rfl ?_
                  go_simp
                  refine wpAny_one (i := 14) (by kernel_rfl) rfl rfl ?_
                  go_simp
                  refine wpAny_end (by kernel_rfl) ?_
                  have s2_a : W2.heap.size ≤ w2_9.heap.size := by rw [e2.out]; exact Nat.le_trans h2_0.out.size (Nat.le_trans (by simp) h2_9.out.size)
                  have s2_b : W2.heap.size ≤ w2_0.heap.size := by rw [e2.out]; exact h2_0.out.size
                  have s2_c : w2_0.heap.size < w2_9.heap.size := by have := h2_9.out.size; simp at this; omega
                  have b2_a : Below W2.heap.size W2 w2_9 := by rw [e2.out]; exact bgrow (balloc (bgrow (Below.refl _ _).drew h2_0)) h2_9
                  refine NoPan.gen (fun wf => Below W2.heap.size W2 wf ∧ W2.heap.size ≤ w2_0.heap.size ∧ w2_0.heap.size < wf.heap.size ∧ wf.cell? ⟨w2_0.heap.size, 0, none⟩ = some (.int .i64 X) ∧ wf.frozen? ⟨w2_0.heap.size, 0, none⟩ = false ∧ wf.cell? ⟨w2_0.heap.size, 1, none⟩ = some (.int .i64 Y) ∧ wf.frozen? ⟨w2_0.heap.size, 1, none⟩ = false ∧ wf.cell? ⟨w2_0.heap.size, 2, none⟩ = some (.int .i64 U) ∧ wf.frozen? ⟨w2_0.heap.size, 2, none⟩ = false ∧ wf.cell? ⟨w2_0.heap.size, 3, none⟩ = some (.int .i64 V) ∧ wf.frozen? ⟨w2_0.heap.size, 3, none⟩ = false) ?_ (fun wf2 hwf2 => ?_)
                  · refine ⟨by repeat (first | exact b2_a | (refine bset ?_ ?_; rotate_left; ((try dsimp only); omega))), ?_⟩
                    refine ⟨s2_b, ?_⟩
                    refine ⟨by simp; omega, ?_⟩
                    go_simp
                  generalize hgb2 : w2_0.heap.size = b2 at *
                  have E := e2.out
                  subst E
                  obtain ⟨hB2, hl2, hu2, c2_0, f2_0, c2_1, f2_1, c2_2, f2_2, c2_3, f2_3⟩ := hwf2
                  try simp only [World.size_alloc] at hl2
                  clear hgb2 e2 hc2_9 hf2_9 s2_a s2_b s2_c b2_a h2_9 w2_9 h2_0 w2_0
                  obtain ⟨hc2, hf2⟩ := bcell hB2
                  replace HBW := Lib.hid (bkeep2 HBW.out hB2)
                  clear hB2 hc2 hf2 q0 q1 q2 q3 z0 z1 z2 z3
                  go_wp2
                  go_roundg (k - (j + 1))
                  case measure => omega
                  case rel => exact ⟨j + 1, by omega, rfl, by go_num, HBW.out⟩
            · have hd2 : decide ((j : Int) < (k : Int)) = false := decide_eq_false (by omega)
              have HBQ := Lib.hid hBq
              clear hBq
              go_wp2
              go_roundw
              case rel => exact ⟨k + 1, by omega, by go_num, HBQ.out⟩
              case measure => simp [intOf]; omega
        · have hd : decide ((k : Int) < (M.length : Int)) = false := decide_eq_false (by omega)
          have HBR := Lib.hid (HB.out.trans (hBr.mono HB.out.size))
          clear hBr
          go_wp2
          go_ret
          exact ⟨rfl, HBR.out⟩
  · have hl1 : (1048576 : Int) < n := by omega
    go_enter Try.func4, Try.ntmps4
    go_wp2
    go_ret
    exact ⟨rfl, Below.refl _ _⟩
set_option maxRecDepth 100000 in
theorem lifted (os : Os) (started : os.Started) (H : Type) (enc : TypeId × Value → H) :
    ReturnsInHanded {} Try.checked os 4 .any (Rows.fnGridRectsApartSpec.pre6 enc Try.prog Try.f4 Rows.fnGridRectsApartRow.domain false) (Rows.fnGridRectsApartSpec.post enc Try.prog Try.f4 false true false false) := by
  refine returnsInHanded_of_change (C := Try.checked) own started (by kernel_rfl) Try.func4
    (ChangeSpec.witness6 (enc := enc) (C := Try.checked) false ⟨#[], #[.slice none 0 0], []⟩ 8 (by kernel_rfl) (by kernel_rfl) (by kernel_rfl) (by kernel_rfl)) ?_
  intro W base args ds gs before hval0 hW hcnd _
  have hval : ∀ (j : Nat) t v, Try.f4.params[j]? = some t → args[j]? = some v → Value.okWide Try.prog W .any base t v := hval0
  have hW' := hW
  obtain ⟨p, q, hA0, hV, rfl, hfz, hnd⟩ := hW
  have hA : DataW.TrodAll enc Try.prog W 0 (fun _ => true) true Try.f4.params.toList args.toList ds p := hA0
  rw [Try.params4] at hA hval
  obtain ⟨v0, vs0, d0, ds0, p0, q0, hargs, rfl, rfl, h0, r0⟩ := trodAll_cons hA
  obtain ⟨rfl, rfl, rfl⟩ := trodAll_nil r0
  obtain rfl : args = #[v0] := by cases args; simp_all
  obtain ⟨rfl, rfl⟩ := trodVars_none hV
  have k0 := h0
  have lt0 : ∀ x ∈ p0, x.block < W.heap.size := by obtain ⟨m, hm⟩ := k0; exact DataW.trod_lt m _ _ _ hm
  obtain ⟨a0, len0, cap0, rfl⟩ := okWide_slice Try.underlying22 (hval 0 22 v0 rfl rfl)
  obtain ⟨z0, wz0⟩ : ∃ zs, IsRow .u8 W a0 len0 cap0 zs := by
    obtain ⟨fuel, hf⟩ := h0
    rcases open_ints Try.underlying22 Try.underlying5 (by kernel_rfl) hf with ⟨hcs, _⟩ | ⟨x, l, c, zs, hcs, _, hl, hm, hz, _, hcell, hwz⟩
    · simp [Value.cells] at hcs
      obtain ⟨rfl, rfl, rfl⟩ := hcs
      exact ⟨[], .inl ⟨rfl, rfl, rfl, rfl⟩⟩
    · simp [Value.cells] at hcs
      obtain ⟨rfl, rfl, rfl⟩ := hcs
      exact ⟨zs, .inr ⟨_, rfl, hl, hm, by simpa using hz, hcell, hwz⟩⟩
  clear hA0 hval0
  refine (walk a0 len0 cap0 z0 W wz0).mono fun e W' ⟨he, bel⟩ => ?_
  subst he
  exact ⟨_, rfl, _, _, _, [], _, [], hW', trodAll_mk1 (shut_bool Try.underlying4 _), (trodAll_cons_mk (Below.trod laidOut (by kernel_rfl) (of_decide_eq_true (by kernel_rfl)) k0 bel lt0) trodAll_mk0), rfl, bel.frame _, fun h => by cases h⟩
theorem over : Rows.fnGridRectsApartRow.holds Try.pinned (OpenSpec.ofChange Rows.fnGridRectsApartSpec) :=
  OpenClaim.holds_of_wide 4 Try.f4 rfl rfl rfl rfl rfl rfl rfl ⟨rfl, rfl, rfl, rfl, rfl⟩ rfl rfl rfl rfl rfl (by kernel_rfl) Try.func4 (by kernel_rfl)
    (of_decide_eq_true (by kernel_rfl)) (by unfold Func.isWrapper; first | (rw [if_pos (by decide +kernel)]; kernel_rfl) | (rw [if_neg (by decide +kernel)]; exact ⟨rfl, rfl⟩))
    (fun os started H enc _ => lifted os started H enc)
theorem proved : Rows.FnGridRectsApartSaid := over
end Go.Proofs.Ytikndbinlpmgaaa.lGridRectsApart
