import Derived.Test.YtnkoeekgdehhiaaPR
namespace Go.Proofs.Ytnkoeekgdehhiaa
open Go.RowKit
set_option linter.unusedVariables false
set_option maxHeartbeats 1000000
attribute [local go_sem 5000] run_mx run_mn
attribute [local go_sem] growUpon_value growUpon_skip growUpon_enter
theorem bp_genP {P : Program} {f : Func} {R : Ending → World → Prop} {e : Exit} {a : Act} {W : World} (F : World → Prop) (hF : F W) (h : ∀ W0, F W0 → bodyPost P f R e a W0) : bodyPost P f R e a W := h W hF
theorem Blk4.far {w : World} {g b : Nat} {M : List Rc} (h : Blk4 w g M) (hne : g ≠ b) (o0 o1 o2 o3 : Nat) (x0 x1 x2 x3 : Value) : Blk4 ((((w.setCell ⟨b, o0, none⟩ x0).setCell ⟨b, o1, none⟩ x1).setCell ⟨b, o2, none⟩ x2).setCell ⟨b, o3, none⟩ x3) g M := by
  obtain ⟨cs, hh, hs, hc⟩ := h
  exact ⟨cs, (pput4o hne _ _ _ _ _ _ _ _).trans hh, hs, hc⟩
theorem vps_drop {L : List Pk} (h : vpsB L = true) (k : Nat) : vpsB (L.drop k) = true := by
  obtain ⟨h1, h2⟩ := vpsB_iff.1 h
  exact vpsB_iff.2 ⟨fun p hp => h1 p (List.mem_of_mem_drop hp), by rw [List.length_drop]; omega⟩
theorem parcM_step {L : List Pk} {k : Nat} {p : Pk} {z : Rc} {M : List Rc} {Z : Rc} (hg : L[k]? = some p) (h : parcM (L.drop k) z = (M.drop k, Z)) :
    M[k]? = some (cutP z p.s (takeOf p (L.drop (k + 1)) z)).1 ∧ parcM (L.drop (k + 1)) (cutP z p.s (takeOf p (L.drop (k + 1)) z)).2 = (M.drop (k + 1), Z) := by
  rw [drop_cons hg] at h
  simp only [parcM, Prod.mk.injEq] at h
  obtain ⟨h1, h2⟩ := h
  have e : M.drop k = (M.drop k)[0]?.toList ++ M.drop (k + 1) := by
    rw [← h1]
    have : M.drop (k + 1) = (M.drop k).drop 1 := by rw [List.drop_drop]
    rw [this, ← h1]; simp
  have g0 : (M.drop k)[0]? = some (cutP z p.s (takeOf p (L.drop (k + 1)) z)).1 := by rw [← h1]; rfl
  refine ⟨by rw [List.getElem?_drop] at g0; simpa using g0, ?_⟩
  have h3 : M.drop (k + 1) = (M.drop k).drop 1 := by rw [List.drop_drop]
  rw [h3, ← h1, ← h2]
  rfl
set_option maxRecDepth 100000 in
theorem packParcels_v (A : Option Addr) (c : Nat) (L : List Pk) (z0 : Rc) (w : World) (h : PV w A L) (hcap : L.length ≤ c) (hL : vpsB L = true) (hz0 : z0.ok = true) (M : List Rc) (Z : Rc) (hM : parcM L z0 = (M, Z)) :
    Calls Try.prog 38 #[.slice A L.length c, .agg #[.int .i64 (z0.x), .int .i64 (z0.y), .int .i64 (z0.u), .int .i64 (z0.v)]] w fun e w' => (∃ g, e = .returned (.tuple #[.slice (some ⟨g, 0, none⟩) L.length L.length, .agg #[.int .i64 (Z.x), .int .i64 (Z.y), .int .i64 (Z.u), .int .i64 (Z.v)]]) ∧ w.heap.size ≤ g ∧ Blk4 w' g M) ∧ Below w.heap.size w w' := by
  obtain ⟨hok, h7⟩ := vpsB_iff.1 hL
  have hML : M.length = L.length := by have := parcM_len (L := L) (z := z0); rw [hM] at this; exact this
  obtain ⟨f, hf, hmk0⟩ := made4
  have hmk : ∀ w : World, (Instr.makeSlice 30 (.int .i64 (L.length : Int)) (.int .i64 (L.length : Int))).run Try.prog w = .ok (.slice (some ⟨w.heap.size, 0, none⟩) L.length L.length) (w.alloc (.cells (f L.length) 37)) := fun w => hmk0 L.length w (by omega)
  have HOK := Lib.hid hok
  have HML := Lib.hid hML
  have HVL := Lib.hid hL
  have HM := Lib.hid hM
  clear hok hML hL hM hmk0
  go_enter Try.func38, Try.ntmps38
  go_wp2_with fail
  have H0 : ∀ (i : Nat) (r : Rc), i < 0 → M[i]? = some r → In4 (f L.length) (i * 4) r := fun i r hi => absurd hi (by omega)
  have HF := Lib.hid (And.intro (hf L.length) H0)
  clear H0 hf hmk
  go_loopw [17] (fun i wr => ∃ k : Nat, k ≤ L.length ∧ i = .int .i64 k ∧ (∃ cs : Array Value, wr.heap[w.heap.size + 1 + 1]? = some (.cells cs 37 (0, 0)) ∧ cs.size = L.length * 4 ∧ ∀ i r, i < k → M[i]? = some r → In4 cs (i * 4) r) ∧
    (∃ z : Rc, wr.heap[w.heap.size]? = some (.cells #[.int .i64 z.x, .int .i64 z.y, .int .i64 z.u, .int .i64 z.v] 37 (0, 0)) ∧ z.ok = true ∧ parcM (L.drop k) z = (M.drop k, Z)) ∧
    wr.heap[w.heap.size + 1]? = some (.cells #[.int .i64 0, .int .i64 0, .int .i64 0, .int .i64 0] 37 (0, 0)) ∧ Below w.heap.size w wr) (fun i _ => L.length - (intOf i).toNat)
  case atStart =>
    refine ⟨0, by omega, rfl, ⟨_, ?_, HF.out.1, HF.out.2⟩, ⟨z0, ?_, hz0, HM.out⟩, ?_, balloc (balloc (balloc (Below.refl _ _)))⟩
    · have e := heap_new ((w.alloc (.cells #[.int .i64 z0.x, .int .i64 z0.y, .int .i64 z0.u, .int .i64 z0.v] 37)).alloc (.cells #[.int .i64 0, .int .i64 0, .int .i64 0, .int .i64 0] 37)) (.cells (f L.length) 37)
      simpa only [World.size_alloc] using e
    · rw [Below.heap_alloc _ _ _ (by simp; omega), Below.heap_alloc _ _ _ (by simp)]; exact heap_new _ _
    · rw [Below.heap_alloc _ _ _ (by simp)]
      have e := heap_new (w.alloc (.cells #[.int .i64 z0.x, .int .i64 z0.y, .int .i64 z0.u, .int .i64 z0.v] 37)) (.cells #[.int .i64 0, .int .i64 0, .int .i64 0, .int .i64 0] 37)
      simpa only [World.size_alloc] using e
  case round =>
    obtain ⟨k, hk, rfl, ⟨cs, hh, hs, hc⟩, ⟨z, hl, hz, hp⟩, hr, hB⟩ := hrel
    clear HF HM
    by_cases hlt : k < L.length
    · have hd : decide ((k : Int) < (L.length : Int)) = true := by simpa using hlt
      obtain ⟨b, off, rfl, hb, hps⟩ := (h.keep hB).cells (by omega)
      obtain ⟨c0, c1, c2, c3, c4, c5, c6, c7, c8⟩ := hps k _ (List.getElem?_eq_getElem hlt)
      have hget : L[k]? = some L[k] := List.getElem?_eq_getElem hlt
      generalize hx : L[k] = p at *
      have hpk : p.ok = true := HOK.out p (List.mem_of_getElem? hget)
      have hdrop := drop_cons hget
      obtain ⟨tk1, tk2⟩ := takeOf_bd (p := p) (r := L.drop (k + 1)) (z := z) (fun q hq => HOK.out q (List.mem_of_mem_drop (by rw [hdrop]; exact hq : q ∈ L.drop k))) hz
      have hw6 : IntKind.i64.wrap (p.need p.down + moreOf (L.drop k) z) = takeOf p (L.drop (k + 1)) z := by
        rw [hdrop]
        exact IntWalk.i64_in _ (by unfold takeOf at tk1 tk2; omega)
      obtain ⟨b1, b2, ⟨b3, b4⟩, b5⟩ := pbd hpk
      have hdl : L.length - k = (L.drop k).length := by rw [List.length_drop]
      have HG := Lib.hid hget
      have HX := Lib.hid hx
      have HH := Lib.hid hh
      have HS := Lib.hid hs
      have HC := Lib.hid hc
      have HL := Lib.hid hl
      have HZ := Lib.hid hz
      have HP := Lib.hid hp
      have HR := Lib.hid hr
      have HBB := Lib.hid hB
      have HPS := Lib.hid hps
      have HPK := Lib.hid hpk
      have HD := Lib.hid hdrop
      have HDL := Lib.hid hdl
      obtain ⟨l0, l1, l2, l3⟩ := cells4 hl
      have hll := (Array.getElem?_eq_some_iff.1 hl).1
      have hln := Nat.ne_of_lt hll
      clear hget hx hh hs hc hl hz hp hr hB hps hpk hdrop hdl b1 b2 b5
      go_wp2_with fail
      have hkL : k ≤ L.length := by omega
      have hLk : ¬ L.length = k := by omega
      refine wp_region_grow 14 1 (· < 14) (by kernel_rfl) (by kernel_rfl) rfl ?_
      iterate 14 (refine wpG_step (fun K hK => ?_); apply Exists.intro; refine ⟨.inl ⟨rfl, fun w' hw' => ?_⟩, ?_⟩; (focus ((obtain ⟨hc, hf⟩ := bcell hw'.out); (have hcS := bcellS hw'.out); go_simp <;> first | rfl | (go_at_call 49; exact isDown_x p _ _) | (go_at_call 50; exact need_v p _ _ HPK.out) | (go_at_call 55; exact share1_n _ _ _ _ _ (L.drop k) p _ z _ HDL.out HD.out ((PV.drop HPS.out hb).keep (bkeep2 (Below.drew (balloc (Below.refl _ _))) hw'.out)) (vps_drop HVL.out k) HZ.out (((bkeep2 (Below.drew (balloc (Below.refl _ _))) hw'.out).block _ hll).trans HL.out)))); (go_simp; refine hK _ ?_; clear hK K))
      refine wpG_nil ?_
      refine wpK_tail (by kernel_rfl) (fun w1 hg1 => ?_)
      refine wpAny_one (i := 14) (by kernel_rfl) rfl rfl ?_
      go_simp
      refine wpAny_end (by kernel_rfl) ?_
      refine NoPan.thn ?_
      have hgl := hg1.out
      have hB1 : Below wr.heap.size wr w1 := bkeep2 (Below.drew (balloc (Below.refl _ _))) hgl
      have hv1 := (hgl.block wr.heap.size (by simp)).trans (heap_new wr (.cells #[.int .i64 p.w, .int .i64 p.h, .int .i64 p.s, .bool p.fx, .bool p.fy, .bool p.ex, .int .i64 p.an, .int .i64 p.px, .int .i64 p.py] 45))
      have HV := Lib.hid hv1
      have HB1 := Lib.hid hB1
      replace HL := Lib.hid ((hB1.block _ hll).trans HL.out)
      have hgg : w.heap.size + 1 + 1 < wr.heap.size := (Array.getElem?_eq_some_iff.1 HH.out).1
      have hrr : w.heap.size + 1 < wr.heap.size := by omega
      replace HH := Lib.hid ((hB1.block _ hgg).trans HH.out)
      replace HR := Lib.hid ((hB1.block _ hrr).trans HR.out)
      obtain ⟨m0, m1, m2, m3⟩ := cells4 HL.out
      have m4 : w1.cell? ⟨wr.heap.size, 2, none⟩ = some (.int .i64 p.s) := cellH hv1 2
      clear hgl hB1 hv1 hg1 c0 c1 c2 c3 c4 c5 c6 c7 c8 l0 l1 l2 l3 hw6
      go_wp2_with fail
      with_reducible refine (cut_v z p.s (takeOf p (L.drop (k + 1)) z) _ HZ.out b3 b4 tk1).mono ?_
      rintro e w2 ⟨rfl, hb2⟩
      clear m0 m1 m2 m3 m4 HV
      obtain ⟨P, hP⟩ : ∃ P, cutP z p.s (takeOf p (L.drop (k + 1)) z) = P := ⟨_, rfl⟩
      rw [hP]
      have hok2 := cutP_ok (s := p.s) (n := takeOf p (L.drop (k + 1)) z) HZ.out tk1
      obtain ⟨hst1, hst2⟩ := parcM_step HG.out HP.out
      rw [hP] at hst1 hst2 hok2
      have HST1 := Lib.hid hst1
      have HST2 := Lib.hid hst2
      have HOK2 := Lib.hid hok2.2
      have hs1 := HB1.out.size
      replace HL := Lib.hid ((hb2.block _ (by omega)).trans HL.out)
      replace HH := Lib.hid ((hb2.block _ (by omega)).trans HH.out)
      replace HR := Lib.hid ((hb2.block _ (by omega)).trans HR.out)
      replace HBB := Lib.hid ((HBB.out.trans (HB1.out.mono HBB.out.size)).trans (hb2.mono (by have := HBB.out.size; omega)))
      clear hP hst1 hst2 hok2 hb2 HB1 hs1 hgg hrr hll hln
      have hsz : k * 4 + 4 ≤ cs.size := by rw [HS.out]; omega
      obtain ⟨y0, d0⟩ := there HH.out (i := k * 4) (by omega)
      obtain ⟨y1, d1⟩ := there HH.out (i := k * 4 + 1) (by omega)
      obtain ⟨y2, d2⟩ := there HH.out (i := k * 4 + 2) (by omega)
      obtain ⟨y3, d3⟩ := there HH.out (i := k * 4 + 3) (by omega)
      have f0 := frozenH HH.out (k * 4)
      have f1 := frozenH HH.out (k * 4 + 1)
      have f2 := frozenH HH.out (k * 4 + 2)
      have f3 := frozenH HH.out (k * 4 + 3)
      obtain ⟨l0, l1, l2, l3⟩ := cells4 HL.out
      have g0 := frozenH HL.out 0
      have g1 := frozenH HL.out 1
      have g2 := frozenH HL.out 2
      have g3 := frozenH HL.out 3
      have n1 : ¬ w.heap.size + 1 + 1 = w.heap.size := by omega
      have n2 : ¬ w.heap.size = w.heap.size + 1 + 1 := by omega
      have E1 := Lib.hid ((pput4o (b := w.heap.size) (b' := w.heap.size + 1 + 1) n1 0 1 2 3 (.int .i64 P.2.x) (.int .i64 P.2.y) (.int .i64 P.2.u) (.int .i64 P.2.v)).trans (pput4 HH.out (k * 4) P.1))
      have E2 := Lib.hid (pput4z ((pput4o (b := w.heap.size + 1 + 1) (b' := w.heap.size) n2 (k * 4) (k * 4 + 1) (k * 4 + 2) (k * 4 + 3) (.int .i64 P.1.x) (.int .i64 P.1.y) (.int .i64 P.1.u) (.int .i64 P.1.v)).trans HL.out) (.int .i64 P.2.x) (.int .i64 P.2.y) (.int .i64 P.2.u) (.int .i64 P.2.v))
      have E3 := Lib.hid ((pput4o (b := w.heap.size) (b' := w.heap.size + 1) (by omega) 0 1 2 3 (.int .i64 P.2.x) (.int .i64 P.2.y) (.int .i64 P.2.u) (.int .i64 P.2.v)).trans ((pput4o (b := w.heap.size + 1 + 1) (b' := w.heap.size + 1) (by omega) (k * 4) (k * 4 + 1) (k * 4 + 2) (k * 4 + 3) (.int .i64 P.1.x) (.int .i64 P.1.y) (.int .i64 P.1.u) (.int .i64 P.1.v)).trans HR.out))
      have E4 := Lib.hid (pput4b (pput4b HBB.out (b := w.heap.size + 1 + 1) (by omega) (k * 4) (k * 4 + 1) (k * 4 + 2) (k * 4 + 3) (.int .i64 P.1.x) (.int .i64 P.1.y) (.int .i64 P.1.u) (.int .i64 P.1.v)) (b := w.heap.size) (by omega) 0 1 2 3 (.int .i64 P.2.x) (.int .i64 P.2.y) (.int .i64 P.2.u) (.int .i64 P.2.v))
      go_wp2
      go_roundw
      case rel => exact ⟨k + 1, by omega, by go_num, ⟨_, E1.out, (writeAt_size _ _ _).trans HS.out, fun i q hi hq => by
        by_cases e : i = k
        · subst e
          obtain rfl : P.1 = q := by have := HST1.out; rw [this] at hq; exact Option.some.inj hq
          exact In4.write P.1 hsz
        · exact (HC.out i q (by omega) hq).keep (.inl (by omega))⟩, ⟨P.2, E2.out, HOK2.out, HST2.out⟩, E3.out, E4.out⟩
      case measure => simp [intOf]; omega
    · have hd : decide ((k : Int) < (L.length : Int)) = false := by simp; omega
      obtain rfl : k = L.length := by omega
      rw [List.drop_length] at hp
      have hpz : z = Z := by simp only [parcM, Prod.mk.injEq] at hp; exact hp.2
      subst hpz
      have HBK := Lib.hid (show Blk4 wr (w.heap.size + 1 + 1) M from ⟨cs, hh, by rw [hs, HML.out], fun i r hi => hc i r (by have := (List.getElem?_eq_some_iff.1 hi).1; rw [HML.out] at this; exact this) hi⟩)
      have HL := Lib.hid hl
      have HR := Lib.hid hr
      have HBB := Lib.hid hB
      obtain ⟨l0, l1, l2, l3⟩ := cells4 hl
      clear hh hs hc hl hp hr hB
      obtain ⟨r0, r1, r2, r3⟩ := cells4 HR.out
      have g0 := frozenH HR.out 0
      have g1 := frozenH HR.out 1
      have g2 := frozenH HR.out 2
      have g3 := frozenH HR.out 3
      go_wp2_with fail
      go_region
      go_wp2
      refine bp_genP (fun W => W.heap[w.heap.size + 1]? = some (.cells #[.int .i64 z.x, .int .i64 z.y, .int .i64 z.u, .int .i64 z.v] 37 (0, 0)) ∧ Blk4 W (w.heap.size + 1 + 1) M ∧ Below w.heap.size w W)
        ⟨pput4z HR.out _ _ _ _, HBK.out.far (by omega) _ _ _ _ _ _ _ _, Below.drew (pput4b HBB.out (by omega) _ _ _ _ _ _ _ _)⟩ ?_
      clear HR HL HBB HBK l0 l1 l2 l3 r0 r1 r2 r3 g0 g1 g2 g3
      rintro W ⟨hW, hk2, hB2⟩
      obtain ⟨r0, r1, r2, r3⟩ := cells4 hW
      exact bodyPost_ret (v := .tuple #[.slice (some ⟨w.heap.size + 1 + 1, 0, none⟩) L.length L.length, .agg #[.int .i64 (z.x), .int .i64 (z.y), .int .i64 (z.u), .int .i64 (z.v)]]) (by simp only [results, Try.results38]; go_simp) rfl ⟨⟨_, rfl, by omega, hk2⟩, hB2⟩
end Go.Proofs.Ytnkoeekgdehhiaa
