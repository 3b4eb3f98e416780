import Derived.Test.YtjdjahckdgbkbabQ06
section
namespace Go.Proofs.Ytjdjahckdgbkbab
open Go.RowKit
set_option linter.unusedVariables false
set_option maxHeartbeats 1000000
attribute [local go_sem 5000] run_mx run_mn
attribute [local go_sem] growUpon_value growUpon_skip growUpon_enter
theorem bp_genP {P : Program} {f : Func} {R : Ending → World → Prop} {e : Exit} {a : Act} {W : World} (F : World → Prop) (hF : F W) (h : ∀ W0, F W0 → bodyPost P f R e a W0) : bodyPost P f R e a W := h W hF
theorem Blk4.far {w : World} {g b : Nat} {M : List Rc} (h : Blk4 w g M) (hne : g ≠ b) (o0 o1 o2 o3 : Nat) (x0 x1 x2 x3 : Value) : Blk4 ((((w.setCell ⟨b, o0, none⟩ x0).setCell ⟨b, o1, none⟩ x1).setCell ⟨b, o2, none⟩ x2).setCell ⟨b, o3, none⟩ x3) g M := by
  obtain ⟨cs, hh, hs, hc⟩ := h
  exact ⟨cs, (pput4o hne _ _ _ _ _ _ _ _).trans hh, hs, hc⟩
theorem vps_drop {L : List Pk} (h : vpsB L = true) (k : Nat) : vpsB (L.drop k) = true := by
  obtain ⟨h1, h2⟩ := vpsB_iff.1 h
  exact vpsB_iff.2 ⟨fun p hp => h1 p (List.mem_of_mem_drop hp), by rw [List.length_drop]; omega⟩
theorem parcM_step {L : List Pk} {k : Nat} {p : Pk} {z : Rc} {M : List Rc} {Z : Rc} (hg : L[k]? = some p) (h : parcM (L.drop k) z = (M.drop k, Z)) :
    M[k]? = some (cutP z p.s (takeOf p (L.drop (k + 1)) z)).1 ∧ parcM (L.drop (k + 1)) (cutP z p.s (takeOf p (L.drop (k + 1)) z)).2 = (M.drop (k + 1), Z) := by
  rw [drop_cons hg] at h
  simp only [parcM, Prod.mk.injEq] at h
  obtain ⟨h1, h2⟩ := h
  have e : M.drop k = (M.drop k)[0]?.toList ++ M.drop (k + 1) := by
    rw [← h1]
    have : M.drop (k + 1) = (M.drop k).drop 1 := by rw [List.drop_drop]
    rw [this, ← h1]; simp
  have g0 : (M.drop k)[0]? = some (cutP z p.s (takeOf p (L.drop (k + 1)) z)).1 := by rw [← h1]; rfl
  refine ⟨by rw [List.getElem?_drop] at g0; simpa using g0, ?_⟩
  have h3 : M.drop (k + 1) = (M.drop k).drop 1 := by rw [List.drop_drop]
  rw [h3, ← h1, ← h2]
  rfl
set_option maxRecDepth 100000 in
theorem packParcels_v (A : Option Addr) (c : Nat) (L : List Pk) (z0 : Rc) (w : World) (h : PV w A L) (hcap : L.length ≤ c) (hL : vpsB L = true) (hz0 : z0.ok = true) (M : List Rc) (Z : Rc) (hM : parcM L z0 = (M, Z)) :
    Calls Try.prog 45 #[.slice A L.length c, .agg #[.int .i64 (z0.x), .int .i64 (z0.y), .int .i64 (z0.u), .int .i64 (z0.v)]] w fun e w' => (∃ g, e = .returned (.tuple #[.slice (some ⟨g, 0, none⟩) L.length L.length, .agg #[.int .i64 (Z.x), .int .i64 (Z.y), .int .i64 (Z.u), .int .i64 (Z.v)]]) ∧ w.heap.size ≤ g ∧ Blk4 w' g M) ∧ Below w.heap.size w w' := by
  obtain ⟨hok, h7⟩ := vpsB_iff.1 hL
  have hML : M.length = L.length := by have := parcM_len (L := L) (z := z0); rw [hM] at this; exact this
  obtain ⟨f, hf, hmk0⟩ := made4
  have hmk : ∀ w : World, (Instr.makeSlice 37 (.int .i64 (L.length : Int)) (.int .i64 (L.length : Int))).run Try.prog w = .ok (.slice (some ⟨w.heap.size, 0, none⟩) L.length L.length) (w.alloc (.cells (f L.length) 42)) := fun w => hmk0 L.length w (by omega)
  have HOK := Lib.hid hok
  have HML := Lib.hid hML
  have HVL := Lib.hid hL
  have HM := Lib.hid hM
  clear hok hML hL hM hmk0
  go_enter Try.func45, Try.ntmps45
  go_wp2_with fail
  have H0 : ∀ (i : Nat) (r : Rc), i < 0 → M[i]? = some r → In4 (f L.length) (i * 4) r := fun i r hi => absurd hi (by omega)
  have HF := Lib.hid (And.intro (hf L.length) H0)
  clear H0 hf hmk
  go_loopw [17] (fun i wr => ∃ k : Nat, k ≤ L.length ∧ i = .int .i64 k ∧ (∃ cs : Array Value, wr.heap[w.heap.size + 1 + 1]? = some (.cells cs 42 (0, 0)) ∧ cs.size = L.length * 4 ∧ ∀ i r, i < k → M[i]? = some r → In4 cs (i * 4) r) ∧
    (∃ z : Rc, wr.heap[w.heap.size]? = some (.cells #[.int .i64 z.x, .int .i64 z.y, .int .i64 z.u, .int .i64 z.v] 42 (0, 0)) ∧ z.ok = true ∧ parcM (L.drop k) z = (M.drop k, Z)) ∧
    wr.heap[w.heap.size + 1]? = some (.cells #[.int .i64 0, .int .i64 0, .int .i64 0, .int .i64 0] 42 (0, 0)) ∧ Below w.heap.size w wr) (fun i _ => L.length - (intOf i).toNat)
  case atStart =>
    refine ⟨0, by omega, rfl, ⟨_, ?_, HF.out.1, HF.out.2⟩, ⟨z0, ?_, hz0, HM.out⟩, ?_, balloc (balloc (balloc (Below.refl _ _)))⟩
    · have e := heap_new ((w.alloc (.cells #[.int .i64 z0.x, .int .i64 z0.y, .int .i64 z0.u, .int .i64 z0.v] 42)).alloc (.cells #[.int .i64 0, .int .i64 0, .int .i64 0, .int .i64 0] 42)) (.cells (f L.length) 42)
      simpa only [World.size_alloc] using e
    · rw [Below.heap_alloc _ _ _ (by simp; omega), Below.heap_alloc _ _ _ (by simp)]; exact heap_new _ _
    · rw [Below.heap_alloc _ _ _ (by simp)]
      have e := heap_new (w.alloc (.cells #[.int .i64 z0.x, .int .i64 z0.y, .int .i64 z0.u, .int .i64 z0.v] 42)) (.cells #[.int .i64 0, .int .i64 0, .int .i64 0, .int .i64 0] 42)
      simpa only [World.size_alloc] using e
  case round =>
    obtain ⟨k, hk, rfl, ⟨cs, hh, hs, hc⟩, ⟨z, hl, hz, hp⟩, hr, hB⟩ := hrel
    clear HF HM
    by_cases hlt : k < L.length
    · have hd : decide ((k : Int) < (L.length : Int)) = true := by simpa using hlt
      obtain ⟨b, off, rfl, hb, hps⟩ := (h.keep hB).cells (by omega)
      obtain ⟨c0, c1, c2, c3, c4, c5, c6, c7, c8⟩ := hps k _ (List.getElem?_eq_getElem hlt)
      have hget : L[k]? = some L[k] := List.getElem?_eq_getElem hlt
      generalize hx : L[k] = p at *
      have hpk : p.ok = true := HOK.out p (List.mem_of_getElem? hget)
      have hdrop := drop_cons hget
      obtain ⟨tk1, tk2⟩ := takeOf_bd (p := p) (r := L.drop (k + 1)) (z := z) (fun q hq => HOK.out q (List.mem_of_mem_drop (by rw [hdrop]; exact hq : q ∈ L.drop k))) hz
      have hw6 : IntKind.i64.wrap (p.need p.down + moreOf (L.drop k) z) = takeOf p (L.drop (k + 1)) z := by
        rw [hdrop]
        exact IntWalk.i64_in _ (by unfold takeOf at tk1 tk2; omega)
      obtain ⟨b1, b2, ⟨b3, b4⟩, b5⟩ := pbd hpk
      have hdl : L.length - k = (L.drop k).length := by rw [List.length_drop]
      have HG := Lib.hid hget
      have HX := Lib.hid hx
      have HH := Lib.hid hh
      have HS := Lib.hid hs
      have HC := Lib.hid hc
      have HL := Lib.hid hl
      have HZ := Lib.hid hz
      have HP := Lib.hid hp
      have HR := Lib.hid hr
      have HBB := Lib.hid hB
      have HPS := Lib.hid hps
      have HPK := Lib.hid hpk
      have HD := Lib.hid hdrop
      have HDL := Lib.hid hdl
      obtain ⟨l0, l1, l2, l3⟩ := cells4 hl
      have hll := (Array.getElem?_eq_some_iff.1 hl).1
      have hln := Nat.ne_of_lt hll
      clear hget hx hh hs hc hl hz hp hr hB hps hpk hdrop hdl b1 b2 b5
      go_wp2_with fail
      have hkL : k ≤ L.length := by omega
      have hLk : ¬ L.length = k := by omega
      refine wp_region_grow 14 1 (· < 14) (by kernel_rfl) (by kernel_rfl) rfl ?_
      iterate 14 (refine wpG_step (fun K hK => ?_); apply Exists.intro; refine ⟨.inl ⟨rfl, fun w' hw' => ?_⟩, ?_⟩; (focus ((obtain ⟨hc, hf⟩ := bcell hw'.out); (have hcS := bcellS hw'.out); go_simp <;> first | rfl | (go_at_call 64; exact isDown_x p _ _) | (go_at_call 65; exact need_v p _ _ HPK.out) | (go_at_call 66; exact share1_n _ _ _ _ _ (L.drop k) p _ z _ HDL.out HD.out ((PV.drop HPS.out hb).keep (bkeep2 (Below.drew (balloc (Below.refl _ _))) hw'.out)) (vps_drop HVL.out k) HZ.out (((bkeep2 (Below.drew (balloc (Below.refl _ _))) hw'.out).block _ hll).trans HL.out)))); (go_simp; refine hK _ ?_; clear hK K))
      refine wpG_nil ?_
      refine wpK_tail (by kernel_rfl) (fun w1 hg1 => ?_)
      refine wpAny_one (i := 14) (by kernel_rfl) rfl rfl ?_
      go_simp
      refine wpAny_end (by kernel_rfl) ?_
      refine NoPan.thn ?_
      have hgl := hg1.out
      have hB1 : Below wr.heap.size wr w1 := bkeep2 (Below.drew (balloc (Below.refl _ _))) hgl
      have hv1 := (hgl.block wr.heap.size (by simp)).trans (heap_new wr (.cells #[.int .i64 p.w, .int .i64 p.h, .int .i64 p.s, .bool p.fx, .bool p.fy, .bool p.ex, .int .i64 p.an, .int .i64 p.px, .int .i64 p.py] 35))
      have HV := Lib.hid hv1
      have HB1 := Lib.hid hB1
      replace HL := Lib.hid ((hB1.block _ hll).trans HL.out)
      have hgg : w.heap.size + 1 + 1 < wr.heap.size := (Array.getElem?_eq_some_iff.1 HH.out).1
      have hrr : w.heap.size + 1 < wr.heap.size := by omega
      replace HH := Lib.hid ((hB1.block _ hgg).trans HH.out)
      replace HR := Lib.hid ((hB1.block _ hrr).trans HR.out)
      obtain ⟨m0, m1, m2, m3⟩ := cells4 HL.out
      have m4 : w1.cell? ⟨wr.heap.size, 2, none⟩ = some (.int .i64 p.s) := cellH hv1 2
      clear hgl hB1 hv1 hg1 c0 c1 c2 c3 c4 c5 c6 c7 c8 l0 l1 l2 l3 hw6
      go_wp2_with fail
      with_reducible refine (cut_v z p.s (takeOf p (L.drop (k + 1)) z) _ HZ.out b3 b4 tk1).mono ?_
      rintro e w2 ⟨rfl, hb2⟩
      clear m0 m1 m2 m3 m4 HV
      obtain ⟨P, hP⟩ : ∃ P, cutP z p.s (takeOf p (L.drop (k + 1)) z) = P := ⟨_, rfl⟩
      rw [hP]
      have hok2 := cutP_ok (s := p.s) (n := takeOf p (L.drop (k + 1)) z) HZ.out tk1
      obtain ⟨hst1, hst2⟩ := parcM_step HG.out HP.out
      rw [hP] at hst1 hst2 hok2
      have HST1 := Lib.hid hst1
      have HST2 := Lib.hid hst2
      have HOK2 := Lib.hid hok2.2
      have hs1 := HB1.out.size
      replace HL := Lib.hid ((hb2.block _ (by omega)).trans HL.out)
      replace HH := Lib.hid ((hb2.block _ (by omega)).trans HH.out)
      replace HR := Lib.hid ((hb2.block _ (by omega)).trans HR.out)
      replace HBB := Lib.hid ((HBB.out.trans (HB1.out.mono HBB.out.size)).trans (hb2.mono (by have := HBB.out.size; omega)))
      clear hP hst1 hst2 hok2 hb2 HB1 hs1 hgg hrr hll hln
      have hsz : k * 4 + 4 ≤ cs.size := by rw [HS.out]; omega
      obtain ⟨y0, d0⟩ := there HH.out (i := k * 4) (by omega)
      obtain ⟨y1, d1⟩ := there HH.out (i := k * 4 + 1) (by omega)
      obtain ⟨y2, d2⟩ := there HH.out (i := k * 4 + 2) (by omega)
      obtain ⟨y3, d3⟩ := there HH.out (i := k * 4 + 3) (by omega)
      have f0 := frozenH HH.out (k * 4)
      have f1 := frozenH HH.out (k * 4 + 1)
      have f2 := frozenH HH.out (k * 4 + 2)
      have f3 := frozenH HH.out (k * 4 + 3)
      obtain ⟨l0, l1, l2, l3⟩ := cells4 HL.out
      have g0 := frozenH HL.out 0
      have g1 := frozenH HL.out 1
      have g2 := frozenH HL.out 2
      have g3 := frozenH HL.out 3
      have n1 : ¬ w.heap.size + 1 + 1 = w.heap.size := by omega
      have n2 : ¬ w.heap.size = w.heap.size + 1 + 1 := by omega
      have E1 := Lib.hid ((pput4o (b := w.heap.size) (b' := w.heap.size + 1 + 1) n1 0 1 2 3 (.int .i64 P.2.x) (.int .i64 P.2.y) (.int .i64 P.2.u) (.int .i64 P.2.v)).trans (pput4 HH.out (k * 4) P.1))
      have E2 := Lib.hid (pput4z ((pput4o (b := w.heap.size + 1 + 1) (b' := w.heap.size) n2 (k * 4) (k * 4 + 1) (k * 4 + 2) (k * 4 + 3) (.int .i64 P.1.x) (.int .i64 P.1.y) (.int .i64 P.1.u) (.int .i64 P.1.v)).trans HL.out) (.int .i64 P.2.x) (.int .i64 P.2.y) (.int .i64 P.2.u) (.int .i64 P.2.v))
      have E3 := Lib.hid ((pput4o (b := w.heap.size) (b' := w.heap.size + 1) (by omega) 0 1 2 3 (.int .i64 P.2.x) (.int .i64 P.2.y) (.int .i64 P.2.u) (.int .i64 P.2.v)).trans ((pput4o (b := w.heap.size + 1 + 1) (b' := w.heap.size + 1) (by omega) (k * 4) (k * 4 + 1) (k * 4 + 2) (k * 4 + 3) (.int .i64 P.1.x) (.int .i64 P.1.y) (.int .i64 P.1.u) (.int .i64 P.1.v)).trans HR.out))
      have E4 := Lib.hid (pput4b (pput4b HBB.out (b := w.heap.size + 1 + 1) (by omega) (k * 4) (k * 4 + 1) (k * 4 + 2) (k * 4 + 3) (.int .i64 P.1.x) (.int .i64 P.1.y) (.int .i64 P.1.u) (.int .i64 P.1.v)) (b := w.heap.size) (by omega) 0 1 2 3 (.int .i64 P.2.x) (.int .i64 P.2.y) (.int .i64 P.2.u) (.int .i64 P.2.v))
      go_wp2
      go_roundw
      case rel => exact ⟨k + 1, by omega, by go_num, ⟨_, E1.out, (writeAt_size _ _ _).trans HS.out, fun i q hi hq => by
        by_cases e : i = k
        · subst e
          obtain rfl : P.1 = q := by have := HST1.out; rw [this] at hq; exact Option.some.inj hq
          exact In4.write P.1 hsz
        · exact (HC.out i q (by omega) hq).keep (.inl (by omega))⟩, ⟨P.2, E2.out, HOK2.out, HST2.out⟩, E3.out, E4.out⟩
      case measure => simp [intOf]; omega
    · have hd : decide ((k : Int) < (L.length : Int)) = false := by simp; omega
      obtain rfl : k = L.length := by omega
      rw [List.drop_length] at hp
      have hpz : z = Z := by simp only [parcM, Prod.mk.injEq] at hp; exact hp.2
      subst hpz
      have HBK := Lib.hid (show Blk4 wr (w.heap.size + 1 + 1) M from ⟨cs, hh, by rw [hs, HML.out], fun i r hi => hc i r (by have := (List.getElem?_eq_some_iff.1 hi).1; rw [HML.out] at this; exact this) hi⟩)
      have HL := Lib.hid hl
      have HR := Lib.hid hr
      have HBB := Lib.hid hB
      obtain ⟨l0, l1, l2, l3⟩ := cells4 hl
      clear hh hs hc hl hp hr hB
      obtain ⟨r0, r1, r2, r3⟩ := cells4 HR.out
      have g0 := frozenH HR.out 0
      have g1 := frozenH HR.out 1
      have g2 := frozenH HR.out 2
      have g3 := frozenH HR.out 3
      go_wp2_with fail
      go_region
      go_wp2
      refine bp_genP (fun W => W.heap[w.heap.size + 1]? = some (.cells #[.int .i64 z.x, .int .i64 z.y, .int .i64 z.u, .int .i64 z.v] 42 (0, 0)) ∧ Blk4 W (w.heap.size + 1 + 1) M ∧ Below w.heap.size w W)
        ⟨pput4z HR.out _ _ _ _, HBK.out.far (by omega) _ _ _ _ _ _ _ _, Below.drew (pput4b HBB.out (by omega) _ _ _ _ _ _ _ _)⟩ ?_
      clear HR HL HBB HBK l0 l1 l2 l3 r0 r1 r2 r3 g0 g1 g2 g3
      rintro W ⟨hW, hk2, hB2⟩
      obtain ⟨r0, r1, r2, r3⟩ := cells4 hW
      exact bodyPost_ret (v := .tuple #[.slice (some ⟨w.heap.size + 1 + 1, 0, none⟩) L.length L.length, .agg #[.int .i64 (z.x), .int .i64 (z.y), .int .i64 (z.u), .int .i64 (z.v)]]) (by simp only [results, Try.results45]; go_simp) rfl ⟨⟨_, rfl, by omega, hk2⟩, hB2⟩
end Go.Proofs.Ytjdjahckdgbkbab
end
section
namespace Go.Proofs.Ytjdjahckdgbkbab
open Go.RowKit
set_option linter.unusedVariables false
attribute [local go_sem 5000] run_mx run_mn run_eqlR run_neqR
attribute [local go_sem] growUpon_value growUpon_skip growUpon_enter
set_option maxHeartbeats 1000000
set_option maxRecDepth 100000 in
theorem scut0_any (x y u v n : Int) (w : World) (h1 : vr x y u v = true) (h2 : 0 ≤ n) :
    Calls Try.prog 74 #[.agg #[.int .i64 (x), .int .i64 (y), .int .i64 (u), .int .i64 (v)], .int .i64 0, .int .i64 n] w fun e w' => e = .returned (.tuple #[.agg #[.int .i64 (x), .int .i64 (y), .int .i64 (u), .int .i64 (mn n v)], .agg #[.int .i64 (x), .int .i64 (y + mn n v), .int .i64 (u), .int .i64 (v - mn n v)]]) ∧ Below w.heap.size w w' := by
  obtain ⟨a1, a2, a3, a4, a5, a6, a7, a8⟩ := vr_iff.1 h1
  have g := mn_spec n v
  have g1 : 0 ≤ mn n v := by omega
  have g2 : mn n v ≤ v := by omega
  clear g
  go_enter Try.func74, Try.ntmps74
  go_wp2_with fail
  refine wp_gen (fun W0 => Below w.heap.size w W0 ∧ W0.cell? ⟨w.heap.size + 1, 0, none⟩ = some (.int .i64 0) ∧ W0.frozen? ⟨w.heap.size + 1, 0, none⟩ = false ∧ W0.cell? ⟨w.heap.size + 1, 1, none⟩ = some (.int .i64 0) ∧ W0.frozen? ⟨w.heap.size + 1, 1, none⟩ = false ∧ W0.cell? ⟨w.heap.size + 1, 2, none⟩ = some (.int .i64 0) ∧ W0.frozen? ⟨w.heap.size + 1, 2, none⟩ = false ∧ W0.cell? ⟨w.heap.size + 1, 3, none⟩ = some (.int .i64 0) ∧ W0.frozen? ⟨w.heap.size + 1, 3, none⟩ = false ∧ W0.cell? ⟨w.heap.size + 1 + 1, 0, none⟩ = some (.int .i64 0) ∧ W0.frozen? ⟨w.heap.size + 1 + 1, 0, none⟩ = false ∧ W0.cell? ⟨w.heap.size + 1 + 1, 1, none⟩ = some (.int .i64 0) ∧ W0.frozen? ⟨w.heap.size + 1 + 1, 1, none⟩ = false ∧ W0.cell? ⟨w.heap.size + 1 + 1, 2, none⟩ = some (.int .i64 0) ∧ W0.frozen? ⟨w.heap.size + 1 + 1, 2, none⟩ = false ∧ W0.cell? ⟨w.heap.size + 1 + 1, 3, none⟩ = some (.int .i64 0) ∧ W0.frozen? ⟨w.heap.size + 1 + 1, 3, none⟩ = false ∧ W0.cell? ⟨w.heap.size + 1 + 1 + 1, 0, none⟩ = some (.int .i64 (x)) ∧ W0.cell? ⟨w.heap.size + 1 + 1 + 1, 1, none⟩ = some (.int .i64 (y)) ∧ W0.cell? ⟨w.heap.size + 1 + 1 + 1, 2, none⟩ = some (.int .i64 (u)) ∧ W0.cell? ⟨w.heap.size + 1 + 1 + 1, 3, none⟩ = some (.int .i64 (mn n v)) ∧ W0.cell? ⟨w.heap.size + 1 + 1 + 1 + 1, 0, none⟩ = some (.int .i64 (x)) ∧ W0.cell? ⟨w.heap.size + 1 + 1 + 1 + 1, 1, none⟩ = some (.int .i64 (y + mn n v)) ∧ W0.cell? ⟨w.heap.size + 1 + 1 + 1 + 1, 2, none⟩ = some (.int .i64 (u)) ∧ W0.cell? ⟨w.heap.size + 1 + 1 + 1 + 1, 3, none⟩ = some (.int .i64 (v - mn n v))) ⟨(by repeat (first | with_reducible exact Below.refl _ _ | with_reducible assumption | with_reducible refine balloc ?_ | (with_reducible refine bset ?_ ?_; rotate_left; ((try dsimp only); omega)) | refine bkeep2 ?_ (by assumption) | with_reducible refine Below.drew ?_)), ?_⟩ (fun W0 hW0 => ?_)
  · go_simp
  obtain ⟨hBW, p0, pf0, p1, pf1, p2, pf2, p3, pf3, q0, qf0, q1, qf1, q2, qf2, q3, qf3, r0, r1, r2, r3, s0, s1, s2, s3⟩ := hW0
  go_region
  all_goals go_wp2
  all_goals
    have XA := box4 (w := W0) (b := w.heap.size + 1) (.int .i64 (x)) (.int .i64 (y)) (.int .i64 (u)) (.int .i64 (mn n v)) p0 p1 p2 p3
    have XB := box4 (b := w.heap.size + 1 + 1) (.int .i64 (x)) (.int .i64 (y + mn n v)) (.int .i64 (u)) (.int .i64 (v - mn n v)) ((XA.2.2.2.2 (w.heap.size + 1 + 1) 0 (by omega)).trans q0) ((XA.2.2.2.2 (w.heap.size + 1 + 1) 1 (by omega)).trans q1) ((XA.2.2.2.2 (w.heap.size + 1 + 1) 2 (by omega)).trans q2) ((XA.2.2.2.2 (w.heap.size + 1 + 1) 3 (by omega)).trans q3)
    refine gen_post (fun wf => Below w.heap.size w wf ∧ wf.cell? ⟨w.heap.size + 1, 0, none⟩ = some (.int .i64 (x)) ∧ wf.cell? ⟨w.heap.size + 1, 1, none⟩ = some (.int .i64 (y)) ∧ wf.cell? ⟨w.heap.size + 1, 2, none⟩ = some (.int .i64 (u)) ∧ wf.cell? ⟨w.heap.size + 1, 3, none⟩ = some (.int .i64 (mn n v)) ∧ wf.cell? ⟨w.heap.size + 1 + 1, 0, none⟩ = some (.int .i64 (x)) ∧ wf.cell? ⟨w.heap.size + 1 + 1, 1, none⟩ = some (.int .i64 (y + mn n v)) ∧ wf.cell? ⟨w.heap.size + 1 + 1, 2, none⟩ = some (.int .i64 (u)) ∧ wf.cell? ⟨w.heap.size + 1 + 1, 3, none⟩ = some (.int .i64 (v - mn n v))) ⟨(by with_reducible refine Below.drew ?_; exact (by repeat (first | with_reducible exact Below.refl _ _ | with_reducible assumption | with_reducible refine balloc ?_ | (with_reducible refine bset ?_ ?_; rotate_left; ((try dsimp only); omega)) | refine bkeep2 ?_ (by assumption) | with_reducible refine Below.drew ?_))), celld ((XB.2.2.2.2 (w.heap.size + 1) 0 (by omega)).trans XA.1), celld ((XB.2.2.2.2 (w.heap.size + 1) 1 (by omega)).trans XA.2.1), celld ((XB.2.2.2.2 (w.heap.size + 1) 2 (by omega)).trans XA.2.2.1), celld ((XB.2.2.2.2 (w.heap.size + 1) 3 (by omega)).trans XA.2.2.2.1), celld XB.1, celld XB.2.1, celld XB.2.2.1, celld XB.2.2.2.1⟩ (fun wf hwf => ?_)
    clear XA XB
    obtain ⟨hBf, z0, z1, z2, z3, z4, z5, z6, z7⟩ := hwf
    exact bodyPost_ret (v := .tuple #[.agg #[.int .i64 (x), .int .i64 (y), .int .i64 (u), .int .i64 (mn n v)], .agg #[.int .i64 (x), .int .i64 (y + mn n v), .int .i64 (u), .int .i64 (v - mn n v)]]) (by simp only [results, Try.results74]; go_simp) rfl ⟨rfl, (by repeat (first | with_reducible exact Below.refl _ _ | with_reducible assumption | with_reducible refine balloc ?_ | (with_reducible refine bset ?_ ?_; rotate_left; ((try dsimp only); omega)) | refine bkeep2 ?_ (by assumption) | with_reducible refine Below.drew ?_))⟩
set_option maxRecDepth 100000 in
theorem scut1_any (x y u v n : Int) (w : World) (h1 : vr x y u v = true) (h2 : 0 ≤ n) :
    Calls Try.prog 74 #[.agg #[.int .i64 (x), .int .i64 (y), .int .i64 (u), .int .i64 (v)], .int .i64 1, .int .i64 n] w fun e w' => e = .returned (.tuple #[.agg #[.int .i64 (x), .int .i64 (y + (v - mn n v)), .int .i64 (u), .int .i64 (mn n v)], .agg #[.int .i64 (x), .int .i64 (y), .int .i64 (u), .int .i64 (v - mn n v)]]) ∧ Below w.heap.size w w' := by
  obtain ⟨a1, a2, a3, a4, a5, a6, a7, a8⟩ := vr_iff.1 h1
  have g := mn_spec n v
  have g1 : 0 ≤ mn n v := by omega
  have g2 : mn n v ≤ v := by omega
  clear g
  go_enter Try.func74, Try.ntmps74
  go_wp2_with fail
  refine wp_gen (fun W0 => Below w.heap.size w W0 ∧ W0.cell? ⟨w.heap.size + 1, 0, none⟩ = some (.int .i64 0) ∧ W0.frozen? ⟨w.heap.size + 1, 0, none⟩ = false ∧ W0.cell? ⟨w.heap.size + 1, 1, none⟩ = some (.int .i64 0) ∧ W0.frozen? ⟨w.heap.size + 1, 1, none⟩ = false ∧ W0.cell? ⟨w.heap.size + 1, 2, none⟩ = some (.int .i64 0) ∧ W0.frozen? ⟨w.heap.size + 1, 2, none⟩ = false ∧ W0.cell? ⟨w.heap.size + 1, 3, none⟩ = some (.int .i64 0) ∧ W0.frozen? ⟨w.heap.size + 1, 3, none⟩ = false ∧ W0.cell? ⟨w.heap.size + 1 + 1, 0, none⟩ = some (.int .i64 0) ∧ W0.frozen? ⟨w.heap.size + 1 + 1, 0, none⟩ = false ∧ W0.cell? ⟨w.heap.size + 1 + 1, 1, none⟩ = some (.int .i64 0) ∧ W0.frozen? ⟨w.heap.size + 1 + 1, 1, none⟩ = false ∧ W0.cell? ⟨w.heap.size + 1 + 1, 2, none⟩ = some (.int .i64 0) ∧ W0.frozen? ⟨w.heap.size + 1 + 1, 2, none⟩ = false ∧ W0.cell? ⟨w.heap.size + 1 + 1, 3, none⟩ = some (.int .i64 0) ∧ W0.frozen? ⟨w.heap.size + 1 + 1, 3, none⟩ = false ∧ W0.cell? ⟨w.heap.size + 1 + 1 + 1, 0, none⟩ = some (.int .i64 (x)) ∧ W0.cell? ⟨w.heap.size + 1 + 1 + 1, 1, none⟩ = some (.int .i64 (y + (v - mn n v))) ∧ W0.cell? ⟨w.heap.size + 1 + 1 + 1, 2, none⟩ = some (.int .i64 (u)) ∧ W0.cell? ⟨w.heap.size + 1 + 1 + 1, 3, none⟩ = some (.int .i64 (mn n v)) ∧ W0.cell? ⟨w.heap.size + 1 + 1 + 1 + 1, 0, none⟩ = some (.int .i64 (x)) ∧ W0.cell? ⟨w.heap.size + 1 + 1 + 1 + 1, 1, none⟩ = some (.int .i64 (y)) ∧ W0.cell? ⟨w.heap.size + 1 + 1 + 1 + 1, 2, none⟩ = some (.int .i64 (u)) ∧ W0.cell? ⟨w.heap.size + 1 + 1 + 1 + 1, 3, none⟩ = some (.int .i64 (v - mn n v))) ⟨(by repeat (first | with_reducible exact Below.refl _ _ | with_reducible assumption | with_reducible refine balloc ?_ | (with_reducible refine bset ?_ ?_; rotate_left; ((try dsimp only); omega)) | refine bkeep2 ?_ (by assumption) | with_reducible refine Below.drew ?_)), ?_⟩ (fun W0 hW0 => ?_)
  · go_simp
  obtain ⟨hBW, p0, pf0, p1, pf1, p2, pf2, p3, pf3, q0, qf0, q1, qf1, q2, qf2, q3, qf3, r0, r1, r2, r3, s0, s1, s2, s3⟩ := hW0
  go_region
  all_goals go_wp2
  all_goals
    have XA := box4 (w := W0) (b := w.heap.size + 1) (.int .i64 (x)) (.int .i64 (y + (v - mn n v))) (.int .i64 (u)) (.int .i64 (mn n v)) p0 p1 p2 p3
    have XB := box4 (b := w.heap.size + 1 + 1) (.int .i64 (x)) (.int .i64 (y)) (.int .i64 (u)) (.int .i64 (v - mn n v)) ((XA.2.2.2.2 (w.heap.size + 1 + 1) 0 (by omega)).trans q0) ((XA.2.2.2.2 (w.heap.size + 1 + 1) 1 (by omega)).trans q1) ((XA.2.2.2.2 (w.heap.size + 1 + 1) 2 (by omega)).trans q2) ((XA.2.2.2.2 (w.heap.size + 1 + 1) 3 (by omega)).trans q3)
    refine gen_post (fun wf => Below w.heap.size w wf ∧ wf.cell? ⟨w.heap.size + 1, 0, none⟩ = some (.int .i64 (x)) ∧ wf.cell? ⟨w.heap.size + 1, 1, none⟩ = some (.int .i64 (y + (v - mn n v))) ∧ wf.cell? ⟨w.heap.size + 1, 2, none⟩ = some (.int .i64 (u)) ∧ wf.cell? ⟨w.heap.size + 1, 3, none⟩ = some (.int .i64 (mn n v)) ∧ wf.cell? ⟨w.heap.size + 1 + 1, 0, none⟩ = some (.int .i64 (x)) ∧ wf.cell? ⟨w.heap.size + 1 + 1, 1, none⟩ = some (.int .i64 (y)) ∧ wf.cell? ⟨w.heap.size + 1 + 1, 2, none⟩ = some (.int .i64 (u)) ∧ wf.cell? ⟨w.heap.size + 1 + 1, 3, none⟩ = some (.int .i64 (v - mn n v))) ⟨(by with_reducible refine Below.drew ?_; exact (by repeat (first | with_reducible exact Below.refl _ _ | with_reducible assumption | with_reducible refine balloc ?_ | (with_reducible refine bset ?_ ?_; rotate_left; ((try dsimp only); omega)) | refine bkeep2 ?_ (by assumption) | with_reducible refine Below.drew ?_))), celld ((XB.2.2.2.2 (w.heap.size + 1) 0 (by omega)).trans XA.1), celld ((XB.2.2.2.2 (w.heap.size + 1) 1 (by omega)).trans XA.2.1), celld ((XB.2.2.2.2 (w.heap.size + 1) 2 (by omega)).trans XA.2.2.1), celld ((XB.2.2.2.2 (w.heap.size + 1) 3 (by omega)).trans XA.2.2.2.1), celld XB.1, celld XB.2.1, celld XB.2.2.1, celld XB.2.2.2.1⟩ (fun wf hwf => ?_)
    clear XA XB
    obtain ⟨hBf, z0, z1, z2, z3, z4, z5, z6, z7⟩ := hwf
    exact bodyPost_ret (v := .tuple #[.agg #[.int .i64 (x), .int .i64 (y + (v - mn n v)), .int .i64 (u), .int .i64 (mn n v)], .agg #[.int .i64 (x), .int .i64 (y), .int .i64 (u), .int .i64 (v - mn n v)]]) (by simp only [results, Try.results74]; go_simp) rfl ⟨rfl, (by repeat (first | with_reducible exact Below.refl _ _ | with_reducible assumption | with_reducible refine balloc ?_ | (with_reducible refine bset ?_ ?_; rotate_left; ((try dsimp only); omega)) | refine bkeep2 ?_ (by assumption) | with_reducible refine Below.drew ?_))⟩
set_option maxRecDepth 100000 in
theorem scut2_any (x y u v n : Int) (w : World) (h1 : vr x y u v = true) (h2 : 0 ≤ n) :
    Calls Try.prog 74 #[.agg #[.int .i64 (x), .int .i64 (y), .int .i64 (u), .int .i64 (v)], .int .i64 2, .int .i64 n] w fun e w' => e = .returned (.tuple #[.agg #[.int .i64 (x), .int .i64 (y), .int .i64 (mn n u), .int .i64 (v)], .agg #[.int .i64 (x + mn n u), .int .i64 (y), .int .i64 (u - mn n u), .int .i64 (v)]]) ∧ Below w.heap.size w w' := by
  obtain ⟨a1, a2, a3, a4, a5, a6, a7, a8⟩ := vr_iff.1 h1
  have g := mn_spec n u
  have g1 : 0 ≤ mn n u := by omega
  have g2 : mn n u ≤ u := by omega
  clear g
  go_enter Try.func74, Try.ntmps74
  go_wp2_with fail
  refine wp_gen (fun W0 => Below w.heap.size w W0 ∧ W0.cell? ⟨w.heap.size + 1, 0, none⟩ = some (.int .i64 0) ∧ W0.frozen? ⟨w.heap.size + 1, 0, none⟩ = false ∧ W0.cell? ⟨w.heap.size + 1, 1, none⟩ = some (.int .i64 0) ∧ W0.frozen? ⟨w.heap.size + 1, 1, none⟩ = false ∧ W0.cell? ⟨w.heap.size + 1, 2, none⟩ = some (.int .i64 0) ∧ W0.frozen? ⟨w.heap.size + 1, 2, none⟩ = false ∧ W0.cell? ⟨w.heap.size + 1, 3, none⟩ = some (.int .i64 0) ∧ W0.frozen? ⟨w.heap.size + 1, 3, none⟩ = false ∧ W0.cell? ⟨w.heap.size + 1 + 1, 0, none⟩ = some (.int .i64 0) ∧ W0.frozen? ⟨w.heap.size + 1 + 1, 0, none⟩ = false ∧ W0.cell? ⟨w.heap.size + 1 + 1, 1, none⟩ = some (.int .i64 0) ∧ W0.frozen? ⟨w.heap.size + 1 + 1, 1, none⟩ = false ∧ W0.cell? ⟨w.heap.size + 1 + 1, 2, none⟩ = some (.int .i64 0) ∧ W0.frozen? ⟨w.heap.size + 1 + 1, 2, none⟩ = false ∧ W0.cell? ⟨w.heap.size + 1 + 1, 3, none⟩ = some (.int .i64 0) ∧ W0.frozen? ⟨w.heap.size + 1 + 1, 3, none⟩ = false ∧ W0.cell? ⟨w.heap.size + 1 + 1 + 1, 0, none⟩ = some (.int .i64 (x)) ∧ W0.cell? ⟨w.heap.size + 1 + 1 + 1, 1, none⟩ = some (.int .i64 (y)) ∧ W0.cell? ⟨w.heap.size + 1 + 1 + 1, 2, none⟩ = some (.int .i64 (mn n u)) ∧ W0.cell? ⟨w.heap.size + 1 + 1 + 1, 3, none⟩ = some (.int .i64 (v)) ∧ W0.cell? ⟨w.heap.size + 1 + 1 + 1 + 1, 0, none⟩ = some (.int .i64 (x + mn n u)) ∧ W0.cell? ⟨w.heap.size + 1 + 1 + 1 + 1, 1, none⟩ = some (.int .i64 (y)) ∧ W0.cell? ⟨w.heap.size + 1 + 1 + 1 + 1, 2, none⟩ = some (.int .i64 (u - mn n u)) ∧ W0.cell? ⟨w.heap.size + 1 + 1 + 1 + 1, 3, none⟩ = some (.int .i64 (v))) ⟨(by repeat (first | with_reducible exact Below.refl _ _ | with_reducible assumption | with_reducible refine balloc ?_ | (with_reducible refine bset ?_ ?_; rotate_left; ((try dsimp only); omega)) | refine bkeep2 ?_ (by assumption) | with_reducible refine Below.drew ?_)), ?_⟩ (fun W0 hW0 => ?_)
  · go_simp
  obtain ⟨hBW, p0, pf0, p1, pf1, p2, pf2, p3, pf3, q0, qf0, q1, qf1, q2, qf2, q3, qf3, r0, r1, r2, r3, s0, s1, s2, s3⟩ := hW0
  go_region
  all_goals go_wp2
  all_goals
    have XA := box4 (w := W0) (b := w.heap.size + 1) (.int .i64 (x)) (.int .i64 (y)) (.int .i64 (mn n u)) (.int .i64 (v)) p0 p1 p2 p3
    have XB := box4 (b := w.heap.size + 1 + 1) (.int .i64 (x + mn n u)) (.int .i64 (y)) (.int .i64 (u - mn n u)) (.int .i64 (v)) ((XA.2.2.2.2 (w.heap.size + 1 + 1) 0 (by omega)).trans q0) ((XA.2.2.2.2 (w.heap.size + 1 + 1) 1 (by omega)).trans q1) ((XA.2.2.2.2 (w.heap.size + 1 + 1) 2 (by omega)).trans q2) ((XA.2.2.2.2 (w.heap.size + 1 + 1) 3 (by omega)).trans q3)
    refine gen_post (fun wf => Below w.heap.size w wf ∧ wf.cell? ⟨w.heap.size + 1, 0, none⟩ = some (.int .i64 (x)) ∧ wf.cell? ⟨w.heap.size + 1, 1, none⟩ = some (.int .i64 (y)) ∧ wf.cell? ⟨w.heap.size + 1, 2, none⟩ = some (.int .i64 (mn n u)) ∧ wf.cell? ⟨w.heap.size + 1, 3, none⟩ = some (.int .i64 (v)) ∧ wf.cell? ⟨w.heap.size + 1 + 1, 0, none⟩ = some (.int .i64 (x + mn n u)) ∧ wf.cell? ⟨w.heap.size + 1 + 1, 1, none⟩ = some (.int .i64 (y)) ∧ wf.cell? ⟨w.heap.size + 1 + 1, 2, none⟩ = some (.int .i64 (u - mn n u)) ∧ wf.cell? ⟨w.heap.size + 1 + 1, 3, none⟩ = some (.int .i64 (v))) ⟨(by with_reducible refine Below.drew ?_; exact (by repeat (first | with_reducible exact Below.refl _ _ | with_reducible assumption | with_reducible refine balloc ?_ | (with_reducible refine bset ?_ ?_; rotate_left; ((try dsimp only); omega)) | refine bkeep2 ?_ (by assumption) | with_reducible refine Below.drew ?_))), celld ((XB.2.2.2.2 (w.heap.size + 1) 0 (by omega)).trans XA.1), celld ((XB.2.2.2.2 (w.heap.size + 1) 1 (by omega)).trans XA.2.1), celld ((XB.2.2.2.2 (w.heap.size + 1) 2 (by omega)).trans XA.2.2.1), celld ((XB.2.2.2.2 (w.heap.size + 1) 3 (by omega)).trans XA.2.2.2.1), celld XB.1, celld XB.2.1, celld XB.2.2.1, celld XB.2.2.2.1⟩ (fun wf hwf => ?_)
    clear XA XB
    obtain ⟨hBf, z0, z1, z2, z3, z4, z5, z6, z7⟩ := hwf
    exact bodyPost_ret (v := .tuple #[.agg #[.int .i64 (x), .int .i64 (y), .int .i64 (mn n u), .int .i64 (v)], .agg #[.int .i64 (x + mn n u), .int .i64 (y), .int .i64 (u - mn n u), .int .i64 (v)]]) (by simp only [results, Try.results74]; go_simp) rfl ⟨rfl, (by repeat (first | with_reducible exact Below.refl _ _ | with_reducible assumption | with_reducible refine balloc ?_ | (with_reducible refine bset ?_ ?_; rotate_left; ((try dsimp only); omega)) | refine bkeep2 ?_ (by assumption) | with_reducible refine Below.drew ?_))⟩
set_option maxRecDepth 100000 in
theorem scut3_any (x y u v n : Int) (w : World) (h1 : vr x y u v = true) (h2 : 0 ≤ n) :
    Calls Try.prog 74 #[.agg #[.int .i64 (x), .int .i64 (y), .int .i64 (u), .int .i64 (v)], .int .i64 3, .int .i64 n] w fun e w' => e = .returned (.tuple #[.agg #[.int .i64 (x + (u - mn n u)), .int .i64 (y), .int .i64 (mn n u), .int .i64 (v)], .agg #[.int .i64 (x), .int .i64 (y), .int .i64 (u - mn n u), .int .i64 (v)]]) ∧ Below w.heap.size w w' := by
  obtain ⟨a1, a2, a3, a4, a5, a6, a7, a8⟩ := vr_iff.1 h1
  have g := mn_spec n u
  have g1 : 0 ≤ mn n u := by omega
  have g2 : mn n u ≤ u := by omega
  clear g
  go_enter Try.func74, Try.ntmps74
  go_wp2_with fail
  refine wp_gen (fun W0 => Below w.heap.size w W0 ∧ W0.cell? ⟨w.heap.size + 1, 0, none⟩ = some (.int .i64 0) ∧ W0.frozen? ⟨w.heap.size + 1, 0, none⟩ = false ∧ W0.cell? ⟨w.heap.size + 1, 1, none⟩ = some (.int .i64 0) ∧ W0.frozen? ⟨w.heap.size + 1, 1, none⟩ = false ∧ W0.cell? ⟨w.heap.size + 1, 2, none⟩ = some (.int .i64 0) ∧ W0.frozen? ⟨w.heap.size + 1, 2, none⟩ = false ∧ W0.cell? ⟨w.heap.size + 1, 3, none⟩ = some (.int .i64 0) ∧ W0.frozen? ⟨w.heap.size + 1, 3, none⟩ = false ∧ W0.cell? ⟨w.heap.size + 1 + 1, 0, none⟩ = some (.int .i64 0) ∧ W0.frozen? ⟨w.heap.size + 1 + 1, 0, none⟩ = false ∧ W0.cell? ⟨w.heap.size + 1 + 1, 1, none⟩ = some (.int .i64 0) ∧ W0.frozen? ⟨w.heap.size + 1 + 1, 1, none⟩ = false ∧ W0.cell? ⟨w.heap.size + 1 + 1, 2, none⟩ = some (.int .i64 0) ∧ W0.frozen? ⟨w.heap.size + 1 + 1, 2, none⟩ = false ∧ W0.cell? ⟨w.heap.size + 1 + 1, 3, none⟩ = some (.int .i64 0) ∧ W0.frozen? ⟨w.heap.size + 1 + 1, 3, none⟩ = false ∧ W0.cell? ⟨w.heap.size + 1 + 1 + 1, 0, none⟩ = some (.int .i64 (x + (u - mn n u))) ∧ W0.cell? ⟨w.heap.size + 1 + 1 + 1, 1, none⟩ = some (.int .i64 (y)) ∧ W0.cell? ⟨w.heap.size + 1 + 1 + 1, 2, none⟩ = some (.int .i64 (mn n u)) ∧ W0.cell? ⟨w.heap.size + 1 + 1 + 1, 3, none⟩ = some (.int .i64 (v)) ∧ W0.cell? ⟨w.heap.size + 1 + 1 + 1 + 1, 0, none⟩ = some (.int .i64 (x)) ∧ W0.cell? ⟨w.heap.size + 1 + 1 + 1 + 1, 1, none⟩ = some (.int .i64 (y)) ∧ W0.cell? ⟨w.heap.size + 1 + 1 + 1 + 1, 2, none⟩ = some (.int .i64 (u - mn n u)) ∧ W0.cell? ⟨w.heap.size + 1 + 1 + 1 + 1, 3, none⟩ = some (.int .i64 (v))) ⟨(by repeat (first | with_reducible exact Below.refl _ _ | with_reducible assumption | with_reducible refine balloc ?_ | (with_reducible refine bset ?_ ?_; rotate_left; ((try dsimp only); omega)) | refine bkeep2 ?_ (by assumption) | with_reducible refine Below.drew ?_)), ?_⟩ (fun W0 hW0 => ?_)
  · go_simp
  obtain ⟨hBW, p0, pf0, p1, pf1, p2, pf2, p3, pf3, q0, qf0, q1, qf1, q2, qf2, q3, qf3, r0, r1, r2, r3, s0, s1, s2, s3⟩ := hW0
  go_region
  all_goals go_wp2
  all_goals
    have XA := box4 (w := W0) (b := w.heap.size + 1) (.int .i64 (x + (u - mn n u))) (.int .i64 (y)) (.int .i64 (mn n u)) (.int .i64 (v)) p0 p1 p2 p3
    have XB := box4 (b := w.heap.size + 1 + 1) (.int .i64 (x)) (.int .i64 (y)) (.int .i64 (u - mn n u)) (.int .i64 (v)) ((XA.2.2.2.2 (w.heap.size + 1 + 1) 0 (by omega)).trans q0) ((XA.2.2.2.2 (w.heap.size + 1 + 1) 1 (by omega)).trans q1) ((XA.2.2.2.2 (w.heap.size + 1 + 1) 2 (by omega)).trans q2) ((XA.2.2.2.2 (w.heap.size + 1 + 1) 3 (by omega)).trans q3)
    refine gen_post (fun wf => Below w.heap.size w wf ∧ wf.cell? ⟨w.heap.size + 1, 0, none⟩ = some (.int .i64 (x + (u - mn n u))) ∧ wf.cell? ⟨w.heap.size + 1, 1, none⟩ = some (.int .i64 (y)) ∧ wf.cell? ⟨w.heap.size + 1, 2, none⟩ = some (.int .i64 (mn n u)) ∧ wf.cell? ⟨w.heap.size + 1, 3, none⟩ = some (.int .i64 (v)) ∧ wf.cell? ⟨w.heap.size + 1 + 1, 0, none⟩ = some (.int .i64 (x)) ∧ wf.cell? ⟨w.heap.size + 1 + 1, 1, none⟩ = some (.int .i64 (y)) ∧ wf.cell? ⟨w.heap.size + 1 + 1, 2, none⟩ = some (.int .i64 (u - mn n u)) ∧ wf.cell? ⟨w.heap.size + 1 + 1, 3, none⟩ = some (.int .i64 (v))) ⟨(by with_reducible refine Below.drew ?_; exact (by repeat (first | with_reducible exact Below.refl _ _ | with_reducible assumption | with_reducible refine balloc ?_ | (with_reducible refine bset ?_ ?_; rotate_left; ((try dsimp only); omega)) | refine bkeep2 ?_ (by assumption) | with_reducible refine Below.drew ?_))), celld ((XB.2.2.2.2 (w.heap.size + 1) 0 (by omega)).trans XA.1), celld ((XB.2.2.2.2 (w.heap.size + 1) 1 (by omega)).trans XA.2.1), celld ((XB.2.2.2.2 (w.heap.size + 1) 2 (by omega)).trans XA.2.2.1), celld ((XB.2.2.2.2 (w.heap.size + 1) 3 (by omega)).trans XA.2.2.2.1), celld XB.1, celld XB.2.1, celld XB.2.2.1, celld XB.2.2.2.1⟩ (fun wf hwf => ?_)
    clear XA XB
    obtain ⟨hBf, z0, z1, z2, z3, z4, z5, z6, z7⟩ := hwf
    exact bodyPost_ret (v := .tuple #[.agg #[.int .i64 (x + (u - mn n u)), .int .i64 (y), .int .i64 (mn n u), .int .i64 (v)], .agg #[.int .i64 (x), .int .i64 (y), .int .i64 (u - mn n u), .int .i64 (v)]]) (by simp only [results, Try.results74]; go_simp) rfl ⟨rfl, (by repeat (first | with_reducible exact Below.refl _ _ | with_reducible assumption | with_reducible refine balloc ?_ | (with_reducible refine bset ?_ ?_; rotate_left; ((try dsimp only); omega)) | refine bkeep2 ?_ (by assumption) | with_reducible refine Below.drew ?_))⟩
end Go.Proofs.Ytjdjahckdgbkbab
end
section
namespace Go.Proofs.Ytjdjahckdgbkbab
open Go Go.RowKit
set_option linter.unusedVariables false
section
variable {P : Program} {ops : Array Oper} {md : Region.Mode} {Q : Exit → Act → World → Prop}
/-- Two variables are made, in either order. -/
theorem wpK_allocs {pre : Nat → Bool} {f : Nat} {listed : Array Bool} {a : Act} {w : World} {i j : Nat} {oi oj : Oper} {Oi Oj : Obj} (hr : Region.ready md ops listed = [i, j])
    (hrj : Region.ready md ops (listed.setIfInBounds i true) = [j]) (hri : Region.ready md ops (listed.setIfInBounds j true) = [i]) (hoi : ops[i]? = some oi) (hoj : ops[j]? = some oj) (hgi : oi.guard = none) (hgj : oj.guard = none)
    (hp : allPre ops pre listed = false) (hpj : allPre ops pre (listed.setIfInBounds i true) = false) (hpi : allPre ops pre (listed.setIfInBounds j true) = false) (hij : i ≠ j)
    (hd : ∀ d, oi.dst = some d → oj.dst ≠ some d)
    (ei : ∀ (a' : Act) (w' : World) (K : Act → World → Prop), K (a'.put oi.dst (.pointer (some ⟨w'.heap.size, 0, none⟩))) (w'.alloc Oi) → oi.wp P a' w' K Q)
    (ej : ∀ (a' : Act) (w' : World) (K : Act → World → Prop), K (a'.put oj.dst (.pointer (some ⟨w'.heap.size, 0, none⟩))) (w'.alloc Oj) → oj.wp P a' w' K Q)
    (h : ∀ x y w', Gr w w' → x ≠ y → w.heap.size ≤ x → w.heap.size ≤ y → w'.heap[x]? = some Oi → w'.heap[y]? = some Oj →
      wpK P md ops Q pre f ((listed.setIfInBounds i true).setIfInBounds j true) ((a.put oi.dst (.pointer (some ⟨x, 0, none⟩))).put oj.dst (.pointer (some ⟨y, 0, none⟩))) w') :
    wpK P md ops Q pre (f + 1 + 1) listed a w := by
  have old : ∀ (w1 w2 : World) (o o' : Obj), Gr (w1.alloc o) w2 → (w2.alloc o').heap[w1.heap.size]? = some o := fun w1 w2 o o' g => by
    have hs := g.out.size
    simp at hs
    rw [Below.heap_alloc _ _ _ (by omega)]
    exact (g.out.block _ (by simp)).trans (heap_new _ _)
  refine .inr ⟨hp, fun w' hw' => ⟨fun h0 => (by rw [hr] at h0; cases h0), fun k hk => ?_⟩⟩
  rw [hr] at hk
  simp only [List.mem_cons, List.not_mem_nil, or_false] at hk
  have s1 := hw'.out.size
  rcases hk with rfl | rfl
  · refine wpOp_one hoi hgi (ei _ _ _ ⟨Gr.alloc _ _, wpK_one hrj hoj hgj hpj fun w1 hw1 => ej _ _ _ ⟨Gr.alloc _ _, ?_⟩⟩)
    have s2 := hw1.out.size
    simp at s2
    exact h _ _ _ (hw'.trans ((Gr.alloc _ _).trans (hw1.trans (Gr.alloc _ _)))) (by omega) (by omega) (by omega) (old _ _ _ _ hw1) (heap_new _ _)
  · refine wpOp_one hoj hgj (ej _ _ _ ⟨Gr.alloc _ _, wpK_one hri hoi hgi hpi fun w1 hw1 => ei _ _ _ ⟨Gr.alloc _ _, ?_⟩⟩)
    have s2 := hw1.out.size
    simp at s2
    have := h _ _ _ (hw'.trans ((Gr.alloc _ _).trans (hw1.trans (Gr.alloc _ _)))) (by omega) (by omega) (by omega) (heap_new _ _) (old _ _ _ _ hw1)
    rw [Array.setIfInBounds_comm _ _ hij, Act.put_comm a _ _ hd] at this
    exact this
end
end Go.Proofs.Ytjdjahckdgbkbab
end
