import Derived.Test.YtnkoeekgdehhiaaPU
namespace Go.Proofs.Ytnkoeekgdehhiaa
open Go.RowKit
set_option linter.unusedVariables false
set_option maxHeartbeats 1000000
attribute [local go_sem] growUpon_value growUpon_skip growUpon_enter
theorem nopan_normal {Q : Exit → Act → World → Prop} {a : Act} {w : World} (h : Q .normal a w) : NoPan Q .normal a w := h
def setL (L : List Pk) (M : List Rc) : List Rc := List.zipWith setP L M
theorem setL_len {L : List Pk} {M : List Rc} (h : M.length = L.length) : (setL L M).length = L.length := by simp [setL, h]
theorem setL_get {L : List Pk} {M : List Rc} {k : Nat} {p : Pk} {r : Rc} (hp : L[k]? = some p) (hr : M[k]? = some r) : (setL L M)[k]? = some (setP p r) := by
  simp [setL, List.getElem?_zipWith, hp, hr]
theorem parcM_ok : ∀ {L : List Pk} {z : Rc}, (∀ p ∈ L, p.ok = true) → z.ok = true → ∀ r ∈ (parcM L z).1, r.ok = true
  | [], z, _, _, r, hr => by simp [parcM] at hr
  | p :: t, z, hL, hz, r, hr => by
    have tk := takeOf_bd hL hz
    have hc := cutP_ok (s := p.s) (n := takeOf p t z) hz tk.1
    simp only [parcM, List.mem_cons] at hr
    rcases hr with rfl | hr
    · exact hc.1
    · exact parcM_ok (fun q hq => hL q (List.mem_cons_of_mem _ hq)) hc.2 r hr
set_option maxRecDepth 100000 in
theorem packRects_v (A : Option Addr) (c : Nat) (L : List Pk) (z0 : Rc) (w : World) (h : PV w A L) (hcap : L.length ≤ c) (hL : vpsB L = true) (hz0 : z0.ok = true) (M : List Rc) (Z : Rc) (hM : parcM L z0 = (M, Z)) :
    Calls Try.prog 40 #[.slice A L.length c, .agg #[.int .i64 (z0.x), .int .i64 (z0.y), .int .i64 (z0.u), .int .i64 (z0.v)]] w fun e w' => (∃ g, e = .returned (.slice (some ⟨g, 0, none⟩) L.length L.length) ∧ w.heap.size ≤ g ∧ Blk4 w' g (setL L M)) ∧ Below w.heap.size w w' := by
  obtain ⟨hok, h7⟩ := vpsB_iff.1 hL
  have hML : M.length = L.length := by have := parcM_len (L := L) (z := z0); rw [hM] at this; exact this
  have hMok : ∀ r ∈ M, r.ok = true := by have := parcM_ok (L := L) (z := z0) hok hz0; rw [hM] at this; exact this
  have HOK := Lib.hid hok
  have HML := Lib.hid hML
  have HMK := Lib.hid hMok
  have HM := Lib.hid hM
  clear hok hML hM hMok
  go_enter Try.func40, Try.ntmps40
  go_wp2_with fail
  refine (packParcels_v A c L z0 _ (h.keep (balloc (Below.refl _ _))) hcap hL hz0 M Z HM.out).mono ?_
  rintro e w1 ⟨⟨g, rfl, hg, hk⟩, hb⟩
  have HB0 := Lib.hid (bkeep2 (balloc (Below.refl _ _)) hb)
  replace hg : w.heap.size ≤ g := by simp only [World.size_alloc] at hg; omega
  have HK0 := Lib.hid hk
  clear hb hk
  go_wp2_with fail
  go_loopw [17] (fun i wr => ∃ k : Nat, k ≤ L.length ∧ i = .int .i64 k ∧ (∃ cs : Array Value, wr.heap[g]? = some (.cells cs 37 (0, 0)) ∧ cs.size = L.length * 4 ∧ (∀ i r, i < k → (setL L M)[i]? = some r → In4 cs (i * 4) r) ∧ (∀ i r, k ≤ i → M[i]? = some r → In4 cs (i * 4) r)) ∧ Below w.heap.size w wr) (fun i _ => L.length - (intOf i).toNat)
  case atStart =>
    obtain ⟨cs, hh, hs, hc⟩ := HK0.out.keep (balloc (Below.refl _ _))
    exact ⟨0, by omega, rfl, ⟨cs, hh, by rw [hs, HML.out], fun i r hi => absurd hi (by omega), fun i r _ hr => hc i r hr⟩, balloc HB0.out⟩
  case round =>
    obtain ⟨k, hk, rfl, ⟨cs, hh, hs, hc, hc'⟩, hB⟩ := hrel
    clear HK0 HB0 HM
    by_cases hlt : k < L.length
    · have hd : decide ((k : Int) < (L.length : Int)) = true := by simpa using hlt
      obtain ⟨b, off, rfl, hb, hps⟩ := (h.keep hB).cells (by omega)
      have hget : L[k]? = some L[k] := List.getElem?_eq_getElem hlt
      obtain ⟨c0, c1, c2, c3, c4, c5, c6, c7, c8⟩ := hps k _ hget
      generalize hx : L[k] = p at *
      have hkM : k < M.length := by rw [HML.out]; exact hlt
      have hgetM : M[k]? = some M[k] := List.getElem?_eq_getElem hkM
      obtain ⟨r0, r1, r2, r3⟩ := (hc' k _ (by omega) hgetM).cells hh
      generalize hy : M[k] = r at *
      have HR := Lib.hid (HMK.out r (List.mem_of_getElem? hgetM))
      have HP := Lib.hid (HOK.out p (List.mem_of_getElem? hget))
      have HG := Lib.hid (setL_get hget hgetM)
      have HH := Lib.hid hh
      have HS := Lib.hid hs
      have HC := Lib.hid hc
      have HC' := Lib.hid hc'
      have HBB := Lib.hid hB
      have hgl : g < wr.heap.size := (Array.getElem?_eq_some_iff.1 hh).1
      have hgn : ¬ g = wr.heap.size := by omega
      clear hget hx hgetM hy hh hs hc hc' hB hps
      go_wp2_with fail
      refine wp_region_grow 9 1 (· < 9) (by kernel_rfl) (by kernel_rfl) rfl ?_
      iterate 9 (refine wpG_step (fun K hK => ?_); apply Exists.intro; refine ⟨.inl ⟨rfl, fun w' hw' => ?_⟩, ?_⟩; (focus ((obtain ⟨hc, hf⟩ := bcell hw'.out); (have hcS := bcellS hw'.out); go_simp <;> first | rfl | (go_at_call 60; exact inParcel_v p r _ HP.out HR.out))); (go_simp; refine hK _ ?_; clear hK K))
      refine wpG_nil ?_
      refine wpK_tail (by kernel_rfl) (fun w2 hg2 => ?_)
      have hB2 : Below wr.heap.size wr w2 := bgrow (Below.drew (balloc (Below.refl _ _))) hg2
      replace HH := Lib.hid ((hB2.block _ hgl).trans HH.out)
      replace HBB := Lib.hid (HBB.out.trans (hB2.mono HBB.out.size))
      clear hg2 hB2 c0 c1 c2 c3 c4 c5 c6 c7 c8 r0 r1 r2 r3 hgl hgn
      have hsz : k * 4 + 4 ≤ cs.size := by rw [HS.out]; omega
      obtain ⟨y0, d0⟩ := there HH.out (i := k * 4) (by omega)
      obtain ⟨y1, d1⟩ := there HH.out (i := k * 4 + 1) (by omega)
      obtain ⟨y2, d2⟩ := there HH.out (i := k * 4 + 2) (by omega)
      obtain ⟨y3, d3⟩ := there HH.out (i := k * 4 + 3) (by omega)
      have f0 := frozenH HH.out (k * 4)
      have f1 := frozenH HH.out (k * 4 + 1)
      have f2 := frozenH HH.out (k * 4 + 2)
      have f3 := frozenH HH.out (k * 4 + 3)
      obtain ⟨S, hS⟩ : ∃ S, setP p r = S := ⟨_, rfl⟩
      rw [hS]
      replace HG : Hid ((setL L M)[k]? = some S) := Lib.hid (by rw [← hS]; exact HG.out)
      have E1 := Lib.hid (pput4 HH.out (k * 4) S)
      have E2 := Lib.hid (pput4b HBB.out hg (k * 4) (k * 4 + 1) (k * 4 + 2) (k * 4 + 3) (.int .i64 S.x) (.int .i64 S.y) (.int .i64 S.u) (.int .i64 S.v))
      clear hS HH HBB
      refine wpAny_one (i := 9) (by kernel_rfl) rfl rfl ?_
      go_simp
      refine wpAny_end (by kernel_rfl) ?_
      refine nopan_normal ?_
      go_wp2
      go_roundw
      case rel => exact ⟨k + 1, by omega, by go_num, ⟨_, E1.out, (writeAt_size _ _ _).trans HS.out, fun i q hi hq => by
        by_cases e : i = k
        · subst e
          obtain rfl : S = q := by have := HG.out; rw [this] at hq; exact Option.some.inj hq
          exact In4.write S hsz
        · exact (HC.out i q (by omega) hq).keep (.inl (by omega)), fun i q hi hq => (HC'.out i q (by omega) hq).keep (.inr (by omega))⟩, E2.out⟩
      case measure => simp [intOf]; omega
    · have hd : decide ((k : Int) < (L.length : Int)) = false := by simp; omega
      obtain rfl : k = L.length := by omega
      have HK := Lib.hid (show Blk4 wr g (setL L M) from ⟨cs, hh, by rw [hs, setL_len HML.out], fun i r hr => hc i r (by have := (List.getElem?_eq_some_iff.1 hr).1; rwa [setL_len HML.out] at this) hr⟩)
      have HBB := Lib.hid hB
      clear hh hs hc hc' hB
      go_wp2
      go_ret
      exact ⟨⟨_, rfl, hg, HK.out⟩, HBB.out⟩
end Go.Proofs.Ytnkoeekgdehhiaa
