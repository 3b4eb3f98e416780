import Derived.Test.YtnkoeekgdehhiaaPW
import Derived.Test.YtnkoeekgdehhiaaPQ
namespace Go.Proofs.Ytnkoeekgdehhiaa
open Go.RowKit
set_option linter.unusedVariables false
set_option maxHeartbeats 1000000
attribute [local go_sem] growUpon_value growUpon_skip growUpon_enter
theorem own_in4 {w : World} {base n : Nat} {v : Value} {M : List Rc} {T : TypeId} (h : w.ownsRow base T 4 v n (rvals M)) (hn : n = M.length) :
    (v = .slice none 0 0 ∧ M = []) ∨ ∃ g cap, ∃ cs : Array Value, v = .slice (some ⟨g, 0, none⟩) n cap ∧ base ≤ g ∧ n ≤ cap ∧ w.heap[g]? = some (.cells cs T (0, 0)) ∧ cs.size = cap * 4 ∧ ∀ i r, M[i]? = some r → In4 cs (i * 4) r := by
  rcases h.2 with ⟨rfl, h0⟩ | ⟨g, cap, cur, rfl, hb, hg, hc, _, hs, ht⟩
  · exact .inl ⟨rfl, List.length_eq_zero_iff.1 (by omega)⟩
  · refine .inr ⟨g, cap, cur, rfl, hb, hc, hg, hs, fun i r hr j hj => ?_⟩
    rw [← rvals_get hr j hj, ← ht, List.getElem?_take]
    have : i < M.length := (List.getElem?_eq_some_iff.1 hr).1
    rw [if_pos (by omega)]; simp
set_option maxRecDepth 100000 in
theorem packed_v (A : Option Addr) (c : Nat) (L : List Pk) (z0 : Rc) (w : World) (h : PV w A L) (hcap : L.length ≤ c) (hL : vpsB L = true) (hz0 : z0.ok = true) (M : List Rc) (Z : Rc) (hM : parcM L z0 = (M, Z)) :
    Calls Try.prog 39 #[.slice A L.length c, .agg #[.int .i64 (z0.x), .int .i64 (z0.y), .int .i64 (z0.u), .int .i64 (z0.v)]] w fun e w' => (∃ v, e = .returned v ∧ RV w' v (setL L M)) ∧ Below w.heap.size w w' := by
  obtain ⟨hok, h7⟩ := vpsB_iff.1 hL
  have hML : M.length = L.length := by have := parcM_len (L := L) (z := z0); rw [hM] at this; exact this
  have hMok : ∀ r ∈ M, r.ok = true := by have := parcM_ok (L := L) (z := z0) hok hz0; rw [hM] at this; exact this
  have HOK := Lib.hid hok
  have HML := Lib.hid hML
  have HMK := Lib.hid hMok
  have HM := Lib.hid hM
  clear hok hML hM hMok
  go_enter Try.func39, Try.ntmps39
  go_wp2_with fail
  refine (parcels_v A c L z0 _ (h.keep (balloc (Below.refl _ _))) hcap hL hz0 M Z HM.out).mono ?_
  rintro e w1 ⟨⟨v, rfl, ho⟩, hb⟩
  have HB0 := Lib.hid (bkeep2 (balloc (Below.refl _ _)) hb)
  clear hb
  rcases own_in4 ho rfl with ⟨rfl, hM0⟩ | ⟨g, cap, cs0, rfl, hg, hnc, hh0, hs0, hc0⟩
  · have hL0 : setL L M = [] := by rw [hM0]; simp [setL]
    have hlz : M.length = 0 := by rw [hM0]; rfl
    have HL0 := Lib.hid hL0
    clear hM0 ho hL0
    go_wp2_with fail
    go_loopw [7] (fun i wr => i = .int .i64 0 ∧ Below w.heap.size w wr) (fun i _ => 0)
    case atStart => exact ⟨rfl, balloc HB0.out⟩
    case round =>
      obtain ⟨rfl, hB⟩ := hrel
      have HBB := Lib.hid hB
      clear hB
      go_wp2
      go_ret
      exact ⟨⟨_, rfl, by rw [HL0.out]; exact RV.nil _⟩, HBB.out⟩
  · replace hg : w.heap.size ≤ g := by simp only [World.size_alloc] at hg; omega
    have HK0 := Lib.hid (And.intro hh0 (And.intro hs0 hc0))
    have hML : M.length = L.length := HML.out
    clear hh0 hs0 hc0 ho
    rw [hML] at hnc
    rw [hML]
    go_wp2_with fail
    go_loopw [7] (fun i wr => ∃ k : Nat, k ≤ L.length ∧ i = .int .i64 k ∧ (∃ cs : Array Value, wr.heap[g]? = some (.cells cs 37 (0, 0)) ∧ cs.size = cap * 4 ∧ (∀ i r, i < k → (setL L M)[i]? = some r → In4 cs (i * 4) r) ∧ (∀ i r, k ≤ i → M[i]? = some r → In4 cs (i * 4) r)) ∧ Below w.heap.size w wr) (fun i _ => L.length - (intOf i).toNat)
    case atStart =>
      obtain ⟨hh, hs, hc⟩ := HK0.out
      have hgw : g < w1.heap.size := (Array.getElem?_eq_some_iff.1 hh).1
      exact ⟨0, by omega, rfl, ⟨cs0, (Below.heap_alloc _ _ _ hgw).trans hh, hs, fun i r hi => absurd hi (by omega), fun i r _ hr => hc i r hr⟩, balloc HB0.out⟩
    case round =>
      obtain ⟨k, hk, rfl, ⟨cs, hh, hs, hc, hc'⟩, hB⟩ := hrel
      clear HK0 HB0 HM
      by_cases hlt : k < L.length
      · have hd : decide ((k : Int) < (L.length : Int)) = true := by simpa using hlt
        obtain ⟨b, off, rfl, hb, hps⟩ := (h.keep hB).cells (by omega)
        have hget : L[k]? = some L[k] := List.getElem?_eq_getElem hlt
        obtain ⟨c0, c1, c2, c3, c4, c5, c6, c7, c8⟩ := hps k _ hget
        generalize hx : L[k] = p at *
        have hkM : k < M.length := by rw [HML.out]; exact hlt
        have hgetM : M[k]? = some M[k] := List.getElem?_eq_getElem hkM
        obtain ⟨r0, r1, r2, r3⟩ := (hc' k _ (by omega) hgetM).cells hh
        generalize hy : M[k] = r at *
        have HR := Lib.hid (HMK.out r (List.mem_of_getElem? hgetM))
        have HP := Lib.hid (HOK.out p (List.mem_of_getElem? hget))
        have HG := Lib.hid (setL_get hget hgetM)
        have HH := Lib.hid hh
        have HS := Lib.hid hs
        have HC := Lib.hid hc
        have HC' := Lib.hid hc'
        have HBB := Lib.hid hB
        have hgl : g < wr.heap.size := (Array.getElem?_eq_some_iff.1 hh).1
        have hgn : ¬ g = wr.heap.size := by omega
        clear hget hx hgetM hy hh hs hc hc' hB hps
        go_wp2_with fail
        refine wp_region_grow 12 1 (· < 12) (by kernel_rfl) (by kernel_rfl) rfl ?_
        iterate 12 (refine wpG_step (fun K hK => ?_); apply Exists.intro; refine ⟨.inl ⟨rfl, fun w' hw' => ?_⟩, ?_⟩; (focus ((obtain ⟨hc, hf⟩ := bcell hw'.out); (have hcS := bcellS hw'.out); go_simp <;> first | rfl | (go_at_call 59; exact settled_v p r _ HP.out HR.out))); (go_simp; refine hK _ ?_; clear hK K))
        refine wpG_nil ?_
        refine wpK_tail (by kernel_rfl) (fun w2 hg2 => ?_)
        have hB2 : Below wr.heap.size wr w2 := bgrow (Below.drew (Below.refl _ _)) hg2
        replace HH := Lib.hid ((hB2.block _ hgl).trans HH.out)
        replace HBB := Lib.hid (HBB.out.trans (hB2.mono HBB.out.size))
        clear hg2 hB2 c0 c1 c2 c3 c4 c5 c6 c7 c8 r0 r1 r2 r3 hgl hgn
        have hsz : k * 4 + 4 ≤ cs.size := by rw [HS.out]; omega
        obtain ⟨y0, d0⟩ := there HH.out (i := k * 4) (by omega)
        obtain ⟨y1, d1⟩ := there HH.out (i := k * 4 + 1) (by omega)
        obtain ⟨y2, d2⟩ := there HH.out (i := k * 4 + 2) (by omega)
        obtain ⟨y3, d3⟩ := there HH.out (i := k * 4 + 3) (by omega)
        have f0 := frozenH HH.out (k * 4)
        have f1 := frozenH HH.out (k * 4 + 1)
        have f2 := frozenH HH.out (k * 4 + 2)
        have f3 := frozenH HH.out (k * 4 + 3)
        obtain ⟨S, hS⟩ : ∃ S, setP p r = S := ⟨_, rfl⟩
        rw [hS]
        replace HG : Hid ((setL L M)[k]? = some S) := Lib.hid (by rw [← hS]; exact HG.out)
        have E1 := Lib.hid (pput4 HH.out (k * 4) S)
        have E2 := Lib.hid (pput4b HBB.out hg (k * 4) (k * 4 + 1) (k * 4 + 2) (k * 4 + 3) (.int .i64 S.x) (.int .i64 S.y) (.int .i64 S.u) (.int .i64 S.v))
        clear hS HH HBB
        refine wpAny_one (i := 12) (by kernel_rfl) rfl rfl ?_
        go_simp
        refine wpAny_end (by kernel_rfl) ?_
        refine nopan_normal ?_
        go_wp2
        go_roundw
        case rel => exact ⟨k + 1, by omega, by go_num, ⟨_, E1.out, (writeAt_size _ _ _).trans HS.out, fun i q hi hq => by
          by_cases e : i = k
          · subst e
            obtain rfl : S = q := by have := HG.out; rw [this] at hq; exact Option.some.inj hq
            exact In4.write S hsz
          · exact (HC.out i q (by omega) hq).keep (.inl (by omega)), fun i q hi hq => (HC'.out i q (by omega) hq).keep (.inr (by omega))⟩, E2.out⟩
        case measure => simp [intOf]; omega
      · have hd : decide ((k : Int) < (L.length : Int)) = false := by simp; omega
        obtain rfl : k = L.length := by omega
        have HK := Lib.hid (show RV wr (.slice (some ⟨g, 0, none⟩) L.length cap) (setL L M) from ⟨_, cap, by rw [setL_len HML.out], fun _ => ⟨g, rfl, (Array.getElem?_eq_some_iff.1 hh).1, fun i r hr => (hc i r (by have := (List.getElem?_eq_some_iff.1 hr).1; rwa [setL_len HML.out] at this) hr).cells hh⟩⟩)
        have HBB := Lib.hid hB
        clear hh hs hc hc' hB
        go_wp2
        go_ret
        exact ⟨⟨_, rfl, HK.out⟩, HBB.out⟩
end Go.Proofs.Ytnkoeekgdehhiaa
