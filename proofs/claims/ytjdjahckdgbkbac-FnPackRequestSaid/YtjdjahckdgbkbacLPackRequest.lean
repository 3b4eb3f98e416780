/- FnPackRequest: for every code the law returns true. No condition. -/
import Derived.Test.YtjdjahckdgbkbacQ05
namespace Go.Proofs.Ytjdjahckdgbkbac.lPackRequest
open Go.ChangeShapes Go.WideShapes Go.ChangeAt Go.RowKit Go.Joins
set_option linter.unusedVariables false
set_option maxHeartbeats 1000000
attribute [local go_sem 5000] run_mx run_mn
theorem pv_drop {w : World} {L : List Pk} {b off k : Nat} (h : PS w b off L) (hb : b < w.heap.size) : PV w (some ⟨b, off + k * 9, none⟩) (L.drop k) :=
  ⟨fun _ => ⟨b, off + k * 9, rfl, hb, fun i p hp => by
    rw [List.getElem?_drop] at hp
    have := h (k + i) p hp
    rwa [show off + (k + i) * 9 = off + k * 9 + i * 9 from by rw [Nat.add_mul, Nat.add_assoc]] at this⟩⟩
theorem pvals_len : ∀ (M : List Pk), (pvals M).length = M.length * 9
  | [] => rfl
  | r :: t => by show (vals9 r ++ pvals t).length = _; rw [List.length_append, pvals_len t]; simp [vals9]; omega
theorem pvals_one : ∀ (M : List Pk), ∀ u ∈ pvals M, u.oneCell' = true
  | [], u, h => by simp [pvals] at h
  | r :: t, u, h => by
    have h' : u ∈ vals9 r ++ pvals t := h
    rcases List.mem_append.1 h' with h | h
    · exact vals9_one r u h
    · exact pvals_one t u h
theorem pv_all {w : World} {b off : Nat} {M : List Pk} (h : PS w b off M) : ∀ (j : Nat) (u : Value), (pvals M)[j]? = some u → w.cell? ((⟨b, off, none⟩ : Addr).add j) = some u := fun j u hu => by
  have hj : j < M.length * 9 := by rw [← pvals_len]; exact (List.getElem?_eq_some_iff.1 hu).1
  have hi : j / 9 < M.length := by omega
  obtain ⟨c0, c1, c2, c3, c4, c5, c6, c7, c8⟩ := h (j / 9) _ (List.getElem?_eq_getElem hi)
  have hg := pvals_get (List.getElem?_eq_getElem hi) (j % 9) (by omega)
  rw [show j / 9 * 9 + j % 9 = j by omega, hu] at hg
  have hadd : (⟨b, off, none⟩ : Addr).add j = ⟨b, off + j, none⟩ := by unfold Addr.add; split <;> simp_all
  rw [hadd]
  have h9 : j % 9 = 0 ∨ j % 9 = 1 ∨ j % 9 = 2 ∨ j % 9 = 3 ∨ j % 9 = 4 ∨ j % 9 = 5 ∨ j % 9 = 6 ∨ j % 9 = 7 ∨ j % 9 = 8 := by omega
  have e : off + j = off + j / 9 * 9 + j % 9 := by omega
  rcases h9 with h4 | h4 | h4 | h4 | h4 | h4 | h4 | h4 | h4 <;> rw [h4] at hg e <;> rw [e] <;> simp [vals9] at hg <;> subst hg <;> assumption
theorem cell_oldo {W : World} {b off j : Nat} {u : Value} (o : Obj) (h : W.cell? ((⟨b, off, none⟩ : Addr).add j) = some u) (hb : b < W.heap.size) : (W.alloc o).cell? ((⟨b, off, none⟩ : Addr).add j) = some u :=
  (World.cell?_of_block (by rw [block_add]; exact Below.heap_alloc W o b hb)).trans h
theorem in9_flip {cs : Array Value} {k : Nat} {p : Pk} {L : List Pk} (hp : L[k]? = some p) (hs : k * 9 + 9 ≤ cs.size) (hc : ∀ i q, L[i]? = some q → In9 cs (i * 9) (if i < k then q.flip else q)) :
    ∀ i q, L[i]? = some q → In9 (cs.setIfInBounds (k * 9 + 2) (.int .i64 p.flip.s)) (i * 9) (if i < k + 1 then q.flip else q) := by
  intro i q hq j hj
  rw [Array.getElem?_setIfInBounds]
  by_cases hik : i = k
  · subst hik
    obtain rfl : p = q := by rw [hp] at hq; exact Option.some.inj hq
    have e0 : (if i < i + 1 then p.flip else p) = p.flip := if_pos (by omega)
    rw [e0]
    have h0 := hc i p hp j hj
    have e1 : (if i < i then p.flip else p) = p := if_neg (by omega)
    rw [e1] at h0
    by_cases e : j = 2
    · subst e; rw [if_pos rfl, if_pos (by omega)]; rfl
    · rw [if_neg (by omega), h0]
      have : j = 0 ∨ j = 1 ∨ j = 3 ∨ j = 4 ∨ j = 5 ∨ j = 6 ∨ j = 7 ∨ j = 8 := by omega
      rcases this with rfl | rfl | rfl | rfl | rfl | rfl | rfl | rfl <;> rfl
  · rw [if_neg (by omega)]
    have h0 := hc i q hq j hj
    rw [h0]
    by_cases h1 : i < k
    · rw [if_pos h1, if_pos (by omega)]
    · rw [if_neg h1, if_neg (by omega)]
theorem map_flip {cs : Array Value} {L : List Pk} (hc : ∀ i q, L[i]? = some q → In9 cs (i * 9) (if i < L.length then q.flip else q)) : ∀ i q, (L.map Pk.flip)[i]? = some q → In9 cs (i * 9) q := by
  intro i q hq
  rw [List.getElem?_map] at hq
  cases hl : L[i]? with
  | none => rw [hl] at hq; cases hq
  | some p =>
    rw [hl] at hq
    simp at hq
    subst hq
    have := hc i p hl
    rwa [if_pos (List.getElem?_eq_some_iff.1 hl).1] at this
theorem grown_lo {W w5 : World} {v : Value} {o : Obj} {hi : Nat} (h : (W.alloc o).grownBy w5 v.ownBlock) (hob : ∀ k, v.ownBlock = some k → W.heap.size ≤ k ∧ k < hi) : Below W.heap.size W w5 :=
  ((Below.refl _ W).alloc (Nat.le_refl _) o).trans ⟨h.os, h.tape, h.output, h.size, fun k hk => h.block k (by simp; omega) (fun e => by have := hob k e.symm; omega)⟩
set_option maxRecDepth 100000 in
theorem walk (A : Option Addr) (n c : Nat) (z : List Int) (w : World) (wz : IsRow .u8 w A n c z) : Calls Try.prog 4 #[.slice A n c] w fun e w' => e = .returned (.bool true) ∧ Below w.heap.size w w' := by
  obtain ⟨hb, hn, hc⟩ := wz.bts
  clear wz
  by_cases hlen : n ≤ 1048576
  · have hl1 : ¬ (1048576 : Int) < n := by omega
    obtain ⟨ti, tz, ti1, ti2, ti3, ti4, ti5⟩ := pack_info
    go_enter Try.func4, Try.ntmps4
    go_wp2_with fail
    with_reducible refine (DrawPackRequest_any A n c _ hb hn hc).mono ?_
    rintro e w1 ⟨⟨A', c', L, rfl, hL8, hcap, hpv⟩, hB⟩
    have HB := Lib.hid hB
    clear hb hn hc hB
    have hL : L.length ≤ 1048576 := by omega
    have HP := Lib.hid hpv
    clear hpv
    obtain ⟨⟨a, b⟩, hr⟩ : ∃ x, reqP L = x := ⟨_, rfl⟩
    have HR := Lib.hid hr
    clear hr
    go_wp2_with fail
    with_reducible refine (PackRequest_c A' c' _ L _ HP.out rfl hL a b HR.out).mono ?_
    rintro e w2 ⟨rfl, hb2⟩
    replace HP := Lib.hid (HP.out.keep hb2)
    replace HB := Lib.hid (bkeep2 HB.out hb2)
    clear hb2
    go_wp2_with fail
    with_reducible refine (sPackRequest_c A' c' _ L _ HP.out rfl hL a b HR.out).mono ?_
    rintro e w3 ⟨rfl, hb3⟩
    replace HP := Lib.hid (HP.out.keep hb3)
    replace HB := Lib.hid (bkeep2 HB.out hb3)
    clear hb3
    cases hvv : vpsB L
    · have hr := HR.out
      simp [reqP, hvv] at hr
      obtain ⟨rfl, rfl⟩ := hr
      go_wp2
      go_ret
      exact ⟨rfl, HB.out⟩
    · have hok := (vpsB_iff.1 hvv).1
      have hreq : reqM L = (a, b) := by have := HR.out; simpa [reqP, hvv] using this
      obtain ⟨q1, q2, q3, q4⟩ := reqM_bd hok
      rw [hreq] at q1 q2 q3 q4
      have h7 := (vpsB_iff.1 hvv).2
      dsimp only at q1 q2 q3 q4
      rcases L with _ | ⟨p, t⟩
      · simp [reqM] at hreq
        obtain ⟨rfl, rfl⟩ := hreq
        have hz0 : decide ((0 : Int) < 0) = false := by simp
        go_wp2
        go_ret
        exact ⟨rfl, HB.out⟩
      · have ha0 : decide (a < 0) = false := by simp; omega
        have hlz : (((p :: t).length : Int) == 0) = false := beq_eq_false_iff_ne.2 (by simp; omega)
        have hvt : vpsB t = true := vpsB_iff.2 ⟨fun q hq => hok q (List.mem_cons_of_mem _ hq), by simp at h7 ⊢; omega⟩
        obtain ⟨m1, m2⟩ := reqM_tail hok
        rw [hreq] at m1 m2
        dsimp only at m1 m2
        obtain ⟨⟨a1, b1⟩, hr1⟩ : ∃ x, reqP t = x := ⟨_, rfl⟩
        have hreq1 : reqM t = (a1, b1) := by rw [← hr1]; simp [reqP, hvt]
        rw [hreq1] at m1 m2
        dsimp only at m1 m2
        have hvf : vpsB ((p :: t).map Pk.flip) = true := vpsB_iff.2 ⟨fun q hq => by
          obtain ⟨q', hq', rfl⟩ := List.mem_map.1 hq
          exact Pk.flip_ok (hok q' hq'), by rw [List.length_map]; exact h7⟩
        have hrf : reqP ((p :: t).map Pk.flip) = (a, b) := by simp only [reqP, hvf, if_true]; rw [reqM_flip hok]; exact hreq
        have hdr : (p :: t).drop 1 = t := rfl
        have hl0 : 0 < (p :: t).length := by simp
        have ht : t.length = (p :: t).length - 1 := by simp
        have d1 : decide (a1 ≤ a) = true := by simpa using m1
        have d2 : decide (b1 ≤ b) = true := by simpa using m2
        have HK := Lib.hid hok
        have HRF := Lib.hid hrf
        have HR1 := Lib.hid hr1
        have HT := Lib.hid ht
        have HDR := Lib.hid hdr
        clear hvt m1 m2 hreq1 hvf hrf hdr hr1 hok hreq hvv ht
        generalize p :: t = L at *
        obtain ⟨bp, off, rfl, hbp, hps⟩ := HP.out.cells hl0
        have HPS := Lib.hid hps
        have h1len : 1 ≤ L.length := hl0
        clear hps
        have HTL : ∃ A1 n1 c1, (∀ w, PV w (some ⟨bp, off, none⟩) L → PV w A1 t) ∧ n1 = t.length ∧ n1 = L.length - 1 ∧ c1 = c' - 1 ∧ (c' = 1 → A1 = some ⟨bp, off, none⟩) ∧ (¬ c' = 1 → A1 = some ⟨bp, off + 9, none⟩) := by
          by_cases hc1 : c' = 1
          · refine ⟨some ⟨bp, off, none⟩, t.length, c' - 1, fun w h => ⟨fun h0 => ?_⟩, rfl, HT.out, rfl, fun _ => rfl, fun h => absurd hc1 h⟩
            have := HT.out; omega
          · refine ⟨some ⟨bp, off + 9, none⟩, t.length, c' - 1, fun w h => ?_, rfl, HT.out, rfl, fun h => absurd h hc1, fun _ => rfl⟩
            obtain ⟨b', off', e, hb', hps'⟩ := h.cells hl0
            injection e with e
            injection e with e1 e2
            subst e1 e2
            have := pv_drop (k := 1) hps' hb'
            rw [HDR.out] at this
            simpa using this
        obtain ⟨A1, n1, c1, hA1, hn1, hn2, hc1, hA2, hA3⟩ := HTL
        have HA1 := Lib.hid hA1
        have HN1 := Lib.hid hn1
        clear hA1 hn1
        have step : Calls Try.prog 13 #[.slice A1 n1 c1] w3 fun e w' => e = .returned (.tuple #[.int .i64 a1, .int .i64 b1]) ∧ Below w3.heap.size w3 w' :=
          PackRequest_c A1 c1 n1 t w3 (HA1.out w3 HP.out) HN1.out (by omega) a1 b1 HR1.out
        subst hn2 hc1
        have HST := Lib.hid step
        clear step
        by_cases hc1 : c' = 1
        all_goals
          first
          | (have hA := hA2 hc1
             subst hA hc1
             have e0 : L.length - 1 = 0 := by omega
             simp only [Nat.sub_self, e0] at HST
             clear e0
             clear hA2 hA3)
          | (have hA := hA3 hc1
             subst hA
             clear hA2 hA3)
          go_wp2_with fail
          with_reducible refine HST.out.mono ?_
          rintro e w4 ⟨rfl, hb4⟩
          replace HP := Lib.hid (HP.out.keep hb4)
          replace HB := Lib.hid (bkeep2 HB.out hb4)
          clear hb4
          have HPS4 := Lib.hid (show PS w4 bp off L from by
            obtain ⟨b', off', e, hb', hps'⟩ := HP.out.cells hl0
            injection e with e
            injection e with e1 e2
            subst e1 e2
            exact hps')
          have hbp4 : bp < w4.heap.size := by
            obtain ⟨b', off', e, hb', hps'⟩ := HP.out.cells hl0
            injection e with e
            injection e with e1 e2
            subst e1 e2
            exact hb'
          have hnews := pv_all HPS4.out
          have HNW := Lib.hid hnews
          have ho0 : (w4.alloc (.cells #[] 24 (0, 0))).ownsRow w4.heap.size 24 9 (.slice (some ⟨w4.heap.size, 0, none⟩) 0 0) 0 [] := World.ownsRow_lit (base := w4.heap.size) (e := 24) (size := 9) w4 #[] 0 (Nat.le_refl _) (by decide) rfl
          have HO := Lib.hid ho0
          clear hnews ho0 HST
          go_wp2_with (at_builtin; refine wpList_append_own _ rfl _ _ 28 rfl w4.heap.size 24 ti tz 9 56 Try.underlying28 ti1 ti2 ti3 ti4 ti5 (by decide) _ _ _ rfl HO.out ⟨bp, off, none⟩ L.length _ (pvals L) rfl (pvals_len L) (fun j u hu => cell_oldo _ (HNW.out j u hu) hbp4) (pvals_one L) (by simp only [maxLen]; omega) (by omega) (by simp) ?_)
          intro v5 w5 how5 hgr5 _
          have hB5 : Below w4.heap.size w4 w5 := grown_lo hgr5 HO.out.lt
          rcases own_in9 how5 (by simp) with ⟨rfl, h0⟩ | ⟨g, cap, cs0, rfl, hg, hcp, hh, hs, hin⟩
          · rw [h0] at hl0; simp at hl0
          have HI0 := Lib.hid (show ∃ cs : Array Value, w5.heap[g]? = some (.cells cs 24 (0, 0)) ∧ cs.size = cap * 9 ∧ ∀ i q, L[i]? = some q → In9 cs (i * 9) (if i < 0 then q.flip else q) from ⟨cs0, hh, hs, fun i q hq => by rw [if_neg (by omega)]; exact hin i q hq⟩)
          have HB5 := Lib.hid hB5
          clear hgr5 how5 HO hh hs hin hB5 HNW HPS4 HP HPS
          go_wp2_with fail
          go_loopw [11] (fun i wr => ∃ k : Nat, k ≤ L.length ∧ i = .int .i64 k ∧ (∃ cs : Array Value, wr.heap[g]? = some (.cells cs 24 (0, 0)) ∧ cs.size = cap * 9 ∧ ∀ i q, L[i]? = some q → In9 cs (i * 9) (if i < k then q.flip else q)) ∧ Below w4.heap.size w4 wr) (fun i _ => L.length - (intOf i).toNat)
          case atStart => exact ⟨0, by omega, rfl, HI0.out, HB5.out⟩
          case round =>
            obtain ⟨k, hk, rfl, ⟨cs, hh, hs, hin⟩, hBr⟩ := hrel
            clear HI0 HB5
            by_cases hlt : k < L.length
            · have hd : decide ((k : Int) < (L.length : Int)) = true := by simpa using hlt
              have hget : L[k]? = some L[k] := List.getElem?_eq_getElem hlt
              have hpk : L[k].ok = true := HK.out _ (List.getElem_mem hlt)
              generalize hx : L[k] = p at *
              have hsd := (vpB_iff.1 hpk).2.2.1
              have e2 : wr.cell? ⟨g, k * 9 + 2, none⟩ = some (.int .i64 p.s) := (cellH hh _).trans (by have := hin k p hget 2 (by omega); rw [if_neg (by omega)] at this; simpa [vals] using this)
              have f2 := frozenH hh (k * 9 + 2)
              have hgl : g < wr.heap.size := lt_of_heap hh
              have hsz : k * 9 + 9 ≤ cs.size := by rw [hs]; omega
              have hgn : ¬ g = wr.heap.size := by omega
              have HH := Lib.hid hh
              have HS := Lib.hid hs
              have HI := Lib.hid hin
              have HG := Lib.hid hget
              have HX := Lib.hid hx
              have HBR := Lib.hid hBr
              clear hh hs hin hget hx hBr
              have hfl : (p.s = 0 ∧ p.flip.s = 1) ∨ (p.s = 1 ∧ p.flip.s = 0) ∨ (p.s = 2 ∧ p.flip.s = 3) ∨ (p.s = 3 ∧ p.flip.s = 2) := by
                unfold Pk.flip; dsimp only
                have : p.s = 0 ∨ p.s = 1 ∨ p.s = 2 ∨ p.s = 3 := by omega
                rcases this with h | h | h | h <;> simp [h]
              have HPUT := Lib.hid ((Below.heap_alloc (wr.setCell ⟨g, k * 9 + 2, none⟩ (.int .i64 p.flip.s)) (.cells #[.int .i64 1, .int .i64 0, .int .i64 3, .int .i64 2] 3 (0, 0)) g (lt_of_heap (pput1 (i := k * 9 + 2) HH.out (.int .i64 p.flip.s)))).trans (pput1 (i := k * 9 + 2) HH.out (.int .i64 p.flip.s)))
              have HFL := Lib.hid (in9_flip HG.out hsz HI.out)
              have HBR1 := HBR.out.setCell (p := ⟨g, k * 9 + 2, none⟩) hg (.int .i64 p.flip.s)
              have HBR2 := Lib.hid (HBR1.alloc HBR1.size (.cells #[.int .i64 1, .int .i64 0, .int .i64 3, .int .i64 2] 3 (0, 0)))
              clear HBR1
              rcases hfl with ⟨h1, h2⟩ | ⟨h1, h2⟩ | ⟨h1, h2⟩ | ⟨h1, h2⟩
              all_goals
                rw [h1] at e2
                rw [h2] at HPUT HFL HBR2
                clear h1 h2 hsd
                go_wp2
                go_roundw
                case rel => exact ⟨k + 1, by omega, by go_num, ⟨_, HPUT.out, by rw [Array.size_setIfInBounds]; exact HS.out, HFL.out⟩, HBR2.out⟩
                case measure => simp [intOf]; omega
            · have hd : decide ((k : Int) < (L.length : Int)) = false := by simp; omega
              obtain rfl : k = L.length := by omega
              have HPF := Lib.hid (pv_in9 hh (map_flip hin))
              have HBR := Lib.hid (bkeep2 HB.out hBr)
              clear hh hs hin hBr
              have step2 : Calls Try.prog 13 #[.slice (some ⟨g, 0, none⟩) L.length cap] wr fun e w' => e = .returned (.tuple #[.int .i64 a, .int .i64 b]) ∧ Below wr.heap.size wr w' :=
                PackRequest_c _ cap L.length (L.map Pk.flip) wr HPF.out (by simp) hL a b HRF.out
              have HST2 := Lib.hid step2
              clear step2
              go_wp2_with fail
              with_reducible refine HST2.out.mono ?_
              rintro e w6 ⟨rfl, hb6⟩
              replace HBR := Lib.hid (bkeep2 HBR.out hb6)
              clear hb6 HST2
              go_wp2
              go_ret
              exact ⟨rfl, HBR.out⟩
  · have hl1 : (1048576 : Int) < n := by omega
    go_enter Try.func4, Try.ntmps4
    go_wp2
    go_ret
    exact ⟨rfl, Below.refl _ _⟩
set_option maxRecDepth 100000 in
theorem lifted (os : Os) (started : os.Started) (H : Type) (enc : TypeId × Value → H) :
    ReturnsInHanded {} Try.checked os 4 .any (Rows.fnPackRequestSpec.pre6 enc Try.prog Try.f4 Rows.fnPackRequestRow.domain false) (Rows.fnPackRequestSpec.post enc Try.prog Try.f4 false true false false) := by
  refine returnsInHanded_of_change (C := Try.checked) own started (by kernel_rfl) Try.func4
    (ChangeSpec.witness6 (enc := enc) (C := Try.checked) false ⟨#[], #[.slice none 0 0], []⟩ 8 (by kernel_rfl) (by kernel_rfl) (by kernel_rfl) (by kernel_rfl)) ?_
  intro W base args ds gs before hval0 hW hcnd _
  have hval : ∀ (j : Nat) t v, Try.f4.params[j]? = some t → args[j]? = some v → Value.okWide Try.prog W .any base t v := hval0
  have hW' := hW
  obtain ⟨p, q, hA0, hV, rfl, hfz, hnd⟩ := hW
  have hA : DataW.TrodAll enc Try.prog W 0 (fun _ => true) true Try.f4.params.toList args.toList ds p := hA0
  rw [Try.params4] at hA hval
  obtain ⟨v0, vs0, d0, ds0, p0, q0, hargs, rfl, rfl, h0, r0⟩ := trodAll_cons hA
  obtain ⟨rfl, rfl, rfl⟩ := trodAll_nil r0
  obtain rfl : args = #[v0] := by cases args; simp_all
  obtain ⟨rfl, rfl⟩ := trodVars_none hV
  have k0 := h0
  have lt0 : ∀ x ∈ p0, x.block < W.heap.size := by obtain ⟨m, hm⟩ := k0; exact DataW.trod_lt m _ _ _ hm
  obtain ⟨a0, len0, cap0, rfl⟩ := okWide_slice Try.underlying22 (hval 0 22 v0 rfl rfl)
  obtain ⟨z0, wz0⟩ : ∃ zs, IsRow .u8 W a0 len0 cap0 zs := by
    obtain ⟨fuel, hf⟩ := h0
    rcases open_ints Try.underlying22 Try.underlying5 (by kernel_rfl) hf with ⟨hcs, _⟩ | ⟨x, l, c, zs, hcs, _, hl, hm, hz, _, hcell, hwz⟩
    · simp [Value.cells] at hcs
      obtain ⟨rfl, rfl, rfl⟩ := hcs
      exact ⟨[], .inl ⟨rfl, rfl, rfl, rfl⟩⟩
    · simp [Value.cells] at hcs
      obtain ⟨rfl, rfl, rfl⟩ := hcs
      exact ⟨zs, .inr ⟨_, rfl, hl, hm, by simpa using hz, hcell, hwz⟩⟩
  clear hA0 hval0
  refine (walk a0 len0 cap0 z0 W wz0).mono fun e W' ⟨he, bel⟩ => ?_
  subst he
  exact ⟨_, rfl, _, _, _, [], _, [], hW', trodAll_mk1 (shut_bool Try.underlying4 _), (trodAll_cons_mk (Below.trod laidOut (by kernel_rfl) (of_decide_eq_true (by kernel_rfl)) k0 bel lt0) trodAll_mk0), rfl, bel.frame _, fun h => by cases h⟩
theorem over : Rows.fnPackRequestRow.holds Try.pinned (OpenSpec.ofChange Rows.fnPackRequestSpec) :=
  OpenClaim.holds_of_wide 4 Try.f4 rfl rfl rfl rfl rfl rfl rfl ⟨rfl, rfl, rfl, rfl, rfl⟩ rfl rfl rfl rfl rfl (by kernel_rfl) Try.func4 (by kernel_rfl)
    (of_decide_eq_true (by kernel_rfl)) (by unfold Func.isWrapper; first | (rw [if_pos (by decide +kernel)]; kernel_rfl) | (rw [if_neg (by decide +kernel)]; exact ⟨rfl, rfl⟩))
    (fun os started H enc _ => lifted os started H enc)
theorem proved : Rows.FnPackRequestSaid := over
end Go.Proofs.Ytjdjahckdgbkbac.lPackRequest
