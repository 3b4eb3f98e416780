import Derived.Test.YtikndbinlpmgaaaQ13
section
namespace Go.Proofs.Ytikndbinlpmgaaa
open Go.RowKit
set_option linter.unusedVariables false
set_option maxHeartbeats 1000000
attribute [local go_sem] growUpon_value growUpon_skip growUpon_enter
def mkR (k : Nat) : Re := ⟨(k : Int) * 4 + 1, (k : Int) * 4 + 1 + 1, (k : Int) * 4 + 1 + 1 + 1, (k : Int) * 4 + 1 + 1 + 1 + 1⟩
def MKR (n : Nat) : List Re := (List.range n).map mkR
theorem MKR_len (n : Nat) : (MKR n).length = n := by simp [MKR]
theorem MKR_get {n k : Nat} (h : k < n) : (MKR n)[k]? = some (mkR k) := by simp [MKR, h]
theorem MKR_eq {n k : Nat} {r : Re} (h : (MKR n)[k]? = some r) : r = mkR k := by
  have : k < n := by have := (List.getElem?_eq_some_iff.1 h).1; rwa [MKR_len] at this
  rw [MKR_get this] at h
  exact (Option.some.inj h).symm
set_option maxRecDepth 100000 in
theorem markReH_v (g : Nat) (M : List Re) (n : Nat) (w : World) (h : ReB w g M) (hn : n = M.length) (hL : n ≤ 1000) :
    Calls Try.prog 27 #[.slice (some ⟨g, 0, none⟩) n n, .int .i64 1] w fun e w' => e = .returned (.int .i64 ((n : Int) * 4 + 1)) ∧ ReB w' g (MKR n) ∧ w.grownBy w' (some g) := by
  obtain ⟨cs0, hh0, hs0, _⟩ := h
  rw [← hn] at hs0
  clear hn
  have H0 := Lib.hid (And.intro hh0 hs0)
  clear hh0 hs0
  go_enter Try.func27, Try.ntmps27
  go_wp2_with fail
  go_loopw [1, 5] (fun kk i wr => ∃ k : Nat, k ≤ n ∧ i = .int .i64 k ∧ kk = .int .i64 ((k : Int) * 4 + 1) ∧ (∃ cs : Array Value, wr.heap[g]? = some (.cells cs 35 (0, 0)) ∧ cs.size = n * 4 ∧ ∀ i, i < k → InS cs (i * 4) (valsRe (mkR i))) ∧ w.grownBy wr (some g)) (fun _ i _ => n - (intOf i).toNat)
  case atStart => exact ⟨0, by omega, rfl, rfl, ⟨_, H0.out.1, H0.out.2, fun i hi => absurd hi (by omega)⟩, greflS _ _⟩
  case round =>
    obtain ⟨k, hk, rfl, rfl, ⟨cs, hh, hs, hc⟩, hB⟩ := hrel
    clear H0
    by_cases hlt : k < n
    · have hd : decide ((k : Int) < (n : Int)) = true := by simpa using hlt
      have hsz : k * 4 + 4 ≤ cs.size := by rw [hs]; omega
      obtain ⟨y0, d0⟩ := thereS hh (i := k * 4) (by omega)
      obtain ⟨y1, d1⟩ := thereS hh (i := k * 4 + 1) (by omega)
      obtain ⟨y2, d2⟩ := thereS hh (i := k * 4 + 2) (by omega)
      obtain ⟨y3, d3⟩ := thereS hh (i := k * 4 + 3) (by omega)
      have f0 := frozenS hh (k * 4)
      have f1 := frozenS hh (k * 4 + 1)
      have f2 := frozenS hh (k * 4 + 2)
      have f3 := frozenS hh (k * 4 + 3)
      have HS := Lib.hid hs
      have HC := Lib.hid hc
      have HB := Lib.hid hB
      have E1 := Lib.hid (putRe hh (k * 4) (mkR k))
      clear hh hs hc hB
      go_wp2_with fail
      go_roundw
      case rel =>
        refine ⟨k + 1, by omega, by go_num, by go_num, ⟨_, E1.out, (wrAt_size _ _ _).trans HS.out, fun i hi => ?_⟩, ?_⟩
        · by_cases e : i = k
          · subst e; exact InS.write (by simp only [valsRe, List.length_cons, List.length_nil]; omega)
          · exact (HC.out i (by omega)).keepS (.inl (by simp only [valsRe, List.length_cons, List.length_nil]; omega))
        · exact gsetS (gsetS (gsetS (gsetS HB.out _ _) _ _) _ _) _ _
      case measure => simp [intOf]; omega
    · have hd : decide ((k : Int) < (n : Int)) = false := by simp; omega
      obtain rfl : k = n := by omega
      have HK := Lib.hid (show ReB wr g (MKR k) from ⟨cs, hh, by rw [hs, MKR_len], fun i r hr => by
        have h1 : i < k := by have := (List.getElem?_eq_some_iff.1 hr).1; rwa [MKR_len] at this
        rw [MKR_eq hr]; exact hc i h1⟩)
      have HB := Lib.hid hB
      clear hh hs hB hc
      go_wp2
      go_ret
      exact ⟨rfl, HK.out, HB.out⟩
set_option maxRecDepth 100000 in
theorem heldReH_v (g : Nat) (n : Nat) (w : World) (h : ReB w g (MKR n)) (hL : n ≤ 1000) :
    Calls Try.prog 28 #[.slice (some ⟨g, 0, none⟩) n n, .int .i64 1] w fun e w' => e = .returned (.int .i64 ((n : Int) * 4 + 1)) ∧ Below w.heap.size w w' := by
  have H := Lib.hid h
  have hg := h.lt
  clear h
  go_enter Try.func28, Try.ntmps28
  go_wp2_with fail
  go_loopw [1, 5] (fun kk i wr => ∃ k : Nat, k ≤ n ∧ i = .int .i64 k ∧ kk = .int .i64 ((k : Int) * 4 + 1) ∧ Below w.heap.size w wr) (fun _ i _ => n - (intOf i).toNat)
  case atStart => exact ⟨0, by omega, rfl, rfl, Below.refl _ _⟩
  case round =>
    obtain ⟨k, hk, rfl, rfl, hB⟩ := hrel
    by_cases hlt : k < n
    · have hd : decide ((k : Int) < (n : Int)) = true := by simpa using hlt
      obtain ⟨b, off, e, hb, hp⟩ := (H.out.keep hB).v.cells (by rw [MKR_len]; omega)
      cases e
      obtain ⟨c0, c1, c2, c3⟩ := hp k _ (MKR_get hlt)
      dsimp only [mkR] at c0 c1 c2 c3
      rw [Nat.zero_add] at c0 c1 c2 c3
      have HB := Lib.hid hB
      clear hB hp
      go_wp2_with fail
      go_roundw
      case rel => exact ⟨k + 1, by omega, by go_num, by go_num, HB.out⟩
      case measure => simp [intOf]; omega
    · have hd : decide ((k : Int) < (n : Int)) = false := by simp; omega
      obtain rfl : k = n := by omega
      have HB := Lib.hid hB
      clear hB
      go_wp2
      go_ret
      exact ⟨rfl, HB.out⟩
set_option maxRecDepth 100000 in
theorem markReH_nil (w : World) : Calls Try.prog 27 #[.slice none 0 0, .int .i64 1] w fun e w' => e = .returned (.int .i64 1) ∧ w' = w := by
  go_enter Try.func27, Try.ntmps27
  go_wp2_with fail
  go_loopw [1, 5] (fun kk i wr => i = .int .i64 0 ∧ kk = .int .i64 1 ∧ wr = w) (fun _ i _ => 0)
  case atStart => exact ⟨rfl, rfl, rfl⟩
  case round =>
    obtain ⟨rfl, rfl, rfl⟩ := hrel
    go_wp2
    go_ret
    exact ⟨rfl, rfl⟩
set_option maxRecDepth 100000 in
theorem heldReH_nil (w : World) : Calls Try.prog 28 #[.slice none 0 0, .int .i64 1] w fun e w' => e = .returned (.int .i64 1) ∧ w' = w := by
  go_enter Try.func28, Try.ntmps28
  go_wp2_with fail
  go_loopw [1, 5] (fun kk i wr => i = .int .i64 0 ∧ kk = .int .i64 1 ∧ wr = w) (fun _ i _ => 0)
  case atStart => exact ⟨rfl, rfl, rfl⟩
  case round =>
    obtain ⟨rfl, rfl, rfl⟩ := hrel
    go_wp2
    go_ret
    exact ⟨rfl, rfl⟩
theorem below_grownS {w w' : World} {lo g : Nat} (h : w.grownBy w' (some g)) (hg : lo ≤ g) (hw : lo ≤ w.heap.size) : Below lo w w' :=
  ⟨h.os, h.tape, h.output, h.size, fun k hk => h.block k (by omega) (fun e => by have := Option.some.inj e; omega)⟩
theorem GRB.but {lo g0 : Nat} {w w' : World} {v : Value} {M : List Re} (h : GRB lo w v M) (hb : w.grownBy w' (some g0)) (hg : g0 < lo) : GRB lo w' v M :=
  h.imp id fun ⟨g, n, h1, h2, h3, hk⟩ => ⟨g, n, h1, h2, h3, hk.but hb (by omega)⟩
def GRM (w : World) (v : Value) (n : Nat) : Prop := (v = .slice none 0 0 ∧ n = 0) ∨ ∃ g, v = .slice (some ⟨g, 0, none⟩) n n ∧ ReB w g (MKR n)
theorem GRM.keep {w w' : World} {v : Value} {n : Nat} (h : GRM w v n) (hb : Below w.heap.size w w') : GRM w' v n :=
  h.imp id fun ⟨g, h1, hk⟩ => ⟨g, h1, hk.keep hb⟩
theorem markGR (lo : Nat) (w : World) (v : Value) (M : List Re) (h : GRB lo w v M) (hM : M.length ≤ 1000) :
    Calls Try.prog 27 #[v, .int .i64 1] w fun e w' => e = .returned (.int .i64 ((M.length : Int) * 4 + 1)) ∧ GRM w' v M.length ∧ Below lo w w' := by
  rcases h with ⟨rfl, rfl⟩ | ⟨g, n, rfl, hn, hlo, hk⟩
  · refine (markReH_nil w).mono ?_
    rintro e w' ⟨rfl, rfl⟩
    exact ⟨rfl, .inl ⟨rfl, rfl⟩, Below.refl _ _⟩
  · have hlt := hk.lt
    refine (markReH_v g M n w hk hn (by omega)).mono ?_
    rintro e w' ⟨rfl, hk', hg⟩
    subst hn
    exact ⟨rfl, .inr ⟨g, rfl, hk'⟩, below_grownS hg hlo (by omega)⟩
theorem heldGR (w : World) (v : Value) (n : Nat) (h : GRM w v n) (hn : n ≤ 1000) :
    Calls Try.prog 28 #[v, .int .i64 1] w fun e w' => e = .returned (.int .i64 ((n : Int) * 4 + 1)) ∧ Below w.heap.size w w' := by
  rcases h with ⟨rfl, rfl⟩ | ⟨g, rfl, hk⟩
  · refine (heldReH_nil w).mono ?_
    rintro e w' ⟨rfl, rfl⟩
    exact ⟨rfl, Below.refl _ _⟩
  · exact heldReH_v g n w hk hn
theorem eqReR (v v' : Value) (M : List Re) (w : World) (h : ReR w v M) (h' : ReR w v' M) (hM : M.length ≤ 1000) : Calls Try.prog 25 #[v, v'] w fun e w' => e = .returned (.bool true) ∧ Below w.heap.size w w' := by
  obtain ⟨A, c, rfl, h⟩ := h
  obtain ⟨B, c', rfl, h'⟩ := h'
  exact eqReS_same A B c c' M w h h' (by omega)
theorem grM_len (L1 L2 : List Ln) (L3 : List Ce) (u v : Int) : (grM L1 L2 L3 u v).length ≤ 8 := by
  unfold grM
  split
  · rename_i h
    simp only [Bool.and_eq_true] at h
    have := (GF.of h.1).hl8
    rw [List.length_map]; omega
  · simp
set_option maxRecDepth 100000 in
theorem markGrid_v (g1 g2 g3 lo : Nat) (L1 L2 : List Ln) (L3 : List Ce) (w : World) (h1 : LnB w g1 L1) (h2 : LnB w g2 L2) (h3 : CeB w g3 L3) (k1 : L1.length ≤ 1048576) (k2 : L2.length ≤ 1048576) (k3 : L3.length ≤ 1048576) (n12 : g1 < g2) (n23 : g2 < g3) (hlo : lo ≤ g1) :
    Calls Try.prog 26 #[.agg #[.slice (some ⟨g1, 0, none⟩) L1.length L1.length, .slice (some ⟨g2, 0, none⟩) L2.length L2.length, .slice (some ⟨g3, 0, none⟩) L3.length L3.length], .int .i64 1] w fun e w' => (∃ z : Int, e = .returned (.int .i64 z) ∧ 1 ≤ z) ∧ Below lo w w' ∧ ∀ lo' v M, g3 < lo' → GRB lo' w v M → GRB lo' w' v M := by
  have lt3 := h3.lt
  have hb0 : Below w.heap.size w (w.alloc (.cells #[.slice (some ⟨g1, 0, none⟩) L1.length L1.length, .slice (some ⟨g2, 0, none⟩) L2.length L2.length, .slice (some ⟨g3, 0, none⟩) L3.length L3.length] 26 (0, 0))) := balloc (Below.refl _ _)
  have HX := Lib.hid (newS w (.cells #[.slice (some ⟨g1, 0, none⟩) L1.length L1.length, .slice (some ⟨g2, 0, none⟩) L2.length L2.length, .slice (some ⟨g3, 0, none⟩) L3.length L3.length] 26 (0, 0)))
  have H1 := Lib.hid (h1.keep hb0)
  have H2 := Lib.hid (h2.keep hb0)
  have H3 := Lib.hid (h3.keep hb0)
  have HB := Lib.hid hb0
  have HS := Lib.hid (show w.heap.size ≤ (w.alloc (.cells #[.slice (some ⟨g1, 0, none⟩) L1.length L1.length, .slice (some ⟨g2, 0, none⟩) L2.length L2.length, .slice (some ⟨g3, 0, none⟩) L3.length L3.length] 26 (0, 0))).heap.size by simp)
  clear hb0 h1 h2 h3
  go_enter Try.func26, Try.ntmps26
  go_wp2_with fail
  with_reducible refine (markLnS_v g1 L1.length 1 L1 _ H1.out rfl k1 (by omega) (by omega)).mono ?_
  rintro e w1 ⟨rfl, hg1⟩
  have hx1 := (hg1.block _ (by simp) (by intro e; have := Option.some.inj e; omega)).trans HX.out
  have H21 := Lib.hid (H2.out.but hg1 (by omega))
  have H31 := Lib.hid (H3.out.but hg1 (by omega))
  have HX1 := Lib.hid hx1
  have HG1 := Lib.hid hg1
  have d1 := cellS hx1 1
  have d2 := cellS hx1 2
  have s1 := hg1.size
  have q1 : w.heap.size < w1.heap.size := ltS hx1
  clear H1 H2 H3 HX hx1 hg1
  go_wp2_with fail
  with_reducible refine (markLnS_v g2 L2.length _ L2 _ H21.out rfl k2 (by omega) (by omega)).mono ?_
  rintro e w2 ⟨rfl, hg2⟩
  have hx2 := (hg2.block _ q1 (by intro e; have := Option.some.inj e; omega)).trans HX1.out
  have H32 := Lib.hid (H31.out.but hg2 (by omega))
  have HG2 := Lib.hid hg2
  have s2 := hg2.size
  have e2 := cellS hx2 2
  have q2 : w.heap.size < w2.heap.size := ltS hx2
  clear H21 H31 HX1 hx2 hg2 d1 d2
  go_wp2_with fail
  with_reducible refine (markCeS_v g3 L3.length _ L3 _ H32.out rfl k3 (by omega) (by omega)).mono ?_
  rintro e w3 ⟨rfl, hg3⟩
  have HG3 := Lib.hid hg3
  clear hg3 H32 e2
  go_wp2
  go_ret
  refine ⟨⟨_, rfl, by omega⟩, ?_, fun lo' v M hl hM => (((hM.keep HB.out).but HG1.out (by omega)).but HG2.out (by omega)).but HG3.out hl⟩
  exact (((HB.out.mono (by omega)).trans (below_grownS HG1.out hlo (by simp; omega))).trans (below_grownS HG2.out (by omega) (by omega))).trans (below_grownS HG3.out (by omega) (by omega))
end Go.Proofs.Ytikndbinlpmgaaa
end
