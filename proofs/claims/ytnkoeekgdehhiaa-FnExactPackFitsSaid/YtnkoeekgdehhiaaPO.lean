import Derived.Test.YtnkoeekgdehhiaaPN
import Derived.Test.YtnkoeekgdehhiaaPI
namespace Go.Proofs.Ytnkoeekgdehhiaa
open Go.RowKit
set_option linter.unusedVariables false
set_option maxHeartbeats 1000000
attribute [local go_sem 5000] run_mx run_mn
def rmB (u v : Int) : Bool := rng u 0 400 && rng v 0 400
theorem rmB_yes {u v : Int} (h : rmB u v = true) : rng u 0 400 = true ∧ rng v 0 400 = true := by simpa [rmB] using h
theorem rmB_no {u v : Int} (h : rmB u v = false) : rng u 0 400 = false ∨ (rng u 0 400 = true ∧ rng v 0 400 = false) := by
  cases h1 : rng u 0 400
  · exact .inl rfl
  · exact .inr ⟨rfl, by simpa [rmB, h1] using h⟩
theorem rmB_ok {u v : Int} (h : rmB u v = true) : (Rc.mk 0 0 u v).ok = true := by
  obtain ⟨h1, h2⟩ := rmB_yes h
  have := rng_iff.1 h1
  have := rng_iff.1 h2
  exact vr_iff.2 (by dsimp only; omega)
theorem validRoom_v (u v : Int) (b : Bool) (w : World) (hb : rmB u v = b) : Calls Try.prog 37 #[.int .i64 u, .int .i64 v] w fun e w' => e = .returned (.bool b) ∧ w' = w := by
  cases b
  · rcases rmB_no hb with h1 | ⟨h1, h2⟩
    · go_enter Try.func37, Try.ntmps37
      go_wp2_with fail
      with_reducible refine (within_v _ _ _ false _ h1).mono ?_
      rintro e w2 ⟨rfl, rfl⟩
      go_wp2
      go_ret
      exact ⟨rfl, rfl⟩
    · go_enter Try.func37, Try.ntmps37
      go_wp2_with fail
      with_reducible refine (within_v _ _ _ true _ h1).mono ?_
      rintro e w2 ⟨rfl, rfl⟩
      go_wp2_with fail
      with_reducible refine (within_v _ _ _ false _ h2).mono ?_
      rintro e w2 ⟨rfl, rfl⟩
      go_wp2
      go_ret
      exact ⟨rfl, rfl⟩
  · obtain ⟨h1, h2⟩ := rmB_yes hb
    go_enter Try.func37, Try.ntmps37
    go_wp2_with fail
    with_reducible refine (within_v _ _ _ true _ h1).mono ?_
    rintro e w2 ⟨rfl, rfl⟩
    go_wp2_with fail
    with_reducible refine (within_v _ _ _ true _ h2).mono ?_
    rintro e w2 ⟨rfl, rfl⟩
    go_wp2
    go_ret
    exact ⟨rfl, rfl⟩
theorem goodRoom_v (u v : Int) (b : Bool) (w : World) (hb : rmB u v = b) : Calls Try.prog 35 #[.int .i64 u, .int .i64 v] w fun e w' => e = .returned (.bool b) ∧ w' = w := by
  cases b
  · rcases rmB_no hb with h1 | ⟨h1, h2⟩
    · go_enter Try.func35, Try.ntmps35
      go_wp2_with fail
      with_reducible refine (inRange_v _ _ _ false _ h1).mono ?_
      rintro e w2 ⟨rfl, rfl⟩
      go_wp2
      go_ret
      exact ⟨rfl, rfl⟩
    · go_enter Try.func35, Try.ntmps35
      go_wp2_with fail
      with_reducible refine (inRange_v _ _ _ true _ h1).mono ?_
      rintro e w2 ⟨rfl, rfl⟩
      go_wp2_with fail
      with_reducible refine (inRange_v _ _ _ false _ h2).mono ?_
      rintro e w2 ⟨rfl, rfl⟩
      go_wp2
      go_ret
      exact ⟨rfl, rfl⟩
  · obtain ⟨h1, h2⟩ := rmB_yes hb
    go_enter Try.func35, Try.ntmps35
    go_wp2_with fail
    with_reducible refine (inRange_v _ _ _ true _ h1).mono ?_
    rintro e w2 ⟨rfl, rfl⟩
    go_wp2_with fail
    with_reducible refine (inRange_v _ _ _ true _ h2).mono ?_
    rintro e w2 ⟨rfl, rfl⟩
    go_wp2
    go_ret
    exact ⟨rfl, rfl⟩
/-! the exported -/
set_option maxRecDepth 100000 in
theorem PackLeft_yes (A : Option Addr) (c : Nat) (L : List Pk) (u v : Int) (w : World) (h : PV w A L) (hcap : L.length ≤ c) (hL : L.length ≤ 1048576) (hv : vpsB L = true) (hr : rmB u v = true) (M : List Rc) (Z : Rc) (hM : parcM L ⟨0, 0, u, v⟩ = (M, Z)) :
    Calls Try.prog 21 #[.slice A L.length c, .int .i64 u, .int .i64 v] w fun e w' => e = .returned (.agg #[.int .i64 (Z.x), .int .i64 (Z.y), .int .i64 (Z.u), .int .i64 (Z.v)]) ∧ Below w.heap.size w w' := by
  have HM := Lib.hid hM
  clear hM
  go_enter Try.func21, Try.ntmps21
  go_wp2_with fail
  with_reducible refine (vps_v _ c L true _ (h.keep (balloc (Below.refl _ _))) hL hv).mono ?_
  rintro e w1 ⟨rfl, hbb⟩
  have HB := Lib.hid (bkeep2 (balloc (Below.refl _ _)) hbb)
  have HX := Lib.hid ((hbb.block w.heap.size (by simp)).trans (heap_new w (.cells #[.int .i64 0, .int .i64 0, .int .i64 0, .int .i64 0] 37 (0, 0))))
  clear hbb
  go_wp2_with fail
  with_reducible refine (validRoom_v _ _ true _ hr).mono ?_
  rintro e w2 ⟨rfl, rfl⟩
  go_wp2_with fail
  refine (packParcels_v A c L ⟨0, 0, u, v⟩ _ (h.keep HB.out) hcap hv (rmB_ok hr) M Z HM.out).mono ?_
  rintro e w3 ⟨⟨g, rfl, hg, hk⟩, hbb⟩
  replace hg := Nat.le_trans HB.out.size hg
  replace HX := Lib.hid ((hbb.block _ (Array.getElem?_eq_some_iff.1 HX.out).1).trans HX.out)
  replace HB := Lib.hid (bkeep2 HB.out hbb)
  clear hbb
  clear hg hk
  have hlt : w.heap.size < w3.heap.size := (Array.getElem?_eq_some_iff.1 HX.out).1
  have hn1 : ¬ w.heap.size = w3.heap.size := by omega
  have hn2 : ¬ w3.heap.size = w.heap.size := by omega
  obtain ⟨x0, x1, x2, x3⟩ := cells4 HX.out
  have g0 := frozenH HX.out 0
  have g1 := frozenH HX.out 1
  have g2 := frozenH HX.out 2
  have g3 := frozenH HX.out 3
  go_wp2
  refine bp_genP (fun W => W.heap[w.heap.size]? = some (.cells #[.int .i64 Z.x, .int .i64 Z.y, .int .i64 Z.u, .int .i64 Z.v] 37 (0, 0)) ∧ Below w.heap.size w W)
    ⟨(Below.heap_alloc _ _ _ (by simpa using hlt)).trans (pput4z HX.out _ _ _ _), balloc (pput4b HB.out (Nat.le_refl _) _ _ _ _ _ _ _ _)⟩ ?_
  clear HX HB x0 x1 x2 x3 g0 g1 g2 g3
  clear hlt hn1 hn2
  rintro W ⟨hW, hB2⟩
  obtain ⟨r0, r1, r2, r3⟩ := cells4 hW
  exact bodyPost_ret (v := .agg #[.int .i64 (Z.x), .int .i64 (Z.y), .int .i64 (Z.u), .int .i64 (Z.v)]) (by simp only [results, Try.results21]; go_simp) rfl ⟨rfl, hB2⟩
set_option maxRecDepth 100000 in
theorem PackLeft_no (A : Option Addr) (c : Nat) (L : List Pk) (u v : Int) (w : World) (h : PV w A L) (hcap : L.length ≤ c) (hL : L.length ≤ 1048576) (hn : vpsB L = false ∨ (vpsB L = true ∧ rmB u v = false)) :
    Calls Try.prog 21 #[.slice A L.length c, .int .i64 u, .int .i64 v] w fun e w' => e = .returned (.agg #[.int .i64 (0), .int .i64 (0), .int .i64 (0), .int .i64 (0)]) ∧ Below w.heap.size w w' := by
  rcases hn with hv | ⟨hv, hr⟩
  · go_enter Try.func21, Try.ntmps21
    go_wp2_with fail
    with_reducible refine (vps_v _ c L false _ (h.keep (balloc (Below.refl _ _))) hL hv).mono ?_
    rintro e w1 ⟨rfl, hbb⟩
    have HB := Lib.hid (bkeep2 (balloc (Below.refl _ _)) hbb)
    have HX := Lib.hid ((hbb.block w.heap.size (by simp)).trans (heap_new w (.cells #[.int .i64 0, .int .i64 0, .int .i64 0, .int .i64 0] 37 (0, 0))))
    clear hbb
    obtain ⟨x0, x1, x2, x3⟩ := cells4 HX.out
    have g0 := frozenH HX.out 0
    have g1 := frozenH HX.out 1
    have g2 := frozenH HX.out 2
    have g3 := frozenH HX.out 3
    go_wp2
    refine bp_genP (fun W => W.heap[w.heap.size]? = some (.cells #[.int .i64 0, .int .i64 0, .int .i64 0, .int .i64 0] 37 (0, 0)) ∧ Below w.heap.size w W)
      ⟨pput4z HX.out _ _ _ _, pput4b HB.out (Nat.le_refl _) _ _ _ _ _ _ _ _⟩ ?_
    clear HX HB x0 x1 x2 x3 g0 g1 g2 g3
    rintro W ⟨hW, hB2⟩
    obtain ⟨r0, r1, r2, r3⟩ := cells4 hW
    exact bodyPost_ret (v := .agg #[.int .i64 (0), .int .i64 (0), .int .i64 (0), .int .i64 (0)]) (by simp only [results, Try.results21]; go_simp) rfl ⟨rfl, hB2⟩
  · go_enter Try.func21, Try.ntmps21
    go_wp2_with fail
    with_reducible refine (vps_v _ c L true _ (h.keep (balloc (Below.refl _ _))) hL hv).mono ?_
    rintro e w1 ⟨rfl, hbb⟩
    have HB := Lib.hid (bkeep2 (balloc (Below.refl _ _)) hbb)
    have HX := Lib.hid ((hbb.block w.heap.size (by simp)).trans (heap_new w (.cells #[.int .i64 0, .int .i64 0, .int .i64 0, .int .i64 0] 37 (0, 0))))
    clear hbb
    go_wp2_with fail
    with_reducible refine (validRoom_v _ _ false _ hr).mono ?_
    rintro e w2 ⟨rfl, rfl⟩
    obtain ⟨x0, x1, x2, x3⟩ := cells4 HX.out
    have g0 := frozenH HX.out 0
    have g1 := frozenH HX.out 1
    have g2 := frozenH HX.out 2
    have g3 := frozenH HX.out 3
    go_wp2
    refine bp_genP (fun W => W.heap[w.heap.size]? = some (.cells #[.int .i64 0, .int .i64 0, .int .i64 0, .int .i64 0] 37 (0, 0)) ∧ Below w.heap.size w W)
      ⟨pput4z HX.out _ _ _ _, pput4b HB.out (Nat.le_refl _) _ _ _ _ _ _ _ _⟩ ?_
    clear HX HB x0 x1 x2 x3 g0 g1 g2 g3
    rintro W ⟨hW, hB2⟩
    obtain ⟨r0, r1, r2, r3⟩ := cells4 hW
    exact bodyPost_ret (v := .agg #[.int .i64 (0), .int .i64 (0), .int .i64 (0), .int .i64 (0)]) (by simp only [results, Try.results21]; go_simp) rfl ⟨rfl, hB2⟩
set_option maxRecDepth 100000 in
theorem PackParcels_yes (A : Option Addr) (c : Nat) (L : List Pk) (u v : Int) (w : World) (h : PV w A L) (hcap : L.length ≤ c) (hL : L.length ≤ 1048576) (hv : vpsB L = true) (hr : rmB u v = true) (M : List Rc) (Z : Rc) (hM : parcM L ⟨0, 0, u, v⟩ = (M, Z)) :
    Calls Try.prog 15 #[.slice A L.length c, .int .i64 u, .int .i64 v] w fun e w' => (∃ g, e = .returned (.slice (some ⟨g, 0, none⟩) L.length L.length) ∧ w.heap.size ≤ g ∧ Blk4 w' g M) ∧ Below w.heap.size w w' := by
  have HM := Lib.hid hM
  clear hM
  go_enter Try.func15, Try.ntmps15
  go_wp2_with fail
  with_reducible refine (vps_v _ c L true _ h hL hv).mono ?_
  rintro e w1 ⟨rfl, hbb⟩
  have HB := Lib.hid hbb
  skip
  clear hbb
  go_wp2_with fail
  with_reducible refine (validRoom_v _ _ true _ hr).mono ?_
  rintro e w2 ⟨rfl, rfl⟩
  go_wp2_with fail
  refine (packParcels_v A c L ⟨0, 0, u, v⟩ _ (h.keep HB.out) hcap hv (rmB_ok hr) M Z HM.out).mono ?_
  rintro e w3 ⟨⟨g, rfl, hg, hk⟩, hbb⟩
  replace hg := Nat.le_trans HB.out.size hg
  replace HB := Lib.hid (bkeep2 HB.out hbb)
  clear hbb
  go_wp2
  go_ret
  exact ⟨⟨_, rfl, hg, hk.keep (balloc (Below.refl _ _))⟩, balloc HB.out⟩
set_option maxRecDepth 100000 in
theorem PackParcels_no (A : Option Addr) (c : Nat) (L : List Pk) (u v : Int) (w : World) (h : PV w A L) (hcap : L.length ≤ c) (hL : L.length ≤ 1048576) (hn : vpsB L = false ∨ (vpsB L = true ∧ rmB u v = false)) :
    Calls Try.prog 15 #[.slice A L.length c, .int .i64 u, .int .i64 v] w fun e w' => e = .returned (.slice none 0 0) ∧ Below w.heap.size w w' := by
  rcases hn with hv | ⟨hv, hr⟩
  · go_enter Try.func15, Try.ntmps15
    go_wp2_with fail
    with_reducible refine (vps_v _ c L false _ h hL hv).mono ?_
    rintro e w1 ⟨rfl, hbb⟩
    have HB := Lib.hid hbb
    skip
    clear hbb
    go_wp2
    go_ret
    exact ⟨rfl, HB.out⟩
  · go_enter Try.func15, Try.ntmps15
    go_wp2_with fail
    with_reducible refine (vps_v _ c L true _ h hL hv).mono ?_
    rintro e w1 ⟨rfl, hbb⟩
    have HB := Lib.hid hbb
    skip
    clear hbb
    go_wp2_with fail
    with_reducible refine (validRoom_v _ _ false _ hr).mono ?_
    rintro e w2 ⟨rfl, rfl⟩
    go_wp2
    go_ret
    exact ⟨rfl, HB.out⟩
set_option maxRecDepth 100000 in
theorem sPackLeft_yes (A : Option Addr) (c : Nat) (L : List Pk) (u v : Int) (w : World) (h : PV w A L) (hcap : L.length ≤ c) (hL : L.length ≤ 1048576) (hv : vpsB L = true) (hr : rmB u v = true) (M : List Rc) (Z : Rc) (hM : parcM L ⟨0, 0, u, v⟩ = (M, Z)) :
    Calls Try.prog 20 #[.slice A L.length c, .int .i64 u, .int .i64 v] w fun e w' => e = .returned (.agg #[.int .i64 (Z.x), .int .i64 (Z.y), .int .i64 (Z.u), .int .i64 (Z.v)]) ∧ Below w.heap.size w w' := by
  have HM := Lib.hid hM
  clear hM
  go_enter Try.func20, Try.ntmps20
  go_wp2_with fail
  with_reducible refine (svps_v _ c L true _ (h.keep (balloc (Below.refl _ _))) hL hv).mono ?_
  rintro e w1 ⟨rfl, hbb⟩
  have HB := Lib.hid (bkeep2 (balloc (Below.refl _ _)) hbb)
  have HX := Lib.hid ((hbb.block w.heap.size (by simp)).trans (heap_new w (.cells #[.int .i64 0, .int .i64 0, .int .i64 0, .int .i64 0] 37 (0, 0))))
  clear hbb
  go_wp2_with fail
  with_reducible refine (goodRoom_v _ _ true _ hr).mono ?_
  rintro e w2 ⟨rfl, rfl⟩
  go_wp2_with fail
  refine (parcels_v A c L ⟨0, 0, u, v⟩ _ (h.keep HB.out) hcap hv (rmB_ok hr) M Z HM.out).mono ?_
  rintro e w3 ⟨⟨rv, rfl, hown⟩, hbb⟩
  replace hown := own_mono hown HB.out.size
  replace HX := Lib.hid ((hbb.block _ (Array.getElem?_eq_some_iff.1 HX.out).1).trans HX.out)
  replace HB := Lib.hid (bkeep2 HB.out hbb)
  clear hbb
  clear hown
  have hlt : w.heap.size < w3.heap.size := (Array.getElem?_eq_some_iff.1 HX.out).1
  have hn1 : ¬ w.heap.size = w3.heap.size := by omega
  have hn2 : ¬ w3.heap.size = w.heap.size := by omega
  obtain ⟨x0, x1, x2, x3⟩ := cells4 HX.out
  have g0 := frozenH HX.out 0
  have g1 := frozenH HX.out 1
  have g2 := frozenH HX.out 2
  have g3 := frozenH HX.out 3
  go_wp2
  refine bp_genP (fun W => W.heap[w.heap.size]? = some (.cells #[.int .i64 Z.x, .int .i64 Z.y, .int .i64 Z.u, .int .i64 Z.v] 37 (0, 0)) ∧ Below w.heap.size w W)
    ⟨(Below.heap_alloc _ _ _ (by simpa using hlt)).trans (pput4z HX.out _ _ _ _), balloc (pput4b HB.out (Nat.le_refl _) _ _ _ _ _ _ _ _)⟩ ?_
  clear HX HB x0 x1 x2 x3 g0 g1 g2 g3
  clear hlt hn1 hn2
  rintro W ⟨hW, hB2⟩
  obtain ⟨r0, r1, r2, r3⟩ := cells4 hW
  exact bodyPost_ret (v := .agg #[.int .i64 (Z.x), .int .i64 (Z.y), .int .i64 (Z.u), .int .i64 (Z.v)]) (by simp only [results, Try.results20]; go_simp) rfl ⟨rfl, hB2⟩
set_option maxRecDepth 100000 in
theorem sPackLeft_no (A : Option Addr) (c : Nat) (L : List Pk) (u v : Int) (w : World) (h : PV w A L) (hcap : L.length ≤ c) (hL : L.length ≤ 1048576) (hn : vpsB L = false ∨ (vpsB L = true ∧ rmB u v = false)) :
    Calls Try.prog 20 #[.slice A L.length c, .int .i64 u, .int .i64 v] w fun e w' => e = .returned (.agg #[.int .i64 (0), .int .i64 (0), .int .i64 (0), .int .i64 (0)]) ∧ Below w.heap.size w w' := by
  rcases hn with hv | ⟨hv, hr⟩
  · go_enter Try.func20, Try.ntmps20
    go_wp2_with fail
    with_reducible refine (svps_v _ c L false _ (h.keep (balloc (Below.refl _ _))) hL hv).mono ?_
    rintro e w1 ⟨rfl, hbb⟩
    have HB := Lib.hid (bkeep2 (balloc (Below.refl _ _)) hbb)
    have HX := Lib.hid ((hbb.block w.heap.size (by simp)).trans (heap_new w (.cells #[.int .i64 0, .int .i64 0, .int .i64 0, .int .i64 0] 37 (0, 0))))
    clear hbb
    obtain ⟨x0, x1, x2, x3⟩ := cells4 HX.out
    have g0 := frozenH HX.out 0
    have g1 := frozenH HX.out 1
    have g2 := frozenH HX.out 2
    have g3 := frozenH HX.out 3
    go_wp2
    refine bp_genP (fun W => W.heap[w.heap.size]? = some (.cells #[.int .i64 0, .int .i64 0, .int .i64 0, .int .i64 0] 37 (0, 0)) ∧ Below w.heap.size w W)
      ⟨pput4z HX.out _ _ _ _, pput4b HB.out (Nat.le_refl _) _ _ _ _ _ _ _ _⟩ ?_
    clear HX HB x0 x1 x2 x3 g0 g1 g2 g3
    rintro W ⟨hW, hB2⟩
    obtain ⟨r0, r1, r2, r3⟩ := cells4 hW
    exact bodyPost_ret (v := .agg #[.int .i64 (0), .int .i64 (0), .int .i64 (0), .int .i64 (0)]) (by simp only [results, Try.results20]; go_simp) rfl ⟨rfl, hB2⟩
  · go_enter Try.func20, Try.ntmps20
    go_wp2_with fail
    with_reducible refine (svps_v _ c L true _ (h.keep (balloc (Below.refl _ _))) hL hv).mono ?_
    rintro e w1 ⟨rfl, hbb⟩
    have HB := Lib.hid (bkeep2 (balloc (Below.refl _ _)) hbb)
    have HX := Lib.hid ((hbb.block w.heap.size (by simp)).trans (heap_new w (.cells #[.int .i64 0, .int .i64 0, .int .i64 0, .int .i64 0] 37 (0, 0))))
    clear hbb
    go_wp2_with fail
    with_reducible refine (goodRoom_v _ _ false _ hr).mono ?_
    rintro e w2 ⟨rfl, rfl⟩
    obtain ⟨x0, x1, x2, x3⟩ := cells4 HX.out
    have g0 := frozenH HX.out 0
    have g1 := frozenH HX.out 1
    have g2 := frozenH HX.out 2
    have g3 := frozenH HX.out 3
    go_wp2
    refine bp_genP (fun W => W.heap[w.heap.size]? = some (.cells #[.int .i64 0, .int .i64 0, .int .i64 0, .int .i64 0] 37 (0, 0)) ∧ Below w.heap.size w W)
      ⟨pput4z HX.out _ _ _ _, pput4b HB.out (Nat.le_refl _) _ _ _ _ _ _ _ _⟩ ?_
    clear HX HB x0 x1 x2 x3 g0 g1 g2 g3
    rintro W ⟨hW, hB2⟩
    obtain ⟨r0, r1, r2, r3⟩ := cells4 hW
    exact bodyPost_ret (v := .agg #[.int .i64 (0), .int .i64 (0), .int .i64 (0), .int .i64 (0)]) (by simp only [results, Try.results20]; go_simp) rfl ⟨rfl, hB2⟩
set_option maxRecDepth 100000 in
theorem sPackParcels_yes (A : Option Addr) (c : Nat) (L : List Pk) (u v : Int) (w : World) (h : PV w A L) (hcap : L.length ≤ c) (hL : L.length ≤ 1048576) (hv : vpsB L = true) (hr : rmB u v = true) (M : List Rc) (Z : Rc) (hM : parcM L ⟨0, 0, u, v⟩ = (M, Z)) :
    Calls Try.prog 14 #[.slice A L.length c, .int .i64 u, .int .i64 v] w fun e w' => (∃ v, e = .returned v ∧ w'.ownsRow w.heap.size 37 4 v M.length (rvals M)) ∧ Below w.heap.size w w' := by
  have HM := Lib.hid hM
  clear hM
  go_enter Try.func14, Try.ntmps14
  go_wp2_with fail
  with_reducible refine (svps_v _ c L true _ h hL hv).mono ?_
  rintro e w1 ⟨rfl, hbb⟩
  have HB := Lib.hid hbb
  skip
  clear hbb
  go_wp2_with fail
  with_reducible refine (goodRoom_v _ _ true _ hr).mono ?_
  rintro e w2 ⟨rfl, rfl⟩
  go_wp2_with fail
  refine (parcels_v A c L ⟨0, 0, u, v⟩ _ (h.keep HB.out) hcap hv (rmB_ok hr) M Z HM.out).mono ?_
  rintro e w3 ⟨⟨rv, rfl, hown⟩, hbb⟩
  replace hown := own_mono hown HB.out.size
  replace HB := Lib.hid (bkeep2 HB.out hbb)
  clear hbb
  go_wp2
  go_ret
  exact ⟨⟨_, rfl, hown.alloc _⟩, balloc HB.out⟩
set_option maxRecDepth 100000 in
theorem sPackParcels_no (A : Option Addr) (c : Nat) (L : List Pk) (u v : Int) (w : World) (h : PV w A L) (hcap : L.length ≤ c) (hL : L.length ≤ 1048576) (hn : vpsB L = false ∨ (vpsB L = true ∧ rmB u v = false)) :
    Calls Try.prog 14 #[.slice A L.length c, .int .i64 u, .int .i64 v] w fun e w' => e = .returned (.slice none 0 0) ∧ Below w.heap.size w w' := by
  rcases hn with hv | ⟨hv, hr⟩
  · go_enter Try.func14, Try.ntmps14
    go_wp2_with fail
    with_reducible refine (svps_v _ c L false _ h hL hv).mono ?_
    rintro e w1 ⟨rfl, hbb⟩
    have HB := Lib.hid hbb
    skip
    clear hbb
    go_wp2
    go_ret
    exact ⟨rfl, HB.out⟩
  · go_enter Try.func14, Try.ntmps14
    go_wp2_with fail
    with_reducible refine (svps_v _ c L true _ h hL hv).mono ?_
    rintro e w1 ⟨rfl, hbb⟩
    have HB := Lib.hid hbb
    skip
    clear hbb
    go_wp2_with fail
    with_reducible refine (goodRoom_v _ _ false _ hr).mono ?_
    rintro e w2 ⟨rfl, rfl⟩
    go_wp2
    go_ret
    exact ⟨rfl, HB.out⟩
end Go.Proofs.Ytnkoeekgdehhiaa
