import Derived.Test.YtjfdmdmlgdgchaaDoorQ05
import Derived.RegionTactic
section
namespace Go.Proofs.YtjfdmdmlgdgchaaDoor
open Go.RowKit
set_option linter.unusedVariables false
set_option linter.unusedSimpArgs false
set_option maxHeartbeats 2000000
attribute [local go_sem] growUpon_value growUpon_skip growUpon_enter
/-! spec.indexOf; the model's reading of words. -/
def IXP (x : List UInt8) (r : Int) : Prop := ∀ s : Int, 0 ≤ s → s ≤ 3 → x = sideB s → r = s
theorem side_inj : ∀ i s : Fin 4, sideWds[i.val]? = some (sideB (s.val : Int)) → i = s := by decide
theorem IXP.hit {k : Nat} (hk : k < 4) {x : List UInt8} (h : sideWds[k]? = some x) : IXP x k := fun s h0 h3 e => by
  obtain ⟨n, rfl⟩ := Int.eq_ofNat_of_zero_le h0
  have := side_inj ⟨k, hk⟩ ⟨n, by omega⟩ (by subst e; exact h)
  have : k = n := congrArg Fin.val this
  omega
theorem IXP.miss {x : List UInt8} (h : ∀ j, j < 4 → sideWds[j]? ≠ some x) (r : Int) : IXP x r := fun s h0 h3 e => by
  subst e
  have : s = 0 ∨ s = 1 ∨ s = 2 ∨ s = 3 := by omega
  rcases this with rfl | rfl | rfl | rfl
  · exact absurd rfl (h 0 (by omega))
  · exact absurd rfl (h 1 (by omega))
  · exact absurd rfl (h 2 (by omega))
  · exact absurd rfl (h 3 (by omega))
set_option maxRecDepth 100000 in
theorem indexOf_v (V : Value) (x : List UInt8) (w : World) (hV : SWv w V) : Calls Tryd.prog 44 #[V, tx x] w fun e w' => (∃ r, e = .returned (.int .i64 r) ∧ IXP x r) ∧ Below w.heap.size w w' := by
  obtain ⟨g, rfl, hS⟩ := hV
  have HS := Lib.hid hS
  clear hS
  go_enter Tryd.func44, Tryd.ntmps44
  go_wp2_with fail
  go_loop [5] (fun iv => ∃ (k : Nat), iv = .int .i64 k ∧ k ≤ 4 ∧ ∀ j, j < k → sideWds[j]? ≠ some x) (fun iv => 4 - (intOf iv).toNat)
  case atStart => exact ⟨0, rfl, by omega, fun j hj => by omega⟩
  case round =>
    obtain ⟨k, rfl, hk, hno⟩ := hrel
    have HN := Lib.hid hno
    clear hno
    by_cases hp : k < 4
    · have hd : decide ((k : Int) < 4) = true := decide_eq_true (by omega)
      have wP : IntKind.i64.wrap ((k : Int) + 1) = ((k + 1 : Nat) : Int) := (IntWalk.i64_in _ (by omega)).trans (by omega)
      have hl4 : sideWds.length = 4 := rfl
      have hy0 : sideWds[k]? = some (sideWds[k]'(by omega)) := List.getElem?_eq_getElem (by omega)
      obtain ⟨y, hy⟩ : ∃ y, sideWds[k]'(by omega) = y := ⟨_, rfl⟩
      rw [hy] at hy0
      have HY := Lib.hid hy0
      have c0 := HS.out.at k hy0
      have e1 := fun s t w => eqg_tx .eql s t y x w
      clear hy0 hy
      by_cases he : y = x
      · subst he
        have e2 := eq_same y
        go_wp2
        go_ret
        exact ⟨⟨_, rfl, IXP.hit hp HY.out⟩, Below.refl _ _⟩
      · have e2 := eql_not y x he
        have HN2 : Hid (∀ j, j < k + 1 → sideWds[j]? ≠ some x) := Lib.hid (fun j hj => by
          by_cases hjk : j = k
          · subst hjk; rw [HY.out]; exact fun e => he (Option.some.inj e)
          · exact HN.out j (by omega))
        clear he
        go_wp2
        go_roundw
        · exact ⟨k + 1, rfl, by omega, HN2.out⟩
        · simp [intOf]; omega
    · have hd : decide ((k : Int) < 4) = false := decide_eq_false (by omega)
      go_wp2
      go_ret
      exact ⟨⟨_, rfl, IXP.miss (fun j hj => HN.out j (by omega)) _⟩, Below.refl _ _⟩
/-- the words behind the first three, read into an item -/
def spL : List (List UInt8) → PKV → Option PKV
  | [], p => some p
  | x :: r, p =>
    if x = FX then spL r ⟨p.w0, p.h0, p.s, true, p.fy, p.ex, p.an, p.px, p.py⟩
    else if x = FY then spL r ⟨p.w0, p.h0, p.s, p.fx, true, p.ex, p.an, p.px, p.py⟩
    else if x = EX then spL r ⟨p.w0, p.h0, p.s, p.fx, p.fy, true, p.an, p.px, p.py⟩
    else if x = AN then spL r.tail ⟨p.w0, p.h0, p.s, p.fx, p.fy, p.ex, numV 999 (r.headD []), p.px, p.py⟩
    else if x = PXW then spL r.tail ⟨p.w0, p.h0, p.s, p.fx, p.fy, p.ex, p.an, numV 999 (r.headD []), p.py⟩
    else if x = PYW then spL r.tail ⟨p.w0, p.h0, p.s, p.fx, p.fy, p.ex, p.an, p.px, numV 999 (r.headD [])⟩
    else none
termination_by L => L.length
decreasing_by all_goals (simp [List.length_tail]; try omega)
theorem spL_nil (p : PKV) : spL [] p = some p := by rw [spL]
theorem spL_fx (r : List (List UInt8)) (p : PKV) : spL (FX :: r) p = spL r ⟨p.w0, p.h0, p.s, true, p.fy, p.ex, p.an, p.px, p.py⟩ := by rw [spL, if_pos rfl]
theorem spL_fy (r : List (List UInt8)) (p : PKV) : spL (FY :: r) p = spL r ⟨p.w0, p.h0, p.s, p.fx, true, p.ex, p.an, p.px, p.py⟩ := by rw [spL, if_neg (by decide), if_pos rfl]
theorem spL_ex (r : List (List UInt8)) (p : PKV) : spL (EX :: r) p = spL r ⟨p.w0, p.h0, p.s, p.fx, p.fy, true, p.an, p.px, p.py⟩ := by rw [spL, if_neg (by decide), if_neg (by decide), if_pos rfl]
theorem spL_an (r : List (List UInt8)) (p : PKV) : spL (AN :: r) p = spL r.tail ⟨p.w0, p.h0, p.s, p.fx, p.fy, p.ex, numV 999 (r.headD []), p.px, p.py⟩ := by rw [spL, if_neg (by decide), if_neg (by decide), if_neg (by decide), if_pos rfl]
theorem spL_px (r : List (List UInt8)) (p : PKV) : spL (PXW :: r) p = spL r.tail ⟨p.w0, p.h0, p.s, p.fx, p.fy, p.ex, p.an, numV 999 (r.headD []), p.py⟩ := by rw [spL, if_neg (by decide), if_neg (by decide), if_neg (by decide), if_neg (by decide), if_pos rfl]
theorem spL_py (r : List (List UInt8)) (p : PKV) : spL (PYW :: r) p = spL r.tail ⟨p.w0, p.h0, p.s, p.fx, p.fy, p.ex, p.an, p.px, numV 999 (r.headD [])⟩ := by rw [spL, if_neg (by decide), if_neg (by decide), if_neg (by decide), if_neg (by decide), if_neg (by decide), if_pos rfl]
theorem spL_no {x : List UInt8} (r : List (List UInt8)) (p : PKV) (h1 : x ≠ FX) (h2 : x ≠ FY) (h3 : x ≠ EX) (h4 : x ≠ AN) (h5 : x ≠ PXW) (h6 : x ≠ PYW) : spL (x :: r) p = none := by rw [spL, if_neg h1, if_neg h2, if_neg h3, if_neg h4, if_neg h5, if_neg h6]
theorem spL_wds {w0 h0 s : Int} {fx fy ex : Bool} {an px py : Int} (hv : vpB w0 h0 s an px py = true) : spL ((wds w0 h0 s fx fy ex an px py).drop 3) ⟨w0, h0, s, false, false, false, 4, 0, 0⟩ = some ⟨w0, h0, s, fx, fy, ex, an, px, py⟩ := by
  obtain ⟨⟨a1, a2⟩, ⟨a3, a4⟩, ⟨a5, a6⟩, ⟨a7, a8⟩, ⟨a9, a10⟩, ⟨a11, a12⟩⟩ := vpB_iff.1 hv
  rw [wds_eq]
  simp only [List.drop_succ_cons, List.drop_zero]
  have h1 : ∀ R, spL (op fx [FX] ++ R) ⟨w0, h0, s, false, false, false, 4, 0, 0⟩ = spL R ⟨w0, h0, s, fx, false, false, 4, 0, 0⟩ := fun R => by
    cases fx
    · rfl
    · exact spL_fx R _
  have h2 : ∀ R, spL (op fy [FY] ++ R) ⟨w0, h0, s, fx, false, false, 4, 0, 0⟩ = spL R ⟨w0, h0, s, fx, fy, false, 4, 0, 0⟩ := fun R => by
    cases fy
    · rfl
    · exact spL_fy R _
  have h3 : ∀ R, spL (op ex [EX] ++ R) ⟨w0, h0, s, fx, fy, false, 4, 0, 0⟩ = spL R ⟨w0, h0, s, fx, fy, ex, 4, 0, 0⟩ := fun R => by
    cases ex
    · rfl
    · exact spL_ex R _
  have h4 : ∀ R, spL (op (an != 4) [AN, Lib.itoa an] ++ R) ⟨w0, h0, s, fx, fy, ex, 4, 0, 0⟩ = spL R ⟨w0, h0, s, fx, fy, ex, an, 0, 0⟩ := fun R => by
    by_cases e : an = 4
    · subst e; rfl
    · have : (an != 4) = true := by simpa using e
      rw [this]
      refine (spL_an (Lib.itoa an :: R) _).trans ?_
      rw [List.headD_cons, numV_itoa' (by omega) (by omega)]; rfl
  have h5 : ∀ R, spL (op (px != 0) [PXW, Lib.itoa px] ++ R) ⟨w0, h0, s, fx, fy, ex, an, 0, 0⟩ = spL R ⟨w0, h0, s, fx, fy, ex, an, px, 0⟩ := fun R => by
    by_cases e : px = 0
    · subst e; rfl
    · have : (px != 0) = true := by simpa using e
      rw [this]
      refine (spL_px (Lib.itoa px :: R) _).trans ?_
      rw [List.headD_cons, numV_itoa' (by omega) (by omega)]; rfl
  have h6 : ∀ R, spL (op (py != 0) [PYW, Lib.itoa py] ++ R) ⟨w0, h0, s, fx, fy, ex, an, px, 0⟩ = spL R ⟨w0, h0, s, fx, fy, ex, an, px, py⟩ := fun R => by
    by_cases e : py = 0
    · subst e; rfl
    · have : (py != 0) = true := by simpa using e
      rw [this]
      refine (spL_py (Lib.itoa py :: R) _).trans ?_
      rw [List.headD_cons, numV_itoa' (by omega) (by omega)]; rfl
  rw [h1, h2, h3, h4, h5, h6, spL_nil]
theorem prs_words {l : List UInt8} {p : PKV} (h : prs l = some p) : p.ok = true ∧ splitL 32 l = p.words ∧ p.text = l := by
  obtain ⟨h1, h2⟩ := prs_iff.1 h
  exact ⟨h1, by rw [← h2]; exact prs_split h1, h2⟩
theorem words_len (p : PKV) : 3 ≤ p.words.length := by
  have : p.words = _ := wds_eq _ _ _ _ _ _ _ _ _
  rw [this]; simp
/-- what the model reads is the item, if there is one -/
theorem prs_sp {l : List UInt8} {p : PKV} {r : Int} {x0 x1 x2 : List UInt8} {L : List (List UInt8)} (h : prs l = some p) (hL : splitL 32 l = x0 :: x1 :: x2 :: L) (hr : IXP x0 r) : spL L ⟨numV 999 x1, numV 999 x2, r, false, false, false, 4, 0, 0⟩ = some p := by
  obtain ⟨hk, hw, ht⟩ := prs_words h
  obtain ⟨⟨a1, a2⟩, ⟨a3, a4⟩, ⟨a5, a6⟩, _⟩ := vpB_iff.1 (show vpB p.w0 p.h0 p.s p.an p.px p.py = true from hk)
  have e := spL_wds (fx := p.fx) (fy := p.fy) (ex := p.ex) (show vpB p.w0 p.h0 p.s p.an p.px p.py = true from hk)
  have e2 : x0 :: x1 :: x2 :: L = wds p.w0 p.h0 p.s p.fx p.fy p.ex p.an p.px p.py := hL.symm.trans hw
  clear hw hL
  rw [← e2] at e
  have e9 := e2.trans (wds_eq _ _ _ _ _ _ _ _ _)
  have g0 := (List.cons.inj e9).1
  have g1 := (List.cons.inj (List.cons.inj e9).2).1
  have g2 := (List.cons.inj (List.cons.inj (List.cons.inj e9).2).2).1
  have k0 : r = p.s := hr p.s (by omega) (by omega) g0
  have k1 : numV 999 x1 = p.w0 := by rw [g1]; exact numV_itoa' (by omega) (by omega)
  have k2 : numV 999 x2 = p.h0 := by rw [g2]; exact numV_itoa' (by omega) (by omega)
  clear e9 e2 g0 g1 g2 ht hr
  have e' : spL L ⟨p.w0, p.h0, p.s, false, false, false, 4, 0, 0⟩ = some p := e
  rw [k0, k1, k2]
  exact e'
end Go.Proofs.YtjfdmdmlgdgchaaDoor
end
section
namespace Go.Proofs.YtjfdmdmlgdgchaaDoor
open Go.RowKit
set_option linter.unusedVariables false
theorem put9p {w : World} {b : Nat} {T : TypeId} {a0 a1 a2 a3 a4 a5 a6 a7 a8 : Value} (h : w.heap[b]? = some (.cells #[a0, a1, a2, a3, a4, a5, a6, a7, a8] T (0, 0))) (x0 x1 x2 x3 x4 x5 x6 x7 x8 : Value) : ((((((((((w).setCell ⟨b, 0, none⟩ x0).setCell ⟨b, 1, none⟩ x1).setCell ⟨b, 2, none⟩ x2).setCell ⟨b, 3, none⟩ x3).setCell ⟨b, 4, none⟩ x4).setCell ⟨b, 5, none⟩ x5).setCell ⟨b, 6, none⟩ x6).setCell ⟨b, 7, none⟩ x7).setCell ⟨b, 8, none⟩ x8).heap[b]? = some (.cells #[x0, x1, x2, x3, x4, x5, x6, x7, x8] T (0, 0)) := by
  have h0 : ((w).setCell ⟨b, 0, none⟩ x0).heap[b]? = some (.cells #[x0, a1, a2, a3, a4, a5, a6, a7, a8] T (0, 0)) := putS (i := 0) h x0
  have h1 : (((w).setCell ⟨b, 0, none⟩ x0).setCell ⟨b, 1, none⟩ x1).heap[b]? = some (.cells #[x0, x1, a2, a3, a4, a5, a6, a7, a8] T (0, 0)) := putS (i := 1) h0 x1
  have h2 : ((((w).setCell ⟨b, 0, none⟩ x0).setCell ⟨b, 1, none⟩ x1).setCell ⟨b, 2, none⟩ x2).heap[b]? = some (.cells #[x0, x1, x2, a3, a4, a5, a6, a7, a8] T (0, 0)) := putS (i := 2) h1 x2
  have h3 : (((((w).setCell ⟨b, 0, none⟩ x0).setCell ⟨b, 1, none⟩ x1).setCell ⟨b, 2, none⟩ x2).setCell ⟨b, 3, none⟩ x3).heap[b]? = some (.cells #[x0, x1, x2, x3, a4, a5, a6, a7, a8] T (0, 0)) := putS (i := 3) h2 x3
  have h4 : ((((((w).setCell ⟨b, 0, none⟩ x0).setCell ⟨b, 1, none⟩ x1).setCell ⟨b, 2, none⟩ x2).setCell ⟨b, 3, none⟩ x3).setCell ⟨b, 4, none⟩ x4).heap[b]? = some (.cells #[x0, x1, x2, x3, x4, a5, a6, a7, a8] T (0, 0)) := putS (i := 4) h3 x4
  have h5 : (((((((w).setCell ⟨b, 0, none⟩ x0).setCell ⟨b, 1, none⟩ x1).setCell ⟨b, 2, none⟩ x2).setCell ⟨b, 3, none⟩ x3).setCell ⟨b, 4, none⟩ x4).setCell ⟨b, 5, none⟩ x5).heap[b]? = some (.cells #[x0, x1, x2, x3, x4, x5, a6, a7, a8] T (0, 0)) := putS (i := 5) h4 x5
  have h6 : ((((((((w).setCell ⟨b, 0, none⟩ x0).setCell ⟨b, 1, none⟩ x1).setCell ⟨b, 2, none⟩ x2).setCell ⟨b, 3, none⟩ x3).setCell ⟨b, 4, none⟩ x4).setCell ⟨b, 5, none⟩ x5).setCell ⟨b, 6, none⟩ x6).heap[b]? = some (.cells #[x0, x1, x2, x3, x4, x5, x6, a7, a8] T (0, 0)) := putS (i := 6) h5 x6
  have h7 : (((((((((w).setCell ⟨b, 0, none⟩ x0).setCell ⟨b, 1, none⟩ x1).setCell ⟨b, 2, none⟩ x2).setCell ⟨b, 3, none⟩ x3).setCell ⟨b, 4, none⟩ x4).setCell ⟨b, 5, none⟩ x5).setCell ⟨b, 6, none⟩ x6).setCell ⟨b, 7, none⟩ x7).heap[b]? = some (.cells #[x0, x1, x2, x3, x4, x5, x6, x7, a8] T (0, 0)) := putS (i := 7) h6 x7
  have h8 : ((((((((((w).setCell ⟨b, 0, none⟩ x0).setCell ⟨b, 1, none⟩ x1).setCell ⟨b, 2, none⟩ x2).setCell ⟨b, 3, none⟩ x3).setCell ⟨b, 4, none⟩ x4).setCell ⟨b, 5, none⟩ x5).setCell ⟨b, 6, none⟩ x6).setCell ⟨b, 7, none⟩ x7).setCell ⟨b, 8, none⟩ x8).heap[b]? = some (.cells #[x0, x1, x2, x3, x4, x5, x6, x7, x8] T (0, 0)) := putS (i := 8) h7 x8
  exact h8
theorem keep9 {w : World} {b k : Nat} (hk : k ≠ b) (x0 x1 x2 x3 x4 x5 x6 x7 x8 : Value) : ((((((((((w).setCell ⟨b, 0, none⟩ x0).setCell ⟨b, 1, none⟩ x1).setCell ⟨b, 2, none⟩ x2).setCell ⟨b, 3, none⟩ x3).setCell ⟨b, 4, none⟩ x4).setCell ⟨b, 5, none⟩ x5).setCell ⟨b, 6, none⟩ x6).setCell ⟨b, 7, none⟩ x7).setCell ⟨b, 8, none⟩ x8).heap[k]? = w.heap[k]? := by
  rw [Below.heap_setCell _ _ _ _ hk, Below.heap_setCell _ _ _ _ hk, Below.heap_setCell _ _ _ _ hk, Below.heap_setCell _ _ _ _ hk, Below.heap_setCell _ _ _ _ hk, Below.heap_setCell _ _ _ _ hk, Below.heap_setCell _ _ _ _ hk, Below.heap_setCell _ _ _ _ hk, Below.heap_setCell _ _ _ _ hk]
section
variable {P : Program} {md : Region.Mode} {ops : Array Oper} {Q : Exit → Act → World → Prop}
theorem wpAny_oneG {f : Nat} {listed : Array Bool} {a : Act} {w : World} {i : Nat} {o : Oper} (hr : Region.ready md ops listed = [i]) (ho : ops[i]? = some o) (hg : Region.wanted o (yielded ops a.tmps) = true)
    (h : o.wp P a w (wpAny P md ops Q f (listed.setIfInBounds i true)) Q) : wpAny P md ops Q (f + 1) listed a w :=
  ⟨fun h0 => (by rw [hr] at h0; cases h0), fun j hj => by
    rw [hr] at hj
    obtain rfl := List.mem_singleton.1 hj
    unfold wpOp
    simp only [ho]
    rw [if_pos hg]
    exact .inl h⟩
theorem ready_consG {fuel : Nat} {listed : Array Bool} {a : Act} {w : World} {i : Nat} {o : Oper} {rs : List Nat} (ho : ops[i]? = some o) (hw : Region.wanted o (yielded ops a.tmps) = true)
    (h : ∀ K' : Act → World → Prop, (∀ a w, wpAny P md ops Q fuel (listed.setIfInBounds i true) a w → K' a w) → Oper.wp P o a w K' Q)
    (hs : AllReady P md ops Q fuel listed a w rs) : AllReady P md ops Q fuel listed a w (i :: rs) := AllReady.cons ho (fun K' hK' => by rw [if_pos hw]; exact h K' hK') hs
theorem wp_region_br {id : Nat} {a : Act} {w : World} (hm : P.follows .mixedOrders = true) (F : World → Prop) (hF : F w.drew) (h : ∀ W, F W → wpAny P .any ops (NoPan Q) ops.size (Array.replicate ops.size false) a W) : (Code.region id ops true).wp P Q a w := Code.wp_mono NoPan.imp (wp_region_any hm (h _ hF))
end
end Go.Proofs.YtjfdmdmlgdgchaaDoor
end
section
namespace Go.Proofs.YtjfdmdmlgdgchaaDoor
open Go.RowKit
set_option linter.unusedVariables false
set_option linter.unusedSimpArgs false
set_option maxHeartbeats 2000000
attribute [local go_sem] growUpon_value growUpon_skip growUpon_enter
/-! impl.ParsePack. -/
/-- the library's table of lengths holds some number -/
def MLN (w : World) : Prop := ∃ m, w.cell? ⟨0, 0, none⟩ = some (.int .i64 m)
theorem MLN.keep {w w' : World} (h : MLN w) (hb : Below w.heap.size w w') : MLN w' := by
  obtain ⟨m, hm⟩ := h
  have hl : 0 < w.heap.size := by
    unfold World.cell? at hm
    simp only at hm
    rcases Nat.eq_zero_or_pos w.heap.size with e | e
    · have : w.heap[0]? = none := by rw [Array.getElem?_eq_none]; omega
      rw [this] at hm
      simp at hm
    · exact e
  exact ⟨m, (hb.cell (p := ⟨0, 0, none⟩) hl).trans hm⟩
theorem split_v (l : List UInt8) (w : World) (hl : l.length ≤ 1048576) (hm : MLN w) : Calls Tryd.prog 25 #[tx l, .string ⟨#[32]⟩] w fun e w' => e = .returned (.slice (some ⟨w.heap.size, 0, none⟩) (splitL 32 l).length (splitL 32 l).length) ∧ w' = w.alloc (.cells (tvals (splitL 32 l)).toArray 9) := by
  obtain ⟨m, hm⟩ := hm
  refine (Tryd.strings_Split ⟨l.toArray⟩ ⟨#[32]⟩ m w (by show l.toArray.size < _; simp; omega) hm (by decide)).mono ?_
  rintro e w' ⟨rfl, rfl⟩
  have e1 := splitB_L 32 _ ⟨l.toArray⟩ rfl
  have e2 := Lib.splitB_all ⟨#[32]⟩ (by decide) 0 _ ⟨l.toArray⟩ rfl
  have e3 : (splitL 32 l) = (Lib.splitB ⟨#[32]⟩ 0 (Lib.countB ⟨l.toArray⟩ ⟨#[32]⟩) ⟨l.toArray⟩).map (·.data.toList) := e1.symm
  have e4 : tvals (splitL 32 l) = (Lib.splitB ⟨#[32]⟩ 0 (Lib.countB ⟨l.toArray⟩ ⟨#[32]⟩) ⟨l.toArray⟩).map Value.string := by
    rw [e3, tvals, List.map_map]
    exact List.map_congr_left (fun x _ => rfl)
  have e5 : (splitL 32 l).length = Lib.countB ⟨l.toArray⟩ ⟨#[32]⟩ + 1 := by rw [e3, List.length_map, e2]
  rw [e4, e5]
  exact ⟨rfl, rfl⟩
def PKV.val (p : PKV) : Value := .agg #[.int .i64 p.w0, .int .i64 p.h0, .int .i64 p.s, .bool p.fx, .bool p.fy, .bool p.ex, .int .i64 p.an, .int .i64 p.px, .int .i64 p.py]
def ansV : Option PKV → Value
  | some p => .tuple #[.agg #[.int .i64 p.w0, .int .i64 p.h0, .int .i64 p.s, .bool p.fx, .bool p.fy, .bool p.ex, .int .i64 p.an, .int .i64 p.px, .int .i64 p.py], .bool true]
  | none => .tuple #[.agg #[.int .i64 0, .int .i64 0, .int .i64 0, .bool false, .bool false, .bool false, .int .i64 0, .int .i64 0, .int .i64 0], .bool false]
theorem bput {B b i : Nat} {a w : World} {v : Value} (h : Below B a w) (hb : B ≤ b) : Below B a (w.setCell ⟨b, i, none⟩ v) := h.setCell hb _
theorem below_g {w w1 w2 : World} {b : Nat} (h : Below w.heap.size w w1) (hg : w1.grownBy w2 (some b)) (hb : w.heap.size ≤ b) : Below w.heap.size w w2 :=
  h.trans ⟨hg.os, hg.tape, hg.output, hg.size, fun k hk => hg.block k (Nat.lt_of_lt_of_le hk h.size) (fun e => by have := Option.some.inj e; omega)⟩
set_option maxRecDepth 100000 in
theorem ParsePack_v (l : List UInt8) (w : World) (hl : l.length ≤ 1048576) (hT : LT.TW w) (hm : MLN w) :
    Calls Tryd.prog 9 #[tx l] w fun e w' => e = .returned (ansV (prs l)) ∧ Below w.heap.size w w' := by
  have HS := Lib.hid (fun w h => split_v l w hl h)
  have hlen := splitL_len 32 l
  have hmem := splitL_mem 32 l
  obtain ⟨P, hP⟩ : ∃ P, pkP (splitL 32 l) = P := ⟨_, rfl⟩
  have HK := Lib.hid (fun b g w h hn => pack_v b g (splitL 32 l) w h hn (fun x hx => by have := hmem x hx; omega))
  rw [hP] at HK
  obtain ⟨R, hR⟩ : ∃ R, prs l = R := ⟨_, rfl⟩
  have hN : Hid (l = [] → R = none) := Lib.hid (fun h => by rw [← hR]; unfold prs; exact if_neg (fun h' => h'.1 h))
  have hY : Hid (l ≠ [] → P.txt = l → R = some P) := Lib.hid (fun h1 h2 => by rw [← hR]; unfold prs; rw [hP]; exact if_pos ⟨h1, h2⟩)
  have hZ : Hid (P.txt ≠ l → R = none) := Lib.hid (fun h2 => by rw [← hR]; unfold prs; rw [hP]; exact if_neg (fun h' => h2 h'.2))
  rw [hR]
  have HR : Hid (∀ w : World, SLs (w.alloc (.cells (tvals (splitL 32 l)).toArray 9)) w.heap.size 0 (splitL 32 l)) := Lib.hid (fun (w : World) => SLs.new w (splitL 32 l) 9)
  have hlen2 : (splitL 32 l).length ≤ 1048577 := by omega
  clear hP hR hlen hmem
  generalize splitL 32 l = L at *
  have HT0 := Lib.hid hT
  have HM0 := Lib.hid hm
  clear hT hm
  have HPT : Hid (∀ w, LT.TW w → Calls Tryd.prog 17 #[.agg #[.int .i64 P.w0, .int .i64 P.h0, .int .i64 P.s, .bool P.fx, .bool P.fy, .bool P.ex, .int .i64 P.an, .int .i64 P.px, .int .i64 P.py]] w fun e w' => e = .returned (tx P.txt) ∧ Below w.heap.size w w') := Lib.hid (fun w h => PackText_v P.w0 P.h0 P.s P.fx P.fy P.ex P.an P.px P.py w h)
  go_enter Tryd.func9, Tryd.ntmps9
  go_upto_region 1 with (fail)
  refine wp_PK (fun W => W.heap[w.heap.size]? = some (.cells #[.int .i64 0, .int .i64 0, .int .i64 0, .bool false, .bool false, .bool false, .int .i64 0, .int .i64 0, .int .i64 0] 23 (0, 0)) ∧ Below w.heap.size w W) ⟨newS w _, balloc (Below.refl _ _)⟩ ?_
  rintro W0 ⟨hz, hB⟩
  have HX := Lib.hid hz
  have HB := Lib.hid hB
  have hlt0 := ltS hz
  clear hz hB
  go_wp2_with fail
  with_reducible refine (HS.out _ (HM0.out.keep HB.out)).mono ?_
  rintro e w1 ⟨rfl, rfl⟩
  go_upto_region 2 with (fail)
  refine wp_PK (fun W => W.heap[w.heap.size]? = some (.cells #[.int .i64 0, .int .i64 0, .int .i64 0, .bool false, .bool false, .bool false, .int .i64 0, .int .i64 0, .int .i64 0] 23 (0, 0)) ∧ Below w.heap.size w W ∧ RDR (W0.heap.size + 1) W0.heap.size W L) ⟨(Below.heap_alloc _ _ _ (by simp; omega)).trans ((Below.heap_alloc _ _ _ hlt0).trans HX.out), balloc (balloc HB.out), ⟨0, L.length, by simpa using newS (W0.alloc (.cells (tvals L).toArray 9)) (.cells #[.slice (some ⟨W0.heap.size, 0, none⟩) L.length L.length] 42), (HR.out W0).keep (balloc (Below.refl _ _)), Nat.le_refl _, by omega⟩⟩ ?_
  rintro W1 ⟨hz, hB, hr⟩
  replace HX := Lib.hid hz
  replace HB := Lib.hid hB
  have HRD := Lib.hid hr
  clear hz hB hr HR
  go_wp2_with fail
  with_reducible refine (HK.out _ _ _ HRD.out (by omega)).mono ?_
  rintro e w3 ⟨rfl, hg⟩
  replace HX := Lib.hid ((hg.block _ (ltS HX.out) (fun e => absurd (Option.some.inj e) (by omega))).trans HX.out)
  replace HB := Lib.hid (below_g HB.out hg (by omega))
  clear hg HRD HK HS
  have hlt3 := ltS HX.out
  go_upto_region 3 with (fail)
  refine wp_PK (fun W => W.heap[w.heap.size]? = some (.cells #[.int .i64 0, .int .i64 0, .int .i64 0, .bool false, .bool false, .bool false, .int .i64 0, .int .i64 0, .int .i64 0] 23 (0, 0)) ∧ Below w.heap.size w W ∧ W.heap[w3.heap.size]? = some (.cells #[.int .i64 P.w0, .int .i64 P.h0, .int .i64 P.s, .bool P.fx, .bool P.fy, .bool P.ex, .int .i64 P.an, .int .i64 P.px, .int .i64 P.py] 23 (0, 0))) ⟨(Below.heap_alloc _ _ _ hlt3).trans HX.out, balloc HB.out, newS w3 _⟩ ?_
  rintro W2 ⟨hz, hB, hp⟩
  replace HX := Lib.hid hz
  replace HB := Lib.hid hB
  have HP := Lib.hid hp
  clear hz hB hp
  by_cases h0 : l = []
  · subst h0
    obtain rfl := hN.out rfl
    have e1 := fun s t w => eqg_cc .eql s t [] ⟨#[]⟩ w
    have e2 := eql_nil
    obtain ⟨q0, q1, q2, q3, q4, q5, q6, q7, q8⟩ := b9c HX.out
    have f0 := frozenS HX.out 0
    have f1 := frozenS HX.out 1
    have f2 := frozenS HX.out 2
    have f3 := frozenS HX.out 3
    have f4 := frozenS HX.out 4
    have f5 := frozenS HX.out 5
    have f6 := frozenS HX.out 6
    have f7 := frozenS HX.out 7
    have f8 := frozenS HX.out 8
    go_wp2
    exact bodyPost_ret (v := ansV none) (by simp only [results, Tryd.results9]; go_simp; rfl) rfl ⟨rfl, bput (bput (bput (bput (bput (bput (bput (bput (bput (HB.out) (by show w.heap.size ≤ _; omega)) (by show w.heap.size ≤ _; omega)) (by show w.heap.size ≤ _; omega)) (by show w.heap.size ≤ _; omega)) (by show w.heap.size ≤ _; omega)) (by show w.heap.size ≤ _; omega)) (by show w.heap.size ≤ _; omega)) (by show w.heap.size ≤ _; omega)) (by show w.heap.size ≤ _; omega)⟩
  · have e1 := fun s t w => eqg_cc .eql s t l ⟨#[]⟩ w
    have e2 := eql_no l h0
    have e3 := fun s t w => eqg_tx .neq s t P.txt l w
    obtain ⟨p0, p1, p2, p3, p4, p5, p6, p7, p8⟩ := b9c HP.out
    go_wp2_with fail
    with_reducible refine (HPT.out _ (HT0.out.keep HB.out)).mono ?_
    rintro e w4 ⟨rfl, hb⟩
    clear p0 p1 p2 p3 p4 p5 p6 p7 p8
    replace HX := Lib.hid ((hb.block _ (Array.getElem?_eq_some_iff.1 HX.out).1).trans HX.out)
    replace HP := Lib.hid ((hb.block _ (Array.getElem?_eq_some_iff.1 HP.out).1).trans HP.out)
    replace HB := Lib.hid (bkeep2 HB.out hb)
    clear hb
    by_cases hc : P.txt = l
    · obtain rfl := hY.out h0 hc
      have e4 : ∀ w, (binOp .neq 9 (tx P.txt) (tx l)).run Tryd.prog w = .ok (.bool false) w := by rw [hc]; exact ne_same l
      clear hc h0
      obtain ⟨p0, p1, p2, p3, p4, p5, p6, p7, p8⟩ := b9c HP.out
      obtain ⟨q0, q1, q2, q3, q4, q5, q6, q7, q8⟩ := b9c HX.out
      have f0 := frozenS HX.out 0
      have f1 := frozenS HX.out 1
      have f2 := frozenS HX.out 2
      have f3 := frozenS HX.out 3
      have f4 := frozenS HX.out 4
      have f5 := frozenS HX.out 5
      have f6 := frozenS HX.out 6
      have f7 := frozenS HX.out 7
      have f8 := frozenS HX.out 8
      go_wp2
      exact bodyPost_ret (v := ansV (some P)) (by simp only [results, Tryd.results9]; go_simp; rfl) rfl ⟨rfl, bput (bput (bput (bput (bput (bput (bput (bput (bput (HB.out) (by show w.heap.size ≤ _; omega)) (by show w.heap.size ≤ _; omega)) (by show w.heap.size ≤ _; omega)) (by show w.heap.size ≤ _; omega)) (by show w.heap.size ≤ _; omega)) (by show w.heap.size ≤ _; omega)) (by show w.heap.size ≤ _; omega)) (by show w.heap.size ≤ _; omega)) (by show w.heap.size ≤ _; omega)⟩
    · obtain rfl := hZ.out hc
      have e4 := neq_yes P.txt l hc
      clear hc h0
      obtain ⟨q0, q1, q2, q3, q4, q5, q6, q7, q8⟩ := b9c HX.out
      have f0 := frozenS HX.out 0
      have f1 := frozenS HX.out 1
      have f2 := frozenS HX.out 2
      have f3 := frozenS HX.out 3
      have f4 := frozenS HX.out 4
      have f5 := frozenS HX.out 5
      have f6 := frozenS HX.out 6
      have f7 := frozenS HX.out 7
      have f8 := frozenS HX.out 8
      go_wp2
      exact bodyPost_ret (v := ansV none) (by simp only [results, Tryd.results9]; go_simp; rfl) rfl ⟨rfl, bput (bput (bput (bput (bput (bput (bput (bput (bput (HB.out) (by show w.heap.size ≤ _; omega)) (by show w.heap.size ≤ _; omega)) (by show w.heap.size ≤ _; omega)) (by show w.heap.size ≤ _; omega)) (by show w.heap.size ≤ _; omega)) (by show w.heap.size ≤ _; omega)) (by show w.heap.size ≤ _; omega)) (by show w.heap.size ≤ _; omega)) (by show w.heap.size ≤ _; omega)⟩
end Go.Proofs.YtjfdmdmlgdgchaaDoor
end
section
namespace Go.Proofs.YtjfdmdmlgdgchaaDoor
open Go.RowKit
set_option linter.unusedVariables false
set_option linter.unusedSimpArgs false
set_option maxHeartbeats 2000000
attribute [local go_sem] growUpon_value growUpon_skip growUpon_enter
attribute [local go_sem] givesUpon_value givesUpon_skip givesUpon_enter
/-! The model's text of an item. -/
/-- one more word, with nothing behind it -/
theorem opt_text1 (t : Bool) (L : List (List UInt8)) (m : List UInt8) (lit : Array UInt8) (hl : lit.toList = 32 :: m) (hL : L ≠ []) (hb : (Lib.join L [32]).length + lit.size ≤ 1000000) :
    (t = false → Lib.join (optL t [m] L) [32] = Lib.join L [32]) ∧ (t = true → ∀ w, (binOp .add 9 (tx (Lib.join L [32])) (.string ⟨lit⟩)).run Tryd.prog w = .ok (tx (Lib.join (optL t [m] L) [32])) w) := by
  refine ⟨fun h => by subst h; rfl, fun h w => ?_⟩
  subst h
  have e : Lib.join (optL true [m] L) [32] = Lib.join L [32] ++ lit.toList := by
    rw [hl, optL, if_pos rfl, join_snoc L m [32] hL]; simp
  rw [e]
  exact run_cat _ lit.toList w (by simp; omega)
/-- one more word with a number -/
theorem opt_text2 (t : Bool) (L : List (List UInt8)) (m n : List UInt8) (lit : Array UInt8) (hl : lit.toList = 32 :: m ++ [32]) (hL : L ≠ []) (hb : (Lib.join L [32]).length + lit.size + n.length ≤ 1000000) :
    ∃ A : List UInt8, (t = false → Lib.join (optL t [m, n] L) [32] = Lib.join L [32]) ∧ (∀ w, (binOp .add 9 (tx (Lib.join L [32])) (.string ⟨lit⟩)).run Tryd.prog w = .ok (tx A) w) ∧ (t = true → ∀ w, (binOp .add 9 (tx A) (tx n)).run Tryd.prog w = .ok (tx (Lib.join (optL t [m, n] L) [32])) w) := by
  refine ⟨Lib.join L [32] ++ lit.toList, fun h => by subst h; rfl, fun w => run_cat _ lit.toList w (by simp; omega), fun h w => ?_⟩
  subst h
  have e : Lib.join (optL true [m, n] L) [32] = (Lib.join L [32] ++ lit.toList) ++ n := by
    rw [hl, optL, if_pos rfl, show L ++ [m, n] = (L ++ [m]) ++ [n] by simp, join_snoc _ n [32] (by simp), join_snoc L m [32] hL]; simp
  rw [e]
  exact run_cat _ _ w (by simp; omega)
theorem jlen {L : List (List UInt8)} (h : ∀ x ∈ L, x.length ≤ 50) (hn : L.length ≤ 12) : (Lib.join L [32]).length ≤ 700 := by
  have h1 := join_le 50 [32] (by simp) L h
  have : L.length * 51 ≤ 12 * 51 := Nat.mul_le_mul_right _ hn
  omega
set_option maxRecDepth 100000 in
theorem spackText_v (w0 h0 s : Int) (fx fy ex : Bool) (an px py : Int) (w : World) (hv : vpB w0 h0 s an px py = true) :
    Calls Tryd.prog 34 #[.agg #[.int .i64 w0, .int .i64 h0, .int .i64 s, .bool fx, .bool fy, .bool ex, .int .i64 an, .int .i64 px, .int .i64 py]] w fun e w' => e = .returned (tx (pkT w0 h0 s fx fy ex an px py)) ∧ Below w.heap.size w w' := by
  obtain ⟨⟨a1, a2⟩, ⟨a3, a4⟩, ⟨a5, a6⟩, ⟨a7, a8⟩, ⟨a9, a10⟩, ⟨a11, a12⟩⟩ := vpB_iff.1 hv
  have hs4 : s = 0 ∨ s = 1 ∨ s = 2 ∨ s = 3 := by omega
  have HS4 := Lib.hid hs4
  have IW := Lib.hid (fun w => number_v w0 (by omega) w)
  have IH := Lib.hid (fun w => number_v h0 (by omega) w)
  have IA := Lib.hid (fun w => number_v an (by omega) w)
  have IX := Lib.hid (fun w => number_v px (by omega) w)
  have IY := Lib.hid (fun w => number_v py (by omega) w)
  have i1 := @itoa_small w0 (by omega)
  have i2 := @itoa_small h0 (by omega)
  have i3 := @itoa_small an (by omega)
  have i4 := @itoa_small px (by omega)
  have i5 := @itoa_small py (by omega)
  have hsd : (sideB s).length ≤ 50 := by rcases hs4 with rfl | rfl | rfl | rfl <;> decide
  have q0 : ∀ x ∈ wd0 w0 h0 s, x.length ≤ 50 := by
    intro x hx
    simp only [wd0, List.mem_cons, List.not_mem_nil, or_false] at hx
    rcases hx with rfl | rfl | rfl <;> assumption
  have q1 : ∀ x ∈ wd1 w0 h0 s fx, x.length ≤ 50 := opt_all (by intro x hx; obtain rfl := List.mem_singleton.1 hx; decide) q0
  have q2 : ∀ x ∈ wd2 w0 h0 s fx fy, x.length ≤ 50 := opt_all (by intro x hx; obtain rfl := List.mem_singleton.1 hx; decide) q1
  have q3 : ∀ x ∈ wd3 w0 h0 s fx fy ex, x.length ≤ 50 := opt_all (by intro x hx; obtain rfl := List.mem_singleton.1 hx; decide) q2
  have q4 : ∀ x ∈ wd4 w0 h0 s fx fy ex an, x.length ≤ 50 := opt_all (by intro x hx; simp only [List.mem_cons, List.not_mem_nil, or_false] at hx; rcases hx with rfl | rfl; decide; exact i3) q3
  have q5 : ∀ x ∈ wd5 w0 h0 s fx fy ex an px, x.length ≤ 50 := opt_all (by intro x hx; simp only [List.mem_cons, List.not_mem_nil, or_false] at hx; rcases hx with rfl | rfl; decide; exact i4) q4
  have l0 : (wd0 w0 h0 s).length = 3 := rfl
  have l1 : (wd1 w0 h0 s fx).length ≤ 4 := by have := optL_len fx [FX] (wd0 w0 h0 s); simp at this; unfold wd1; omega
  have l2 : (wd2 w0 h0 s fx fy).length ≤ 5 := by have := optL_len fy [FY] (wd1 w0 h0 s fx); simp at this; unfold wd2; omega
  have l3 : (wd3 w0 h0 s fx fy ex).length ≤ 6 := by have := optL_len ex [EX] (wd2 w0 h0 s fx fy); simp at this; unfold wd3; omega
  have l4 : (wd4 w0 h0 s fx fy ex an).length ≤ 8 := by have := optL_len (an != 4) [AN, Lib.itoa an] (wd3 w0 h0 s fx fy ex); simp at this; unfold wd4; omega
  have l5 : (wd5 w0 h0 s fx fy ex an px).length ≤ 10 := by have := optL_len (px != 0) [PXW, Lib.itoa px] (wd4 w0 h0 s fx fy ex an); simp at this; unfold wd5; omega
  have j0 := jlen q0 (by omega)
  have j1 := jlen q1 (by omega)
  have j2 := jlen q2 (by omega)
  have j3 := jlen q3 (by omega)
  have j4 := jlen q4 (by omega)
  have j5 := jlen q5 (by omega)
  have n0 : wd0 w0 h0 s ≠ [] := by simp [wd0]
  have n1 : wd1 w0 h0 s fx ≠ [] := opt_ne n0
  have n2 : wd2 w0 h0 s fx fy ≠ [] := opt_ne n1
  have n3 : wd3 w0 h0 s fx fy ex ≠ [] := opt_ne n2
  have n4 : wd4 w0 h0 s fx fy ex an ≠ [] := opt_ne n3
  have n5 : wd5 w0 h0 s fx fy ex an px ≠ [] := opt_ne n4
  have hE1 : (fx = false → Lib.join (wd1 w0 h0 s fx) [32] = Lib.join (wd0 w0 h0 s) [32]) ∧ (fx = true → ∀ w, (binOp .add 9 (tx (Lib.join (wd0 w0 h0 s) [32])) (.string ⟨#[32, 102, 105, 108, 108, 120]⟩)).run Tryd.prog w = .ok (tx (Lib.join (wd1 w0 h0 s fx) [32])) w) := opt_text1 fx _ FX #[32, 102, 105, 108, 108, 120] rfl n0 (by simp; omega)
  have hE2 : (fy = false → Lib.join (wd2 w0 h0 s fx fy) [32] = Lib.join (wd1 w0 h0 s fx) [32]) ∧ (fy = true → ∀ w, (binOp .add 9 (tx (Lib.join (wd1 w0 h0 s fx) [32])) (.string ⟨#[32, 102, 105, 108, 108, 121]⟩)).run Tryd.prog w = .ok (tx (Lib.join (wd2 w0 h0 s fx fy) [32])) w) := opt_text1 fy _ FY #[32, 102, 105, 108, 108, 121] rfl n1 (by simp; omega)
  have hE3 : (ex = false → Lib.join (wd3 w0 h0 s fx fy ex) [32] = Lib.join (wd2 w0 h0 s fx fy) [32]) ∧ (ex = true → ∀ w, (binOp .add 9 (tx (Lib.join (wd2 w0 h0 s fx fy) [32])) (.string ⟨#[32, 101, 120, 112, 97, 110, 100]⟩)).run Tryd.prog w = .ok (tx (Lib.join (wd3 w0 h0 s fx fy ex) [32])) w) := opt_text1 ex _ EX #[32, 101, 120, 112, 97, 110, 100] rfl n2 (by simp; omega)
  obtain ⟨A4, hE4⟩ : ∃ A : List UInt8, ((an != 4) = false → Lib.join (wd4 w0 h0 s fx fy ex an) [32] = Lib.join (wd3 w0 h0 s fx fy ex) [32]) ∧ (∀ w, (binOp .add 9 (tx (Lib.join (wd3 w0 h0 s fx fy ex) [32])) (.string ⟨#[32, 97, 110, 99, 104, 111, 114, 32]⟩)).run Tryd.prog w = .ok (tx A) w) ∧ ((an != 4) = true → ∀ w, (binOp .add 9 (tx A) (tx (Lib.itoa an))).run Tryd.prog w = .ok (tx (Lib.join (wd4 w0 h0 s fx fy ex an) [32])) w) := opt_text2 (an != 4) _ AN (Lib.itoa an) #[32, 97, 110, 99, 104, 111, 114, 32] rfl n3 (by simp; omega)
  obtain ⟨A5, hE5⟩ : ∃ A : List UInt8, ((px != 0) = false → Lib.join (wd5 w0 h0 s fx fy ex an px) [32] = Lib.join (wd4 w0 h0 s fx fy ex an) [32]) ∧ (∀ w, (binOp .add 9 (tx (Lib.join (wd4 w0 h0 s fx fy ex an) [32])) (.string ⟨#[32, 112, 97, 100, 120, 32]⟩)).run Tryd.prog w = .ok (tx A) w) ∧ ((px != 0) = true → ∀ w, (binOp .add 9 (tx A) (tx (Lib.itoa px))).run Tryd.prog w = .ok (tx (Lib.join (wd5 w0 h0 s fx fy ex an px) [32])) w) := opt_text2 (px != 0) _ PXW (Lib.itoa px) #[32, 112, 97, 100, 120, 32] rfl n4 (by simp; omega)
  obtain ⟨A6, hE6⟩ : ∃ A : List UInt8, ((py != 0) = false → Lib.join (wds w0 h0 s fx fy ex an px py) [32] = Lib.join (wd5 w0 h0 s fx fy ex an px) [32]) ∧ (∀ w, (binOp .add 9 (tx (Lib.join (wd5 w0 h0 s fx fy ex an px) [32])) (.string ⟨#[32, 112, 97, 100, 121, 32]⟩)).run Tryd.prog w = .ok (tx A) w) ∧ ((py != 0) = true → ∀ w, (binOp .add 9 (tx A) (tx (Lib.itoa py))).run Tryd.prog w = .ok (tx (Lib.join (wds w0 h0 s fx fy ex an px py) [32])) w) := opt_text2 (py != 0) _ PYW (Lib.itoa py) #[32, 112, 97, 100, 121, 32] rfl n5 (by simp; omega)
  obtain ⟨B1, b1, g1⟩ := cat_exr (sideB s) #[32] (by simp; omega)
  obtain ⟨B2, b2, g2⟩ := cat_ex B1 (Lib.itoa w0) (by rw [b1]; simp; omega)
  obtain ⟨B3, b3, g3⟩ := cat_exr B2 #[32] (by rw [b2, b1]; simp; omega)
  obtain ⟨B4, b4, g4⟩ := cat_ex B3 (Lib.itoa h0) (by rw [b3, b2, b1]; simp; omega)
  have hB4 : B4 = Lib.join (wd0 w0 h0 s) [32] := by rw [b4, b3, b2, b1, wd0, Lib.join_cons]; simp [Lib.joinTail]
  have xx : (px != 0) = decide (px > 0) := by rcases (show px = 0 ∨ px > 0 by omega) with h | h; (subst h; rfl); (rw [decide_eq_true h]; simp; omega)
  have yy : (py != 0) = decide (py > 0) := by rcases (show py = 0 ∨ py > 0 by omega) with h | h; (subst h; rfl); (rw [decide_eq_true h]; simp; omega)
  rw [xx] at hE5
  rw [yy] at hE6
  unfold pkT
  obtain ⟨T0, hT0⟩ : ∃ T, Lib.join (wd0 w0 h0 s) [32] = T := ⟨_, rfl⟩
  obtain ⟨T1, hT1⟩ : ∃ T, Lib.join (wd1 w0 h0 s fx) [32] = T := ⟨_, rfl⟩
  obtain ⟨T2, hT2⟩ : ∃ T, Lib.join (wd2 w0 h0 s fx fy) [32] = T := ⟨_, rfl⟩
  obtain ⟨T3, hT3⟩ : ∃ T, Lib.join (wd3 w0 h0 s fx fy ex) [32] = T := ⟨_, rfl⟩
  obtain ⟨T4, hT4⟩ : ∃ T, Lib.join (wd4 w0 h0 s fx fy ex an) [32] = T := ⟨_, rfl⟩
  obtain ⟨T5, hT5⟩ : ∃ T, Lib.join (wd5 w0 h0 s fx fy ex an px) [32] = T := ⟨_, rfl⟩
  obtain ⟨T6, hT6⟩ : ∃ T, Lib.join (wds w0 h0 s fx fy ex an px py) [32] = T := ⟨_, rfl⟩
  rw [hT0] at hE1 hB4
  rw [hT1] at hE1 hE2
  rw [hT2] at hE2 hE3
  rw [hT3] at hE3 hE4
  rw [hT4] at hE4 hE5
  rw [hT5] at hE5 hE6
  rw [hT6] at hE6 ⊢
  subst hB4
  clear hT0 hT1 hT2 hT3 hT4 hT5 hT6 j0 l0 n0 q0 j1 l1 n1 q1 j2 l2 n2 q2 j3 l3 n3 q3 j4 l4 n4 q4 j5 l5 n5 q5 i1 i2 i3 i4 i5 b1 b2 b3 b4 hsd xx yy hv a1 a2 a3 a4 a5 a6 a7 a8 a9 a10 a11 a12 hs4
  have HE1 := Lib.hid hE1
  have HE2 := Lib.hid hE2
  have HE3 := Lib.hid hE3
  have HE4 := Lib.hid hE4
  have HE5 := Lib.hid hE5
  have HE6 := Lib.hid hE6
  clear hE1 hE2 hE3 hE4 hE5 hE6
  go_enter Tryd.func34, Tryd.ntmps34
  go_wp2_with fail
  have HX := Lib.hid (newS w (.cells #[.int .i64 w0, .int .i64 h0, .int .i64 s, .bool fx, .bool fy, .bool ex, .int .i64 an, .int .i64 px, .int .i64 py] 23))
  have HB := Lib.hid (balloc (o := (.cells #[.int .i64 w0, .int .i64 h0, .int .i64 s, .bool fx, .bool fy, .bool ex, .int .i64 an, .int .i64 px, .int .i64 py] 23)) (Below.refl w.heap.size w))
  refine wp_named (fun W0 e0 => ?_)
  rw [← e0] at HX HB ⊢
  clear e0
  obtain ⟨c0, c1, c2, c3, c4, c5, c6, c7, c8⟩ := b9c HX.out
  have hlx := ltS HX.out
  refine wp_region_rxl 15 1 [] #[true, true, true, true, true, true, true, true, true, true, true, true, true, true, true, false] (by kernel_rfl) (by kernel_rfl) (by kernel_rfl) ((fun v a => SWv a v) :: XV (.pointer (some ⟨w.heap.size, 2, none⟩)) :: XV (.int .i64 s) :: (fun v a => SPt (sideB s) a v) :: XV (tx (sideB s)) :: XV (tx B1) :: XV (.pointer (some ⟨w.heap.size, 0, none⟩)) :: XV (.int .i64 w0) :: XV (tx (Lib.itoa w0)) :: XV (tx B2) :: XV (tx B3) :: XV (.pointer (some ⟨w.heap.size, 1, none⟩)) :: XV (.int .i64 h0) :: XV (tx (Lib.itoa h0)) :: XV (tx B4) :: []) (by kernel_rfl) (by kernel_rfl) (by kernel_rfl) ?hTs ?hXs ?hops ?hfin
  case hTs =>
    intro T hT
    simp only [List.mem_cons, List.not_mem_nil, or_false] at hT
    rcases hT with rfl | rfl | rfl | rfl | rfl | rfl | rfl | rfl | rfl | rfl | rfl | rfl | rfl | rfl | rfl <;> first | exact stay_V _ | exact stay_T | exact stay_of (fun v a b x g => x.keep g) | exact stay_of (fun v a b x g => x)
  case hXs =>
    intro x d s hx
    exact absurd hx (List.not_mem_nil)
  case hops =>
    refine ⟨opOK_rx [] (by kernel_rfl) rfl ?_, ?_⟩
    · intro act w' hw' 
      have hk : ∀ v, act.eval (.const v) = v := fun _ => rfl
      have hf : ∀ f, act.eval (.func f) = .func (.func f) #[] #[] := fun _ => rfl
      generalize act.eval = ρ at *
      refine gx_gen (fun K hK => ?_)
      obtain ⟨hc, hf'⟩ := bcell (bdrewn hw'.out)
      go_simp
      (with_reducible refine (ssideWords_v _).mono ?_); rintro e w2 ⟨⟨v, rfl, hv⟩, hb⟩; exact ⟨v, rfl, hK _ _ ⟨hv, Gr.of hb⟩⟩
    refine ⟨opOK_rx [(1, none)] (by kernel_rfl) rfl ?_, ?_⟩
    · intro act w' hw' h1
      have hk : ∀ v, act.eval (.const v) = v := fun _ => rfl
      have hf : ∀ f, act.eval (.func f) = .func (.func f) #[] #[] := fun _ => rfl
      generalize act.eval = ρ at *
      replace h1 : ρ (.tmp 1) = .pointer (some ⟨w.heap.size, 0, none⟩) := h1
      refine gx_gen (fun K hK => ?_)
      obtain ⟨hc, hf'⟩ := bcell (bdrewn hw'.out)
      go_simp
      exact hK _ _ ⟨rfl, Gr.refl _⟩
    refine ⟨opOK_rx [(5, some 1)] (by kernel_rfl) rfl ?_, ?_⟩
    · intro act w' hw' h1
      have hk : ∀ v, act.eval (.const v) = v := fun _ => rfl
      have hf : ∀ f, act.eval (.func f) = .func (.func f) #[] #[] := fun _ => rfl
      generalize act.eval = ρ at *
      replace h1 : ρ (.tmp 5) = .pointer (some ⟨w.heap.size, 2, none⟩) := h1
      refine gx_gen (fun K hK => ?_)
      obtain ⟨hc, hf'⟩ := bcell (bdrewn hw'.out)
      go_simp
      exact hK _ _ ⟨rfl, Gr.refl _⟩
    refine ⟨opOK_rx [(4, some 0), (6, some 2)] (by kernel_rfl) rfl ?_, ?_⟩
    · intro act w' hw' h1 h2
      have hk : ∀ v, act.eval (.const v) = v := fun _ => rfl
      have hf : ∀ f, act.eval (.func f) = .func (.func f) #[] #[] := fun _ => rfl
      generalize act.eval = ρ at *
      replace h1 : (fun v a => SWv a v) (ρ (.tmp 4)) w' := h1
      replace h2 : ρ (.tmp 6) = .int .i64 s := h2
      refine gx_gen (fun K hK => ?_)
      obtain ⟨g, e4, hS⟩ := h1; rcases HS4.out with rfl | rfl | rfl | rfl <;> (go_simp; exact hK _ _ ⟨⟨g, _, rfl, hS.1, hS.at _ rfl⟩, Gr.refl _⟩)
    refine ⟨opOK_rx [(7, some 3)] (by kernel_rfl) rfl ?_, ?_⟩
    · intro act w' hw' h1
      have hk : ∀ v, act.eval (.const v) = v := fun _ => rfl
      have hf : ∀ f, act.eval (.func f) = .func (.func f) #[] #[] := fun _ => rfl
      generalize act.eval = ρ at *
      replace h1 : (fun v a => SPt (sideB s) a v) (ρ (.tmp 7)) w' := h1
      refine gx_gen (fun K hK => ?_)
      obtain ⟨b, o, e7, hl, hcl⟩ := h1; go_simp; exact hK _ _ ⟨rfl, Gr.refl _⟩
    refine ⟨opOK_rx [(8, some 4)] (by kernel_rfl) rfl ?_, ?_⟩
    · intro act w' hw' h1
      have hk : ∀ v, act.eval (.const v) = v := fun _ => rfl
      have hf : ∀ f, act.eval (.func f) = .func (.func f) #[] #[] := fun _ => rfl
      generalize act.eval = ρ at *
      replace h1 : ρ (.tmp 8) = tx (sideB s) := h1
      refine gx_gen (fun K hK => ?_)
      obtain ⟨hc, hf'⟩ := bcell (bdrewn hw'.out)
      go_simp
      exact hK _ _ ⟨rfl, Gr.refl _⟩
    refine ⟨opOK_rx [(1, none)] (by kernel_rfl) rfl ?_, ?_⟩
    · intro act w' hw' h1
      have hk : ∀ v, act.eval (.const v) = v := fun _ => rfl
      have hf : ∀ f, act.eval (.func f) = .func (.func f) #[] #[] := fun _ => rfl
      generalize act.eval = ρ at *
      replace h1 : ρ (.tmp 1) = .pointer (some ⟨w.heap.size, 0, none⟩) := h1
      refine gx_gen (fun K hK => ?_)
      obtain ⟨hc, hf'⟩ := bcell (bdrewn hw'.out)
      go_simp
      exact hK _ _ ⟨rfl, Gr.refl _⟩
    refine ⟨opOK_rx [(10, some 6)] (by kernel_rfl) rfl ?_, ?_⟩
    · intro act w' hw' h1
      have hk : ∀ v, act.eval (.const v) = v := fun _ => rfl
      have hf : ∀ f, act.eval (.func f) = .func (.func f) #[] #[] := fun _ => rfl
      generalize act.eval = ρ at *
      replace h1 : ρ (.tmp 10) = .pointer (some ⟨w.heap.size, 0, none⟩) := h1
      refine gx_gen (fun K hK => ?_)
      obtain ⟨hc, hf'⟩ := bcell (bdrewn hw'.out)
      go_simp
      exact hK _ _ ⟨rfl, Gr.refl _⟩
    refine ⟨opOK_rx [(11, some 7)] (by kernel_rfl) rfl ?_, ?_⟩
    · intro act w' hw' h1
      have hk : ∀ v, act.eval (.const v) = v := fun _ => rfl
      have hf : ∀ f, act.eval (.func f) = .func (.func f) #[] #[] := fun _ => rfl
      generalize act.eval = ρ at *
      replace h1 : ρ (.tmp 11) = .int .i64 w0 := h1
      refine gx_gen (fun K hK => ?_)
      obtain ⟨hc, hf'⟩ := bcell (bdrewn hw'.out)
      go_simp
      (with_reducible refine (IW.out _).mono ?_); rintro e w2 ⟨rfl, hb⟩; exact ⟨_, rfl, hK _ _ ⟨rfl, Gr.of hb⟩⟩
    refine ⟨opOK_rx [(9, some 5), (12, some 8)] (by kernel_rfl) rfl ?_, ?_⟩
    · intro act w' hw' h1 h2
      have hk : ∀ v, act.eval (.const v) = v := fun _ => rfl
      have hf : ∀ f, act.eval (.func f) = .func (.func f) #[] #[] := fun _ => rfl
      generalize act.eval = ρ at *
      replace h1 : ρ (.tmp 9) = tx B1 := h1
      replace h2 : ρ (.tmp 12) = tx (Lib.itoa w0) := h2
      refine gx_gen (fun K hK => ?_)
      obtain ⟨hc, hf'⟩ := bcell (bdrewn hw'.out)
      go_simp
      exact hK _ _ ⟨rfl, Gr.refl _⟩
    refine ⟨opOK_rx [(13, some 9)] (by kernel_rfl) rfl ?_, ?_⟩
    · intro act w' hw' h1
      have hk : ∀ v, act.eval (.const v) = v := fun _ => rfl
      have hf : ∀ f, act.eval (.func f) = .func (.func f) #[] #[] := fun _ => rfl
      generalize act.eval = ρ at *
      replace h1 : ρ (.tmp 13) = tx B2 := h1
      refine gx_gen (fun K hK => ?_)
      obtain ⟨hc, hf'⟩ := bcell (bdrewn hw'.out)
      go_simp
      exact hK _ _ ⟨rfl, Gr.refl _⟩
    refine ⟨opOK_rx [(1, none)] (by kernel_rfl) rfl ?_, ?_⟩
    · intro act w' hw' h1
      have hk : ∀ v, act.eval (.const v) = v := fun _ => rfl
      have hf : ∀ f, act.eval (.func f) = .func (.func f) #[] #[] := fun _ => rfl
      generalize act.eval = ρ at *
      replace h1 : ρ (.tmp 1) = .pointer (some ⟨w.heap.size, 0, none⟩) := h1
      refine gx_gen (fun K hK => ?_)
      obtain ⟨hc, hf'⟩ := bcell (bdrewn hw'.out)
      go_simp
      exact hK _ _ ⟨rfl, Gr.refl _⟩
    refine ⟨opOK_rx [(15, some 11)] (by kernel_rfl) rfl ?_, ?_⟩
    · intro act w' hw' h1
      have hk : ∀ v, act.eval (.const v) = v := fun _ => rfl
      have hf : ∀ f, act.eval (.func f) = .func (.func f) #[] #[] := fun _ => rfl
      generalize act.eval = ρ at *
      replace h1 : ρ (.tmp 15) = .pointer (some ⟨w.heap.size, 1, none⟩) := h1
      refine gx_gen (fun K hK => ?_)
      obtain ⟨hc, hf'⟩ := bcell (bdrewn hw'.out)
      go_simp
      exact hK _ _ ⟨rfl, Gr.refl _⟩
    refine ⟨opOK_rx [(16, some 12)] (by kernel_rfl) rfl ?_, ?_⟩
    · intro act w' hw' h1
      have hk : ∀ v, act.eval (.const v) = v := fun _ => rfl
      have hf : ∀ f, act.eval (.func f) = .func (.func f) #[] #[] := fun _ => rfl
      generalize act.eval = ρ at *
      replace h1 : ρ (.tmp 16) = .int .i64 h0 := h1
      refine gx_gen (fun K hK => ?_)
      obtain ⟨hc, hf'⟩ := bcell (bdrewn hw'.out)
      go_simp
      (with_reducible refine (IH.out _).mono ?_); rintro e w2 ⟨rfl, hb⟩; exact ⟨_, rfl, hK _ _ ⟨rfl, Gr.of hb⟩⟩
    refine ⟨opOK_rx [(14, some 10), (17, some 13)] (by kernel_rfl) rfl ?_, ?_⟩
    · intro act w' hw' h1 h2
      have hk : ∀ v, act.eval (.const v) = v := fun _ => rfl
      have hf : ∀ f, act.eval (.func f) = .func (.func f) #[] #[] := fun _ => rfl
      generalize act.eval = ρ at *
      replace h1 : ρ (.tmp 14) = tx B3 := h1
      replace h2 : ρ (.tmp 17) = tx (Lib.itoa h0) := h2
      refine gx_gen (fun K hK => ?_)
      obtain ⟨hc, hf'⟩ := bcell (bdrewn hw'.out)
      go_simp
      exact hK _ _ ⟨rfl, Gr.refl _⟩
    exact trivial
  case hfin =>
    intro w1 hg1
    intro v4 t4
    replace t4 : (fun v a => SWv a v) v4 w1 := t4
    intro v5 t5
    replace t5 : v5 = .pointer (some ⟨w.heap.size, 2, none⟩) := t5
    subst t5
    intro v6 t6
    replace t6 : v6 = .int .i64 s := t6
    subst t6
    intro v7 t7
    replace t7 : (fun v a => SPt (sideB s) a v) v7 w1 := t7
    intro v8 t8
    replace t8 : v8 = tx (sideB s) := t8
    subst t8
    intro v9 t9
    replace t9 : v9 = tx B1 := t9
    subst t9
    intro v10 t10
    replace t10 : v10 = .pointer (some ⟨w.heap.size, 0, none⟩) := t10
    subst t10
    intro v11 t11
    replace t11 : v11 = .int .i64 w0 := t11
    subst t11
    intro v12 t12
    replace t12 : v12 = tx (Lib.itoa w0) := t12
    subst t12
    intro v13 t13
    replace t13 : v13 = tx B2 := t13
    subst t13
    intro v14 t14
    replace t14 : v14 = tx B3 := t14
    subst t14
    intro v15 t15
    replace t15 : v15 = .pointer (some ⟨w.heap.size, 1, none⟩) := t15
    subst t15
    intro v16 t16
    replace t16 : v16 = .int .i64 h0 := t16
    subst t16
    intro v17 t17
    replace t17 : v17 = tx (Lib.itoa h0) := t17
    subst t17
    intro v18 t18
    replace t18 : v18 = tx B4 := t18
    subst t18
    have hb1 := bdrewn hg1.out
    clear hg1
    simp only [finP, List.take_succ_cons, List.take_zero, Act.put, List.setIfInBounds_toArray, List.set_cons_succ, List.set_cons_zero]
    refine wpAny_one (i := 15) (by kernel_rfl) rfl rfl ?_
    go_simp
    refine wpAny_end (by kernel_rfl) ?_
    refine NoPan.thn ?_
    replace HX := Lib.hid ((hb1.block w.heap.size hlx).trans HX.out)
    replace HB := Lib.hid (bkeep2 HB.out hb1)
    clear hb1 c0 c1 c2 c3 c4 c5 c6 c7 c8 hlx t4 t7 HS4 g1 g2 g3 g4
    obtain ⟨c0, c1, c2, c3, c4, c5, c6, c7, c8⟩ := b9c HX.out
    go_upto_if 20 with (fail)
    go_cut [3] (fun sv wx => sv = tx T1 ∧ wx = w1)
    case first =>
      have hE := HE1.out
      cases fx
      · have e := hE.1 rfl
        clear hE
        go_wp2
        go_meet
        exact ⟨by rw [e], rfl⟩
      · have e := hE.2 rfl
        clear hE
        go_wp2
        go_meet
        exact ⟨rfl, rfl⟩
    case rest =>
    obtain ⟨hsv, hwv⟩ := hcut
    subst hsv
    replace hwv := hwv.symm
    subst hwv
    clear c0 c1 c2 c3 c4 c5 c6 c7 c8 HE1
    obtain ⟨c0, c1, c2, c3, c4, c5, c6, c7, c8⟩ := b9c HX.out
    go_upto_if 24 with (fail)
    go_cut [3] (fun sv wx => sv = tx T2 ∧ wx = w1)
    case first =>
      have hE := HE2.out
      cases fy
      · have e := hE.1 rfl
        clear hE
        go_wp2
        go_meet
        exact ⟨by rw [e], rfl⟩
      · have e := hE.2 rfl
        clear hE
        go_wp2
        go_meet
        exact ⟨rfl, rfl⟩
    case rest =>
    obtain ⟨hsv, hwv⟩ := hcut
    subst hsv
    replace hwv := hwv.symm
    subst hwv
    clear c0 c1 c2 c3 c4 c5 c6 c7 c8 HE2
    obtain ⟨c0, c1, c2, c3, c4, c5, c6, c7, c8⟩ := b9c HX.out
    go_upto_if 28 with (fail)
    go_cut [3] (fun sv wx => sv = tx T3 ∧ wx = w1)
    case first =>
      have hE := HE3.out
      cases ex
      · have e := hE.1 rfl
        clear hE
        go_wp2
        go_meet
        exact ⟨by rw [e], rfl⟩
      · have e := hE.2 rfl
        clear hE
        go_wp2
        go_meet
        exact ⟨rfl, rfl⟩
    case rest =>
    obtain ⟨hsv, hwv⟩ := hcut
    subst hsv
    replace hwv := hwv.symm
    subst hwv
    clear c0 c1 c2 c3 c4 c5 c6 c7 c8 HE3
    obtain ⟨c0, c1, c2, c3, c4, c5, c6, c7, c8⟩ := b9c HX.out
    have hlx := ltS HX.out
    go_upto_if 33 with (fail)
    go_cut [3] (fun sv wx => sv = tx T4 ∧ wx.heap[w.heap.size]? = some (.cells #[.int .i64 w0, .int .i64 h0, .int .i64 s, .bool fx, .bool fy, .bool ex, .int .i64 an, .int .i64 px, .int .i64 py] 23) ∧ Below w.heap.size w wx)
    case first =>
      have hE := HE4.out
      cases hb : (an != 4)
      · have e := hE.1 hb
        clear hE
        have e4 : (an == 4) = true := by simpa using hb
        have e4' : (!(an == 4)) = false := by rw [e4]; rfl
        go_wp2
        go_meet
        exact ⟨by rw [e], HX.out, HB.out⟩
      · have e1 := hE.2.1
        have e2 := hE.2.2 hb
        clear hE
        have e4 : (an == 4) = false := by simpa using hb
        have e4' : (!(an == 4)) = true := by rw [e4]; rfl
        go_wp2_with fail
        with_reducible refine (IA.out _).mono ?_
        rintro e w2 ⟨rfl, hbx⟩
        have HX2 := Lib.hid ((hbx.block w.heap.size hlx).trans HX.out)
        have HB2 := Lib.hid (bkeep2 HB.out hbx)
        clear c0 c1 c2 c3 c4 c5 c6 c7 c8 hbx
        go_wp2
        go_meet
        exact ⟨rfl, HX2.out, HB2.out⟩
    case rest =>
    obtain ⟨hsv, hxv, hbv⟩ := hcut
    subst hsv
    replace HX := Lib.hid hxv
    replace HB := Lib.hid hbv
    clear hxv hbv c0 c1 c2 c3 c4 c5 c6 c7 c8 hlx HE4
    obtain ⟨c0, c1, c2, c3, c4, c5, c6, c7, c8⟩ := b9c HX.out
    have hlx := ltS HX.out
    go_upto_if 42 with (fail)
    go_cut [3] (fun sv wx => sv = tx T5 ∧ wx.heap[w.heap.size]? = some (.cells #[.int .i64 w0, .int .i64 h0, .int .i64 s, .bool fx, .bool fy, .bool ex, .int .i64 an, .int .i64 px, .int .i64 py] 23) ∧ Below w.heap.size w wx)
    case first =>
      have hE := HE5.out
      cases hb : (decide (px > 0))
      · have e := hE.1 hb
        clear hE
        go_wp2
        go_meet
        exact ⟨by rw [e], HX.out, HB.out⟩
      · have e1 := hE.2.1
        have e2 := hE.2.2 hb
        clear hE
        go_wp2_with fail
        with_reducible refine (IX.out _).mono ?_
        rintro e w2 ⟨rfl, hbx⟩
        have HX2 := Lib.hid ((hbx.block w.heap.size hlx).trans HX.out)
        have HB2 := Lib.hid (bkeep2 HB.out hbx)
        clear c0 c1 c2 c3 c4 c5 c6 c7 c8 hbx
        go_wp2
        go_meet
        exact ⟨rfl, HX2.out, HB2.out⟩
    case rest =>
    obtain ⟨hsv, hxv, hbv⟩ := hcut
    subst hsv
    replace HX := Lib.hid hxv
    replace HB := Lib.hid hbv
    clear hxv hbv c0 c1 c2 c3 c4 c5 c6 c7 c8 hlx HE5
    obtain ⟨c0, c1, c2, c3, c4, c5, c6, c7, c8⟩ := b9c HX.out
    have hlx := ltS HX.out
    go_upto_if 51 with (fail)
    go_cut [3] (fun sv wx => sv = tx T6 ∧ wx.heap[w.heap.size]? = some (.cells #[.int .i64 w0, .int .i64 h0, .int .i64 s, .bool fx, .bool fy, .bool ex, .int .i64 an, .int .i64 px, .int .i64 py] 23) ∧ Below w.heap.size w wx)
    case first =>
      have hE := HE6.out
      cases hb : (decide (py > 0))
      · have e := hE.1 hb
        clear hE
        go_wp2
        go_meet
        exact ⟨by rw [e], HX.out, HB.out⟩
      · have e1 := hE.2.1
        have e2 := hE.2.2 hb
        clear hE
        go_wp2_with fail
        with_reducible refine (IY.out _).mono ?_
        rintro e w2 ⟨rfl, hbx⟩
        have HX2 := Lib.hid ((hbx.block w.heap.size hlx).trans HX.out)
        have HB2 := Lib.hid (bkeep2 HB.out hbx)
        clear c0 c1 c2 c3 c4 c5 c6 c7 c8 hbx
        go_wp2
        go_meet
        exact ⟨rfl, HX2.out, HB2.out⟩
    case rest =>
    obtain ⟨hsv, hxv, hbv⟩ := hcut
    subst hsv
    replace HX := Lib.hid hxv
    replace HB := Lib.hid hbv
    clear hxv hbv c0 c1 c2 c3 c4 c5 c6 c7 c8 hlx HE6
    go_wp2
    go_ret
    exact ⟨rfl, HB.out⟩
end Go.Proofs.YtjfdmdmlgdgchaaDoor
end
section
namespace Go.Proofs.YtjfdmdmlgdgchaaDoor
open Go.RowKit
set_option linter.unusedVariables false
set_option maxHeartbeats 1000000
attribute [local go_sem] growUpon_value growUpon_skip growUpon_enter
theorem sPackText_v (w0 h0 s : Int) (fx fy ex : Bool) (an px py : Int) (w : World) :
    Calls Tryd.prog 18 #[.agg #[.int .i64 w0, .int .i64 h0, .int .i64 s, .bool fx, .bool fy, .bool ex, .int .i64 an, .int .i64 px, .int .i64 py]] w fun e w' => e = .returned (tx (if vpB w0 h0 s an px py then pkT w0 h0 s fx fy ex an px py else [])) ∧ Below w.heap.size w w' := by
  have HV := Lib.hid (fun w => specValidPack_any w0 h0 s fx fy ex an px py w)
  cases hv : vpB w0 h0 s an px py
  · rw [hv] at HV
    go_enter Tryd.func18, Tryd.ntmps18
    go_wp2_with fail
    with_reducible refine (HV.out _).mono ?_
    rintro e w1 ⟨rfl, hb⟩
    go_wp2
    go_ret
    exact ⟨rfl, bkeep2 (balloc (Below.refl _ _)) hb⟩
  · rw [hv] at HV
    have HW := Lib.hid (fun w => spackText_v w0 h0 s fx fy ex an px py w hv)
    rw [if_pos rfl]
    generalize pkT w0 h0 s fx fy ex an px py = L at *
    clear hv
    have HX := Lib.hid (newS w (.cells #[.int .i64 w0, .int .i64 h0, .int .i64 s, .bool fx, .bool fy, .bool ex, .int .i64 an, .int .i64 px, .int .i64 py] 23))
    have HB := Lib.hid (balloc (o := (.cells #[.int .i64 w0, .int .i64 h0, .int .i64 s, .bool fx, .bool fy, .bool ex, .int .i64 an, .int .i64 px, .int .i64 py] 23)) (Below.refl w.heap.size w))
    go_enter Tryd.func18, Tryd.ntmps18
    go_wp2_with fail
    with_reducible refine (HV.out _).mono ?_
    rintro e w1 ⟨rfl, hb⟩
    replace HX := Lib.hid ((hb.block _ (Array.getElem?_eq_some_iff.1 HX.out).1).trans HX.out)
    replace HB := Lib.hid (bkeep2 HB.out hb)
    clear hb
    obtain ⟨c0, c1, c2, c3, c4, c5, c6, c7, c8⟩ := b9c HX.out
    go_wp2_with fail
    with_reducible refine (HW.out _).mono ?_
    rintro e w2 ⟨rfl, hb⟩
    clear c0 c1 c2 c3 c4 c5 c6 c7 c8
    replace HB := Lib.hid (bkeep2 HB.out hb)
    clear hb
    go_wp2
    go_ret
    exact ⟨rfl, HB.out⟩
end Go.Proofs.YtjfdmdmlgdgchaaDoor
end
