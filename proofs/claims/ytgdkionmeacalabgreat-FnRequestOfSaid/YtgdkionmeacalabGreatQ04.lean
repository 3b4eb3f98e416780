import Derived.Test.YtgdkionmeacalabGreatQ03
section
namespace Go.Proofs.YtgdkionmeacalabGreat
open Go.RowKit
set_option linter.unusedVariables false
set_option maxHeartbeats 1000000
attribute [local go_sem] growUpon_value growUpon_skip growUpon_enter
theorem pick_any2 {B rb : Nat} {A : Option Addr} {l c m : Nat} (n : Int) (w : World) (h : Rd B rb A l c m w) (hm : m ≤ 1000000) :
    Calls Tryz.prog 44 #[.pointer (some ⟨rb, 0, none⟩), .int .i64 n] w fun e w' => (∃ v, e = .returned (.int .i64 v) ∧ (1 ≤ n → 0 ≤ v ∧ v < n) ∧ (n < 1 → v = 0)) ∧ Rd B rb A l c (m + 1) w' ∧ Chg [rb] w w' := by
  by_cases hn : 1 ≤ n
  · exact (pick_any n w h hm).mono fun e w' ⟨⟨v, he, h3⟩, h1, h2⟩ => ⟨⟨v, he, h3, fun h => by omega⟩, h1, h2⟩
  · exact (pick_lo n w h hm (by omega)).mono fun e w' ⟨he, h1, h2⟩ => ⟨⟨0, he, fun h => absurd h hn, fun _ => rfl⟩, h1, h2⟩
def lnvals : List Ln → List Value
  | [] => []
  | r :: t => valsLn r ++ lnvals t
theorem lnvals_append (A B : List Ln) : lnvals (A ++ B) = lnvals A ++ lnvals B := by
  induction A with
  | nil => rfl
  | cons r t ih => simp [lnvals, ih]
theorem lnvals_snoc (L : List Ln) (r : Ln) : lnvals L ++ valsLn r = lnvals (L ++ [r]) := by rw [lnvals_append]; simp [lnvals]
theorem lnvals_get : ∀ {M : List Ln} {i : Nat} {r : Ln}, M[i]? = some r → ∀ j, j < 2 → (lnvals M)[i * 2 + j]? = (valsLn r)[j]?
  | [], i, r, h, _, _ => by simp at h
  | q :: t, 0, r, h, j, hj => by
    simp at h; subst h
    show (valsLn q ++ lnvals t)[0 * 2 + j]? = _
    rw [List.getElem?_append_left (by simp [valsLn]; omega)]; simp
  | q :: t, i + 1, r, h, j, hj => by
    show (valsLn q ++ lnvals t)[(i + 1) * 2 + j]? = _
    rw [List.getElem?_append_right (by simp [valsLn]; omega)]
    have := lnvals_get (M := t) (i := i) (r := r) (by simpa using h) j hj
    rw [← this]; congr 1; simp [valsLn]; omega
theorem ln_infoG : ∃ (i : TypeInfo) (z : Value), Tryz.prog.info? 150 = some i ∧ i.zero = some z ∧ i.size = 2 ∧ i.bytes = 16 ∧ z.cells.size = 2 := by
  have hinfo : (Tryz.prog.info? 150).map (fun i => (i.zero, i.size, i.bytes)) = some (some (.agg #[.int .i64 0, .int .i64 0]), 2, 16) := by kernel_rfl
  obtain ⟨i, hi, h1, h2, h3⟩ := info_parts hinfo
  exact ⟨i, _, hi, h1, h2, h3, rfl⟩
theorem ln_newG (W : World) (r : Ln) (T : TypeId) : ∀ (j : Nat) (u : Value), (valsLn r)[j]? = some u → (W.alloc (.cells #[.int .i64 r.wt, .int .i64 r.mi] T)).cell? ((⟨W.heap.size, 0, none⟩ : Addr).add j) = some u := fun j u h => by
  have hadd : (⟨W.heap.size, 0, none⟩ : Addr).add j = ⟨W.heap.size, j, none⟩ := by unfold Addr.add; split <;> simp_all
  rw [hadd]
  exact (cellS (newS W _) j).trans (by simpa [valsLn] using h)
theorem valsLn_oneG (r : Ln) : ∀ u ∈ valsLn r, u.oneCell' = true := by intro u hu; simp [valsLn] at hu; rcases hu with rfl | rfl <;> rfl
theorem ln_inG {w : World} {base n : Nat} {v : Value} {M : List Ln} {T : TypeId} (h : w.ownsRow base T 2 v n (lnvals M)) (hn : n = M.length) :
    (v = .slice none 0 0 ∧ M = []) ∨ ∃ g cap, ∃ cs : Array Value, v = .slice (some ⟨g, 0, none⟩) n cap ∧ base ≤ g ∧ n ≤ cap ∧ w.heap[g]? = some (.cells cs T (0, 0)) ∧ cs.size = cap * 2 ∧ ∀ (i : Nat) (x : Ln), M[i]? = some x → InS cs (i * 2) (valsLn x) := by
  rcases h.2 with ⟨rfl, h0⟩ | ⟨g, cap, cur, rfl, hb, hg, hc, _, hs, ht⟩
  · exact .inl ⟨rfl, List.length_eq_zero_iff.1 (by omega)⟩
  · refine .inr ⟨g, cap, cur, rfl, hb, hc, hg, hs, fun i r hr j u hu => ?_⟩
    have hj : j < 2 := by have := (List.getElem?_eq_some_iff.1 hu).1; simpa [valsLn] using this
    have e := (lnvals_get hr j hj).trans hu
    rw [← ht, List.getElem?_take] at e
    have : i < M.length := (List.getElem?_eq_some_iff.1 hr).1
    rw [if_pos (by omega)] at e
    simpa using e
theorem LnV.inG {w : World} {g : Nat} {cs : Array Value} {T : TypeId} {M : List Ln} (hh : w.heap[g]? = some (.cells cs T (0, 0))) (hc : ∀ (i : Nat) (x : Ln), M[i]? = some x → InS cs (i * 2) (valsLn x)) : LnV w (some ⟨g, 0, none⟩) M :=
  ⟨fun _ => ⟨g, 0, rfl, ltS hh, fun i r hr => by
    have e : ∀ j u, (valsLn r)[j]? = some u → w.cell? ⟨g, 0 + i * 2 + j, none⟩ = some u := fun j u hu => by rw [Nat.zero_add]; exact (cellS hh _).trans (hc i r hr j u hu)
    exact ⟨e 0 _ rfl, e 1 _ rfl⟩⟩⟩
theorem LnV.chgG {w w' : World} {A : Option Addr} {L : List Ln} {rb : Nat} (h : LnV w A L) (hc : Chg [rb] w w') (hne : ∀ a, A = some a → a.block ≠ rb) : LnV w' A L :=
  ⟨fun h0 => let ⟨b, off, e, hl, hp⟩ := h.cells h0; ⟨b, off, e, Nat.lt_of_lt_of_le hl hc.size, fun i x hx => by
    have k : ∀ j, w'.cell? ⟨b, j, none⟩ = w.cell? ⟨b, j, none⟩ := fun j => hc.cell (p := ⟨b, j, none⟩) hl (by simp; exact hne _ e)
    have := hp i x hx
    exact ⟨(k _).trans this.1, (k _).trans this.2⟩⟩⟩
/-- a list that was drawn, in memory from a block on -/
def LnO (base : Nat) (w : World) (v : Value) (L : List Ln) : Prop := ∃ A c, v = .slice A L.length c ∧ L.length ≤ c ∧ LnV w A L ∧ ∀ a : Addr, A = some a → base ≤ a.block
theorem LnO.chg {base rb : Nat} {w w' : World} {v : Value} {L : List Ln} (h : LnO base w v L) (hc : Chg [rb] w w') (hr : rb < base) : LnO base w' v L := by
  obtain ⟨A, c, e, h1, h2, h3⟩ := h
  exact ⟨A, c, e, h1, h2.chgG hc (fun a ha => by have := h3 a ha; omega), h3⟩
theorem LnO.of {base : Nat} {w : World} {v : Value} {L : List Ln} {T : TypeId} (h : w.ownsRow base T 2 v L.length (lnvals L)) : LnO base w v L := by
  rcases ln_inG h rfl with ⟨rfl, rfl⟩ | ⟨g, cap, cs, rfl, hg, hc, hh, hs, hin⟩
  · exact ⟨none, 0, rfl, Nat.le_refl _, LnV.nil _ _, fun a e => by cases e⟩
  · exact ⟨_, cap, rfl, hc, LnV.inG hh hin, fun a e => by cases e; exact hg⟩
def spvals : List Sp → List Value
  | [] => []
  | r :: t => valsSp r ++ spvals t
theorem spvals_append (A B : List Sp) : spvals (A ++ B) = spvals A ++ spvals B := by
  induction A with
  | nil => rfl
  | cons r t ih => simp [spvals, ih]
theorem spvals_snoc (L : List Sp) (r : Sp) : spvals L ++ valsSp r = spvals (L ++ [r]) := by rw [spvals_append]; simp [spvals]
theorem spvals_get : ∀ {M : List Sp} {i : Nat} {r : Sp}, M[i]? = some r → ∀ j, j < 3 → (spvals M)[i * 3 + j]? = (valsSp r)[j]?
  | [], i, r, h, _, _ => by simp at h
  | q :: t, 0, r, h, j, hj => by
    simp at h; subst h
    show (valsSp q ++ spvals t)[0 * 3 + j]? = _
    rw [List.getElem?_append_left (by simp [valsSp]; omega)]; simp
  | q :: t, i + 1, r, h, j, hj => by
    show (valsSp q ++ spvals t)[(i + 1) * 3 + j]? = _
    rw [List.getElem?_append_right (by simp [valsSp]; omega)]
    have := spvals_get (M := t) (i := i) (r := r) (by simpa using h) j hj
    rw [← this]; congr 1; simp [valsSp]; omega
theorem sp_infoG : ∃ (i : TypeInfo) (z : Value), Tryz.prog.info? 152 = some i ∧ i.zero = some z ∧ i.size = 3 ∧ i.bytes = 24 ∧ z.cells.size = 3 := by
  have hinfo : (Tryz.prog.info? 152).map (fun i => (i.zero, i.size, i.bytes)) = some (some (.agg #[.int .i64 0, .int .i64 0, .int .i64 0]), 3, 24) := by kernel_rfl
  obtain ⟨i, hi, h1, h2, h3⟩ := info_parts hinfo
  exact ⟨i, _, hi, h1, h2, h3, rfl⟩
theorem sp_newG (W : World) (r : Sp) (T : TypeId) : ∀ (j : Nat) (u : Value), (valsSp r)[j]? = some u → (W.alloc (.cells #[.int .i64 r.sa, .int .i64 r.many, .int .i64 r.need] T)).cell? ((⟨W.heap.size, 0, none⟩ : Addr).add j) = some u := fun j u h => by
  have hadd : (⟨W.heap.size, 0, none⟩ : Addr).add j = ⟨W.heap.size, j, none⟩ := by unfold Addr.add; split <;> simp_all
  rw [hadd]
  exact (cellS (newS W _) j).trans (by simpa [valsSp] using h)
theorem valsSp_oneG (r : Sp) : ∀ u ∈ valsSp r, u.oneCell' = true := by intro u hu; simp [valsSp] at hu; rcases hu with rfl | rfl | rfl <;> rfl
theorem sp_inG {w : World} {base n : Nat} {v : Value} {M : List Sp} {T : TypeId} (h : w.ownsRow base T 3 v n (spvals M)) (hn : n = M.length) :
    (v = .slice none 0 0 ∧ M = []) ∨ ∃ g cap, ∃ cs : Array Value, v = .slice (some ⟨g, 0, none⟩) n cap ∧ base ≤ g ∧ n ≤ cap ∧ w.heap[g]? = some (.cells cs T (0, 0)) ∧ cs.size = cap * 3 ∧ ∀ (i : Nat) (x : Sp), M[i]? = some x → InS cs (i * 3) (valsSp x) := by
  rcases h.2 with ⟨rfl, h0⟩ | ⟨g, cap, cur, rfl, hb, hg, hc, _, hs, ht⟩
  · exact .inl ⟨rfl, List.length_eq_zero_iff.1 (by omega)⟩
  · refine .inr ⟨g, cap, cur, rfl, hb, hc, hg, hs, fun i r hr j u hu => ?_⟩
    have hj : j < 3 := by have := (List.getElem?_eq_some_iff.1 hu).1; simpa [valsSp] using this
    have e := (spvals_get hr j hj).trans hu
    rw [← ht, List.getElem?_take] at e
    have : i < M.length := (List.getElem?_eq_some_iff.1 hr).1
    rw [if_pos (by omega)] at e
    simpa using e
theorem SpV.inG {w : World} {g : Nat} {cs : Array Value} {T : TypeId} {M : List Sp} (hh : w.heap[g]? = some (.cells cs T (0, 0))) (hc : ∀ (i : Nat) (x : Sp), M[i]? = some x → InS cs (i * 3) (valsSp x)) : SpV w (some ⟨g, 0, none⟩) M :=
  ⟨fun _ => ⟨g, 0, rfl, ltS hh, fun i r hr => by
    have e : ∀ j u, (valsSp r)[j]? = some u → w.cell? ⟨g, 0 + i * 3 + j, none⟩ = some u := fun j u hu => by rw [Nat.zero_add]; exact (cellS hh _).trans (hc i r hr j u hu)
    exact ⟨e 0 _ rfl, e 1 _ rfl, e 2 _ rfl⟩⟩⟩
theorem SpV.chgG {w w' : World} {A : Option Addr} {L : List Sp} {rb : Nat} (h : SpV w A L) (hc : Chg [rb] w w') (hne : ∀ a, A = some a → a.block ≠ rb) : SpV w' A L :=
  ⟨fun h0 => let ⟨b, off, e, hl, hp⟩ := h.cells h0; ⟨b, off, e, Nat.lt_of_lt_of_le hl hc.size, fun i x hx => by
    have k : ∀ j, w'.cell? ⟨b, j, none⟩ = w.cell? ⟨b, j, none⟩ := fun j => hc.cell (p := ⟨b, j, none⟩) hl (by simp; exact hne _ e)
    have := hp i x hx
    exact ⟨(k _).trans this.1, (k _).trans this.2.1, (k _).trans this.2.2⟩⟩⟩
/-- a list that was drawn, in memory from a block on -/
def SpO (base : Nat) (w : World) (v : Value) (L : List Sp) : Prop := ∃ A c, v = .slice A L.length c ∧ L.length ≤ c ∧ SpV w A L ∧ ∀ a : Addr, A = some a → base ≤ a.block
theorem SpO.chg {base rb : Nat} {w w' : World} {v : Value} {L : List Sp} (h : SpO base w v L) (hc : Chg [rb] w w') (hr : rb < base) : SpO base w' v L := by
  obtain ⟨A, c, e, h1, h2, h3⟩ := h
  exact ⟨A, c, e, h1, h2.chgG hc (fun a ha => by have := h3 a ha; omega), h3⟩
theorem SpO.of {base : Nat} {w : World} {v : Value} {L : List Sp} {T : TypeId} (h : w.ownsRow base T 3 v L.length (spvals L)) : SpO base w v L := by
  rcases sp_inG h rfl with ⟨rfl, rfl⟩ | ⟨g, cap, cs, rfl, hg, hc, hh, hs, hin⟩
  · exact ⟨none, 0, rfl, Nat.le_refl _, SpV.nil _ _, fun a e => by cases e⟩
  · exact ⟨_, cap, rfl, hc, SpV.inG hh hin, fun a e => by cases e; exact hg⟩
set_option maxRecDepth 100000 in
theorem goodLines_any {B rb : Nat} {A : Option Addr} {l c m : Nat} (w : World) (h : Rd B rb A l c m w) (hm : m ≤ 700000) :
    Calls Tryz.prog 98 #[.pointer (some ⟨rb, 0, none⟩)] w fun e w' => (∃ v, ∃ L : List Ln, e = .returned v ∧ w'.ownsRow w.heap.size 150 2 v L.length (lnvals L) ∧ 1 ≤ L.length ∧ L.length ≤ 5) ∧ Rd B rb A l c (m + 20) w' ∧ Chg [rb] w w' := by
  obtain ⟨ti, tz, ti1, ti2, ti3, ti4, ti5⟩ := ln_infoG
  go_enter Tryz.func98, Tryz.ntmps98
  go_wp2_with fail
  have hlt := h.lt
  obtain ⟨W0, hW0⟩ : ∃ W0, w.alloc (.cells #[] 150 (0, 0)) = W0 := ⟨_, rfl⟩
  have hs0 : w.heap.size + 1 = W0.heap.size := by rw [← hW0]; simp
  have hr0 : Rd B rb A l c m W0 := by rw [← hW0]; exact h.alloc _
  have ho0 : W0.ownsRow w.heap.size 150 2 (.slice (some ⟨w.heap.size, 0, none⟩) 0 0) 0 [] := by rw [← hW0]; exact World.ownsRow_lit (base := w.heap.size) (e := 150) (size := 2) w #[] 0 (Nat.le_refl _) (by decide) rfl
  have hc0 : Chg [rb] w W0 := by rw [← hW0]; exact (Chg.refl [rb] w).alloc _
  rw [hW0, hs0]
  clear hW0
  with_reducible refine (one_lit_in 1 5 W0 hr0 (by omega) (by simp) (by omega) (by omega) (by simp [isIn])).mono ?_
  rintro e w1 ⟨⟨z, rfl, z0, z1⟩, hr1, hc1⟩
  obtain ⟨n, rfl⟩ := Int.eq_ofNat_of_zero_le (show 0 ≤ z by omega)
  have ho1 := own_chgN ho0 hc1 hlt
  have HO1 := Lib.hid ho1
  have HR1 := Lib.hid hr1
  have HC1 := Lib.hid (hc0.trans hc1)
  clear ho1 hr1 hc1 ho0 hr0 hc0
  go_wp2_with fail
  go_loopw [3, 4] (fun out i wr => ∃ k : Nat, i = .int .i64 k ∧ ∃ L : List Ln, k + L.length = n ∧ wr.ownsRow w.heap.size 150 2 out L.length (lnvals L) ∧ Rd B rb A l c (m + 1 + 2 * L.length) wr ∧ Chg [rb] w wr) (fun _ i _ => (intOf i).toNat)
  case atStart => exact ⟨n, rfl, [], by simp, HO1.out, HR1.out, HC1.out⟩
  case round =>
    obtain ⟨k, rfl, L, hk, ho, hr, hc⟩ := hrel
    clear HO1 HR1 HC1
    rcases k with _ | k
    · have hd : decide (((0 : Nat) : Int) > 0) = false := by simp
      have HO := Lib.hid ho
      have HR := Lib.hid hr
      have HC := Lib.hid hc
      clear ho hr hc
      go_wp2
      go_ret
      exact ⟨⟨_, L, rfl, HO.out, by omega, by omega⟩, HR.out.mono (by omega), HC.out⟩
    · have hd : decide (((k + 1 : Nat) : Int) > 0) = true := by simp
      have hlt0 := h.lt
      go_wp2_with fail
      with_reducible refine (one_lit_in 0 5 _ hr (by omega) (by simp) (by omega) (by omega) (by simp [isIn])).mono ?_
      rintro e w2 ⟨⟨y1, rfl, y1a, y1b⟩, hr2, hc2⟩
      have ho2 := own_chgN ho hc2 hlt0
      have HO := Lib.hid ho2
      have HC := Lib.hid (hc.trans hc2)
      clear ho hr hc hc2 ho2
      go_wp2_with fail
      with_reducible refine (one_lit_in 0 10 _ hr2 (by omega) (by simp) (by omega) (by omega) (by simp [isIn])).mono ?_
      rintro e w3 ⟨⟨y2, rfl, y2a, y2b⟩, hr3, hc3⟩
      have ho3 := own_chgN HO.out hc3 hlt0
      have hw3 : w.heap.size ≤ w3.heap.size := Nat.le_trans HC.out.size hc3.size
      have hob := ho3.lt
      have HR := Lib.hid hr3
      replace HC := Lib.hid (HC.out.trans hc3)
      replace HO := Lib.hid ho3
      clear hr2 hr3 hc3 ho3
      go_wp2_with (at_builtin; refine wpList_append_own _ rfl _ _ 30 rfl w.heap.size 150 ti tz 2 16 Tryz.underlying30 ti1 ti2 ti3 ti4 ti5 (by decide) _ _ _ rfl (HO.out.alloc _) ⟨w3.heap.size, 0, none⟩ 1 1 (valsLn ⟨y1, y2⟩) rfl rfl (ln_newG _ ⟨y1, y2⟩ _) (valsLn_oneG _) (by simp only [maxLen]; omega) (by omega) (by simp; omega) ?_)
      intro v5 w5 how5 hgr5 _
      rw [lnvals_snoc] at how5
      replace HC := Lib.hid (chg_grownN HC.out hgr5 hob (Nat.le_refl _))
      replace HR := Lib.hid (rd_grownN HR.out hgr5 hob hlt0)
      replace HO := Lib.hid how5
      clear how5 hgr5 hob
      go_wp2
      go_roundw
      case rel => exact ⟨k, by go_num, L ++ [⟨y1, y2⟩], by simp; omega, by simpa using HO.out, HR.out.mono (by simp; omega), HC.out⟩
      case measure => simp [intOf]
theorem InS.putLn0 {cs : Array Value} {M : List Ln} {x : Ln} {T : List Ln} {z : Int} (hM : M = x :: T) (hs : 2 ≤ cs.size) (h : ∀ (i : Nat) (y : Ln), M[i]? = some y → InS cs (i * 2) (valsLn y)) :
    ∀ (i : Nat) (y : Ln), ((⟨z, x.mi⟩ : Ln) :: T)[i]? = some y → InS (cs.setIfInBounds 0 (.int .i64 z)) (i * 2) (valsLn y) := by
  subst hM
  intro i y hy j u hu
  have hj : j < 2 := by have := (List.getElem?_eq_some_iff.1 hu).1; simpa [valsLn] using this
  rw [Array.getElem?_setIfInBounds]
  rcases i with _ | i
  · simp only [List.getElem?_cons_zero, Option.some.injEq] at hy
    subst hy
    have h0 := h 0 x rfl j
    rcases j with _ | _ | j
    · rw [if_pos (by omega), if_pos (by omega)]; simpa [valsLn] using hu
    · rw [if_neg (by omega)]; exact h0 u (by simpa [valsLn] using hu)
    · omega
  · rw [if_neg (by omega)]
    exact h (i + 1) y (by simpa using hy) j u hu
theorem InS.putLn1 {cs : Array Value} {M : List Ln} {x : Ln} {T : List Ln} {z : Int} (hM : M = x :: T) (hs : 2 ≤ cs.size) (h : ∀ (i : Nat) (y : Ln), M[i]? = some y → InS cs (i * 2) (valsLn y)) :
    ∀ (i : Nat) (y : Ln), ((⟨x.wt, z⟩ : Ln) :: T)[i]? = some y → InS (cs.setIfInBounds 1 (.int .i64 z)) (i * 2) (valsLn y) := by
  subst hM
  intro i y hy j u hu
  have hj : j < 2 := by have := (List.getElem?_eq_some_iff.1 hu).1; simpa [valsLn] using this
  rw [Array.getElem?_setIfInBounds]
  rcases i with _ | i
  · simp only [List.getElem?_cons_zero, Option.some.injEq] at hy
    subst hy
    have h0 := h 0 x rfl j
    rcases j with _ | _ | j
    · rw [if_neg (by omega)]; exact h0 u (by simpa [valsLn] using hu)
    · rw [if_pos (by omega), if_pos (by omega)]; simpa [valsLn] using hu
    · omega
  · rw [if_neg (by omega)]
    exact h (i + 1) y (by simpa using hy) j u hu
end Go.Proofs.YtgdkionmeacalabGreat
end
section
namespace Go.Proofs.YtgdkionmeacalabGreat
open Go.RowKit
set_option linter.unusedVariables false
set_option maxHeartbeats 1000000
attribute [local go_sem] growUpon_value growUpon_skip growUpon_enter
structure Ce where
  co : Int
  ro : Int
  mc : Int
  mr : Int
  cw : Int
  ch : Int
  sk : Int
  px : Int
  py : Int
def valsCe (p : Ce) : List Value := [.int .i64 p.co, .int .i64 p.ro, .int .i64 p.mc, .int .i64 p.mr, .int .i64 p.cw, .int .i64 p.ch, .int .i64 p.sk, .int .i64 p.px, .int .i64 p.py]
/-- a slice that reads as this list -/
structure CeV (w : World) (A : Option Addr) (L : List Ce) : Prop where
  cells : 0 < L.length → ∃ b off, A = some ⟨b, off, none⟩ ∧ b < w.heap.size ∧ ∀ i p, L[i]? = some p → w.cell? ⟨b, off + i * 9, none⟩ = some (.int .i64 p.co) ∧ w.cell? ⟨b, off + i * 9 + 1, none⟩ = some (.int .i64 p.ro) ∧ w.cell? ⟨b, off + i * 9 + 2, none⟩ = some (.int .i64 p.mc) ∧ w.cell? ⟨b, off + i * 9 + 3, none⟩ = some (.int .i64 p.mr) ∧ w.cell? ⟨b, off + i * 9 + 4, none⟩ = some (.int .i64 p.cw) ∧ w.cell? ⟨b, off + i * 9 + 5, none⟩ = some (.int .i64 p.ch) ∧ w.cell? ⟨b, off + i * 9 + 6, none⟩ = some (.int .i64 p.sk) ∧ w.cell? ⟨b, off + i * 9 + 7, none⟩ = some (.int .i64 p.px) ∧ w.cell? ⟨b, off + i * 9 + 8, none⟩ = some (.int .i64 p.py)
theorem CeV.keep {w w' : World} {A : Option Addr} {L : List Ce} (h : CeV w A L) (hb : Below w.heap.size w w') : CeV w' A L :=
  ⟨fun h0 => let ⟨b, off, e, hl, hp⟩ := h.cells h0; ⟨b, off, e, Nat.lt_of_lt_of_le hl hb.size, fun i p hi => by
    obtain ⟨c0, c1, c2, c3, c4, c5, c6, c7, c8⟩ := hp i p hi
    exact ⟨(hb.cell (p := ⟨b, off + i * 9, none⟩) hl).trans c0, (hb.cell (p := ⟨b, off + i * 9 + 1, none⟩) hl).trans c1, (hb.cell (p := ⟨b, off + i * 9 + 2, none⟩) hl).trans c2, (hb.cell (p := ⟨b, off + i * 9 + 3, none⟩) hl).trans c3, (hb.cell (p := ⟨b, off + i * 9 + 4, none⟩) hl).trans c4, (hb.cell (p := ⟨b, off + i * 9 + 5, none⟩) hl).trans c5, (hb.cell (p := ⟨b, off + i * 9 + 6, none⟩) hl).trans c6, (hb.cell (p := ⟨b, off + i * 9 + 7, none⟩) hl).trans c7, (hb.cell (p := ⟨b, off + i * 9 + 8, none⟩) hl).trans c8⟩⟩⟩
theorem CeV.nil (w : World) (A : Option Addr) : CeV w A [] := ⟨fun h => absurd h (by simp)⟩
/-- what a new block holds -/
def CeB (w : World) (g : Nat) (L : List Ce) : Prop := ∃ cs : Array Value, w.heap[g]? = some (.cells cs 34 (0, 0)) ∧ cs.size = L.length * 9 ∧ ∀ i p, L[i]? = some p → InS cs (i * 9) (valsCe p)
theorem CeB.v {w : World} {g : Nat} {L : List Ce} (h : CeB w g L) : CeV w (some ⟨g, 0, none⟩) L := by
  obtain ⟨cs, hh, hs, hc⟩ := h
  refine ⟨fun _ => ⟨g, 0, rfl, ltS hh, fun i p hp => ?_⟩⟩
  have hi := hc i p hp
  simp only [Nat.zero_add]
  exact ⟨(cellS hh _).trans (hi 0 _ rfl), (cellS hh _).trans (hi 1 _ rfl), (cellS hh _).trans (hi 2 _ rfl), (cellS hh _).trans (hi 3 _ rfl), (cellS hh _).trans (hi 4 _ rfl), (cellS hh _).trans (hi 5 _ rfl), (cellS hh _).trans (hi 6 _ rfl), (cellS hh _).trans (hi 7 _ rfl), (cellS hh _).trans (hi 8 _ rfl)⟩
theorem CeB.lt {w : World} {g : Nat} {L : List Ce} (h : CeB w g L) : g < w.heap.size := by obtain ⟨cs, hh, _⟩ := h; exact ltS hh
theorem CeB.keep {w w' : World} {g : Nat} {L : List Ce} (h : CeB w g L) (hb : Below w.heap.size w w') : CeB w' g L := by
  obtain ⟨cs, hh, hs, hc⟩ := h
  exact ⟨cs, (hb.block g (ltS hh)).trans hh, hs, hc⟩
theorem CeB.but {w w' : World} {g h : Nat} {L : List Ce} (hi : CeB w h L) (hg : w.grownBy w' (some g)) (hne : h ≠ g) : CeB w' h L := by
  obtain ⟨cs, hh, hs, hc⟩ := hi
  exact ⟨cs, (hg.block h (ltS hh) (fun e => hne (Option.some.inj e))).trans hh, hs, hc⟩
theorem madeCe : ∃ f : Nat → Array Value, (∀ n, (f n).size = n * 9) ∧ ∀ (n : Nat) (w : World), n ≤ 1048576 → (Instr.makeSlice 96 (.int .i64 (n : Int)) (.int .i64 (n : Int))).run Tryz.prog w = .ok (.slice (some ⟨w.heap.size, 0, none⟩) n n) (w.alloc (.cells (f n) 34)) := by
  have hinfo : (Tryz.prog.info? 34).map (fun i => (i.zero, i.size, i.bytes)) = some (some (.agg #[.int .i64 0, .int .i64 0, .int .i64 0, .int .i64 0, .int .i64 0, .int .i64 0, .int .i64 0, .int .i64 0, .int .i64 0]), 9, 72) := by kernel_rfl
  obtain ⟨i, hi, h1, h2, h3⟩ := info_parts hinfo
  refine ⟨fun n => madeCells (Value.agg #[.int .i64 0, .int .i64 0, .int .i64 0, .int .i64 0, .int .i64 0, .int .i64 0, .int .i64 0, .int .i64 0, .int .i64 0]).cells (n * 9), fun n => size_madeCells _ _, fun n w hn => ?_⟩
  have hr := run_make (P := Tryz.prog) w 96 34 i _ Tryz.underlying96 hi h1 .i64 .i64 n n (by omega) (Int.le_refl _) (by rw [h3]; omega) (by omega)
  rw [h2] at hr
  simpa using hr
theorem putCe {w : World} {b : Nat} {cs : Array Value} {T : TypeId} {fz : Nat × Nat} (h : w.heap[b]? = some (.cells cs T fz)) (o : Nat) (p : Ce) :
    ((((((((((w.setCell ⟨b, o, none⟩ (.int .i64 p.co)).setCell ⟨b, o + 1, none⟩ (.int .i64 p.ro)).setCell ⟨b, o + 2, none⟩ (.int .i64 p.mc)).setCell ⟨b, o + 3, none⟩ (.int .i64 p.mr)).setCell ⟨b, o + 4, none⟩ (.int .i64 p.cw)).setCell ⟨b, o + 5, none⟩ (.int .i64 p.ch)).setCell ⟨b, o + 6, none⟩ (.int .i64 p.sk)).setCell ⟨b, o + 7, none⟩ (.int .i64 p.px)).setCell ⟨b, o + 8, none⟩ (.int .i64 p.py))).heap[b]? = some (.cells (wrAt cs o (valsCe p)) T fz) :=
  putS (putS (putS (putS (putS (putS (putS (putS (putS h _) _) _) _) _) _) _) _) _
theorem putCeb {B b : Nat} {a w : World} (h : Below B a w) (hb : B ≤ b) (o : Nat) (p : Ce) : Below B a ((((((((((w.setCell ⟨b, o, none⟩ (.int .i64 p.co)).setCell ⟨b, o + 1, none⟩ (.int .i64 p.ro)).setCell ⟨b, o + 2, none⟩ (.int .i64 p.mc)).setCell ⟨b, o + 3, none⟩ (.int .i64 p.mr)).setCell ⟨b, o + 4, none⟩ (.int .i64 p.cw)).setCell ⟨b, o + 5, none⟩ (.int .i64 p.ch)).setCell ⟨b, o + 6, none⟩ (.int .i64 p.sk)).setCell ⟨b, o + 7, none⟩ (.int .i64 p.px)).setCell ⟨b, o + 8, none⟩ (.int .i64 p.py))) :=
  (((((((((h).setCell hb _).setCell hb _).setCell hb _).setCell hb _).setCell hb _).setCell hb _).setCell hb _).setCell hb _).setCell hb _
end Go.Proofs.YtgdkionmeacalabGreat
end
section
namespace Go.Proofs.YtgdkionmeacalabGreat
open Go.RowKit
set_option linter.unusedVariables false
set_option maxHeartbeats 1000000
attribute [local go_sem] growUpon_value growUpon_skip growUpon_enter
theorem wp_genGC {P : Program} {c : Code} {Q : Exit → Act → World → Prop} {a : Act} {W : World} (F : World → Prop) (hF : F W) (h : ∀ W0, F W0 → c.wp P Q a W0) : c.wp P Q a W := h W hF
theorem bp_genGC {P : Program} {f : Func} {R : Ending → World → Prop} {e : Exit} {a : Act} {W : World} (F : World → Prop) (hF : F W) (h : ∀ W0, F W0 → bodyPost P f R e a W0) : bodyPost P f R e a W := h W hF
theorem put9gc {w : World} {b : Nat} {a0 a1 a2 a3 a4 a5 a6 a7 a8 : Value} {T : TypeId} {fz : Nat × Nat} (h : w.heap[b]? = some (.cells #[a0, a1, a2, a3, a4, a5, a6, a7, a8] T fz)) (x0 x1 x2 x3 x4 x5 x6 x7 x8 : Value) :
    (((((((((w.setCell ⟨b, 0, none⟩ x0).setCell ⟨b, 1, none⟩ x1).setCell ⟨b, 2, none⟩ x2).setCell ⟨b, 3, none⟩ x3).setCell ⟨b, 4, none⟩ x4).setCell ⟨b, 5, none⟩ x5).setCell ⟨b, 6, none⟩ x6).setCell ⟨b, 7, none⟩ x7).setCell ⟨b, 8, none⟩ x8).heap[b]? = some (.cells #[x0, x1, x2, x3, x4, x5, x6, x7, x8] T fz) := by
  replace h := putS (i := 0) h x0
  simp only [List.setIfInBounds_toArray, List.set_cons_succ, List.set_cons_zero] at h
  replace h := putS (i := 1) h x1
  simp only [List.setIfInBounds_toArray, List.set_cons_succ, List.set_cons_zero] at h
  replace h := putS (i := 2) h x2
  simp only [List.setIfInBounds_toArray, List.set_cons_succ, List.set_cons_zero] at h
  replace h := putS (i := 3) h x3
  simp only [List.setIfInBounds_toArray, List.set_cons_succ, List.set_cons_zero] at h
  replace h := putS (i := 4) h x4
  simp only [List.setIfInBounds_toArray, List.set_cons_succ, List.set_cons_zero] at h
  replace h := putS (i := 5) h x5
  simp only [List.setIfInBounds_toArray, List.set_cons_succ, List.set_cons_zero] at h
  replace h := putS (i := 6) h x6
  simp only [List.setIfInBounds_toArray, List.set_cons_succ, List.set_cons_zero] at h
  replace h := putS (i := 7) h x7
  simp only [List.setIfInBounds_toArray, List.set_cons_succ, List.set_cons_zero] at h
  replace h := putS (i := 8) h x8
  simp only [List.setIfInBounds_toArray, List.set_cons_succ, List.set_cons_zero] at h
  exact h
theorem put9g2 {w : World} {b : Nat} {a0 a1 a2 a3 a4 a5 a6 a7 a8 : Value} {T : TypeId} {fz : Nat × Nat} (h : w.heap[b]? = some (.cells #[a0, a1, a2, a3, a4, a5, a6, a7, a8] T fz)) (u : Value) : (w.setCell ⟨b, 2, none⟩ u).heap[b]? = some (.cells #[a0, a1, u, a3, a4, a5, a6, a7, a8] T fz) := by
  replace h := putS (i := 2) h u
  simpa only [List.setIfInBounds_toArray, List.set_cons_succ, List.set_cons_zero] using h
theorem put9g3 {w : World} {b : Nat} {a0 a1 a2 a3 a4 a5 a6 a7 a8 : Value} {T : TypeId} {fz : Nat × Nat} (h : w.heap[b]? = some (.cells #[a0, a1, a2, a3, a4, a5, a6, a7, a8] T fz)) (u : Value) : (w.setCell ⟨b, 3, none⟩ u).heap[b]? = some (.cells #[a0, a1, a2, u, a4, a5, a6, a7, a8] T fz) := by
  replace h := putS (i := 3) h u
  simpa only [List.setIfInBounds_toArray, List.set_cons_succ, List.set_cons_zero] using h
theorem put9g7 {w : World} {b : Nat} {a0 a1 a2 a3 a4 a5 a6 a7 a8 : Value} {T : TypeId} {fz : Nat × Nat} (h : w.heap[b]? = some (.cells #[a0, a1, a2, a3, a4, a5, a6, a7, a8] T fz)) (u : Value) : (w.setCell ⟨b, 7, none⟩ u).heap[b]? = some (.cells #[a0, a1, a2, a3, a4, a5, a6, u, a8] T fz) := by
  replace h := putS (i := 7) h u
  simpa only [List.setIfInBounds_toArray, List.set_cons_succ, List.set_cons_zero] using h
theorem put9g8 {w : World} {b : Nat} {a0 a1 a2 a3 a4 a5 a6 a7 a8 : Value} {T : TypeId} {fz : Nat × Nat} (h : w.heap[b]? = some (.cells #[a0, a1, a2, a3, a4, a5, a6, a7, a8] T fz)) (u : Value) : (w.setCell ⟨b, 8, none⟩ u).heap[b]? = some (.cells #[a0, a1, a2, a3, a4, a5, a6, a7, u] T fz) := by
  replace h := putS (i := 8) h u
  simpa only [List.setIfInBounds_toArray, List.set_cons_succ, List.set_cons_zero] using h
theorem chg9g {S : List Nat} {a w : World} {b : Nat} (h : Chg S a w) (hb : a.heap.size ≤ b) (x0 x1 x2 x3 x4 x5 x6 x7 x8 : Value) : Chg S a (((((((((w.setCell ⟨b, 0, none⟩ x0).setCell ⟨b, 1, none⟩ x1).setCell ⟨b, 2, none⟩ x2).setCell ⟨b, 3, none⟩ x3).setCell ⟨b, 4, none⟩ x4).setCell ⟨b, 5, none⟩ x5).setCell ⟨b, 6, none⟩ x6).setCell ⟨b, 7, none⟩ x7).setCell ⟨b, 8, none⟩ x8) := (((((((((h.setCell (p := ⟨b, 0, none⟩) (.inr hb) x0).setCell (p := ⟨b, 1, none⟩) (.inr hb) x1).setCell (p := ⟨b, 2, none⟩) (.inr hb) x2).setCell (p := ⟨b, 3, none⟩) (.inr hb) x3).setCell (p := ⟨b, 4, none⟩) (.inr hb) x4).setCell (p := ⟨b, 5, none⟩) (.inr hb) x5).setCell (p := ⟨b, 6, none⟩) (.inr hb) x6).setCell (p := ⟨b, 7, none⟩) (.inr hb) x7).setCell (p := ⟨b, 8, none⟩) (.inr hb) x8)
theorem rd9g {B rb b : Nat} {A : Option Addr} {n c m : Nat} {w : World} (h : Rd B rb A n c m w) (hB : B ≤ b) (hb : b ≠ rb) (x0 x1 x2 x3 x4 x5 x6 x7 x8 : Value) : Rd B rb A n c m (((((((((w.setCell ⟨b, 0, none⟩ x0).setCell ⟨b, 1, none⟩ x1).setCell ⟨b, 2, none⟩ x2).setCell ⟨b, 3, none⟩ x3).setCell ⟨b, 4, none⟩ x4).setCell ⟨b, 5, none⟩ x5).setCell ⟨b, 6, none⟩ x6).setCell ⟨b, 7, none⟩ x7).setCell ⟨b, 8, none⟩ x8) := (((((((((h.setCell (p := ⟨b, 0, none⟩) hB hb x0).setCell (p := ⟨b, 1, none⟩) hB hb x1).setCell (p := ⟨b, 2, none⟩) hB hb x2).setCell (p := ⟨b, 3, none⟩) hB hb x3).setCell (p := ⟨b, 4, none⟩) hB hb x4).setCell (p := ⟨b, 5, none⟩) hB hb x5).setCell (p := ⟨b, 6, none⟩) hB hb x6).setCell (p := ⟨b, 7, none⟩) hB hb x7).setCell (p := ⟨b, 8, none⟩) hB hb x8)
set_option maxRecDepth 100000 in
theorem goodCell_any {B rb : Nat} {A : Option Addr} {l c m : Nat} (n1 n2 : Nat) (w : World) (h : Rd B rb A l c m w) (hm : m ≤ 600000) (h1 : 1 ≤ n1) (h15 : n1 ≤ 5) (h2 : 1 ≤ n2) (h25 : n2 ≤ 5) :
    Calls Tryz.prog 101 #[.pointer (some ⟨rb, 0, none⟩), .int .i64 (n1 : Int), .int .i64 (n2 : Int)] w fun e w' => (∃ p : Ce, e = .returned (.agg #[.int .i64 p.co, .int .i64 p.ro, .int .i64 p.mc, .int .i64 p.mr, .int .i64 p.cw, .int .i64 p.ch, .int .i64 p.sk, .int .i64 p.px, .int .i64 p.py])) ∧ Rd B rb A l c (m + 20) w' ∧ Chg [rb] w w' := by
  have hlt := h.lt
  have hBrb := h.base
  go_enter Tryz.func101, Tryz.ntmps101
  go_upto_region 1 with (fail)
  refine wp_genGC (fun W => W.heap[w.heap.size]? = some (.cells #[.int .i64 0, .int .i64 0, .int .i64 0, .int .i64 0, .int .i64 0, .int .i64 0, .int .i64 0, .int .i64 0, .int .i64 0] 34 (0, 0)) ∧ Rd B rb A l c m W ∧ Chg [rb] w W ∧ w.heap.size < W.heap.size) ⟨newS _ _, h.alloc _, (Chg.refl _ _).alloc _, by simp⟩ (fun W0 h0 => ?_)
  obtain ⟨hz, hr0, hc0, hs0⟩ := h0
  have HZ := Lib.hid hz
  have HC := Lib.hid hc0
  clear hz hc0

  go_wp2_with fail
  with_reducible refine (pick_any (n1 : Int) _ hr0 (by omega)).mono ?_
  rintro e w1 ⟨⟨v1, rfl, hp⟩, hr1, hc1⟩
  obtain ⟨v1a, v1b⟩ := hp (by omega)
  replace HZ := Lib.hid ((hc1.block _ (ltS HZ.out) (by simp; omega)).trans HZ.out)
  have hs1 := hc1.size
  replace HC := Lib.hid (HC.out.trans hc1)
  clear hc1
  clear hp
  go_wp2_with fail
  with_reducible refine (pick_any (n2 : Int) _ hr1 (by omega)).mono ?_
  rintro e w2 ⟨⟨v2, rfl, hp⟩, hr2, hc2⟩
  obtain ⟨v2a, v2b⟩ := hp (by omega)
  replace HZ := Lib.hid ((hc2.block _ (ltS HZ.out) (by simp; omega)).trans HZ.out)
  have hs2 := hc2.size
  replace HC := Lib.hid (HC.out.trans hc2)
  clear hc2
  clear hp
  go_wp2_with fail
  with_reducible refine (one_lit_in (0) 30 _ hr2 (by omega) (by simp) (by omega) (by omega) (by simp [isIn])).mono ?_
  rintro e w3 ⟨⟨z3, rfl, z3a, z3b⟩, hr3, hc3⟩
  replace HZ := Lib.hid ((hc3.block _ (ltS HZ.out) (by simp; omega)).trans HZ.out)
  have hs3 := hc3.size
  replace HC := Lib.hid (HC.out.trans hc3)
  clear hc3
  go_wp2_with fail
  with_reducible refine (one_lit_in (0) 30 _ hr3 (by omega) (by simp) (by omega) (by omega) (by simp [isIn])).mono ?_
  rintro e w4 ⟨⟨z4, rfl, z4a, z4b⟩, hr4, hc4⟩
  replace HZ := Lib.hid ((hc4.block _ (ltS HZ.out) (by simp; omega)).trans HZ.out)
  have hs4 := hc4.size
  replace HC := Lib.hid (HC.out.trans hc4)
  clear hc4
  go_wp2_with fail
  with_reducible refine (pick_any 16 _ hr4 (by omega)).mono ?_
  rintro e w5 ⟨⟨v5, rfl, hp⟩, hr5, hc5⟩
  obtain ⟨v5a, v5b⟩ := hp (by omega)
  replace HZ := Lib.hid ((hc5.block _ (ltS HZ.out) (by simp; omega)).trans HZ.out)
  have hs5 := hc5.size
  replace HC := Lib.hid (HC.out.trans hc5)
  clear hc5
  clear hp
  go_wp2_with fail
  with_reducible refine (one_lit_in (0) 15 _ hr5 (by omega) (by simp) (by omega) (by omega) (by simp [isIn]; omega)).mono ?_
  rintro e w6 ⟨⟨z6, rfl, z6a, z6b⟩, hr6, hc6⟩
  replace HZ := Lib.hid ((hc6.block _ (ltS HZ.out) (by simp; omega)).trans HZ.out)
  have hs6 := hc6.size
  replace HC := Lib.hid (HC.out.trans hc6)
  clear hc6
  have HR := Lib.hid hr6
  clear hr0 hr1 hr2 hr3 hr4 hr5 hr6
  have hB6 : B ≤ w6.heap.size := by omega
  have hn6 : w6.heap.size ≠ rb := by omega
  have hn60 : w.heap.size ≠ w6.heap.size := by omega
  go_upto_region 2 with (fail)
  refine wp_genGC (fun W => W.heap[w6.heap.size]? = some (.cells #[.int .i64 v1, .int .i64 v2, .int .i64 0, .int .i64 0, .int .i64 z3, .int .i64 z4, .int .i64 z6, .int .i64 0, .int .i64 0] 34 (0, 0)) ∧ W.heap[w.heap.size]? = some (.cells #[.int .i64 0, .int .i64 0, .int .i64 0, .int .i64 0, .int .i64 0, .int .i64 0, .int .i64 0, .int .i64 0, .int .i64 0] 34 (0, 0)) ∧ Rd B rb A l c (m + 6) W ∧ Chg [rb] w W) ⟨newS _ _, (Below.heap_alloc _ _ _ (ltS HZ.out)).trans HZ.out, HR.out.alloc _, HC.out.alloc _⟩ (fun W1 h1 => ?_)
  clear HZ HR HC
  obtain ⟨hx, hz, hr, hc⟩ := h1
  have HX := Lib.hid hx
  have HZ := Lib.hid hz
  have HR := Lib.hid hr
  have HC := Lib.hid hc
  clear hx hz hr hc
  have hsw := HC.out.size
  have x2 := cellS HX.out 2
  have f2 := frozenS HX.out 2
  replace HX := Lib.hid (put9g2 HX.out (.int .i64 1))
  replace HZ := Lib.hid ((Below.heap_setCell _ ⟨w6.heap.size, 2, none⟩ (.int .i64 1) w.heap.size (by simp; omega)).trans HZ.out)
  replace HR := Lib.hid (HR.out.setCell (p := ⟨w6.heap.size, 2, none⟩) (by simp; omega) (by simp; omega) (.int .i64 1))
  replace HC := Lib.hid (HC.out.setCell (p := ⟨w6.heap.size, 2, none⟩) (.inr (by simp; omega)) (.int .i64 1))
  have x3 := cellS HX.out 3
  have f3 := frozenS HX.out 3
  replace HX := Lib.hid (put9g3 HX.out (.int .i64 1))
  replace HZ := Lib.hid ((Below.heap_setCell _ ⟨w6.heap.size, 3, none⟩ (.int .i64 1) w.heap.size (by simp; omega)).trans HZ.out)
  replace HR := Lib.hid (HR.out.setCell (p := ⟨w6.heap.size, 3, none⟩) (by simp; omega) (by simp; omega) (.int .i64 1))
  replace HC := Lib.hid (HC.out.setCell (p := ⟨w6.heap.size, 3, none⟩) (.inr (by simp; omega)) (.int .i64 1))
  go_upto_region 4 with (fail)
  refine wp_genGC (fun W => W.heap[w6.heap.size]? = some (.cells #[.int .i64 v1, .int .i64 v2, .int .i64 1, .int .i64 1, .int .i64 z3, .int .i64 z4, .int .i64 z6, .int .i64 0, .int .i64 0] 34 (0, 0)) ∧ W.heap[w.heap.size]? = some (.cells #[.int .i64 0, .int .i64 0, .int .i64 0, .int .i64 0, .int .i64 0, .int .i64 0, .int .i64 0, .int .i64 0, .int .i64 0] 34 (0, 0)) ∧ Rd B rb A l c (m + 6) W ∧ Chg [rb] w W) ⟨HX.out, HZ.out, HR.out, HC.out⟩ (fun W2 h2' => ?_)
  clear HX HZ HR HC x2 x3 f2 f3
  obtain ⟨hx, hz, hr, hc⟩ := h2'
  have HX := Lib.hid hx
  have HZ := Lib.hid hz
  have HR := Lib.hid hr
  have HC := Lib.hid hc
  clear hx hz hr hc
  go_wp2_with fail
  with_reducible refine (pick_any 3 _ HR.out (by omega)).mono ?_
  rintro e w7 ⟨⟨v7, rfl, -⟩, hr7, hc7⟩
  replace HX := Lib.hid ((hc7.block _ (ltS HX.out) (by simp; omega)).trans HX.out)
  replace HZ := Lib.hid ((hc7.block _ (ltS HZ.out) (by simp; omega)).trans HZ.out)
  replace HC := Lib.hid (HC.out.trans hc7)
  replace HR := Lib.hid hr7
  clear hr7 hc7
  by_cases hv7 : v7 = 0
  · subst hv7
    have y0 := cellS HX.out 0
    have hdn : 0 ≤ (n1 : Int) - v1 ∧ (n1 : Int) - v1 ≤ 5 := by omega
    obtain ⟨hdn0, hdn1⟩ := hdn
    go_wp2_with fail
    with_reducible refine (pick_any2 ((n1 : Int) - v1) _ HR.out (by omega)).mono ?_
    rintro e w12 ⟨⟨v12, rfl, hp, hq⟩, hr12, hc12⟩
    have hv12 : 0 ≤ v12 ∧ v12 ≤ 5 := by
      by_cases hh : 1 ≤ (n1 : Int) - v1
      · have := hp hh; omega
      · have := hq (by omega); omega
    obtain ⟨hv12a, hv12b⟩ := hv12
    replace HX := Lib.hid ((hc12.block _ (ltS HX.out) (by simp; omega)).trans HX.out)
    replace HZ := Lib.hid ((hc12.block _ (ltS HZ.out) (by simp; omega)).trans HZ.out)
    replace HC := Lib.hid (HC.out.trans hc12)
    replace HR := Lib.hid hr12
    clear hr12 hc12 hp hq y0 hdn0 hdn1
    have x2 := cellS HX.out 2
    have f2 := frozenS HX.out 2
    replace HX := Lib.hid (put9g2 HX.out (.int .i64 (1 + v12)))
    replace HZ := Lib.hid ((Below.heap_setCell _ ⟨w6.heap.size, 2, none⟩ (.int .i64 (1 + v12)) w.heap.size (by simp; omega)).trans HZ.out)
    replace HR := Lib.hid (HR.out.setCell (p := ⟨w6.heap.size, 2, none⟩) (by simp; omega) (by simp; omega) (.int .i64 (1 + v12)))
    replace HC := Lib.hid (HC.out.setCell (p := ⟨w6.heap.size, 2, none⟩) (.inr (by simp; omega)) (.int .i64 (1 + v12)))
    go_upto_region 6 with (fail)
    refine wp_genGC (fun W => W.heap[w6.heap.size]? = some (.cells #[.int .i64 v1, .int .i64 v2, .int .i64 (1 + v12), .int .i64 1, .int .i64 z3, .int .i64 z4, .int .i64 z6, .int .i64 0, .int .i64 0] 34 (0, 0)) ∧ W.heap[w.heap.size]? = some (.cells #[.int .i64 0, .int .i64 0, .int .i64 0, .int .i64 0, .int .i64 0, .int .i64 0, .int .i64 0, .int .i64 0, .int .i64 0] 34 (0, 0)) ∧ Rd B rb A l c (m + 8) W ∧ Chg [rb] w W) ⟨HX.out, HZ.out, HR.out.mono (by omega), HC.out⟩ (fun W12 h9 => ?_)
    clear HX HZ HR HC x2 f2
    obtain ⟨hx, hz, hr, hc⟩ := h9
    have HX := Lib.hid hx
    have HZ := Lib.hid hz
    have HR := Lib.hid hr
    have HC := Lib.hid hc
    clear hx hz hr hc
    have y1 := cellS HX.out 1
    have hdn : 0 ≤ (n2 : Int) - v2 ∧ (n2 : Int) - v2 ≤ 5 := by omega
    obtain ⟨hdn0, hdn1⟩ := hdn
    go_wp2_with fail
    with_reducible refine (pick_any2 ((n2 : Int) - v2) _ HR.out (by omega)).mono ?_
    rintro e w13 ⟨⟨v13, rfl, hp, hq⟩, hr13, hc13⟩
    have hv13 : 0 ≤ v13 ∧ v13 ≤ 5 := by
      by_cases hh : 1 ≤ (n2 : Int) - v2
      · have := hp hh; omega
      · have := hq (by omega); omega
    obtain ⟨hv13a, hv13b⟩ := hv13
    replace HX := Lib.hid ((hc13.block _ (ltS HX.out) (by simp; omega)).trans HX.out)
    replace HZ := Lib.hid ((hc13.block _ (ltS HZ.out) (by simp; omega)).trans HZ.out)
    replace HC := Lib.hid (HC.out.trans hc13)
    replace HR := Lib.hid hr13
    clear hr13 hc13 hp hq y1 hdn0 hdn1
    have x3 := cellS HX.out 3
    have f3 := frozenS HX.out 3
    replace HX := Lib.hid (put9g3 HX.out (.int .i64 (1 + v13)))
    replace HZ := Lib.hid ((Below.heap_setCell _ ⟨w6.heap.size, 3, none⟩ (.int .i64 (1 + v13)) w.heap.size (by simp; omega)).trans HZ.out)
    replace HR := Lib.hid (HR.out.setCell (p := ⟨w6.heap.size, 3, none⟩) (by simp; omega) (by simp; omega) (.int .i64 (1 + v13)))
    replace HC := Lib.hid (HC.out.setCell (p := ⟨w6.heap.size, 3, none⟩) (.inr (by simp; omega)) (.int .i64 (1 + v13)))
    go_upto_region 7 with (fail)
    refine wp_genGC (fun W => W.heap[w6.heap.size]? = some (.cells #[.int .i64 v1, .int .i64 v2, .int .i64 (1 + v12), .int .i64 (1 + v13), .int .i64 z3, .int .i64 z4, .int .i64 z6, .int .i64 0, .int .i64 0] 34 (0, 0)) ∧ W.heap[w.heap.size]? = some (.cells #[.int .i64 0, .int .i64 0, .int .i64 0, .int .i64 0, .int .i64 0, .int .i64 0, .int .i64 0, .int .i64 0, .int .i64 0] 34 (0, 0)) ∧ Rd B rb A l c (m + 9) W ∧ Chg [rb] w W) ⟨HX.out, HZ.out, HR.out.mono (by omega), HC.out⟩ (fun W13 h9 => ?_)
    clear HX HZ HR HC x3 f3
    obtain ⟨hx, hz, hr, hc⟩ := h9
    have HX := Lib.hid hx
    have HZ := Lib.hid hz
    have HR := Lib.hid hr
    have HC := Lib.hid hc
    clear hx hz hr hc
    go_wp2_with fail
    with_reducible refine (pick_any 3 _ HR.out (by omega)).mono ?_
    rintro e w8 ⟨⟨v8, rfl, -⟩, hr8, hc8⟩
    replace HX := Lib.hid ((hc8.block _ (ltS HX.out) (by simp; omega)).trans HX.out)
    replace HZ := Lib.hid ((hc8.block _ (ltS HZ.out) (by simp; omega)).trans HZ.out)
    replace HC := Lib.hid (HC.out.trans hc8)
    replace HR := Lib.hid hr8
    clear hr8 hc8
    by_cases hv8 : v8 = 0
    · subst hv8
      go_wp2_with fail
      with_reducible refine (pick_any 4 _ HR.out (by omega)).mono ?_
      rintro e w10 ⟨⟨v10, rfl, -⟩, hr10, hc10⟩
      replace HX := Lib.hid ((hc10.block _ (ltS HX.out) (by simp; omega)).trans HX.out)
      replace HZ := Lib.hid ((hc10.block _ (ltS HZ.out) (by simp; omega)).trans HZ.out)
      replace HC := Lib.hid (HC.out.trans hc10)
      replace HR := Lib.hid hr10
      clear hr10 hc10
      have x7 := cellS HX.out 7
      have f7 := frozenS HX.out 7
      replace HX := Lib.hid (put9g7 HX.out (.int .i64 v10))
      replace HZ := Lib.hid ((Below.heap_setCell _ ⟨w6.heap.size, 7, none⟩ (.int .i64 v10) w.heap.size (by simp; omega)).trans HZ.out)
      replace HR := Lib.hid (HR.out.setCell (p := ⟨w6.heap.size, 7, none⟩) (by simp; omega) (by simp; omega) (.int .i64 v10))
      replace HC := Lib.hid (HC.out.setCell (p := ⟨w6.heap.size, 7, none⟩) (.inr (by simp; omega)) (.int .i64 v10))
      go_upto_region 9 with (fail)
      refine wp_genGC (fun W => W.heap[w6.heap.size]? = some (.cells #[.int .i64 v1, .int .i64 v2, .int .i64 (1 + v12), .int .i64 (1 + v13), .int .i64 z3, .int .i64 z4, .int .i64 z6, .int .i64 v10, .int .i64 0] 34 (0, 0)) ∧ W.heap[w.heap.size]? = some (.cells #[.int .i64 0, .int .i64 0, .int .i64 0, .int .i64 0, .int .i64 0, .int .i64 0, .int .i64 0, .int .i64 0, .int .i64 0] 34 (0, 0)) ∧ Rd B rb A l c (m + 12) W ∧ Chg [rb] w W) ⟨HX.out, HZ.out, HR.out.mono (by omega), HC.out⟩ (fun W10 h9 => ?_)
      clear HX HZ HR HC x7 f7
      obtain ⟨hx, hz, hr, hc⟩ := h9
      have HX := Lib.hid hx
      have HZ := Lib.hid hz
      have HR := Lib.hid hr
      have HC := Lib.hid hc
      clear hx hz hr hc
      go_wp2_with fail
      with_reducible refine (pick_any 4 _ HR.out (by omega)).mono ?_
      rintro e w11 ⟨⟨v11, rfl, -⟩, hr11, hc11⟩
      replace HX := Lib.hid ((hc11.block _ (ltS HX.out) (by simp; omega)).trans HX.out)
      replace HZ := Lib.hid ((hc11.block _ (ltS HZ.out) (by simp; omega)).trans HZ.out)
      replace HC := Lib.hid (HC.out.trans hc11)
      replace HR := Lib.hid hr11
      clear hr11 hc11
      have x8 := cellS HX.out 8
      have f8 := frozenS HX.out 8
      replace HX := Lib.hid (put9g8 HX.out (.int .i64 v11))
      replace HZ := Lib.hid ((Below.heap_setCell _ ⟨w6.heap.size, 8, none⟩ (.int .i64 v11) w.heap.size (by simp; omega)).trans HZ.out)
      replace HR := Lib.hid (HR.out.setCell (p := ⟨w6.heap.size, 8, none⟩) (by simp; omega) (by simp; omega) (.int .i64 v11))
      replace HC := Lib.hid (HC.out.setCell (p := ⟨w6.heap.size, 8, none⟩) (.inr (by simp; omega)) (.int .i64 v11))
      go_upto_region 10 with (fail)
      refine wp_genGC (fun W => W.heap[w6.heap.size]? = some (.cells #[.int .i64 v1, .int .i64 v2, .int .i64 (1 + v12), .int .i64 (1 + v13), .int .i64 z3, .int .i64 z4, .int .i64 z6, .int .i64 v10, .int .i64 v11] 34 (0, 0)) ∧ W.heap[w.heap.size]? = some (.cells #[.int .i64 0, .int .i64 0, .int .i64 0, .int .i64 0, .int .i64 0, .int .i64 0, .int .i64 0, .int .i64 0, .int .i64 0] 34 (0, 0)) ∧ Rd B rb A l c (m + 13) W ∧ Chg [rb] w W) ⟨HX.out, HZ.out, HR.out.mono (by omega), HC.out⟩ (fun W11 h9 => ?_)
      clear HX HZ HR HC x8 f8
      obtain ⟨hx, hz, hr, hc⟩ := h9
      have HX := Lib.hid hx
      have HZ := Lib.hid hz
      have HR := Lib.hid hr
      have HC := Lib.hid hc
      clear hx hz hr hc
      have y0 := cellS HX.out 0
      have y1 := cellS HX.out 1
      have y2 := cellS HX.out 2
      have y3 := cellS HX.out 3
      have y4 := cellS HX.out 4
      have y5 := cellS HX.out 5
      have y6 := cellS HX.out 6
      have y7 := cellS HX.out 7
      have y8 := cellS HX.out 8
      have u0 := cellS HZ.out 0
      have u1 := cellS HZ.out 1
      have u2 := cellS HZ.out 2
      have u3 := cellS HZ.out 3
      have u4 := cellS HZ.out 4
      have u5 := cellS HZ.out 5
      have u6 := cellS HZ.out 6
      have u7 := cellS HZ.out 7
      have u8 := cellS HZ.out 8
      have g0 := frozenS HZ.out 0
      have g1 := frozenS HZ.out 1
      have g2 := frozenS HZ.out 2
      have g3 := frozenS HZ.out 3
      have g4 := frozenS HZ.out 4
      have g5 := frozenS HZ.out 5
      have g6 := frozenS HZ.out 6
      have g7 := frozenS HZ.out 7
      have g8 := frozenS HZ.out 8
      have hzl := ltS HZ.out
      have E1 := Lib.hid (put9gc HZ.out (.int .i64 v1) (.int .i64 v2) (.int .i64 (1 + v12)) (.int .i64 (1 + v13)) (.int .i64 z3) (.int .i64 z4) (.int .i64 z6) (.int .i64 v10) (.int .i64 v11))
      go_wp2
      refine bp_genGC (fun W => W.heap[w.heap.size]? = some (.cells #[.int .i64 v1, .int .i64 v2, .int .i64 (1 + v12), .int .i64 (1 + v13), .int .i64 z3, .int .i64 z4, .int .i64 z6, .int .i64 v10, .int .i64 v11] 34 (0, 0)) ∧ Rd B rb A l c (m + 20) W ∧ Chg [rb] w W) ⟨E1.out, rd9g (HR.out.mono (by omega)) (by omega) (by omega) _ _ _ _ _ _ _ _ _, chg9g HC.out (Nat.le_refl _) _ _ _ _ _ _ _ _ _⟩ ?_
      clear HX HZ HR HC E1 y0 y1 y2 y3 y4 y5 y6 y7 y8 u0 u1 u2 u3 u4 u5 u6 u7 u8 g0 g1 g2 g3 g4 g5 g6 g7 g8
      rintro W ⟨hp, hrW, hcW⟩
      have q0 := cellS hp 0
      have q1 := cellS hp 1
      have q2 := cellS hp 2
      have q3 := cellS hp 3
      have q4 := cellS hp 4
      have q5 := cellS hp 5
      have q6 := cellS hp 6
      have q7 := cellS hp 7
      have q8 := cellS hp 8
      exact bodyPost_ret (v := .agg #[.int .i64 v1, .int .i64 v2, .int .i64 (1 + v12), .int .i64 (1 + v13), .int .i64 z3, .int .i64 z4, .int .i64 z6, .int .i64 v10, .int .i64 v11]) (by simp only [results, Tryz.results101]; go_simp) rfl ⟨⟨⟨v1, v2, 1 + v12, 1 + v13, z3, z4, z6, v10, v11⟩, rfl⟩, hrW, hcW⟩
    · have e8 : (v8 == 0) = false := by simpa using hv8
      have y0 := cellS HX.out 0
      have y1 := cellS HX.out 1
      have y2 := cellS HX.out 2
      have y3 := cellS HX.out 3
      have y4 := cellS HX.out 4
      have y5 := cellS HX.out 5
      have y6 := cellS HX.out 6
      have y7 := cellS HX.out 7
      have y8 := cellS HX.out 8
      have u0 := cellS HZ.out 0
      have u1 := cellS HZ.out 1
      have u2 := cellS HZ.out 2
      have u3 := cellS HZ.out 3
      have u4 := cellS HZ.out 4
      have u5 := cellS HZ.out 5
      have u6 := cellS HZ.out 6
      have u7 := cellS HZ.out 7
      have u8 := cellS HZ.out 8
      have g0 := frozenS HZ.out 0
      have g1 := frozenS HZ.out 1
      have g2 := frozenS HZ.out 2
      have g3 := frozenS HZ.out 3
      have g4 := frozenS HZ.out 4
      have g5 := frozenS HZ.out 5
      have g6 := frozenS HZ.out 6
      have g7 := frozenS HZ.out 7
      have g8 := frozenS HZ.out 8
      have hzl := ltS HZ.out
      have E1 := Lib.hid (put9gc HZ.out (.int .i64 v1) (.int .i64 v2) (.int .i64 (1 + v12)) (.int .i64 (1 + v13)) (.int .i64 z3) (.int .i64 z4) (.int .i64 z6) (.int .i64 0) (.int .i64 0))
      go_wp2
      refine bp_genGC (fun W => W.heap[w.heap.size]? = some (.cells #[.int .i64 v1, .int .i64 v2, .int .i64 (1 + v12), .int .i64 (1 + v13), .int .i64 z3, .int .i64 z4, .int .i64 z6, .int .i64 0, .int .i64 0] 34 (0, 0)) ∧ Rd B rb A l c (m + 20) W ∧ Chg [rb] w W) ⟨E1.out, rd9g (HR.out.mono (by omega)) (by omega) (by omega) _ _ _ _ _ _ _ _ _, chg9g HC.out (Nat.le_refl _) _ _ _ _ _ _ _ _ _⟩ ?_
      clear HX HZ HR HC E1 y0 y1 y2 y3 y4 y5 y6 y7 y8 u0 u1 u2 u3 u4 u5 u6 u7 u8 g0 g1 g2 g3 g4 g5 g6 g7 g8
      rintro W ⟨hp, hrW, hcW⟩
      have q0 := cellS hp 0
      have q1 := cellS hp 1
      have q2 := cellS hp 2
      have q3 := cellS hp 3
      have q4 := cellS hp 4
      have q5 := cellS hp 5
      have q6 := cellS hp 6
      have q7 := cellS hp 7
      have q8 := cellS hp 8
      exact bodyPost_ret (v := .agg #[.int .i64 v1, .int .i64 v2, .int .i64 (1 + v12), .int .i64 (1 + v13), .int .i64 z3, .int .i64 z4, .int .i64 z6, .int .i64 0, .int .i64 0]) (by simp only [results, Tryz.results101]; go_simp) rfl ⟨⟨⟨v1, v2, 1 + v12, 1 + v13, z3, z4, z6, 0, 0⟩, rfl⟩, hrW, hcW⟩
  · have e7 : (v7 == 0) = false := by simpa using hv7
    go_wp2_with fail
    with_reducible refine (pick_any 3 _ HR.out (by omega)).mono ?_
    rintro e w8 ⟨⟨v8, rfl, -⟩, hr8, hc8⟩
    replace HX := Lib.hid ((hc8.block _ (ltS HX.out) (by simp; omega)).trans HX.out)
    replace HZ := Lib.hid ((hc8.block _ (ltS HZ.out) (by simp; omega)).trans HZ.out)
    replace HC := Lib.hid (HC.out.trans hc8)
    replace HR := Lib.hid hr8
    clear hr8 hc8
    by_cases hv8 : v8 = 0
    · subst hv8
      go_wp2_with fail
      with_reducible refine (pick_any 4 _ HR.out (by omega)).mono ?_
      rintro e w10 ⟨⟨v10, rfl, -⟩, hr10, hc10⟩
      replace HX := Lib.hid ((hc10.block _ (ltS HX.out) (by simp; omega)).trans HX.out)
      replace HZ := Lib.hid ((hc10.block _ (ltS HZ.out) (by simp; omega)).trans HZ.out)
      replace HC := Lib.hid (HC.out.trans hc10)
      replace HR := Lib.hid hr10
      clear hr10 hc10
      have x7 := cellS HX.out 7
      have f7 := frozenS HX.out 7
      replace HX := Lib.hid (put9g7 HX.out (.int .i64 v10))
      replace HZ := Lib.hid ((Below.heap_setCell _ ⟨w6.heap.size, 7, none⟩ (.int .i64 v10) w.heap.size (by simp; omega)).trans HZ.out)
      replace HR := Lib.hid (HR.out.setCell (p := ⟨w6.heap.size, 7, none⟩) (by simp; omega) (by simp; omega) (.int .i64 v10))
      replace HC := Lib.hid (HC.out.setCell (p := ⟨w6.heap.size, 7, none⟩) (.inr (by simp; omega)) (.int .i64 v10))
      go_upto_region 9 with (fail)
      refine wp_genGC (fun W => W.heap[w6.heap.size]? = some (.cells #[.int .i64 v1, .int .i64 v2, .int .i64 1, .int .i64 1, .int .i64 z3, .int .i64 z4, .int .i64 z6, .int .i64 v10, .int .i64 0] 34 (0, 0)) ∧ W.heap[w.heap.size]? = some (.cells #[.int .i64 0, .int .i64 0, .int .i64 0, .int .i64 0, .int .i64 0, .int .i64 0, .int .i64 0, .int .i64 0, .int .i64 0] 34 (0, 0)) ∧ Rd B rb A l c (m + 10) W ∧ Chg [rb] w W) ⟨HX.out, HZ.out, HR.out.mono (by omega), HC.out⟩ (fun W10 h9 => ?_)
      clear HX HZ HR HC x7 f7
      obtain ⟨hx, hz, hr, hc⟩ := h9
      have HX := Lib.hid hx
      have HZ := Lib.hid hz
      have HR := Lib.hid hr
      have HC := Lib.hid hc
      clear hx hz hr hc
      go_wp2_with fail
      with_reducible refine (pick_any 4 _ HR.out (by omega)).mono ?_
      rintro e w11 ⟨⟨v11, rfl, -⟩, hr11, hc11⟩
      replace HX := Lib.hid ((hc11.block _ (ltS HX.out) (by simp; omega)).trans HX.out)
      replace HZ := Lib.hid ((hc11.block _ (ltS HZ.out) (by simp; omega)).trans HZ.out)
      replace HC := Lib.hid (HC.out.trans hc11)
      replace HR := Lib.hid hr11
      clear hr11 hc11
      have x8 := cellS HX.out 8
      have f8 := frozenS HX.out 8
      replace HX := Lib.hid (put9g8 HX.out (.int .i64 v11))
      replace HZ := Lib.hid ((Below.heap_setCell _ ⟨w6.heap.size, 8, none⟩ (.int .i64 v11) w.heap.size (by simp; omega)).trans HZ.out)
      replace HR := Lib.hid (HR.out.setCell (p := ⟨w6.heap.size, 8, none⟩) (by simp; omega) (by simp; omega) (.int .i64 v11))
      replace HC := Lib.hid (HC.out.setCell (p := ⟨w6.heap.size, 8, none⟩) (.inr (by simp; omega)) (.int .i64 v11))
      go_upto_region 10 with (fail)
      refine wp_genGC (fun W => W.heap[w6.heap.size]? = some (.cells #[.int .i64 v1, .int .i64 v2, .int .i64 1, .int .i64 1, .int .i64 z3, .int .i64 z4, .int .i64 z6, .int .i64 v10, .int .i64 v11] 34 (0, 0)) ∧ W.heap[w.heap.size]? = some (.cells #[.int .i64 0, .int .i64 0, .int .i64 0, .int .i64 0, .int .i64 0, .int .i64 0, .int .i64 0, .int .i64 0, .int .i64 0] 34 (0, 0)) ∧ Rd B rb A l c (m + 11) W ∧ Chg [rb] w W) ⟨HX.out, HZ.out, HR.out.mono (by omega), HC.out⟩ (fun W11 h9 => ?_)
      clear HX HZ HR HC x8 f8
      obtain ⟨hx, hz, hr, hc⟩ := h9
      have HX := Lib.hid hx
      have HZ := Lib.hid hz
      have HR := Lib.hid hr
      have HC := Lib.hid hc
      clear hx hz hr hc
      have y0 := cellS HX.out 0
      have y1 := cellS HX.out 1
      have y2 := cellS HX.out 2
      have y3 := cellS HX.out 3
      have y4 := cellS HX.out 4
      have y5 := cellS HX.out 5
      have y6 := cellS HX.out 6
      have y7 := cellS HX.out 7
      have y8 := cellS HX.out 8
      have u0 := cellS HZ.out 0
      have u1 := cellS HZ.out 1
      have u2 := cellS HZ.out 2
      have u3 := cellS HZ.out 3
      have u4 := cellS HZ.out 4
      have u5 := cellS HZ.out 5
      have u6 := cellS HZ.out 6
      have u7 := cellS HZ.out 7
      have u8 := cellS HZ.out 8
      have g0 := frozenS HZ.out 0
      have g1 := frozenS HZ.out 1
      have g2 := frozenS HZ.out 2
      have g3 := frozenS HZ.out 3
      have g4 := frozenS HZ.out 4
      have g5 := frozenS HZ.out 5
      have g6 := frozenS HZ.out 6
      have g7 := frozenS HZ.out 7
      have g8 := frozenS HZ.out 8
      have hzl := ltS HZ.out
      have E1 := Lib.hid (put9gc HZ.out (.int .i64 v1) (.int .i64 v2) (.int .i64 1) (.int .i64 1) (.int .i64 z3) (.int .i64 z4) (.int .i64 z6) (.int .i64 v10) (.int .i64 v11))
      go_wp2
      refine bp_genGC (fun W => W.heap[w.heap.size]? = some (.cells #[.int .i64 v1, .int .i64 v2, .int .i64 1, .int .i64 1, .int .i64 z3, .int .i64 z4, .int .i64 z6, .int .i64 v10, .int .i64 v11] 34 (0, 0)) ∧ Rd B rb A l c (m + 20) W ∧ Chg [rb] w W) ⟨E1.out, rd9g (HR.out.mono (by omega)) (by omega) (by omega) _ _ _ _ _ _ _ _ _, chg9g HC.out (Nat.le_refl _) _ _ _ _ _ _ _ _ _⟩ ?_
      clear HX HZ HR HC E1 y0 y1 y2 y3 y4 y5 y6 y7 y8 u0 u1 u2 u3 u4 u5 u6 u7 u8 g0 g1 g2 g3 g4 g5 g6 g7 g8
      rintro W ⟨hp, hrW, hcW⟩
      have q0 := cellS hp 0
      have q1 := cellS hp 1
      have q2 := cellS hp 2
      have q3 := cellS hp 3
      have q4 := cellS hp 4
      have q5 := cellS hp 5
      have q6 := cellS hp 6
      have q7 := cellS hp 7
      have q8 := cellS hp 8
      exact bodyPost_ret (v := .agg #[.int .i64 v1, .int .i64 v2, .int .i64 1, .int .i64 1, .int .i64 z3, .int .i64 z4, .int .i64 z6, .int .i64 v10, .int .i64 v11]) (by simp only [results, Tryz.results101]; go_simp) rfl ⟨⟨⟨v1, v2, 1, 1, z3, z4, z6, v10, v11⟩, rfl⟩, hrW, hcW⟩
    · have e8 : (v8 == 0) = false := by simpa using hv8
      have y0 := cellS HX.out 0
      have y1 := cellS HX.out 1
      have y2 := cellS HX.out 2
      have y3 := cellS HX.out 3
      have y4 := cellS HX.out 4
      have y5 := cellS HX.out 5
      have y6 := cellS HX.out 6
      have y7 := cellS HX.out 7
      have y8 := cellS HX.out 8
      have u0 := cellS HZ.out 0
      have u1 := cellS HZ.out 1
      have u2 := cellS HZ.out 2
      have u3 := cellS HZ.out 3
      have u4 := cellS HZ.out 4
      have u5 := cellS HZ.out 5
      have u6 := cellS HZ.out 6
      have u7 := cellS HZ.out 7
      have u8 := cellS HZ.out 8
      have g0 := frozenS HZ.out 0
      have g1 := frozenS HZ.out 1
      have g2 := frozenS HZ.out 2
      have g3 := frozenS HZ.out 3
      have g4 := frozenS HZ.out 4
      have g5 := frozenS HZ.out 5
      have g6 := frozenS HZ.out 6
      have g7 := frozenS HZ.out 7
      have g8 := frozenS HZ.out 8
      have hzl := ltS HZ.out
      have E1 := Lib.hid (put9gc HZ.out (.int .i64 v1) (.int .i64 v2) (.int .i64 1) (.int .i64 1) (.int .i64 z3) (.int .i64 z4) (.int .i64 z6) (.int .i64 0) (.int .i64 0))
      go_wp2
      refine bp_genGC (fun W => W.heap[w.heap.size]? = some (.cells #[.int .i64 v1, .int .i64 v2, .int .i64 1, .int .i64 1, .int .i64 z3, .int .i64 z4, .int .i64 z6, .int .i64 0, .int .i64 0] 34 (0, 0)) ∧ Rd B rb A l c (m + 20) W ∧ Chg [rb] w W) ⟨E1.out, rd9g (HR.out.mono (by omega)) (by omega) (by omega) _ _ _ _ _ _ _ _ _, chg9g HC.out (Nat.le_refl _) _ _ _ _ _ _ _ _ _⟩ ?_
      clear HX HZ HR HC E1 y0 y1 y2 y3 y4 y5 y6 y7 y8 u0 u1 u2 u3 u4 u5 u6 u7 u8 g0 g1 g2 g3 g4 g5 g6 g7 g8
      rintro W ⟨hp, hrW, hcW⟩
      have q0 := cellS hp 0
      have q1 := cellS hp 1
      have q2 := cellS hp 2
      have q3 := cellS hp 3
      have q4 := cellS hp 4
      have q5 := cellS hp 5
      have q6 := cellS hp 6
      have q7 := cellS hp 7
      have q8 := cellS hp 8
      exact bodyPost_ret (v := .agg #[.int .i64 v1, .int .i64 v2, .int .i64 1, .int .i64 1, .int .i64 z3, .int .i64 z4, .int .i64 z6, .int .i64 0, .int .i64 0]) (by simp only [results, Tryz.results101]; go_simp) rfl ⟨⟨⟨v1, v2, 1, 1, z3, z4, z6, 0, 0⟩, rfl⟩, hrW, hcW⟩
end Go.Proofs.YtgdkionmeacalabGreat
end
