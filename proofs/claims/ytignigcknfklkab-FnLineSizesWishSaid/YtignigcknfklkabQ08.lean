import Derived.Test.YtignigcknfklkabQ07
section
namespace Go.Proofs.Ytignigcknfklkab
open Go.RowKit
set_option linter.unusedVariables false
set_option maxHeartbeats 1000000
attribute [local go_sem] growUpon_value growUpon_skip growUpon_enter
theorem pick_any2 {B rb : Nat} {A : Option Addr} {l c m : Nat} (n : Int) (w : World) (h : Rd B rb A l c m w) (hm : m ≤ 1000000) :
    Calls Try.prog 35 #[.pointer (some ⟨rb, 0, none⟩), .int .i64 n] w fun e w' => (∃ v, e = .returned (.int .i64 v) ∧ (1 ≤ n → 0 ≤ v ∧ v < n) ∧ (n < 1 → v = 0)) ∧ Rd B rb A l c (m + 1) w' ∧ Chg [rb] w w' := by
  by_cases hn : 1 ≤ n
  · exact (pick_any n w h hm).mono fun e w' ⟨⟨v, he, h3⟩, h1, h2⟩ => ⟨⟨v, he, h3, fun h => by omega⟩, h1, h2⟩
  · exact (pick_lo n w h hm (by omega)).mono fun e w' ⟨he, h1, h2⟩ => ⟨⟨0, he, fun h => absurd h hn, fun _ => rfl⟩, h1, h2⟩
def lnvals : List Ln → List Value
  | [] => []
  | r :: t => valsLn r ++ lnvals t
theorem lnvals_append (A B : List Ln) : lnvals (A ++ B) = lnvals A ++ lnvals B := by
  induction A with
  | nil => rfl
  | cons r t ih => simp [lnvals, ih]
theorem lnvals_snoc (L : List Ln) (r : Ln) : lnvals L ++ valsLn r = lnvals (L ++ [r]) := by rw [lnvals_append]; simp [lnvals]
theorem lnvals_get : ∀ {M : List Ln} {i : Nat} {r : Ln}, M[i]? = some r → ∀ j, j < 2 → (lnvals M)[i * 2 + j]? = (valsLn r)[j]?
  | [], i, r, h, _, _ => by simp at h
  | q :: t, 0, r, h, j, hj => by
    simp at h; subst h
    show (valsLn q ++ lnvals t)[0 * 2 + j]? = _
    rw [List.getElem?_append_left (by simp [valsLn]; omega)]; simp
  | q :: t, i + 1, r, h, j, hj => by
    show (valsLn q ++ lnvals t)[(i + 1) * 2 + j]? = _
    rw [List.getElem?_append_right (by simp [valsLn]; omega)]
    have := lnvals_get (M := t) (i := i) (r := r) (by simpa using h) j hj
    rw [← this]; congr 1; simp [valsLn]; omega
theorem ln_infoG : ∃ (i : TypeInfo) (z : Value), Try.prog.info? 34 = some i ∧ i.zero = some z ∧ i.size = 2 ∧ i.bytes = 16 ∧ z.cells.size = 2 := by
  have hinfo : (Try.prog.info? 34).map (fun i => (i.zero, i.size, i.bytes)) = some (some (.agg #[.int .i64 0, .int .i64 0]), 2, 16) := by kernel_rfl
  obtain ⟨i, hi, h1, h2, h3⟩ := info_parts hinfo
  exact ⟨i, _, hi, h1, h2, h3, rfl⟩
theorem ln_newG (W : World) (r : Ln) (T : TypeId) : ∀ (j : Nat) (u : Value), (valsLn r)[j]? = some u → (W.alloc (.cells #[.int .i64 r.wt, .int .i64 r.mi] T)).cell? ((⟨W.heap.size, 0, none⟩ : Addr).add j) = some u := fun j u h => by
  have hadd : (⟨W.heap.size, 0, none⟩ : Addr).add j = ⟨W.heap.size, j, none⟩ := by unfold Addr.add; split <;> simp_all
  rw [hadd]
  exact (cellS (newS W _) j).trans (by simpa [valsLn] using h)
theorem valsLn_oneG (r : Ln) : ∀ u ∈ valsLn r, u.oneCell' = true := by intro u hu; simp [valsLn] at hu; rcases hu with rfl | rfl <;> rfl
theorem ln_inG {w : World} {base n : Nat} {v : Value} {M : List Ln} {T : TypeId} (h : w.ownsRow base T 2 v n (lnvals M)) (hn : n = M.length) :
    (v = .slice none 0 0 ∧ M = []) ∨ ∃ g cap, ∃ cs : Array Value, v = .slice (some ⟨g, 0, none⟩) n cap ∧ base ≤ g ∧ n ≤ cap ∧ w.heap[g]? = some (.cells cs T (0, 0)) ∧ cs.size = cap * 2 ∧ ∀ (i : Nat) (x : Ln), M[i]? = some x → InS cs (i * 2) (valsLn x) := by
  rcases h.2 with ⟨rfl, h0⟩ | ⟨g, cap, cur, rfl, hb, hg, hc, _, hs, ht⟩
  · exact .inl ⟨rfl, List.length_eq_zero_iff.1 (by omega)⟩
  · refine .inr ⟨g, cap, cur, rfl, hb, hc, hg, hs, fun i r hr j u hu => ?_⟩
    have hj : j < 2 := by have := (List.getElem?_eq_some_iff.1 hu).1; simpa [valsLn] using this
    have e := (lnvals_get hr j hj).trans hu
    rw [← ht, List.getElem?_take] at e
    have : i < M.length := (List.getElem?_eq_some_iff.1 hr).1
    rw [if_pos (by omega)] at e
    simpa using e
theorem LnV.inG {w : World} {g : Nat} {cs : Array Value} {T : TypeId} {M : List Ln} (hh : w.heap[g]? = some (.cells cs T (0, 0))) (hc : ∀ (i : Nat) (x : Ln), M[i]? = some x → InS cs (i * 2) (valsLn x)) : LnV w (some ⟨g, 0, none⟩) M :=
  ⟨fun _ => ⟨g, 0, rfl, ltS hh, fun i r hr => by
    have e : ∀ j u, (valsLn r)[j]? = some u → w.cell? ⟨g, 0 + i * 2 + j, none⟩ = some u := fun j u hu => by rw [Nat.zero_add]; exact (cellS hh _).trans (hc i r hr j u hu)
    exact ⟨e 0 _ rfl, e 1 _ rfl⟩⟩⟩
theorem LnV.chgG {w w' : World} {A : Option Addr} {L : List Ln} {rb : Nat} (h : LnV w A L) (hc : Chg [rb] w w') (hne : ∀ a, A = some a → a.block ≠ rb) : LnV w' A L :=
  ⟨fun h0 => let ⟨b, off, e, hl, hp⟩ := h.cells h0; ⟨b, off, e, Nat.lt_of_lt_of_le hl hc.size, fun i x hx => by
    have k : ∀ j, w'.cell? ⟨b, j, none⟩ = w.cell? ⟨b, j, none⟩ := fun j => hc.cell (p := ⟨b, j, none⟩) hl (by simp; exact hne _ e)
    have := hp i x hx
    exact ⟨(k _).trans this.1, (k _).trans this.2⟩⟩⟩
/-- a list that was drawn, in memory from a block on -/
def LnO (base : Nat) (w : World) (v : Value) (L : List Ln) : Prop := ∃ A c, v = .slice A L.length c ∧ L.length ≤ c ∧ LnV w A L ∧ ∀ a : Addr, A = some a → base ≤ a.block
theorem LnO.chg {base rb : Nat} {w w' : World} {v : Value} {L : List Ln} (h : LnO base w v L) (hc : Chg [rb] w w') (hr : rb < base) : LnO base w' v L := by
  obtain ⟨A, c, e, h1, h2, h3⟩ := h
  exact ⟨A, c, e, h1, h2.chgG hc (fun a ha => by have := h3 a ha; omega), h3⟩
theorem LnO.of {base : Nat} {w : World} {v : Value} {L : List Ln} {T : TypeId} (h : w.ownsRow base T 2 v L.length (lnvals L)) : LnO base w v L := by
  rcases ln_inG h rfl with ⟨rfl, rfl⟩ | ⟨g, cap, cs, rfl, hg, hc, hh, hs, hin⟩
  · exact ⟨none, 0, rfl, Nat.le_refl _, LnV.nil _ _, fun a e => by cases e⟩
  · exact ⟨_, cap, rfl, hc, LnV.inG hh hin, fun a e => by cases e; exact hg⟩
def spvals : List Sp → List Value
  | [] => []
  | r :: t => valsSp r ++ spvals t
theorem spvals_append (A B : List Sp) : spvals (A ++ B) = spvals A ++ spvals B := by
  induction A with
  | nil => rfl
  | cons r t ih => simp [spvals, ih]
theorem spvals_snoc (L : List Sp) (r : Sp) : spvals L ++ valsSp r = spvals (L ++ [r]) := by rw [spvals_append]; simp [spvals]
theorem spvals_get : ∀ {M : List Sp} {i : Nat} {r : Sp}, M[i]? = some r → ∀ j, j < 3 → (spvals M)[i * 3 + j]? = (valsSp r)[j]?
  | [], i, r, h, _, _ => by simp at h
  | q :: t, 0, r, h, j, hj => by
    simp at h; subst h
    show (valsSp q ++ spvals t)[0 * 3 + j]? = _
    rw [List.getElem?_append_left (by simp [valsSp]; omega)]; simp
  | q :: t, i + 1, r, h, j, hj => by
    show (valsSp q ++ spvals t)[(i + 1) * 3 + j]? = _
    rw [List.getElem?_append_right (by simp [valsSp]; omega)]
    have := spvals_get (M := t) (i := i) (r := r) (by simpa using h) j hj
    rw [← this]; congr 1; simp [valsSp]; omega
theorem sp_infoG : ∃ (i : TypeInfo) (z : Value), Try.prog.info? 32 = some i ∧ i.zero = some z ∧ i.size = 3 ∧ i.bytes = 24 ∧ z.cells.size = 3 := by
  have hinfo : (Try.prog.info? 32).map (fun i => (i.zero, i.size, i.bytes)) = some (some (.agg #[.int .i64 0, .int .i64 0, .int .i64 0]), 3, 24) := by kernel_rfl
  obtain ⟨i, hi, h1, h2, h3⟩ := info_parts hinfo
  exact ⟨i, _, hi, h1, h2, h3, rfl⟩
theorem sp_newG (W : World) (r : Sp) (T : TypeId) : ∀ (j : Nat) (u : Value), (valsSp r)[j]? = some u → (W.alloc (.cells #[.int .i64 r.sa, .int .i64 r.many, .int .i64 r.need] T)).cell? ((⟨W.heap.size, 0, none⟩ : Addr).add j) = some u := fun j u h => by
  have hadd : (⟨W.heap.size, 0, none⟩ : Addr).add j = ⟨W.heap.size, j, none⟩ := by unfold Addr.add; split <;> simp_all
  rw [hadd]
  exact (cellS (newS W _) j).trans (by simpa [valsSp] using h)
theorem valsSp_oneG (r : Sp) : ∀ u ∈ valsSp r, u.oneCell' = true := by intro u hu; simp [valsSp] at hu; rcases hu with rfl | rfl | rfl <;> rfl
theorem sp_inG {w : World} {base n : Nat} {v : Value} {M : List Sp} {T : TypeId} (h : w.ownsRow base T 3 v n (spvals M)) (hn : n = M.length) :
    (v = .slice none 0 0 ∧ M = []) ∨ ∃ g cap, ∃ cs : Array Value, v = .slice (some ⟨g, 0, none⟩) n cap ∧ base ≤ g ∧ n ≤ cap ∧ w.heap[g]? = some (.cells cs T (0, 0)) ∧ cs.size = cap * 3 ∧ ∀ (i : Nat) (x : Sp), M[i]? = some x → InS cs (i * 3) (valsSp x) := by
  rcases h.2 with ⟨rfl, h0⟩ | ⟨g, cap, cur, rfl, hb, hg, hc, _, hs, ht⟩
  · exact .inl ⟨rfl, List.length_eq_zero_iff.1 (by omega)⟩
  · refine .inr ⟨g, cap, cur, rfl, hb, hc, hg, hs, fun i r hr j u hu => ?_⟩
    have hj : j < 3 := by have := (List.getElem?_eq_some_iff.1 hu).1; simpa [valsSp] using this
    have e := (spvals_get hr j hj).trans hu
    rw [← ht, List.getElem?_take] at e
    have : i < M.length := (List.getElem?_eq_some_iff.1 hr).1
    rw [if_pos (by omega)] at e
    simpa using e
theorem SpV.inG {w : World} {g : Nat} {cs : Array Value} {T : TypeId} {M : List Sp} (hh : w.heap[g]? = some (.cells cs T (0, 0))) (hc : ∀ (i : Nat) (x : Sp), M[i]? = some x → InS cs (i * 3) (valsSp x)) : SpV w (some ⟨g, 0, none⟩) M :=
  ⟨fun _ => ⟨g, 0, rfl, ltS hh, fun i r hr => by
    have e : ∀ j u, (valsSp r)[j]? = some u → w.cell? ⟨g, 0 + i * 3 + j, none⟩ = some u := fun j u hu => by rw [Nat.zero_add]; exact (cellS hh _).trans (hc i r hr j u hu)
    exact ⟨e 0 _ rfl, e 1 _ rfl, e 2 _ rfl⟩⟩⟩
theorem SpV.chgG {w w' : World} {A : Option Addr} {L : List Sp} {rb : Nat} (h : SpV w A L) (hc : Chg [rb] w w') (hne : ∀ a, A = some a → a.block ≠ rb) : SpV w' A L :=
  ⟨fun h0 => let ⟨b, off, e, hl, hp⟩ := h.cells h0; ⟨b, off, e, Nat.lt_of_lt_of_le hl hc.size, fun i x hx => by
    have k : ∀ j, w'.cell? ⟨b, j, none⟩ = w.cell? ⟨b, j, none⟩ := fun j => hc.cell (p := ⟨b, j, none⟩) hl (by simp; exact hne _ e)
    have := hp i x hx
    exact ⟨(k _).trans this.1, (k _).trans this.2.1, (k _).trans this.2.2⟩⟩⟩
/-- a list that was drawn, in memory from a block on -/
def SpO (base : Nat) (w : World) (v : Value) (L : List Sp) : Prop := ∃ A c, v = .slice A L.length c ∧ L.length ≤ c ∧ SpV w A L ∧ ∀ a : Addr, A = some a → base ≤ a.block
theorem SpO.chg {base rb : Nat} {w w' : World} {v : Value} {L : List Sp} (h : SpO base w v L) (hc : Chg [rb] w w') (hr : rb < base) : SpO base w' v L := by
  obtain ⟨A, c, e, h1, h2, h3⟩ := h
  exact ⟨A, c, e, h1, h2.chgG hc (fun a ha => by have := h3 a ha; omega), h3⟩
theorem SpO.of {base : Nat} {w : World} {v : Value} {L : List Sp} {T : TypeId} (h : w.ownsRow base T 3 v L.length (spvals L)) : SpO base w v L := by
  rcases sp_inG h rfl with ⟨rfl, rfl⟩ | ⟨g, cap, cs, rfl, hg, hc, hh, hs, hin⟩
  · exact ⟨none, 0, rfl, Nat.le_refl _, SpV.nil _ _, fun a e => by cases e⟩
  · exact ⟨_, cap, rfl, hc, SpV.inG hh hin, fun a e => by cases e; exact hg⟩
set_option maxRecDepth 100000 in
theorem goodLines_any {B rb : Nat} {A : Option Addr} {l c m : Nat} (w : World) (h : Rd B rb A l c m w) (hm : m ≤ 700000) :
    Calls Try.prog 50 #[.pointer (some ⟨rb, 0, none⟩)] w fun e w' => (∃ v, ∃ L : List Ln, e = .returned v ∧ w'.ownsRow w.heap.size 34 2 v L.length (lnvals L) ∧ 1 ≤ L.length ∧ L.length ≤ 5) ∧ Rd B rb A l c (m + 20) w' ∧ Chg [rb] w w' := by
  obtain ⟨ti, tz, ti1, ti2, ti3, ti4, ti5⟩ := ln_infoG
  go_enter Try.func50, Try.ntmps50
  go_wp2_with fail
  have hlt := h.lt
  obtain ⟨W0, hW0⟩ : ∃ W0, w.alloc (.cells #[] 34 (0, 0)) = W0 := ⟨_, rfl⟩
  have hs0 : w.heap.size + 1 = W0.heap.size := by rw [← hW0]; simp
  have hr0 : Rd B rb A l c m W0 := by rw [← hW0]; exact h.alloc _
  have ho0 : W0.ownsRow w.heap.size 34 2 (.slice (some ⟨w.heap.size, 0, none⟩) 0 0) 0 [] := by rw [← hW0]; exact World.ownsRow_lit (base := w.heap.size) (e := 34) (size := 2) w #[] 0 (Nat.le_refl _) (by decide) rfl
  have hc0 : Chg [rb] w W0 := by rw [← hW0]; exact (Chg.refl [rb] w).alloc _
  rw [hW0, hs0]
  clear hW0
  with_reducible refine (one_lit_in 1 5 W0 hr0 (by omega) (by simp) (by omega) (by omega) (by simp [isIn])).mono ?_
  rintro e w1 ⟨⟨z, rfl, z0, z1⟩, hr1, hc1⟩
  obtain ⟨n, rfl⟩ := Int.eq_ofNat_of_zero_le (show 0 ≤ z by omega)
  have ho1 := own_chgN ho0 hc1 hlt
  have HO1 := Lib.hid ho1
  have HR1 := Lib.hid hr1
  have HC1 := Lib.hid (hc0.trans hc1)
  clear ho1 hr1 hc1 ho0 hr0 hc0
  go_wp2_with fail
  go_loopw [3, 4] (fun out i wr => ∃ k : Nat, i = .int .i64 k ∧ ∃ L : List Ln, k + L.length = n ∧ wr.ownsRow w.heap.size 34 2 out L.length (lnvals L) ∧ Rd B rb A l c (m + 1 + 2 * L.length) wr ∧ Chg [rb] w wr) (fun _ i _ => (intOf i).toNat)
  case atStart => exact ⟨n, rfl, [], by simp, HO1.out, HR1.out, HC1.out⟩
  case round =>
    obtain ⟨k, rfl, L, hk, ho, hr, hc⟩ := hrel
    clear HO1 HR1 HC1
    rcases k with _ | k
    · have hd : decide (((0 : Nat) : Int) > 0) = false := by simp
      have HO := Lib.hid ho
      have HR := Lib.hid hr
      have HC := Lib.hid hc
      clear ho hr hc
      go_wp2
      go_ret
      exact ⟨⟨_, L, rfl, HO.out, by omega, by omega⟩, HR.out.mono (by omega), HC.out⟩
    · have hd : decide (((k + 1 : Nat) : Int) > 0) = true := by simp
      have hlt0 := h.lt
      go_wp2_with fail
      with_reducible refine (one_lit_in 0 5 _ hr (by omega) (by simp) (by omega) (by omega) (by simp [isIn])).mono ?_
      rintro e w2 ⟨⟨y1, rfl, y1a, y1b⟩, hr2, hc2⟩
      have ho2 := own_chgN ho hc2 hlt0
      have HO := Lib.hid ho2
      have HC := Lib.hid (hc.trans hc2)
      clear ho hr hc hc2 ho2
      go_wp2_with fail
      with_reducible refine (one_lit_in 0 10 _ hr2 (by omega) (by simp) (by omega) (by omega) (by simp [isIn])).mono ?_
      rintro e w3 ⟨⟨y2, rfl, y2a, y2b⟩, hr3, hc3⟩
      have ho3 := own_chgN HO.out hc3 hlt0
      have hw3 : w.heap.size ≤ w3.heap.size := Nat.le_trans HC.out.size hc3.size
      have hob := ho3.lt
      have HR := Lib.hid hr3
      replace HC := Lib.hid (HC.out.trans hc3)
      replace HO := Lib.hid ho3
      clear hr2 hr3 hc3 ho3
      go_wp2_with (at_builtin; refine wpList_append_own _ rfl _ _ 23 rfl w.heap.size 34 ti tz 2 16 Try.underlying23 ti1 ti2 ti3 ti4 ti5 (by decide) _ _ _ rfl (HO.out.alloc _) ⟨w3.heap.size, 0, none⟩ 1 1 (valsLn ⟨y1, y2⟩) rfl rfl (ln_newG _ ⟨y1, y2⟩ _) (valsLn_oneG _) (by simp only [maxLen]; omega) (by omega) (by simp; omega) ?_)
      intro v5 w5 how5 hgr5 _
      rw [lnvals_snoc] at how5
      replace HC := Lib.hid (chg_grownN HC.out hgr5 hob (Nat.le_refl _))
      replace HR := Lib.hid (rd_grownN HR.out hgr5 hob hlt0)
      replace HO := Lib.hid how5
      clear how5 hgr5 hob
      go_wp2
      go_roundw
      case rel => exact ⟨k, by go_num, L ++ [⟨y1, y2⟩], by simp; omega, by simpa using HO.out, HR.out.mono (by simp; omega), HC.out⟩
      case measure => simp [intOf]
theorem InS.putLn0 {cs : Array Value} {M : List Ln} {x : Ln} {T : List Ln} {z : Int} (hM : M = x :: T) (hs : 2 ≤ cs.size) (h : ∀ (i : Nat) (y : Ln), M[i]? = some y → InS cs (i * 2) (valsLn y)) :
    ∀ (i : Nat) (y : Ln), ((⟨z, x.mi⟩ : Ln) :: T)[i]? = some y → InS (cs.setIfInBounds 0 (.int .i64 z)) (i * 2) (valsLn y) := by
  subst hM
  intro i y hy j u hu
  have hj : j < 2 := by have := (List.getElem?_eq_some_iff.1 hu).1; simpa [valsLn] using this
  rw [Array.getElem?_setIfInBounds]
  rcases i with _ | i
  · simp only [List.getElem?_cons_zero, Option.some.injEq] at hy
    subst hy
    have h0 := h 0 x rfl j
    rcases j with _ | _ | j
    · rw [if_pos (by omega), if_pos (by omega)]; simpa [valsLn] using hu
    · rw [if_neg (by omega)]; exact h0 u (by simpa [valsLn] using hu)
    · omega
  · rw [if_neg (by omega)]
    exact h (i + 1) y (by simpa using hy) j u hu
theorem InS.putLn1 {cs : Array Value} {M : List Ln} {x : Ln} {T : List Ln} {z : Int} (hM : M = x :: T) (hs : 2 ≤ cs.size) (h : ∀ (i : Nat) (y : Ln), M[i]? = some y → InS cs (i * 2) (valsLn y)) :
    ∀ (i : Nat) (y : Ln), ((⟨x.wt, z⟩ : Ln) :: T)[i]? = some y → InS (cs.setIfInBounds 1 (.int .i64 z)) (i * 2) (valsLn y) := by
  subst hM
  intro i y hy j u hu
  have hj : j < 2 := by have := (List.getElem?_eq_some_iff.1 hu).1; simpa [valsLn] using this
  rw [Array.getElem?_setIfInBounds]
  rcases i with _ | i
  · simp only [List.getElem?_cons_zero, Option.some.injEq] at hy
    subst hy
    have h0 := h 0 x rfl j
    rcases j with _ | _ | j
    · rw [if_neg (by omega)]; exact h0 u (by simpa [valsLn] using hu)
    · rw [if_pos (by omega), if_pos (by omega)]; simpa [valsLn] using hu
    · omega
  · rw [if_neg (by omega)]
    exact h (i + 1) y (by simpa using hy) j u hu
set_option maxRecDepth 100000 in
theorem someLines_any {B rb : Nat} {A : Option Addr} {l c m : Nat} (w : World) (h : Rd B rb A l c m w) (hm : m ≤ 600000) :
    Calls Try.prog 26 #[.pointer (some ⟨rb, 0, none⟩)] w fun e w' => (∃ v, ∃ L : List Ln, e = .returned v ∧ LnO w.heap.size w' v L ∧ L.length ≤ 5) ∧ Rd B rb A l c (m + 30) w' ∧ Chg [rb] w w' := by
  have hlt0 := h.lt
  go_enter Try.func26, Try.ntmps26
  go_wp2_with fail
  with_reducible refine (goodLines_any w h (by omega)).mono ?_
  rintro e w1 ⟨⟨v, L, rfl, ho, hl1, hl5⟩, hr1, hc1⟩
  rcases ln_inG ho rfl with ⟨rfl, rfl⟩ | ⟨g, cap, cs, rfl, hg, hcap, hh, hs, hin⟩
  · simp at hl1
  have hB := h.base
  have HH := Lib.hid hh
  have HI := Lib.hid hin
  have HC := Lib.hid hc1
  clear ho hh hin hc1
  go_wp2_with fail
  with_reducible refine (pick_any 24 _ hr1 (by omega)).mono ?_
  rintro e w2 ⟨⟨v, rfl, -⟩, hr2, hc2⟩
  replace HH := Lib.hid ((hc2.block g (ltS HH.out) (by simp; omega)).trans HH.out)
  replace HC := Lib.hid (HC.out.trans hc2)
  have HR := Lib.hid hr2
  clear hr1 hr2 hc2
  obtain ⟨x, T, hM⟩ : ∃ x T, L = x :: T := by cases L with | nil => simp at hl1 | cons x T => exact ⟨x, T, rfl⟩
  have hT : T.length + 1 = L.length := by rw [hM]; rfl
  have hs2 : 2 ≤ cs.size := by rw [hs]; omega
  have HM := Lib.hid hM
  have HT := Lib.hid hT
  have HS := Lib.hid hs
  clear hM hT hs
  by_cases hv0 : v = 0
  · subst hv0
    have hl0 : decide ((0 : Int) < (L.length : Int)) = true := by simp; omega
    go_wp2_with fail
    with_reducible refine (one_lit_in (-1) 6 _ HR.out (by omega) (by simp) (by omega) (by omega) (by simp [isIn])).mono ?_
    rintro e w3 ⟨⟨z, rfl, -⟩, hr3, hc3⟩
    replace HH := Lib.hid ((hc3.block g (ltS HH.out) (by simp; omega)).trans HH.out)
    replace HC := Lib.hid (HC.out.trans hc3)
    replace HR := Lib.hid hr3
    obtain ⟨y0, d0⟩ := thereS HH.out (i := 0) (by omega)
    have f0 := frozenS HH.out 0
    have E1 := Lib.hid (putS (i := 0) HH.out (.int .i64 z))
    replace HC := Lib.hid (HC.out.setCell (p := ⟨g, 0, none⟩) (.inr hg) (.int .i64 z))
    replace HR := Lib.hid (HR.out.setCell (p := ⟨g, 0, none⟩) (by simp; omega) (by simp; omega) (.int .i64 z))
    have E2 := Lib.hid (InS.putLn0 (z := z) HM.out hs2 HI.out)
    clear hr3 hc3
    go_wp2
    go_ret
    exact ⟨⟨_, ⟨z, x.mi⟩ :: T, rfl, ⟨some ⟨g, 0, none⟩, cap, (by show _ = Value.slice _ (T.length + 1) cap; rw [HT.out]; rfl), by have := HT.out; simp only [List.length_cons]; omega, LnV.inG E1.out E2.out, fun a e => by cases e; exact hg⟩, by have := HT.out; simp; omega⟩, HR.out.mono (by omega), HC.out⟩
  · have e0 : (v == 0) = false := by simpa using hv0
    by_cases hv1 : v = 1
    · subst hv1
      have hl0 : decide ((0 : Int) < (L.length : Int)) = true := by simp; omega
      go_wp2_with fail
      with_reducible refine (one_lit_in (-1) 31 _ HR.out (by omega) (by simp) (by omega) (by omega) (by simp [isIn])).mono ?_
      rintro e w3 ⟨⟨z, rfl, -⟩, hr3, hc3⟩
      replace HH := Lib.hid ((hc3.block g (ltS HH.out) (by simp; omega)).trans HH.out)
      replace HC := Lib.hid (HC.out.trans hc3)
      replace HR := Lib.hid hr3
      obtain ⟨y0, d0⟩ := thereS HH.out (i := 1) (by omega)
      have f0 := frozenS HH.out 1
      have E1 := Lib.hid (putS (i := 1) HH.out (.int .i64 z))
      replace HC := Lib.hid (HC.out.setCell (p := ⟨g, 1, none⟩) (.inr hg) (.int .i64 z))
      replace HR := Lib.hid (HR.out.setCell (p := ⟨g, 1, none⟩) (by simp; omega) (by simp; omega) (.int .i64 z))
      have E2 := Lib.hid (InS.putLn1 (z := z) HM.out hs2 HI.out)
      clear hr3 hc3
      go_wp2
      go_ret
      exact ⟨⟨_, ⟨x.wt, z⟩ :: T, rfl, ⟨some ⟨g, 0, none⟩, cap, (by show _ = Value.slice _ (T.length + 1) cap; rw [HT.out]; rfl), by have := HT.out; simp only [List.length_cons]; omega, LnV.inG E1.out E2.out, fun a e => by cases e; exact hg⟩, by have := HT.out; simp; omega⟩, HR.out.mono (by omega), HC.out⟩
    · have e1 : (v == 1) = false := by simpa using hv1
      by_cases hv2 : v = 2
      · subst hv2
        have hsz := HC.out.size
        go_wp2
        go_ret
        exact ⟨⟨_, [], rfl, ⟨_, 0, rfl, Nat.le_refl _, LnV.nil _ _, fun a e => by cases e; exact hsz⟩, by simp⟩, (HR.out.alloc _).mono (by omega), HC.out.alloc _⟩
      · have e2 : (v == 2) = false := by simpa using hv2
        go_wp2
        go_ret
        exact ⟨⟨_, L, rfl, ⟨_, cap, rfl, hcap, LnV.inG HH.out HI.out, fun a e => by cases e; exact hg⟩, hl5⟩, HR.out.mono (by omega), HC.out⟩
end Go.Proofs.Ytignigcknfklkab
end
section
namespace Go.Proofs.Ytignigcknfklkab
open Go.RowKit
set_option linter.unusedVariables false
set_option maxHeartbeats 1000000
attribute [local go_sem] growUpon_value growUpon_skip growUpon_enter
theorem wp_genGL {P : Program} {c : Code} {Q : Exit → Act → World → Prop} {a : Act} {W : World} (F : World → Prop) (hF : F W) (h : ∀ W0, F W0 → c.wp P Q a W0) : c.wp P Q a W := h W hF
theorem own_setG {w : World} {base : Nat} {e : TypeId} {size : Nat} {v : Value} {n : Nat} {xs : List Value} (h : w.ownsRow base e size v n xs) {b : Nat} (hb : ∀ k, v.ownBlock = some k → k < b) (o : Nat) (u : Value) : (w.setCell ⟨b, o, none⟩ u).ownsRow base e size v n xs :=
  h.kept (row := some b) (gsetS (greflS w b) o u) (by
    cases hv : v.ownBlock with
    | none => exact .inl rfl
    | some g => exact .inr (fun e => by have := hb g hv; cases e; omega))
theorem put3g {w : World} {b : Nat} {a0 a1 a2 : Value} {T : TypeId} {fz : Nat × Nat} (h : w.heap[b]? = some (.cells #[a0, a1, a2] T fz)) (u : Value) : (w.setCell ⟨b, 1, none⟩ u).heap[b]? = some (.cells #[a0, u, a2] T fz) := by
  replace h := putS (i := 1) h u
  simpa only [List.setIfInBounds_toArray, List.set_cons_succ, List.set_cons_zero] using h
theorem InS.putSp1 {cs : Array Value} {M : List Sp} {x : Sp} {T : List Sp} {z : Int} (hM : M = x :: T) (hs : 3 ≤ cs.size) (h : ∀ (i : Nat) (y : Sp), M[i]? = some y → InS cs (i * 3) (valsSp y)) :
    ∀ (i : Nat) (y : Sp), ((⟨x.sa, z, x.need⟩ : Sp) :: T)[i]? = some y → InS (cs.setIfInBounds 1 (.int .i64 z)) (i * 3) (valsSp y) := by
  subst hM
  intro i y hy j u hu
  have hj : j < 3 := by have := (List.getElem?_eq_some_iff.1 hu).1; simpa [valsSp] using this
  rw [Array.getElem?_setIfInBounds]
  rcases i with _ | i
  · simp only [List.getElem?_cons_zero, Option.some.injEq] at hy
    subst hy
    have h0 := h 0 x rfl j
    rcases j with _ | _ | _ | j
    · rw [if_neg (by omega)]; exact h0 u (by simpa [valsSp] using hu)
    · rw [if_pos (by omega), if_pos (by omega)]; simpa [valsSp] using hu
    · rw [if_neg (by omega)]; exact h0 u (by simpa [valsSp] using hu)
    · omega
  · rw [if_neg (by omega)]
    exact h (i + 1) y (by simpa using hy) j u hu
set_option maxRecDepth 100000 in
theorem someSpans_any {B rb : Nat} {A : Option Addr} {l c m : Nat} (nl : Nat) (w : World) (h : Rd B rb A l c m w) (hm : m ≤ 600000) (hn5 : nl ≤ 5) :
    Calls Try.prog 27 #[.pointer (some ⟨rb, 0, none⟩), .int .i64 (nl : Int)] w fun e w' => (∃ v, ∃ L : List Sp, e = .returned v ∧ SpO w.heap.size w' v L ∧ L.length ≤ 6 ∧ (∀ n c, v ≠ .slice none n c)) ∧ Rd B rb A l c (m + 100) w' ∧ Chg [rb] w w' := by
  obtain ⟨ti, tz, ti1, ti2, ti3, ti4, ti5⟩ := sp_infoG
  have hlt := h.lt
  have hBrb := h.base
  go_enter Try.func27, Try.ntmps27
  go_wp2_with fail
  obtain ⟨W0, hW0⟩ : ∃ W0, w.alloc (.cells #[] 32 (0, 0)) = W0 := ⟨_, rfl⟩
  have hs0 : w.heap.size + 1 = W0.heap.size := by rw [← hW0]; simp
  have hr0 : Rd B rb A l c m W0 := by rw [← hW0]; exact h.alloc _
  have ho0 : W0.ownsRow w.heap.size 32 3 (.slice (some ⟨w.heap.size, 0, none⟩) 0 0) 0 [] := by rw [← hW0]; exact World.ownsRow_lit (base := w.heap.size) (e := 32) (size := 3) w #[] 0 (Nat.le_refl _) (by decide) rfl
  have hc0 : Chg [rb] w W0 := by rw [← hW0]; exact (Chg.refl [rb] w).alloc _
  rw [hW0, hs0]
  clear hW0
  with_reducible refine (one_lit_in 0 6 W0 hr0 (by omega) (by simp) (by omega) (by omega) (by simp [isIn])).mono ?_
  rintro e w1 ⟨⟨z, rfl, z0, z1⟩, hr1, hc1⟩
  obtain ⟨n, rfl⟩ := Int.eq_ofNat_of_zero_le (show 0 ≤ z by omega)
  have ho1 := own_chgN ho0 hc1 hlt
  have HO1 := Lib.hid ho1
  have HR1 := Lib.hid hr1
  have HC1 := Lib.hid (hc0.trans hc1)
  clear ho1 hr1 hc1 ho0 hr0 hc0
  go_wp2_with fail
  go_loopw [5, 6] (fun out i wr => ∃ k : Nat, i = .int .i64 k ∧ ∃ L : List Sp, k + L.length ≤ 6 ∧ wr.ownsRow w.heap.size 32 3 out L.length (spvals L) ∧ Rd B rb A l c (m + 1 + 5 * L.length) wr ∧ Chg [rb] w wr ∧ out ≠ .slice none 0 0) (fun _ i _ => (intOf i).toNat)
  case atStart => exact ⟨n, rfl, [], by simp; omega, HO1.out, HR1.out, HC1.out, fun e => by cases e⟩
  case round =>
    obtain ⟨k, rfl, L, hk, ho, hr, hc, hne0⟩ := hrel
    have HNE := Lib.hid hne0
    clear hne0
    clear HO1 HR1 HC1
    rcases k with _ | k
    · have hd : decide (((0 : Nat) : Int) > 0) = false := by simp
      have HR := Lib.hid hr
      have HC := Lib.hid hc
      rcases sp_inG ho rfl with ⟨rfl, rfl⟩ | ⟨g, cap, cs, rfl, hg, hcap, hh, hs, hin⟩
      · exact absurd rfl HNE.out
      · have HH := Lib.hid hh
        have HI := Lib.hid hin
        clear ho hr hc hh hin
        by_cases hl0 : 0 < L.length
        · have hd2 : decide ((L.length : Int) > 0) = true := by simpa using hl0
          have hd3 : decide ((0 : Int) < (L.length : Int)) = true := by simpa using hl0
          go_wp2_with fail
          with_reducible refine (pick_any 24 _ HR.out (by omega)).mono ?_
          rintro e w2 ⟨⟨v, rfl, -⟩, hr2, hc2⟩
          replace HH := Lib.hid ((hc2.block g (ltS HH.out) (by simp; omega)).trans HH.out)
          replace HC := Lib.hid (HC.out.trans hc2)
          replace HR := Lib.hid hr2
          clear hr2 hc2
          by_cases hv0 : v = 0
          · subst hv0
            obtain ⟨x, T, hM⟩ : ∃ x T, L = x :: T := by cases L with | nil => simp at hl0 | cons x T => exact ⟨x, T, rfl⟩
            have HM := Lib.hid hM
            have HT := Lib.hid (show T.length + 1 = L.length by rw [hM]; rfl)
            have hs3 : 3 ≤ cs.size := by rw [hs]; omega
            clear hM hs
            go_wp2_with fail
            with_reducible refine (one_lit_in 0 6 _ HR.out (by omega) (by simp) (by omega) (by omega) (by simp [isIn])).mono ?_
            rintro e w3 ⟨⟨z, rfl, -⟩, hr3, hc3⟩
            replace HH := Lib.hid ((hc3.block g (ltS HH.out) (by simp; omega)).trans HH.out)
            replace HC := Lib.hid (HC.out.trans hc3)
            replace HR := Lib.hid hr3
            obtain ⟨y0, d0⟩ := thereS HH.out (i := 1) (by omega)
            have f0 := frozenS HH.out 1
            have E1 := Lib.hid (putS (i := 1) HH.out (.int .i64 z))
            replace HC := Lib.hid (HC.out.setCell (p := ⟨g, 1, none⟩) (.inr hg) (.int .i64 z))
            replace HR := Lib.hid (HR.out.setCell (p := ⟨g, 1, none⟩) (by simp; omega) (by simp; omega) (.int .i64 z))
            have E2 := Lib.hid (InS.putSp1 (z := z) HM.out hs3 HI.out)
            clear hr3 hc3
            go_wp2
            go_ret
            exact ⟨⟨_, ⟨x.sa, z, x.need⟩ :: T, rfl, ⟨some ⟨g, 0, none⟩, cap, (by show _ = Value.slice _ (T.length + 1) cap; rw [HT.out]; rfl), by have := HT.out; simp only [List.length_cons]; omega, SpV.inG E1.out E2.out, fun a e => by cases e; exact hg⟩, by have := HT.out; simp; omega, fun n c e => by cases e⟩, HR.out.mono (by omega), HC.out⟩
          · have e0 : (v == 0) = false := by simpa using hv0
            go_wp2
            go_ret
            exact ⟨⟨_, L, rfl, ⟨_, cap, rfl, hcap, SpV.inG HH.out HI.out, fun a e => by cases e; exact hg⟩, by omega, fun n c e => by cases e⟩, HR.out.mono (by omega), HC.out⟩
        · have hd2 : decide ((L.length : Int) > 0) = false := decide_eq_false (by omega)
          have hd3 : decide ((0 : Int) < (L.length : Int)) = false := decide_eq_false (by omega)
          go_wp2
          go_ret
          exact ⟨⟨_, L, rfl, ⟨_, cap, rfl, hcap, SpV.inG HH.out HI.out, fun a e => by cases e; exact hg⟩, by omega, fun n c e => by cases e⟩, HR.out.mono (by omega), HC.out⟩
    · have hd : decide (((k + 1 : Nat) : Int) > 0) = true := by simp
      have hob := ho.lt
      have hwr := hc.size
      go_wp2_with fail
      with_reducible refine (pick_any2 (nl : Int) _ hr (by omega)).mono ?_
      rintro e w2 ⟨⟨v1, rfl, p1, p2⟩, hr2, hc2⟩
      have hv1 : 0 ≤ v1 ∧ v1 ≤ 5 ∧ 0 ≤ (nl : Int) - v1 ∧ (nl : Int) - v1 ≤ 5 := by
        by_cases h1 : 1 ≤ (nl : Int)
        · have := p1 h1; omega
        · have := p2 (by omega); omega
      obtain ⟨va, vb, vc, vd⟩ := hv1
      have HO := Lib.hid (own_chgN ho hc2 hlt)
      have HC := Lib.hid (hc.trans hc2)
      have hs2 := hc2.size
      clear ho hr hc hc2 p1 p2
      go_wp2_with fail
      with_reducible refine (pick_any 51 _ hr2 (by omega)).mono ?_
      rintro e w3 ⟨⟨v2, rfl, p1⟩, hr3, hc3⟩
      obtain ⟨v2a, v2b⟩ := p1 (by omega)
      replace HO := Lib.hid (own_chgN HO.out hc3 hlt)
      replace HC := Lib.hid (HC.out.trans hc3)
      have hs3 := hc3.size
      clear hr2 hc3 p1
      go_wp2_with fail
      with_reducible refine (one_lit_in 0 50 _ hr3 (by omega) (by simp) (by omega) (by omega) (by simp [isIn]; omega)).mono ?_
      rintro e w4 ⟨⟨z, rfl, za, zb⟩, hr4, hc4⟩
      replace HO := Lib.hid (own_chgN HO.out hc4 hlt)
      replace HC := Lib.hid (HC.out.trans hc4)
      have hs4 := hc4.size
      have HR := Lib.hid hr4
      clear hr3 hr4 hc4
      go_upto_region 6 with (fail)
      refine wp_genGL (fun W => W.heap[w4.heap.size]? = some (.cells #[.int .i64 v1, .int .i64 0, .int .i64 z] 32 (0, 0)) ∧ W.ownsRow w.heap.size 32 3 u5 L.length (spvals L) ∧ Rd B rb A l c (m + 1 + 5 * L.length + 1 + 1 + 1) W ∧ Chg [rb] w W) ⟨newS _ _, HO.out.alloc _, HR.out.alloc _, HC.out.alloc _⟩ (fun W5 h5 => ?_)
      clear HO HR HC
      obtain ⟨hx, ho, hr, hc⟩ := h5
      have d0 := cellS hx 0
      have HX := Lib.hid hx
      have HO := Lib.hid ho
      have HC := Lib.hid hc
      clear hx ho hc
      go_wp2_with fail
      with_reducible refine (pick_any2 ((nl : Int) - v1) _ hr (by omega)).mono ?_
      rintro e w6 ⟨⟨v3, rfl, p1, p2⟩, hr6, hc6⟩
      have hv3 : 0 ≤ v3 ∧ v3 ≤ 5 := by
        by_cases h1 : 1 ≤ (nl : Int) - v1
        · have := p1 h1; omega
        · have := p2 (by omega); omega
      obtain ⟨v3a, v3b⟩ := hv3
      have hx6 := (hc6.block _ (ltS HX.out) (by simp; omega)).trans HX.out
      have d1 := cellS hx6 1
      have f1 := frozenS hx6 1
      have HX6 := Lib.hid (put3g hx6 (.int .i64 (1 + v3)))
      have HO6 := Lib.hid (own_setG (own_chgN HO.out hc6 hlt) (b := w4.heap.size) (fun k hk => by have := hob k hk; omega) 1 (.int .i64 (1 + v3)))
      have HR6 := Lib.hid (hr6.setCell (p := ⟨w4.heap.size, 1, none⟩) (by simp; omega) (by simp; omega) (.int .i64 (1 + v3)))
      have HC6 := Lib.hid ((HC.out.trans hc6).setCell (p := ⟨w4.heap.size, 1, none⟩) (.inr (by simp; omega)) (.int .i64 (1 + v3)))
      clear hr hr6 hc6 hx6 HX HO HC p1 p2 d0
      go_upto_region 7 with (fail)
      refine wp_genGL (fun W => W.heap[w4.heap.size]? = some (.cells #[.int .i64 v1, .int .i64 (1 + v3), .int .i64 z] 32 (0, 0)) ∧ W.ownsRow w.heap.size 32 3 u5 L.length (spvals L) ∧ Rd B rb A l c (m + 1 + 5 * L.length + 1 + 1 + 1 + 1) W ∧ Chg [rb] w W) ⟨HX6.out, HO6.out, HR6.out, HC6.out⟩ (fun W7 h7 => ?_)
      clear HX6 HO6 HR6 HC6 d1 f1
      obtain ⟨hx, ho, hr, hc⟩ := h7
      have HX := Lib.hid hx
      have HO := Lib.hid ho
      have HC := Lib.hid hc
      clear hx ho hc
      go_wp2_with fail
      with_reducible refine (pick_any 2 _ hr (by omega)).mono ?_
      rintro e w8 ⟨⟨v4, rfl, -⟩, hr8, hc8⟩
      replace HX := Lib.hid ((hc8.block _ (ltS HX.out) (by simp; omega)).trans HX.out)
      replace HO := Lib.hid (own_chgN HO.out hc8 hlt)
      replace HC := Lib.hid (HC.out.trans hc8)
      have HR := Lib.hid hr8
      clear hr hr8 hc8
      by_cases hv4 : v4 = 0
      · subst hv4
        have d1 := cellS HX.out 1
        have f1 := frozenS HX.out 1
        replace HO := Lib.hid (own_setG HO.out (b := w4.heap.size) (fun k hk => by have := hob k hk; omega) 1 (.int .i64 1))
        replace HR := Lib.hid (HR.out.setCell (p := ⟨w4.heap.size, 1, none⟩) (by simp; omega) (by simp; omega) (.int .i64 1))
        replace HC := Lib.hid (HC.out.setCell (p := ⟨w4.heap.size, 1, none⟩) (.inr (by simp; omega)) (.int .i64 1))
        replace HX := Lib.hid (put3g HX.out (.int .i64 1))
        go_upto_region 9 with (fail)
        refine wp_genGL (fun W => W.heap[w4.heap.size]? = some (.cells #[.int .i64 v1, .int .i64 1, .int .i64 z] 32 (0, 0)) ∧ W.ownsRow w.heap.size 32 3 u5 L.length (spvals L) ∧ Rd B rb A l c (m + 1 + 5 * L.length + 1 + 1 + 1 + 1 + 1) W ∧ Chg [rb] w W) ⟨HX.out, HO.out, HR.out, HC.out⟩ (fun W9 h9 => ?_)
        clear HX HO HR HC d1 f1
        obtain ⟨hx, ho, hr, hc⟩ := h9
        have x0 := cellS hx 0
        have x1 := cellS hx 1
        have x2 := cellS hx 2
        have hob9 := ho.lt
        have hs9 := hc.size
        have HO := Lib.hid ho
        have HC := Lib.hid hc
        have HR := Lib.hid hr
        clear hx ho hr hc
        go_wp2_with (at_builtin; refine wpList_append_own _ rfl _ _ 24 rfl w.heap.size 32 ti tz 3 24 Try.underlying24 ti1 ti2 ti3 ti4 ti5 (by decide) _ _ _ rfl (HO.out.alloc _) ⟨W9.heap.size, 0, none⟩ 1 1 (valsSp ⟨v1, 1, z⟩) rfl rfl (sp_newG _ ⟨v1, 1, z⟩ _) (valsSp_oneG _) (by simp only [maxLen]; omega) (by omega) (by simp; omega) ?_)
        intro v5 w5 how5 hgr5 hiff
        rw [spvals_snoc] at how5
        replace HC := Lib.hid (chg_grownN HC.out hgr5 hob9 (Nat.le_refl _))
        replace HR := Lib.hid (rd_grownN HR.out hgr5 hob9 hlt)
        replace HO := Lib.hid how5
        clear how5 hgr5 hob9 x0 x1 x2
        go_wp2
        go_roundw
        case rel => exact ⟨k, by go_num, L ++ [⟨v1, 1, z⟩], by simp; omega, by simpa using HO.out, HR.out.mono (by simp; omega), HC.out, fun e => (hiff e).elim⟩
        case measure => simp [intOf]
      · have e4 : (v4 == 0) = false := by simpa using hv4
        have x0 := cellS HX.out 0
        have x1 := cellS HX.out 1
        have x2 := cellS HX.out 2
        have hob9 := HO.out.lt
        have hs9 := HC.out.size
        go_wp2_with (at_builtin; refine wpList_append_own _ rfl _ _ 24 rfl w.heap.size 32 ti tz 3 24 Try.underlying24 ti1 ti2 ti3 ti4 ti5 (by decide) _ _ _ rfl (HO.out.alloc _) ⟨w8.heap.size, 0, none⟩ 1 1 (valsSp ⟨v1, 1 + v3, z⟩) rfl rfl (sp_newG _ ⟨v1, 1 + v3, z⟩ _) (valsSp_oneG _) (by simp only [maxLen]; omega) (by omega) (by simp; omega) ?_)
        intro v5 w5 how5 hgr5 hiff
        rw [spvals_snoc] at how5
        replace HC := Lib.hid (chg_grownN HC.out hgr5 hob9 (Nat.le_refl _))
        replace HR := Lib.hid (rd_grownN HR.out hgr5 hob9 hlt)
        replace HO := Lib.hid how5
        clear how5 hgr5 hob9 x0 x1 x2 HX
        go_wp2
        go_roundw
        case rel => exact ⟨k, by go_num, L ++ [⟨v1, 1 + v3, z⟩], by simp; omega, by simpa using HO.out, HR.out.mono (by simp; omega), HC.out, fun e => (hiff e).elim⟩
        case measure => simp [intOf]
set_option maxRecDepth 100000 in
theorem DrawLineRequests_any (A : Option Addr) (n c : Nat) (w : World) (h : Bts w A n) (hn : n ≤ c) (hc : c ≤ maxLen) :
    Calls Try.prog 9 #[.slice A n c] w fun e w' => (∃ (A1 : Option Addr) (c1 : Nat) (L : List Ln) (A2 : Option Addr) (c2 : Nat) (S : List Sp), e = .returned (.tuple #[.slice A1 L.length c1, .slice A2 S.length c2]) ∧ LnV w' A1 L ∧ SpV w' A2 S ∧ L.length ≤ 5 ∧ S.length ≤ 6 ∧ L.length ≤ c1 ∧ A2 ≠ none) ∧ Below w.heap.size w w' := by
  go_enter Try.func9, Try.ntmps9
  go_wp2_with fail
  with_reducible refine (newReader_any A n c _ h hn hc).mono ?_
  rintro e w1 ⟨n', rfl, hr1, hc1⟩
  have hlt1 := hr1.lt
  go_wp2_with fail
  with_reducible refine (someLines_any _ hr1 (by omega)).mono ?_
  rintro e w2 ⟨⟨v, L, rfl, hL, hl5⟩, hr2, hc2⟩
  have hw2 := hc2.size
  have HC := Lib.hid ((hc1.mono (S' := [w.heap.size]) (by simp)).trans hc2)
  obtain ⟨A1, c1, rfl, hcap, hv, hbl⟩ := hL
  have HV := Lib.hid hv
  clear hr1 hc1 hc2 hv
  go_wp2_with fail
  with_reducible refine (someSpans_any L.length _ hr2 (by omega) hl5).mono ?_
  rintro e w3 ⟨⟨v, S, rfl, hS, hs6, hsn⟩, hr3, hc3⟩
  have hne : ∀ a : Addr, A1 = some a → a.block ≠ w.heap.size := fun a e => by have := hbl a e; omega
  replace HV := Lib.hid (HV.out.chgG hc3 hne)
  replace HC := Lib.hid (HC.out.trans hc3)
  obtain ⟨A2, c2, rfl, -, hv2, hbl2⟩ := hS
  have HV2 := Lib.hid hv2
  clear hr2 hc3 hv2
  have HB := Lib.hid (Chg.below HC.out (Nat.le_refl _) (by simp))
  clear HC
  go_wp2
  exact bodyPost_ret (v := .tuple #[.slice A1 L.length c1, .slice A2 S.length c2]) (by simp only [results, Try.results9]; go_simp) rfl ⟨⟨A1, c1, L, A2, c2, S, rfl, HV.out, HV2.out, hl5, hs6, hcap, fun e => hsn S.length c2 (by rw [e])⟩, HB.out⟩
set_option maxRecDepth 100000 in
theorem DrawLineSizes_any (A : Option Addr) (n c : Nat) (w : World) (h : Bts w A n) (hn : n ≤ c) (hc : c ≤ maxLen) :
    Calls Try.prog 14 #[.slice A n c] w fun e w' => (∃ (A1 : Option Addr) (c1 : Nat) (L : List Ln) (A2 : Option Addr) (c2 : Nat) (S : List Sp) (r : Int), e = .returned (.tuple #[.slice A1 L.length c1, .slice A2 S.length c2, .int .i64 r]) ∧ LnV w' A1 L ∧ SpV w' A2 S ∧ L.length ≤ 5 ∧ S.length ≤ 6 ∧ L.length ≤ c1 ∧ A2 ≠ none) ∧ Below w.heap.size w w' := by
  go_enter Try.func14, Try.ntmps14
  go_wp2_with fail
  with_reducible refine (newReader_any A n c _ h hn hc).mono ?_
  rintro e w1 ⟨n', rfl, hr1, hc1⟩
  have hlt1 := hr1.lt
  go_wp2_with fail
  with_reducible refine (someLines_any _ hr1 (by omega)).mono ?_
  rintro e w2 ⟨⟨v, L, rfl, hL, hl5⟩, hr2, hc2⟩
  have hw2 := hc2.size
  have HC := Lib.hid ((hc1.mono (S' := [w.heap.size]) (by simp)).trans hc2)
  obtain ⟨A1, c1, rfl, hcap, hv, hbl⟩ := hL
  have HV := Lib.hid hv
  clear hr1 hc1 hc2 hv
  go_wp2_with fail
  with_reducible refine (someSpans_any L.length _ hr2 (by omega) hl5).mono ?_
  rintro e w3 ⟨⟨v, S, rfl, hS, hs6, hsn⟩, hr3, hc3⟩
  have hne : ∀ a : Addr, A1 = some a → a.block ≠ w.heap.size := fun a e => by have := hbl a e; omega
  replace HV := Lib.hid (HV.out.chgG hc3 hne)
  replace HC := Lib.hid (HC.out.trans hc3)
  obtain ⟨A2, c2, rfl, -, hv2, hbl2⟩ := hS
  have HV2 := Lib.hid hv2
  clear hr2 hc3 hv2
  have hne2 : ∀ a : Addr, A2 = some a → a.block ≠ w.heap.size := fun a e => by have := hbl2 a e; omega
  go_wp2_with fail
  with_reducible refine (pick_any 100 _ hr3 (by omega)).mono ?_
  rintro e w4 ⟨⟨y, rfl, hy⟩, hr4, hc4⟩
  obtain ⟨y0, y1⟩ := hy (by omega)
  replace HV := Lib.hid (HV.out.chgG hc4 hne)
  replace HV2 := Lib.hid (HV2.out.chgG hc4 hne2)
  replace HC := Lib.hid (HC.out.trans hc4)
  clear hr3 hc4 hy
  go_wp2_with fail
  with_reducible refine (one_lit_in (-1) 401 _ hr4 (by omega) (by simp) (by omega) (by omega) (by simp [isIn]; omega)).mono ?_
  rintro e w5 ⟨⟨r, rfl, ra, rb⟩, hr5, hc5⟩
  replace HV := Lib.hid (HV.out.chgG hc5 hne)
  replace HV2 := Lib.hid (HV2.out.chgG hc5 hne2)
  replace HC := Lib.hid (HC.out.trans hc5)
  clear hr4 hr5 hc5
  have HB := Lib.hid (Chg.below HC.out (Nat.le_refl _) (by simp))
  clear HC
  go_wp2
  exact bodyPost_ret (v := .tuple #[.slice A1 L.length c1, .slice A2 S.length c2, .int .i64 r]) (by simp only [results, Try.results14]; go_simp) rfl ⟨⟨A1, c1, L, A2, c2, S, r, rfl, HV.out, HV2.out, hl5, hs6, hcap, fun e => hsn S.length c2 (by rw [e])⟩, HB.out⟩
end Go.Proofs.Ytignigcknfklkab
end
section
namespace Go.Proofs.Ytignigcknfklkab
open Go.RowKit
set_option linter.unusedVariables false
set_option maxHeartbeats 1000000
attribute [local go_sem] growUpon_value growUpon_skip growUpon_enter
def lrM (L : List Ln) (S : List Sp) : List Int := if (linesB L && spansB L.length S) = true then wishM L S else []
def lsM (L : List Ln) (S : List Sp) (room : Int) : List Int := if (linesB L && spansB L.length S && rng room 0 400) = true then sizedM L S room else []
theorem lrM_len (L : List Ln) (S : List Sp) : (lrM L S).length ≤ 5 := by
  unfold lrM
  split
  · rename_i h
    rw [Bool.and_eq_true] at h
    rw [(wish_ok h.1 h.2).2.1]; exact (linesB_len h.1).2
  · simp
theorem lsM_len (L : List Ln) (S : List Sp) (room : Int) : (lsM L S room).length ≤ 5 := by
  unfold lsM
  split
  · rename_i h
    simp only [Bool.and_eq_true] at h
    rw [sizedM_len h.1.1 h.1.2]; exact (linesB_len h.1.1).2
  · simp
theorem LineRequests_c (A : Option Addr) (c n : Nat) (L : List Ln) (A' : Option Addr) (c' n' : Nat) (S : List Sp) (M : List Int) (w : World) (h : LnV w A L) (h' : SpV w A' S) (hn : n = L.length) (hn' : n' = S.length) (hL : L.length ≤ 1000) (hS : S.length ≤ 1000) (hM : lrM L S = M) :
    Calls Try.prog 10 #[.slice A n c, .slice A' n' c'] w fun e w' => (∃ B, e = .returned (.slice B M.length M.length) ∧ NV w' B M) ∧ Below w.heap.size w w' := by
  subst hM hn hn'
  unfold lrM
  cases hv : (linesB L && spansB L.length S)
  · refine (LineRequests_no A c L A' c' S w h h' (by omega) (by omega) hv).mono ?_
    rintro e w' ⟨rfl, hb⟩
    exact ⟨⟨_, rfl, NV.nil _ _⟩, hb⟩
  · have h2 := hv
    rw [Bool.and_eq_true] at h2
    refine (LineRequests_yes A c L A' c' S w h h' h2.1 h2.2).mono ?_
    rintro e w' ⟨⟨g, rfl, hg, hi⟩, hb⟩
    refine ⟨⟨_, ?_, hi.nv⟩, hb⟩
    rw [if_pos rfl, (wish_ok h2.1 h2.2).2.1]
theorem sLineRequests_c (A : Option Addr) (c n : Nat) (L : List Ln) (A' : Option Addr) (c' n' : Nat) (S : List Sp) (M : List Int) (w : World) (h : LnV w A L) (h' : SpV w A' S) (hn : n = L.length) (hn' : n' = S.length) (hL : L.length ≤ 1000) (hS : S.length ≤ 1000) (hc : L.length ≤ c) (hM : lrM L S = M) :
    Calls Try.prog 12 #[.slice A n c, .slice A' n' c'] w fun e w' => (∃ x, e = .returned x ∧ NR w' x M) ∧ Below w.heap.size w w' := by
  subst hM hn hn'
  unfold lrM
  cases hv : (linesB L && spansB L.length S)
  · refine (sLineRequests_no A c L A' c' S w h h' (by omega) (by omega) hv).mono ?_
    rintro e w' ⟨rfl, hb⟩
    exact ⟨⟨_, rfl, none, 0, rfl, NV.nil _ _⟩, hb⟩
  · have h2 := hv
    rw [Bool.and_eq_true] at h2
    refine (sLineRequests_yes A c L A' c' S w h h' h2.1 h2.2 hc).mono ?_
    rintro e w' ⟨⟨g, cap, rfl, hg, hi⟩, hb⟩
    refine ⟨⟨_, rfl, _, cap, ?_, hi.nv⟩, hb⟩
    rw [if_pos rfl, (wish_ok h2.1 h2.2).2.1]
theorem LineSizes_c (A : Option Addr) (c n : Nat) (L : List Ln) (A' : Option Addr) (c' n' : Nat) (S : List Sp) (room : Int) (M : List Int) (w : World) (h : LnV w A L) (h' : SpV w A' S) (hn : n = L.length) (hn' : n' = S.length) (hL : L.length ≤ 1000) (hS : S.length ≤ 1000) (hc : L.length ≤ c) (hM : lsM L S room = M) :
    Calls Try.prog 15 #[.slice A n c, .slice A' n' c', .int .i64 room] w fun e w' => (∃ B, e = .returned (.slice B M.length M.length) ∧ NV w' B M) ∧ Below w.heap.size w w' := by
  subst hM hn hn'
  unfold lsM
  cases hv : (linesB L && spansB L.length S && rng room 0 400)
  · refine (LineSizes_no A c L A' c' S room w h h' (by omega) (by omega) hv).mono ?_
    rintro e w' ⟨rfl, hb⟩
    exact ⟨⟨_, rfl, NV.nil _ _⟩, hb⟩
  · have h2 := hv
    simp only [Bool.and_eq_true] at h2
    refine (LineSizes_yes A c L A' c' S room w h h' h2.1.1 h2.1.2 h2.2 hc).mono ?_
    rintro e w' ⟨⟨g, cap, rfl, hg, rfl, hi⟩, hb⟩
    refine ⟨⟨_, ?_, hi.nv⟩, hb⟩
    rw [if_pos rfl, sizedM_len h2.1.1 h2.1.2]
theorem sLineSizes_c (A : Option Addr) (c n : Nat) (L : List Ln) (A' : Option Addr) (c' n' : Nat) (S : List Sp) (room : Int) (M : List Int) (w : World) (h : LnV w A L) (h' : SpV w A' S) (hn : n = L.length) (hn' : n' = S.length) (hL : L.length ≤ 1000) (hS : S.length ≤ 1000) (hc : L.length ≤ c) (hM : lsM L S room = M) :
    Calls Try.prog 16 #[.slice A n c, .slice A' n' c', .int .i64 room] w fun e w' => (∃ x, e = .returned x ∧ NR w' x M) ∧ Below w.heap.size w w' := by
  subst hM hn hn'
  unfold lsM
  cases hv : (linesB L && spansB L.length S && rng room 0 400)
  · refine (sLineSizes_no A c L A' c' S room w h h' (by omega) (by omega) hv).mono ?_
    rintro e w' ⟨rfl, hb⟩
    exact ⟨⟨_, rfl, none, 0, rfl, NV.nil _ _⟩, hb⟩
  · have h2 := hv
    simp only [Bool.and_eq_true] at h2
    refine (sLineSizes_yes A c L A' c' S room w h h' h2.1.1 h2.1.2 h2.2 hc).mono ?_
    rintro e w' ⟨⟨g, cap, rfl, hg, hi⟩, hb⟩
    refine ⟨⟨_, rfl, _, cap, ?_, hi.nv⟩, hb⟩
    rw [if_pos rfl, sizedM_len h2.1.1 h2.1.2]
theorem lrM_yes {L : List Ln} {S : List Sp} (h : 0 < (lrM L S).length) : linesB L = true ∧ spansB L.length S = true ∧ lrM L S = wishM L S := by
  unfold lrM at h ⊢
  split at h
  · rename_i hv
    rw [if_pos hv]
    rw [Bool.and_eq_true] at hv
    exact ⟨hv.1, hv.2, rfl⟩
  · simp at h
theorem lsM_yes {L : List Ln} {S : List Sp} {room : Int} (h : 0 < (lsM L S room).length) : linesB L = true ∧ spansB L.length S = true ∧ (0 ≤ room ∧ room ≤ 400) ∧ lsM L S room = sizedM L S room := by
  unfold lsM at h ⊢
  split at h
  · rename_i hv
    rw [if_pos hv]
    simp only [Bool.and_eq_true] at hv
    exact ⟨hv.1.1, hv.1.2, rng_iff.1 hv.2, rfl⟩
  · simp at h
theorem NV.segV {w : World} {b off : Nat} {L : List Int} (hb : b < w.heap.size) (h : ∀ i x, L[i]? = some x → w.cell? ⟨b, off + i, none⟩ = some (.int .i64 x)) (a m : Nat) : NV w (some ⟨b, off + a, none⟩) (segI L a m) := NV.sub hb h a m
end Go.Proofs.Ytignigcknfklkab
end
section
namespace Go.Proofs.Ytignigcknfklkab
set_option linter.unusedVariables false
theorem sized_wish {L : List Ln} {S : List Sp} (hL : linesB L = true) (hS : spansB L.length S = true) : sizedM L S (sumI (wishM L S)) = wishM L S := by
  unfold sizedM
  rw [if_neg (by omega)]
  split
  · rfl
  · rw [Int.sub_self]
    exact addAt_zero (spread_zero (min_bd hL).2)
def lstM : List Ln → List Int → Int
  | l :: L, o :: O => (if 0 < l.wt then l.mi else o) + lstM L O
  | _, _ => 0
theorem lstM_snoc : ∀ {L : List Ln} {O : List Int} {k : Nat} {l : Ln} {o : Int}, L[k]? = some l → O[k]? = some o → lstM (L.take (k + 1)) (O.take (k + 1)) = lstM (L.take k) (O.take k) + (if 0 < l.wt then l.mi else o)
  | l' :: L, o' :: O, 0, l, o, h, h' => by
    simp only [List.getElem?_cons_zero, Option.some.injEq] at h h'
    subst h h'
    simp [lstM]
  | l' :: L, o' :: O, k + 1, l, o, h, h' => by
    simp only [List.getElem?_cons_succ] at h h'
    simp only [List.take_succ_cons, lstM]
    rw [lstM_snoc h h']
    omega
  | [], _, k, l, o, h, _ => by simp at h
  | l' :: L, [], k, l, o, _, h => by simp at h
theorem lst_le : ∀ {L : List Ln} {W R : List Int}, W.length = L.length → R.length = L.length → (∀ (i : Nat) (l : Ln) (o r : Int), L[i]? = some l → W[i]? = some o → R[i]? = some r → (if 0 < l.wt then l.mi else o) ≤ r) → lstM L W ≤ sumI R
  | [], [], [], _, _, _ => Int.le_refl _
  | l :: L, o :: W, r :: R, h1, h2, h => by
    have h0 := h 0 l o r rfl rfl rfl
    have := lst_le (L := L) (W := W) (R := R) (by simpa using h1) (by simpa using h2) (fun i l' o' r' a b c => h (i + 1) l' o' r' (by simpa using a) (by simpa using b) (by simpa using c))
    simp only [lstM, sumI]
    omega
  | [], o :: W, _, h, _, _ => by simp at h
  | [], [], r :: R, _, h, _ => by simp at h
  | l :: L, [], _, h, _, _ => by simp at h
  | l :: L, o :: W, [], _, h, _ => by simp at h
theorem lst_eq : ∀ {L : List Ln} {W R : List Int}, W.length = L.length → R.length = L.length → (∀ (i : Nat) (l : Ln) (o r : Int), L[i]? = some l → W[i]? = some o → R[i]? = some r → (if 0 < l.wt then l.mi else o) = r) → lstM L W = sumI R
  | [], [], [], _, _, _ => rfl
  | l :: L, o :: W, r :: R, h1, h2, h => by
    have h0 := h 0 l o r rfl rfl rfl
    have := lst_eq (L := L) (W := W) (R := R) (by simpa using h1) (by simpa using h2) (fun i l' o' r' a b c => h (i + 1) l' o' r' (by simpa using a) (by simpa using b) (by simpa using c))
    simp only [lstM, sumI]
    omega
  | [], o :: W, _, h, _, _ => by simp at h
  | [], [], r :: R, _, h, _ => by simp at h
  | l :: L, [], _, h, _, _ => by simp at h
  | l :: L, o :: W, [], _, h, _ => by simp at h
theorem sum_zero_all {P : List Int} (h : ∀ x ∈ P, 0 ≤ x) (hs : sumI P = 0) : ∀ x ∈ P, x = 0 := fun x hx => by
  have := mem_le_sum h x hx
  have := h x hx
  omega
/-- what the sizes of lines in a room are -/
theorem sized_law {L : List Ln} {S : List Sp} {room : Int} (hL : linesB L = true) (hS : spansB L.length S = true) (hr0 : 0 ≤ room) (hr1 : room ≤ 400) :
    (∀ (i : Nat) (l : Ln) (o r : Int), L[i]? = some l → (wishM L S)[i]? = some o → (sizedM L S room)[i]? = some r → l.mi ≤ r ∧ (l.wt = 0 → r = o)) ∧
    (0 < sumI (L.map Ln.wt) → lstM L (wishM L S) ≤ room → sumI (sizedM L S room) = room) ∧
    (0 < sumI (L.map Ln.wt) → room < lstM L (wishM L S) → sumI (sizedM L S room) = lstM L (wishM L S)) ∧
    (sumI (L.map Ln.wt) = 0 → sumI (sizedM L S room) = lstM L (wishM L S)) := by
  obtain ⟨k1, k2, k3, k4, k5⟩ := wish_ok hL hS
  obtain ⟨s1, s2, -, -⟩ := sized_ok hL hS hr0 hr1
  obtain ⟨hO, hW⟩ := min_bd hL
  have hw0 : 0 ≤ sumI (L.map Ln.wt) := hW.sum.1
  have hwl : ∀ (i : Nat) (l : Ln), L[i]? = some l → 0 ≤ l.wt := fun i l h => (hW.1 l.wt (List.mem_map_of_mem (List.mem_of_getElem? h))).1
  have hwish : lstM L (wishM L S) ≤ sumI (wishM L S) := lst_le k2 k2 (fun i l o r h1 h2 h3 => by
    rw [h2] at h3; obtain rfl := Option.some.inj h3
    have := (k1.get h1 h2).1
    split <;> omega)
  have h0all : sumI (L.map Ln.wt) = 0 → ∀ (i : Nat) (l : Ln), L[i]? = some l → l.wt = 0 := fun h i l hl => sum_zero_all (fun x hx => (hW.1 x hx).1) h _ (List.mem_map_of_mem (List.mem_of_getElem? hl))
  by_cases hc : room - sumI (wishM L S) < 0
  · have e : sizedM L S room = shrZ L (-(room - sumI (wishM L S))) (wishM L S) := by unfold sizedM; rw [if_pos hc]
    obtain ⟨a1, a2, a3, a4, a5⟩ := shr_all hL _ (-(room - sumI (wishM L S))) (wishM L S) (Nat.le_refl _) (by omega) k1
    rw [← e] at a1 a2 a3 a4 a5
    have hpt : ∀ (i : Nat) (l : Ln) (o r : Int), L[i]? = some l → (wishM L S)[i]? = some o → (sizedM L S room)[i]? = some r → (if 0 < l.wt then l.mi else o) ≤ r := fun i l o r h1 h2 h3 => by
      have := (a1.get h1 h3).1
      have := (a2 i l o r h1 h2 h3).2
      have := hwl i l h1
      split
      · omega
      · have : l.wt = 0 := by omega
        omega
    have hle := lst_le k2 s2 hpt
    have hstuck : sumI (wtZ L (sizedM L S room)) = 0 → lstM L (wishM L S) = sumI (sizedM L S room) := fun hz => lst_eq k2 s2 (fun i l o r h1 h2 h3 => by
      have hz' := sum_zero_all (fun x hx => ((wtZ_ok hL a1).1 x hx).1) hz _ (List.mem_of_getElem? (wtZ_get h1 h3))
      have := (a1.get h1 h3).1
      have h4 := (a2 i l o r h1 h2 h3).2
      have := hwl i l h1
      split
      · rename_i hp
        split at hz'
        · omega
        · omega
      · have : l.wt = 0 := by omega
        exact (h4 this).symm)
    refine ⟨fun i l o r h1 h2 h3 => ⟨(a1.get h1 h3).1, (a2 i l o r h1 h2 h3).2⟩, fun _ hl => ?_, fun _ hl => ?_, fun hz => ?_⟩
    · rcases a5 with a5 | a5
      · omega
      · have := hstuck a5; omega
    · rcases a5 with a5 | a5
      · omega
      · exact (hstuck a5).symm
    · refine (lst_eq k2 s2 (fun i l o r h1 h2 h3 => ?_)).symm
      have h4 := h0all hz i l h1
      rw [if_neg (by omega)]
      exact ((a2 i l o r h1 h2 h3).2 h4).symm
  · by_cases hz : sumI (L.map Ln.wt) = 0
    · have e : sizedM L S room = wishM L S := by unfold sizedM; rw [if_neg hc, if_pos hz]
      rw [e]
      refine ⟨fun i l o r h1 h2 h3 => ?_, fun h => by omega, fun h => by omega, fun _ => ?_⟩
      · rw [h2] at h3; obtain rfl := Option.some.inj h3
        exact ⟨(k1.get h1 h2).1, fun _ => rfl⟩
      · refine (lst_eq k2 k2 (fun i l o r h1 h2 h3 => ?_)).symm
        rw [h2] at h3; obtain rfl := Option.some.inj h3
        have := h0all hz i l h1
        rw [if_neg (by omega)]
    · have e : sizedM L S room = addAt (wishM L S) 0 (spreadM (room - sumI (wishM L S)) (L.map Ln.wt)) := by unfold sizedM; rw [if_neg hc, if_neg hz]
      have hn : 0 ≤ room - sumI (wishM L S) := by omega
      have hsum := spread_sum hn hW
      have hlen : (spreadM (room - sumI (wishM L S)) (L.map Ln.wt)).length = L.length := by rw [spreadM_len, List.length_map]
      have hs := sum_addAt (O := wishM L S) (P := spreadM (room - sumI (wishM L S)) (L.map Ln.wt)) (k := 0) (by omega)
      rw [← e] at hs
      refine ⟨fun i l o r h1 h2 h3 => ⟨(s1.get h1 h3).1, fun hw => ?_⟩, fun _ _ => by omega, fun _ hl => by omega, fun h => absurd h hz⟩
      obtain ⟨y, e1, y0, y1, e2⟩ := spread_get (n := room - sumI (wishM L S)) hn hW (show (L.map Ln.wt)[i]? = some l.wt by rw [List.getElem?_map, h1]; rfl)
      rw [e, addAt0, addP_at h2 e1] at h3
      have := (e2 (by omega)).1 hw
      have := Option.some.inj h3
      omega
end Go.Proofs.Ytignigcknfklkab
end
