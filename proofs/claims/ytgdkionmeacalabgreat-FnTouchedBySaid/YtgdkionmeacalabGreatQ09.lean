import Derived.Test.YtgdkionmeacalabGreatQ08
section
namespace Go.Proofs.YtgdkionmeacalabGreat
open Go Go.RowKit
set_option linter.unusedVariables false
section
variable {P : Program}
theorem wp_region_rgs {id : Nat} {l : List Oper} {Q : Exit → Act → World → Prop} {a0 : Act} {w : World} (T : Nat → Value → World → Prop) (R : World → World → Prop) (I : Nat → World → Prop)
    (hm : P.follows .mixedOrders = true) (hB : rgC l a0.tmps.size = true) (hRr : ∀ a, R a a) (hRt : ∀ a b c, R a b → R b c → R a c) (hTs : ∀ k v a b, T k v a → R a b → T k v b) (hI0 : I 0 w.drew)
    (hops : opsOK P l T R I a0 w.drew l 0) (hfin : ∀ w', R w.drew w' → I l.length w' → (∀ (j : Nat) (o : Oper), l[j]? = some o → o.dst = none → ∃ v, T j v w') → finP T w' (fun a' => Q .normal a' w') l 0 a0) : (Code.region id l.toArray true).wp P Q a0 w := by
  simp only [rgC, Bool.and_eq_true] at hB
  obtain ⟨hns, hB⟩ := hB
  have hB' : ∀ (i : Nat) (o : Oper), l[i]? = some o → (∀ e ∈ o.after, Region.binds .any e = true → e.on < i) ∧ (∀ d, o.dst = some d → d < a0.tmps.size ∧ dstIdx d l 0 = some i) ∧ (∀ t ∈ o.looksAt l.toArray, ∀ j, dstIdx t l 0 = some j → ∃ e ∈ o.after, e.on = j ∧ Region.binds .any e = true) := by
    intro i o ho
    have hlt := (List.getElem?_eq_some_iff.1 ho).1
    have h1 := List.all_eq_true.1 hB i (List.mem_range.2 hlt)
    simp only [ho, Bool.and_eq_true] at h1
    obtain ⟨⟨h1, h2⟩, h3⟩ := h1
    refine ⟨fun e he hb => by have := List.all_eq_true.1 h1 e (by simpa using he); simpa [hb] using this, fun d hd => ?_, fun t ht j hj => ?_⟩
    · rw [hd] at h2
      simp only [Option.all_some, Bool.and_eq_true, decide_eq_true_eq, beq_iff_eq] at h2
      exact h2
    · have h4 := List.all_eq_true.1 h3 t ht
      rw [hj] at h4
      obtain ⟨e, he, h5⟩ := List.any_eq_true.1 h4
      simp only [Bool.and_eq_true, beq_iff_eq] at h5
      exact ⟨e, by simpa using he, h5⟩
  have hdist : ∀ (i : Nat) (o : Oper) (j : Nat) (p : Oper), l[i]? = some o → l[j]? = some p → i ≠ j → ∀ d, o.dst = some d → p.dst ≠ some d := by
    intro i o j p ho hp hij d hd hpd
    have h1 := ((hB' i o ho).2.1 d hd).2
    rw [((hB' j p hp).2.1 d hpd).2] at h1
    injection h1 with h1
    exact hij h1.symm
  have main : ∀ (fuel m : Nat) (listed : Array Bool) (a : Act) (w' : World), cntF (fun i => listed.getD i true) l.length = fuel → listed.size = l.length → fuel + m = l.length → RJ l T R I a0 w.drew m listed a w' → (∀ j o, l[j]? = some o → listed.getD j false = true → o.dst = none → ∃ v, T j v w') →
      wpAny P .any l.toArray Q fuel listed a w' := by
    intro fuel
    have hdone : ∀ (m : Nat) (listed : Array Bool) (a : Act) (w' : World), m = l.length → (∀ i, i < l.length → listed.getD i false = true) → RJ l T R I a0 w.drew m listed a w' → (∀ j o, l[j]? = some o → listed.getD j false = true → o.dst = none → ∃ v, T j v w') → Q .normal a w' := by
      rintro m listed a w' rfl hall ⟨hR, hI, hd, hs, ht, hT⟩ hX
      refine finP_to (T := T) (w := w') (F := fun a' => Q .normal a' w') (l := l) (k := 0) (b := a0) hd.symm hs.symm (fun t h => ?_) (fun j o ho hn => ?_) (hfin w' hR hI (fun j o ho hn => hX j o ho (hall j (List.getElem?_eq_some_iff.1 ho).1) hn))
      · exact (ht t fun j o ho _ => h o (List.mem_of_getElem? ho)).symm
      · rw [Nat.zero_add]; exact hT j o ho (hall j (List.getElem?_eq_some_iff.1 ho).1) hn
    have hnil : ∀ (listed : Array Bool), listed.size = l.length → Region.ready .any l.toArray listed = [] → ∀ i, i < l.length → listed.getD i false = true := by
      intro listed hls hr i
      induction i using Nat.strongRecOn with
      | ind i ih =>
        intro hi
        by_cases hl : listed.getD i false = true
        · exact hl
        · exfalso
          have ho : l[i]? = some l[i] := List.getElem?_eq_getElem hi
          have hmem : i ∈ Region.ready .any l.toArray listed := mem_ready.2 ⟨by
            rw [Array.getD_eq_getD_getElem?, Array.getElem?_eq_getElem (by omega)] at *
            simp only [Option.getD_some, Bool.not_eq_true] at *
            exact hl, l[i], by simp, fun e he hb => ih e.on ((hB' i _ ho).1 e he hb) (by have := (hB' i _ ho).1 e he hb; omega)⟩
          rw [hr] at hmem
          cases hmem
    induction fuel with
    | zero =>
      intro m listed a w' hc hls hm' hJ hX
      have hall : ∀ i, i < l.length → listed.getD i false = true := fun i hi => by
        have := cntF_zero hc i hi
        rw [Array.getD_eq_getD_getElem?, Array.getElem?_eq_getElem (by omega)] at *
        simpa using this
      refine ⟨?_, hdone m listed a w' (by omega) hall hJ hX⟩
      cases hr : Region.ready .any l.toArray listed with
      | nil => rfl
      | cons x xs =>
        exfalso
        obtain ⟨h0, o, ho, _⟩ := mem_ready.1 (show x ∈ Region.ready .any l.toArray listed by rw [hr]; exact List.mem_cons_self)
        have hlt : x < l.length := by have := (Array.getElem?_eq_some_iff.1 ho).1; simpa using this
        have := hall x hlt
        rw [Array.getD_eq_getD_getElem?, Array.getElem?_eq_getElem (by omega)] at *
        simp at h0 this
        rw [h0] at this
        cases this
    | succ fuel ih =>
      intro m listed a w' hc hls hm' hJ hX
      refine ⟨fun hr => ?_, fun i hi => ?_⟩
      · exfalso
        have hall := hnil listed hls hr
        have : cntF (fun i => listed.getD i true) l.length = 0 := by
          rw [cntF_same (g := fun _ => true) (fun i hi => by
            have := hall i hi
            rw [Array.getD_eq_getD_getElem?, Array.getElem?_eq_getElem (by omega)] at *
            simpa using this)]
          clear hc hm' hls
          induction l.length with
          | zero => rfl
          | succ n ihn => simp [cntF, ihn]
        omega
      · obtain ⟨h0, o, ho', hall⟩ := mem_ready.1 hi
        have ho : l[i]? = some o := by simpa using ho'
        have hlt : i < l.length := (List.getElem?_eq_some_iff.1 ho).1
        obtain ⟨hR, hI, hd, hs, ht, hT⟩ := hJ
        obtain ⟨b1, b2, b3⟩ := hB' i o ho
        have hlook : ∀ t ∈ o.looksAt l.toArray, match dstIdx t l 0 with | some j => T j (tv a t) w' | none => tv a t = tv a0 t := by
          intro t htm
          cases hj : dstIdx t l 0 with
          | none =>
            refine tv_of (ht t fun j p hp _ => dstIdx_none hj p (List.mem_of_getElem? hp))
          | some j =>
            obtain ⟨e, he, rfl, hb⟩ := b3 t htm j hj
            obtain ⟨_, p, hp, hpd⟩ := dstIdx_some hj
            have := hT e.on p (by simpa using hp) (hall e he hb) (by rw [hpd]; simp)
            rw [hpd] at this
            exact this
        have hop := look_of hlook (opsOK_at hops ho m a w' (by omega) hR hI)
        rw [Nat.zero_add] at hop
        have hget : ∀ d, (listed.setIfInBounds i true).getD i d = true := fun d => by
          rw [Array.getD_eq_getD_getElem?, Array.getElem?_setIfInBounds_self_of_lt (by omega)]; rfl
        have next : ∀ v w1, T i v w1 → R w' w1 → I (m + 1) w1 → wpAny P .any l.toArray Q fuel (listed.setIfInBounds i true) (a.put o.dst v) w1 := by
          intro v w1 hTv hR1 hI1
          refine ih (m + 1) _ _ _ ?_ (by simpa using hls) (by omega) ⟨hRt _ _ _ hR hR1, hI1, (put_defers' _ _ _).trans hd, (put_size _ _ _).trans hs, fun t h => ?_, fun j p hp hl hn => ?_⟩ (fun j p hp hl hn => by
            by_cases e : i = j
            · subst e; exact ⟨v, hTv⟩
            · rw [getD_set_ne false e] at hl
              obtain ⟨v', h'⟩ := hX j p hp hl hn
              exact ⟨v', hTs j v' w' w1 h' hR1⟩)
          · have := cntF_set (f := fun i => listed.getD i true) (g := fun j => (listed.setIfInBounds i true).getD j true) (i := i) h0 (hget true) (fun j hj => getD_set_ne true (Ne.symm hj)) hlt
            omega
          · have hne : o.dst ≠ some t := h i o ho (hget false)
            rw [put_ne _ _ _ hne]
            exact ht t fun j p hp hl => h j p hp (getD_set_true hl)
          · by_cases e : i = j
            · subst e
              rw [ho] at hp
              obtain rfl := Option.some.inj hp
              cases hod : o.dst with
              | none => exact absurd hod hn
              | some d =>
                have : tv (a.put (some d) v) d = v := by
                  unfold tv
                  rw [Array.getD_eq_getD_getElem?, put_same _ _ _ (by rw [hs]; exact (b2 d hod).1)]
                  rfl
                simp only [vof]
                rw [this]
                exact hTv
            · rw [getD_set_ne false e] at hl
              have h2 := hTs j _ w' w1 (hT j p hp hl hn) hR1
              cases hpd : p.dst with
              | none => exact absurd hpd hn
              | some d =>
                rw [hpd] at h2
                simp only [vof] at h2 ⊢
                rw [show tv (a.put o.dst v) d = tv a d from tv_of (put_ne _ _ _ (fun hod => hdist i o j p ho hp e d hod hpd))]
                exact h2
        unfold wpOp
        simp only [ho']
        cases hg : o.guard with
        | none =>
          rw [hg] at hop
          rw [if_pos (by simp [Region.wanted, hg])]
          exact .inl (wp_of_gives hop fun v w1 ⟨h1, h2, h3⟩ => next v w1 h1 h2 h3)
        | some g =>
          rw [hg] at hop
          obtain ⟨g1, g2⟩ := hop
          split
          · rename_i hw
            exact .inl (wp_of_gives (g1 hw) fun v w1 ⟨h1, h2, h3⟩ => next v w1 h1 h2 h3)
          · rename_i hw
            obtain ⟨h1, h2⟩ := g2 (by simpa using hw)
            exact next undef w' h1 (hRr _) h2
  refine wp_region_any hm ?_
  refine main l.toArray.size 0 _ a0 w.drew ?_ (by simp) (by simp) ⟨hRr _, hI0, rfl, rfl, fun t _ => rfl, fun j o ho hl => ?_⟩ (fun j o ho hl => by
    exfalso
    rw [Array.getD_eq_getD_getElem?, Array.getElem?_replicate] at hl
    split at hl <;> simp at hl)
  · have : ∀ n, n ≤ l.length → cntF (fun i => (Array.replicate l.toArray.size false).getD i true) n = n := by
      intro n
      induction n with
      | zero => intro _; rfl
      | succ n ihn =>
        intro hn
        simp only [cntF]
        rw [ihn (by omega)]
        have : (Array.replicate l.toArray.size false).getD n true = false := by
          rw [Array.getD_eq_getD_getElem?, Array.getElem?_replicate, if_pos (by simp; omega)]; rfl
        rw [if_neg (by rw [this]; decide)]
    simpa using this l.length (Nat.le_refl _)
  · exfalso
    rw [Array.getD_eq_getD_getElem?, Array.getElem?_replicate] at hl
    split at hl <;> simp at hl
end
end Go.Proofs.YtgdkionmeacalabGreat
end
section
namespace Go.Proofs.YtgdkionmeacalabGreat
open Go.RowKit
set_option linter.unusedVariables false
set_option maxHeartbeats 1000000
end Go.Proofs.YtgdkionmeacalabGreat
end
section
namespace Go.Proofs.YtgdkionmeacalabGreat
open Go.RowKit
set_option linter.unusedVariables false
set_option maxHeartbeats 2000000
attribute [local go_sem] givesUpon_value givesUpon_skip givesUpon_enter
theorem TL.sub {B : Nat} {S S' : List Nat} {k : Nat} {v : Value} {w : World} (h : TL B S k v w) (hs : ∀ x ∈ S', x ∈ S) : TL B S' k v w := by
  obtain ⟨g, e, h0, h1, h2, h3⟩ := h
  exact ⟨g, e, h0, fun hx => h1 (hs _ hx), h2, h3⟩
def StT (S : List Nat) (T : Value → World → Prop) : Prop := ∀ v a b, T v a → Chg S a b → T v b
end Go.Proofs.YtgdkionmeacalabGreat
end
section
namespace Go.Proofs.YtgdkionmeacalabGreat
open Go.RowKit
set_option linter.unusedVariables false
set_option maxHeartbeats 2000000
attribute [local go_sem] givesUpon_value givesUpon_skip givesUpon_enter
structure HP (B rb bx b0 : Nat) (A : Option Addr) (n c : Nat) (x y u v : Int) (m : Nat) (w : World) : Prop where
  rd : Rd B rb A n c m w
  hx : w.heap[bx]? = some (.cells #[.int .i64 x, .int .i64 y, .int .i64 u, .int .i64 v] 54 (0, 0))
  h0 : ∃ a0 a1 a2 a3 : Int, w.heap[b0]? = some (.cells #[.int .i64 a0, .int .i64 a1, .int .i64 a2, .int .i64 a3] 54 (0, 0))
  n1 : bx ≠ rb
  n2 : b0 ≠ rb
  n3 : bx ≠ b0
  l1 : B ≤ b0
section
variable {B rb bx b0 : Nat} {A : Option Addr} {n c : Nat} {x y u v : Int} {m : Nat} {w w' : World}
theorem HP.base (h : HP B rb bx b0 A n c x y u v m w) : B ≤ w.heap.size := by have := h.rd.lt; have := h.rd.base; omega
theorem HP.lts (h : HP B rb bx b0 A n c x y u v m w) : ∀ k ∈ [rb, b0], k < w.heap.size := by
  obtain ⟨a0, a1, a2, a3, ha⟩ := h.h0
  have h1 := h.rd.lt
  have h2 := lt_of_heap ha
  simp [h1, h2]
theorem HP.next (h : HP B rb bx b0 A n c x y u v m w) : HP B rb bx b0 A n c x y u v (m + 1) w := ⟨h.rd.mono (by omega), h.hx, h.h0, h.n1, h.n2, h.n3, h.l1⟩
theorem HP.drew (h : HP B rb bx b0 A n c x y u v m w) : HP B rb bx b0 A n c x y u v m w.drew := ⟨h.rd.drew, h.hx, h.h0, h.n1, h.n2, h.n3, h.l1⟩
theorem HP.alloc (h : HP B rb bx b0 A n c x y u v m w) (o : Obj) : HP B rb bx b0 A n c x y u v (m + 1) (w.alloc o) :=
  ⟨(h.rd.alloc o).mono (by omega), (Below.heap_alloc _ _ _ (lt_of_heap h.hx)).trans h.hx, let ⟨a0, a1, a2, a3, ha⟩ := h.h0; ⟨a0, a1, a2, a3, (Below.heap_alloc _ _ _ (lt_of_heap ha)).trans ha⟩, h.n1, h.n2, h.n3, h.l1⟩
theorem HP.call {m' : Nat} (h : HP B rb bx b0 A n c x y u v m w) (hr : Rd B rb A n c m' w') (hc : Chg [rb] w w') : HP B rb bx b0 A n c x y u v m' w' :=
  ⟨hr, (hc.block _ (lt_of_heap h.hx) (by simpa using h.n1)).trans h.hx, let ⟨a0, a1, a2, a3, ha⟩ := h.h0; ⟨a0, a1, a2, a3, (hc.block _ (lt_of_heap ha) (by simpa using h.n2)).trans ha⟩, h.n1, h.n2, h.n3, h.l1⟩
end
end Go.Proofs.YtgdkionmeacalabGreat
end
section
namespace Go.Proofs.YtgdkionmeacalabGreat
open Go.RowKit
set_option linter.unusedVariables false
set_option maxHeartbeats 1000000
attribute [local go_sem] growUpon_value growUpon_skip growUpon_enter
attribute [local go_sem] givesUpon_value givesUpon_skip givesUpon_enter
def cevals : List Ce → List Value
  | [] => []
  | r :: t => valsCe r ++ cevals t
theorem cevals_get : ∀ {M : List Ce} {i : Nat} {r : Ce}, M[i]? = some r → ∀ j, j < 9 → (cevals M)[i * 9 + j]? = (valsCe r)[j]?
  | [], i, r, h, _, _ => by simp at h
  | q :: t, 0, r, h, j, hj => by
    simp at h; subst h
    show (valsCe q ++ cevals t)[0 * 9 + j]? = _
    rw [List.getElem?_append_left (by simp [valsCe]; omega)]; simp
  | q :: t, i + 1, r, h, j, hj => by
    show (valsCe q ++ cevals t)[(i + 1) * 9 + j]? = _
    rw [List.getElem?_append_right (by simp [valsCe]; omega)]
    have := cevals_get (M := t) (i := i) (r := r) (by simpa using h) j hj
    rw [← this]; congr 1; simp [valsCe]; omega
theorem ce_inG {w : World} {base n : Nat} {v : Value} {M : List Ce} {T : TypeId} (h : w.ownsRow base T 9 v n (cevals M)) (hn : n = M.length) :
    (v = .slice none 0 0 ∧ M = []) ∨ ∃ g cap, ∃ cs : Array Value, v = .slice (some ⟨g, 0, none⟩) n cap ∧ base ≤ g ∧ n ≤ cap ∧ w.heap[g]? = some (.cells cs T (0, 0)) ∧ cs.size = cap * 9 ∧ ∀ (i : Nat) (x : Ce), M[i]? = some x → InS cs (i * 9) (valsCe x) := by
  rcases h.2 with ⟨rfl, h0⟩ | ⟨g, cap, cur, rfl, hb, hg, hc, _, hs, ht⟩
  · exact .inl ⟨rfl, List.length_eq_zero_iff.1 (by omega)⟩
  · refine .inr ⟨g, cap, cur, rfl, hb, hc, hg, hs, fun i r hr j u hu => ?_⟩
    have hj : j < 9 := by have := (List.getElem?_eq_some_iff.1 hu).1; simpa [valsCe] using this
    have e := (cevals_get hr j hj).trans hu
    rw [← ht, List.getElem?_take] at e
    have : i < M.length := (List.getElem?_eq_some_iff.1 hr).1
    rw [if_pos (by omega)] at e
    simpa using e
theorem CeV.inG {w : World} {g : Nat} {cs : Array Value} {T : TypeId} {M : List Ce} (hh : w.heap[g]? = some (.cells cs T (0, 0))) (hc : ∀ (i : Nat) (x : Ce), M[i]? = some x → InS cs (i * 9) (valsCe x)) : CeV w (some ⟨g, 0, none⟩) M :=
  ⟨fun _ => ⟨g, 0, rfl, ltS hh, fun i r hr => by
    have e : ∀ j u, (valsCe r)[j]? = some u → w.cell? ⟨g, 0 + i * 9 + j, none⟩ = some u := fun j u hu => by rw [Nat.zero_add]; exact (cellS hh _).trans (hc i r hr j u hu)
    exact ⟨e 0 _ rfl, e 1 _ rfl, e 2 _ rfl, e 3 _ rfl, e 4 _ rfl, e 5 _ rfl, e 6 _ rfl, e 7 _ rfl, e 8 _ rfl⟩⟩⟩
theorem CeV.chgG {w w' : World} {A : Option Addr} {L : List Ce} {rb : Nat} (h : CeV w A L) (hc : Chg [rb] w w') (hne : ∀ a, A = some a → a.block ≠ rb) : CeV w' A L :=
  ⟨fun h0 => let ⟨b, off, e, hl, hp⟩ := h.cells h0; ⟨b, off, e, Nat.lt_of_lt_of_le hl hc.size, fun i x hx => by
    have k : ∀ j, w'.cell? ⟨b, j, none⟩ = w.cell? ⟨b, j, none⟩ := fun j => hc.cell (p := ⟨b, j, none⟩) hl (by simp; exact hne _ e)
    have := hp i x hx
    exact ⟨(k _).trans this.1, (k _).trans this.2.1, (k _).trans this.2.2.1, (k _).trans this.2.2.2.1, (k _).trans this.2.2.2.2.1, (k _).trans this.2.2.2.2.2.1, (k _).trans this.2.2.2.2.2.2.1, (k _).trans this.2.2.2.2.2.2.2.1, (k _).trans this.2.2.2.2.2.2.2.2⟩⟩⟩
/-- a list that was drawn, in memory from a block on -/
def CeO (base : Nat) (w : World) (v : Value) (L : List Ce) : Prop := ∃ A c, v = .slice A L.length c ∧ L.length ≤ c ∧ CeV w A L ∧ ∀ a : Addr, A = some a → base ≤ a.block
theorem CeO.chg {base rb : Nat} {w w' : World} {v : Value} {L : List Ce} (h : CeO base w v L) (hc : Chg [rb] w w') (hr : rb < base) : CeO base w' v L := by
  obtain ⟨A, c, e, h1, h2, h3⟩ := h
  exact ⟨A, c, e, h1, h2.chgG hc (fun a ha => by have := h3 a ha; omega), h3⟩
theorem CeO.of {base : Nat} {w : World} {v : Value} {L : List Ce} {T : TypeId} (h : w.ownsRow base T 9 v L.length (cevals L)) : CeO base w v L := by
  rcases ce_inG h rfl with ⟨rfl, rfl⟩ | ⟨g, cap, cs, rfl, hg, hc, hh, hs, hin⟩
  · exact ⟨none, 0, rfl, Nat.le_refl _, CeV.nil _ _, fun a e => by cases e⟩
  · exact ⟨_, cap, rfl, hc, CeV.inG hh hin, fun a e => by cases e; exact hg⟩
/-- a slice of one cell in memory of its own -/
def OneC (lo : Nat) (v : Value) (w : World) : Prop := ∃ (p : Ce) (g : Nat), v = .slice (some ⟨g, 0, none⟩) 1 1 ∧ lo ≤ g ∧ w.heap[g]? = some (.cells #[.int .i64 p.co, .int .i64 p.ro, .int .i64 p.mc, .int .i64 p.mr, .int .i64 p.cw, .int .i64 p.ch, .int .i64 p.sk, .int .i64 p.px, .int .i64 p.py] 34 (0, 0))
end Go.Proofs.YtgdkionmeacalabGreat
end
section
namespace Go.Proofs.YtgdkionmeacalabGreat
open Go.RowKit
set_option linter.unusedVariables false
set_option maxHeartbeats 1000000
attribute [local go_sem] growUpon_value growUpon_skip growUpon_enter
end Go.Proofs.YtgdkionmeacalabGreat
end
section
namespace Go.Proofs.YtgdkionmeacalabGreat
set_option linter.unusedVariables false
/-- each part, without a rest -/
def baseM (n S : Int) (ws : List Int) : List Int := ws.map (fun x => n * x / S)
/-- the first ones that have a weight get 1 more, as many as are missing -/
def onesM : Int → List Int → List Int → List Int
  | m, x :: ws, b :: bs => if 0 < x ∧ 0 < m then (b + 1) :: onesM (m - 1) ws bs else b :: onesM m ws bs
  | _, _, bs => bs
def spreadM (n : Int) (ws : List Int) : List Int :=
  if sumI ws = 0 then (List.replicate ws.length 0).set (ws.length - 1) n
  else onesM (n - sumI (baseM n (sumI ws) ws)) ws (baseM n (sumI ws) ws)
theorem baseM_len (n S : Int) (ws : List Int) : (baseM n S ws).length = ws.length := by simp [baseM]
theorem onesM_len : ∀ {m : Int} {ws bs : List Int}, (onesM m ws bs).length = bs.length
  | m, [], bs => by simp [onesM]
  | m, x :: ws, [] => by simp [onesM]
  | m, x :: ws, b :: bs => by
    unfold onesM
    split <;> simp [onesM_len]
theorem spreadM_len {n : Int} {ws : List Int} : (spreadM n ws).length = ws.length := by
  unfold spreadM
  split
  · simp
  · rw [onesM_len, baseM_len]
theorem onesM_zero : ∀ {m : Int} {ws bs : List Int}, m ≤ 0 → onesM m ws bs = bs
  | m, [], bs, h => by simp [onesM]
  | m, x :: ws, [], h => by simp [onesM]
  | m, x :: ws, b :: bs, h => by
    unfold onesM
    rw [if_neg (by omega), onesM_zero h]
/-- how many have a weight -/
def cntP : List Int → Int
  | [] => 0
  | x :: t => (if 0 < x then 1 else 0) + cntP t
theorem cntP_bd : ∀ ws : List Int, 0 ≤ cntP ws ∧ cntP ws ≤ ws.length
  | [] => by simp [cntP]
  | x :: t => by
    have := cntP_bd t
    simp only [cntP, List.length_cons]
    split <;> omega
theorem sumI_nonneg {L : List Int} (h : ∀ x ∈ L, 0 ≤ x) : 0 ≤ sumI L := by
  induction L with
  | nil => exact Int.le_refl _
  | cons x t ih =>
    have h1 := h x List.mem_cons_self
    have h2 := ih (fun q hq => h q (List.mem_cons_of_mem _ hq))
    simp only [sumI]; omega
/-- what the parts without a rest leave: at least 0, and less than the positive weights are many, or 0 -/
theorem left_bd {n S : Int} (hn : 0 ≤ n) (hS : 0 < S) : ∀ {ws : List Int}, (∀ x ∈ ws, 0 ≤ x) → 0 ≤ n * sumI ws - S * sumI (baseM n S ws) ∧ n * sumI ws - S * sumI (baseM n S ws) ≤ (S - 1) * cntP ws
  | [], _ => by simp [sumI, baseM, cntP]
  | x :: t, h => by
    have ih := left_bd hn hS (ws := t) (fun q hq => h q (List.mem_cons_of_mem _ hq))
    have hx := h x List.mem_cons_self
    have e := Int.mul_ediv_add_emod (n * x) S
    have r0 := Int.emod_nonneg (n * x) (show S ≠ 0 by omega)
    have r1 := Int.emod_lt_of_pos (n * x) hS
    have eb : sumI (baseM n S (x :: t)) = n * x / S + sumI (baseM n S t) := rfl
    rw [eb]
    simp only [sumI, cntP, Int.mul_add]
    generalize n * x / S = q at *
    generalize (n * x) % S = r at *
    generalize n * sumI t = u at *
    generalize S * sumI (baseM n S t) = v at *
    generalize (S - 1) * cntP t = z at *
    by_cases hp : 0 < x
    · simp only [if_pos hp, Int.mul_one]
      omega
    · have hx0 : x = 0 := by omega
      subst hx0
      simp only [Int.mul_zero] at e ⊢
      simp only [Int.lt_irrefl, if_false, Int.mul_zero]
      have hsq : S * q = 0 ∨ S * q ≠ 0 := by omega
      have hr : r = 0 := by
        have : S * q + r = 0 := e
        rcases Int.lt_or_le q 0 with hq | hq
        · have : S * q ≤ S * (-1) := Int.mul_le_mul_of_nonneg_left (by omega) (by omega)
          omega
        · have : 0 ≤ S * q := Int.mul_nonneg (by omega) hq
          omega
      omega
theorem miss_bd {n : Int} {ws : List Int} (hn : 0 ≤ n) (h : ∀ x ∈ ws, 0 ≤ x) (hS : sumI ws ≠ 0) : 0 ≤ n - sumI (baseM n (sumI ws) ws) ∧ n - sumI (baseM n (sumI ws) ws) ≤ cntP ws := by
  have h0 := sumI_nonneg h
  have hS' : 0 < sumI ws := by omega
  obtain ⟨a1, a2⟩ := left_bd hn hS' h
  have hc := (cntP_bd ws).1
  generalize sumI (baseM n (sumI ws) ws) = B at *
  generalize hs : sumI ws = S at *
  have e : n * S - S * B = S * (n - B) := by rw [Int.mul_sub, Int.mul_comm n S]
  rw [e] at a1 a2
  have e2 : (S - 1) * cntP ws = S * cntP ws - cntP ws := by rw [Int.sub_mul, Int.one_mul]
  rw [e2] at a2
  generalize cntP ws = C at *
  constructor
  · rcases Int.lt_or_le (n - B) 0 with hq | hq
    · have : S * (n - B) ≤ S * (-1) := Int.mul_le_mul_of_nonneg_left (by omega) (by omega)
      omega
    · exact hq
  · rcases Int.lt_or_le C (n - B) with hq | hq
    · have : S * (C + 1) ≤ S * (n - B) := Int.mul_le_mul_of_nonneg_left (by omega) (by omega)
      rw [Int.mul_add, Int.mul_one] at this
      omega
    · exact hq
theorem base_bd {n S x : Int} (hn : 0 ≤ n) (hS : 0 < S) (h0 : 0 ≤ x) (hx : x ≤ S) : 0 ≤ n * x / S ∧ n * x / S ≤ n := by
  refine ⟨Int.ediv_nonneg (Int.mul_nonneg hn h0) (by omega), ?_⟩
  have h1 : n * x ≤ n * S := Int.mul_le_mul_of_nonneg_left hx hn
  have h2 := Int.ediv_le_ediv hS h1
  rwa [Int.mul_ediv_cancel _ (by omega)] at h2
theorem mem_le_sum : ∀ {ws : List Int}, (∀ x ∈ ws, 0 ≤ x) → ∀ x ∈ ws, x ≤ sumI ws
  | [], _, x, hx => by cases hx
  | y :: t, h, x, hx => by
    have h1 := h y List.mem_cons_self
    have h2 := sumI_nonneg (L := t) (fun q hq => h q (List.mem_cons_of_mem _ hq))
    simp only [sumI]
    rcases List.mem_cons.1 hx with rfl | hx
    · omega
    · have := mem_le_sum (ws := t) (fun q hq => h q (List.mem_cons_of_mem _ hq)) x hx
      omega
end Go.Proofs.YtgdkionmeacalabGreat
end
section
namespace Go.Proofs.YtgdkionmeacalabGreat
open Go.RowKit
set_option linter.unusedVariables false
set_option maxHeartbeats 1000000
/-- weights of lines -/
def wsOK (ws : List Int) : Prop := (∀ x ∈ ws, 0 ≤ x ∧ x ≤ 5) ∧ 1 ≤ ws.length ∧ ws.length ≤ 5
theorem wsOK.sum {ws : List Int} (h : wsOK ws) : 0 ≤ sumI ws ∧ sumI ws ≤ 25 := by
  have := sumI_bd h.1
  have := h.2.2
  omega
theorem wsOK.smal {ws : List Int} (h : wsOK ws) : Smal 1000000000000000 ws := smal_of (b := 5) (fun x hx => by have := h.1 x hx; omega) (by omega) (by have := h.2.2; omega)
theorem wsOK.nn {ws : List Int} (h : wsOK ws) : ∀ x ∈ ws, 0 ≤ x := fun x hx => (h.1 x hx).1
theorem base_get {n S : Int} {ws : List Int} {k : Nat} {x : Int} (h : ws[k]? = some x) : (baseM n S ws)[k]? = some (n * x / S) := by
  simp [baseM, h]
/-- so far, and 0 -/
def mixM (B : List Int) (k : Nat) : List Int := B.take k ++ List.replicate (B.length - k) 0
theorem mixM_zero (B : List Int) : mixM B 0 = List.replicate B.length 0 := by simp [mixM]
theorem mixM_all (B : List Int) : mixM B B.length = B := by simp [mixM]
theorem mixM_set {B : List Int} {k : Nat} {b : Int} (h : B[k]? = some b) : (mixM B k).set k b = mixM B (k + 1) := by
  obtain ⟨hk, e⟩ := List.getElem?_eq_some_iff.1 h
  unfold mixM
  rw [List.set_append_right _ _ (by rw [List.length_take]; omega)]
  have h1 : B.length - k = (B.length - (k + 1)) + 1 := by omega
  rw [h1, List.replicate_succ]
  have h2 : k - (B.take k).length = 0 := by rw [List.length_take]; omega
  rw [h2, List.set_cons_zero, List.take_succ_eq_append_getElem hk, e]
  simp
theorem mixM_get {B : List Int} {k : Nat} (hk : k < B.length) : ∃ x, (mixM B k)[k]? = some x := by
  unfold mixM
  rw [List.getElem?_append_right (by rw [List.length_take]; omega)]
  have : k - (B.take k).length = 0 := by rw [List.length_take]; omega
  rw [this]
  exact ⟨0, by rw [List.getElem?_replicate, if_pos (by omega)]⟩
theorem mixM_get' {B : List Int} {k : Nat} {b : Int} (h : B[k]? = some b) : (mixM B (k + 1))[k]? = some b := by
  obtain ⟨hk, e⟩ := List.getElem?_eq_some_iff.1 h
  unfold mixM
  rw [List.getElem?_append_left (by rw [List.length_take]; omega), List.getElem?_take, if_pos (by omega), h]
theorem smal_base {n : Int} {ws : List Int} (hn : 0 ≤ n) (hn2 : n ≤ 100000000000000) (h : wsOK ws) (hS : sumI ws ≠ 0) : Smal 1000000000000000 (baseM n (sumI ws) ws) := by
  refine smal_of (b := 100000000000000) (fun x hx => ?_) (by omega) (by rw [baseM_len]; have := h.2.2; omega)
  obtain ⟨y, hy, rfl⟩ := List.mem_map.1 hx
  have h0 := h.sum
  have := base_bd (n := n) (S := sumI ws) (x := y) hn (by omega) (h.nn y hy) (mem_le_sum h.nn y hy)
  omega
theorem last_set {n : Int} {ws : List Int} {j : Nat} (hj : ws.length = j + 1) (h0 : sumI ws = 0) : (List.replicate ws.length (0 : Int)).set j n = spreadM n ws := by
  unfold spreadM
  rw [if_pos h0]
  congr 1
  omega
theorem wadd_mul {n x : Int} (hn : 0 ≤ n) (hn2 : n ≤ 100000000000000) (h0 : 0 ≤ x) (h5 : x ≤ 5) : 0 ≤ n * x ∧ n * x ≤ 500000000000000 :=
  ⟨Int.mul_nonneg hn h0, Int.le_trans (Int.mul_le_mul hn2 h5 h0 (by omega)) (by omega)⟩
theorem drop_consI {L : List Int} {k : Nat} {p : Int} (h : L[k]? = some p) : L.drop k = p :: L.drop (k + 1) := by
  have hk := (List.getElem?_eq_some_iff.1 h).1
  have e := (List.getElem?_eq_some_iff.1 h).2
  rw [List.drop_eq_getElem_cons hk, e]
theorem set_here {P R : List Int} {k : Nat} {y z : Int} (h : P.length = k) : (P ++ y :: R).set k z = P ++ z :: R := by
  rw [List.set_append_right _ _ (by omega)]
  have : k - P.length = 0 := by omega
  rw [this, List.set_cons_zero]
theorem onesM_nil (m : Int) (ws : List Int) : onesM m ws [] = [] := by cases ws <;> simp [onesM]
theorem sum_n (A : Option Addr) (c n : Nat) (L : List Int) (w : World) (h : NV w A L) (hn : n = L.length) (hL : n ≤ 1048576) (hM : Smal 1000000000000000 L) :
    Calls Tryz.prog 164 #[.slice A n c] w fun e w' => e = .returned (.int .i64 (sumI L)) ∧ w = w' := by subst hn; exact sum_v A c L w h hL hM
theorem total_n (A : Option Addr) (c n : Nat) (L : List Int) (w : World) (h : NV w A L) (hn : n = L.length) (hL : n ≤ 1048576) (hM : Smal 1000000000000000 L) :
    Calls Tryz.prog 77 #[.slice A n c] w fun e w' => e = .returned (.int .i64 (sumI L)) ∧ w = w' := by subst hn; exact total_v A c L w h hL hM
set_option maxRecDepth 100000 in
theorem spread_v (A : Option Addr) (c : Nat) (n : Int) (ws : List Int) (w : World) (h : NV w A ws) (hw : wsOK ws) (hn : 0 ≤ n) (hn2 : n ≤ 100000000000000) :
    Calls Tryz.prog 173 #[.int .i64 n, .slice A ws.length c] w fun e w' => e = .returned (.slice (some ⟨w.heap.size, 0, none⟩) ws.length ws.length) ∧ IB w' w.heap.size (spreadM n ws) ∧ Below w.heap.size w w' := by
  obtain ⟨hw1, hw2, hw3⟩ := id hw
  obtain ⟨hs0, hs1⟩ := hw.sum
  have hmk : ∀ w : World, (Instr.makeSlice 42 (.int .i64 (ws.length : Int)) (.int .i64 (ws.length : Int))).run Tryz.prog w = .ok (.slice (some ⟨w.heap.size, 0, none⟩) ws.length ws.length) (w.alloc (.cells (ivals (List.replicate ws.length 0)) 3)) := fun w => madeI ws.length w (by omega)
  have HW := Lib.hid hw
  have HW1 := Lib.hid hw1
  obtain ⟨j, hj⟩ : ∃ j, ws.length = j + 1 := ⟨ws.length - 1, by omega⟩
  have HJ := Lib.hid hj
  clear hw1 hw hj
  go_enter Tryz.func173, Tryz.ntmps173
  go_wp2_with fail
  have hI0 := makeI_b ws.length w
  have hB0 : Below w.heap.size w (w.alloc (.cells (ivals (List.replicate ws.length 0)) 3)) := balloc (Below.refl _ _)
  obtain ⟨W, hWe⟩ : ∃ W, w.alloc (.cells (ivals (List.replicate ws.length 0)) 3) = W := ⟨_, rfl⟩
  rw [hWe] at hI0 hB0 ⊢
  have HI := Lib.hid hI0
  have HB := Lib.hid hB0
  have HNW := Lib.hid (h.keep hB0)
  clear hWe hI0 hB0 hmk
  with_reducible refine (sum_v A c ws _ HNW.out (by omega) HW.out.smal).mono ?_
  rintro e w1 ⟨rfl, rfl⟩
  by_cases hS : sumI ws = 0
  · have hz : (sumI ws == 0) = true := by simpa using hS
    have hsp := last_set (n := n) (by rw [HJ.out] : ws.length = j + 1) hS
    have e1 : (ws.length : Int) - 1 = (j : Int) := by have := HJ.out; omega
    have e2 : IntKind.i64.wrap ((ws.length : Int) - 1) = (j : Int) := by rw [e1]; exact IntWalk.i64_in _ (by omega)
    have hjl : j < ws.length := by have := HJ.out; omega
    have c0 := HI.out.cell (i := j) (x := 0) (by simp [hjl])
    have f0 := HI.out.frozen j
    have HF := Lib.hid (show IB (W.setCell ⟨w.heap.size, j, none⟩ (.int .i64 n)) w.heap.size (spreadM n ws) by have := HI.out.set j n; rwa [hsp] at this)
    have HB2 := Lib.hid (HB.out.setCell (p := ⟨w.heap.size, j, none⟩) (Nat.le_refl _) (.int .i64 n))
    clear hS hsp HI HB
    go_wp2
    go_ret
    exact ⟨rfl, HF.out, HB2.out⟩
  · have hz : (sumI ws == 0) = false := by simpa using hS
    obtain ⟨S, hSe⟩ : ∃ S, sumI ws = S := ⟨_, rfl⟩
    have hS1 : 0 < S := by omega
    have hS2 : S ≤ 25 := by omega
    have hbl := baseM_len n S ws
    have hmb := miss_bd hn HW.out.nn hS
    have hsm := smal_base hn hn2 HW.out hS
    have hsp : spreadM n ws = onesM (n - sumI (baseM n S ws)) ws (baseM n S ws) := by unfold spreadM; rw [if_neg hS, hSe]
    rw [hSe] at hz hmb hsm
    have hcb := cntP_bd ws
    have HSP := Lib.hid hsp
    have HMB := Lib.hid hmb
    have HSM := Lib.hid hsm
    have HSE := Lib.hid hSe
    have HBL := Lib.hid hbl
    rw [hSe]
    have hI0 : IB W w.heap.size (mixM (baseM n S ws) 0) := by rw [mixM_zero, hbl]; exact HI.out
    have HI0 := Lib.hid hI0
    have hcb2 : cntP ws ≤ 5 := by omega
    have hcb1 : 0 ≤ cntP ws := by omega
    clear hS hsp hmb hsm hbl hSe HI hI0 hs0 hs1 hcb
    go_wp2_with fail
    go_loopw [26] (fun i wr => ∃ k : Nat, k ≤ ws.length ∧ i = .int .i64 k ∧ IB wr w.heap.size (mixM (baseM n S ws) k) ∧ Below w.heap.size w wr) (fun i _ => ws.length - (intOf i).toNat)
    case atStart => exact ⟨0, by omega, rfl, HI0.out, HB.out⟩
    case round =>
      obtain ⟨k, hk, rfl, hI, hBr⟩ := hrel
      clear HI0
      by_cases hlt : k < ws.length
      · have hd : decide ((k : Int) < (ws.length : Int)) = true := by simpa using hlt
        obtain ⟨b, off, rfl, hb, hp⟩ := (h.keep hBr).cells (by omega)
        have hget : ws[k]? = some ws[k] := List.getElem?_eq_getElem hlt
        have c0 := hp k _ hget
        have hx01 := HW1.out _ (List.getElem_mem hlt)
        generalize hx : ws[k] = x at *
        obtain ⟨hx0, hx1⟩ := hx01
        obtain ⟨hm0, hm1⟩ := wadd_mul hn hn2 hx0 hx1
        have hbk := base_get (n := n) (S := S) hget
        obtain ⟨y, hy⟩ := mixM_get (B := baseM n S ws) (k := k) (by rw [HBL.out]; exact hlt)
        have d0 := hI.cell hy
        have f0 := hI.frozen k
        have hI2 := hI.set k (n * x / S)
        rw [mixM_set hbk] at hI2
        have HI2 := Lib.hid hI2
        have HB2 := Lib.hid (hBr.setCell (p := ⟨w.heap.size, k, none⟩) (Nat.le_refl _) (.int .i64 (n * x / S)))
        clear hI hI2 hBr hp hget hx hy hbk
        go_wp2
        go_roundw
        case rel => exact ⟨k + 1, by omega, by go_num, HI2.out, HB2.out⟩
        case measure => simp [intOf]; omega
      · have hd : decide ((k : Int) < (ws.length : Int)) = false := by simp; omega
        obtain rfl : k = ws.length := by omega
        rw [← HBL.out, mixM_all] at hI
        have HIB := Lib.hid hI
        have HBR := Lib.hid hBr
        clear hI hBr
        go_wp2_with fail
        with_reducible refine (sum_n _ ws.length ws.length (baseM n S ws) _ HIB.out.nv HBL.out.symm (by omega) HSM.out).mono ?_
        rintro e w2 ⟨rfl, rfl⟩
        obtain ⟨m, hm⟩ : ∃ m, n - sumI (baseM n S ws) = m := ⟨_, rfl⟩
        have hmb := HMB.out
        rw [hm] at hmb
        obtain ⟨hm0, hm1⟩ := hmb
        have hmw : IntKind.i64.wrap (n - sumI (baseM n S ws)) = m := by rw [hm]; exact IntWalk.i64_in _ (by omega)
        have hsp := HSP.out
        rw [hm] at hsp
        have HSP2 := Lib.hid hsp
        have hcc : m ≤ 5 := by omega
        clear HSP hsp HMB hm
        go_wp2_with fail
        go_loopw [8, 47] (fun mv i wr => ∃ (k : Nat) (m' : Int) (P : List Int), k ≤ ws.length ∧ i = .int .i64 k ∧ mv = .int .i64 m' ∧ P.length = k ∧ m' ≤ 5 ∧ IB wr w.heap.size (P ++ (baseM n S ws).drop k) ∧ P ++ onesM m' (ws.drop k) ((baseM n S ws).drop k) = spreadM n ws ∧ Below w.heap.size w wr) (fun _ i _ => ws.length - (intOf i).toNat)
        case atStart => exact ⟨0, m, [], by omega, rfl, rfl, rfl, hcc, by simpa using HIB.out, by simpa using HSP2.out.symm, HBR.out⟩
        case round =>
          obtain ⟨k, m', P, hk, rfl, rfl, hP, hm5, hI, hf, hBr⟩ := hrel
          clear HIB HBR HSP2 hmw hm0 hm1 hcc
          by_cases hlt : k < ws.length
          · have hd : decide ((k : Int) < (ws.length : Int)) = true := by simpa using hlt
            obtain ⟨b, off, rfl, hb, hp⟩ := (h.keep hBr).cells (by omega)
            have hget : ws[k]? = some ws[k] := List.getElem?_eq_getElem hlt
            have c0 := hp k _ hget
            have hx01 := HW1.out _ (List.getElem_mem hlt)
            have hbk := base_get (n := n) (S := S) hget
            have hdw := drop_consI hget
            generalize hx : ws[k] = x at *
            have hdb := drop_consI hbk
            obtain ⟨hx0, hx1⟩ := hx01
            have hbb : 0 ≤ n * x / S ∧ n * x / S ≤ 500000000000000 := by
              obtain ⟨q0, q1⟩ := wadd_mul hn hn2 hx0 hx1
              exact ⟨Int.ediv_nonneg q0 (by omega), Int.le_trans (Int.ediv_le_self S q0) q1⟩
            generalize n * x / S = y at *
            obtain ⟨hb0, hb1⟩ := hbb
            rw [hdb] at hI hf
            rw [hdw] at hf
            have d0 := hI.cell (i := k) (x := y) (by rw [List.getElem?_append_right (by omega), hP, Nat.sub_self]; rfl)
            have f0 := hI.frozen k
            have HDW := Lib.hid hdw
            by_cases hxp : 0 < x
            · have e1 : decide (x > 0) = true := by simpa using hxp
              have e1' : decide (0 < x) = true := by simpa using hxp
              by_cases hmp : 0 < m'
              · have e2 : decide (m' > 0) = true := by simpa using hmp
                have e2' : decide (0 < m') = true := by simpa using hmp
                rw [onesM, if_pos ⟨hxp, hmp⟩] at hf
                have hI2 := hI.set k (y + 1)
                rw [set_here hP] at hI2
                have HI2 := Lib.hid hI2
                have HF2 := Lib.hid hf
                have HP := Lib.hid hP
                have HB2 := Lib.hid (hBr.setCell (p := ⟨w.heap.size, k, none⟩) (Nat.le_refl _) (.int .i64 (y + 1)))
                have HXP := Lib.hid hxp
                have HMP := Lib.hid hmp
                clear hI hI2 hBr hp hget hx hbk hdb hdw hf hP hxp
                go_wp2
                go_roundw
                case rel => exact ⟨k + 1, m' - 1, P ++ [y + 1], by omega, by go_num, rfl, by simp [HP.out], by omega, by simpa using HI2.out, by simpa using HF2.out, HB2.out⟩
                case measure => simp [intOf]; omega
              · have e2 : decide (m' > 0) = false := by simpa using hmp
                have e2' : decide (0 < m') = false := by simpa using hmp
                rw [onesM, if_neg (by omega)] at hf
                have HI2 := Lib.hid hI
                have HF2 := Lib.hid hf
                have HP := Lib.hid hP
                have HB2 := Lib.hid hBr
                have HXP := Lib.hid hxp
                have HMP := Lib.hid hmp
                clear hI hBr hp hget hx hbk hdb hdw hf hP hxp hmp
                go_wp2
                go_roundw
                case rel => exact ⟨k + 1, m', P ++ [y], by omega, by go_num, rfl, by simp [HP.out], by omega, by simpa using HI2.out, by simpa using HF2.out, HB2.out⟩
                case measure => simp [intOf]; omega
            · have e1 : decide (x > 0) = false := by simpa using hxp
              have e1' : decide (0 < x) = false := by simpa using hxp
              rw [onesM, if_neg (by omega)] at hf
              have HI2 := Lib.hid hI
              have HF2 := Lib.hid hf
              have HP := Lib.hid hP
              have HB2 := Lib.hid hBr
              have HXP := Lib.hid hxp
              clear hI hBr hp hget hx hbk hdb hdw hf hP hxp
              go_wp2
              go_roundw
              case rel => exact ⟨k + 1, m', P ++ [y], by omega, by go_num, rfl, by simp [HP.out], by omega, by simpa using HI2.out, by simpa using HF2.out, HB2.out⟩
              case measure => simp [intOf]; omega
          · have hd : decide ((k : Int) < (ws.length : Int)) = false := by simp; omega
            have hk' : k = ws.length := by omega
            have hdb : (baseM n S ws).drop k = [] := List.drop_eq_nil_of_le (by rw [HBL.out]; omega)
            rw [hdb, onesM_nil, List.append_nil] at hf
            rw [hdb, List.append_nil, hf] at hI
            have HI2 := Lib.hid hI
            have HB2 := Lib.hid hBr
            clear hI hBr hf hdb hP
            go_wp2
            go_ret
            exact ⟨rfl, HI2.out, HB2.out⟩
end Go.Proofs.YtgdkionmeacalabGreat
end
section
namespace Go.Proofs.YtgdkionmeacalabGreat
open Go.RowKit
set_option linter.unusedVariables false
set_option maxHeartbeats 1000000
set_option maxRecDepth 100000 in
theorem sspread_v (A : Option Addr) (c : Nat) (n : Int) (ws : List Int) (w : World) (h : NV w A ws) (hw : wsOK ws) (hn : 0 ≤ n) (hn2 : n ≤ 100000000000000) :
    Calls Tryz.prog 111 #[.int .i64 n, .slice A ws.length c] w fun e w' => e = .returned (.slice (some ⟨w.heap.size, 0, none⟩) ws.length ws.length) ∧ IB w' w.heap.size (spreadM n ws) ∧ Below w.heap.size w w' := by
  obtain ⟨hw1, hw2, hw3⟩ := id hw
  obtain ⟨hs0, hs1⟩ := hw.sum
  have hmk : ∀ w : World, (Instr.makeSlice 42 (.int .i64 (ws.length : Int)) (.int .i64 (ws.length : Int))).run Tryz.prog w = .ok (.slice (some ⟨w.heap.size, 0, none⟩) ws.length ws.length) (w.alloc (.cells (ivals (List.replicate ws.length 0)) 3)) := fun w => madeI ws.length w (by omega)
  have HW := Lib.hid hw
  have HW1 := Lib.hid hw1
  obtain ⟨j, hj⟩ : ∃ j, ws.length = j + 1 := ⟨ws.length - 1, by omega⟩
  have HJ := Lib.hid hj
  clear hw1 hw hj
  go_enter Tryz.func111, Tryz.ntmps111
  go_wp2_with fail
  have hI0 := makeI_b ws.length w
  have hB0 : Below w.heap.size w (w.alloc (.cells (ivals (List.replicate ws.length 0)) 3)) := balloc (Below.refl _ _)
  obtain ⟨W, hWe⟩ : ∃ W, w.alloc (.cells (ivals (List.replicate ws.length 0)) 3) = W := ⟨_, rfl⟩
  rw [hWe] at hI0 hB0 ⊢
  have HI := Lib.hid hI0
  have HB := Lib.hid hB0
  have HNW := Lib.hid (h.keep hB0)
  clear hWe hI0 hB0 hmk
  with_reducible refine (total_v A c ws _ HNW.out (by omega) HW.out.smal).mono ?_
  rintro e w1 ⟨rfl, rfl⟩
  by_cases hS : sumI ws = 0
  · have hz : (sumI ws == 0) = true := by simpa using hS
    have hsp := last_set (n := n) (by rw [HJ.out] : ws.length = j + 1) hS
    have e1 : (ws.length : Int) - 1 = (j : Int) := by have := HJ.out; omega
    have e2 : IntKind.i64.wrap ((ws.length : Int) - 1) = (j : Int) := by rw [e1]; exact IntWalk.i64_in _ (by omega)
    have hjl : j < ws.length := by have := HJ.out; omega
    have hg0 : decide ((ws.length : Int) > 0) = true := by simp; omega
    have c0 := HI.out.cell (i := j) (x := 0) (by simp [hjl])
    have f0 := HI.out.frozen j
    have HF := Lib.hid (show IB (W.setCell ⟨w.heap.size, j, none⟩ (.int .i64 n)) w.heap.size (spreadM n ws) by have := HI.out.set j n; rwa [hsp] at this)
    have HB2 := Lib.hid (HB.out.setCell (p := ⟨w.heap.size, j, none⟩) (Nat.le_refl _) (.int .i64 n))
    clear hS hsp HI HB
    go_wp2
    go_ret
    exact ⟨rfl, HF.out, HB2.out⟩
  · have hz : (sumI ws == 0) = false := by simpa using hS
    obtain ⟨S, hSe⟩ : ∃ S, sumI ws = S := ⟨_, rfl⟩
    have hS1 : 0 < S := by omega
    have hS2 : S ≤ 25 := by omega
    have hbl := baseM_len n S ws
    have hmb := miss_bd hn HW.out.nn hS
    have hsm := smal_base hn hn2 HW.out hS
    have hsp : spreadM n ws = onesM (n - sumI (baseM n S ws)) ws (baseM n S ws) := by unfold spreadM; rw [if_neg hS, hSe]
    rw [hSe] at hz hmb hsm
    have hcb := cntP_bd ws
    have HSP := Lib.hid hsp
    have HMB := Lib.hid hmb
    have HSM := Lib.hid hsm
    have HSE := Lib.hid hSe
    have HBL := Lib.hid hbl
    rw [hSe]
    have hI0 : IB W w.heap.size (mixM (baseM n S ws) 0) := by rw [mixM_zero, hbl]; exact HI.out
    have HI0 := Lib.hid hI0
    have hcb2 : cntP ws ≤ 5 := by omega
    have hcb1 : 0 ≤ cntP ws := by omega
    clear hS hsp hmb hsm hbl hSe HI hI0 hs0 hs1 hcb
    go_wp2_with fail
    have hsb : ∀ k, k ≤ ws.length → -500000000000000 ≤ sumI ((baseM n S ws).take k) ∧ sumI ((baseM n S ws).take k) ≤ 500000000000000 := fun k hk => by
      have := sumI_bd (lo := 0) (hi := 100000000000000) (L := (baseM n S ws).take k) (fun y hy => by
        obtain ⟨x, hx, rfl⟩ := List.mem_map.1 (List.mem_of_mem_take hy)
        have h1 := mem_le_sum HW.out.nn x hx
        rw [HSE.out] at h1
        have := base_bd (n := n) (S := S) (x := x) hn hS1 (HW.out.nn x hx) h1
        omega)
      have h2 : ((baseM n S ws).take k).length ≤ 5 := by rw [List.length_take, HBL.out]; omega
      omega
    have HSB := Lib.hid hsb
    clear hsb
    go_loopw [7, 8] (fun lv i wr => ∃ k : Nat, k ≤ ws.length ∧ i = .int .i64 k ∧ lv = .int .i64 (n - sumI ((baseM n S ws).take k)) ∧ IB wr w.heap.size (mixM (baseM n S ws) k) ∧ Below w.heap.size w wr) (fun _ i _ => ws.length - (intOf i).toNat)
    case atStart => exact ⟨0, by omega, rfl, by simp [sumI], HI0.out, HB.out⟩
    case round =>
      obtain ⟨k, hk, rfl, rfl, hI, hBr⟩ := hrel
      clear HI0
      by_cases hlt : k < ws.length
      · have hd : decide ((k : Int) < (ws.length : Int)) = true := by simpa using hlt
        obtain ⟨b, off, rfl, hb, hp⟩ := (h.keep hBr).cells (by omega)
        have hget : ws[k]? = some ws[k] := List.getElem?_eq_getElem hlt
        have c0 := hp k _ hget
        have hx01 := HW1.out _ (List.getElem_mem hlt)
        generalize hx : ws[k] = x at *
        obtain ⟨hx0, hx1⟩ := hx01
        obtain ⟨hm0, hm1⟩ := wadd_mul hn hn2 hx0 hx1
        have hbk := base_get (n := n) (S := S) hget
        obtain ⟨y, hy⟩ := mixM_get (B := baseM n S ws) (k := k) (by rw [HBL.out]; exact hlt)
        have d0 := hI.cell hy
        have f0 := hI.frozen k
        have hI2 := hI.set k (n * x / S)
        rw [mixM_set hbk] at hI2
        have e0 := hI2.cell (mixM_get' hbk)
        have hsn := sumI_snoc hbk
        have b1 := HSB.out k hk
        have b2 := HSB.out (k + 1) (by omega)
        rw [hsn] at b2
        have HI2 := Lib.hid hI2
        have HB2 := Lib.hid (hBr.setCell (p := ⟨w.heap.size, k, none⟩) (Nat.le_refl _) (.int .i64 (n * x / S)))
        obtain ⟨q, hq⟩ : ∃ q, sumI ((baseM n S ws).take k) = q := ⟨_, rfl⟩
        rw [hq] at b1 b2 hsn
        rw [hq]
        have HSN := Lib.hid hsn
        have hbb : 0 ≤ n * x / S ∧ n * x / S ≤ 500000000000000 := ⟨Int.ediv_nonneg hm0 (by omega), Int.le_trans (Int.ediv_le_self S hm0) hm1⟩
        obtain ⟨hbb0, hbb1⟩ := hbb
        clear hI hI2 hBr hp hget hx hy hbk hsn hq
        go_wp2
        go_roundw
        case rel => exact ⟨k + 1, by omega, by go_num, by rw [HSN.out]; go_num, HI2.out, HB2.out⟩
        case measure => simp [intOf]; omega
      · have hd : decide ((k : Int) < (ws.length : Int)) = false := by simp; omega
        obtain rfl : k = ws.length := by omega
        have htl : (baseM n S ws).take ws.length = baseM n S ws := List.take_of_length_le (by rw [HBL.out]; omega)
        rw [htl]
        rw [← HBL.out, mixM_all] at hI
        have HIB := Lib.hid hI
        have HBR := Lib.hid hBr
        clear hI hBr htl
        obtain ⟨m, hm⟩ : ∃ m, n - sumI (baseM n S ws) = m := ⟨_, rfl⟩
        have hmb := HMB.out
        rw [hm] at hmb
        obtain ⟨hm0, hm1⟩ := hmb
        have hsp := HSP.out
        rw [hm] at hsp
        have HSP2 := Lib.hid hsp
        have hcc : m ≤ 5 := by omega
        rw [hm]
        clear HSP hsp HMB hm
        go_wp2_with fail
        go_loopw [7, 9] (fun mv i wr => ∃ (k : Nat) (m' : Int) (P : List Int), k ≤ ws.length ∧ i = .int .i64 k ∧ mv = .int .i64 m' ∧ P.length = k ∧ m' ≤ 5 ∧ m' ≤ cntP (ws.drop k) ∧ IB wr w.heap.size (P ++ (baseM n S ws).drop k) ∧ P ++ onesM m' (ws.drop k) ((baseM n S ws).drop k) = spreadM n ws ∧ Below w.heap.size w wr) (fun _ i _ => ws.length - (intOf i).toNat)
        case atStart => exact ⟨0, m, [], by omega, rfl, rfl, rfl, hcc, by simpa using hm1, by simpa using HIB.out, by simpa using HSP2.out.symm, HBR.out⟩
        case round =>
          obtain ⟨k, m', P, hk, rfl, rfl, hP, hm5, hmc, hI, hf, hBr⟩ := hrel
          clear HIB HBR HSP2 hm0 hm1 hcc
          by_cases hmp : 0 < m'
          · have hlt : k < ws.length := by
              rcases Nat.lt_or_ge k ws.length with h1 | h1
              · exact h1
              · rw [List.drop_eq_nil_of_le h1] at hmc; simp [cntP] at hmc; omega
            have e2 : decide (m' > 0) = true := by simpa using hmp
            have e2' : decide (0 < m') = true := by simpa using hmp
            obtain ⟨b, off, rfl, hb, hp⟩ := (h.keep hBr).cells (by omega)
            have hget : ws[k]? = some ws[k] := List.getElem?_eq_getElem hlt
            have c0 := hp k _ hget
            have hx01 := HW1.out _ (List.getElem_mem hlt)
            have hbk := base_get (n := n) (S := S) hget
            have hdw := drop_consI hget
            generalize hx : ws[k] = x at *
            have hdb := drop_consI hbk
            obtain ⟨hx0, hx1⟩ := hx01
            have hbb : 0 ≤ n * x / S ∧ n * x / S ≤ 500000000000000 := by
              obtain ⟨q0, q1⟩ := wadd_mul hn hn2 hx0 hx1
              exact ⟨Int.ediv_nonneg q0 (by omega), Int.le_trans (Int.ediv_le_self S q0) q1⟩
            generalize n * x / S = y at *
            obtain ⟨hb0, hb1⟩ := hbb
            rw [hdb] at hI hf
            rw [hdw] at hf hmc
            have d0 := hI.cell (i := k) (x := y) (by rw [List.getElem?_append_right (by omega), hP, Nat.sub_self]; rfl)
            have f0 := hI.frozen k
            simp only [cntP] at hmc
            by_cases hxp : 0 < x
            · have e1 : decide (x > 0) = true := by simpa using hxp
              have e1' : decide (0 < x) = true := by simpa using hxp
              rw [if_pos hxp] at hmc
              rw [onesM, if_pos ⟨hxp, hmp⟩] at hf
              have hI2 := hI.set k (y + 1)
              rw [set_here hP] at hI2
              have HI2 := Lib.hid hI2
              have HF2 := Lib.hid hf
              have HP := Lib.hid hP
              have HB2 := Lib.hid (hBr.setCell (p := ⟨w.heap.size, k, none⟩) (Nat.le_refl _) (.int .i64 (y + 1)))
              have HXP := Lib.hid hxp
              have HMC := Lib.hid hmc
              clear hI hI2 hBr hp hget hx hbk hdb hdw hf hP hxp hmc
              go_wp2
              go_roundw
              case rel => exact ⟨k + 1, m' - 1, P ++ [y + 1], by omega, by go_num, rfl, by simp [HP.out], by omega, by have := HMC.out; omega, by simpa using HI2.out, by simpa using HF2.out, HB2.out⟩
              case measure => simp [intOf]; omega
            · have e1 : decide (x > 0) = false := by simpa using hxp
              have e1' : decide (0 < x) = false := by simpa using hxp
              rw [if_neg hxp] at hmc
              rw [onesM, if_neg (by omega)] at hf
              have HI2 := Lib.hid hI
              have HF2 := Lib.hid hf
              have HP := Lib.hid hP
              have HB2 := Lib.hid hBr
              have HXP := Lib.hid hxp
              have HMC := Lib.hid hmc
              have HMP := Lib.hid hmp
              clear hI hBr hp hget hx hbk hdb hdw hf hP hxp hmc hmp
              go_wp2
              go_roundw
              case rel => exact ⟨k + 1, m', P ++ [y], by omega, by go_num, rfl, by simp [HP.out], by omega, by have := HMC.out; omega, by simpa using HI2.out, by simpa using HF2.out, HB2.out⟩
              case measure => simp [intOf]; omega
          · have e2 : decide (m' > 0) = false := by simpa using hmp
            have e2' : decide (0 < m') = false := by simpa using hmp
            rw [onesM_zero (by omega)] at hf
            rw [hf] at hI
            have HI2 := Lib.hid hI
            have HB2 := Lib.hid hBr
            clear hI hBr hf hP hmc
            go_wp2
            go_ret
            exact ⟨rfl, HI2.out, HB2.out⟩
end Go.Proofs.YtgdkionmeacalabGreat
end
section
namespace Go.Proofs.YtgdkionmeacalabGreat
open Go.RowKit
set_option linter.unusedVariables false
set_option maxHeartbeats 1000000
attribute [local go_sem] growUpon_value growUpon_skip growUpon_enter
def wB (x : Int) : Bool := rng x 0 5
def sbB (n : Int) (ws : List Int) : Bool := rng n 0 400 && (rng ws.length 1 5 && ws.all wB)
theorem within_w (n a b : Int) (t : Bool) (w : World) (h : rng n a b = t) : Calls Tryz.prog 45 #[.int .i64 n, .int .i64 a, .int .i64 b] w fun e w' => e = .returned (.bool t) ∧ w = w' := by rw [← h]; exact within_any n a b w
theorem inRange_w (n a b : Int) (t : Bool) (w : World) (h : rng n a b = t) : Calls Tryz.prog 52 #[.int .i64 n, .int .i64 a, .int .i64 b] w fun e w' => e = .returned (.bool t) ∧ w = w' := by rw [← h]; exact inRange_any n a b w
theorem inRange_b (n : Int) (t : Bool) (w : World) (h : wB n = t) : Calls Tryz.prog 52 #[.int .i64 n, .int .i64 0, .int .i64 5] w fun e w' => e = .returned (.bool t) ∧ w = w' := inRange_w n 0 5 t w h
theorem validWeight_w (n : Int) (t : Bool) (w : World) (h : wB n = t) : Calls Tryz.prog 129 #[.int .i64 n] w fun e w' => e = .returned (.bool t) ∧ w = w' := by
  go_enter Tryz.func129, Tryz.ntmps129
  go_wp2_with (go_at_call 45; refine (within_w _ _ _ t _ h).mono ?_; rintro e w' ⟨rfl, rfl⟩)
  go_ret
  exact ⟨rfl, rfl⟩
end Go.Proofs.YtgdkionmeacalabGreat
end
section
namespace Go.Proofs.YtgdkionmeacalabGreat
open Go.RowKit
set_option linter.unusedVariables false
set_option maxHeartbeats 1000000
def lineB (l : Ln) : Bool := wB l.wt && rng l.mi 0 30
def linesB (L : List Ln) : Bool := rng L.length 1 5 && L.all lineB
def runB (a m n : Int) : Bool := rng a 0 (n - 1) && rng m 1 (n - a)
def spanB (n : Int) (s : Sp) : Bool := runB s.sa s.many n && rng s.need 0 50
def spansB (n : Int) (L : List Sp) : Bool := decide ((L.length : Int) ≤ 8) && L.all (spanB n)
theorem all_snocG {α : Type} {f : α → Bool} {L : List α} {k : Nat} {p : α} (h : L[k]? = some p) : (L.take (k + 1)).all f = ((L.take k).all f && f p) := by
  have hk : k < L.length := (List.getElem?_eq_some_iff.1 h).1
  have e : L[k] = p := (List.getElem?_eq_some_iff.1 h).2
  rw [List.take_succ_eq_append_getElem hk, e]
  simp
theorem all_falseG {α : Type} {f : α → Bool} {L : List α} {k : Nat} {p : α} (h : L[k]? = some p) (hp : f p = false) : L.all f = false := by
  rw [Bool.eq_false_iff]
  intro hh
  have h1 := List.all_eq_true.1 hh p (List.mem_of_getElem? h)
  rw [hp] at h1
  cases h1
theorem validLine_v (l : Ln) (b : Bool) (w : World) (hb : lineB l = b) : Calls Tryz.prog 124 #[.agg #[.int .i64 l.wt, .int .i64 l.mi]] w fun e w' => e = .returned (.bool b) ∧ Below w.heap.size w w' := by
  cases h1 : wB l.wt
  · have hbf : b = false := by rw [← hb]; simp [lineB, h1]
    subst hbf
    go_enter Tryz.func124, Tryz.ntmps124
    go_wp2_with fail
    with_reducible refine (validWeight_w _ false _ h1).mono ?_
    rintro e w1 ⟨rfl, rfl⟩
    go_wp2
    go_ret
    exact ⟨rfl, balloc (Below.refl _ _)⟩
  · have h2 : rng l.mi 0 30 = b := by rw [← hb]; simp [lineB, h1]
    cases b
    all_goals
      go_enter Tryz.func124, Tryz.ntmps124
      go_wp2_with fail
      with_reducible refine (validWeight_w _ true _ h1).mono ?_
      rintro e w1 ⟨rfl, rfl⟩
      go_wp2_with fail
      with_reducible refine (within_w _ 0 30 _ _ h2).mono ?_
      rintro e w1 ⟨rfl, rfl⟩
      go_wp2
      go_ret
      exact ⟨rfl, balloc (Below.refl _ _)⟩
set_option maxRecDepth 100000 in
theorem allOfLn_v (A : Option Addr) (c : Nat) (L : List Ln) (b : Bool) (w : World) (h : LnV w A L) (hL : L.length ≤ 1048576) (hb0 : L.all lineB = b) :
    Calls Tryz.prog 123 #[.slice A L.length c, .func (.func 124) #[] #[]] w fun e w' => e = .returned (.bool b) ∧ Below w.heap.size w w' := by
  have HB0 := Lib.hid hb0
  clear hb0
  go_enter Tryz.func123, Tryz.ntmps123
  go_wp2_with fail
  go_loopw [9] (fun i wr => ∃ k : Nat, k ≤ L.length ∧ i = .int .i64 k ∧ (L.take k).all lineB = true ∧ Below w.heap.size w wr) (fun i _ => L.length - (intOf i).toNat)
  case atStart => exact ⟨0, by omega, rfl, rfl, Below.refl _ _⟩
  case round =>
    obtain ⟨k, hk, rfl, hok, hB⟩ := hrel
    by_cases hlt : k < L.length
    · have hd : decide ((k : Int) < (L.length : Int)) = true := by simpa using hlt
      obtain ⟨b', off, rfl, hb', hp⟩ := (h.keep hB).cells (by omega)
      have hget : L[k]? = some L[k] := List.getElem?_eq_getElem hlt
      obtain ⟨c0, c1⟩ := hp k _ hget
      generalize hx : L[k] = p at *
      have HG := Lib.hid hget
      have HX := Lib.hid hx
      have HO := Lib.hid hok
      have HBB := Lib.hid hB
      clear hget hx hok hB hp
      cases hv : lineB p
      all_goals
        have Hv := Lib.hid hv
        clear hv
        go_wp2_with fail
        first | (with_reducible refine (validLine_v p false _ Hv.out).mono ?_) | (with_reducible refine (validLine_v p true _ Hv.out).mono ?_)
        rintro e w1 ⟨rfl, hb1⟩
        replace HBB := Lib.hid (bkeep2 (balloc HBB.out) hb1)
        clear hb1 c0 c1
        go_wp2
      · go_ret
        exact ⟨ret_bool (by rw [← HB0.out]; exact (all_falseG HG.out Hv.out).symm), HBB.out⟩
      · go_roundw
        case rel => exact ⟨k + 1, by omega, by go_num, by rw [all_snocG HG.out, HO.out, Hv.out]; rfl, HBB.out⟩
        case measure => simp [intOf]; omega
    · have hd : decide ((k : Int) < (L.length : Int)) = false := decide_eq_false (by omega)
      have he : L.take k = L := List.take_of_length_le (by omega)
      rw [he] at hok
      have HO := Lib.hid hok
      have HBB := Lib.hid hB
      clear hok hB he
      go_wp2
      go_ret
      exact ⟨ret_bool (by rw [← HB0.out, HO.out]), HBB.out⟩
theorem validLines_v (A : Option Addr) (c : Nat) (L : List Ln) (b : Bool) (w : World) (h : LnV w A L) (hL : L.length ≤ 1048576) (hb : linesB L = b) :
    Calls Tryz.prog 102 #[.slice A L.length c] w fun e w' => e = .returned (.bool b) ∧ Below w.heap.size w w' := by
  cases h1 : rng (L.length : Int) 1 5
  · have hbf : b = false := by rw [← hb]; simp [linesB, h1]
    subst hbf
    go_enter Tryz.func102, Tryz.ntmps102
    go_wp2_with fail
    with_reducible refine (within_w _ 1 5 false _ h1).mono ?_
    rintro e w1 ⟨rfl, rfl⟩
    go_wp2
    go_ret
    exact ⟨rfl, Below.refl _ _⟩
  · have h2 : L.all lineB = b := by rw [← hb]; simp [linesB, h1]
    cases b
    all_goals
      go_enter Tryz.func102, Tryz.ntmps102
      go_wp2_with fail
      with_reducible refine (within_w _ 1 5 true _ h1).mono ?_
      rintro e w1 ⟨rfl, rfl⟩
      go_wp2_with fail
      with_reducible refine (allOfLn_v A c L _ _ h hL h2).mono ?_
      rintro e w1 ⟨rfl, hb1⟩
      have HB := Lib.hid hb1
      clear hb1
      go_wp2
      go_ret
      exact ⟨rfl, HB.out⟩
theorem validRun_v (a m n : Int) (b : Bool) (w : World) (hn : 1 ≤ n) (hn5 : n ≤ 5) (hb : runB a m n = b) : Calls Tryz.prog 108 #[.int .i64 a, .int .i64 m, .int .i64 n] w fun e w' => e = .returned (.bool b) ∧ w = w' := by
  cases h1 : rng a 0 (n - 1)
  · have hbf : b = false := by rw [← hb]; simp [runB, h1]
    subst hbf
    go_enter Tryz.func108, Tryz.ntmps108
    go_wp2_with fail
    with_reducible refine (within_w _ 0 (n - 1) false _ h1).mono ?_
    rintro e w1 ⟨rfl, rfl⟩
    go_wp2
    go_ret
    exact ⟨rfl, rfl⟩
  · have h2 : rng m 1 (n - a) = b := by rw [← hb]; simp [runB, h1]
    have ha := rng_iff.1 h1
    cases b
    all_goals
      go_enter Tryz.func108, Tryz.ntmps108
      go_wp2_with fail
      with_reducible refine (within_w _ 0 (n - 1) true _ h1).mono ?_
      rintro e w1 ⟨rfl, rfl⟩
      go_wp2_with fail
      with_reducible refine (within_w _ 1 (n - a) _ _ h2).mono ?_
      rintro e w1 ⟨rfl, rfl⟩
      go_wp2
      go_ret
      exact ⟨rfl, rfl⟩
end Go.Proofs.YtgdkionmeacalabGreat
end
