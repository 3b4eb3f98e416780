import Derived.Test.YtgdkionmeacalabQ21
section
namespace Go.Proofs.Ytgdkionmeacalab
open Go Go.RowKit
set_option linter.unusedVariables false
section
variable {P : Program}
theorem wp_region_rgs {id : Nat} {l : List Oper} {Q : Exit → Act → World → Prop} {a0 : Act} {w : World} (T : Nat → Value → World → Prop) (R : World → World → Prop) (I : Nat → World → Prop)
    (hm : P.follows .mixedOrders = true) (hB : rgC l a0.tmps.size = true) (hRr : ∀ a, R a a) (hRt : ∀ a b c, R a b → R b c → R a c) (hTs : ∀ k v a b, T k v a → R a b → T k v b) (hI0 : I 0 w.drew)
    (hops : opsOK P l T R I a0 w.drew l 0) (hfin : ∀ w', R w.drew w' → I l.length w' → (∀ (j : Nat) (o : Oper), l[j]? = some o → o.dst = none → ∃ v, T j v w') → finP T w' (fun a' => Q .normal a' w') l 0 a0) : (Code.region id l.toArray true).wp P Q a0 w := by
  simp only [rgC, Bool.and_eq_true] at hB
  obtain ⟨hns, hB⟩ := hB
  have hB' : ∀ (i : Nat) (o : Oper), l[i]? = some o → (∀ e ∈ o.after, Region.binds .any e = true → e.on < i) ∧ (∀ d, o.dst = some d → d < a0.tmps.size ∧ dstIdx d l 0 = some i) ∧ (∀ t ∈ o.looksAt l.toArray, ∀ j, dstIdx t l 0 = some j → ∃ e ∈ o.after, e.on = j ∧ Region.binds .any e = true) := by
    intro i o ho
    have hlt := (List.getElem?_eq_some_iff.1 ho).1
    have h1 := List.all_eq_true.1 hB i (List.mem_range.2 hlt)
    simp only [ho, Bool.and_eq_true] at h1
    obtain ⟨⟨h1, h2⟩, h3⟩ := h1
    refine ⟨fun e he hb => by have := List.all_eq_true.1 h1 e (by simpa using he); simpa [hb] using this, fun d hd => ?_, fun t ht j hj => ?_⟩
    · rw [hd] at h2
      simp only [Option.all_some, Bool.and_eq_true, decide_eq_true_eq, beq_iff_eq] at h2
      exact h2
    · have h4 := List.all_eq_true.1 h3 t ht
      rw [hj] at h4
      obtain ⟨e, he, h5⟩ := List.any_eq_true.1 h4
      simp only [Bool.and_eq_true, beq_iff_eq] at h5
      exact ⟨e, by simpa using he, h5⟩
  have hdist : ∀ (i : Nat) (o : Oper) (j : Nat) (p : Oper), l[i]? = some o → l[j]? = some p → i ≠ j → ∀ d, o.dst = some d → p.dst ≠ some d := by
    intro i o j p ho hp hij d hd hpd
    have h1 := ((hB' i o ho).2.1 d hd).2
    rw [((hB' j p hp).2.1 d hpd).2] at h1
    injection h1 with h1
    exact hij h1.symm
  have main : ∀ (fuel m : Nat) (listed : Array Bool) (a : Act) (w' : World), cntF (fun i => listed.getD i true) l.length = fuel → listed.size = l.length → fuel + m = l.length → RJ l T R I a0 w.drew m listed a w' → (∀ j o, l[j]? = some o → listed.getD j false = true → o.dst = none → ∃ v, T j v w') →
      wpAny P .any l.toArray Q fuel listed a w' := by
    intro fuel
    have hdone : ∀ (m : Nat) (listed : Array Bool) (a : Act) (w' : World), m = l.length → (∀ i, i < l.length → listed.getD i false = true) → RJ l T R I a0 w.drew m listed a w' → (∀ j o, l[j]? = some o → listed.getD j false = true → o.dst = none → ∃ v, T j v w') → Q .normal a w' := by
      rintro m listed a w' rfl hall ⟨hR, hI, hd, hs, ht, hT⟩ hX
      refine finP_to (T := T) (w := w') (F := fun a' => Q .normal a' w') (l := l) (k := 0) (b := a0) hd.symm hs.symm (fun t h => ?_) (fun j o ho hn => ?_) (hfin w' hR hI (fun j o ho hn => hX j o ho (hall j (List.getElem?_eq_some_iff.1 ho).1) hn))
      · exact (ht t fun j o ho _ => h o (List.mem_of_getElem? ho)).symm
      · rw [Nat.zero_add]; exact hT j o ho (hall j (List.getElem?_eq_some_iff.1 ho).1) hn
    have hnil : ∀ (listed : Array Bool), listed.size = l.length → Region.ready .any l.toArray listed = [] → ∀ i, i < l.length → listed.getD i false = true := by
      intro listed hls hr i
      induction i using Nat.strongRecOn with
      | ind i ih =>
        intro hi
        by_cases hl : listed.getD i false = true
        · exact hl
        · exfalso
          have ho : l[i]? = some l[i] := List.getElem?_eq_getElem hi
          have hmem : i ∈ Region.ready .any l.toArray listed := mem_ready.2 ⟨by
            rw [Array.getD_eq_getD_getElem?, Array.getElem?_eq_getElem (by omega)] at *
            simp only [Option.getD_some, Bool.not_eq_true] at *
            exact hl, l[i], by simp, fun e he hb => ih e.on ((hB' i _ ho).1 e he hb) (by have := (hB' i _ ho).1 e he hb; omega)⟩
          rw [hr] at hmem
          cases hmem
    induction fuel with
    | zero =>
      intro m listed a w' hc hls hm' hJ hX
      have hall : ∀ i, i < l.length → listed.getD i false = true := fun i hi => by
        have := cntF_zero hc i hi
        rw [Array.getD_eq_getD_getElem?, Array.getElem?_eq_getElem (by omega)] at *
        simpa using this
      refine ⟨?_, hdone m listed a w' (by omega) hall hJ hX⟩
      cases hr : Region.ready .any l.toArray listed with
      | nil => rfl
      | cons x xs =>
        exfalso
        obtain ⟨h0, o, ho, _⟩ := mem_ready.1 (show x ∈ Region.ready .any l.toArray listed by rw [hr]; exact List.mem_cons_self)
        have hlt : x < l.length := by have := (Array.getElem?_eq_some_iff.1 ho).1; simpa using this
        have := hall x hlt
        rw [Array.getD_eq_getD_getElem?, Array.getElem?_eq_getElem (by omega)] at *
        simp at h0 this
        rw [h0] at this
        cases this
    | succ fuel ih =>
      intro m listed a w' hc hls hm' hJ hX
      refine ⟨fun hr => ?_, fun i hi => ?_⟩
      · exfalso
        have hall := hnil listed hls hr
        have : cntF (fun i => listed.getD i true) l.length = 0 := by
          rw [cntF_same (g := fun _ => true) (fun i hi => by
            have := hall i hi
            rw [Array.getD_eq_getD_getElem?, Array.getElem?_eq_getElem (by omega)] at *
            simpa using this)]
          clear hc hm' hls
          induction l.length with
          | zero => rfl
          | succ n ihn => simp [cntF, ihn]
        omega
      · obtain ⟨h0, o, ho', hall⟩ := mem_ready.1 hi
        have ho : l[i]? = some o := by simpa using ho'
        have hlt : i < l.length := (List.getElem?_eq_some_iff.1 ho).1
        obtain ⟨hR, hI, hd, hs, ht, hT⟩ := hJ
        obtain ⟨b1, b2, b3⟩ := hB' i o ho
        have hlook : ∀ t ∈ o.looksAt l.toArray, match dstIdx t l 0 with | some j => T j (tv a t) w' | none => tv a t = tv a0 t := by
          intro t htm
          cases hj : dstIdx t l 0 with
          | none =>
            refine tv_of (ht t fun j p hp _ => dstIdx_none hj p (List.mem_of_getElem? hp))
          | some j =>
            obtain ⟨e, he, rfl, hb⟩ := b3 t htm j hj
            obtain ⟨_, p, hp, hpd⟩ := dstIdx_some hj
            have := hT e.on p (by simpa using hp) (hall e he hb) (by rw [hpd]; simp)
            rw [hpd] at this
            exact this
        have hop := look_of hlook (opsOK_at hops ho m a w' (by omega) hR hI)
        rw [Nat.zero_add] at hop
        have hget : ∀ d, (listed.setIfInBounds i true).getD i d = true := fun d => by
          rw [Array.getD_eq_getD_getElem?, Array.getElem?_setIfInBounds_self_of_lt (by omega)]; rfl
        have next : ∀ v w1, T i v w1 → R w' w1 → I (m + 1) w1 → wpAny P .any l.toArray Q fuel (listed.setIfInBounds i true) (a.put o.dst v) w1 := by
          intro v w1 hTv hR1 hI1
          refine ih (m + 1) _ _ _ ?_ (by simpa using hls) (by omega) ⟨hRt _ _ _ hR hR1, hI1, (put_defers' _ _ _).trans hd, (put_size _ _ _).trans hs, fun t h => ?_, fun j p hp hl hn => ?_⟩ (fun j p hp hl hn => by
            by_cases e : i = j
            · subst e; exact ⟨v, hTv⟩
            · rw [getD_set_ne false e] at hl
              obtain ⟨v', h'⟩ := hX j p hp hl hn
              exact ⟨v', hTs j v' w' w1 h' hR1⟩)
          · have := cntF_set (f := fun i => listed.getD i true) (g := fun j => (listed.setIfInBounds i true).getD j true) (i := i) h0 (hget true) (fun j hj => getD_set_ne true (Ne.symm hj)) hlt
            omega
          · have hne : o.dst ≠ some t := h i o ho (hget false)
            rw [put_ne _ _ _ hne]
            exact ht t fun j p hp hl => h j p hp (getD_set_true hl)
          · by_cases e : i = j
            · subst e
              rw [ho] at hp
              obtain rfl := Option.some.inj hp
              cases hod : o.dst with
              | none => exact absurd hod hn
              | some d =>
                have : tv (a.put (some d) v) d = v := by
                  unfold tv
                  rw [Array.getD_eq_getD_getElem?, put_same _ _ _ (by rw [hs]; exact (b2 d hod).1)]
                  rfl
                simp only [vof]
                rw [this]
                exact hTv
            · rw [getD_set_ne false e] at hl
              have h2 := hTs j _ w' w1 (hT j p hp hl hn) hR1
              cases hpd : p.dst with
              | none => exact absurd hpd hn
              | some d =>
                rw [hpd] at h2
                simp only [vof] at h2 ⊢
                rw [show tv (a.put o.dst v) d = tv a d from tv_of (put_ne _ _ _ (fun hod => hdist i o j p ho hp e d hod hpd))]
                exact h2
        unfold wpOp
        simp only [ho']
        cases hg : o.guard with
        | none =>
          rw [hg] at hop
          rw [if_pos (by simp [Region.wanted, hg])]
          exact .inl (wp_of_gives hop fun v w1 ⟨h1, h2, h3⟩ => next v w1 h1 h2 h3)
        | some g =>
          rw [hg] at hop
          obtain ⟨g1, g2⟩ := hop
          split
          · rename_i hw
            exact .inl (wp_of_gives (g1 hw) fun v w1 ⟨h1, h2, h3⟩ => next v w1 h1 h2 h3)
          · rename_i hw
            obtain ⟨h1, h2⟩ := g2 (by simpa using hw)
            exact next undef w' h1 (hRr _) h2
  refine wp_region_any hm ?_
  refine main l.toArray.size 0 _ a0 w.drew ?_ (by simp) (by simp) ⟨hRr _, hI0, rfl, rfl, fun t _ => rfl, fun j o ho hl => ?_⟩ (fun j o ho hl => by
    exfalso
    rw [Array.getD_eq_getD_getElem?, Array.getElem?_replicate] at hl
    split at hl <;> simp at hl)
  · have : ∀ n, n ≤ l.length → cntF (fun i => (Array.replicate l.toArray.size false).getD i true) n = n := by
      intro n
      induction n with
      | zero => intro _; rfl
      | succ n ihn =>
        intro hn
        simp only [cntF]
        rw [ihn (by omega)]
        have : (Array.replicate l.toArray.size false).getD n true = false := by
          rw [Array.getD_eq_getD_getElem?, Array.getElem?_replicate, if_pos (by simp; omega)]; rfl
        rw [if_neg (by rw [this]; decide)]
    simpa using this l.length (Nat.le_refl _)
  · exfalso
    rw [Array.getD_eq_getD_getElem?, Array.getElem?_replicate] at hl
    split at hl <;> simp at hl
end
end Go.Proofs.Ytgdkionmeacalab
end
section
namespace Go.Proofs.Ytgdkionmeacalab
open Go.RowKit
set_option linter.unusedVariables false
set_option maxHeartbeats 1000000
end Go.Proofs.Ytgdkionmeacalab
end
section
namespace Go.Proofs.Ytgdkionmeacalab
open Go.RowKit
set_option linter.unusedVariables false
set_option maxHeartbeats 2000000
attribute [local go_sem] givesUpon_value givesUpon_skip givesUpon_enter
theorem TL.sub {B : Nat} {S S' : List Nat} {k : Nat} {v : Value} {w : World} (h : TL B S k v w) (hs : ∀ x ∈ S', x ∈ S) : TL B S' k v w := by
  obtain ⟨g, e, h0, h1, h2, h3⟩ := h
  exact ⟨g, e, h0, fun hx => h1 (hs _ hx), h2, h3⟩
def StT (S : List Nat) (T : Value → World → Prop) : Prop := ∀ v a b, T v a → Chg S a b → T v b
end Go.Proofs.Ytgdkionmeacalab
end
section
namespace Go.Proofs.Ytgdkionmeacalab
open Go.RowKit
set_option linter.unusedVariables false
set_option maxHeartbeats 2000000
attribute [local go_sem] givesUpon_value givesUpon_skip givesUpon_enter
structure HP (B rb bx b0 : Nat) (A : Option Addr) (n c : Nat) (x y u v : Int) (m : Nat) (w : World) : Prop where
  rd : Rd B rb A n c m w
  hx : w.heap[bx]? = some (.cells #[.int .i64 x, .int .i64 y, .int .i64 u, .int .i64 v] 171 (0, 0))
  h0 : ∃ a0 a1 a2 a3 : Int, w.heap[b0]? = some (.cells #[.int .i64 a0, .int .i64 a1, .int .i64 a2, .int .i64 a3] 171 (0, 0))
  n1 : bx ≠ rb
  n2 : b0 ≠ rb
  n3 : bx ≠ b0
  l1 : B ≤ b0
section
variable {B rb bx b0 : Nat} {A : Option Addr} {n c : Nat} {x y u v : Int} {m : Nat} {w w' : World}
theorem HP.base (h : HP B rb bx b0 A n c x y u v m w) : B ≤ w.heap.size := by have := h.rd.lt; have := h.rd.base; omega
theorem HP.lts (h : HP B rb bx b0 A n c x y u v m w) : ∀ k ∈ [rb, b0], k < w.heap.size := by
  obtain ⟨a0, a1, a2, a3, ha⟩ := h.h0
  have h1 := h.rd.lt
  have h2 := lt_of_heap ha
  simp [h1, h2]
theorem HP.next (h : HP B rb bx b0 A n c x y u v m w) : HP B rb bx b0 A n c x y u v (m + 1) w := ⟨h.rd.mono (by omega), h.hx, h.h0, h.n1, h.n2, h.n3, h.l1⟩
theorem HP.drew (h : HP B rb bx b0 A n c x y u v m w) : HP B rb bx b0 A n c x y u v m w.drew := ⟨h.rd.drew, h.hx, h.h0, h.n1, h.n2, h.n3, h.l1⟩
theorem HP.alloc (h : HP B rb bx b0 A n c x y u v m w) (o : Obj) : HP B rb bx b0 A n c x y u v (m + 1) (w.alloc o) :=
  ⟨(h.rd.alloc o).mono (by omega), (Below.heap_alloc _ _ _ (lt_of_heap h.hx)).trans h.hx, let ⟨a0, a1, a2, a3, ha⟩ := h.h0; ⟨a0, a1, a2, a3, (Below.heap_alloc _ _ _ (lt_of_heap ha)).trans ha⟩, h.n1, h.n2, h.n3, h.l1⟩
theorem HP.call {m' : Nat} (h : HP B rb bx b0 A n c x y u v m w) (hr : Rd B rb A n c m' w') (hc : Chg [rb] w w') : HP B rb bx b0 A n c x y u v m' w' :=
  ⟨hr, (hc.block _ (lt_of_heap h.hx) (by simpa using h.n1)).trans h.hx, let ⟨a0, a1, a2, a3, ha⟩ := h.h0; ⟨a0, a1, a2, a3, (hc.block _ (lt_of_heap ha) (by simpa using h.n2)).trans ha⟩, h.n1, h.n2, h.n3, h.l1⟩
end
end Go.Proofs.Ytgdkionmeacalab
end
section
namespace Go.Proofs.Ytgdkionmeacalab
open Go.RowKit
set_option linter.unusedVariables false
set_option maxHeartbeats 1000000
attribute [local go_sem] growUpon_value growUpon_skip growUpon_enter
attribute [local go_sem] givesUpon_value givesUpon_skip givesUpon_enter
def cevals : List Ce → List Value
  | [] => []
  | r :: t => valsCe r ++ cevals t
theorem cevals_get : ∀ {M : List Ce} {i : Nat} {r : Ce}, M[i]? = some r → ∀ j, j < 9 → (cevals M)[i * 9 + j]? = (valsCe r)[j]?
  | [], i, r, h, _, _ => by simp at h
  | q :: t, 0, r, h, j, hj => by
    simp at h; subst h
    show (valsCe q ++ cevals t)[0 * 9 + j]? = _
    rw [List.getElem?_append_left (by simp [valsCe]; omega)]; simp
  | q :: t, i + 1, r, h, j, hj => by
    show (valsCe q ++ cevals t)[(i + 1) * 9 + j]? = _
    rw [List.getElem?_append_right (by simp [valsCe]; omega)]
    have := cevals_get (M := t) (i := i) (r := r) (by simpa using h) j hj
    rw [← this]; congr 1; simp [valsCe]; omega
theorem ce_inG {w : World} {base n : Nat} {v : Value} {M : List Ce} {T : TypeId} (h : w.ownsRow base T 9 v n (cevals M)) (hn : n = M.length) :
    (v = .slice none 0 0 ∧ M = []) ∨ ∃ g cap, ∃ cs : Array Value, v = .slice (some ⟨g, 0, none⟩) n cap ∧ base ≤ g ∧ n ≤ cap ∧ w.heap[g]? = some (.cells cs T (0, 0)) ∧ cs.size = cap * 9 ∧ ∀ (i : Nat) (x : Ce), M[i]? = some x → InS cs (i * 9) (valsCe x) := by
  rcases h.2 with ⟨rfl, h0⟩ | ⟨g, cap, cur, rfl, hb, hg, hc, _, hs, ht⟩
  · exact .inl ⟨rfl, List.length_eq_zero_iff.1 (by omega)⟩
  · refine .inr ⟨g, cap, cur, rfl, hb, hc, hg, hs, fun i r hr j u hu => ?_⟩
    have hj : j < 9 := by have := (List.getElem?_eq_some_iff.1 hu).1; simpa [valsCe] using this
    have e := (cevals_get hr j hj).trans hu
    rw [← ht, List.getElem?_take] at e
    have : i < M.length := (List.getElem?_eq_some_iff.1 hr).1
    rw [if_pos (by omega)] at e
    simpa using e
theorem CeV.inG {w : World} {g : Nat} {cs : Array Value} {T : TypeId} {M : List Ce} (hh : w.heap[g]? = some (.cells cs T (0, 0))) (hc : ∀ (i : Nat) (x : Ce), M[i]? = some x → InS cs (i * 9) (valsCe x)) : CeV w (some ⟨g, 0, none⟩) M :=
  ⟨fun _ => ⟨g, 0, rfl, ltS hh, fun i r hr => by
    have e : ∀ j u, (valsCe r)[j]? = some u → w.cell? ⟨g, 0 + i * 9 + j, none⟩ = some u := fun j u hu => by rw [Nat.zero_add]; exact (cellS hh _).trans (hc i r hr j u hu)
    exact ⟨e 0 _ rfl, e 1 _ rfl, e 2 _ rfl, e 3 _ rfl, e 4 _ rfl, e 5 _ rfl, e 6 _ rfl, e 7 _ rfl, e 8 _ rfl⟩⟩⟩
theorem CeV.chgG {w w' : World} {A : Option Addr} {L : List Ce} {rb : Nat} (h : CeV w A L) (hc : Chg [rb] w w') (hne : ∀ a, A = some a → a.block ≠ rb) : CeV w' A L :=
  ⟨fun h0 => let ⟨b, off, e, hl, hp⟩ := h.cells h0; ⟨b, off, e, Nat.lt_of_lt_of_le hl hc.size, fun i x hx => by
    have k : ∀ j, w'.cell? ⟨b, j, none⟩ = w.cell? ⟨b, j, none⟩ := fun j => hc.cell (p := ⟨b, j, none⟩) hl (by simp; exact hne _ e)
    have := hp i x hx
    exact ⟨(k _).trans this.1, (k _).trans this.2.1, (k _).trans this.2.2.1, (k _).trans this.2.2.2.1, (k _).trans this.2.2.2.2.1, (k _).trans this.2.2.2.2.2.1, (k _).trans this.2.2.2.2.2.2.1, (k _).trans this.2.2.2.2.2.2.2.1, (k _).trans this.2.2.2.2.2.2.2.2⟩⟩⟩
/-- a list that was drawn, in memory from a block on -/
def CeO (base : Nat) (w : World) (v : Value) (L : List Ce) : Prop := ∃ A c, v = .slice A L.length c ∧ L.length ≤ c ∧ CeV w A L ∧ ∀ a : Addr, A = some a → base ≤ a.block
theorem CeO.chg {base rb : Nat} {w w' : World} {v : Value} {L : List Ce} (h : CeO base w v L) (hc : Chg [rb] w w') (hr : rb < base) : CeO base w' v L := by
  obtain ⟨A, c, e, h1, h2, h3⟩ := h
  exact ⟨A, c, e, h1, h2.chgG hc (fun a ha => by have := h3 a ha; omega), h3⟩
theorem CeO.of {base : Nat} {w : World} {v : Value} {L : List Ce} {T : TypeId} (h : w.ownsRow base T 9 v L.length (cevals L)) : CeO base w v L := by
  rcases ce_inG h rfl with ⟨rfl, rfl⟩ | ⟨g, cap, cs, rfl, hg, hc, hh, hs, hin⟩
  · exact ⟨none, 0, rfl, Nat.le_refl _, CeV.nil _ _, fun a e => by cases e⟩
  · exact ⟨_, cap, rfl, hc, CeV.inG hh hin, fun a e => by cases e; exact hg⟩
/-- a slice of one cell in memory of its own -/
def OneC (lo : Nat) (v : Value) (w : World) : Prop := ∃ (p : Ce) (g : Nat), v = .slice (some ⟨g, 0, none⟩) 1 1 ∧ lo ≤ g ∧ w.heap[g]? = some (.cells #[.int .i64 p.co, .int .i64 p.ro, .int .i64 p.mc, .int .i64 p.mr, .int .i64 p.cw, .int .i64 p.ch, .int .i64 p.sk, .int .i64 p.px, .int .i64 p.py] 35 (0, 0))
end Go.Proofs.Ytgdkionmeacalab
end
section
namespace Go.Proofs.Ytgdkionmeacalab
open Go.RowKit
set_option linter.unusedVariables false
set_option maxHeartbeats 1000000
attribute [local go_sem] growUpon_value growUpon_skip growUpon_enter
end Go.Proofs.Ytgdkionmeacalab
end
section
namespace Go.Proofs.Ytgdkionmeacalab
open Go.RowKit
set_option linter.unusedVariables false
set_option maxHeartbeats 1000000
end Go.Proofs.Ytgdkionmeacalab
end
section
namespace Go.Proofs.Ytgdkionmeacalab
open Go.RowKit
set_option linter.unusedVariables false
set_option maxHeartbeats 1000000
attribute [local go_sem] growUpon_value growUpon_skip growUpon_enter
attribute [local go_sem] givesUpon_value givesUpon_skip givesUpon_enter
def gqM (L1 L2 : List Ln) (L3 : List Ce) : Int × Int := if gridB L1 L2 L3 = true then (sumI (wishM L1 (L3.map acM)), sumI (wishM L2 (L3.map dnM))) else (-1, -1)
end Go.Proofs.Ytgdkionmeacalab
end
section
namespace Go.Proofs.Ytgdkionmeacalab
open Go.RowKit
set_option linter.unusedVariables false
set_option maxHeartbeats 1000000
attribute [local go_sem 5000] run_mx run_mn
attribute [local go_sem] growUpon_value growUpon_skip growUpon_enter
end Go.Proofs.Ytgdkionmeacalab
end
section
namespace Go.Proofs.Ytgdkionmeacalab
open Go.RowKit
set_option linter.unusedVariables false
set_option maxHeartbeats 1000000
attribute [local go_sem] growUpon_value growUpon_skip growUpon_enter
end Go.Proofs.Ytgdkionmeacalab
end
section
namespace Go.Proofs.Ytgdkionmeacalab
open Go.RowKit
set_option linter.unusedVariables false
set_option maxHeartbeats 2000000
attribute [local go_sem] givesUpon_value givesUpon_skip givesUpon_enter
structure HG (B rb bx b0 : Nat) (A : Option Addr) (n c : Nat) (A1 : Option Addr) (n1 c1 : Nat) (A2 : Option Addr) (n2 c2 : Nat) (A3 : Option Addr) (n3 c3 : Nat) (m : Nat) (w : World) : Prop where
  rd : Rd B rb A n c m w
  hx : w.heap[bx]? = some (.cells #[.slice A1 n1 c1, .slice A2 n2 c2, .slice A3 n3 c3] 110 (0, 0))
  h0 : w.heap[b0]? = some (.cells #[.slice none 0 0, .slice none 0 0, .slice none 0 0] 110 (0, 0)) ∨ w.heap[b0]? = some (.cells #[.slice A1 n1 c1, .slice A2 n2 c2, .slice A3 n3 c3] 110 (0, 0))
  n1 : bx ≠ rb
  n2 : b0 ≠ rb
  n3 : bx ≠ b0
  l1 : B ≤ b0
section
variable {B rb bx b0 : Nat} {A : Option Addr} {n c : Nat} {A1 : Option Addr} {n1 c1 : Nat} {A2 : Option Addr} {n2 c2 : Nat} {A3 : Option Addr} {n3 c3 : Nat} {m : Nat} {w w' : World}
theorem HG.lt0 (h : HG B rb bx b0 A n c A1 n1 c1 A2 n2 c2 A3 n3 c3 m w) : b0 < w.heap.size := by rcases h.h0 with ha | ha <;> exact ltS ha
theorem HG.base (h : HG B rb bx b0 A n c A1 n1 c1 A2 n2 c2 A3 n3 c3 m w) : B ≤ w.heap.size := by have := h.rd.lt; have := h.rd.base; omega
theorem HG.lts (h : HG B rb bx b0 A n c A1 n1 c1 A2 n2 c2 A3 n3 c3 m w) : ∀ k ∈ [rb, b0], k < w.heap.size := by
  have h1 := h.rd.lt
  have h2 := h.lt0
  simp [h1, h2]
theorem HG.next (h : HG B rb bx b0 A n c A1 n1 c1 A2 n2 c2 A3 n3 c3 m w) : HG B rb bx b0 A n c A1 n1 c1 A2 n2 c2 A3 n3 c3 (m + 1) w := ⟨h.rd.mono (by omega), h.hx, h.h0, h.n1, h.n2, h.n3, h.l1⟩
theorem HG.drew (h : HG B rb bx b0 A n c A1 n1 c1 A2 n2 c2 A3 n3 c3 m w) : HG B rb bx b0 A n c A1 n1 c1 A2 n2 c2 A3 n3 c3 m w.drew := ⟨h.rd.drew, h.hx, h.h0, h.n1, h.n2, h.n3, h.l1⟩
theorem HG.alloc (h : HG B rb bx b0 A n c A1 n1 c1 A2 n2 c2 A3 n3 c3 m w) (o : Obj) : HG B rb bx b0 A n c A1 n1 c1 A2 n2 c2 A3 n3 c3 (m + 1) (w.alloc o) :=
  ⟨(h.rd.alloc o).mono (by omega), (Below.heap_alloc _ _ _ (ltS h.hx)).trans h.hx, h.h0.imp (fun ha => (Below.heap_alloc _ _ _ (ltS ha)).trans ha) (fun ha => (Below.heap_alloc _ _ _ (ltS ha)).trans ha), h.n1, h.n2, h.n3, h.l1⟩
theorem HG.call {m' : Nat} (h : HG B rb bx b0 A n c A1 n1 c1 A2 n2 c2 A3 n3 c3 m w) (hr : Rd B rb A n c m' w') (hc : Chg [rb] w w') : HG B rb bx b0 A n c A1 n1 c1 A2 n2 c2 A3 n3 c3 m' w' :=
  ⟨hr, (hc.block _ (ltS h.hx) (by simpa using h.n1)).trans h.hx, h.h0.imp (fun ha => (hc.block _ (ltS ha) (by simpa using h.n2)).trans ha) (fun ha => (hc.block _ (ltS ha) (by simpa using h.n2)).trans ha), h.n1, h.n2, h.n3, h.l1⟩
end
def GAout (e : Ending) (w' : World) : Prop := ∃ (A1 : Option Addr) (c1 : Nat) (L1 : List Ln) (A2 : Option Addr) (c2 : Nat) (L2 : List Ln) (A3 : Option Addr) (c3 : Nat) (L3 : List Ce) (u v x y : Int), e = .returned (.tuple #[.agg #[.slice A1 L1.length c1, .slice A2 L2.length c2, .slice A3 L3.length c3], .int .i64 u, .int .i64 v, .int .i64 x, .int .i64 y]) ∧ LnV w' A1 L1 ∧ LnV w' A2 L2 ∧ CeV w' A3 L3 ∧ (L1.length ≤ 5 ∧ L2.length ≤ 5 ∧ L3.length ≤ 8) ∧ L1.length ≤ c1 ∧ L2.length ≤ c2 ∧ L3.length ≤ c3 ∧ (-1 ≤ u ∧ u ≤ 3000) ∧ (-1 ≤ v ∧ v ≤ 3000)
end Go.Proofs.Ytgdkionmeacalab
end
section
namespace Go.Proofs.Ytgdkionmeacalab
open Go.RowKit
set_option linter.unusedVariables false
set_option linter.unusedSimpArgs false
set_option maxHeartbeats 4000000
attribute [local go_sem] growUpon_value growUpon_skip growUpon_enter
attribute [local go_sem] givesUpon_value givesUpon_skip givesUpon_enter
/-- the result holds the tree -/
def SGh (W : World) (r0 g n c0 : Nat) : Prop := W.heap[r0]? = some (.cells #[.slice (some ⟨g, 0, none⟩) n c0] 25 (0, 0))
structure HSx (B rb r0 : Nat) (A : Option Addr) (n c : Nat) (m : Nat) (w : World) : Prop where
  rd : Rd B rb A n c m w
  h0 : ∃ v, w.heap[r0]? = some (.cells #[v] 25 (0, 0))
  n2 : r0 ≠ rb
  l1 : B ≤ r0
structure RSx (rb r0 g n c0 : Nat) (a b : World) : Prop where
  chg : Chg [rb, r0] a b
  s : SGh a r0 g n c0 → SGh b r0 g n c0
section
variable {B rb r0 g k c0 : Nat} {A : Option Addr} {n c m : Nat} {w w' : World}
theorem RSx.refl (a : World) : RSx rb r0 g k c0 a a := ⟨Chg.refl _ _, id⟩
theorem RSx.trans {a b d : World} (h : RSx rb r0 g k c0 a b) (h' : RSx rb r0 g k c0 b d) : RSx rb r0 g k c0 a d := ⟨h.chg.trans h'.chg, fun x => h'.s (h.s x)⟩
theorem RSx.alloc (hI : HSx B rb r0 A n c m w) (o : Obj) : RSx rb r0 g k c0 w (w.alloc o) := ⟨(Chg.refl _ _).alloc _, fun x => (Below.heap_alloc _ _ _ (ltS x)).trans x⟩
theorem RSx.call (hI : HSx B rb r0 A n c m w) (hc : Chg [rb] w w') : RSx rb r0 g k c0 w w' := ⟨hc.mono (by simp), fun x => (hc.block r0 (ltS x) (by simpa using hI.n2)).trans x⟩
theorem RSx.store (hI : HSx B rb r0 A n c m w) {v : Value} (hq : w.heap[r0]? = some (.cells #[v] 25 (0, 0))) : RSx rb r0 g k c0 w (w.setCell ⟨r0, 0, none⟩ (.slice (some ⟨g, 0, none⟩) k c0)) := ⟨(Chg.refl _ _).setCell (p := ⟨r0, 0, none⟩) (.inl (by simp)) _, fun _ => putS hq _⟩
theorem HSx.base (h : HSx B rb r0 A n c m w) : B ≤ w.heap.size := by have := h.rd.lt; have := h.rd.base; omega
theorem HSx.lts (h : HSx B rb r0 A n c m w) : ∀ j ∈ [rb, r0], j < w.heap.size := by
  have h1 := h.rd.lt
  obtain ⟨v, hv⟩ := h.h0
  have h2 := ltS hv
  simp [h1, h2]
theorem HSx.mono {m' : Nat} (h : HSx B rb r0 A n c m w) (hm : m ≤ m') : HSx B rb r0 A n c m' w := ⟨h.rd.mono hm, h.h0, h.n2, h.l1⟩
theorem HSx.drew (h : HSx B rb r0 A n c m w) : HSx B rb r0 A n c m w.drew := ⟨h.rd.drew, h.h0, h.n2, h.l1⟩
theorem HSx.alloc (h : HSx B rb r0 A n c m w) (o : Obj) : HSx B rb r0 A n c m (w.alloc o) := ⟨h.rd.alloc o, let ⟨v, hv⟩ := h.h0; ⟨v, (Below.heap_alloc _ _ _ (ltS hv)).trans hv⟩, h.n2, h.l1⟩
theorem HSx.call {m' : Nat} (h : HSx B rb r0 A n c m w) (hr : Rd B rb A n c m' w') (hc : Chg [rb] w w') : HSx B rb r0 A n c m' w' := ⟨hr, let ⟨v, hv⟩ := h.h0; ⟨v, (hc.block r0 (ltS hv) (by simpa using h.n2)).trans hv⟩, h.n2, h.l1⟩
theorem HSx.store (h : HSx B rb r0 A n c m w) {v x : Value} (hq : w.heap[r0]? = some (.cells #[v] 25 (0, 0))) : HSx B rb r0 A n c m (w.setCell ⟨r0, 0, none⟩ x) := ⟨h.rd.setCell (p := ⟨r0, 0, none⟩) h.l1 h.n2 x, ⟨x, putS hq _⟩, h.n2, h.l1⟩
end
theorem stab_listX {D : World → World → Prop} : ∀ {l : List (Value → World → Prop)}, (∀ T ∈ l, ∀ (v : Value) (a b : World), T v a → D a b → T v b) → ∀ (k : Nat) (v : Value) (a b : World), l.getD k (fun _ _ => True) v a → D a b → l.getD k (fun _ _ => True) v b
  | [], _, k, v, a, b, h, hc => trivial
  | T :: r, hl, 0, v, a, b, h, hc => hl T List.mem_cons_self v a b h hc
  | T :: r, hl, k + 1, v, a, b, h, hc => stab_listX (l := r) (fun T hT => hl T (List.mem_cons_of_mem _ hT)) k v a b h hc
theorem TK.lo' {W : World} {lo lo' g : Nat} {R : List Nr} (h : TK W lo g R) (hl : lo' ≤ lo) : TK W lo' g R := ⟨Nat.le_trans hl h.lo, h.blk, h.ns⟩
theorem TK.chg2 {W W' : World} {lo g rb r0 : Nat} {R : List Nr} {o o' : Obj} (h : TK W lo g R) (hb : W.heap[rb]? = some o ∧ ∀ cs, o ≠ .cells cs 92 (0, 0)) (h0 : W.heap[r0]? = some o' ∧ ∀ cs, o' ≠ .cells cs 92 (0, 0)) (hc : Chg [rb, r0] W W') (h1 : g ≠ rb) (h2 : g ≠ r0) : TK W' lo g R :=
  ⟨h.lo, let ⟨cs, hh, k1, k2⟩ := h.blk; ⟨cs, (hc.block g (ltS hh) (by simp; exact ⟨h1, h2⟩)).trans hh, k1, k2⟩, fun p hp => (h.ns p hp).kp (fun g' cs e => hc.block g' (ltS e) (by
    simp only [List.mem_cons, List.not_mem_nil, or_false]
    rintro (rfl | rfl)
    · have := hb.1; rw [e] at this; exact hb.2 cs (Option.some.inj this).symm
    · have := h0.1; rw [e] at this; exact h0.2 cs (Option.some.inj this).symm))⟩
/-- what stands before the last draws -/
structure TvA (a : World) (lo r0 bt rb g c0 : Nat) (R : List Nr) (W : World) : Prop where
  box : W.heap[bt]? = some (.cells #[.slice (some ⟨g, 0, none⟩) R.length c0] 25 (0, 0))
  tk : TK W lo g R
  chg : Chg [rb, r0] a W
  rb0 : ∃ p : Value, ∃ x : Value, W.heap[rb]? = some (.cells #[x, p] 73 (0, 0))
  r00 : ∃ v : Value, W.heap[r0]? = some (.cells #[v] 25 (0, 0))
  lo : r0 ≤ lo
set_option maxRecDepth 100000 in
theorem DrawAskFor_any (A : Option Addr) (l c : Nat) (w : World) (h : Bts w A l) (hn : l ≤ c) (hc : c ≤ maxLen) :
    Calls Try.prog 6 #[.slice A l c] w fun e w' => (∃ (g c0 : Nat) (R : List Nr) (q q1 q2 : Int), e = .returned (.tuple #[.agg #[.slice (some ⟨g, 0, none⟩) R.length c0], .int .i64 q, .int .i64 q1, .int .i64 q2]) ∧ TK w' w.heap.size g R ∧ R.length ≤ c0 ∧ 1 ≤ R.length ∧ R.length ≤ 10) ∧ Below w.heap.size w w' := by
  go_enter Try.func6, Try.ntmps6
  go_wp2_with fail
  with_reducible refine (newReader_low A l c _ h (by simp) (h.alloc _) hn hc).mono ?_
  rintro e w1 ⟨n', rfl, hr1, hc1⟩
  simp only [World.size_alloc] at hr1
  go_wp2_with fail
  with_reducible refine (nodeIn_any _ hr1 (by omega)).mono ?_
  rintro e w2 ⟨⟨g, c0, R, q, rfl, htk, hcap, r1, r2⟩, hr2, hc2⟩
  have hs := hc1.size
  simp only [World.size_alloc] at hs
  have hs2 := hc2.size
  have hr0 := (hc2.block w.heap.size (by omega) (by simp)).trans ((hc1.block w.heap.size (by simp) (by simp)).trans (heap_alloc_new w _))
  have hgl := htk.lo
  have hgb : g < w2.heap.size := let ⟨_, hh, _⟩ := htk.blk; ltS hh
  have hrl := hr2.lt
  have hrl1 := hr1.lt
  have hC : Chg [w.heap.size + 1, w.heap.size] w w2 := ((((Chg.refl [w.heap.size + 1] w).alloc _).trans ((hc1.mono (by simp)).trans hc2))).mono (by simp)
  obtain ⟨bt, hbtE⟩ : ∃ bt, w2.heap.size = bt := ⟨_, rfl⟩
  obtain ⟨rb, hrb⟩ : ∃ rb, w.heap.size + 1 = rb := ⟨_, rfl⟩
  obtain ⟨r0, hr0E⟩ : ∃ r0, w.heap.size = r0 := ⟨_, rfl⟩
  have htv : TvA w w1.heap.size r0 bt rb g c0 R (w2.alloc (.cells #[.slice (some ⟨g, 0, none⟩) R.length c0] 25 (0, 0))) := by
    rw [← hbtE, ← hrb, ← hr0E]
    obtain ⟨p, _, hbx⟩ := hr2.box
    exact ⟨newS w2 _, ⟨by omega, let ⟨cs, hh, h1, h2⟩ := htk.blk; ⟨cs, (Below.heap_alloc _ _ _ hgb).trans hh, h1, h2⟩, fun p hp => (htk.ns p hp).kp (KpL.below (balloc (Below.refl _ _)))⟩, hC.alloc _, ⟨_, _, (Below.heap_alloc _ _ _ hrl).trans hbx⟩, ⟨_, (Below.heap_alloc _ _ _ (by omega)).trans hr0⟩, by omega⟩
  obtain ⟨mR, hmR⟩ : ∃ mR, 0 + 10000 = mR := ⟨_, rfl⟩
  have hI0 : HSx r0 rb r0 A n' c mR (w2.alloc (.cells #[.slice (some ⟨g, 0, none⟩) R.length c0] 25 (0, 0))).drew := by
    rw [← hrb, ← hr0E, ← hmR]
    exact HSx.drew ⟨hr2.alloc _, ⟨_, (Below.heap_alloc _ _ _ (by omega)).trans hr0⟩, by omega, Nat.le_refl _⟩
  have hbt : bt ≠ rb := by omega
  have hbt0 : bt ≠ r0 := by omega
  have hgr : g ≠ rb := by omega
  have hgr0 : g ≠ r0 := by omega
  have hmR2 : mR ≤ 20000 := by omega
  obtain ⟨wt, hwt⟩ : ∃ wt, w2.alloc (.cells #[.slice (some ⟨g, 0, none⟩) R.length c0] 25 (0, 0)) = wt := ⟨_, rfl⟩
  rw [hwt] at htv hI0
  have HT := Lib.hid htv
  have HI := Lib.hid hI0
  have HW := Lib.hid hwt
  have HR0 := Lib.hid hr0E
  have hrr : r0 < rb := by omega
  go_upto_region 3 with (fail)
  try rw [hbtE]
  try rw [hrb]
  try rw [hr0E]
  rw [show r0 + 1 = rb by omega]
  try rw [HW.out]
  clear htv hI0 hr2 hr1 hc1 hc2 hr0 htk hwt hmR hs hs2 hC hbtE hrb hr0E HW hrl hrl1 hgl hgb
  have hts := ltS HT.out.box
  refine wp_region_rgs (fun k => ((fun v _ => v = .agg #[.slice (some ⟨g, 0, none⟩) R.length c0]) :: (fun v _ => v = .int .i64 q) :: (fun v _ => v = .pointer (some ⟨rb, 0, none⟩)) :: (TL r0 [rb, r0] 6) :: (fun v _ => ∃ z : Int, v = .int .i64 z) :: (fun v _ => v = .pointer (some ⟨rb, 0, none⟩)) :: (TL r0 [rb, r0] 5) :: (fun v _ => ∃ z : Int, v = .int .i64 z) :: (fun _ W => SGh W r0 g R.length c0) :: (fun v _ => v = .int .i64 q) :: (fun v _ => ∃ z : Int, v = .int .i64 z) :: (fun v _ => ∃ z : Int, v = .int .i64 z) :: []).getD k (fun _ _ => True)) (RSx rb r0 g R.length c0) (fun mm w => HSx r0 rb r0 A n' c (mR + 21 * mm) w) (by kernel_rfl) (by kernel_rfl) (fun a => RSx.refl a) (fun _ _ _ h k => h.trans k) ?hTs ?hI0 ?hops ?hfin
  case hops =>
    refine ⟨opOK_ds [(7, none)] (by kernel_rfl) rfl ?_, ?_⟩
    · intro mm act w' hm' hR hI h1
      have hk : ∀ v, act.eval (.const v) = v := fun _ => rfl
      have hf : ∀ f, act.eval (.func f) = .func (.func f) #[] #[] := fun _ => rfl
      generalize act.eval = ρ at *
      have hm : mm < 12 := hm'
      replace h1 : ρ (.tmp 7) = .pointer (some ⟨bt, 0, none⟩) := h1
      refine gx_genT (fun K hK => ?_)
      have d0 := cellS ((hR.chg.block bt (by simpa using hts) (by simp; exact ⟨hbt, hbt0⟩)).trans HT.out.box) 0
      go_simp
      exact hK _ _ ⟨rfl, RSx.refl _, hI.mono (by omega)⟩
    refine ⟨opOK_ds [(8, none)] (by kernel_rfl) rfl ?_, ?_⟩
    · intro mm act w' hm' hR hI h1
      have hk : ∀ v, act.eval (.const v) = v := fun _ => rfl
      have hf : ∀ f, act.eval (.func f) = .func (.func f) #[] #[] := fun _ => rfl
      generalize act.eval = ρ at *
      have hm : mm < 12 := hm'
      replace h1 : ρ (.tmp 8) = .int .i64 q := h1
      refine gx_genT (fun K hK => ?_)
      go_simp
      exact hK _ _ ⟨rfl, RSx.refl _, hI.mono (by omega)⟩
    refine ⟨opOK_ds [(6, none)] (by kernel_rfl) rfl ?_, ?_⟩
    · intro mm act w' hm' hR hI h1
      have hk : ∀ v, act.eval (.const v) = v := fun _ => rfl
      have hf : ∀ f, act.eval (.func f) = .func (.func f) #[] #[] := fun _ => rfl
      generalize act.eval = ρ at *
      have hm : mm < 12 := hm'
      replace h1 : ρ (.tmp 6) = .pointer (some ⟨rb, 0, none⟩) := h1
      refine gx_genT (fun K hK => ?_)
      go_simp
      exact hK _ _ ⟨rfl, RSx.refl _, hI.mono (by omega)⟩
    refine ⟨opOK_ds [] (by kernel_rfl) rfl ?_, ?_⟩
    · intro mm act w' hm' hR hI 
      have hk : ∀ v, act.eval (.const v) = v := fun _ => rfl
      have hf : ∀ f, act.eval (.func f) = .func (.func f) #[] #[] := fun _ => rfl
      generalize act.eval = ρ at *
      have hm : mm < 12 := hm'
      refine gx_genT (fun K hK => ?_)
      have hrl := hI.lts
      go_simp
      exact hK _ _ ⟨TL.lit hI.base hI.lts (by simp) (by simp [isI]), RSx.alloc hI _, (hI.alloc _).mono (by omega)⟩
    refine ⟨opOK_ds [(18, some 2), (19, some 3)] (by kernel_rfl) rfl ?_, ?_⟩
    · intro mm act w' hm' hR hI h1 h2
      have hk : ∀ v, act.eval (.const v) = v := fun _ => rfl
      have hf : ∀ f, act.eval (.func f) = .func (.func f) #[] #[] := fun _ => rfl
      generalize act.eval = ρ at *
      have hm : mm < 12 := hm'
      replace h1 : ρ (.tmp 18) = .pointer (some ⟨rb, 0, none⟩) := h1
      replace h2 : (TL r0 [rb, r0] 6) (ρ (.tmp 19)) w' := h2
      refine gx_genT (fun K hK => ?_)
      go_simp
      with_reducible refine (one_any _ hI.rd (by omega) (h2.sub (by simp)) (by omega) (by omega)).mono ?_
      rintro e w1 ⟨⟨z, rfl⟩, hr, hc⟩
      exact ⟨_, rfl, hK _ _ ⟨⟨z, rfl⟩, RSx.call hI hc, (hI.call hr hc).mono (by omega)⟩⟩
    refine ⟨opOK_ds [(6, none)] (by kernel_rfl) rfl ?_, ?_⟩
    · intro mm act w' hm' hR hI h1
      have hk : ∀ v, act.eval (.const v) = v := fun _ => rfl
      have hf : ∀ f, act.eval (.func f) = .func (.func f) #[] #[] := fun _ => rfl
      generalize act.eval = ρ at *
      have hm : mm < 12 := hm'
      replace h1 : ρ (.tmp 6) = .pointer (some ⟨rb, 0, none⟩) := h1
      refine gx_genT (fun K hK => ?_)
      go_simp
      exact hK _ _ ⟨rfl, RSx.refl _, hI.mono (by omega)⟩
    refine ⟨opOK_ds [] (by kernel_rfl) rfl ?_, ?_⟩
    · intro mm act w' hm' hR hI 
      have hk : ∀ v, act.eval (.const v) = v := fun _ => rfl
      have hf : ∀ f, act.eval (.func f) = .func (.func f) #[] #[] := fun _ => rfl
      generalize act.eval = ρ at *
      have hm : mm < 12 := hm'
      refine gx_genT (fun K hK => ?_)
      have hrl := hI.lts
      go_simp
      exact hK _ _ ⟨TL.lit hI.base hI.lts (by simp) (by simp [isI]), RSx.alloc hI _, (hI.alloc _).mono (by omega)⟩
    refine ⟨opOK_ds [(21, some 5), (22, some 6)] (by kernel_rfl) rfl ?_, ?_⟩
    · intro mm act w' hm' hR hI h1 h2
      have hk : ∀ v, act.eval (.const v) = v := fun _ => rfl
      have hf : ∀ f, act.eval (.func f) = .func (.func f) #[] #[] := fun _ => rfl
      generalize act.eval = ρ at *
      have hm : mm < 12 := hm'
      replace h1 : ρ (.tmp 21) = .pointer (some ⟨rb, 0, none⟩) := h1
      replace h2 : (TL r0 [rb, r0] 5) (ρ (.tmp 22)) w' := h2
      refine gx_genT (fun K hK => ?_)
      go_simp
      with_reducible refine (one_any _ hI.rd (by omega) (h2.sub (by simp)) (by omega) (by omega)).mono ?_
      rintro e w1 ⟨⟨z, rfl⟩, hr, hc⟩
      exact ⟨_, rfl, hK _ _ ⟨⟨z, rfl⟩, RSx.call hI hc, (hI.call hr hc).mono (by omega)⟩⟩
    refine ⟨opOK_ds [(2, none), (16, some 0)] (by kernel_rfl) rfl ?_, ?_⟩
    · intro mm act w' hm' hR hI h1 h2
      have hk : ∀ v, act.eval (.const v) = v := fun _ => rfl
      have hf : ∀ f, act.eval (.func f) = .func (.func f) #[] #[] := fun _ => rfl
      generalize act.eval = ρ at *
      have hm : mm < 12 := hm'
      replace h1 : ρ (.tmp 2) = .pointer (some ⟨r0, 0, none⟩) := h1
      replace h2 : ρ (.tmp 16) = .agg #[.slice (some ⟨g, 0, none⟩) R.length c0] := h2
      refine gx_genT (fun K hK => ?_)
      obtain ⟨vq, hq⟩ := hI.h0
      have c0' := cellS hq 0
      have f0' := frozenS hq 0
      go_simp
      exact hK _ _ ⟨putS hq _, RSx.store hI hq, (hI.store hq).mono (by omega)⟩
    refine ⟨opOK_ds [(17, some 1)] (by kernel_rfl) rfl ?_, ?_⟩
    · intro mm act w' hm' hR hI h1
      have hk : ∀ v, act.eval (.const v) = v := fun _ => rfl
      have hf : ∀ f, act.eval (.func f) = .func (.func f) #[] #[] := fun _ => rfl
      generalize act.eval = ρ at *
      have hm : mm < 12 := hm'
      replace h1 : ρ (.tmp 17) = .int .i64 q := h1
      refine gx_genT (fun K hK => ?_)
      go_simp
      exact hK _ _ ⟨rfl, RSx.refl _, hI.mono (by omega)⟩
    refine ⟨opOK_ds [(20, some 4)] (by kernel_rfl) rfl ?_, ?_⟩
    · intro mm act w' hm' hR hI h1
      have hk : ∀ v, act.eval (.const v) = v := fun _ => rfl
      have hf : ∀ f, act.eval (.func f) = .func (.func f) #[] #[] := fun _ => rfl
      generalize act.eval = ρ at *
      have hm : mm < 12 := hm'
      replace h1 : (fun v _ => ∃ z : Int, v = .int .i64 z) (ρ (.tmp 20)) w' := h1
      refine gx_genT (fun K hK => ?_)
      obtain ⟨z1, h1⟩ := h1
      go_simp
      exact hK _ _ ⟨⟨z1, rfl⟩, RSx.refl _, hI.mono (by omega)⟩
    refine ⟨opOK_ds [(23, some 7)] (by kernel_rfl) rfl ?_, ?_⟩
    · intro mm act w' hm' hR hI h1
      have hk : ∀ v, act.eval (.const v) = v := fun _ => rfl
      have hf : ∀ f, act.eval (.func f) = .func (.func f) #[] #[] := fun _ => rfl
      generalize act.eval = ρ at *
      have hm : mm < 12 := hm'
      replace h1 : (fun v _ => ∃ z : Int, v = .int .i64 z) (ρ (.tmp 23)) w' := h1
      refine gx_genT (fun K hK => ?_)
      obtain ⟨z1, h1⟩ := h1
      go_simp
      exact hK _ _ ⟨⟨z1, rfl⟩, RSx.refl _, hI.mono (by omega)⟩
    exact trivial
  case hTs =>
    intro k v x y hv hc
    exact stab_listX (by
      intro T hT
      simp only [List.mem_cons, List.not_mem_nil, or_false] at hT
      rcases hT with rfl | rfl | rfl | rfl | rfl | rfl | rfl | rfl | rfl | rfl | rfl | rfl <;> first | exact fun v a b h _ => h | exact fun v a b h hc => hc.s h | exact fun v a b h hc => TL.keep h hc.chg)
      k v x y hv hc
  case hI0 => exact (HI.out).mono (by omega)
  case hfin =>
    intro w6 hR6 hI6 hX6
    intro v16 t16 v17 t17 v18 t18 v19 t19 v20 t20 v21 t21 v22 t22 v23 t23 v3 t3 v4 t4 v5 t5
    obtain ⟨q1, rfl⟩ : ∃ q1 : Int, v4 = .int .i64 q1 := t4
    obtain ⟨q2, rfl⟩ : ∃ q2 : Int, v5 = .int .i64 q2 := t5
    obtain rfl : v3 = .int .i64 q := t3
    clear t16 t17 t18 t19 t20 t21 t22 t23
    simp only [finP, Act.put, List.setIfInBounds_toArray, List.set_cons_succ, List.set_cons_zero]
    obtain ⟨_, hz⟩ := hX6 8 _ rfl rfl
    replace hz : SGh w6 r0 g R.length c0 := hz
    obtain ⟨px, xx, hh1⟩ := HT.out.rb0
    obtain ⟨vv, hh2⟩ := HT.out.r00
    have HK6 := Lib.hid (show TK w6 r0 g R by exact ((HT.out.tk.keep (Below.refl _ _).drew).chg2 ⟨hh1, fun cs e => by cases e⟩ ⟨hh2, fun cs e => by cases e⟩ hR6.chg hgr hgr0).lo' HT.out.lo)
    have HC6 := Lib.hid (HT.out.chg.drew.trans hR6.chg)
    have HZ := Lib.hid hz
    clear hR6 hI6 hX6 hz HT HI
    have z0 := cellS HZ.out 0
    go_wp2
    refine bodyPost_ret (v := .tuple #[.agg #[.slice (some ⟨g, 0, none⟩) R.length c0], .int .i64 q, .int .i64 q1, .int .i64 q2]) (by simp only [results, Try.results6]; go_simp) rfl ⟨⟨g, c0, R, q, q1, q2, rfl, (by rw [HR0.out]; exact HK6.out), hcap, r1, r2⟩, ?_⟩
    exact Chg.below HC6.out (by rw [HR0.out]; exact Nat.le_refl _) (by rw [HR0.out]; simp; omega)
end Go.Proofs.Ytgdkionmeacalab
end
section
namespace Go.Proofs.Ytgdkionmeacalab
open Go Go.RowKit
set_option linter.unusedVariables false
section
variable {P : Program}
theorem wp_region_rgt {id : Nat} {l : List Oper} {Q : Exit → Act → World → Prop} {a0 : Act} {w : World} (T : Nat → Value → World → Prop) (R : World → World → Prop) (I : Nat → World → Prop)
    (hm : P.follows .mixedOrders = true) (hB : rgC l a0.tmps.size = true) (hRr : ∀ a, R a a) (hRt : ∀ a b c, R a b → R b c → R a c) (hTs : ∀ k v a b, T k v a → R a b → T k v b) (hI0 : I 0 w.drew)
    (n jn : Nat) (sl : Tmp) (on : Oper) (N : Value → World → Prop) (hon : l[n]? = some on) (hnd : on.dst = none) (hng : on.guard = none) (hsl : on.looksAt l.toArray |>.contains sl) (hjn : dstIdx sl l 0 = some jn) (hTn : ∀ v w, T n v w) (hNs : ∀ v a b, N v a → R a b → N v b)
    (hopN : ∀ (m : Nat) (a : Act) (w' : World), m < l.length → R w.drew w' → I m w' → look l T a0 a w' (on.looksAt l.toArray) (givesUpon P (fun v w'' => N (tv a sl) w'' ∧ R w' w'' ∧ I (m + 1) w'') ((execOp a.eval on).run P w')))
    (hops : opsOK P l T R I a0 w.drew l 0) (hfin : ∀ w', R w.drew w' → I l.length w' → finP (fun k v w => T k v w ∧ (k = jn → N v w)) w' (fun a' => Q .normal a' w') l 0 a0) : (Code.region id l.toArray true).wp P Q a0 w := by
  simp only [rgC, Bool.and_eq_true] at hB
  obtain ⟨hns, hB⟩ := hB
  have hB' : ∀ (i : Nat) (o : Oper), l[i]? = some o → (∀ e ∈ o.after, Region.binds .any e = true → e.on < i) ∧ (∀ d, o.dst = some d → d < a0.tmps.size ∧ dstIdx d l 0 = some i) ∧ (∀ t ∈ o.looksAt l.toArray, ∀ j, dstIdx t l 0 = some j → ∃ e ∈ o.after, e.on = j ∧ Region.binds .any e = true) := by
    intro i o ho
    have hlt := (List.getElem?_eq_some_iff.1 ho).1
    have h1 := List.all_eq_true.1 hB i (List.mem_range.2 hlt)
    simp only [ho, Bool.and_eq_true] at h1
    obtain ⟨⟨h1, h2⟩, h3⟩ := h1
    refine ⟨fun e he hb => by have := List.all_eq_true.1 h1 e (by simpa using he); simpa [hb] using this, fun d hd => ?_, fun t ht j hj => ?_⟩
    · rw [hd] at h2
      simp only [Option.all_some, Bool.and_eq_true, decide_eq_true_eq, beq_iff_eq] at h2
      exact h2
    · have h4 := List.all_eq_true.1 h3 t ht
      rw [hj] at h4
      obtain ⟨e, he, h5⟩ := List.any_eq_true.1 h4
      simp only [Bool.and_eq_true, beq_iff_eq] at h5
      exact ⟨e, by simpa using he, h5⟩
  have hdist : ∀ (i : Nat) (o : Oper) (j : Nat) (p : Oper), l[i]? = some o → l[j]? = some p → i ≠ j → ∀ d, o.dst = some d → p.dst ≠ some d := by
    intro i o j p ho hp hij d hd hpd
    have h1 := ((hB' i o ho).2.1 d hd).2
    rw [((hB' j p hp).2.1 d hpd).2] at h1
    injection h1 with h1
    exact hij h1.symm
  have main : ∀ (fuel m : Nat) (listed : Array Bool) (a : Act) (w' : World), cntF (fun i => listed.getD i true) l.length = fuel → listed.size = l.length → fuel + m = l.length → RJ l T R I a0 w.drew m listed a w' → (listed.getD n false = true → listed.getD jn false = true ∧ N (tv a sl) w') →
      wpAny P .any l.toArray Q fuel listed a w' := by
    intro fuel
    have hdone : ∀ (m : Nat) (listed : Array Bool) (a : Act) (w' : World), m = l.length → (∀ i, i < l.length → listed.getD i false = true) → RJ l T R I a0 w.drew m listed a w' → (listed.getD n false = true → listed.getD jn false = true ∧ N (tv a sl) w') → Q .normal a w' := by
      rintro m listed a w' rfl hall ⟨hR, hI, hd, hs, ht, hT⟩ hX
      have hNN := (hX (hall n (List.getElem?_eq_some_iff.1 hon).1)).2
      refine finP_to (T := fun k v w => T k v w ∧ (k = jn → N v w)) (w := w') (F := fun a' => Q .normal a' w') (l := l) (k := 0) (b := a0) hd.symm hs.symm (fun t h => ?_) (fun j o ho hn => ?_) (hfin w' hR hI)
      · exact (ht t fun j o ho _ => h o (List.mem_of_getElem? ho)).symm
      · rw [Nat.zero_add]
        refine ⟨hT j o ho (hall j (List.getElem?_eq_some_iff.1 ho).1) hn, fun e => ?_⟩
        subst e
        obtain ⟨_, p, hp, hpd⟩ := dstIdx_some hjn
        rw [Nat.sub_zero, ho] at hp
        obtain rfl := Option.some.inj hp
        rw [hpd]
        exact hNN
    have hnil : ∀ (listed : Array Bool), listed.size = l.length → Region.ready .any l.toArray listed = [] → ∀ i, i < l.length → listed.getD i false = true := by
      intro listed hls hr i
      induction i using Nat.strongRecOn with
      | ind i ih =>
        intro hi
        by_cases hl : listed.getD i false = true
        · exact hl
        · exfalso
          have ho : l[i]? = some l[i] := List.getElem?_eq_getElem hi
          have hmem : i ∈ Region.ready .any l.toArray listed := mem_ready.2 ⟨by
            try clear hX
            rw [Array.getD_eq_getD_getElem?, Array.getElem?_eq_getElem (by omega)] at *
            simp only [Option.getD_some, Bool.not_eq_true] at *
            exact hl, l[i], by simp, fun e he hb => ih e.on ((hB' i _ ho).1 e he hb) (by have := (hB' i _ ho).1 e he hb; omega)⟩
          rw [hr] at hmem
          cases hmem
    induction fuel with
    | zero =>
      intro m listed a w' hc hls hm' hJ hX
      have hall : ∀ i, i < l.length → listed.getD i false = true := fun i hi => by
        have := cntF_zero hc i hi
        try clear hX
        rw [Array.getD_eq_getD_getElem?, Array.getElem?_eq_getElem (by omega)] at *
        simpa using this
      refine ⟨?_, hdone m listed a w' (by omega) hall hJ hX⟩
      cases hr : Region.ready .any l.toArray listed with
      | nil => rfl
      | cons x xs =>
        exfalso
        obtain ⟨h0, o, ho, _⟩ := mem_ready.1 (show x ∈ Region.ready .any l.toArray listed by rw [hr]; exact List.mem_cons_self)
        have hlt : x < l.length := by have := (Array.getElem?_eq_some_iff.1 ho).1; simpa using this
        have := hall x hlt
        try clear hX
        rw [Array.getD_eq_getD_getElem?, Array.getElem?_eq_getElem (by omega)] at *
        simp at h0 this
        rw [h0] at this
        cases this
    | succ fuel ih =>
      intro m listed a w' hc hls hm' hJ hX
      refine ⟨fun hr => ?_, fun i hi => ?_⟩
      · exfalso
        have hall := hnil listed hls hr
        have : cntF (fun i => listed.getD i true) l.length = 0 := by
          rw [cntF_same (g := fun _ => true) (fun i hi => by
            have := hall i hi
            try clear hX
            rw [Array.getD_eq_getD_getElem?, Array.getElem?_eq_getElem (by omega)] at *
            simpa using this)]
          clear hc hm' hls
          induction l.length with
          | zero => rfl
          | succ n ihn => simp [cntF, ihn]
        omega
      · obtain ⟨h0, o, ho', hall⟩ := mem_ready.1 hi
        have ho : l[i]? = some o := by simpa using ho'
        have hlt : i < l.length := (List.getElem?_eq_some_iff.1 ho).1
        obtain ⟨hR, hI, hd, hs, ht, hT⟩ := hJ
        obtain ⟨b1, b2, b3⟩ := hB' i o ho
        have hlook : ∀ t ∈ o.looksAt l.toArray, match dstIdx t l 0 with | some j => T j (tv a t) w' | none => tv a t = tv a0 t := by
          intro t htm
          cases hj : dstIdx t l 0 with
          | none =>
            refine tv_of (ht t fun j p hp _ => dstIdx_none hj p (List.mem_of_getElem? hp))
          | some j =>
            obtain ⟨e, he, rfl, hb⟩ := b3 t htm j hj
            obtain ⟨_, p, hp, hpd⟩ := dstIdx_some hj
            have := hT e.on p (by simpa using hp) (hall e he hb) (by rw [hpd]; simp)
            rw [hpd] at this
            exact this
        have hop := look_of hlook (opsOK_at hops ho m a w' (by omega) hR hI)
        rw [Nat.zero_add] at hop
        have hget : ∀ d, (listed.setIfInBounds i true).getD i d = true := fun d => by
          rw [Array.getD_eq_getD_getElem?, Array.getElem?_setIfInBounds_self_of_lt (by omega)]; rfl
        have next : ∀ v w1, T i v w1 → (i = n → N (tv a sl) w1) → R w' w1 → I (m + 1) w1 → wpAny P .any l.toArray Q fuel (listed.setIfInBounds i true) (a.put o.dst v) w1 := by
          intro v w1 hTv hNv hR1 hI1
          refine ih (m + 1) _ _ _ ?_ (by simpa using hls) (by omega) ⟨hRt _ _ _ hR hR1, hI1, (put_defers' _ _ _).trans hd, (put_size _ _ _).trans hs, fun t h => ?_, fun j p hp hl hn => ?_⟩ (fun hl => by
            by_cases e : i = n
            · subst e
              rw [hon] at ho
              obtain rfl := Option.some.inj ho
              obtain ⟨e', he', e1, e2⟩ := b3 sl (by simpa using hsl) jn hjn
              refine ⟨?_, ?_⟩
              · rw [← e1]
                by_cases e3 : i = e'.on
                · rw [← e3]; exact hget false
                · rw [getD_set_ne false e3]; exact hall e' he' e2
              · rw [show tv (a.put on.dst v) sl = tv a sl from tv_of (put_ne _ _ _ (by rw [hnd]; simp))]
                exact hNv rfl
            · rw [getD_set_ne false e] at hl
              obtain ⟨h1, h2⟩ := hX hl
              have hij : i ≠ jn := fun e' => by
                subst e'
                rw [Array.getD_eq_getD_getElem?] at h0 h1
                cases hq : listed[i]? with
                | none => rw [hq] at h1; simp at h1
                | some b => rw [hq] at h0 h1; simp at h0 h1; rw [h0] at h1; cases h1
              refine ⟨by rw [getD_set_ne false hij]; exact h1, ?_⟩
              obtain ⟨_, p, hp, hpd⟩ := dstIdx_some hjn
              rw [Nat.sub_zero] at hp
              rw [show tv (a.put o.dst v) sl = tv a sl from tv_of (put_ne _ _ _ (fun hod => hdist i o jn p ho hp hij sl hod hpd))]
              exact hNs _ _ _ h2 hR1)
          · have := cntF_set (f := fun i => listed.getD i true) (g := fun j => (listed.setIfInBounds i true).getD j true) (i := i) h0 (hget true) (fun j hj => getD_set_ne true (Ne.symm hj)) hlt
            omega
          · have hne : o.dst ≠ some t := h i o ho (hget false)
            rw [put_ne _ _ _ hne]
            exact ht t fun j p hp hl => h j p hp (getD_set_true hl)
          · by_cases e : i = j
            · subst e
              rw [ho] at hp
              obtain rfl := Option.some.inj hp
              cases hod : o.dst with
              | none => exact absurd hod hn
              | some d =>
                have : tv (a.put (some d) v) d = v := by
                  unfold tv
                  rw [Array.getD_eq_getD_getElem?, put_same _ _ _ (by rw [hs]; exact (b2 d hod).1)]
                  rfl
                simp only [vof]
                rw [this]
                exact hTv
            · rw [getD_set_ne false e] at hl
              have h2 := hTs j _ w' w1 (hT j p hp hl hn) hR1
              cases hpd : p.dst with
              | none => exact absurd hpd hn
              | some d =>
                rw [hpd] at h2
                simp only [vof] at h2 ⊢
                rw [show tv (a.put o.dst v) d = tv a d from tv_of (put_ne _ _ _ (fun hod => hdist i o j p ho hp e d hod hpd))]
                exact h2
        have hopn : i = n → look l T a0 a w' (o.looksAt l.toArray) (givesUpon P (fun v w'' => N (tv a sl) w'' ∧ R w' w'' ∧ I (m + 1) w'') ((execOp a.eval o).run P w')) := fun e => by
          subst e
          rw [hon] at ho
          obtain rfl := Option.some.inj ho
          exact hopN m a w' (by omega) hR hI
        unfold wpOp
        simp only [ho']
        cases hg : o.guard with
        | none =>
          rw [hg] at hop
          rw [if_pos (by simp [Region.wanted, hg])]
          by_cases e : i = n
          · exact .inl (wp_of_gives (look_of hlook (hopn e)) fun v w1 ⟨h1, h2, h3⟩ => next v w1 (by rw [e]; exact hTn _ _) (fun _ => h1) h2 h3)
          · exact .inl (wp_of_gives hop fun v w1 ⟨h1, h2, h3⟩ => next v w1 h1 (fun e' => absurd e' e) h2 h3)
        | some g =>
          rw [hg] at hop
          obtain ⟨g1, g2⟩ := hop
          split
          · rename_i hw
            exact .inl (wp_of_gives (g1 hw) fun v w1 ⟨h1, h2, h3⟩ => next v w1 h1 (fun e => by subst e; rw [hon] at ho; obtain rfl := Option.some.inj ho; rw [hng] at hg; cases hg) h2 h3)
          · rename_i hw
            obtain ⟨h1, h2⟩ := g2 (by simpa using hw)
            exact next undef w' h1 (fun e => by subst e; rw [hon] at ho; obtain rfl := Option.some.inj ho; rw [hng] at hg; cases hg) (hRr _) h2
  refine wp_region_any hm ?_
  refine main l.toArray.size 0 _ a0 w.drew ?_ (by simp) (by simp) ⟨hRr _, hI0, rfl, rfl, fun t _ => rfl, fun j o ho hl => ?_⟩ (fun hl => by
    exfalso
    rw [Array.getD_eq_getD_getElem?, Array.getElem?_replicate] at hl
    split at hl <;> simp at hl)
  · have : ∀ n, n ≤ l.length → cntF (fun i => (Array.replicate l.toArray.size false).getD i true) n = n := by
      intro n
      induction n with
      | zero => intro _; rfl
      | succ n ihn =>
        intro hn
        simp only [cntF]
        rw [ihn (by omega)]
        have : (Array.replicate l.toArray.size false).getD n true = false := by
          rw [Array.getD_eq_getD_getElem?, Array.getElem?_replicate, if_pos (by simp; omega)]; rfl
        rw [if_neg (by rw [this]; decide)]
    simpa using this l.length (Nat.le_refl _)
  · exfalso
    rw [Array.getD_eq_getD_getElem?, Array.getElem?_replicate] at hl
    split at hl <;> simp at hl
end
end Go.Proofs.Ytgdkionmeacalab
end
