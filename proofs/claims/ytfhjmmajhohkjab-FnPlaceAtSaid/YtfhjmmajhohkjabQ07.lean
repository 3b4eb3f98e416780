import Derived.Test.YtfhjmmajhohkjabQ06
import Derived.Deep.Draws
section
namespace Go.Proofs.Ytfhjmmajhohkjab
open Go Go.RowKit
set_option linter.unusedVariables false
section
variable {P : Program}
def rgC (l : List Oper) (size : Nat) : Bool :=
  Region.noSelect l.toArray &&
  ((List.range l.length).all fun i => match l[i]? with
    | none => true
    | some o => (o.after.toList.all fun e => !Region.binds .any e || decide (e.on < i)) &&
      (o.dst.all fun d => decide (d < size) && dstIdx d l 0 == some i) &&
      ((o.looksAt l.toArray).all fun t => match dstIdx t l 0 with
        | none => true
        | some j => o.after.toList.any fun e => e.on == j && Region.binds .any e))
theorem wp_region_rgc {id : Nat} {l : List Oper} {Q : Exit → Act → World → Prop} {a0 : Act} {w : World} (T : Nat → Value → World → Prop) (R : World → World → Prop) (I : Nat → World → Prop)
    (hm : P.follows .mixedOrders = true) (hB : rgC l a0.tmps.size = true) (hRr : ∀ a, R a a) (hRt : ∀ a b c, R a b → R b c → R a c) (hTs : ∀ k v a b, T k v a → R a b → T k v b) (hI0 : I 0 w.drew)
    (hops : opsOK P l T R I a0 w.drew l 0) (hfin : ∀ w', R w.drew w' → I l.length w' → finP T w' (fun a' => Q .normal a' w') l 0 a0) : (Code.region id l.toArray true).wp P Q a0 w := by
  simp only [rgC, Bool.and_eq_true] at hB
  obtain ⟨hns, hB⟩ := hB
  have hB' : ∀ (i : Nat) (o : Oper), l[i]? = some o → (∀ e ∈ o.after, Region.binds .any e = true → e.on < i) ∧ (∀ d, o.dst = some d → d < a0.tmps.size ∧ dstIdx d l 0 = some i) ∧ (∀ t ∈ o.looksAt l.toArray, ∀ j, dstIdx t l 0 = some j → ∃ e ∈ o.after, e.on = j ∧ Region.binds .any e = true) := by
    intro i o ho
    have hlt := (List.getElem?_eq_some_iff.1 ho).1
    have h1 := List.all_eq_true.1 hB i (List.mem_range.2 hlt)
    simp only [ho, Bool.and_eq_true] at h1
    obtain ⟨⟨h1, h2⟩, h3⟩ := h1
    refine ⟨fun e he hb => by have := List.all_eq_true.1 h1 e (by simpa using he); simpa [hb] using this, fun d hd => ?_, fun t ht j hj => ?_⟩
    · rw [hd] at h2
      simp only [Option.all_some, Bool.and_eq_true, decide_eq_true_eq, beq_iff_eq] at h2
      exact h2
    · have h4 := List.all_eq_true.1 h3 t ht
      rw [hj] at h4
      obtain ⟨e, he, h5⟩ := List.any_eq_true.1 h4
      simp only [Bool.and_eq_true, beq_iff_eq] at h5
      exact ⟨e, by simpa using he, h5⟩
  have hdist : ∀ (i : Nat) (o : Oper) (j : Nat) (p : Oper), l[i]? = some o → l[j]? = some p → i ≠ j → ∀ d, o.dst = some d → p.dst ≠ some d := by
    intro i o j p ho hp hij d hd hpd
    have h1 := ((hB' i o ho).2.1 d hd).2
    rw [((hB' j p hp).2.1 d hpd).2] at h1
    injection h1 with h1
    exact hij h1.symm
  have main : ∀ (fuel m : Nat) (listed : Array Bool) (a : Act) (w' : World), cntF (fun i => listed.getD i true) l.length = fuel → listed.size = l.length → fuel + m = l.length → RJ l T R I a0 w.drew m listed a w' →
      wpAny P .any l.toArray Q fuel listed a w' := by
    intro fuel
    have hdone : ∀ (m : Nat) (listed : Array Bool) (a : Act) (w' : World), m = l.length → (∀ i, i < l.length → listed.getD i false = true) → RJ l T R I a0 w.drew m listed a w' → Q .normal a w' := by
      rintro m listed a w' rfl hall ⟨hR, hI, hd, hs, ht, hT⟩
      refine finP_to (T := T) (w := w') (F := fun a' => Q .normal a' w') (l := l) (k := 0) (b := a0) hd.symm hs.symm (fun t h => ?_) (fun j o ho hn => ?_) (hfin w' hR hI)
      · exact (ht t fun j o ho _ => h o (List.mem_of_getElem? ho)).symm
      · rw [Nat.zero_add]; exact hT j o ho (hall j (List.getElem?_eq_some_iff.1 ho).1) hn
    have hnil : ∀ (listed : Array Bool), listed.size = l.length → Region.ready .any l.toArray listed = [] → ∀ i, i < l.length → listed.getD i false = true := by
      intro listed hls hr i
      induction i using Nat.strongRecOn with
      | ind i ih =>
        intro hi
        by_cases hl : listed.getD i false = true
        · exact hl
        · exfalso
          have ho : l[i]? = some l[i] := List.getElem?_eq_getElem hi
          have hmem : i ∈ Region.ready .any l.toArray listed := mem_ready.2 ⟨by
            rw [Array.getD_eq_getD_getElem?, Array.getElem?_eq_getElem (by omega)] at *
            simp only [Option.getD_some, Bool.not_eq_true] at *
            exact hl, l[i], by simp, fun e he hb => ih e.on ((hB' i _ ho).1 e he hb) (by have := (hB' i _ ho).1 e he hb; omega)⟩
          rw [hr] at hmem
          cases hmem
    induction fuel with
    | zero =>
      intro m listed a w' hc hls hm' hJ
      have hall : ∀ i, i < l.length → listed.getD i false = true := fun i hi => by
        have := cntF_zero hc i hi
        rw [Array.getD_eq_getD_getElem?, Array.getElem?_eq_getElem (by omega)] at *
        simpa using this
      refine ⟨?_, hdone m listed a w' (by omega) hall hJ⟩
      cases hr : Region.ready .any l.toArray listed with
      | nil => rfl
      | cons x xs =>
        exfalso
        obtain ⟨h0, o, ho, _⟩ := mem_ready.1 (show x ∈ Region.ready .any l.toArray listed by rw [hr]; exact List.mem_cons_self)
        have hlt : x < l.length := by have := (Array.getElem?_eq_some_iff.1 ho).1; simpa using this
        have := hall x hlt
        rw [Array.getD_eq_getD_getElem?, Array.getElem?_eq_getElem (by omega)] at *
        simp at h0 this
        rw [h0] at this
        cases this
    | succ fuel ih =>
      intro m listed a w' hc hls hm' hJ
      refine ⟨fun hr => ?_, fun i hi => ?_⟩
      · exfalso
        have hall := hnil listed hls hr
        have : cntF (fun i => listed.getD i true) l.length = 0 := by
          rw [cntF_same (g := fun _ => true) (fun i hi => by
            have := hall i hi
            rw [Array.getD_eq_getD_getElem?, Array.getElem?_eq_getElem (by omega)] at *
            simpa using this)]
          clear hc hm' hls
          induction l.length with
          | zero => rfl
          | succ n ihn => simp [cntF, ihn]
        omega
      · obtain ⟨h0, o, ho', hall⟩ := mem_ready.1 hi
        have ho : l[i]? = some o := by simpa using ho'
        have hlt : i < l.length := (List.getElem?_eq_some_iff.1 ho).1
        obtain ⟨hR, hI, hd, hs, ht, hT⟩ := hJ
        obtain ⟨b1, b2, b3⟩ := hB' i o ho
        have hlook : ∀ t ∈ o.looksAt l.toArray, match dstIdx t l 0 with | some j => T j (tv a t) w' | none => tv a t = tv a0 t := by
          intro t htm
          cases hj : dstIdx t l 0 with
          | none =>
            refine tv_of (ht t fun j p hp _ => dstIdx_none hj p (List.mem_of_getElem? hp))
          | some j =>
            obtain ⟨e, he, rfl, hb⟩ := b3 t htm j hj
            obtain ⟨_, p, hp, hpd⟩ := dstIdx_some hj
            have := hT e.on p (by simpa using hp) (hall e he hb) (by rw [hpd]; simp)
            rw [hpd] at this
            exact this
        have hop := look_of hlook (opsOK_at hops ho m a w' (by omega) hR hI)
        rw [Nat.zero_add] at hop
        have hget : ∀ d, (listed.setIfInBounds i true).getD i d = true := fun d => by
          rw [Array.getD_eq_getD_getElem?, Array.getElem?_setIfInBounds_self_of_lt (by omega)]; rfl
        have next : ∀ v w1, T i v w1 → R w' w1 → I (m + 1) w1 → wpAny P .any l.toArray Q fuel (listed.setIfInBounds i true) (a.put o.dst v) w1 := by
          intro v w1 hTv hR1 hI1
          refine ih (m + 1) _ _ _ ?_ (by simpa using hls) (by omega) ⟨hRt _ _ _ hR hR1, hI1, (put_defers' _ _ _).trans hd, (put_size _ _ _).trans hs, fun t h => ?_, fun j p hp hl hn => ?_⟩
          · have := cntF_set (f := fun i => listed.getD i true) (g := fun j => (listed.setIfInBounds i true).getD j true) (i := i) h0 (hget true) (fun j hj => getD_set_ne true (Ne.symm hj)) hlt
            omega
          · have hne : o.dst ≠ some t := h i o ho (hget false)
            rw [put_ne _ _ _ hne]
            exact ht t fun j p hp hl => h j p hp (getD_set_true hl)
          · by_cases e : i = j
            · subst e
              rw [ho] at hp
              obtain rfl := Option.some.inj hp
              cases hod : o.dst with
              | none => exact absurd hod hn
              | some d =>
                have : tv (a.put (some d) v) d = v := by
                  unfold tv
                  rw [Array.getD_eq_getD_getElem?, put_same _ _ _ (by rw [hs]; exact (b2 d hod).1)]
                  rfl
                simp only [vof]
                rw [this]
                exact hTv
            · rw [getD_set_ne false e] at hl
              have h2 := hTs j _ w' w1 (hT j p hp hl hn) hR1
              cases hpd : p.dst with
              | none => exact absurd hpd hn
              | some d =>
                rw [hpd] at h2
                simp only [vof] at h2 ⊢
                rw [show tv (a.put o.dst v) d = tv a d from tv_of (put_ne _ _ _ (fun hod => hdist i o j p ho hp e d hod hpd))]
                exact h2
        unfold wpOp
        simp only [ho']
        cases hg : o.guard with
        | none =>
          rw [hg] at hop
          rw [if_pos (by simp [Region.wanted, hg])]
          exact .inl (wp_of_gives hop fun v w1 ⟨h1, h2, h3⟩ => next v w1 h1 h2 h3)
        | some g =>
          rw [hg] at hop
          obtain ⟨g1, g2⟩ := hop
          split
          · rename_i hw
            exact .inl (wp_of_gives (g1 hw) fun v w1 ⟨h1, h2, h3⟩ => next v w1 h1 h2 h3)
          · rename_i hw
            obtain ⟨h1, h2⟩ := g2 (by simpa using hw)
            exact next undef w' h1 (hRr _) h2
  refine wp_region_any hm ?_
  refine main l.toArray.size 0 _ a0 w.drew ?_ (by simp) (by simp) ⟨hRr _, hI0, rfl, rfl, fun t _ => rfl, fun j o ho hl => ?_⟩
  · have : ∀ n, n ≤ l.length → cntF (fun i => (Array.replicate l.toArray.size false).getD i true) n = n := by
      intro n
      induction n with
      | zero => intro _; rfl
      | succ n ihn =>
        intro hn
        simp only [cntF]
        rw [ihn (by omega)]
        have : (Array.replicate l.toArray.size false).getD n true = false := by
          rw [Array.getD_eq_getD_getElem?, Array.getElem?_replicate, if_pos (by simp; omega)]; rfl
        rw [if_neg (by rw [this]; decide)]
    simpa using this l.length (Nat.le_refl _)
  · exfalso
    rw [Array.getD_eq_getD_getElem?, Array.getElem?_replicate] at hl
    split at hl <;> simp at hl
theorem wp_region_rglc {id : Nat} {l : List Oper} {Q : Exit → Act → World → Prop} {a0 : Act} {w : World} (T : Nat → Value → World → Prop) (R : World → World → Prop) (I : Nat → World → Prop)
    (hm : P.follows .mixedOrders = true) (hB : rgC l a0.tmps.size = true) (hRr : ∀ a, R a a) (hRt : ∀ a b c, R a b → R b c → R a c) (hTs : ∀ k v a b, T k v a → R a b → T k v b) (hI0 : I 0 w.drew)
    (hops : opsOK P l T R I a0 w.drew l 0) (hfin : ∀ w', R w.drew w' → I l.length w' → finP T w' (fun a' => Q .normal a' w') l 0 a0) : (Code.region id l.toArray true).wp P Q a0 w := wp_region_rgc T R I hm hB hRr hRt hTs hI0 hops hfin
end
end Go.Proofs.Ytfhjmmajhohkjab
end
section
namespace Go.Proofs.Ytfhjmmajhohkjab
open Go.RowKit
set_option linter.unusedVariables false
set_option maxHeartbeats 2000000
attribute [local go_sem] givesUpon_value givesUpon_skip givesUpon_enter
structure HQ (B rb bx b0 : Nat) (A : Option Addr) (n c : Nat) (p : Plc) (m : Nat) (w : World) : Prop where
  rd : Rd B rb A n c m w
  hx : w.heap[bx]? = some (.cells #[.int .i64 p.x, .int .i64 p.y, .int .i64 p.rx, .int .i64 p.ry, .int .i64 p.ww, .int .i64 p.hh, .int .i64 p.qw, .int .i64 p.qh, .int .i64 p.an] 24 (0, 0))
  h0 : ∃ q : Plc, w.heap[b0]? = some (.cells #[.int .i64 q.x, .int .i64 q.y, .int .i64 q.rx, .int .i64 q.ry, .int .i64 q.ww, .int .i64 q.hh, .int .i64 q.qw, .int .i64 q.qh, .int .i64 q.an] 24 (0, 0))
  n1 : bx ≠ rb
  n2 : b0 ≠ rb
  n3 : bx ≠ b0
  l1 : B ≤ b0
section
variable {B rb bx b0 : Nat} {A : Option Addr} {n c : Nat} {p : Plc} {m : Nat} {w w' : World}
theorem HQ.base (h : HQ B rb bx b0 A n c p m w) : B ≤ w.heap.size := by have := h.rd.lt; have := h.rd.base; omega
theorem HQ.lts (h : HQ B rb bx b0 A n c p m w) : ∀ k ∈ [rb, b0], k < w.heap.size := by
  obtain ⟨q, ha⟩ := h.h0
  have h1 := h.rd.lt
  have h2 := lt_of_heap ha
  simp [h1, h2]
theorem HQ.next (h : HQ B rb bx b0 A n c p m w) : HQ B rb bx b0 A n c p (m + 1) w := ⟨h.rd.mono (by omega), h.hx, h.h0, h.n1, h.n2, h.n3, h.l1⟩
theorem HQ.drew (h : HQ B rb bx b0 A n c p m w) : HQ B rb bx b0 A n c p m w.drew := ⟨h.rd.drew, h.hx, h.h0, h.n1, h.n2, h.n3, h.l1⟩
theorem HQ.alloc (h : HQ B rb bx b0 A n c p m w) (o : Obj) : HQ B rb bx b0 A n c p (m + 1) (w.alloc o) :=
  ⟨(h.rd.alloc o).mono (by omega), (Below.heap_alloc _ _ _ (lt_of_heap h.hx)).trans h.hx, let ⟨q, ha⟩ := h.h0; ⟨q, (Below.heap_alloc _ _ _ (lt_of_heap ha)).trans ha⟩, h.n1, h.n2, h.n3, h.l1⟩
theorem HQ.call {m' : Nat} (h : HQ B rb bx b0 A n c p m w) (hr : Rd B rb A n c m' w') (hc : Chg [rb] w w') : HQ B rb bx b0 A n c p m' w' :=
  ⟨hr, (hc.block _ (lt_of_heap h.hx) (by simpa using h.n1)).trans h.hx, let ⟨q, ha⟩ := h.h0; ⟨q, (hc.block _ (lt_of_heap ha) (by simpa using h.n2)).trans ha⟩, h.n1, h.n2, h.n3, h.l1⟩
theorem HQ.store0 (h : HQ B rb bx b0 A n c p m w) : HQ B rb bx b0 A n c p (m + 1) (((((((((w.setCell ⟨b0, 0, none⟩ (.int .i64 p.x)).setCell ⟨b0, 1, none⟩ (.int .i64 p.y)).setCell ⟨b0, 2, none⟩ (.int .i64 p.rx)).setCell ⟨b0, 3, none⟩ (.int .i64 p.ry)).setCell ⟨b0, 4, none⟩ (.int .i64 p.ww)).setCell ⟨b0, 5, none⟩ (.int .i64 p.hh)).setCell ⟨b0, 6, none⟩ (.int .i64 p.qw)).setCell ⟨b0, 7, none⟩ (.int .i64 p.qh)).setCell ⟨b0, 8, none⟩ (.int .i64 p.an)) := by
  obtain ⟨q, ha⟩ := h.h0
  have hc := put9c (b := b0) (Chg.refl [b0] w) (.inl (by simp)) (.int .i64 p.x) (.int .i64 p.y) (.int .i64 p.rx) (.int .i64 p.ry) (.int .i64 p.ww) (.int .i64 p.hh) (.int .i64 p.qw) (.int .i64 p.qh) (.int .i64 p.an)
  exact ⟨(put9r h.rd h.l1 h.n2 _ _ _ _ _ _ _ _ _).mono (by omega), (hc.block bx (lt_of_heap h.hx) (by simpa using h.n3)).trans h.hx, ⟨p, put9h ha _ _ _ _ _ _ _ _ _⟩, h.n1, h.n2, h.n3, h.l1⟩
end
set_option maxRecDepth 100000 in
theorem DrawPlaceAt_any (A : Option Addr) (n c : Nat) (w : World) (h : Bts w A n) (hn : n ≤ c) (hc : c ≤ maxLen) :
    Calls Try.prog 24 #[.slice A n c] w fun e w' => (∃ (q : Plc) (a b x y : Int), e = .returned (.tuple #[.agg #[.int .i64 q.x, .int .i64 q.y, .int .i64 q.rx, .int .i64 q.ry, .int .i64 q.ww, .int .i64 q.hh, .int .i64 q.qw, .int .i64 q.qh, .int .i64 q.an], .int .i64 a, .int .i64 b, .int .i64 x, .int .i64 y])) ∧ Below w.heap.size w w' := by
  go_enter Try.func24, Try.ntmps24
  go_wp2_with fail
  with_reducible refine (newReader_low A n c _ h (by simp) (h.alloc _) hn hc).mono ?_
  rintro e w1 ⟨n', rfl, hr1, hc1⟩
  simp only [World.size_alloc] at hr1
  go_wp2_with fail
  with_reducible refine (placeRoom_any _ hr1 (by omega)).mono ?_
  rintro e w2 ⟨⟨p, ia, ib, rfl, -, -⟩, hr2, hc2⟩
  have hs := hc1.size
  have hs2 := hc2.size
  simp only [World.size_alloc] at hs
  have Hc : Chg [w.heap.size + 1] _ w2 := (hc1.mono (by simp)).trans hc2
  have hb := (Hc.block w.heap.size (by simp) (by simp)).trans (heap_alloc_new w _)
  have hB : Chg [w.heap.size + 1, w.heap.size] w w2 := (((Chg.refl [w.heap.size + 1] w).alloc _).trans Hc).mono (by simp)
  have hl := hr2.lt
  have hlt2 : w.heap.size < w2.heap.size := by omega
  have hlt3 : w2.heap.size ≠ w.heap.size + 1 := by omega
  have hlt4 : w2.heap.size ≠ w.heap.size := by omega
  go_upto_region 3 with (fail)
  generalize hW : w2.alloc (.cells #[.int .i64 p.x, .int .i64 p.y, .int .i64 p.rx, .int .i64 p.ry, .int .i64 p.ww, .int .i64 p.hh, .int .i64 p.qw, .int .i64 p.qh, .int .i64 p.an] 24) = W at *
  have HI0 : HQ w.heap.size (w.heap.size + 1) w2.heap.size w.heap.size A n' c p (20 + 0) W.drew := by
    subst hW
    exact HQ.drew ⟨(hr2.alloc _), heap_alloc_new _ _, ⟨⟨0, 0, 0, 0, 0, 0, 0, 0, 0⟩, (Below.heap_alloc _ _ _ hlt2).trans hb⟩, hlt3, by omega, hlt4, Nat.le_refl _⟩
  have HB : Chg [w.heap.size + 1, w.heap.size] w W.drew := by
    subst hW
    exact (hB.alloc _).drew
  generalize hbx : w2.heap.size = bx at *
  generalize hrb : w.heap.size + 1 = rb at *
  generalize hb0 : w.heap.size = b0 at *
  have Hb0 := Lib.hid hb0
  have Hrb := Lib.hid hrb
  have Hn : bx ≠ b0 := hlt4
  clear hW hB hb Hc hc1 hc2 hr1 hr2 hs hs2 h hlt2 hlt3 hlt4 hl hbx hb0 hrb
  refine wp_region_rglc (fun k => (TV (.agg #[.int .i64 p.x, .int .i64 p.y, .int .i64 p.rx, .int .i64 p.ry, .int .i64 p.ww, .int .i64 p.hh, .int .i64 p.qw, .int .i64 p.qh, .int .i64 p.an]) :: TV (.int .i64 ia) :: TV (.int .i64 ib) :: TV (.pointer (some ⟨rb, 0, none⟩)) :: TL b0 [rb, b0] 5 :: TI :: TV (.pointer (some ⟨rb, 0, none⟩)) :: TL b0 [rb, b0] 5 :: TI :: TT0 :: TV (.int .i64 ia) :: TV (.int .i64 ib) :: TI :: TI :: [] : List (Value → World → Prop)).getD k TT0) (Chg [rb, b0]) (fun m w => HQ b0 rb bx b0 A n' c p (20 + m) w) (by kernel_rfl) (by kernel_rfl) (fun a => Chg.refl _ a) (fun _ _ _ h k => h.trans k) ?hTs ?hI0 ?hops ?hfin
  case hI0 => exact HI0
  case hops =>
    refine ⟨opOK_ds [(8, none)] (by kernel_rfl) rfl ?_, ?_⟩
    · intro m a w hm hR hI h1
      have hk : ∀ v, a.eval (.const v) = v := fun _ => rfl
      have hf : ∀ f, a.eval (.func f) = .func (.func f) #[] #[] := fun _ => rfl
      generalize a.eval = ρ at *
      have hm : m < 14 := hm
      obtain ⟨c0, c1, c2, c3, c4, c5, c6, c7, c8⟩ := c9_q hI.hx
      replace h1 : ρ (.tmp 8) = .pointer (some ⟨bx, 0, none⟩) := h1
      refine gives_gen (fun K hK => ?_)
      go_simp
      exact hK _ _ ⟨rfl, Chg.refl _ _, hI.next⟩
    refine ⟨opOK_ds [(9, none)] (by kernel_rfl) rfl ?_, ?_⟩
    · intro m a w hm hR hI h1
      have hk : ∀ v, a.eval (.const v) = v := fun _ => rfl
      have hf : ∀ f, a.eval (.func f) = .func (.func f) #[] #[] := fun _ => rfl
      generalize a.eval = ρ at *
      have hm : m < 14 := hm
      replace h1 : ρ (.tmp 9) = .int .i64 ia := h1
      refine gives_gen (fun K hK => ?_)
      go_simp
      exact hK _ _ ⟨rfl, Chg.refl _ _, hI.next⟩
    refine ⟨opOK_ds [(10, none)] (by kernel_rfl) rfl ?_, ?_⟩
    · intro m a w hm hR hI h1
      have hk : ∀ v, a.eval (.const v) = v := fun _ => rfl
      have hf : ∀ f, a.eval (.func f) = .func (.func f) #[] #[] := fun _ => rfl
      generalize a.eval = ρ at *
      have hm : m < 14 := hm
      replace h1 : ρ (.tmp 10) = .int .i64 ib := h1
      refine gives_gen (fun K hK => ?_)
      go_simp
      exact hK _ _ ⟨rfl, Chg.refl _ _, hI.next⟩
    refine ⟨opOK_ds [(7, none)] (by kernel_rfl) rfl ?_, ?_⟩
    · intro m a w hm hR hI h1
      have hk : ∀ v, a.eval (.const v) = v := fun _ => rfl
      have hf : ∀ f, a.eval (.func f) = .func (.func f) #[] #[] := fun _ => rfl
      generalize a.eval = ρ at *
      have hm : m < 14 := hm
      replace h1 : ρ (.tmp 7) = .pointer (some ⟨rb, 0, none⟩) := h1
      refine gives_gen (fun K hK => ?_)
      go_simp
      exact hK _ _ ⟨rfl, Chg.refl _ _, hI.next⟩
    refine ⟨opOK_ds [] (by kernel_rfl) rfl ?_, ?_⟩
    · intro m a w hm hR hI 
      have hk : ∀ v, a.eval (.const v) = v := fun _ => rfl
      have hf : ∀ f, a.eval (.func f) = .func (.func f) #[] #[] := fun _ => rfl
      generalize a.eval = ρ at *
      have hm : m < 14 := hm
      refine gives_gen (fun K hK => ?_)
      go_simp
      exact hK _ _ ⟨TL.lit hI.base hI.lts (by simp) (by simp [isI]), (Chg.refl _ _).alloc _, hI.alloc _⟩
    refine ⟨opOK_ds [(22, some 3), (23, some 4)] (by kernel_rfl) rfl ?_, ?_⟩
    · intro m a w hm hR hI h1 h2
      have hk : ∀ v, a.eval (.const v) = v := fun _ => rfl
      have hf : ∀ f, a.eval (.func f) = .func (.func f) #[] #[] := fun _ => rfl
      generalize a.eval = ρ at *
      have hm : m < 14 := hm
      replace h1 : ρ (.tmp 22) = .pointer (some ⟨rb, 0, none⟩) := h1
      replace h2 : TL b0 [rb, b0] 5 (ρ (.tmp 23)) w := h2
      refine gives_gen (fun K hK => ?_)
      go_simp
      with_reducible refine (one_any _ hI.rd (by omega) (h2.sub (by simp)) (by omega) (by omega)).mono ?_
      rintro e w1 ⟨⟨z, rfl⟩, hr, hc⟩
      exact ⟨_, rfl, hK _ _ ⟨⟨z, rfl⟩, hc.mono (by simp), hI.call hr hc⟩⟩
    refine ⟨opOK_ds [(7, none)] (by kernel_rfl) rfl ?_, ?_⟩
    · intro m a w hm hR hI h1
      have hk : ∀ v, a.eval (.const v) = v := fun _ => rfl
      have hf : ∀ f, a.eval (.func f) = .func (.func f) #[] #[] := fun _ => rfl
      generalize a.eval = ρ at *
      have hm : m < 14 := hm
      replace h1 : ρ (.tmp 7) = .pointer (some ⟨rb, 0, none⟩) := h1
      refine gives_gen (fun K hK => ?_)
      go_simp
      exact hK _ _ ⟨rfl, Chg.refl _ _, hI.next⟩
    refine ⟨opOK_ds [] (by kernel_rfl) rfl ?_, ?_⟩
    · intro m a w hm hR hI 
      have hk : ∀ v, a.eval (.const v) = v := fun _ => rfl
      have hf : ∀ f, a.eval (.func f) = .func (.func f) #[] #[] := fun _ => rfl
      generalize a.eval = ρ at *
      have hm : m < 14 := hm
      refine gives_gen (fun K hK => ?_)
      go_simp
      exact hK _ _ ⟨TL.lit hI.base hI.lts (by simp) (by simp [isI]), (Chg.refl _ _).alloc _, hI.alloc _⟩
    refine ⟨opOK_ds [(25, some 6), (26, some 7)] (by kernel_rfl) rfl ?_, ?_⟩
    · intro m a w hm hR hI h1 h2
      have hk : ∀ v, a.eval (.const v) = v := fun _ => rfl
      have hf : ∀ f, a.eval (.func f) = .func (.func f) #[] #[] := fun _ => rfl
      generalize a.eval = ρ at *
      have hm : m < 14 := hm
      replace h1 : ρ (.tmp 25) = .pointer (some ⟨rb, 0, none⟩) := h1
      replace h2 : TL b0 [rb, b0] 5 (ρ (.tmp 26)) w := h2
      refine gives_gen (fun K hK => ?_)
      go_simp
      with_reducible refine (one_any _ hI.rd (by omega) (h2.sub (by simp)) (by omega) (by omega)).mono ?_
      rintro e w1 ⟨⟨z, rfl⟩, hr, hc⟩
      exact ⟨_, rfl, hK _ _ ⟨⟨z, rfl⟩, hc.mono (by simp), hI.call hr hc⟩⟩
    refine ⟨opOK_ds [(2, none), (19, some 0)] (by kernel_rfl) rfl ?_, ?_⟩
    · intro m a w hm hR hI h1 h2
      have hk : ∀ v, a.eval (.const v) = v := fun _ => rfl
      have hf : ∀ f, a.eval (.func f) = .func (.func f) #[] #[] := fun _ => rfl
      generalize a.eval = ρ at *
      have hm : m < 14 := hm
      obtain ⟨q, ha⟩ := hI.h0
      obtain ⟨c0, c1, c2, c3, c4, c5, c6, c7, c8⟩ := c9_q ha
      obtain ⟨f0, f1, f2, f3, f4, f5, f6, f7, f8⟩ := f9_q ha
      replace h1 : ρ (.tmp 2) = .pointer (some ⟨b0, 0, none⟩) := h1
      replace h2 : ρ (.tmp 19) = .agg #[.int .i64 p.x, .int .i64 p.y, .int .i64 p.rx, .int .i64 p.ry, .int .i64 p.ww, .int .i64 p.hh, .int .i64 p.qw, .int .i64 p.qh, .int .i64 p.an] := h2
      refine gives_gen (fun K hK => ?_)
      go_simp
      exact hK _ _ ⟨trivial, put9c (Chg.refl _ _) (.inl (by simp)) _ _ _ _ _ _ _ _ _, hI.store0⟩
    refine ⟨opOK_ds [(20, some 1)] (by kernel_rfl) rfl ?_, ?_⟩
    · intro m a w hm hR hI h1
      have hk : ∀ v, a.eval (.const v) = v := fun _ => rfl
      have hf : ∀ f, a.eval (.func f) = .func (.func f) #[] #[] := fun _ => rfl
      generalize a.eval = ρ at *
      have hm : m < 14 := hm
      replace h1 : ρ (.tmp 20) = .int .i64 ia := h1
      refine gives_gen (fun K hK => ?_)
      go_simp
      exact hK _ _ ⟨rfl, Chg.refl _ _, hI.next⟩
    refine ⟨opOK_ds [(21, some 2)] (by kernel_rfl) rfl ?_, ?_⟩
    · intro m a w hm hR hI h1
      have hk : ∀ v, a.eval (.const v) = v := fun _ => rfl
      have hf : ∀ f, a.eval (.func f) = .func (.func f) #[] #[] := fun _ => rfl
      generalize a.eval = ρ at *
      have hm : m < 14 := hm
      replace h1 : ρ (.tmp 21) = .int .i64 ib := h1
      refine gives_gen (fun K hK => ?_)
      go_simp
      exact hK _ _ ⟨rfl, Chg.refl _ _, hI.next⟩
    refine ⟨opOK_ds [(24, some 5)] (by kernel_rfl) rfl ?_, ?_⟩
    · intro m a w hm hR hI h1
      have hk : ∀ v, a.eval (.const v) = v := fun _ => rfl
      have hf : ∀ f, a.eval (.func f) = .func (.func f) #[] #[] := fun _ => rfl
      generalize a.eval = ρ at *
      have hm : m < 14 := hm
      obtain ⟨z1, h1⟩ : TI (ρ (.tmp 24)) w := h1
      refine gives_gen (fun K hK => ?_)
      go_simp
      exact hK _ _ ⟨⟨_, rfl⟩, Chg.refl _ _, hI.next⟩
    refine ⟨opOK_ds [(27, some 8)] (by kernel_rfl) rfl ?_, ?_⟩
    · intro m a w hm hR hI h1
      have hk : ∀ v, a.eval (.const v) = v := fun _ => rfl
      have hf : ∀ f, a.eval (.func f) = .func (.func f) #[] #[] := fun _ => rfl
      generalize a.eval = ρ at *
      have hm : m < 14 := hm
      obtain ⟨z1, h1⟩ : TI (ρ (.tmp 27)) w := h1
      refine gives_gen (fun K hK => ?_)
      go_simp
      exact hK _ _ ⟨⟨_, rfl⟩, Chg.refl _ _, hI.next⟩
    exact trivial
  case hTs => exact st_list (by
    intro T hT
    simp only [List.mem_cons, List.not_mem_nil, or_false] at hT
    rcases hT with rfl | rfl | rfl | rfl | rfl | rfl | rfl | rfl | rfl | rfl | rfl | rfl | rfl | rfl <;> first | exact st_TI _ | exact st_TV _ _ | exact st_TL _ _ _ | exact st_TT0 _)
  case hfin =>
    intro w3 hR hI
    intro v19 t19 v20 t20 v21 t21 v22 t22 v23 t23 v24 t24 v25 t25 v26 t26 v27 t27 v3 t3 v4 t4 v5 t5 v6 t6
    obtain rfl : v3 = .int .i64 ia := t3
    obtain rfl : v4 = .int .i64 ib := t4
    obtain ⟨x, rfl⟩ : ∃ x, v5 = .int .i64 x := t5
    obtain ⟨y, rfl⟩ : ∃ y, v6 = .int .i64 y := t6
    obtain ⟨q, ha⟩ := hI.h0
    have HBB := Lib.hid (HB.trans hR)
    obtain ⟨c0, c1, c2, c3, c4, c5, c6, c7, c8⟩ := c9_q ha
    clear ha hI hR HB
    clear t19 t20 t21 t22 t23 t24 t25 t26 t27
    simp only [finP, Act.put, List.setIfInBounds_toArray, List.set_cons_succ, List.set_cons_zero]
    go_wp2
    exact bodyPost_ret (v := .tuple #[.agg #[.int .i64 q.x, .int .i64 q.y, .int .i64 q.rx, .int .i64 q.ry, .int .i64 q.ww, .int .i64 q.hh, .int .i64 q.qw, .int .i64 q.qh, .int .i64 q.an], .int .i64 ia, .int .i64 ib, .int .i64 x, .int .i64 y]) (by simp only [results, Try.results24]; go_simp) rfl ⟨⟨q, ia, ib, x, y, rfl⟩, HBB.out.below (Nat.le_refl _) (by have := Hrb.out; have := Hb0.out; simp; omega)⟩
end Go.Proofs.Ytfhjmmajhohkjab
end
