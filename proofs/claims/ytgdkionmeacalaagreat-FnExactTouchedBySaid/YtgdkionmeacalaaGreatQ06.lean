import Derived.Test.YtgdkionmeacalaaGreatQ05
import Derived.Orders
import Derived.Below
import Derived.Deep.Draws
import Derived.Deep.MidRow
import Derived.OrdersIn
import Derived.TacticsIn
import Derived.RangeFuncCalls
section
/- A region that draws its order: an invariant of the world that every operation keeps, and for each operation a property of its value that no other operation breaks: every order serves. -/
namespace Go.Proofs.YtgdkionmeacalaaGreat
open Go Go.RowKit
set_option linter.unusedVariables false
section
variable {P : Program}
def givesUpon (P : Program) (K : Value → World → Prop) : Result Next → Prop
  | .ok (.value v) w' => K v w'
  | .ok .skip w' => K undef w'
  | .ok (.enter f args) w' => Calls P f args w' fun e w'' => ∃ v, e = .returned v ∧ K v w''
  | _ => False
theorem givesUpon_value (K : Value → World → Prop) (v : Value) (w : World) : givesUpon P K (.ok (.value v) w) = K v w := rfl
theorem givesUpon_skip (K : Value → World → Prop) (w : World) : givesUpon P K (.ok .skip w) = K undef w := rfl
theorem givesUpon_enter (K : Value → World → Prop) (f : FuncId) (args : Array Value) (w : World) : givesUpon P K (.ok (.enter f args) w) = Calls P f args w fun e w'' => ∃ v, e = .returned v ∧ K v w'' := rfl
/-- which operation fills this temporary -/
def dstIdx (t : Tmp) : List Oper → Nat → Option Nat
  | [], _ => none
  | o :: r, k => if o.dst = some t then some k else dstIdx t r (k + 1)
theorem dstIdx_none {t : Tmp} : ∀ {l : List Oper} {k : Nat}, dstIdx t l k = none → ∀ o ∈ l, o.dst ≠ some t
  | [], _, _, _, h => by cases h
  | x :: r, k, h, o, ho => by
    unfold dstIdx at h
    split at h
    · cases h
    · rename_i hne
      rcases List.mem_cons.1 ho with rfl | ho
      · exact hne
      · exact dstIdx_none h o ho
theorem dstIdx_some {t : Tmp} : ∀ {l : List Oper} {k j : Nat}, dstIdx t l k = some j → k ≤ j ∧ ∃ o, l[j - k]? = some o ∧ o.dst = some t
  | [], _, _, h => by cases h
  | x :: r, k, j, h => by
    unfold dstIdx at h
    split at h
    · rename_i he
      injection h with h
      subst h
      exact ⟨Nat.le_refl _, x, by simp, he⟩
    · obtain ⟨h1, o, h2, h3⟩ := dstIdx_some h
      refine ⟨by omega, o, ?_, h3⟩
      rw [show j - k = (j - (k + 1)) + 1 from by omega]
      simpa using h2
def tv (a : Act) (t : Tmp) : Value := a.tmps.getD t undef
/-- what an operation may lean on: the values of the temporaries that it reads -/
def look (ops : List Oper) (T : Nat → Value → World → Prop) (a0 a : Act) (w : World) : List Tmp → Prop → Prop
  | [], G => G
  | t :: r, G => (match dstIdx t ops 0 with | some j => T j (tv a t) w | none => tv a t = tv a0 t) → look ops T a0 a w r G
def opOK (P : Program) (ops : List Oper) (T : Nat → Value → World → Prop) (R : World → World → Prop) (I : Nat → World → Prop) (a0 : Act) (w0 : World) (k : Nat) (o : Oper) : Prop :=
  ∀ (m : Nat) (a : Act) (w : World), m < ops.length → R w0 w → I m w →
    look ops T a0 a w (o.looksAt ops.toArray)
      (match o.guard with
       | none => givesUpon P (fun v w' => T k v w' ∧ R w w' ∧ I (m + 1) w') ((execOp a.eval o).run P w)
       | some _ => (Region.wanted o (yielded ops.toArray a.tmps) = true → givesUpon P (fun v w' => T k v w' ∧ R w w' ∧ I (m + 1) w') ((execOp a.eval o).run P w)) ∧
          (Region.wanted o (yielded ops.toArray a.tmps) = false → T k undef w ∧ I (m + 1) w))
def opsOK (P : Program) (ops : List Oper) (T : Nat → Value → World → Prop) (R : World → World → Prop) (I : Nat → World → Prop) (a0 : Act) (w0 : World) : List Oper → Nat → Prop
  | [], _ => True
  | o :: r, k => opOK P ops T R I a0 w0 k o ∧ opsOK P ops T R I a0 w0 r (k + 1)
def finP (T : Nat → Value → World → Prop) (w : World) (F : Act → Prop) : List Oper → Nat → Act → Prop
  | [], _, a => F a
  | o :: r, k, a => match o.dst with
    | none => finP T w F r (k + 1) a
    | some d => ∀ v, T k v w → finP T w F r (k + 1) (a.put (some d) v)
/-- the form of the region: no select, every edge goes back, no temporary is filled twice, whoever reads a temporary of the region waits for it -/
def rgB (l : List Oper) (size : Nat) : Bool :=
  Region.noSelect l.toArray &&
  ((List.range l.length).all fun i => match l[i]? with
    | none => true
    | some o => (o.after.toList.all fun e => decide (e.on < i)) &&
      (o.dst.all fun d => decide (d < size) && dstIdx d l 0 == some i) &&
      ((o.looksAt l.toArray).all fun t => match dstIdx t l 0 with
        | none => true
        | some j => o.after.toList.any fun e => e.on == j && Region.binds .any e))
def cntF (f : Nat → Bool) : Nat → Nat
  | 0 => 0
  | n + 1 => cntF f n + (if f n then 0 else 1)
theorem cntF_zero {f : Nat → Bool} : ∀ {n : Nat}, cntF f n = 0 → ∀ i, i < n → f i = true
  | 0, _, i, hi => by omega
  | n + 1, h, i, hi => by
    simp only [cntF] at h
    by_cases e : i = n
    · subst e; by_cases hf : f i = true
      · exact hf
      · simp [hf] at h
    · exact cntF_zero (n := n) (by omega) i (by omega)
theorem cntF_same {f g : Nat → Bool} : ∀ {n : Nat}, (∀ i, i < n → f i = g i) → cntF f n = cntF g n
  | 0, _ => rfl
  | n + 1, h => by simp only [cntF]; rw [cntF_same fun i hi => h i (by omega), h n (by omega)]
theorem cntF_set {f g : Nat → Bool} {i : Nat} (hf : f i = false) (hg : g i = true) (h : ∀ j, j ≠ i → g j = f j) : ∀ {n : Nat}, i < n → cntF f n = cntF g n + 1
  | 0, hi => by omega
  | n + 1, hi => by
    simp only [cntF]
    by_cases e : i = n
    · subst e
      rw [cntF_same (f := f) (g := g) fun j hj => (h j (by omega)).symm]
      simp [hf, hg]
    · rw [cntF_set hf hg h (n := n) (by omega), h n (by omega)]; omega
def vof (a : Act) : Option Tmp → Value
  | none => undef
  | some d => tv a d
def RJ (l : List Oper) (T : Nat → Value → World → Prop) (R : World → World → Prop) (I : Nat → World → Prop) (a0 : Act) (w0 : World) (m : Nat) (listed : Array Bool) (a : Act) (w : World) : Prop :=
  R w0 w ∧ I m w ∧ a.defers = a0.defers ∧ a.tmps.size = a0.tmps.size ∧
  (∀ t, (∀ j o, l[j]? = some o → listed.getD j false = true → o.dst ≠ some t) → a.tmps[t]? = a0.tmps[t]?) ∧
  (∀ j o, l[j]? = some o → listed.getD j false = true → o.dst ≠ none → T j (vof a o.dst) w)
theorem look_of {ops : List Oper} {T : Nat → Value → World → Prop} {a0 a : Act} {w : World} {G : Prop} : ∀ {ts : List Tmp}, (∀ t ∈ ts, match dstIdx t ops 0 with | some j => T j (tv a t) w | none => tv a t = tv a0 t) → look ops T a0 a w ts G → G
  | [], _, h => h
  | t :: r, hts, h => look_of (fun x hx => hts x (List.mem_cons_of_mem _ hx)) (h (hts t List.mem_cons_self))
theorem opsOK_at {ops : List Oper} {T : Nat → Value → World → Prop} {R : World → World → Prop} {I : Nat → World → Prop} {a0 : Act} {w0 : World} : ∀ {l : List Oper} {k : Nat}, opsOK P ops T R I a0 w0 l k → ∀ {i : Nat} {o : Oper}, l[i]? = some o → opOK P ops T R I a0 w0 (k + i) o
  | [], _, _, i, o, h => by simp at h
  | x :: r, k, h, 0, o, ho => by
    obtain rfl : x = o := by simpa using ho
    exact h.1
  | x :: r, k, h, i + 1, o, ho => by
    have := opsOK_at (k := k + 1) h.2 (i := i) (o := o) (by simpa using ho)
    rwa [show k + (i + 1) = k + 1 + i from by omega]
theorem put_size (a : Act) (d : Option Tmp) (v : Value) : (a.put d v).tmps.size = a.tmps.size := by cases d <;> simp [Act.put]
theorem put_defers' (a : Act) (d : Option Tmp) (v : Value) : (a.put d v).defers = a.defers := by cases d <;> rfl
theorem put_ne (a : Act) (d : Option Tmp) (v : Value) {t : Nat} (h : d ≠ some t) : (a.put d v).tmps[t]? = a.tmps[t]? := by
  cases d with
  | none => rfl
  | some d => exact Array.getElem?_setIfInBounds_ne (fun e => h (by rw [e]))
theorem put_same (a : Act) (d : Tmp) (v : Value) (h : d < a.tmps.size) : (a.put (some d) v).tmps[d]? = some v := by
  simp [Act.put, h]
theorem tv_of {a b : Act} {t : Tmp} (h : a.tmps[t]? = b.tmps[t]?) : tv a t = tv b t := by
  unfold tv; rw [Array.getD_eq_getD_getElem?, Array.getD_eq_getD_getElem?, h]
theorem finP_to {T : Nat → Value → World → Prop} {w : World} {F : Act → Prop} {a' : Act} : ∀ {l : List Oper} {k : Nat} {b : Act}, b.defers = a'.defers → b.tmps.size = a'.tmps.size →
    (∀ t, (∀ o ∈ l, o.dst ≠ some t) → b.tmps[t]? = a'.tmps[t]?) → (∀ j o, l[j]? = some o → o.dst ≠ none → T (k + j) (vof a' o.dst) w) → finP T w F l k b → F a'
  | [], k, b, hd, hs, hb, hT, h => by
    have e : b = a' := by
      obtain ⟨bt, bd⟩ := b
      obtain ⟨at', ad⟩ := a'
      simp only at hd hs hb
      subst hd
      congr 1
      exact Array.ext_getElem? fun t => hb t (by simp)
    rw [← e]; exact h
  | o :: r, k, b, hd, hs, hb, hT, h => by
    unfold finP at h
    cases ho : o.dst with
    | none =>
      rw [ho] at h
      refine finP_to hd hs (fun t ht => hb t (fun x hx => ?_)) (fun j x hx hn => ?_) h
      · rcases List.mem_cons.1 hx with rfl | hx
        · rw [ho]; simp
        · exact ht x hx
      · have := hT (j + 1) x (by simpa using hx) hn
        rwa [show k + (j + 1) = k + 1 + j from by omega] at this
    | some d =>
      rw [ho] at h
      have h0 := hT 0 o (by simp) (by rw [ho]; simp)
      rw [ho] at h0
      have h1 := h (vof a' (some d)) h0
      refine finP_to (by rw [put_defers']; exact hd) (by rw [put_size]; exact hs) (fun t ht => ?_) (fun j x hx hn => ?_) h1
      · by_cases e : d = t
        · subst e
          rcases Nat.lt_or_ge d b.tmps.size with hlt | hge
          · rw [put_same _ _ _ hlt]
            simp only [vof, tv]
            rw [Array.getD_eq_getD_getElem?, Array.getElem?_eq_getElem (by omega)]
            rfl
          · rw [Array.getElem?_eq_none (by rw [put_size]; omega), Array.getElem?_eq_none (by omega)]
        · rw [put_ne _ _ _ (by simpa using e)]
          refine hb t fun x hx => ?_
          rcases List.mem_cons.1 hx with rfl | hx
          · rw [ho]; simpa using e
          · exact ht x hx
      · have := hT (j + 1) x (by simpa using hx) hn
        rwa [show k + (j + 1) = k + 1 + j from by omega] at this
theorem wp_of_gives {o : Oper} {a : Act} {w : World} {K : Value → World → Prop} {N : Act → World → Prop} {Q : Exit → Act → World → Prop} (h : givesUpon P K ((execOp a.eval o).run P w)) (hN : ∀ v w', K v w' → N (a.put o.dst v) w') : o.wp P a w N Q := by
  unfold Oper.wp
  generalize (execOp a.eval o).run P w = r at *
  cases r with
  | ok n w' =>
    cases n <;> simp only [givesUpon] at h <;> simp only [Oper.upon]
    case value u => exact hN _ _ h
    case skip => exact hN _ _ h
    case enter f args => exact h.mono fun e w'' ⟨v, he, hk⟩ => by subst he; exact hN _ _ hk
  | halt x w' => simp only [givesUpon] at h
theorem wp_region_rg {id : Nat} {l : List Oper} {Q : Exit → Act → World → Prop} {a0 : Act} {w : World} (T : Nat → Value → World → Prop) (R : World → World → Prop) (I : Nat → World → Prop)
    (hm : P.follows .mixedOrders = true) (hB : rgB l a0.tmps.size = true) (hRr : ∀ a, R a a) (hRt : ∀ a b c, R a b → R b c → R a c) (hTs : ∀ k v a b, T k v a → R a b → T k v b) (hI0 : I 0 w.drew)
    (hops : opsOK P l T R I a0 w.drew l 0) (hfin : ∀ w', R w.drew w' → I l.length w' → finP T w' (fun a' => Q .normal a' w') l 0 a0) : (Code.region id l.toArray true).wp P Q a0 w := by
  simp only [rgB, Bool.and_eq_true] at hB
  obtain ⟨hns, hB⟩ := hB
  have hB' : ∀ (i : Nat) (o : Oper), l[i]? = some o → (∀ e ∈ o.after, e.on < i) ∧ (∀ d, o.dst = some d → d < a0.tmps.size ∧ dstIdx d l 0 = some i) ∧ (∀ t ∈ o.looksAt l.toArray, ∀ j, dstIdx t l 0 = some j → ∃ e ∈ o.after, e.on = j ∧ Region.binds .any e = true) := by
    intro i o ho
    have hlt := (List.getElem?_eq_some_iff.1 ho).1
    have h1 := List.all_eq_true.1 hB i (List.mem_range.2 hlt)
    simp only [ho, Bool.and_eq_true] at h1
    obtain ⟨⟨h1, h2⟩, h3⟩ := h1
    refine ⟨fun e he => by have := List.all_eq_true.1 h1 e (by simpa using he); simpa using this, fun d hd => ?_, fun t ht j hj => ?_⟩
    · rw [hd] at h2
      simp only [Option.all_some, Bool.and_eq_true, decide_eq_true_eq, beq_iff_eq] at h2
      exact h2
    · have h4 := List.all_eq_true.1 h3 t ht
      rw [hj] at h4
      obtain ⟨e, he, h5⟩ := List.any_eq_true.1 h4
      simp only [Bool.and_eq_true, beq_iff_eq] at h5
      exact ⟨e, by simpa using he, h5⟩
  have hdist : ∀ (i : Nat) (o : Oper) (j : Nat) (p : Oper), l[i]? = some o → l[j]? = some p → i ≠ j → ∀ d, o.dst = some d → p.dst ≠ some d := by
    intro i o j p ho hp hij d hd hpd
    have h1 := ((hB' i o ho).2.1 d hd).2
    rw [((hB' j p hp).2.1 d hpd).2] at h1
    injection h1 with h1
    exact hij h1.symm
  have main : ∀ (fuel m : Nat) (listed : Array Bool) (a : Act) (w' : World), cntF (fun i => listed.getD i true) l.length = fuel → listed.size = l.length → fuel + m = l.length → RJ l T R I a0 w.drew m listed a w' →
      wpAny P .any l.toArray Q fuel listed a w' := by
    intro fuel
    have hdone : ∀ (m : Nat) (listed : Array Bool) (a : Act) (w' : World), m = l.length → (∀ i, i < l.length → listed.getD i false = true) → RJ l T R I a0 w.drew m listed a w' → Q .normal a w' := by
      rintro m listed a w' rfl hall ⟨hR, hI, hd, hs, ht, hT⟩
      refine finP_to (T := T) (w := w') (F := fun a' => Q .normal a' w') (l := l) (k := 0) (b := a0) hd.symm hs.symm (fun t h => ?_) (fun j o ho hn => ?_) (hfin w' hR hI)
      · exact (ht t fun j o ho _ => h o (List.mem_of_getElem? ho)).symm
      · rw [Nat.zero_add]; exact hT j o ho (hall j (List.getElem?_eq_some_iff.1 ho).1) hn
    have hnil : ∀ (listed : Array Bool), listed.size = l.length → Region.ready .any l.toArray listed = [] → ∀ i, i < l.length → listed.getD i false = true := by
      intro listed hls hr i
      induction i using Nat.strongRecOn with
      | ind i ih =>
        intro hi
        by_cases hl : listed.getD i false = true
        · exact hl
        · exfalso
          have ho : l[i]? = some l[i] := List.getElem?_eq_getElem hi
          have hmem : i ∈ Region.ready .any l.toArray listed := mem_ready.2 ⟨by
            rw [Array.getD_eq_getD_getElem?, Array.getElem?_eq_getElem (by omega)] at *
            simp only [Option.getD_some, Bool.not_eq_true] at *
            exact hl, l[i], by simp, fun e he _ => ih e.on ((hB' i _ ho).1 e he) (by have := (hB' i _ ho).1 e he; omega)⟩
          rw [hr] at hmem
          cases hmem
    induction fuel with
    | zero =>
      intro m listed a w' hc hls hm' hJ
      have hall : ∀ i, i < l.length → listed.getD i false = true := fun i hi => by
        have := cntF_zero hc i hi
        rw [Array.getD_eq_getD_getElem?, Array.getElem?_eq_getElem (by omega)] at *
        simpa using this
      refine ⟨?_, hdone m listed a w' (by omega) hall hJ⟩
      cases hr : Region.ready .any l.toArray listed with
      | nil => rfl
      | cons x xs =>
        exfalso
        obtain ⟨h0, o, ho, _⟩ := mem_ready.1 (show x ∈ Region.ready .any l.toArray listed by rw [hr]; exact List.mem_cons_self)
        have hlt : x < l.length := by have := (Array.getElem?_eq_some_iff.1 ho).1; simpa using this
        have := hall x hlt
        rw [Array.getD_eq_getD_getElem?, Array.getElem?_eq_getElem (by omega)] at *
        simp at h0 this
        rw [h0] at this
        cases this
    | succ fuel ih =>
      intro m listed a w' hc hls hm' hJ
      refine ⟨fun hr => ?_, fun i hi => ?_⟩
      · exfalso
        have hall := hnil listed hls hr
        have : cntF (fun i => listed.getD i true) l.length = 0 := by
          rw [cntF_same (g := fun _ => true) (fun i hi => by
            have := hall i hi
            rw [Array.getD_eq_getD_getElem?, Array.getElem?_eq_getElem (by omega)] at *
            simpa using this)]
          clear hc hm' hls
          induction l.length with
          | zero => rfl
          | succ n ihn => simp [cntF, ihn]
        omega
      · obtain ⟨h0, o, ho', hall⟩ := mem_ready.1 hi
        have ho : l[i]? = some o := by simpa using ho'
        have hlt : i < l.length := (List.getElem?_eq_some_iff.1 ho).1
        obtain ⟨hR, hI, hd, hs, ht, hT⟩ := hJ
        obtain ⟨b1, b2, b3⟩ := hB' i o ho
        have hlook : ∀ t ∈ o.looksAt l.toArray, match dstIdx t l 0 with | some j => T j (tv a t) w' | none => tv a t = tv a0 t := by
          intro t htm
          cases hj : dstIdx t l 0 with
          | none =>
            refine tv_of (ht t fun j p hp _ => dstIdx_none hj p (List.mem_of_getElem? hp))
          | some j =>
            obtain ⟨e, he, rfl, hb⟩ := b3 t htm j hj
            obtain ⟨_, p, hp, hpd⟩ := dstIdx_some hj
            have := hT e.on p (by simpa using hp) (hall e he hb) (by rw [hpd]; simp)
            rw [hpd] at this
            exact this
        have hop := look_of hlook (opsOK_at hops ho m a w' (by omega) hR hI)
        rw [Nat.zero_add] at hop
        have hget : ∀ d, (listed.setIfInBounds i true).getD i d = true := fun d => by
          rw [Array.getD_eq_getD_getElem?, Array.getElem?_setIfInBounds_self_of_lt (by omega)]; rfl
        have next : ∀ v w1, T i v w1 → R w' w1 → I (m + 1) w1 → wpAny P .any l.toArray Q fuel (listed.setIfInBounds i true) (a.put o.dst v) w1 := by
          intro v w1 hTv hR1 hI1
          refine ih (m + 1) _ _ _ ?_ (by simpa using hls) (by omega) ⟨hRt _ _ _ hR hR1, hI1, (put_defers' _ _ _).trans hd, (put_size _ _ _).trans hs, fun t h => ?_, fun j p hp hl hn => ?_⟩
          · have := cntF_set (f := fun i => listed.getD i true) (g := fun j => (listed.setIfInBounds i true).getD j true) (i := i) h0 (hget true) (fun j hj => getD_set_ne true (Ne.symm hj)) hlt
            omega
          · have hne : o.dst ≠ some t := h i o ho (hget false)
            rw [put_ne _ _ _ hne]
            exact ht t fun j p hp hl => h j p hp (getD_set_true hl)
          · by_cases e : i = j
            · subst e
              rw [ho] at hp
              obtain rfl := Option.some.inj hp
              cases hod : o.dst with
              | none => exact absurd hod hn
              | some d =>
                have : tv (a.put (some d) v) d = v := by
                  unfold tv
                  rw [Array.getD_eq_getD_getElem?, put_same _ _ _ (by rw [hs]; exact (b2 d hod).1)]
                  rfl
                simp only [vof]
                rw [this]
                exact hTv
            · rw [getD_set_ne false e] at hl
              have h2 := hTs j _ w' w1 (hT j p hp hl hn) hR1
              cases hpd : p.dst with
              | none => exact absurd hpd hn
              | some d =>
                rw [hpd] at h2
                simp only [vof] at h2 ⊢
                rw [show tv (a.put o.dst v) d = tv a d from tv_of (put_ne _ _ _ (fun hod => hdist i o j p ho hp e d hod hpd))]
                exact h2
        unfold wpOp
        simp only [ho']
        cases hg : o.guard with
        | none =>
          rw [hg] at hop
          rw [if_pos (by simp [Region.wanted, hg])]
          exact .inl (wp_of_gives hop fun v w1 ⟨h1, h2, h3⟩ => next v w1 h1 h2 h3)
        | some g =>
          rw [hg] at hop
          obtain ⟨g1, g2⟩ := hop
          split
          · rename_i hw
            exact .inl (wp_of_gives (g1 hw) fun v w1 ⟨h1, h2, h3⟩ => next v w1 h1 h2 h3)
          · rename_i hw
            obtain ⟨h1, h2⟩ := g2 (by simpa using hw)
            exact next undef w' h1 (hRr _) h2
  refine wp_region_any hm ?_
  refine main l.toArray.size 0 _ a0 w.drew ?_ (by simp) (by simp) ⟨hRr _, hI0, rfl, rfl, fun t _ => rfl, fun j o ho hl => ?_⟩
  · have : ∀ n, n ≤ l.length → cntF (fun i => (Array.replicate l.toArray.size false).getD i true) n = n := by
      intro n
      induction n with
      | zero => intro _; rfl
      | succ n ihn =>
        intro hn
        simp only [cntF]
        rw [ihn (by omega)]
        have : (Array.replicate l.toArray.size false).getD n true = false := by
          rw [Array.getD_eq_getD_getElem?, Array.getElem?_replicate, if_pos (by simp; omega)]; rfl
        rw [if_neg (by rw [this]; decide)]
    simpa using this l.length (Nat.le_refl _)
  · exfalso
    rw [Array.getD_eq_getD_getElem?, Array.getElem?_replicate] at hl
    split at hl <;> simp at hl
/-- what an operation leans on, written out: which temporaries, filled by which operations -/
def lookD (T : Nat → Value → World → Prop) (a0 a : Act) (w : World) : List (Tmp × Option Nat) → Prop → Prop
  | [], G => G
  | (t, some j) :: r, G => T j (a.eval (.tmp t)) w → lookD T a0 a w r G
  | (t, none) :: r, G => a.eval (.tmp t) = a0.eval (.tmp t) → lookD T a0 a w r G
def dsB (ops : List Oper) (o : Oper) (ds : List (Tmp × Option Nat)) : Bool := (o.looksAt ops.toArray == ds.map (·.1)) && ds.all fun p => dstIdx p.1 ops 0 == p.2
theorem look_ds {ops : List Oper} {T : Nat → Value → World → Prop} {a0 a : Act} {w : World} {G : Prop} : ∀ {ds : List (Tmp × Option Nat)}, (∀ p ∈ ds, dstIdx p.1 ops 0 = p.2) → lookD T a0 a w ds G → look ops T a0 a w (ds.map (·.1)) G
  | [], _, h => h
  | (t, some j) :: r, hd, h => by
    have e := hd _ List.mem_cons_self
    simp only at e
    unfold lookD at h
    simp only [List.map_cons, look, e]
    exact fun x => look_ds (fun p hp => hd p (List.mem_cons_of_mem _ hp)) (h x)
  | (t, none) :: r, hd, h => by
    have e := hd _ List.mem_cons_self
    simp only at e
    unfold lookD at h
    simp only [List.map_cons, look, e]
    exact fun x => look_ds (fun p hp => hd p (List.mem_cons_of_mem _ hp)) (h x)
theorem opOK_ds {ops : List Oper} {T : Nat → Value → World → Prop} {R : World → World → Prop} {I : Nat → World → Prop} {a0 : Act} {w0 : World} {k : Nat} {o : Oper} (ds : List (Tmp × Option Nat)) (hB : dsB ops o ds = true) (hg : o.guard = none)
    (h : ∀ (m : Nat) (a : Act) (w : World), m < ops.length → R w0 w → I m w → lookD T a0 a w ds (givesUpon P (fun v w' => T k v w' ∧ R w w' ∧ I (m + 1) w') ((execOp a.eval o).run P w))) : opOK P ops T R I a0 w0 k o := by
  intro m a w hm hR hI
  simp only [dsB, Bool.and_eq_true, beq_iff_eq] at hB
  obtain ⟨h1, h2⟩ := hB
  rw [h1]
  refine look_ds (fun p hp => by have := List.all_eq_true.1 h2 p hp; simpa using this) ?_
  have := h m a w hm hR hI
  rw [hg]
  exact this
theorem wp_region_rgl {id : Nat} {l : List Oper} {Q : Exit → Act → World → Prop} {a0 : Act} {w : World} (T : Nat → Value → World → Prop) (R : World → World → Prop) (I : Nat → World → Prop)
    (hm : P.follows .mixedOrders = true) (hB : rgB l a0.tmps.size = true) (hRr : ∀ a, R a a) (hRt : ∀ a b c, R a b → R b c → R a c) (hTs : ∀ k v a b, T k v a → R a b → T k v b) (hI0 : I 0 w.drew)
    (hops : opsOK P l T R I a0 w.drew l 0) (hfin : ∀ w', R w.drew w' → I l.length w' → finP T w' (fun a' => Q .normal a' w') l 0 a0) : (Code.region id l.toArray true).wp P Q a0 w := wp_region_rg T R I hm hB hRr hRt hTs hI0 hops hfin
end
end Go.Proofs.YtgdkionmeacalaaGreat
end
section
namespace Go.Proofs.YtgdkionmeacalaaGreat
open Go Go.RowKit
set_option linter.unusedVariables false
section
variable {P : Program}
def rgC (l : List Oper) (size : Nat) : Bool :=
  Region.noSelect l.toArray &&
  ((List.range l.length).all fun i => match l[i]? with
    | none => true
    | some o => (o.after.toList.all fun e => !Region.binds .any e || decide (e.on < i)) &&
      (o.dst.all fun d => decide (d < size) && dstIdx d l 0 == some i) &&
      ((o.looksAt l.toArray).all fun t => match dstIdx t l 0 with
        | none => true
        | some j => o.after.toList.any fun e => e.on == j && Region.binds .any e))
end
end Go.Proofs.YtgdkionmeacalaaGreat
end
section
namespace Go.Proofs.YtgdkionmeacalaaGreat
open Go Go.RowKit
set_option linter.unusedVariables false
section
variable {P : Program}
/-- one operation waits for another, by way of others -/
def reachB (l : List Oper) : Nat → Nat → Nat → Bool
  | 0, _, _ => false
  | f + 1, i, j => match l[i]? with
    | none => false
    | some o => o.after.toList.any fun e => Region.binds .any e && (e.on == j || reachB l f e.on j)
/-- all from n on wait for all ahead of n -/
def cloB (l : List Oper) (n : Nat) : Bool := decide (n ≤ l.length) && (List.range l.length).all fun i => decide (i < n) || (List.range n).all fun j => reachB l l.length i j
/-- what is done waits for nothing -/
def DC (l : List Oper) (listed : Array Bool) : Prop := ∀ (i : Nat) (o : Oper), l[i]? = some o → listed.getD i false = true → ∀ e ∈ o.after, Region.binds .any e = true → listed.getD e.on false = true
theorem DC.reach {l : List Oper} {listed : Array Bool} (h : DC l listed) : ∀ (f : Nat) {i j : Nat}, listed.getD i false = true → reachB l f i j = true → listed.getD j false = true
  | 0, i, j, _, hr => by simp [reachB] at hr
  | f + 1, i, j, hi, hr => by
    rw [reachB] at hr
    cases ho : l[i]? with
    | none => rw [ho] at hr; simp at hr
    | some o =>
      rw [ho] at hr
      simp only [List.any_eq_true, Bool.and_eq_true, Bool.or_eq_true, beq_iff_eq] at hr
      obtain ⟨e, he, hb, hr⟩ := hr
      have hl := h i o ho hi e (by simpa using he) hb
      rcases hr with rfl | hr
      · exact hl
      · exact DC.reach h f hl hr
theorem DC.set {l : List Oper} {listed : Array Bool} (h : DC l listed) {i : Nat} {o : Oper} (ho : l[i]? = some o) (hall : ∀ e ∈ o.after, Region.binds .any e = true → listed.getD e.on false = true) : DC l (listed.setIfInBounds i true) := fun k p hp hl e he hb => by
  by_cases e1 : i = k
  · subst e1
    rw [ho] at hp
    obtain rfl := Option.some.inj hp
    exact getD_set_true (hall e he hb)
  · rw [getD_set_ne false e1] at hl
    exact getD_set_true (h k p hp hl e he hb)
theorem cntF_lt (n1 : Nat) : ∀ n : Nat, cntF (fun i => decide (i < n1)) n = n - n1
  | 0 => by simp [cntF]
  | n + 1 => by
    simp only [cntF, cntF_lt n1 n]
    by_cases h : n < n1
    · simp [h]; omega
    · simp [h]; omega
theorem listedTo_size : ∀ (m k : Nat) (l : Array Bool), (listedTo m k l).size = l.size
  | 0, _, _ => rfl
  | m + 1, k, l => by rw [listedTo, listedTo_size]; simp
theorem listedTo_getD : ∀ {m k : Nat} {l : Array Bool} {i : Nat}, k + m ≤ l.size → (listedTo m k l).getD i false = if k ≤ i ∧ i < k + m then true else l.getD i false
  | 0, k, l, i, _ => by rw [listedTo, if_neg (by omega)]
  | m + 1, k, l, i, h => by
    rw [listedTo, listedTo_getD (by simpa using (by omega : k + 1 + m ≤ l.size))]
    by_cases e : i = k
    · subst e
      rw [if_neg (by omega), if_pos (by omega), Array.getD_eq_getD_getElem?, Array.getElem?_setIfInBounds_self_of_lt (by omega)]
      rfl
    · rw [getD_set_ne false (fun h => e h.symm)]
      by_cases h2 : k + 1 ≤ i ∧ i < k + 1 + m
      · rw [if_pos h2, if_pos (by omega)]
      · rw [if_neg h2, if_neg (by omega)]
theorem wpAny_rgp {l : List Oper} {Q : Exit → Act → World → Prop} {a0 : Act} {w : World} (T : Nat → Value → World → Prop) (R : World → World → Prop) (I : Nat → World → Prop)
    (n1 : Nat) (hB : rgC l a0.tmps.size = true) (hC : cloB l n1 = true) (hRr : ∀ a, R a a) (hRt : ∀ a b c, R a b → R b c → R a c) (hTs : ∀ k v a b, T k v a → R a b → T k v b) (hI0 : I 0 w.drew)
    (hops : opsOK P l T R I a0 w.drew (l.take n1) 0) (hfin : ∀ w', R w.drew w' → I n1 w' → finP T w' (fun a' => wpAny P .any l.toArray Q (l.length - n1) (listedTo n1 0 (Array.replicate l.toArray.size false)) a' w') (l.take n1) 0 a0) : wpAny P .any l.toArray Q l.toArray.size (Array.replicate l.toArray.size false) a0 w.drew := by
  simp only [rgC, Bool.and_eq_true] at hB
  obtain ⟨hns, hB⟩ := hB
  have hB' : ∀ (i : Nat) (o : Oper), l[i]? = some o → (∀ e ∈ o.after, Region.binds .any e = true → e.on < i) ∧ (∀ d, o.dst = some d → d < a0.tmps.size ∧ dstIdx d l 0 = some i) ∧ (∀ t ∈ o.looksAt l.toArray, ∀ j, dstIdx t l 0 = some j → ∃ e ∈ o.after, e.on = j ∧ Region.binds .any e = true) := by
    intro i o ho
    have hlt := (List.getElem?_eq_some_iff.1 ho).1
    have h1 := List.all_eq_true.1 hB i (List.mem_range.2 hlt)
    simp only [ho, Bool.and_eq_true] at h1
    obtain ⟨⟨h1, h2⟩, h3⟩ := h1
    refine ⟨fun e he hb => by have := List.all_eq_true.1 h1 e (by simpa using he); simpa [hb] using this, fun d hd => ?_, fun t ht j hj => ?_⟩
    · rw [hd] at h2
      simp only [Option.all_some, Bool.and_eq_true, decide_eq_true_eq, beq_iff_eq] at h2
      exact h2
    · have h4 := List.all_eq_true.1 h3 t ht
      rw [hj] at h4
      obtain ⟨e, he, h5⟩ := List.any_eq_true.1 h4
      simp only [Bool.and_eq_true, beq_iff_eq] at h5
      exact ⟨e, by simpa using he, h5⟩
  have hdist : ∀ (i : Nat) (o : Oper) (j : Nat) (p : Oper), l[i]? = some o → l[j]? = some p → i ≠ j → ∀ d, o.dst = some d → p.dst ≠ some d := by
    intro i o j p ho hp hij d hd hpd
    have h1 := ((hB' i o ho).2.1 d hd).2
    rw [((hB' j p hp).2.1 d hpd).2] at h1
    injection h1 with h1
    exact hij h1.symm
  obtain ⟨hle1, hcl⟩ : n1 ≤ l.length ∧ ∀ i, n1 ≤ i → i < l.length → ∀ j, j < n1 → reachB l l.length i j = true := by
    simp only [cloB, Bool.and_eq_true, decide_eq_true_eq, List.all_eq_true, List.mem_range, Bool.or_eq_true] at hC
    refine ⟨hC.1, fun i hi hil j hj => ?_⟩
    rcases hC.2 i hil with h | h
    · omega
    · exact h j hj
  have main : ∀ (fuel m : Nat) (listed : Array Bool) (a : Act) (w' : World), cntF (fun i => listed.getD i true) l.length = fuel → listed.size = l.length → fuel + m = l.length → (∀ i, n1 ≤ i → i < l.length → listed.getD i false = false) → DC l listed → RJ l T R I a0 w.drew m listed a w' →
      wpAny P .any l.toArray Q fuel listed a w' := by
    intro fuel
    have hdone : ∀ (m : Nat) (listed : Array Bool) (a : Act) (w' : World), cntF (fun i => listed.getD i true) l.length = l.length - m → listed.size = l.length → m ≤ l.length → (∀ i, n1 ≤ i → i < l.length → listed.getD i false = false) → (∀ i, i < n1 → listed.getD i false = true) → RJ l T R I a0 w.drew m listed a w' → wpAny P .any l.toArray Q (l.length - m) listed a w' := by
      rintro m listed a w' hc hls hml hlow hall ⟨hR, hI, hd, hs, ht, hT⟩
      have hm1 : m = n1 := by
        have h1 : cntF (fun i => listed.getD i true) l.length = cntF (fun i => decide (i < n1)) l.length := cntF_same (fun i hi => by
          by_cases h : i < n1
          · have := hall i h
            rw [Array.getD_eq_getD_getElem?, Array.getElem?_eq_getElem (by omega)] at *
            simpa [h] using this
          · have := hlow i (by omega) hi
            rw [Array.getD_eq_getD_getElem?, Array.getElem?_eq_getElem (by omega)] at *
            simpa [h] using this)
        rw [h1, cntF_lt] at hc
        omega
      subst hm1
      have he : listed = listedTo m 0 (Array.replicate l.toArray.size false) := by
        apply Array.ext
        · rw [listedTo_size]; simp [hls]
        · intro i h1 h2
          have e1 : listed[i] = listed.getD i false := by rw [Array.getD_eq_getD_getElem?, Array.getElem?_eq_getElem h1]; rfl
          have e2 : (listedTo m 0 (Array.replicate l.toArray.size false))[i] = (listedTo m 0 (Array.replicate l.toArray.size false)).getD i false := by rw [Array.getD_eq_getD_getElem?, Array.getElem?_eq_getElem h2]; rfl
          rw [e1, e2, listedTo_getD (by simpa using (by omega : 0 + m ≤ l.length))]
          by_cases h : i < m
          · rw [hall i h, if_pos (by omega)]
          · rw [hlow i (by omega) (by omega), if_neg (by omega), Array.getD_eq_getD_getElem?, Array.getElem?_replicate]
            split <;> rfl
      have hlm : ∀ (j : Nat) (o : Oper), l[j]? = some o → listed.getD j false = true → j < m := fun j o ho hl => by
        by_cases h : j < m
        · exact h
        · exfalso
          have := hlow j (by omega) (List.getElem?_eq_some_iff.1 ho).1
          rw [hl] at this
          cases this
      rw [he]
      refine finP_to (T := T) (w := w') (F := fun a' => wpAny P .any l.toArray Q (l.length - m) (listedTo m 0 (Array.replicate l.toArray.size false)) a' w') (l := l.take m) (k := 0) (b := a0) hd.symm hs.symm (fun t h => ?_) (fun j o ho hn => ?_) (hfin w' hR hI)
      · exact (ht t fun j o ho hl => h o (by
          have hj := hlm j o ho hl
          exact List.mem_of_getElem? (i := j) (by rw [List.getElem?_take, if_pos hj]; exact ho))).symm
      · rw [Nat.zero_add]
        rw [List.getElem?_take] at ho
        split at ho
        · rename_i hj
          exact hT j o ho (hall j hj) hn
        · cases ho
    induction fuel with
    | zero =>
      intro m listed a w' hc hls hm' hlow hdc hJ
      have hall : ∀ i, i < l.length → listed.getD i false = true := fun i hi => by
        have := cntF_zero hc i hi
        rw [Array.getD_eq_getD_getElem?, Array.getElem?_eq_getElem (by omega)] at *
        simpa using this
      have h := hdone m listed a w' (by rw [hc]; omega) hls (by omega) hlow (fun i hi => hall i (by omega)) hJ
      rwa [show l.length - m = 0 by omega] at h
    | succ fuel ih =>
      intro m listed a w' hc hls hm' hlow hdc hJ
      by_cases hph : ∀ i, i < n1 → listed.getD i false = true
      · have h := hdone m listed a w' (by rw [hc]; omega) hls (by omega) hlow hph hJ
        rwa [show l.length - m = fuel + 1 by omega] at h
      have hlt1 : ∀ (i : Nat) (o : Oper), l[i]? = some o → listed.getD i false = false → (∀ e ∈ o.after, Region.binds .any e = true → listed.getD e.on false = true) → i < n1 := fun i o ho h0 hall => by
        by_cases h : i < n1
        · exact h
        · exfalso
          apply hph
          intro j hj
          have hr := hcl i (by omega) (List.getElem?_eq_some_iff.1 ho).1 j hj
          have hpos : l.length = (l.length - 1) + 1 := by have := (List.getElem?_eq_some_iff.1 ho).1; omega
          rw [hpos] at hr
          simp only [reachB, ho, List.any_eq_true, Bool.and_eq_true, Bool.or_eq_true, beq_iff_eq] at hr
          obtain ⟨e, he, hb, hr⟩ := hr
          have hl := hall e (by simpa using he) hb
          rcases hr with rfl | hr
          · exact hl
          · exact DC.reach hdc _ hl hr
      refine ⟨fun hr => ?_, fun i hi => ?_⟩
      · exfalso
        apply hph
        intro i
        induction i using Nat.strongRecOn with
        | ind i ih' =>
          intro hi
          by_cases hl : listed.getD i false = true
          · exact hl
          · exfalso
            have hil : i < l.length := by omega
            have ho : l[i]? = some l[i] := List.getElem?_eq_getElem hil
            have hmem : i ∈ Region.ready .any l.toArray listed := mem_ready.2 ⟨by
              rw [Array.getD_eq_getD_getElem?, Array.getElem?_eq_getElem (by omega)] at *
              simp only [Option.getD_some, Bool.not_eq_true] at *
              exact hl, l[i], by simp, fun e he hb => ih' e.on ((hB' i _ ho).1 e he hb) (by have := (hB' i _ ho).1 e he hb; omega)⟩
            rw [hr] at hmem
            cases hmem
      · obtain ⟨h0, o, ho', hall⟩ := mem_ready.1 hi
        have ho : l[i]? = some o := by simpa using ho'
        have hlt : i < l.length := (List.getElem?_eq_some_iff.1 ho).1
        have h0' : listed.getD i false = false := by
          rw [Array.getD_eq_getD_getElem?, Array.getElem?_eq_getElem (by omega)] at *
          simpa using h0
        have hi1 : i < n1 := hlt1 i o ho h0' hall
        have hot : (l.take n1)[i]? = some o := by rw [List.getElem?_take, if_pos hi1]; exact ho
        obtain ⟨hR, hI, hd, hs, ht, hT⟩ := hJ
        obtain ⟨b1, b2, b3⟩ := hB' i o ho
        have hlook : ∀ t ∈ o.looksAt l.toArray, match dstIdx t l 0 with | some j => T j (tv a t) w' | none => tv a t = tv a0 t := by
          intro t htm
          cases hj : dstIdx t l 0 with
          | none =>
            refine tv_of (ht t fun j p hp _ => dstIdx_none hj p (List.mem_of_getElem? hp))
          | some j =>
            obtain ⟨e, he, rfl, hb⟩ := b3 t htm j hj
            obtain ⟨_, p, hp, hpd⟩ := dstIdx_some hj
            have := hT e.on p (by simpa using hp) (hall e he hb) (by rw [hpd]; simp)
            rw [hpd] at this
            exact this
        have hop := look_of hlook (opsOK_at hops hot m a w' (by omega) hR hI)
        rw [Nat.zero_add] at hop
        have hget : ∀ d, (listed.setIfInBounds i true).getD i d = true := fun d => by
          rw [Array.getD_eq_getD_getElem?, Array.getElem?_setIfInBounds_self_of_lt (by omega)]; rfl
        have next : ∀ v w1, T i v w1 → R w' w1 → I (m + 1) w1 → wpAny P .any l.toArray Q fuel (listed.setIfInBounds i true) (a.put o.dst v) w1 := by
          intro v w1 hTv hR1 hI1
          refine ih (m + 1) _ _ _ ?_ (by simpa using hls) (by omega) (fun k hk hkl => ?_) (hdc.set ho hall) ⟨hRt _ _ _ hR hR1, hI1, (put_defers' _ _ _).trans hd, (put_size _ _ _).trans hs, fun t h => ?_, fun j p hp hl hn => ?_⟩
          · have := cntF_set (f := fun i => listed.getD i true) (g := fun j => (listed.setIfInBounds i true).getD j true) (i := i) h0 (hget true) (fun j hj => getD_set_ne true (Ne.symm hj)) hlt
            omega
          · rw [getD_set_ne false (by omega)]; exact hlow k hk hkl
          · have hne : o.dst ≠ some t := h i o ho (hget false)
            rw [put_ne _ _ _ hne]
            exact ht t fun j p hp hl => h j p hp (getD_set_true hl)
          · by_cases e : i = j
            · subst e
              rw [ho] at hp
              obtain rfl := Option.some.inj hp
              cases hod : o.dst with
              | none => exact absurd hod hn
              | some d =>
                have : tv (a.put (some d) v) d = v := by
                  unfold tv
                  rw [Array.getD_eq_getD_getElem?, put_same _ _ _ (by rw [hs]; exact (b2 d hod).1)]
                  rfl
                simp only [vof]
                rw [this]
                exact hTv
            · rw [getD_set_ne false e] at hl
              have h2 := hTs j _ w' w1 (hT j p hp hl hn) hR1
              cases hpd : p.dst with
              | none => exact absurd hpd hn
              | some d =>
                rw [hpd] at h2
                simp only [vof] at h2 ⊢
                rw [show tv (a.put o.dst v) d = tv a d from tv_of (put_ne _ _ _ (fun hod => hdist i o j p ho hp e d hod hpd))]
                exact h2
        unfold wpOp
        simp only [ho']
        cases hg : o.guard with
        | none =>
          rw [hg] at hop
          rw [if_pos (by simp [Region.wanted, hg])]
          exact .inl (wp_of_gives hop fun v w1 ⟨h1, h2, h3⟩ => next v w1 h1 h2 h3)
        | some g =>
          rw [hg] at hop
          obtain ⟨g1, g2⟩ := hop
          split
          · rename_i hw
            exact .inl (wp_of_gives (g1 hw) fun v w1 ⟨h1, h2, h3⟩ => next v w1 h1 h2 h3)
          · rename_i hw
            obtain ⟨h1, h2⟩ := g2 (by simpa using hw)
            exact next undef w' h1 (hRr _) h2
  refine main l.toArray.size 0 _ a0 w.drew ?_ (by simp) (by simp) (fun i _ hil => by rw [Array.getD_eq_getD_getElem?, Array.getElem?_replicate, if_pos (by simpa using hil)]; rfl) (fun i o ho hl => by
    exfalso
    rw [Array.getD_eq_getD_getElem?, Array.getElem?_replicate] at hl
    split at hl <;> simp at hl) ⟨hRr _, hI0, rfl, rfl, fun t _ => rfl, fun j o ho hl => ?_⟩
  · have : ∀ n, n ≤ l.length → cntF (fun i => (Array.replicate l.toArray.size false).getD i true) n = n := by
      intro n
      induction n with
      | zero => intro _; rfl
      | succ n ihn =>
        intro hn
        simp only [cntF]
        rw [ihn (by omega)]
        have : (Array.replicate l.toArray.size false).getD n true = false := by
          rw [Array.getD_eq_getD_getElem?, Array.getElem?_replicate, if_pos (by simp; omega)]; rfl
        rw [if_neg (by rw [this]; decide)]
    simpa using this l.length (Nat.le_refl _)
  · exfalso
    rw [Array.getD_eq_getD_getElem?, Array.getElem?_replicate] at hl
    split at hl <;> simp at hl
end
end Go.Proofs.YtgdkionmeacalaaGreat
end
section
namespace Go.Proofs.YtgdkionmeacalaaGreat
open Go Go.RowKit
set_option linter.unusedVariables false
section
variable {P : Program}
def XV (u : Value) : Value → World → Prop := fun v _ => v = u
def XT : Value → World → Prop := fun _ _ => True
/-- what stays true when memory is made -/
def Stay (T : Value → World → Prop) : Prop := ∀ v a b, T v a → Gr a b → T v b
theorem stay_V (u : Value) : Stay (XV u) := fun _ _ _ h _ => h
theorem stay_T : Stay XT := fun _ _ _ _ _ => trivial
theorem stay_of {F : Value → World → Prop} (h : ∀ v a b, F v a → Below a.heap.size a b → F v b) : Stay F := fun v a b x g => h v a b x g.out
theorem stay_list {l : List (Value → World → Prop)} (h : ∀ T ∈ l, Stay T) : ∀ k v a b, (l.getD k XT) v a → Gr a b → (l.getD k XT) v b := by
  intro k v a b hv g
  rw [List.getD_eq_getElem?_getD] at *
  cases hk : l[k]? with
  | none => trivial
  | some T => rw [hk] at hv; exact h T (List.mem_of_getElem? hk) v a b hv g
def GIx (_ : Nat) (_ : World) : Prop := True
theorem gx_gen {K : Value → World → Prop} {r : Result Next} (h : ∀ K' : Value → World → Prop, (∀ v w', K v w' → K' v w') → givesUpon P K' r) : givesUpon P K r := h K fun _ _ h => h
theorem lookD_imp {T : Nat → Value → World → Prop} {a0 a : Act} {w : World} {G G' : Prop} (hG : G → G') : ∀ {ds : List (Tmp × Option Nat)}, lookD T a0 a w ds G → lookD T a0 a w ds G'
  | [], h => hG h
  | (t, some j) :: r, h => fun x => lookD_imp (ds := r) hG (h x)
  | (t, none) :: r, h => fun x => lookD_imp (ds := r) hG (h x)
theorem givesUpon_imp {K K' : Value → World → Prop} (hK : ∀ v w, K v w → K' v w) {r : Result Next} (h : givesUpon P K r) : givesUpon P K' r := by
  unfold givesUpon at *
  split at h
  · exact hK _ _ h
  · exact hK _ _ h
  · exact h.mono fun e w' ⟨v, e1, e2⟩ => ⟨v, e1, hK _ _ e2⟩
  · exact h.elim
theorem opOK_rx {ops : List Oper} {T : Nat → Value → World → Prop} {a0 : Act} {w0 : World} {k : Nat} {o : Oper} (ds : List (Tmp × Option Nat)) (hB : dsB ops o ds = true) (hg : o.guard = none)
    (h : ∀ (a : Act) (w : World), Gr w0 w → lookD T a0 a w ds (givesUpon P (fun v w' => T k v w' ∧ Gr w w') ((execOp a.eval o).run P w))) : opOK P ops T Gr GIx a0 w0 k o :=
  opOK_ds ds hB hg fun m a w _ hR _ => lookD_imp (fun x => givesUpon_imp (fun v w' ⟨h1, h2⟩ => ⟨h1, h2, trivial⟩) x) (h a w hR)
theorem wp_region_rx {id : Nat} {l : List Oper} {Q : Exit → Act → World → Prop} {a0 : Act} {w : World} (tl : List (Value → World → Prop))
    (hm : P.follows .mixedOrders = true) (hB : rgB l a0.tmps.size = true) (hTs : ∀ T ∈ tl, Stay T)
    (hops : opsOK P l (fun k => tl.getD k XT) Gr GIx a0 w.drew l 0) (hfin : ∀ w', Gr w.drew w' → finP (fun k => tl.getD k XT) w' (fun a' => Q .normal a' w') l 0 a0) : (Code.region id l.toArray true).wp P Q a0 w :=
  wp_region_rgl (fun k => tl.getD k XT) Gr GIx hm hB Gr.refl (fun _ _ _ h k => h.trans k) (stay_list hTs) trivial hops fun w' h _ => hfin w' h
end
end Go.Proofs.YtgdkionmeacalaaGreat
end
section
namespace Go.Proofs.YtgdkionmeacalaaGreat
open Go Go.RowKit
set_option linter.unusedVariables false
section
variable {P : Program}
def noDef (o : Oper) : Bool := match o.op with
  | .defer _ => false
  | _ => true
theorem noDef_ne {o : Oper} (h : noDef o = true) : ∀ c, o.op ≠ .defer c := fun c e => by
  unfold noDef at h
  rw [e] at h
  cases h
/-- nothing but the normal end -/
def OnlyN (Q0 : Exit → Act → World → Prop) : Prop := ∀ e a w, e ≠ .normal → ¬ Q0 e a w
theorem opLift {l n : Nat} {o : Oper} {a : Act} {w : World} {K K' : Act → World → Prop} {Q0 Q : Exit → Act → World → Prop} (hd : noDef o = true) (hQ : OnlyN Q0) (hK : ∀ a w, K a w → K' a w) (h : o.wp P a w K Q0) : o.wpIn (Fence.wide.inRound l) n P a w K' Q := by
  refine ⟨fun _ _ => trivial, ?_⟩
  rw [Oper.semAt_eq _ _ _ (noDef_ne hd)]
  unfold Oper.wp at h
  generalize (execOp a.eval o).run P w = r at h
  cases r with
  | ok x w' =>
    cases x with
    | value v => exact hK _ _ h
    | skip => exact hK _ _ h
    | defer d => exact hK _ _ h
    | enter f args =>
      refine ⟨(fun x => by cases x), CallsIn.inRound l (callsIn_wide.2 (Calls.mono h ?_))⟩
      intro e w2 he
      cases e with
      | returned v => exact hK _ _ he
      | panicked c => exact (hQ (.panic c) _ _ (fun x => by cases x) he).elim
      | outgrown =>
        obtain ⟨a2, w3, h3⟩ := he
        exact (hQ .outgrown _ _ (fun x => by cases x) h3).elim
    | row r args =>
      refine ⟨(fun x => by cases x), fun c cs _ => ?_⟩
      obtain ⟨v, w2, h1, h2⟩ := h c cs
      exact ⟨v, w2, hK _ _ h1, by rw [fenced_inRound]; exact stepsIn_wide.2 h2⟩
    | _ => exact h.elim
  | halt x w' =>
    cases x with
    | panic v => exact (hQ (.panic _) _ _ (fun x => by cases x) h).elim
    | _ => exact h.elim
theorem lets_no {Q0 : Exit → Act → World → Prop} (hQ : OnlyN Q0) : ¬ LetsOut Q0 := fun ⟨a, w, h⟩ => hQ _ _ _ (fun x => by cases x) h
theorem anyLift {l n : Nat} {md : Region.Mode} {ops : Array Oper} {Q0 Q : Exit → Act → World → Prop} (hd : ops.all noDef = true) (hQ : OnlyN Q0) (hN : ∀ a w, Q0 .normal a w → Q .normal a w) : ∀ (fuel : Nat) (listed : Array Bool) (a : Act) (w : World), wpAny P md ops Q0 fuel listed a w → wpAnyIn (Fence.wide.inRound l) n P md ops Q fuel listed a w := by
  intro fuel
  induction fuel with
  | zero => exact fun listed a w h => ⟨h.1, hN _ _ h.2⟩
  | succ fuel ih =>
    intro listed a w h
    refine ⟨fun hr => hN _ _ (h.1 hr), fun i hi => ?_⟩
    have h1 := h.2 i hi
    unfold wpOp at h1
    unfold wpOpIn
    cases ho : ops[i]? with
    | none => simp only [ho] at h1 ⊢; exact ih _ _ _ h1
    | some o =>
      simp only [ho] at h1 ⊢
      have hdo : noDef o = true := (Array.all_eq_true_iff_forall_mem.1 hd) o (Array.mem_of_getElem? ho)
      split
      · rename_i hw
        simp only [hw, if_true] at h1
        rcases h1 with h1 | h1
        · exact opLift hdo hQ (fun a w => ih _ a w) h1
        · exact (lets_no hQ h1.2).elim
      · rename_i hw
        simp only [hw] at h1
        exact ⟨fun _ _ => trivial, ih _ _ _ h1⟩
theorem listLift {l n : Nat} {ops : Array Oper} {Q0 Q : Exit → Act → World → Prop} (hQ : OnlyN Q0) (hN : ∀ a w, Q0 .normal a w → Q .normal a w) : ∀ (os : List Oper) (a : Act) (w : World), os.all noDef = true → wpList P ops Q0 os a w → wpListIn (Fence.wide.inRound l) n P ops Q os a w := by
  intro os
  induction os with
  | nil => exact fun a w _ h => hN _ _ h
  | cons o rest ih =>
    intro a w hd h
    simp only [List.all_cons, Bool.and_eq_true] at hd
    unfold wpList at h
    unfold wpListIn
    split
    · rename_i hw
      rw [if_pos hw] at h
      rcases h with h | h
      · exact opLift hd.1 hQ (fun a w => ih a w hd.2) h
      · exact (lets_no hQ h.2).elim
    · rename_i hw
      rw [if_neg hw] at h
      exact ⟨fun _ _ => trivial, ih _ _ hd.2 h⟩
theorem onlyN_then {K : Act → World → Prop} : OnlyN (Exit.then K (fun _ _ _ => False)) := fun e a w h q => by
  cases e <;> first | exact h rfl | exact q
theorem wpIn_region_lift {l n id : Nat} {os : List Oper} {Q : Exit → Act → World → Prop} {a : Act} {w : World} (hd : os.all noDef = true) (h : wpList P os.toArray (Exit.then (fun a w => Q .normal a w) (fun _ _ _ => False)) os a w) : (Code.region id os.toArray false).wpIn (Fence.wide.inRound l) n P Q a w :=
  wpIn_region_lit (listLift (Q0 := Exit.then (fun a w => Q .normal a w) (fun _ _ _ => False)) (Q := Q) onlyN_then (fun _ _ h => h) os a w hd h)
theorem wpIn_region_liftAny {l n id : Nat} {ops : Array Oper} {Q : Exit → Act → World → Prop} {a : Act} {w : World} (hm : P.follows .mixedOrders = true) (hd : ops.all noDef = true) (h : wpAny P .any ops (Exit.then (fun a w => Q .normal a w) (fun _ _ _ => False)) ops.size (Array.replicate ops.size false) a { w with drawn := w.drawn + 1 }) : (Code.region id ops true).wpIn (Fence.wide.inRound l) n P Q a w :=
  wpIn_region_any hm (anyLift (Q0 := Exit.then (fun a w => Q .normal a w) (fun _ _ _ => False)) (Q := Q) hd onlyN_then (fun _ _ h => h) _ _ _ _ h)
theorem wpAny_rxp {l : List Oper} {Q : Exit → Act → World → Prop} {a0 : Act} {w : World} (n1 m : Nat) (listed : Array Bool) (hm : l.length - n1 = m) (hls : listedTo n1 0 (Array.replicate l.toArray.size false) = listed) (tl : List (Value → World → Prop)) (hB : rgC l a0.tmps.size = true) (hC : cloB l n1 = true) (hTs : ∀ T ∈ tl, Stay T)
    (hops : opsOK P l (fun k => tl.getD k XT) Gr GIx a0 w.drew (l.take n1) 0) (hfin : ∀ w', Gr w.drew w' → finP (fun k => tl.getD k XT) w' (fun a' => wpAny P .any l.toArray Q m listed a' w') (l.take n1) 0 a0) : wpAny P .any l.toArray Q l.toArray.size (Array.replicate l.toArray.size false) a0 w.drew := by
  subst hm hls
  exact wpAny_rgp (fun k => tl.getD k XT) Gr GIx n1 hB hC Gr.refl (fun _ _ _ h k => h.trans k) (stay_list hTs) trivial hops fun w' h _ => hfin w' h
/-- the last operation of a region is a store of cells -/
theorem wpAny_store {md : Region.Mode} {ops : Array Oper} {Q : Exit → Act → World → Prop} {f : Nat} {listed : Array Bool} {a : Act} {w : World} (i : Nat) (T : TypeId) (x y : Operand) (b o : Nat) (vs : List Value) (hr : Region.ready md ops listed = [i]) (hr2 : Region.ready md ops (listed.setIfInBounds i true) = []) (ho : (ops[i]?).map (fun o => (o.dst, o.op, o.guard)) = some (none, .store T x y, none))
    (hx : a.eval x = .pointer (some ⟨b, o, none⟩)) (hy : a.eval y = .agg vs.toArray) (ht : w.there b o vs.length) (hi : (P.info? T).map (·.size) = some vs.length) (h1 : ∀ v ∈ vs, v.oneCell' = true)
    (h : Q .normal a (w.setCells b o vs)) : wpAny P md ops Q (f + 1) listed a w := by
  cases hq : ops[i]? with
  | none => rw [hq] at ho; cases ho
  | some op =>
    rw [hq] at ho
    simp only [Option.map_some, Option.some.injEq, Prod.mk.injEq] at ho
    obtain ⟨hd, hop, hg⟩ := ho
    refine wpAny_one hr hq hg ?_
    refine wp_store_mid T x y hop b o vs.toArray hx hy (by simpa using ht) (by simpa using hi) (all_oneCell_toArray h1) ?_
    rw [hd]
    exact wpAny_end hr2 (by simpa [Act.put] using h)
end
end Go.Proofs.YtgdkionmeacalaaGreat
end
section
namespace Go.Proofs.YtgdkionmeacalaaGreat
open Go.RowKit
set_option linter.unusedVariables false
set_option maxHeartbeats 8000000
/-- a marked widget -/
def mkB (z : Int) : Bool := z % 3 == 0
def mkN (z : Int) (p : Nr) : Nr :=
  let y := z + 5 + 2 * p.n.cs.length + 2 * p.n.rs.length
  ⟨⟨z, z + 1, z + 2, mkB (z + 3), z + 4, p.n.cs, p.n.rs, ⟨y, y + 1, y + 2, mkB (y + 3), mkB (y + 4), mkB (y + 5), y + 6, y + 7, y + 8⟩, ⟨y + 9, y + 10, y + 11, y + 12, y + 13, y + 14, y + 15, y + 16, y + 17⟩, ⟨y + 18, y + 19, y + 20, y + 21, y + 22, y + 23, y + 24, y + 25, y + 26⟩⟩, p.ca, p.cc, p.ra, p.rc⟩
def mkW (p : Nr) : Int := 32 + 2 * p.n.cs.length + 2 * p.n.rs.length
def mkS : List Nr → Int
  | [] => 0
  | p :: t => mkW p + mkS t
theorem mkS_nn : ∀ R, 0 ≤ mkS R
  | [] => Int.le_refl _
  | p :: t => by have := mkS_nn t; simp only [mkS, mkW]; omega
theorem mkS_take : ∀ {R : List Nr} {k : Nat} {p : Nr}, R[k]? = some p → mkS (R.take (k + 1)) = mkS (R.take k) + mkW p
  | q :: t, 0, p, h => by simp at h; subst h; simp [mkS]
  | q :: t, k + 1, p, h => by
    simp only [List.getElem?_cons_succ] at h
    simp only [List.take_succ_cons, mkS, mkS_take h]
    omega
  | [], k, p, h => by simp at h
theorem mkS_le : ∀ (R : List Nr) (k : Nat), mkS (R.take k) ≤ mkS R
  | [], k => by simp [mkS]
  | q :: t, 0 => by have := mkS_nn (q :: t); simpa [mkS] using this
  | q :: t, k + 1 => by have := mkS_le t k; simp only [List.take_succ_cons, mkS]; omega
/-- a world that has changed in the blocks from lo up to hi alone -/
structure Wi (lo hi : Nat) (w w' : World) : Prop where
  os : w'.os = w.os
  tape : w'.tape = w.tape
  output : w'.output = w.output
  size : w.heap.size ≤ w'.heap.size
  block : ∀ k, k < w.heap.size → ¬ (lo ≤ k ∧ k < hi) → w'.heap[k]? = w.heap[k]?
theorem Wi.refl (lo hi : Nat) (w : World) : Wi lo hi w w := ⟨rfl, rfl, rfl, Nat.le_refl _, fun _ _ _ => rfl⟩
theorem Wi.grown {lo hi g : Nat} {a w w' : World} (h : Wi lo hi a w) (hg : w.grownBy w' (some g)) (hb : (lo ≤ g ∧ g < hi) ∨ a.heap.size ≤ g) : Wi lo hi a w' :=
  ⟨hg.os.trans h.os, hg.tape.trans h.tape, hg.output.trans h.output, Nat.le_trans h.size hg.size, fun k hk hn => by
    have hne : k ≠ g := by rintro rfl; rcases hb with hb | hb <;> omega
    exact (hg.block k (Nat.lt_of_lt_of_le hk h.size) (fun e => hne (Option.some.inj e))).trans (h.block k hk hn)⟩
theorem Wi.set {lo hi g o : Nat} {a w : World} (h : Wi lo hi a w) (hb : lo ≤ g ∧ g < hi) (v : Value) : Wi lo hi a (w.setCell ⟨g, o, none⟩ v) := h.grown (gsetS (greflS w g) o v) (.inl hb)
theorem Wi.below {lo hi : Nat} {a w w' : World} (h : Wi lo hi a w) (hb : Below w.heap.size w w') : Wi lo hi a w' :=
  ⟨hb.os.trans h.os, hb.tape.trans h.tape, hb.output.trans h.output, Nat.le_trans h.size hb.size, fun k hk hn => (hb.block k (Nat.lt_of_lt_of_le hk h.size)).trans (h.block k hk hn)⟩
theorem Wi.toBelow {lo hi : Nat} {a w : World} (h : Wi lo hi a w) {B : Nat} (hB : B ≤ lo) (hs : B ≤ a.heap.size) : Below B a w :=
  ⟨h.os, h.tape, h.output, h.size, fun k hk => h.block k (by omega) (by omega)⟩
/-- the state in the midst of marking the widget k: l are its first cells -/
def MidN (w : World) (g n k : Nat) (cs0 : Array Value) (l : List Value) (s5 s6 : Value) : Prop :=
  ∃ cs : Array Value, w.heap[g]? = some (.cells cs 84 (0, 0)) ∧ cs.size = n * 34 ∧ (∀ i, i < k * 34 ∨ (k + 1) * 34 ≤ i → cs[i]? = cs0[i]?) ∧ InS cs (k * 34) l ∧ cs[k * 34 + 5]? = some s5 ∧ cs[k * 34 + 6]? = some s6
theorem MidN.put {w : World} {g n k : Nat} {cs0 : Array Value} {l : List Value} {s5 s6 : Value} (h : MidN w g n k cs0 l s5 s6) (hk : k < n) (j : Nat) (hj : j = l.length) (hj34 : j < 34) (h5 : j ≠ 5) (h6 : j ≠ 6) (v : Value) : MidN (w.setCell ⟨g, k * 34 + j, none⟩ v) g n k cs0 (l ++ [v]) s5 s6 := by
  subst hj
  obtain ⟨cs, hh, hs, ho, hl, e5, e6⟩ := h
  have hsz : k * 34 + l.length < cs.size := by omega
  refine ⟨_, putS hh v, by simpa using hs, fun i hi => ?_, fun j u hu => ?_, ?_, ?_⟩
  · rw [Array.getElem?_setIfInBounds_ne (by omega)]; exact ho i hi
  · by_cases hj : j < l.length
    · rw [List.getElem?_append_left hj] at hu
      rw [Array.getElem?_setIfInBounds_ne (by omega)]; exact hl j u hu
    · rw [List.getElem?_append_right (by omega)] at hu
      have hj1 := (List.getElem?_eq_some_iff.1 hu).1
      simp at hj1
      obtain rfl : j = l.length := by omega
      simp at hu
      subst hu
      rw [Array.getElem?_setIfInBounds_self_of_lt hsz]
  · rw [Array.getElem?_setIfInBounds_ne (by omega)]; exact e5
  · rw [Array.getElem?_setIfInBounds_ne (by omega)]; exact e6
theorem MidN.two {w : World} {g n k : Nat} {cs0 : Array Value} {l : List Value} {s5 s6 : Value} (h : MidN w g n k cs0 l s5 s6) (hl : l.length = 5) : MidN w g n k cs0 (l ++ [s5, s6]) s5 s6 := by
  obtain ⟨cs, hh, hs, ho, hi, e5, e6⟩ := h
  refine ⟨cs, hh, hs, ho, fun j u hu => ?_, e5, e6⟩
  by_cases hj : j < l.length
  · rw [List.getElem?_append_left hj] at hu; exact hi j u hu
  · rw [List.getElem?_append_right (by omega), hl] at hu
    have hj1 := (List.getElem?_eq_some_iff.1 hu).1
    simp at hj1
    have hj2 : j = 5 ∨ j = 6 := by omega
    rcases hj2 with rfl | rfl
    · simp at hu; subst hu; exact e5
    · simp at hu; subst hu; exact e6
theorem MidN.keep {w w' : World} {g n k : Nat} {cs0 : Array Value} {l : List Value} {s5 s6 : Value} (h : MidN w g n k cs0 l s5 s6) (hb : w'.heap[g]? = w.heap[g]?) : MidN w' g n k cs0 l s5 s6 := by
  obtain ⟨cs, hh, r⟩ := h
  exact ⟨cs, hb.trans hh, r⟩
theorem MidN.cell {w : World} {g n k : Nat} {cs0 : Array Value} {l : List Value} {s5 s6 : Value} (h : MidN w g n k cs0 l s5 s6) (hk : k < n) {j : Nat} (hj : j < 34) : ∃ v, w.cell? ⟨g, k * 34 + j, none⟩ = some v := by
  obtain ⟨cs, hh, hs, _⟩ := h
  exact thereS hh (by omega)
theorem MidN.cell0 {w : World} {g n k : Nat} {cs0 : Array Value} {l : List Value} {s5 s6 : Value} (h : MidN w g n k cs0 l s5 s6) (hk : k < n) : ∃ v, w.cell? ⟨g, k * 34, none⟩ = some v := h.cell hk (j := 0) (by omega)
theorem MidN.frz {w : World} {g n k : Nat} {cs0 : Array Value} {l : List Value} {s5 s6 : Value} (h : MidN w g n k cs0 l s5 s6) (i : Nat) : w.frozen? ⟨g, i, none⟩ = false := by
  obtain ⟨cs, hh, _⟩ := h
  exact frozenS hh i
theorem MidN.c5 {w : World} {g n k : Nat} {cs0 : Array Value} {l : List Value} {s5 s6 : Value} (h : MidN w g n k cs0 l s5 s6) : w.cell? ⟨g, k * 34 + 5, none⟩ = some s5 ∧ w.cell? ⟨g, k * 34 + 6, none⟩ = some s6 := by
  obtain ⟨cs, hh, _, _, _, e5, e6⟩ := h
  exact ⟨(cellS hh _).trans e5, (cellS hh _).trans e6⟩
theorem MidN.lt {w : World} {g n k : Nat} {cs0 : Array Value} {l : List Value} {s5 s6 : Value} (h : MidN w g n k cs0 l s5 s6) : g < w.heap.size := by
  obtain ⟨cs, hh, _⟩ := h
  exact ltS hh
end Go.Proofs.YtgdkionmeacalaaGreat
end
section
namespace Go.Proofs.YtgdkionmeacalaaGreat
open Go.RowKit
set_option linter.unusedVariables false
/-- a call, over a frame of which the arguments and the size alone are known -/
theorem calls_abs {P : Program} {f : FuncId} {fn : Func} {c : Code} {args : Array Value} {w : World} {R : Ending → World → Prop} (hf : P.funcs[f]? = some fn) (hb : fn.body = some c) (N : Nat) (hN : fn.ntmps = N) (hle : args.size ≤ N)
    (h : ∀ tm : Array Value, tm.size = N → (∀ i v, args[i]? = some v → tm.getD i undef = v) → c.wp P (bodyPost P fn R) ⟨tm, []⟩ w) : Calls P f args w R := by
  refine calls_of_wp hf hb (h _ ?_ ?_)
  · simp [hN]; omega
  · intro i v hi
    have hlt := (Array.getElem?_eq_some_iff.1 hi).1
    rw [Array.getD_eq_getD_getElem?, Array.getElem?_append_left hlt, hi]
    rfl
theorem get_of {tm : Array Value} {i : Nat} {v d : Value} (h : i < tm.size) (e : tm.getD i d = v) : tm[i]? = some v := by
  rw [Array.getD_eq_getD_getElem?, Array.getElem?_eq_getElem h] at e
  rw [Array.getElem?_eq_getElem h]; simpa using e
theorem wp_seq_h {P : Program} {Q : Exit → Act → World → Prop} {a : Act} {w : World} {x y : Code} (h : ∀ K : Act → World → Prop, Hid (∀ a w, y.wp P Q a w → K a w) → x.wp P (Exit.then K Q) a w) : (Code.seq x y).wp P Q a w := wp_seq_k fun K hK => h K (Lib.hid hK)
theorem wp_abw {P : Program} {Q : Exit → Act → World → Prop} {tm : Array Value} {w : World} {c : Code} (F : Array Value → World → Prop) (hF : F tm w) (h : ∀ t W, F t W → c.wp P Q ⟨t, []⟩ W) : c.wp P Q ⟨tm, []⟩ w := h tm w hF
end Go.Proofs.YtgdkionmeacalaaGreat
end
