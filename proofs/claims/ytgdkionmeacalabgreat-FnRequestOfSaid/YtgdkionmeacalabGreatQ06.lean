import Derived.Test.YtgdkionmeacalabGreatQ05
import Derived.Deep.MidRow
import Derived.BigFrame
import Derived.Deep.Cut
section
namespace Go.Proofs.YtgdkionmeacalabGreat
open Go Go.RowKit
set_option linter.unusedVariables false
section
variable {P : Program}
/-- one operation waits for another, by way of others -/
def reachB (l : List Oper) : Nat → Nat → Nat → Bool
  | 0, _, _ => false
  | f + 1, i, j => match l[i]? with
    | none => false
    | some o => o.after.toList.any fun e => Region.binds .any e && (e.on == j || reachB l f e.on j)
/-- all from n on wait for all ahead of n -/
def cloB (l : List Oper) (n : Nat) : Bool := decide (n ≤ l.length) && (List.range l.length).all fun i => decide (i < n) || (List.range n).all fun j => reachB l l.length i j
/-- what is done waits for nothing -/
def DC (l : List Oper) (listed : Array Bool) : Prop := ∀ (i : Nat) (o : Oper), l[i]? = some o → listed.getD i false = true → ∀ e ∈ o.after, Region.binds .any e = true → listed.getD e.on false = true
theorem DC.reach {l : List Oper} {listed : Array Bool} (h : DC l listed) : ∀ (f : Nat) {i j : Nat}, listed.getD i false = true → reachB l f i j = true → listed.getD j false = true
  | 0, i, j, _, hr => by simp [reachB] at hr
  | f + 1, i, j, hi, hr => by
    rw [reachB] at hr
    cases ho : l[i]? with
    | none => rw [ho] at hr; simp at hr
    | some o =>
      rw [ho] at hr
      simp only [List.any_eq_true, Bool.and_eq_true, Bool.or_eq_true, beq_iff_eq] at hr
      obtain ⟨e, he, hb, hr⟩ := hr
      have hl := h i o ho hi e (by simpa using he) hb
      rcases hr with rfl | hr
      · exact hl
      · exact DC.reach h f hl hr
theorem DC.set {l : List Oper} {listed : Array Bool} (h : DC l listed) {i : Nat} {o : Oper} (ho : l[i]? = some o) (hall : ∀ e ∈ o.after, Region.binds .any e = true → listed.getD e.on false = true) : DC l (listed.setIfInBounds i true) := fun k p hp hl e he hb => by
  by_cases e1 : i = k
  · subst e1
    rw [ho] at hp
    obtain rfl := Option.some.inj hp
    exact getD_set_true (hall e he hb)
  · rw [getD_set_ne false e1] at hl
    exact getD_set_true (h k p hp hl e he hb)
theorem cntF_lt (n1 : Nat) : ∀ n : Nat, cntF (fun i => decide (i < n1)) n = n - n1
  | 0 => by simp [cntF]
  | n + 1 => by
    simp only [cntF, cntF_lt n1 n]
    by_cases h : n < n1
    · simp [h]; omega
    · simp [h]; omega
theorem listedTo_size : ∀ (m k : Nat) (l : Array Bool), (listedTo m k l).size = l.size
  | 0, _, _ => rfl
  | m + 1, k, l => by rw [listedTo, listedTo_size]; simp
theorem listedTo_getD : ∀ {m k : Nat} {l : Array Bool} {i : Nat}, k + m ≤ l.size → (listedTo m k l).getD i false = if k ≤ i ∧ i < k + m then true else l.getD i false
  | 0, k, l, i, _ => by rw [listedTo, if_neg (by omega)]
  | m + 1, k, l, i, h => by
    rw [listedTo, listedTo_getD (by simpa using (by omega : k + 1 + m ≤ l.size))]
    by_cases e : i = k
    · subst e
      rw [if_neg (by omega), if_pos (by omega), Array.getD_eq_getD_getElem?, Array.getElem?_setIfInBounds_self_of_lt (by omega)]
      rfl
    · rw [getD_set_ne false (fun h => e h.symm)]
      by_cases h2 : k + 1 ≤ i ∧ i < k + 1 + m
      · rw [if_pos h2, if_pos (by omega)]
      · rw [if_neg h2, if_neg (by omega)]
theorem wpAny_rgp {l : List Oper} {Q : Exit → Act → World → Prop} {a0 : Act} {w : World} (T : Nat → Value → World → Prop) (R : World → World → Prop) (I : Nat → World → Prop)
    (n1 : Nat) (hB : rgC l a0.tmps.size = true) (hC : cloB l n1 = true) (hRr : ∀ a, R a a) (hRt : ∀ a b c, R a b → R b c → R a c) (hTs : ∀ k v a b, T k v a → R a b → T k v b) (hI0 : I 0 w.drew)
    (hops : opsOK P l T R I a0 w.drew (l.take n1) 0) (hfin : ∀ w', R w.drew w' → I n1 w' → finP T w' (fun a' => wpAny P .any l.toArray Q (l.length - n1) (listedTo n1 0 (Array.replicate l.toArray.size false)) a' w') (l.take n1) 0 a0) : wpAny P .any l.toArray Q l.toArray.size (Array.replicate l.toArray.size false) a0 w.drew := by
  simp only [rgC, Bool.and_eq_true] at hB
  obtain ⟨hns, hB⟩ := hB
  have hB' : ∀ (i : Nat) (o : Oper), l[i]? = some o → (∀ e ∈ o.after, Region.binds .any e = true → e.on < i) ∧ (∀ d, o.dst = some d → d < a0.tmps.size ∧ dstIdx d l 0 = some i) ∧ (∀ t ∈ o.looksAt l.toArray, ∀ j, dstIdx t l 0 = some j → ∃ e ∈ o.after, e.on = j ∧ Region.binds .any e = true) := by
    intro i o ho
    have hlt := (List.getElem?_eq_some_iff.1 ho).1
    have h1 := List.all_eq_true.1 hB i (List.mem_range.2 hlt)
    simp only [ho, Bool.and_eq_true] at h1
    obtain ⟨⟨h1, h2⟩, h3⟩ := h1
    refine ⟨fun e he hb => by have := List.all_eq_true.1 h1 e (by simpa using he); simpa [hb] using this, fun d hd => ?_, fun t ht j hj => ?_⟩
    · rw [hd] at h2
      simp only [Option.all_some, Bool.and_eq_true, decide_eq_true_eq, beq_iff_eq] at h2
      exact h2
    · have h4 := List.all_eq_true.1 h3 t ht
      rw [hj] at h4
      obtain ⟨e, he, h5⟩ := List.any_eq_true.1 h4
      simp only [Bool.and_eq_true, beq_iff_eq] at h5
      exact ⟨e, by simpa using he, h5⟩
  have hdist : ∀ (i : Nat) (o : Oper) (j : Nat) (p : Oper), l[i]? = some o → l[j]? = some p → i ≠ j → ∀ d, o.dst = some d → p.dst ≠ some d := by
    intro i o j p ho hp hij d hd hpd
    have h1 := ((hB' i o ho).2.1 d hd).2
    rw [((hB' j p hp).2.1 d hpd).2] at h1
    injection h1 with h1
    exact hij h1.symm
  obtain ⟨hle1, hcl⟩ : n1 ≤ l.length ∧ ∀ i, n1 ≤ i → i < l.length → ∀ j, j < n1 → reachB l l.length i j = true := by
    simp only [cloB, Bool.and_eq_true, decide_eq_true_eq, List.all_eq_true, List.mem_range, Bool.or_eq_true] at hC
    refine ⟨hC.1, fun i hi hil j hj => ?_⟩
    rcases hC.2 i hil with h | h
    · omega
    · exact h j hj
  have main : ∀ (fuel m : Nat) (listed : Array Bool) (a : Act) (w' : World), cntF (fun i => listed.getD i true) l.length = fuel → listed.size = l.length → fuel + m = l.length → (∀ i, n1 ≤ i → i < l.length → listed.getD i false = false) → DC l listed → RJ l T R I a0 w.drew m listed a w' →
      wpAny P .any l.toArray Q fuel listed a w' := by
    intro fuel
    have hdone : ∀ (m : Nat) (listed : Array Bool) (a : Act) (w' : World), cntF (fun i => listed.getD i true) l.length = l.length - m → listed.size = l.length → m ≤ l.length → (∀ i, n1 ≤ i → i < l.length → listed.getD i false = false) → (∀ i, i < n1 → listed.getD i false = true) → RJ l T R I a0 w.drew m listed a w' → wpAny P .any l.toArray Q (l.length - m) listed a w' := by
      rintro m listed a w' hc hls hml hlow hall ⟨hR, hI, hd, hs, ht, hT⟩
      have hm1 : m = n1 := by
        have h1 : cntF (fun i => listed.getD i true) l.length = cntF (fun i => decide (i < n1)) l.length := cntF_same (fun i hi => by
          by_cases h : i < n1
          · have := hall i h
            rw [Array.getD_eq_getD_getElem?, Array.getElem?_eq_getElem (by omega)] at *
            simpa [h] using this
          · have := hlow i (by omega) hi
            rw [Array.getD_eq_getD_getElem?, Array.getElem?_eq_getElem (by omega)] at *
            simpa [h] using this)
        rw [h1, cntF_lt] at hc
        omega
      subst hm1
      have he : listed = listedTo m 0 (Array.replicate l.toArray.size false) := by
        apply Array.ext
        · rw [listedTo_size]; simp [hls]
        · intro i h1 h2
          have e1 : listed[i] = listed.getD i false := by rw [Array.getD_eq_getD_getElem?, Array.getElem?_eq_getElem h1]; rfl
          have e2 : (listedTo m 0 (Array.replicate l.toArray.size false))[i] = (listedTo m 0 (Array.replicate l.toArray.size false)).getD i false := by rw [Array.getD_eq_getD_getElem?, Array.getElem?_eq_getElem h2]; rfl
          rw [e1, e2, listedTo_getD (by simpa using (by omega : 0 + m ≤ l.length))]
          by_cases h : i < m
          · rw [hall i h, if_pos (by omega)]
          · rw [hlow i (by omega) (by omega), if_neg (by omega), Array.getD_eq_getD_getElem?, Array.getElem?_replicate]
            split <;> rfl
      have hlm : ∀ (j : Nat) (o : Oper), l[j]? = some o → listed.getD j false = true → j < m := fun j o ho hl => by
        by_cases h : j < m
        · exact h
        · exfalso
          have := hlow j (by omega) (List.getElem?_eq_some_iff.1 ho).1
          rw [hl] at this
          cases this
      rw [he]
      refine finP_to (T := T) (w := w') (F := fun a' => wpAny P .any l.toArray Q (l.length - m) (listedTo m 0 (Array.replicate l.toArray.size false)) a' w') (l := l.take m) (k := 0) (b := a0) hd.symm hs.symm (fun t h => ?_) (fun j o ho hn => ?_) (hfin w' hR hI)
      · exact (ht t fun j o ho hl => h o (by
          have hj := hlm j o ho hl
          exact List.mem_of_getElem? (i := j) (by rw [List.getElem?_take, if_pos hj]; exact ho))).symm
      · rw [Nat.zero_add]
        rw [List.getElem?_take] at ho
        split at ho
        · rename_i hj
          exact hT j o ho (hall j hj) hn
        · cases ho
    induction fuel with
    | zero =>
      intro m listed a w' hc hls hm' hlow hdc hJ
      have hall : ∀ i, i < l.length → listed.getD i false = true := fun i hi => by
        have := cntF_zero hc i hi
        rw [Array.getD_eq_getD_getElem?, Array.getElem?_eq_getElem (by omega)] at *
        simpa using this
      have h := hdone m listed a w' (by rw [hc]; omega) hls (by omega) hlow (fun i hi => hall i (by omega)) hJ
      rwa [show l.length - m = 0 by omega] at h
    | succ fuel ih =>
      intro m listed a w' hc hls hm' hlow hdc hJ
      by_cases hph : ∀ i, i < n1 → listed.getD i false = true
      · have h := hdone m listed a w' (by rw [hc]; omega) hls (by omega) hlow hph hJ
        rwa [show l.length - m = fuel + 1 by omega] at h
      have hlt1 : ∀ (i : Nat) (o : Oper), l[i]? = some o → listed.getD i false = false → (∀ e ∈ o.after, Region.binds .any e = true → listed.getD e.on false = true) → i < n1 := fun i o ho h0 hall => by
        by_cases h : i < n1
        · exact h
        · exfalso
          apply hph
          intro j hj
          have hr := hcl i (by omega) (List.getElem?_eq_some_iff.1 ho).1 j hj
          have hpos : l.length = (l.length - 1) + 1 := by have := (List.getElem?_eq_some_iff.1 ho).1; omega
          rw [hpos] at hr
          simp only [reachB, ho, List.any_eq_true, Bool.and_eq_true, Bool.or_eq_true, beq_iff_eq] at hr
          obtain ⟨e, he, hb, hr⟩ := hr
          have hl := hall e (by simpa using he) hb
          rcases hr with rfl | hr
          · exact hl
          · exact DC.reach hdc _ hl hr
      refine ⟨fun hr => ?_, fun i hi => ?_⟩
      · exfalso
        apply hph
        intro i
        induction i using Nat.strongRecOn with
        | ind i ih' =>
          intro hi
          by_cases hl : listed.getD i false = true
          · exact hl
          · exfalso
            have hil : i < l.length := by omega
            have ho : l[i]? = some l[i] := List.getElem?_eq_getElem hil
            have hmem : i ∈ Region.ready .any l.toArray listed := mem_ready.2 ⟨by
              rw [Array.getD_eq_getD_getElem?, Array.getElem?_eq_getElem (by omega)] at *
              simp only [Option.getD_some, Bool.not_eq_true] at *
              exact hl, l[i], by simp, fun e he hb => ih' e.on ((hB' i _ ho).1 e he hb) (by have := (hB' i _ ho).1 e he hb; omega)⟩
            rw [hr] at hmem
            cases hmem
      · obtain ⟨h0, o, ho', hall⟩ := mem_ready.1 hi
        have ho : l[i]? = some o := by simpa using ho'
        have hlt : i < l.length := (List.getElem?_eq_some_iff.1 ho).1
        have h0' : listed.getD i false = false := by
          rw [Array.getD_eq_getD_getElem?, Array.getElem?_eq_getElem (by omega)] at *
          simpa using h0
        have hi1 : i < n1 := hlt1 i o ho h0' hall
        have hot : (l.take n1)[i]? = some o := by rw [List.getElem?_take, if_pos hi1]; exact ho
        obtain ⟨hR, hI, hd, hs, ht, hT⟩ := hJ
        obtain ⟨b1, b2, b3⟩ := hB' i o ho
        have hlook : ∀ t ∈ o.looksAt l.toArray, match dstIdx t l 0 with | some j => T j (tv a t) w' | none => tv a t = tv a0 t := by
          intro t htm
          cases hj : dstIdx t l 0 with
          | none =>
            refine tv_of (ht t fun j p hp _ => dstIdx_none hj p (List.mem_of_getElem? hp))
          | some j =>
            obtain ⟨e, he, rfl, hb⟩ := b3 t htm j hj
            obtain ⟨_, p, hp, hpd⟩ := dstIdx_some hj
            have := hT e.on p (by simpa using hp) (hall e he hb) (by rw [hpd]; simp)
            rw [hpd] at this
            exact this
        have hop := look_of hlook (opsOK_at hops hot m a w' (by omega) hR hI)
        rw [Nat.zero_add] at hop
        have hget : ∀ d, (listed.setIfInBounds i true).getD i d = true := fun d => by
          rw [Array.getD_eq_getD_getElem?, Array.getElem?_setIfInBounds_self_of_lt (by omega)]; rfl
        have next : ∀ v w1, T i v w1 → R w' w1 → I (m + 1) w1 → wpAny P .any l.toArray Q fuel (listed.setIfInBounds i true) (a.put o.dst v) w1 := by
          intro v w1 hTv hR1 hI1
          refine ih (m + 1) _ _ _ ?_ (by simpa using hls) (by omega) (fun k hk hkl => ?_) (hdc.set ho hall) ⟨hRt _ _ _ hR hR1, hI1, (put_defers' _ _ _).trans hd, (put_size _ _ _).trans hs, fun t h => ?_, fun j p hp hl hn => ?_⟩
          · have := cntF_set (f := fun i => listed.getD i true) (g := fun j => (listed.setIfInBounds i true).getD j true) (i := i) h0 (hget true) (fun j hj => getD_set_ne true (Ne.symm hj)) hlt
            omega
          · rw [getD_set_ne false (by omega)]; exact hlow k hk hkl
          · have hne : o.dst ≠ some t := h i o ho (hget false)
            rw [put_ne _ _ _ hne]
            exact ht t fun j p hp hl => h j p hp (getD_set_true hl)
          · by_cases e : i = j
            · subst e
              rw [ho] at hp
              obtain rfl := Option.some.inj hp
              cases hod : o.dst with
              | none => exact absurd hod hn
              | some d =>
                have : tv (a.put (some d) v) d = v := by
                  unfold tv
                  rw [Array.getD_eq_getD_getElem?, put_same _ _ _ (by rw [hs]; exact (b2 d hod).1)]
                  rfl
                simp only [vof]
                rw [this]
                exact hTv
            · rw [getD_set_ne false e] at hl
              have h2 := hTs j _ w' w1 (hT j p hp hl hn) hR1
              cases hpd : p.dst with
              | none => exact absurd hpd hn
              | some d =>
                rw [hpd] at h2
                simp only [vof] at h2 ⊢
                rw [show tv (a.put o.dst v) d = tv a d from tv_of (put_ne _ _ _ (fun hod => hdist i o j p ho hp e d hod hpd))]
                exact h2
        unfold wpOp
        simp only [ho']
        cases hg : o.guard with
        | none =>
          rw [hg] at hop
          rw [if_pos (by simp [Region.wanted, hg])]
          exact .inl (wp_of_gives hop fun v w1 ⟨h1, h2, h3⟩ => next v w1 h1 h2 h3)
        | some g =>
          rw [hg] at hop
          obtain ⟨g1, g2⟩ := hop
          split
          · rename_i hw
            exact .inl (wp_of_gives (g1 hw) fun v w1 ⟨h1, h2, h3⟩ => next v w1 h1 h2 h3)
          · rename_i hw
            obtain ⟨h1, h2⟩ := g2 (by simpa using hw)
            exact next undef w' h1 (hRr _) h2
  refine main l.toArray.size 0 _ a0 w.drew ?_ (by simp) (by simp) (fun i _ hil => by rw [Array.getD_eq_getD_getElem?, Array.getElem?_replicate, if_pos (by simpa using hil)]; rfl) (fun i o ho hl => by
    exfalso
    rw [Array.getD_eq_getD_getElem?, Array.getElem?_replicate] at hl
    split at hl <;> simp at hl) ⟨hRr _, hI0, rfl, rfl, fun t _ => rfl, fun j o ho hl => ?_⟩
  · have : ∀ n, n ≤ l.length → cntF (fun i => (Array.replicate l.toArray.size false).getD i true) n = n := by
      intro n
      induction n with
      | zero => intro _; rfl
      | succ n ihn =>
        intro hn
        simp only [cntF]
        rw [ihn (by omega)]
        have : (Array.replicate l.toArray.size false).getD n true = false := by
          rw [Array.getD_eq_getD_getElem?, Array.getElem?_replicate, if_pos (by simp; omega)]; rfl
        rw [if_neg (by rw [this]; decide)]
    simpa using this l.length (Nat.le_refl _)
  · exfalso
    rw [Array.getD_eq_getD_getElem?, Array.getElem?_replicate] at hl
    split at hl <;> simp at hl
theorem wp_region_rgp {id : Nat} {l : List Oper} {Q : Exit → Act → World → Prop} {a0 : Act} {w : World} (T : Nat → Value → World → Prop) (R : World → World → Prop) (I : Nat → World → Prop)
    (n1 : Nat) (hm : P.follows .mixedOrders = true) (hB : rgC l a0.tmps.size = true) (hC : cloB l n1 = true) (hRr : ∀ a, R a a) (hRt : ∀ a b c, R a b → R b c → R a c) (hTs : ∀ k v a b, T k v a → R a b → T k v b) (hI0 : I 0 w.drew)
    (hops : opsOK P l T R I a0 w.drew (l.take n1) 0) (hfin : ∀ w', R w.drew w' → I n1 w' → finP T w' (fun a' => wpAny P .any l.toArray Q (l.length - n1) (listedTo n1 0 (Array.replicate l.toArray.size false)) a' w') (l.take n1) 0 a0) : (Code.region id l.toArray true).wp P Q a0 w := wp_region_any hm (wpAny_rgp T R I n1 hB hC hRr hRt hTs hI0 hops hfin)
end
end Go.Proofs.YtgdkionmeacalabGreat
end
section
namespace Go.Proofs.YtgdkionmeacalabGreat
open Go.RowKit
set_option linter.unusedVariables false
set_option maxHeartbeats 1000000
/-- a widget -/
structure Nd where
  pa : Int
  ww : Int
  hh : Int
  ke : Bool
  ki : Int
  cs : List Ln
  rs : List Ln
  pk : Pk
  ce : Ce
  pl : Plc
/-- a widget and where its lines lie -/
structure Nr where
  n : Nd
  ca : Option Addr
  cc : Nat
  ra : Option Addr
  rc : Nat
def valsNr (p : Nr) : List Value := [.int .i64 p.n.pa, .int .i64 p.n.ww, .int .i64 p.n.hh, .bool p.n.ke, .int .i64 p.n.ki, .slice p.ca p.n.cs.length p.cc, .slice p.ra p.n.rs.length p.rc, .int .i64 p.n.pk.w, .int .i64 p.n.pk.h, .int .i64 p.n.pk.s, .bool p.n.pk.fx, .bool p.n.pk.fy, .bool p.n.pk.ex, .int .i64 p.n.pk.an, .int .i64 p.n.pk.px, .int .i64 p.n.pk.py, .int .i64 p.n.ce.co, .int .i64 p.n.ce.ro, .int .i64 p.n.ce.mc, .int .i64 p.n.ce.mr, .int .i64 p.n.ce.cw, .int .i64 p.n.ce.ch, .int .i64 p.n.ce.sk, .int .i64 p.n.ce.px, .int .i64 p.n.ce.py, .int .i64 p.n.pl.x, .int .i64 p.n.pl.y, .int .i64 p.n.pl.rx, .int .i64 p.n.pl.ry, .int .i64 p.n.pl.ww, .int .i64 p.n.pl.hh, .int .i64 p.n.pl.qw, .int .i64 p.n.pl.qh, .int .i64 p.n.pl.an]
theorem valsNr_len (p : Nr) : (valsNr p).length = 34 := rfl
theorem valsNr_one (p : Nr) : ∀ v ∈ valsNr p, v.oneCell' = true := by
  intro v hv
  simp only [valsNr, List.mem_cons, List.not_mem_nil, or_false] at hv
  rcases hv with rfl | rfl | rfl | rfl | rfl | rfl | rfl | rfl | rfl | rfl | rfl | rfl | rfl | rfl | rfl | rfl | rfl | rfl | rfl | rfl | rfl | rfl | rfl | rfl | rfl | rfl | rfl | rfl | rfl | rfl | rfl | rfl | rfl | rfl <;> rfl
theorem valsNr_all (p : Nr) : (valsNr p).toArray.all (·.oneCell') = true := all_oneCell_toArray (valsNr_one p)
/-- a slice whose elements are these widgets -/
structure NrV (w : World) (A : Option Addr) (R : List Nr) : Prop where
  cells : 0 < R.length → ∃ b off, A = some ⟨b, off, none⟩ ∧ b < w.heap.size ∧ ∀ i p, R[i]? = some p → w.rangeAt b (off + i * 34) (valsNr p)
theorem rangeB {w w' : World} {b o : Nat} {cs : List Value} (h : w.rangeAt b o cs) (hb : w'.heap[b]? = w.heap[b]?) : w'.rangeAt b o cs := fun j v hj => (World.cell?_of_block (a := ⟨b, o + j, none⟩) hb).trans (h j v hj)
theorem NrV.keep {w w' : World} {A : Option Addr} {R : List Nr} (h : NrV w A R) (hb : Below w.heap.size w w') : NrV w' A R :=
  ⟨fun h0 => let ⟨b, off, e, hl, hp⟩ := h.cells h0; ⟨b, off, e, Nat.lt_of_lt_of_le hl hb.size, fun i p hi => rangeB (hp i p hi) (hb.block b hl)⟩⟩
theorem NrV.nil (w : World) (A : Option Addr) : NrV w A [] := ⟨fun h => absurd h (by simp)⟩
theorem NrV.take {w : World} {A : Option Addr} {R : List Nr} (h : NrV w A R) (k : Nat) : NrV w A (R.take k) :=
  ⟨fun h0 => let ⟨b, off, e, hl, hp⟩ := h.cells (by simp at h0; omega); ⟨b, off, e, hl, fun i p hi => hp i p (by rw [List.getElem?_take] at hi; split at hi <;> first | exact hi | cases hi)⟩⟩
/-- the lines of a widget lie where it says -/
structure RdN (w : World) (p : Nr) : Prop where
  c : LnV w p.ca p.n.cs
  cl : p.n.cs.length ≤ p.cc
  r : LnV w p.ra p.n.rs
  rl : p.n.rs.length ≤ p.rc
theorem RdN.keep {w w' : World} {p : Nr} (h : RdN w p) (hb : Below w.heap.size w w') : RdN w' p := ⟨h.c.keep hb, h.cl, h.r.keep hb, h.rl⟩
def RdR (w : World) (R : List Nr) : Prop := ∀ p ∈ R, RdN w p
theorem RdR.keep {w w' : World} {R : List Nr} (h : RdR w R) (hb : Below w.heap.size w w') : RdR w' R := fun p hp => (h p hp).keep hb
theorem RdR.take {w : World} {R : List Nr} (h : RdR w R) (k : Nat) : RdR w (R.take k) := fun p hp => h p (List.mem_of_mem_take hp)
/-- what a new block of widgets holds -/
def NrB (w : World) (g : Nat) (R : List Nr) : Prop := ∃ cs : Array Value, w.heap[g]? = some (.cells cs 38 (0, 0)) ∧ cs.size = R.length * 34 ∧ ∀ i p, R[i]? = some p → InS cs (i * 34) (valsNr p)
theorem NrB.lt {w : World} {g : Nat} {R : List Nr} (h : NrB w g R) : g < w.heap.size := by obtain ⟨cs, hh, _⟩ := h; exact ltS hh
theorem NrB.keep {w w' : World} {g : Nat} {R : List Nr} (h : NrB w g R) (hb : Below w.heap.size w w') : NrB w' g R := by
  obtain ⟨cs, hh, hs, hc⟩ := h
  exact ⟨cs, (hb.block g (ltS hh)).trans hh, hs, hc⟩
theorem NrB.but {w w' : World} {g h : Nat} {R : List Nr} (hi : NrB w h R) (hg : w.grownBy w' (some g)) (hne : h ≠ g) : NrB w' h R := by
  obtain ⟨cs, hh, hs, hc⟩ := hi
  exact ⟨cs, (hg.block h (ltS hh) (fun e => hne (Option.some.inj e))).trans hh, hs, hc⟩
theorem NrB.v {w : World} {g : Nat} {R : List Nr} (h : NrB w g R) : NrV w (some ⟨g, 0, none⟩) R := by
  obtain ⟨cs, hh, hs, hc⟩ := h
  refine ⟨fun _ => ⟨g, 0, rfl, ltS hh, fun i p hp j v hj => ?_⟩⟩
  simp only [Nat.zero_add]
  exact (cellS hh _).trans (hc i p hp j v hj)
/-- a variable that holds a widget -/
theorem nodeAt {w : World} {b : Nat} {p : Nr} {T : TypeId} {fz : Nat × Nat} (h : w.heap[b]? = some (.cells (valsNr p).toArray T fz)) : w.rangeAt b 0 (valsNr p) := fun j v hj => by
  rw [Nat.zero_add]
  exact (cellS h j).trans (by simpa using hj)
theorem loadN {w : World} {b o : Nat} {p : Nr} (h : w.rangeAt b o (valsNr p)) : (Instr.loadAt 38 (.pointer (some ⟨b, o, none⟩))).run Tryz.prog w = .ok (.agg (valsNr p).toArray) w :=
  run_loadAt_mid w b o 38 (valsNr p) _ h Tryz.underlying38 rfl (by kernel_rfl)
theorem heap_setCells {g : Nat} {T : TypeId} {fz : Nat × Nat} : ∀ (vs : List Value) (o : Nat) (w : World) (cs : Array Value), w.heap[g]? = some (.cells cs T fz) → (w.setCells g o vs).heap[g]? = some (.cells (wrAt cs o vs) T fz)
  | [], o, w, cs, h => h
  | v :: r, o, w, cs, h => heap_setCells r (o + 1) (w.setCell ⟨g, o, none⟩ v) (cs.setIfInBounds o v) (putS h v)
theorem heap_setCells_ne {g k : Nat} (hk : k ≠ g) : ∀ (vs : List Value) (o : Nat) (w : World), (w.setCells g o vs).heap[k]? = w.heap[k]?
  | [], o, w => rfl
  | v :: r, o, w => (heap_setCells_ne hk r (o + 1) (w.setCell ⟨g, o, none⟩ v)).trans (Below.heap_setCell w ⟨g, o, none⟩ v k hk)
theorem below_setCells {B g : Nat} {a : World} (hg : B ≤ g) : ∀ (vs : List Value) (o : Nat) (w : World), Below B a w → Below B a (w.setCells g o vs)
  | [], o, w, h => h
  | v :: r, o, w, h => below_setCells hg r (o + 1) _ (h.setCell (p := ⟨g, o, none⟩) hg v)
theorem size_setCellsT (g : Nat) : ∀ (vs : List Value) (o : Nat) (w : World), (w.setCells g o vs).heap.size = w.heap.size
  | [], o, w => rfl
  | v :: r, o, w => (size_setCellsT g r (o + 1) _).trans (by simp [World.setCell])
theorem grown_setCells {g : Nat} {a : World} : ∀ (vs : List Value) (o : Nat) (w : World), a.grownBy w (some g) → a.grownBy (w.setCells g o vs) (some g)
  | [], o, w, h => h
  | v :: r, o, w, h => grown_setCells r (o + 1) _ (gsetS h o v)
theorem thereB {w : World} {b : Nat} {cs : Array Value} {T : TypeId} (h : w.heap[b]? = some (.cells cs T (0, 0))) {o n : Nat} (hn : o + n ≤ cs.size) : w.there b o n := fun j hj => by
  refine ⟨?_, frozenS h _⟩
  rw [cellS h]
  simp; omega
theorem storeN {w : World} {b o : Nat} {p : Nr} {cs : Array Value} {T : TypeId} (h : w.heap[b]? = some (.cells cs T (0, 0))) (hn : o + 34 ≤ cs.size) : (Instr.storeAt 38 (.pointer (some ⟨b, o, none⟩)) (.agg (valsNr p).toArray)).run Tryz.prog w = .ok () (w.setCells b o (valsNr p)) :=
  run_storeAt_mid w b o 38 (valsNr p).toArray (thereB h hn) (by kernel_rfl) (valsNr_all p)
theorem ldN {ops : Array Oper} {rest : List Oper} {op : Oper} {a : Act} {w : World} {Q : Exit → Act → World → Prop} (x : Operand) (p : Nr) (b o : Nat) (hgd : op.guard = none) (ho : op.op = .load 38 x) (hx : a.eval x = .pointer (some ⟨b, o, none⟩)) (hc : w.rangeAt b o (valsNr p))
    (h : wpList Tryz.prog ops Q rest (a.put op.dst (.agg (valsNr p).toArray)) w) : wpList Tryz.prog ops Q (op :: rest) a w :=
  wpList_load_mid hgd _ x ho b o hx _ _ hc Tryz.underlying38 rfl (by kernel_rfl) h
theorem stN {ops : Array Oper} {rest : List Oper} {op : Oper} {a : Act} {w : World} {Q : Exit → Act → World → Prop} {cs : Array Value} {T : TypeId} (x y : Operand) (p : Nr) (b o : Nat) (hgd : op.guard = none) (ho : op.op = .store 38 x y) (hx : a.eval x = .pointer (some ⟨b, o, none⟩)) (hy : a.eval y = .agg (valsNr p).toArray) (hb : w.heap[b]? = some (.cells cs T (0, 0))) (hn : o + 34 ≤ cs.size)
    (h : wpList Tryz.prog ops Q rest (a.put op.dst undef) (w.setCells b o (valsNr p))) : wpList Tryz.prog ops Q (op :: rest) a w :=
  wpList_store_mid hgd _ x y ho b o _ hx hy (thereB hb hn) (by kernel_rfl) (valsNr_all p) h
theorem ldW {P : Program} {ops : Array Oper} {rest : List Oper} {op : Oper} {a : Act} {w : World} {Q : Exit → Act → World → Prop} (T : TypeId) (x : Operand) (cs : List Value) (b o : Nat) {d : TypeDesc} (ho : op.op = .load T x) (hw : Region.wanted op (yielded ops a.tmps) = true) (hx : a.eval x = .pointer (some ⟨b, o, none⟩))
    (hu : P.underlying T = some d) (hd : d.isRow = true) (hi : (P.info? T).map (·.size) = some cs.length) (hc : w.rangeAt b o cs) (h : wpList P ops Q rest (a.put op.dst (.agg cs.toArray)) w) : wpList P ops Q (op :: rest) a w :=
  BigFrame.wpList_want hw fun K hK => wp_load_mid T x ho b o hx cs d hc hu hd hi (hK _ _ h)
theorem grow_loadM {P : Program} {ops : Array Oper} {o : Oper} {a : Act} {w : World} {K : Act → Prop} (T : TypeId) (x : Operand) (cs : List Value) (b off : Nat) {d : TypeDesc} (ho : o.op = .load T x) (hw : Region.wanted o (yielded ops a.tmps) = true) (hx : a.eval x = .pointer (some ⟨b, off, none⟩))
    (hu : P.underlying T = some d) (hd : d.isRow = true) (hi : (P.info? T).map (·.size) = some cs.length) (hc : ∀ w', Gr w w' → w'.rangeAt b off cs) (hK : K (a.put o.dst (.agg cs.toArray))) : ∃ v, GrowIn P ops o v a w ∧ K (a.put o.dst v) :=
  grow_run _ hw (fun w' hw' => by
    unfold execOp
    simp only [ho, hx, Instr.loadAt, Instr.sureAddr, Sem.run_bind, Sem.run_pure, Result.andThen_ok, run_loadVar_mid w' b off T cs d (hc w' hw') hu hd hi]
    exact ⟨rfl, rfl⟩) hK
theorem grow_ldN {ops : Array Oper} {o : Oper} {a : Act} {w : World} {K : Act → Prop} (x : Operand) (p : Nr) (b off : Nat) (ho : o.op = .load 38 x) (hw : Region.wanted o (yielded ops a.tmps) = true) (hx : a.eval x = .pointer (some ⟨b, off, none⟩))
    (hl : b < w.heap.size) (hc : w.rangeAt b off (valsNr p)) (hK : K (a.put o.dst (.agg (valsNr p).toArray))) : ∃ v, GrowIn Tryz.prog ops o v a w ∧ K (a.put o.dst v) :=
  grow_loadM 38 x (valsNr p) b off ho hw hx Tryz.underlying38 rfl (by kernel_rfl) (fun w' hw' => rangeB hc (hw'.out.block b hl)) hK
end Go.Proofs.YtgdkionmeacalabGreat
end
section
namespace Go.Proofs.YtgdkionmeacalabGreat
open Go.RowKit
set_option linter.unusedVariables false
set_option maxHeartbeats 1000000
attribute [local go_sem] growUpon_value growUpon_skip growUpon_enter
def szL : List Nr → Nat
  | [] => 0
  | p :: t => p.n.cs.length + p.n.rs.length + szL t
theorem szL_take : ∀ {R : List Nr} {k : Nat} {p : Nr}, R[k]? = some p → szL (R.take (k + 1)) = szL (R.take k) + (p.n.cs.length + p.n.rs.length)
  | q :: t, 0, p, h => by simp at h; subst h; simp [szL]
  | q :: t, k + 1, p, h => by
    simp only [List.getElem?_cons_succ] at h
    simp only [List.take_succ_cons, szL, szL_take h]
    omega
  | [], k, p, h => by simp at h
theorem szL_le : ∀ (R : List Nr) (k : Nat), szL (R.take k) ≤ szL R
  | [], k => by simp [szL]
  | q :: t, 0 => by simp [szL]
  | q :: t, k + 1 => by have := szL_le t k; simp only [List.take_succ_cons, szL]; omega
end Go.Proofs.YtgdkionmeacalabGreat
end
section
namespace Go.Proofs.YtgdkionmeacalabGreat
open Go.RowKit
set_option linter.unusedVariables false
set_option linter.unusedSimpArgs false
set_option maxHeartbeats 2000000
/-! Trees that are drawn: what lies where. -/
def nrvals : List Nr → List Value
  | [] => []
  | p :: t => valsNr p ++ nrvals t
theorem nrvals_append (A B : List Nr) : nrvals (A ++ B) = nrvals A ++ nrvals B := by
  induction A with
  | nil => rfl
  | cons p A ih => simp only [List.cons_append, nrvals, ih, List.append_assoc]
theorem nrvals_snoc (L : List Nr) (p : Nr) : nrvals L ++ valsNr p = nrvals (L ++ [p]) := by rw [nrvals_append]; simp [nrvals]
theorem nrvals_get : ∀ {M : List Nr} {i : Nat} {r : Nr}, M[i]? = some r → ∀ j, j < 34 → (nrvals M)[i * 34 + j]? = (valsNr r)[j]?
  | [], i, r, h, _, _ => by simp at h
  | q :: t, 0, r, h, j, hj => by
    simp at h; subst h
    show (valsNr q ++ nrvals t)[0 * 34 + j]? = _
    rw [List.getElem?_append_left (by rw [valsNr_len]; omega)]; simp
  | q :: t, i + 1, r, h, j, hj => by
    show (valsNr q ++ nrvals t)[(i + 1) * 34 + j]? = _
    rw [List.getElem?_append_right (by rw [valsNr_len]; omega)]
    have := nrvals_get (M := t) (i := i) (r := r) (by simpa using h) j hj
    rw [← this]; congr 1; rw [valsNr_len]; omega
theorem nr_info : ∃ (i : TypeInfo) (z : Value), Tryz.prog.info? 38 = some i ∧ i.zero = some z ∧ i.size = 34 ∧ i.bytes = 288 ∧ z.cells.size = 34 := by
  have h : (Tryz.prog.info? 38).map (fun i => (i.size, i.bytes, i.zero.map (fun z => z.cells.size))) = some (34, 288, some 34) := by kernel_rfl
  cases hq : Tryz.prog.info? 38 with
  | none => rw [hq] at h; cases h
  | some i =>
    rw [hq] at h
    simp only [Option.map_some, Option.some.injEq, Prod.mk.injEq] at h
    obtain ⟨e1, e2, e3⟩ := h
    cases hz : i.zero with
    | none => rw [hz] at e3; cases e3
    | some z => rw [hz] at e3; simp only [Option.map_some, Option.some.injEq] at e3; exact ⟨i, z, rfl, hz, e1, e2, e3⟩
theorem new34 (W : World) (p : Nr) (T : TypeId) : ∀ (j : Nat) (u : Value), (valsNr p)[j]? = some u → (W.alloc (.cells (valsNr p).toArray T)).cell? ((⟨W.heap.size, 0, none⟩ : Addr).add j) = some u := fun j u h => by
  have hadd : (⟨W.heap.size, 0, none⟩ : Addr).add j = ⟨W.heap.size, j, none⟩ := by unfold Addr.add; split <;> simp_all
  rw [hadd]
  exact (cellS (newS W _) j).trans (by simpa using h)
/-- a widget as it is built first -/
def nx (pa ww hh : Int) (ke : Bool) (ki : Int) : Nr := ⟨⟨pa, ww, hh, ke, ki, [], [], ⟨0, 0, 0, false, false, false, 0, 0, 0⟩, ⟨0, 0, 0, 0, 0, 0, 0, 0, 0⟩, ⟨0, 0, 0, 0, 0, 0, 0, 0, 0⟩⟩, none, 0, none, 0⟩
theorem run_bsN (p : Nr) (w : World) : (Instr.buildSlice 23 1 #[(0, .agg (valsNr p).toArray)]).run Tryz.prog w = .ok (.slice (some ⟨w.heap.size, 0, none⟩) 1 1) (w.alloc (.cells (valsNr p).toArray 38)) := by kernel_rfl
theorem run_bN (pa ww hh : Int) (ke : Bool) (ki : Int) (w : World) : (Instr.build 38 #[(0, .int .i64 pa), (1, .int .i64 ww), (2, .int .i64 hh), (3, .bool ke), (4, .int .i64 ki)]).run Tryz.prog w = .ok (.agg (valsNr (nx pa ww hh ke ki)).toArray) w := by kernel_rfl
/-- lines in memory of their own, or none -/
def LnK (W : World) (A : Option Addr) (L : List Ln) : Prop := L = [] ∨ ∃ (g : Nat) (cs : Array Value), A = some ⟨g, 0, none⟩ ∧ W.heap[g]? = some (.cells cs 150 (0, 0)) ∧ ∀ (i : Nat) (x : Ln), L[i]? = some x → InS cs (i * 2) (valsLn x)
theorem LnK.v {W : World} {A : Option Addr} {L : List Ln} (h : LnK W A L) : LnV W A L := by
  rcases h with rfl | ⟨g, cs, rfl, hh, hc⟩
  · exact LnV.nil _ _
  · exact LnV.inG hh hc
theorem LnK.own {W : World} {base n : Nat} {v : Value} {L : List Ln} (h : W.ownsRow base 150 2 v n (lnvals L)) (hn : n = L.length) : ∃ A c, v = .slice A L.length c ∧ L.length ≤ c ∧ LnK W A L := by
  subst hn
  rcases ln_inG h rfl with ⟨rfl, rfl⟩ | ⟨g, cap, cs, rfl, hg, hc, hh, hs, hin⟩
  · exact ⟨none, 0, rfl, Nat.le_refl _, .inl rfl⟩
  · exact ⟨_, cap, rfl, hc, .inr ⟨g, cs, rfl, hh, hin⟩⟩
/-- blocks of lines stay as they are -/
def KpL (W W' : World) : Prop := ∀ (g : Nat) (cs : Array Value), W.heap[g]? = some (.cells cs 150 (0, 0)) → W'.heap[g]? = W.heap[g]?
theorem KpL.refl (W : World) : KpL W W := fun _ _ _ => rfl
theorem KpL.trans {A B C : World} (h : KpL A B) (k : KpL B C) : KpL A C := fun g cs e => (k g cs ((h g cs e).trans e)).trans (h g cs e)
theorem LnK.kp {W W' : World} {A : Option Addr} {L : List Ln} (h : LnK W A L) (hk : KpL W W') : LnK W' A L := h.imp id fun ⟨g, cs, e, hh, hc⟩ => ⟨g, cs, e, (hk g cs hh).trans hh, hc⟩
theorem KpL.chg {W W' : World} {b : Nat} {o : Obj} (hc : Chg [b] W W') (hb : W.heap[b]? = some o) (ho : ∀ cs, o ≠ .cells cs 150 (0, 0)) : KpL W W' := fun g cs e => hc.block g (ltS e) (by
  simp only [List.mem_singleton]; rintro rfl; rw [hb] at e; exact ho cs (Option.some.inj e))
theorem KpL.below {W W' : World} (hb : Below W.heap.size W W') : KpL W W' := fun g cs e => hb.block g (ltS e)
theorem KpL.grown {W W' : World} {ob : Option Nat} (hg : W.grownBy W' ob) (ho : ∀ g cs, W.heap[g]? = some (.cells cs 150 (0, 0)) → some g ≠ ob) : KpL W W' := fun g cs e => hg.block g (ltS e) (ho g cs e)
/-- what holds of a widget's lines -/
structure NL (W : World) (p : Nr) : Prop where
  c : LnK W p.ca p.n.cs
  r : LnK W p.ra p.n.rs
  cl : p.n.cs.length ≤ p.cc
  rl : p.n.rs.length ≤ p.rc
  c5 : p.n.cs.length ≤ 5
  r5 : p.n.rs.length ≤ 5
theorem NL.kp {W W' : World} {p : Nr} (h : NL W p) (hk : KpL W W') : NL W' p := ⟨h.c.kp hk, h.r.kp hk, h.cl, h.rl, h.c5, h.r5⟩
theorem NL.rd {W : World} {p : Nr} (h : NL W p) : RdN W p := ⟨h.c.v, h.cl, h.r.v, h.rl⟩
def kiL (p : Nr) : Prop := p.n.ki = 1 → 1 ≤ p.n.cs.length ∧ 1 ≤ p.n.rs.length
/-- the tree that is made, in the variable bt; a its world of before -/
structure TrS (a : World) (lo br bt rb : Nat) (R : List Nr) (v : Value) (W : World) : Prop where
  res : W.heap[br]? = some (.cells #[.slice none 0 0] 25 (0, 0))
  box : W.heap[bt]? = some (.cells #[v] 25 (0, 0))
  own : W.ownsRow lo 38 34 v R.length (nrvals R)
  lns : ∀ p ∈ R, NL W p ∧ kiL p
  chg : Chg [rb] a W
theorem TrS.call {a : World} {lo br bt rb B n c m : Nat} {A : Option Addr} {R : List Nr} {v : Value} {W W' : World} (h : TrS a lo br bt rb R v W) (hr : Rd B rb A n c m W) (hc : Chg [rb] W W') (h1 : rb < lo) (h2 : bt ≠ rb) (h3 : br ≠ rb) : TrS a lo br bt rb R v W' := by
  obtain ⟨p, hp, hb⟩ := hr.box
  have hk : KpL W W' := KpL.chg hc hb (fun cs e => by cases e)
  exact ⟨(hc.block br (ltS h.res) (by simpa using h3)).trans h.res, (hc.block bt (ltS h.box) (by simpa using h2)).trans h.box, own_chgN h.own hc h1, fun p hp => ⟨(h.lns p hp).1.kp hk, (h.lns p hp).2⟩, h.chg.trans hc⟩
theorem TrS.alloc {a : World} {lo br bt rb : Nat} {R : List Nr} {v : Value} {W : World} (h : TrS a lo br bt rb R v W) (o : Obj) : TrS a lo br bt rb R v (W.alloc o) :=
  ⟨(Below.heap_alloc _ _ _ (ltS h.res)).trans h.res, (Below.heap_alloc _ _ _ (ltS h.box)).trans h.box, h.own.alloc _, fun p hp => ⟨(h.lns p hp).1.kp (KpL.below (balloc (Below.refl _ _))), (h.lns p hp).2⟩, h.chg.alloc o⟩
theorem TrS.drew {a : World} {lo br bt rb : Nat} {R : List Nr} {v : Value} {W : World} (h : TrS a lo br bt rb R v W) : TrS a lo br bt rb R v W.drew :=
  ⟨h.res, h.box, h.own.kept (row := none) ⟨rfl, rfl, rfl, Nat.le_refl _, fun _ _ _ => rfl⟩ (by cases hv : v.ownBlock with | none => exact .inl rfl | some g => exact .inr (fun e => by cases e)), fun p hp => ⟨(h.lns p hp).1.kp (KpL.below (Below.refl _ _).drew), (h.lns p hp).2⟩, h.chg.drew⟩
/-- the widget that is made, in the variable bx -/
def XB (bx : Nat) (p : Nr) (W : World) : Prop := W.heap[bx]? = some (.cells (valsNr p).toArray 38 (0, 0))
theorem XB.call {bx rb : Nat} {p : Nr} {W W' : World} (h : XB bx p W) (hc : Chg [rb] W W') (hn : bx ≠ rb) : XB bx p W' := (hc.block bx (ltS h) (by simpa using hn)).trans h
theorem XB.alloc {bx : Nat} {p : Nr} {W : World} (h : XB bx p W) (o : Obj) : XB bx p (W.alloc o) := (Below.heap_alloc _ _ _ (ltS h)).trans h
theorem XB.cell {bx : Nat} {p : Nr} {W : World} (h : XB bx p W) (i : Nat) : W.cell? ⟨bx, i, none⟩ = (valsNr p).toArray[i]? := cellS h i
theorem XB.frz {bx : Nat} {p : Nr} {W : World} (h : XB bx p W) (i : Nat) : W.frozen? ⟨bx, i, none⟩ = false := frozenS h i
theorem chg_sets {b : Nat} {W : World} (vs : List Value) (o : Nat) : Chg [b] W (W.setCells b o vs) := Chg.of_grown (Chg.refl _ _) (grown_setCells vs o W (greflS W b)) (.inl (by simp))
theorem TrS.sets {a : World} {lo br bt rb bx : Nat} {R : List Nr} {v : Value} {W : World} {cs : Array Value} (h : TrS a lo br bt rb R v W) (hx : W.heap[bx]? = some (.cells cs 38 (0, 0))) (hbt : bt ≠ bx) (hbr : br ≠ bx) (ha : a.heap.size ≤ bx) (hv : ∀ k, v.ownBlock = some k → k ≠ bx) (o : Nat) (vs : List Value) : TrS a lo br bt rb R v (W.setCells bx o vs) :=
  ⟨(heap_setCells_ne hbr vs o W).trans h.res, (heap_setCells_ne hbt vs o W).trans h.box, h.own.kept (grown_setCells vs o W (greflS W bx)) (by
    cases hv' : v.ownBlock with
    | none => exact .inl rfl
    | some g => exact .inr (fun e => hv g hv' (Option.some.inj e))),
   fun p hp => ⟨(h.lns p hp).1.kp (KpL.grown (grown_setCells vs o W (greflS W bx)) (fun g cs' e e' => by cases e'; rw [hx] at e; have := Option.some.inj e; simp at this)), (h.lns p hp).2⟩,
   Chg.of_grown h.chg (grown_setCells vs o W (greflS W bx)) (.inr ha)⟩
theorem NL.sets {bx : Nat} {p : Nr} {W : World} {cs : Array Value} (h : NL W p) (hx : W.heap[bx]? = some (.cells cs 38 (0, 0))) (o : Nat) (vs : List Value) : NL (W.setCells bx o vs) p :=
  h.kp (KpL.grown (grown_setCells vs o W (greflS W bx)) (fun g cs' e e' => by cases e'; rw [hx] at e; have := Option.some.inj e; simp at this))
theorem Rd.sets {B rb bx n c m : Nat} {A : Option Addr} {W : World} (h : Rd B rb A n c m W) (hB : B ≤ bx) (hn : bx ≠ rb) (o : Nat) (vs : List Value) : Rd B rb A n c m (W.setCells bx o vs) := h.keep (chg_sets vs o) (by simp; exact ⟨hB, hn⟩)
theorem XB.sets {bx : Nat} {p q : Nr} {W : World} (h : XB bx p W) (o : Nat) (vs : List Value) (e : wrAt (valsNr p).toArray o vs = (valsNr q).toArray) : XB bx q (W.setCells bx o vs) := (heap_setCells vs o W _ h).trans (by rw [e])
theorem NL.call {B rb n c m : Nat} {A : Option Addr} {p : Nr} {W W' : World} (h : NL W p) (hr : Rd B rb A n c m W) (hc : Chg [rb] W W') : NL W' p := by
  obtain ⟨q, _, hb⟩ := hr.box
  exact h.kp (KpL.chg hc hb (fun cs e => by cases e))
/-- one more widget -/
theorem TrS.add {a : World} {lo br bt rb : Nat} {R : List Nr} {p : Nr} {v v' : Value} {W w5 : World} {o : Obj} (h : TrS a lo br bt rb R v W) (hn : NL W p) (hk : kiL p) (hlo : a.heap.size ≤ lo) (hg : (W.alloc o).grownBy w5 v.ownBlock) (ho : w5.ownsRow lo 38 34 v' (R.length + 1) (nrvals R ++ valsNr p)) :
    KpL W w5 ∧ w5.heap[br]? = some (.cells #[.slice none 0 0] 25 (0, 0)) ∧ w5.heap[bt]? = some (.cells #[v] 25 (0, 0)) ∧ w5.ownsRow lo 38 34 v' (R ++ [p]).length (nrvals (R ++ [p])) ∧ (∀ q ∈ R ++ [p], NL w5 q ∧ kiL q) ∧ Chg [rb] a w5 := by
  have hbk : ∀ (g : Nat) (ob : Obj), W.heap[g]? = some ob → (∀ cs, ob ≠ .cells cs 38 (0, 0)) → w5.heap[g]? = W.heap[g]? := fun g ob hb hne => by
    refine (hg.block g (by have := ltS hb; simp; omega) (fun e => ?_)).trans (Below.heap_alloc _ _ _ (ltS hb))
    rcases h.own.2 with ⟨rfl, _⟩ | ⟨g', cap, cur, rfl, _, hg', _⟩
    · simp [Value.ownBlock] at e
    · have : g = g' := by simpa [Value.ownBlock] using e
      subst this
      rw [hb] at hg'
      exact hne _ (Option.some.inj hg')
  have hkp : KpL W w5 := fun g cs e => hbk g _ e (fun cs' e' => by simp at e')
  refine ⟨hkp, (hbk br _ h.res (fun cs' e' => by simp at e')).trans h.res, (hbk bt _ h.box (fun cs' e' => by simp at e')).trans h.box, by rw [nrvals_snoc] at ho; simpa using ho, fun q hq => ?_, chg_grownN h.chg hg h.own.lt hlo⟩
  rcases List.mem_append.1 hq with hq | hq
  · exact ⟨(h.lns q hq).1.kp hkp, (h.lns q hq).2⟩
  · rw [List.mem_singleton.1 hq]; exact ⟨hn.kp hkp, hk⟩
/-- a store into a variable that holds a tree -/
theorem own_tree {W : World} {lo n b : Nat} {v : Value} {xs : List Value} {cs : Array Value} (h : W.ownsRow lo 38 34 v n xs) (hb : W.heap[b]? = some (.cells cs 25 (0, 0))) (u : Value) : (W.setCell ⟨b, 0, none⟩ u).ownsRow lo 38 34 v n xs :=
  h.kept (row := some b) (gsetS (greflS W b) 0 u) (by
    rcases h.2 with ⟨rfl, _⟩ | ⟨g', cap, cur, rfl, _, hg', _⟩
    · exact .inl rfl
    · refine .inr (fun e => ?_)
      have : g' = b := by simpa [Value.ownBlock] using e
      subst this
      rw [hb] at hg'
      have := Option.some.inj hg'
      simp at this)
theorem kp_tree {W : World} {b : Nat} {cs : Array Value} (hb : W.heap[b]? = some (.cells cs 25 (0, 0))) (u : Value) : KpL W (W.setCell ⟨b, 0, none⟩ u) :=
  KpL.grown (gsetS (greflS W b) 0 u) (fun g cs' e e' => by cases e'; rw [hb] at e; have := Option.some.inj e; simp at this)
/-- the cells of the widgets -/
theorem own_nr {w : World} {base n : Nat} {v : Value} {R : List Nr} (h : w.ownsRow base 38 34 v n (nrvals R)) (hn : n = R.length) : (v = .slice none 0 0 ∧ R = []) ∨ ∃ (g cap : Nat) (cs : Array Value), v = .slice (some ⟨g, 0, none⟩) n cap ∧ base ≤ g ∧ n ≤ cap ∧ w.heap[g]? = some (.cells cs 38 (0, 0)) ∧ cs.size = cap * 34 ∧ ∀ (i : Nat) (r : Nr), R[i]? = some r → InS cs (i * 34) (valsNr r) := by
  rcases h.2 with ⟨rfl, h0⟩ | ⟨g, cap, cur, rfl, hb, hg, hc, _, hs, ht⟩
  · exact .inl ⟨rfl, List.length_eq_zero_iff.1 (by omega)⟩
  · refine .inr ⟨g, cap, cur, rfl, hb, hc, hg, hs, fun i r hr j u hj => ?_⟩
    have hi : i < R.length := (List.getElem?_eq_some_iff.1 hr).1
    have hj34 : j < 34 := by have := (List.getElem?_eq_some_iff.1 hj).1; rwa [valsNr_len] at this
    have e := (nrvals_get hr j hj34).trans hj
    rw [← ht, List.getElem?_take, if_pos (by omega)] at e
    simpa using e
theorem own_slN {w : World} {base n : Nat} {v : Value} {xs : List Value} {e : TypeId} {size : Nat} (h : w.ownsRow base e size v n xs) : ∃ A c, v = .slice A n c := by
  rcases h.2 with ⟨rfl, h0⟩ | ⟨g, cap, cur, rfl, _⟩
  · exact ⟨none, 0, by rw [h0]⟩
  · exact ⟨_, _, rfl⟩
end Go.Proofs.YtgdkionmeacalabGreat
end
section
namespace Go.Proofs.YtgdkionmeacalabGreat
open Go.RowKit
set_option linter.unusedVariables false
set_option maxHeartbeats 1000000
attribute [local go_sem] growUpon_value growUpon_skip growUpon_enter
theorem wp_genGG {P : Program} {c : Code} {Q : Exit → Act → World → Prop} {a : Act} {W : World} (F : World → Prop) (hF : F W) (h : ∀ W0, F W0 → c.wp P Q a W0) : c.wp P Q a W := h W hF
theorem bp_genG {P : Program} {f : Func} {R : Ending → World → Prop} {e : Exit} {a : Act} {W : World} (F : World → Prop) (hF : F W) (h : ∀ W0, F W0 → bodyPost P f R e a W0) : bodyPost P f R e a W := h W hF
def GB (lo : Nat) (w : World) (v : Value) (L1 L2 : List Ln) (L3 : List Ce) : Prop :=
  ∃ g1 g2 g3 : Nat, v = .agg #[.slice (some ⟨g1, 0, none⟩) L1.length L1.length, .slice (some ⟨g2, 0, none⟩) L2.length L2.length, .slice (some ⟨g3, 0, none⟩) L3.length L3.length] ∧ lo ≤ g1 ∧ g1 < g2 ∧ g2 < g3 ∧ LnB w g1 L1 ∧ LnB w g2 L2 ∧ CeB w g3 L3
theorem GB.any {lo : Nat} {w : World} {v : Value} {L1 L2 : List Ln} {L3 : List Ce} (h : GB lo w v L1 L2 L3) : GB 0 w v L1 L2 L3 := by
  obtain ⟨g1, g2, g3, e, a, b, c, k1, k2, k3⟩ := h
  exact ⟨g1, g2, g3, e, by omega, b, c, k1, k2, k3⟩
theorem GB.keep {lo : Nat} {w w' : World} {v : Value} {L1 L2 : List Ln} {L3 : List Ce} (h : GB lo w v L1 L2 L3) (hb : Below w.heap.size w w') : GB lo w' v L1 L2 L3 := by
  obtain ⟨g1, g2, g3, e, a, b, c, k1, k2, k3⟩ := h
  exact ⟨g1, g2, g3, e, a, b, c, k1.keep hb, k2.keep hb, k3.keep hb⟩
end Go.Proofs.YtgdkionmeacalabGreat
end
section
namespace Go.Proofs.YtgdkionmeacalabGreat
open Go.RowKit
set_option linter.unusedVariables false
set_option maxHeartbeats 2000000
/-- a variable of which the first cells are known -/
def PreN (w : World) (z : Nat) (l : List Value) : Prop := ∃ cs : Array Value, w.heap[z]? = some (.cells cs 38 (0, 0)) ∧ cs.size = 34 ∧ InS cs 0 l
theorem PreN.nil {w : World} {z : Nat} {cs : Array Value} (h : w.heap[z]? = some (.cells cs 38 (0, 0))) (hs : cs.size = 34) : PreN w z [] := ⟨cs, h, hs, fun j u hu => by simp at hu⟩
theorem PreN.lt {w : World} {z : Nat} {l : List Value} (h : PreN w z l) : z < w.heap.size := by obtain ⟨cs, hh, _⟩ := h; exact ltS hh
theorem PreN.there {w : World} {z : Nat} {l : List Value} (h : PreN w z l) {o n : Nat} (hn : o + n ≤ 34) : w.there z o n := by
  obtain ⟨cs, hh, hs, _⟩ := h
  exact thereB hh (by omega)
theorem PreN.cell {w : World} {z : Nat} {l : List Value} (h : PreN w z l) {i : Nat} (hi : i < 34) : ∃ v, w.cell? ⟨z, i, none⟩ = some v := by
  obtain ⟨cs, hh, hs, _⟩ := h
  exact thereS hh (by omega)
theorem PreN.frz {w : World} {z : Nat} {l : List Value} (h : PreN w z l) (i : Nat) : w.frozen? ⟨z, i, none⟩ = false := by
  obtain ⟨cs, hh, hs, _⟩ := h
  exact frozenS hh i
theorem PreN.keep {w w' : World} {z : Nat} {l : List Value} (h : PreN w z l) (hb : w'.heap[z]? = w.heap[z]?) : PreN w' z l := by
  obtain ⟨cs, hh, hs, hi⟩ := h
  exact ⟨cs, hb.trans hh, hs, hi⟩
theorem InS_app {cs : Array Value} {l vs : List Value} (h : InS cs 0 l) (hs : l.length + vs.length ≤ cs.size) : InS (wrAt cs l.length vs) 0 (l ++ vs) := fun j u hu => by
  rw [Nat.zero_add]
  by_cases hj : j < l.length
  · rw [List.getElem?_append_left hj] at hu
    rw [wrAt_lo _ _ _ _ hj]
    have := h j u hu
    rwa [Nat.zero_add] at this
  · rw [List.getElem?_append_right (by omega)] at hu
    have hl := (List.getElem?_eq_some_iff.1 hu).1
    have := wrAt_in vs cs l.length (j - l.length) hs hl
    rw [show l.length + (j - l.length) = j by omega] at this
    rw [this, hu]
theorem PreN.more {w : World} {z : Nat} {l vs : List Value} (h : PreN w z l) (hn : l.length + vs.length ≤ 34) : PreN (w.setCells z l.length vs) z (l ++ vs) := by
  obtain ⟨cs, hh, hs, hi⟩ := h
  exact ⟨_, heap_setCells vs l.length w cs hh, by rw [wrAt_size]; exact hs, InS_app hi (by omega)⟩
theorem PreN.one {w : World} {z : Nat} {l : List Value} (h : PreN w z l) (k : Nat) (hk : k = l.length) (v : Value) (hn : k < 34) : PreN (w.setCell ⟨z, k, none⟩ v) z (l ++ [v]) := by
  subst hk; exact h.more (vs := [v]) (by simp; omega)
theorem PreN.moreK {w : World} {z : Nat} {l : List Value} (h : PreN w z l) (k : Nat) (hk : k = l.length) (vs : List Value) (hn : k + vs.length ≤ 34) : PreN (w.setCells z k vs) z (l ++ vs) := by
  subst hk; exact h.more hn
theorem PreN.full {w : World} {z : Nat} {l : List Value} (h : PreN w z l) (hl : l.length = 34) : w.heap[z]? = some (.cells l.toArray 38 (0, 0)) := by
  obtain ⟨cs, hh, hs, hi⟩ := h
  have e : cs = l.toArray := by
    apply Array.ext
    · simp [hs, hl]
    · intro i h1 h2
      have := hi i l[i] (List.getElem?_eq_getElem (by simpa using h2))
      rw [Nat.zero_add, Array.getElem?_eq_getElem h1] at this
      simpa using this
  rw [← e]; exact hh
theorem range_sub {w : World} {b o : Nat} {cs : List Value} (h : w.rangeAt b o cs) (A B C : List Value) (e : cs = A ++ (B ++ C)) (k : Nat) (hk : k = A.length) : w.rangeAt b (o + k) B := fun j v hj => by
  subst hk
  have hl := (List.getElem?_eq_some_iff.1 hj).1
  rw [Nat.add_assoc]
  exact h (A.length + j) v (by rw [e, List.getElem?_append_right (by omega), List.getElem?_append_left (by omega)]; rw [show A.length + j - A.length = j by omega]; exact hj)
theorem node_pk {w : World} {b o : Nat} {p : Nr} (h : w.rangeAt b o (valsNr p)) : w.rangeAt b (o + 7) [.int .i64 p.n.pk.w, .int .i64 p.n.pk.h, .int .i64 p.n.pk.s, .bool p.n.pk.fx, .bool p.n.pk.fy, .bool p.n.pk.ex, .int .i64 p.n.pk.an, .int .i64 p.n.pk.px, .int .i64 p.n.pk.py] := range_sub h ((valsNr p).take 7) _ ((valsNr p).drop 16) rfl 7 rfl
theorem node_ce {w : World} {b o : Nat} {p : Nr} (h : w.rangeAt b o (valsNr p)) : w.rangeAt b (o + 16) [.int .i64 p.n.ce.co, .int .i64 p.n.ce.ro, .int .i64 p.n.ce.mc, .int .i64 p.n.ce.mr, .int .i64 p.n.ce.cw, .int .i64 p.n.ce.ch, .int .i64 p.n.ce.sk, .int .i64 p.n.ce.px, .int .i64 p.n.ce.py] := range_sub h ((valsNr p).take 16) _ ((valsNr p).drop 25) rfl 16 rfl
theorem node_pl {w : World} {b o : Nat} {p : Nr} (h : w.rangeAt b o (valsNr p)) : w.rangeAt b (o + 25) [.int .i64 p.n.pl.x, .int .i64 p.n.pl.y, .int .i64 p.n.pl.rx, .int .i64 p.n.pl.ry, .int .i64 p.n.pl.ww, .int .i64 p.n.pl.hh, .int .i64 p.n.pl.qw, .int .i64 p.n.pl.qh, .int .i64 p.n.pl.an] := range_sub h ((valsNr p).take 25) _ ((valsNr p).drop 34) rfl 25 rfl
theorem node_i {w : World} {b o : Nat} {p : Nr} (h : w.rangeAt b o (valsNr p)) (j : Nat) (v : Value) (hv : (valsNr p)[j]? = some v) : w.cell? ⟨b, o + j, none⟩ = some v := h j v hv
theorem setCells_one (w : World) (g o : Nat) (v : Value) : w.setCells g o [v] = w.setCell ⟨g, o, none⟩ v := rfl
theorem newS1T (w : World) (o o' : Obj) : ((w.alloc o).alloc o').heap[w.heap.size + 1]? = some o' := by have := newS (w.alloc o) o'; rwa [World.size_alloc] at this
theorem newS2T (w : World) (o o' o2 : Obj) : (((w.alloc o).alloc o').alloc o2).heap[w.heap.size + 1 + 1]? = some o2 := by have := newS ((w.alloc o).alloc o') o2; rwa [World.size_alloc, World.size_alloc] at this
theorem wrAt_all {cs : Array Value} {l : List Value} (h : cs.size = l.length) : wrAt cs 0 l = l.toArray := by
  apply Array.ext
  · rw [wrAt_size]; simp [h]
  · intro i h1 h2
    have hi : i < l.length := by simpa using h2
    have := wrAt_in l cs 0 i (by omega) hi
    rw [Nat.zero_add, Array.getElem?_eq_getElem h1, List.getElem?_eq_getElem hi] at this
    simpa using this
/-- a widget that was copied -/
def cpN (p : Nr) (g1 g2 : Nat) : Nr := ⟨p.n, some ⟨g1, 0, none⟩, p.n.cs.length, some ⟨g2, 0, none⟩, p.n.rs.length⟩
def CpN (lo : Nat) (w : World) (p q : Nr) : Prop := ∃ g1 g2, q = cpN p g1 g2 ∧ lo ≤ g1 ∧ g1 < g2 ∧ LnB w g1 p.n.cs ∧ LnB w g2 p.n.rs
theorem CpN.keep {lo : Nat} {w w' : World} {p q : Nr} (h : CpN lo w p q) (hb : Below w.heap.size w w') : CpN lo w' p q := by
  obtain ⟨g1, g2, e, h1, h2, h3, h4⟩ := h
  exact ⟨g1, g2, e, h1, h2, h3.keep hb, h4.keep hb⟩
theorem CpN.but {lo z : Nat} {w w' : World} {p q : Nr} (h : CpN lo w p q) (hg : w.grownBy w' (some z)) (hz : z < lo) : CpN lo w' p q := by
  obtain ⟨g1, g2, e, h1, h2, h3, h4⟩ := h
  exact ⟨g1, g2, e, h1, h2, h3.but hg (by omega), h4.but hg (by omega)⟩
theorem CpN.n {lo : Nat} {w : World} {p q : Nr} (h : CpN lo w p q) : q.n = p.n := by obtain ⟨g1, g2, rfl, _⟩ := h; rfl
theorem CpN.rd {lo : Nat} {w : World} {p q : Nr} (h : CpN lo w p q) : RdN w q := by
  obtain ⟨g1, g2, rfl, h1, h2, h3, h4⟩ := h
  exact ⟨h3.v, Nat.le_refl _, h4.v, Nat.le_refl _⟩
theorem pk_oneN (p : Nr) : ∀ v ∈ ([.int .i64 p.n.pk.w, .int .i64 p.n.pk.h, .int .i64 p.n.pk.s, .bool p.n.pk.fx, .bool p.n.pk.fy, .bool p.n.pk.ex, .int .i64 p.n.pk.an, .int .i64 p.n.pk.px, .int .i64 p.n.pk.py] : List Value), v.oneCell' = true := by intro v hv; simp only [List.mem_cons, List.not_mem_nil, or_false] at hv; rcases hv with rfl | rfl | rfl | rfl | rfl | rfl | rfl | rfl | rfl <;> rfl
theorem ce_oneN (p : Nr) : ∀ v ∈ ([.int .i64 p.n.ce.co, .int .i64 p.n.ce.ro, .int .i64 p.n.ce.mc, .int .i64 p.n.ce.mr, .int .i64 p.n.ce.cw, .int .i64 p.n.ce.ch, .int .i64 p.n.ce.sk, .int .i64 p.n.ce.px, .int .i64 p.n.ce.py] : List Value), v.oneCell' = true := by intro v hv; simp only [List.mem_cons, List.not_mem_nil, or_false] at hv; rcases hv with rfl | rfl | rfl | rfl | rfl | rfl | rfl | rfl | rfl <;> rfl
theorem pl_oneN (p : Nr) : ∀ v ∈ ([.int .i64 p.n.pl.x, .int .i64 p.n.pl.y, .int .i64 p.n.pl.rx, .int .i64 p.n.pl.ry, .int .i64 p.n.pl.ww, .int .i64 p.n.pl.hh, .int .i64 p.n.pl.qw, .int .i64 p.n.pl.qh, .int .i64 p.n.pl.an] : List Value), v.oneCell' = true := by intro v hv; simp only [List.mem_cons, List.not_mem_nil, or_false] at hv; rcases hv with rfl | rfl | rfl | rfl | rfl | rfl | rfl | rfl | rfl <;> rfl
theorem madeNr : ∃ f : Nat → Array Value, (∀ n, (f n).size = n * 34) ∧ ∀ (n : Nat) (w : World), n ≤ 1048576 → (Instr.makeSlice 23 (.int .i64 (n : Int)) (.int .i64 (n : Int))).run Tryz.prog w = .ok (.slice (some ⟨w.heap.size, 0, none⟩) n n) (w.alloc (.cells (f n) 38)) := by
  have hinfo : (Tryz.prog.info? 38).map (fun i => (i.size, i.bytes, i.zero.isSome)) = some (34, 288, true) := by kernel_rfl
  obtain ⟨i, z, hi, h1, h2, h3⟩ : ∃ (i : TypeInfo) (z : Value), Tryz.prog.info? 38 = some i ∧ i.zero = some z ∧ i.size = 34 ∧ i.bytes = 288 := by
    cases hq : Tryz.prog.info? 38 with
    | none => rw [hq] at hinfo; cases hinfo
    | some i =>
      rw [hq] at hinfo
      simp only [Option.map_some, Option.some.injEq, Prod.mk.injEq] at hinfo
      obtain ⟨e1, e2, e3⟩ := hinfo
      obtain ⟨z, hz⟩ := Option.isSome_iff_exists.1 e3
      exact ⟨i, z, rfl, hz, e1, e2⟩
  refine ⟨fun n => madeCells z.cells (n * 34), fun n => size_madeCells _ _, fun n w hn => ?_⟩
  have hr := run_make (P := Tryz.prog) w 23 38 i _ Tryz.underlying23 hi h1 .i64 .i64 n n (by omega) (Int.le_refl _) (by rw [h3]; omega) (by omega)
  rw [h2] at hr
  simpa using hr
end Go.Proofs.YtgdkionmeacalabGreat
end
