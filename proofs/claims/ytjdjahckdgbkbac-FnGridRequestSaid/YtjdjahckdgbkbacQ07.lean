import Derived.Test.YtjdjahckdgbkbacQ06
section
namespace Go.Proofs.Ytjdjahckdgbkbac
open Go.RowKit
set_option linter.unusedVariables false
set_option maxHeartbeats 1000000
attribute [local go_sem] growUpon_value growUpon_skip growUpon_enter
attribute [local go_sem] givesUpon_value givesUpon_skip givesUpon_enter
def cevals : List Ce → List Value
  | [] => []
  | r :: t => valsCe r ++ cevals t
theorem cevals_append (A B : List Ce) : cevals (A ++ B) = cevals A ++ cevals B := by
  induction A with
  | nil => rfl
  | cons r t ih => simp [cevals, ih]
theorem cevals_snoc (L : List Ce) (r : Ce) : cevals L ++ valsCe r = cevals (L ++ [r]) := by rw [cevals_append]; simp [cevals]
theorem cevals_get : ∀ {M : List Ce} {i : Nat} {r : Ce}, M[i]? = some r → ∀ j, j < 9 → (cevals M)[i * 9 + j]? = (valsCe r)[j]?
  | [], i, r, h, _, _ => by simp at h
  | q :: t, 0, r, h, j, hj => by
    simp at h; subst h
    show (valsCe q ++ cevals t)[0 * 9 + j]? = _
    rw [List.getElem?_append_left (by simp [valsCe]; omega)]; simp
  | q :: t, i + 1, r, h, j, hj => by
    show (valsCe q ++ cevals t)[(i + 1) * 9 + j]? = _
    rw [List.getElem?_append_right (by simp [valsCe]; omega)]
    have := cevals_get (M := t) (i := i) (r := r) (by simpa using h) j hj
    rw [← this]; congr 1; simp [valsCe]; omega
theorem ce_infoG : ∃ (i : TypeInfo) (z : Value), Try.prog.info? 52 = some i ∧ i.zero = some z ∧ i.size = 9 ∧ i.bytes = 72 ∧ z.cells.size = 9 := by
  have hinfo : (Try.prog.info? 52).map (fun i => (i.zero, i.size, i.bytes)) = some (some (.agg #[.int .i64 0, .int .i64 0, .int .i64 0, .int .i64 0, .int .i64 0, .int .i64 0, .int .i64 0, .int .i64 0, .int .i64 0]), 9, 72) := by kernel_rfl
  obtain ⟨i, hi, h1, h2, h3⟩ := info_parts hinfo
  exact ⟨i, _, hi, h1, h2, h3, rfl⟩
theorem ce_newG (W : World) (r : Ce) (T : TypeId) : ∀ (j : Nat) (u : Value), (valsCe r)[j]? = some u → (W.alloc (.cells #[.int .i64 r.co, .int .i64 r.ro, .int .i64 r.mc, .int .i64 r.mr, .int .i64 r.cw, .int .i64 r.ch, .int .i64 r.sk, .int .i64 r.px, .int .i64 r.py] T)).cell? ((⟨W.heap.size, 0, none⟩ : Addr).add j) = some u := fun j u h => by
  have hadd : (⟨W.heap.size, 0, none⟩ : Addr).add j = ⟨W.heap.size, j, none⟩ := by unfold Addr.add; split <;> simp_all
  rw [hadd]
  exact (cellS (newS W _) j).trans (by simpa [valsCe] using h)
theorem valsCe_oneG (r : Ce) : ∀ u ∈ valsCe r, u.oneCell' = true := by intro u hu; simp [valsCe] at hu; rcases hu with rfl | rfl | rfl | rfl | rfl | rfl | rfl | rfl | rfl <;> rfl
theorem ce_inG {w : World} {base n : Nat} {v : Value} {M : List Ce} {T : TypeId} (h : w.ownsRow base T 9 v n (cevals M)) (hn : n = M.length) :
    (v = .slice none 0 0 ∧ M = []) ∨ ∃ g cap, ∃ cs : Array Value, v = .slice (some ⟨g, 0, none⟩) n cap ∧ base ≤ g ∧ n ≤ cap ∧ w.heap[g]? = some (.cells cs T (0, 0)) ∧ cs.size = cap * 9 ∧ ∀ (i : Nat) (x : Ce), M[i]? = some x → InS cs (i * 9) (valsCe x) := by
  rcases h.2 with ⟨rfl, h0⟩ | ⟨g, cap, cur, rfl, hb, hg, hc, _, hs, ht⟩
  · exact .inl ⟨rfl, List.length_eq_zero_iff.1 (by omega)⟩
  · refine .inr ⟨g, cap, cur, rfl, hb, hc, hg, hs, fun i r hr j u hu => ?_⟩
    have hj : j < 9 := by have := (List.getElem?_eq_some_iff.1 hu).1; simpa [valsCe] using this
    have e := (cevals_get hr j hj).trans hu
    rw [← ht, List.getElem?_take] at e
    have : i < M.length := (List.getElem?_eq_some_iff.1 hr).1
    rw [if_pos (by omega)] at e
    simpa using e
theorem CeV.inG {w : World} {g : Nat} {cs : Array Value} {T : TypeId} {M : List Ce} (hh : w.heap[g]? = some (.cells cs T (0, 0))) (hc : ∀ (i : Nat) (x : Ce), M[i]? = some x → InS cs (i * 9) (valsCe x)) : CeV w (some ⟨g, 0, none⟩) M :=
  ⟨fun _ => ⟨g, 0, rfl, ltS hh, fun i r hr => by
    have e : ∀ j u, (valsCe r)[j]? = some u → w.cell? ⟨g, 0 + i * 9 + j, none⟩ = some u := fun j u hu => by rw [Nat.zero_add]; exact (cellS hh _).trans (hc i r hr j u hu)
    exact ⟨e 0 _ rfl, e 1 _ rfl, e 2 _ rfl, e 3 _ rfl, e 4 _ rfl, e 5 _ rfl, e 6 _ rfl, e 7 _ rfl, e 8 _ rfl⟩⟩⟩
theorem CeV.chgG {w w' : World} {A : Option Addr} {L : List Ce} {rb : Nat} (h : CeV w A L) (hc : Chg [rb] w w') (hne : ∀ a, A = some a → a.block ≠ rb) : CeV w' A L :=
  ⟨fun h0 => let ⟨b, off, e, hl, hp⟩ := h.cells h0; ⟨b, off, e, Nat.lt_of_lt_of_le hl hc.size, fun i x hx => by
    have k : ∀ j, w'.cell? ⟨b, j, none⟩ = w.cell? ⟨b, j, none⟩ := fun j => hc.cell (p := ⟨b, j, none⟩) hl (by simp; exact hne _ e)
    have := hp i x hx
    exact ⟨(k _).trans this.1, (k _).trans this.2.1, (k _).trans this.2.2.1, (k _).trans this.2.2.2.1, (k _).trans this.2.2.2.2.1, (k _).trans this.2.2.2.2.2.1, (k _).trans this.2.2.2.2.2.2.1, (k _).trans this.2.2.2.2.2.2.2.1, (k _).trans this.2.2.2.2.2.2.2.2⟩⟩⟩
/-- a list that was drawn, in memory from a block on -/
def CeO (base : Nat) (w : World) (v : Value) (L : List Ce) : Prop := ∃ A c, v = .slice A L.length c ∧ L.length ≤ c ∧ CeV w A L ∧ ∀ a : Addr, A = some a → base ≤ a.block
theorem CeO.chg {base rb : Nat} {w w' : World} {v : Value} {L : List Ce} (h : CeO base w v L) (hc : Chg [rb] w w') (hr : rb < base) : CeO base w' v L := by
  obtain ⟨A, c, e, h1, h2, h3⟩ := h
  exact ⟨A, c, e, h1, h2.chgG hc (fun a ha => by have := h3 a ha; omega), h3⟩
theorem CeO.of {base : Nat} {w : World} {v : Value} {L : List Ce} {T : TypeId} (h : w.ownsRow base T 9 v L.length (cevals L)) : CeO base w v L := by
  rcases ce_inG h rfl with ⟨rfl, rfl⟩ | ⟨g, cap, cs, rfl, hg, hc, hh, hs, hin⟩
  · exact ⟨none, 0, rfl, Nat.le_refl _, CeV.nil _ _, fun a e => by cases e⟩
  · exact ⟨_, cap, rfl, hc, CeV.inG hh hin, fun a e => by cases e; exact hg⟩
theorem gx_gen2 {P : Program} {K : Value → World → Prop} {r : Result Next} (h : ∀ K' : Value → World → Prop, (∀ v w', K v w' → K' v w') → givesUpon P K' r) : givesUpon P K r := h K fun _ _ h => h
theorem stab_list {S : List Nat} : ∀ {l : List (Value → World → Prop)}, (∀ T ∈ l, ∀ (v : Value) (a b : World), T v a → Chg S a b → T v b) → ∀ (k : Nat) (v : Value) (a b : World), l.getD k (fun _ _ => True) v a → Chg S a b → l.getD k (fun _ _ => True) v b
  | [], _, k, v, a, b, h, hc => trivial
  | T :: r, hl, 0, v, a, b, h, hc => hl T List.mem_cons_self v a b h hc
  | T :: r, hl, k + 1, v, a, b, h, hc => stab_list (l := r) (fun T hT => hl T (List.mem_cons_of_mem _ hT)) k v a b h hc
/-- a slice of one cell in memory of its own -/
def OneC (lo : Nat) (v : Value) (w : World) : Prop := ∃ (p : Ce) (g : Nat), v = .slice (some ⟨g, 0, none⟩) 1 1 ∧ lo ≤ g ∧ w.heap[g]? = some (.cells #[.int .i64 p.co, .int .i64 p.ro, .int .i64 p.mc, .int .i64 p.mr, .int .i64 p.cw, .int .i64 p.ch, .int .i64 p.sk, .int .i64 p.px, .int .i64 p.py] 52 (0, 0))
theorem stab10 (rb lo : Nat) (h : rb < lo) : ∀ (v : Value) (a b : World), OneC lo v a → Chg [rb] a b → OneC lo v b := fun v a b ⟨p, g, e, hl, hg⟩ hc => ⟨p, g, e, hl, (hc.block g (ltS hg) (by simp; omega)).trans hg⟩
theorem chg_ofg {S : List Nat} {a W w5 : World} {ob : Option Nat} (h : Chg S a W) (hg : W.grownBy w5 ob) (hob : ∀ k, ob = some k → a.heap.size ≤ k) : Chg S a w5 :=
  ⟨hg.os.trans h.os, hg.tape.trans h.tape, hg.output.trans h.output, Nat.le_trans h.size hg.size, fun k hk hs => (hg.block k (Nat.lt_of_lt_of_le hk h.size) (fun e => by have := hob k e.symm; omega)).trans (h.block k hk hs)⟩
theorem rd_ofg {B rb : Nat} {A : Option Addr} {n c m : Nat} {W w5 : World} {ob : Option Nat} (h : Rd B rb A n c m W) (hg : W.grownBy w5 ob) (hob : ∀ k, ob = some k → rb < k) : Rd B rb A n c m w5 := by
  have hb := h.base
  cases ob with
  | none => exact h.keep (S := []) ⟨hg.os, hg.tape, hg.output, hg.size, fun k hk _ => hg.block k hk (fun e => by cases e)⟩ (by simp)
  | some g =>
    have := hob g rfl
    exact h.keep (S := [g]) ⟨hg.os, hg.tape, hg.output, hg.size, fun k hk hs => hg.block k hk (fun e => by cases e; simp at hs)⟩ (by simp; omega)
theorem own_setN {w : World} {base : Nat} {e : TypeId} {size : Nat} {v : Value} {n : Nat} {xs : List Value} (h : w.ownsRow base e size v n xs) {b : Nat} (hb : ∀ k, v.ownBlock = some k → k ≠ b) (o : Nat) (u : Value) : (w.setCell ⟨b, o, none⟩ u).ownsRow base e size v n xs :=
  h.kept (row := some b) (gsetS (greflS w b) o u) (by
    cases hv : v.ownBlock with
    | none => exact .inl rfl
    | some g => exact .inr (fun e => by have := hb g hv; cases e; omega))
theorem upon_append {P : Program} {o : Oper} {a : Act} {w : World} {K : Act → World → Prop} {Q : Exit → Act → World → Prop} (s x : Operand) (t : TypeId) {v xv v' : Value} {w' : World}
    (ho : o.op = .call { callee := .builtin .append, args := #[s, x], argTypes := #[t, t] }) (hs : a.eval s = v) (hx : a.eval x = xv)
    (hr : (Builtin.append_ #[t, t] o.type #[v, xv]).run P w = .ok v' w') (h : K (a.put o.dst v') w') : o.wp P a w K Q := by
  unfold Oper.wp execOp
  simp only [ho, resolve, invoke, builtin, Sem.run_bind, Sem.run_pure, Result.andThen_ok, List.map_toArray, List.map_cons, List.map_nil, hs, hx, hr]
  exact h
theorem own_slice {w : World} {base : Nat} {e : TypeId} {size : Nat} {v : Value} {n : Nat} {xs : List Value} (h : w.ownsRow base e size v n xs) : ∃ A c, v = .slice A n c := by
  rcases h.2 with ⟨rfl, h0⟩ | ⟨g, cap, cur, rfl, _⟩
  · exact ⟨none, 0, by rw [h0]⟩
  · exact ⟨_, cap, rfl⟩
theorem wp_genGS {P : Program} {c : Code} {Q : Exit → Act → World → Prop} {a : Act} {W : World} (F : World → Prop) (hF : F W) (h : ∀ W0, F W0 → c.wp P Q a W0) : c.wp P Q a W := h W hF
theorem put3s2 {w : World} {b : Nat} {a0 a1 a2 : Value} {T : TypeId} {fz : Nat × Nat} (h : w.heap[b]? = some (.cells #[a0, a1, a2] T fz)) (u : Value) : (w.setCell ⟨b, 2, none⟩ u).heap[b]? = some (.cells #[a0, a1, u] T fz) := by
  replace h := putS (i := 2) h u
  simpa only [List.setIfInBounds_toArray, List.set_cons_succ, List.set_cons_zero] using h
theorem InS.putCe3 {cs : Array Value} {M : List Ce} {x : Ce} {T : List Ce} {z : Int} (hM : M = x :: T) (hs : 9 ≤ cs.size) (h : ∀ (i : Nat) (y : Ce), M[i]? = some y → InS cs (i * 9) (valsCe y)) :
    ∀ (i : Nat) (y : Ce), ((⟨x.co, x.ro, x.mc, z, x.cw, x.ch, x.sk, x.px, x.py⟩ : Ce) :: T)[i]? = some y → InS (cs.setIfInBounds 3 (.int .i64 z)) (i * 9) (valsCe y) := by
  subst hM
  intro i y hy j u hu
  have hj : j < 9 := by have := (List.getElem?_eq_some_iff.1 hu).1; simpa [valsCe] using this
  rw [Array.getElem?_setIfInBounds]
  rcases i with _ | i
  · simp only [List.getElem?_cons_zero, Option.some.injEq] at hy
    subst hy
    have h0 := h 0 x rfl j
    rcases j with _ | _ | _ | _ | _ | _ | _ | _ | _ | j
    · rw [if_neg (by omega)]; exact h0 u (by simpa [valsCe] using hu)
    · rw [if_neg (by omega)]; exact h0 u (by simpa [valsCe] using hu)
    · rw [if_neg (by omega)]; exact h0 u (by simpa [valsCe] using hu)
    · rw [if_pos (by omega), if_pos (by omega)]; simpa [valsCe] using hu
    · rw [if_neg (by omega)]; exact h0 u (by simpa [valsCe] using hu)
    · rw [if_neg (by omega)]; exact h0 u (by simpa [valsCe] using hu)
    · rw [if_neg (by omega)]; exact h0 u (by simpa [valsCe] using hu)
    · rw [if_neg (by omega)]; exact h0 u (by simpa [valsCe] using hu)
    · rw [if_neg (by omega)]; exact h0 u (by simpa [valsCe] using hu)
    · omega
  · rw [if_neg (by omega)]
    exact h (i + 1) y (by simpa using hy) j u hu
theorem InS.putCe6 {cs : Array Value} {M : List Ce} {x : Ce} {T : List Ce} {z : Int} (hM : M = x :: T) (hs : 9 ≤ cs.size) (h : ∀ (i : Nat) (y : Ce), M[i]? = some y → InS cs (i * 9) (valsCe y)) :
    ∀ (i : Nat) (y : Ce), ((⟨x.co, x.ro, x.mc, x.mr, x.cw, x.ch, z, x.px, x.py⟩ : Ce) :: T)[i]? = some y → InS (cs.setIfInBounds 6 (.int .i64 z)) (i * 9) (valsCe y) := by
  subst hM
  intro i y hy j u hu
  have hj : j < 9 := by have := (List.getElem?_eq_some_iff.1 hu).1; simpa [valsCe] using this
  rw [Array.getElem?_setIfInBounds]
  rcases i with _ | i
  · simp only [List.getElem?_cons_zero, Option.some.injEq] at hy
    subst hy
    have h0 := h 0 x rfl j
    rcases j with _ | _ | _ | _ | _ | _ | _ | _ | _ | j
    · rw [if_neg (by omega)]; exact h0 u (by simpa [valsCe] using hu)
    · rw [if_neg (by omega)]; exact h0 u (by simpa [valsCe] using hu)
    · rw [if_neg (by omega)]; exact h0 u (by simpa [valsCe] using hu)
    · rw [if_neg (by omega)]; exact h0 u (by simpa [valsCe] using hu)
    · rw [if_neg (by omega)]; exact h0 u (by simpa [valsCe] using hu)
    · rw [if_neg (by omega)]; exact h0 u (by simpa [valsCe] using hu)
    · rw [if_pos (by omega), if_pos (by omega)]; simpa [valsCe] using hu
    · rw [if_neg (by omega)]; exact h0 u (by simpa [valsCe] using hu)
    · rw [if_neg (by omega)]; exact h0 u (by simpa [valsCe] using hu)
    · omega
  · rw [if_neg (by omega)]
    exact h (i + 1) y (by simpa using hy) j u hu
theorem LnV.chgS {S : List Nat} {w w' : World} {A : Option Addr} {L : List Ln} (h : LnV w A L) (hc : Chg S w w') (hne : ∀ a, A = some a → a.block ∉ S) : LnV w' A L :=
  ⟨fun h0 => let ⟨b, off, e, hl, hp⟩ := h.cells h0; ⟨b, off, e, Nat.lt_of_lt_of_le hl hc.size, fun i x hx => by
    have k : ∀ j, w'.cell? ⟨b, j, none⟩ = w.cell? ⟨b, j, none⟩ := fun j => hc.cell (p := ⟨b, j, none⟩) hl (by simpa using hne _ e)
    have := hp i x hx
    exact ⟨(k _).trans this.1, (k _).trans this.2⟩⟩⟩
theorem CeV.chgS {S : List Nat} {w w' : World} {A : Option Addr} {L : List Ce} (h : CeV w A L) (hc : Chg S w w') (hne : ∀ a, A = some a → a.block ∉ S) : CeV w' A L :=
  ⟨fun h0 => let ⟨b, off, e, hl, hp⟩ := h.cells h0; ⟨b, off, e, Nat.lt_of_lt_of_le hl hc.size, fun i x hx => by
    have k : ∀ j, w'.cell? ⟨b, j, none⟩ = w.cell? ⟨b, j, none⟩ := fun j => hc.cell (p := ⟨b, j, none⟩) hl (by simpa using hne _ e)
    have := hp i x hx
    exact ⟨(k _).trans this.1, (k _).trans this.2.1, (k _).trans this.2.2.1, (k _).trans this.2.2.2.1, (k _).trans this.2.2.2.2.1, (k _).trans this.2.2.2.2.2.1, (k _).trans this.2.2.2.2.2.2.1, (k _).trans this.2.2.2.2.2.2.2.1, (k _).trans this.2.2.2.2.2.2.2.2⟩⟩⟩
theorem put3s0 {w : World} {b : Nat} {a0 a1 a2 : Value} {T : TypeId} {fz : Nat × Nat} (h : w.heap[b]? = some (.cells #[a0, a1, a2] T fz)) (u : Value) : (w.setCell ⟨b, 0, none⟩ u).heap[b]? = some (.cells #[u, a1, a2] T fz) := by
  replace h := putS (i := 0) h u
  simpa only [List.setIfInBounds_toArray, List.set_cons_zero] using h
theorem put3s1 {w : World} {b : Nat} {a0 a1 a2 : Value} {T : TypeId} {fz : Nat × Nat} (h : w.heap[b]? = some (.cells #[a0, a1, a2] T fz)) (u : Value) : (w.setCell ⟨b, 1, none⟩ u).heap[b]? = some (.cells #[a0, u, a2] T fz) := by
  replace h := putS (i := 1) h u
  simpa only [List.setIfInBounds_toArray, List.set_cons_succ, List.set_cons_zero] using h
theorem bp_genGS {P : Program} {f : Func} {R : Ending → World → Prop} {e : Exit} {a : Act} {W : World} (F : World → Prop) (hF : F W) (h : ∀ W0, F W0 → bodyPost P f R e a W0) : bodyPost P f R e a W := h W hF
theorem _root_.Go.World.ownsRow.drewW {w : World} {base : Nat} {e : TypeId} {size : Nat} {v : Value} {n : Nat} {xs : List Value} (h : w.ownsRow base e size v n xs) : w.drew.ownsRow base e size v n xs := h
set_option maxRecDepth 100000 in
theorem someGrid_any {B rb : Nat} {A : Option Addr} {l c m : Nat} (w : World) (h : Rd B rb A l c m w) (hm : m ≤ 500000) :
    Calls Try.prog 57 #[.pointer (some ⟨rb, 0, none⟩)] w fun e w' => (∃ (A1 : Option Addr) (c1 : Nat) (L1 : List Ln) (A2 : Option Addr) (c2 : Nat) (L2 : List Ln) (A3 : Option Addr) (c3 : Nat) (L3 : List Ce), e = .returned (.agg #[.slice A1 L1.length c1, .slice A2 L2.length c2, .slice A3 L3.length c3]) ∧ LnO w.heap.size w' (.slice A1 L1.length c1) L1 ∧ LnO w.heap.size w' (.slice A2 L2.length c2) L2 ∧ CeO w.heap.size w' (.slice A3 L3.length c3) L3 ∧ L1.length ≤ 5 ∧ L2.length ≤ 5 ∧ L3.length ≤ 8) ∧ Rd B rb A l c (m + 8000) w' ∧ Chg [rb] w w' := by
  obtain ⟨ti, tz, ti1, ti2, ti3, ti4, ti5⟩ := ce_infoG
  have hlt := h.lt
  have hBrb := h.base
  go_enter Try.func57, Try.ntmps57
  go_upto_region 1 with (fail)
  refine wp_genGS (fun W => W.heap[w.heap.size]? = some (.cells #[.slice none 0 0, .slice none 0 0, .slice none 0 0] 45 (0, 0)) ∧ Rd B rb A l c m W ∧ Chg [rb] w W ∧ w.heap.size < W.heap.size) ⟨newS _ _, h.alloc _, (Chg.refl _ _).alloc _, by simp⟩ (fun W0 h0 => ?_)
  obtain ⟨hz, hr0, hc0, hs0⟩ := h0
  have HZ := Lib.hid hz
  have HC := Lib.hid hc0
  have hlt0 := hr0.lt
  clear hz hc0
  go_wp2_with fail
  with_reducible refine (goodLines_any W0 hr0 (by omega)).mono ?_
  rintro e w1 ⟨⟨v1, L1, rfl, ho1, hl1, hl15⟩, hr1, hc1⟩
  obtain ⟨A1, c1, rfl, hcap1, hv1, hbl1⟩ := LnO.of ho1
  replace HZ := Lib.hid ((hc1.block _ hs0 (by simp; omega)).trans HZ.out)
  replace HC := Lib.hid (HC.out.trans hc1)
  have hs1 := hc1.size
  have HV1 := Lib.hid hv1
  clear hr0 hc1 ho1 hv1
  go_wp2_with fail
  with_reducible refine (goodLines_any w1 hr1 (by omega)).mono ?_
  rintro e w2 ⟨⟨v2, L2, rfl, ho2, hl2, hl25⟩, hr2, hc2⟩
  obtain ⟨A2, c2, rfl, hcap2, hv2, hbl2⟩ := LnO.of ho2
  replace HZ := Lib.hid ((hc2.block _ (by omega) (by simp; omega)).trans HZ.out)
  replace HC := Lib.hid (HC.out.trans hc2)
  have hs2 := hc2.size
  replace HV1 := Lib.hid (HV1.out.chgG hc2 (fun a ha => by have := hbl1 a ha; omega))
  have HV2 := Lib.hid hv2
  have HR := Lib.hid hr2
  clear hr1 hr2 hc2 ho2 hv2
  have hbd1 : ∀ a : Addr, A1 = some a → a.block < w2.heap.size := fun a ha => by obtain ⟨b, off, e, hb, _⟩ := HV1.out.cells (by omega); rw [ha] at e; cases e; exact hb
  have hbd2 : ∀ a : Addr, A2 = some a → a.block < w2.heap.size := fun a ha => by obtain ⟨b, off, e, hb, _⟩ := HV2.out.cells (by omega); rw [ha] at e; cases e; exact hb
  go_upto_region 2 with (fail)
  refine wp_genGS (fun W => W.heap[w2.heap.size]? = some (.cells #[.slice A1 L1.length c1, .slice A2 L2.length c2, .slice none 0 0] 45 (0, 0)) ∧ W.heap[w.heap.size]? = some (.cells #[.slice none 0 0, .slice none 0 0, .slice none 0 0] 45 (0, 0)) ∧ LnV W A1 L1 ∧ LnV W A2 L2 ∧ Rd B rb A l c (m + 20 + 20) W ∧ Chg [rb] w W ∧ w2.heap.size < W.heap.size) ⟨newS _ _, (Below.heap_alloc _ _ _ (ltS HZ.out)).trans HZ.out, HV1.out.keep (balloc (Below.refl _ _)), HV2.out.keep (balloc (Below.refl _ _)), HR.out.alloc _, HC.out.alloc _, by simp⟩ (fun W1 h1 => ?_)
  clear HZ HC HV1 HV2 HR
  obtain ⟨hx, hz, hv1, hv2, hr, hc, hb2⟩ := h1
  obtain ⟨bg, hbg⟩ : ∃ b, w2.heap.size = b := ⟨_, rfl⟩
  rw [hbg] at hx hb2
  rw [hbg]
  have hbgr : bg ≠ rb := by omega
  have hbg0 : w.heap.size < bg := by omega
  have hn1 : ∀ a : Addr, A1 = some a → a.block ≠ rb := fun a ha => by have := hbl1 a ha; omega
  have hn2 : ∀ a : Addr, A2 = some a → a.block ≠ rb := fun a ha => by have := hbl2 a ha; omega
  go_wp2_with fail
  with_reducible refine (one_lit_in 0 8 _ hr (by omega) (by simp) (by omega) (by omega) (by simp [isIn])).mono ?_
  rintro e W2 ⟨⟨z, rfl, za, zb⟩, hr3, hc3⟩
  obtain ⟨n, rfl⟩ := Int.eq_ofNat_of_zero_le za
  have hs3 := hc3.size
  have HX := Lib.hid ((hc3.block _ hb2 (by simp; omega)).trans hx)
  have HZ := Lib.hid ((hc3.block _ (by omega) (by simp; omega)).trans hz)
  have HV1 := Lib.hid (hv1.chgG hc3 hn1)
  have HV2 := Lib.hid (hv2.chgG hc3 hn2)
  have HC := Lib.hid (hc.trans hc3)
  have HR := Lib.hid hr3
  have hbW2 : bg < W2.heap.size := by omega
  have hbB1 : ∀ a : Addr, A1 = some a → a.block < bg := fun a ha => by have := hbd1 a ha; omega
  have hbB2 : ∀ a : Addr, A2 = some a → a.block < bg := fun a ha => by have := hbd2 a ha; omega
  have hbL1 : ∀ a : Addr, A1 = some a → a.block ≠ bg := fun a ha => by have := hbd1 a ha; omega
  have hbL2 : ∀ a : Addr, A2 = some a → a.block ≠ bg := fun a ha => by have := hbd2 a ha; omega
  clear hx hz hv1 hv2 hr hc hr3 hc3 hbg
  go_wp2_with fail
  go_loopw [4] (fun i wr => ∃ k : Nat, i = .int .i64 k ∧ ∃ (C : List Ce) (u : Value), k + C.length ≤ 8 ∧ wr.heap[bg]? = some (.cells #[.slice A1 L1.length c1, .slice A2 L2.length c2, u] 45 (0, 0)) ∧ wr.ownsRow W2.heap.size 52 9 u C.length (cevals C) ∧ Rd B rb A l c (m + 50 + 600 * C.length) wr ∧ Chg [rb, bg] W2 wr) (fun i _ => (intOf i).toNat)
  case atStart => exact ⟨n, rfl, [], .slice none 0 0, by simp; omega, HX.out, World.ownsRow_nil _ _ _ _, HR.out.mono (by first | (simp; done) | (simp; omega)), Chg.refl _ _⟩
  case round =>
    obtain ⟨k, rfl, C, u, hk, hx, ho, hr, hcw⟩ := hrel
    rcases k with _ | k
    · skip
      have hd : decide (((0 : Nat) : Int) > 0) = false := by simp
      clear HX
      obtain ⟨A3, c3, rfl, hcap3, hv3, hbl3⟩ := CeO.of ho
      have HX := Lib.hid hx
      have hbl : bg < wr.heap.size := ltS hx
      have hn3 : ∀ a : Addr, A3 = some a → a.block ≠ rb := fun a ha => by have := hbl3 a ha; omega
      have HV3 := Lib.hid hv3
      replace HV1 := Lib.hid (HV1.out.chgS hcw (fun a ha => by have := hbl1 a ha; have := hbL1 a ha; simp; omega))
      replace HV2 := Lib.hid (HV2.out.chgS hcw (fun a ha => by have := hbl2 a ha; have := hbL2 a ha; simp; omega))
      replace HZ := Lib.hid ((hcw.block _ (ltS HZ.out) (by simp; omega)).trans HZ.out)
      replace HC := Lib.hid (HC.out.more hcw (by simp; omega))
      have hsW := hcw.size
      have hC8 : C.length ≤ 8 := by omega
      clear HR
      have HOO := Lib.hid ho
      obtain ⟨M0, hM0, hMb⟩ : ∃ M, m + 50 + 600 * C.length = M ∧ M ≤ m + 5000 := ⟨_, rfl, by omega⟩
      rw [hM0] at hr
      clear hx ho hv3 hcw hM0
      go_wp2_with fail
      with_reducible refine (pick_any 24 _ hr (by omega)).mono ?_
      rintro e W9 ⟨⟨v, rfl, -⟩, hr9, hc9⟩
      have hs9 := hc9.size
      replace HX := Lib.hid ((hc9.block _ hbl (by simpa using hbgr)).trans HX.out)
      replace HZ := Lib.hid ((hc9.block _ (ltS HZ.out) (by simp; omega)).trans HZ.out)
      replace HC := Lib.hid (HC.out.trans hc9)
      replace HV1 := Lib.hid (HV1.out.chgG hc9 hn1)
      replace HV2 := Lib.hid (HV2.out.chgG hc9 hn2)
      replace HV3 := Lib.hid (HV3.out.chgG hc9 hn3)
      replace HOO := Lib.hid (own_chgN HOO.out hc9 (by omega))
      have HR := Lib.hid hr9
      clear hr hr9 hc9
      by_cases hv0 : v = 0
      · subst hv0
        go_wp2_with fail
        with_reducible refine (someLines_any _ HR.out (by omega)).mono ?_
        rintro e W10 ⟨⟨v', L4, rfl, hL4, hl45⟩, hr10, hc10⟩
        obtain ⟨A4, c4, rfl, hcap4, hv4, hbl4⟩ := hL4
        have hs10 := hc10.size
        have hx10 := (hc10.block _ (ltS HX.out) (by simpa using hbgr)).trans HX.out
        have d0 := cellS hx10 0
        have f0 := frozenS hx10 0
        have HX10 := Lib.hid (put3s0 hx10 (.slice A4 L4.length c4))
        have HZ10 := Lib.hid ((Below.heap_setCell W10 ⟨bg, 0, none⟩ (.slice A4 L4.length c4) w.heap.size (by simp; omega)).trans ((hc10.block _ (ltS HZ.out) (by simp; omega)).trans HZ.out))
        have HC10 := Lib.hid ((HC.out.trans hc10).setCell (p := ⟨bg, 0, none⟩) (.inr (by simp; omega)) (.slice A4 L4.length c4))
        have HR10 := Lib.hid (hr10.setCell (p := ⟨bg, 0, none⟩) (by simp; omega) (by simpa using hbgr) (.slice A4 L4.length c4))
        have hcb := (Chg.refl [bg] W10).setCell (p := ⟨bg, 0, none⟩) (.inl (by simp)) (.slice A4 L4.length c4)
        have HV4 := Lib.hid (hv4.chgS hcb (fun a ha => by have := hbl4 a ha; simp; omega))
        have HV20 := Lib.hid ((HV2.out.chgG hc10 hn2).chgS hcb (fun a ha => by have := hbL2 a ha; simp; omega))
        have HV30 := Lib.hid ((HV3.out.chgG hc10 hn3).chgS hcb (fun a ha => by have := hbl3 a ha; simp; omega))
        clear HX HZ HC HR HV1 HV2 HV3 HOO hv4 hcb hr10 hc10 hx10
        go_upto_region 15 with (fail)
        refine wp_genGS (fun W => W.heap[bg]? = some (.cells #[.slice A4 L4.length c4, .slice A2 L2.length c2, .slice A3 C.length c3] 45 (0, 0)) ∧ W.heap[w.heap.size]? = some (.cells #[.slice none 0 0, .slice none 0 0, .slice none 0 0] 45 (0, 0)) ∧ LnV W A4 L4 ∧ LnV W A2 L2 ∧ CeV W A3 C ∧ Rd B rb A l c (M0 + 1 + 30) W ∧ Chg [rb] w W) ⟨HX10.out, HZ10.out, HV4.out, HV20.out, HV30.out, HR10.out, HC10.out⟩ (fun WZ hZ => ?_)
        clear HX10 HZ10 HV4 HV20 HV30 HR10 HC10 d0 f0
        obtain ⟨hx, hz, hw1, hw2, hw3, hr, hc⟩ := hZ
        have HX := Lib.hid hx
        have HZ := Lib.hid hz
        have HR := Lib.hid hr
        have HC := Lib.hid hc
        clear hx hz hr hc
        have y0 := cellS HX.out 0
        have y1 := cellS HX.out 1
        have y2 := cellS HX.out 2
        have u0' := cellS HZ.out 0
        have u1' := cellS HZ.out 1
        have u2' := cellS HZ.out 2
        have g0' := frozenS HZ.out 0
        have g1' := frozenS HZ.out 1
        have g2' := frozenS HZ.out 2
        have hzl := ltS HZ.out
        have E1 := Lib.hid (put3s2 (put3s1 (put3s0 HZ.out (.slice A4 L4.length c4)) (.slice A2 L2.length c2)) (.slice A3 C.length c3))
        go_wp2
        refine bp_genGS (fun W => W.heap[w.heap.size]? = some (.cells #[.slice A4 L4.length c4, .slice A2 L2.length c2, .slice A3 C.length c3] 45 (0, 0)) ∧ Rd B rb A l c (m + 8000) W ∧ Chg [rb] w W ∧ Chg [w.heap.size] WZ W) ⟨E1.out, ((((HR.out.mono (by omega)).setCell (p := ⟨w.heap.size, 0, none⟩) (by simp; omega) (by simp; omega) _).setCell (p := ⟨w.heap.size, 1, none⟩) (by simp; omega) (by simp; omega) _).setCell (p := ⟨w.heap.size, 2, none⟩) (by simp; omega) (by simp; omega) _), (((HC.out.setCell (p := ⟨w.heap.size, 0, none⟩) (.inr (by simp)) _).setCell (p := ⟨w.heap.size, 1, none⟩) (.inr (by simp)) _).setCell (p := ⟨w.heap.size, 2, none⟩) (.inr (by simp)) _), ((((Chg.refl [w.heap.size] _).setCell (p := ⟨w.heap.size, 0, none⟩) (.inl (by simp)) _).setCell (p := ⟨w.heap.size, 1, none⟩) (.inl (by simp)) _).setCell (p := ⟨w.heap.size, 2, none⟩) (.inl (by simp)) _)⟩ ?_
        clear HX HZ HR HC E1 y0 y1 y2 u0' u1' u2' g0' g1' g2'
        rintro W ⟨hp, hrW, hcW, hcf⟩
        have q0 := cellS hp 0
        have q1 := cellS hp 1
        have q2 := cellS hp 2
        exact bodyPost_ret (v := .agg #[.slice A4 L4.length c4, .slice A2 L2.length c2, .slice A3 C.length c3]) (by simp only [results, Try.results57]; go_simp) rfl ⟨⟨A4, c4, L4, A2, c2, L2, A3, c3, C, rfl, ⟨A4, c4, rfl, hcap4, hw1.chgS hcf (fun a ha => by have := hbl4 a ha; simp; omega), fun a ha => by have := hbl4 a ha; omega⟩, ⟨A2, c2, rfl, hcap2, hw2.chgS hcf (fun a ha => by have := hbl2 a ha; simp; omega), fun a ha => by have := hbl2 a ha; omega⟩, ⟨A3, c3, rfl, hcap3, hw3.chgS hcf (fun a ha => by have := hbl3 a ha; simp; omega), fun a ha => by have := hbl3 a ha; omega⟩, hl45, hl25, hC8⟩, hrW, hcW⟩
      · have e0 : (v == 0) = false := by simpa using hv0
        by_cases hv1 : v = 1
        · subst hv1
          by_cases hCl : 0 < C.length
          · have hd2 : decide ((C.length : Int) > 0) = true := by simpa using hCl
            have hd2' : decide ((0 : Int) < (C.length : Int)) = true := by simpa using hCl
            rcases ce_inG HOO.out rfl with ⟨-, hC0⟩ | ⟨g, cap, cs, he, hgb, hcapg, hh, hs, hin⟩
            · rw [hC0] at hCl; simp at hCl
            cases he
            obtain ⟨x, T, hM⟩ : ∃ x T, C = x :: T := by cases C with | nil => simp at hCl | cons x T => exact ⟨x, T, rfl⟩
            have HM := Lib.hid hM
            have HT := Lib.hid (show C.length = T.length + 1 by rw [hM]; rfl)
            have hs9' : 9 ≤ cs.size := by rw [hs]; omega
            have HH := Lib.hid hh
            have HI := Lib.hid hin
            have hgl := ltS hh
            have hblW : bg < W9.heap.size := ltS HX.out
            have hrl9 := HR.out.lt
            have y2 := cellS HX.out 2
            clear hM hs hh hin
            go_upto_region 11 with (fail)
            clear y2
            refine wp_region_rgp (fun k => ((fun v _ => v = .pointer (some ⟨bg, 2, none⟩)) :: (fun v _ => v = .slice (some ⟨g, 0, none⟩) C.length c3) :: (fun v _ => v = .pointer (some ⟨rb, 0, none⟩)) :: (TL B [rb] 2) :: (fun v _ => ∃ z : Int, v = .int .i64 z) :: (fun v _ => v = .pointer (some ⟨g, 0, none⟩)) :: (fun v _ => v = .pointer (some ⟨g, 6, none⟩)) :: []).getD k (fun _ _ => True)) (Chg [rb]) (fun mm w => Rd B rb A l c (M0 + 1 + 5 * mm) w) 7 (by kernel_rfl) (by kernel_rfl) (by kernel_rfl) (fun a => Chg.refl _ a) (fun _ _ _ h k => h.trans k) ?hTs ?hI0 ?hops ?hfin
            case hops =>
              refine ⟨opOK_ds [(3, none)] (by kernel_rfl) rfl ?_, ?_⟩
              · intro mm act w' hm' hR hI h1
                have hk : ∀ v, act.eval (.const v) = v := fun _ => rfl
                have hf : ∀ f, act.eval (.func f) = .func (.func f) #[] #[] := fun _ => rfl
                generalize act.eval = ρ at *
                have hm : mm < 8 := hm'
                replace h1 : ρ (.tmp 3) = .pointer (some ⟨bg, 0, none⟩) := h1
                refine gx_gen2 (fun K hK => ?_)
                go_simp
                exact hK _ _ ⟨rfl, Chg.refl _ _, hI.mono (by omega)⟩
              refine ⟨opOK_ds [(43, some 0)] (by kernel_rfl) rfl ?_, ?_⟩
              · intro mm act w' hm' hR hI h1
                have hk : ∀ v, act.eval (.const v) = v := fun _ => rfl
                have hf : ∀ f, act.eval (.func f) = .func (.func f) #[] #[] := fun _ => rfl
                generalize act.eval = ρ at *
                have hm : mm < 8 := hm'
                replace h1 : ρ (.tmp 43) = .pointer (some ⟨bg, 2, none⟩) := h1
                refine gx_gen2 (fun K hK => ?_)
                have hb := (hR.block bg (by simpa using hblW) (by simp; omega)).trans HX.out
                have d2 := cellS hb 2
                go_simp
                exact hK _ _ ⟨rfl, Chg.refl _ _, hI.mono (by omega)⟩
              refine ⟨opOK_ds [(0, none)] (by kernel_rfl) rfl ?_, ?_⟩
              · intro mm act w' hm' hR hI h1
                have hk : ∀ v, act.eval (.const v) = v := fun _ => rfl
                have hf : ∀ f, act.eval (.func f) = .func (.func f) #[] #[] := fun _ => rfl
                generalize act.eval = ρ at *
                have hm : mm < 8 := hm'
                replace h1 : ρ (.tmp 0) = .pointer (some ⟨rb, 0, none⟩) := h1
                refine gx_gen2 (fun K hK => ?_)
                go_simp
                exact hK _ _ ⟨rfl, Chg.refl _ _, hI.mono (by omega)⟩
              refine ⟨opOK_ds [] (by kernel_rfl) rfl ?_, ?_⟩
              · intro mm act w' hm' hR hI 
                have hk : ∀ v, act.eval (.const v) = v := fun _ => rfl
                have hf : ∀ f, act.eval (.func f) = .func (.func f) #[] #[] := fun _ => rfl
                generalize act.eval = ρ at *
                have hm : mm < 8 := hm'
                refine gx_gen2 (fun K hK => ?_)
                have hrl := hI.lt
                go_simp
                exact hK _ _ ⟨TL.lit (by omega) (by simp; omega) (by simp) (by simp [isI]), (Chg.refl _ _).alloc _, (hI.alloc _).mono (by omega)⟩
              refine ⟨opOK_ds [(45, some 2), (46, some 3)] (by kernel_rfl) rfl ?_, ?_⟩
              · intro mm act w' hm' hR hI h1 h2
                have hk : ∀ v, act.eval (.const v) = v := fun _ => rfl
                have hf : ∀ f, act.eval (.func f) = .func (.func f) #[] #[] := fun _ => rfl
                generalize act.eval = ρ at *
                have hm : mm < 8 := hm'
                replace h1 : ρ (.tmp 45) = .pointer (some ⟨rb, 0, none⟩) := h1
                replace h2 : (TL B [rb] 2) (ρ (.tmp 46)) w' := h2
                refine gx_gen2 (fun K hK => ?_)
                go_simp
                with_reducible refine (one_any _ hI (by omega) h2 (by omega) (by omega)).mono ?_
                rintro e w1 ⟨⟨z, rfl⟩, hr, hc⟩
                exact ⟨_, rfl, hK _ _ ⟨⟨z, rfl⟩, hc, hr.mono (by omega)⟩⟩
              refine ⟨opOK_ds [(44, some 1)] (by kernel_rfl) rfl ?_, ?_⟩
              · intro mm act w' hm' hR hI h1
                have hk : ∀ v, act.eval (.const v) = v := fun _ => rfl
                have hf : ∀ f, act.eval (.func f) = .func (.func f) #[] #[] := fun _ => rfl
                generalize act.eval = ρ at *
                have hm : mm < 8 := hm'
                replace h1 : ρ (.tmp 44) = .slice (some ⟨g, 0, none⟩) C.length c3 := h1
                refine gx_gen2 (fun K hK => ?_)
                go_simp
                exact hK _ _ ⟨rfl, Chg.refl _ _, hI.mono (by omega)⟩
              refine ⟨opOK_ds [(48, some 5)] (by kernel_rfl) rfl ?_, ?_⟩
              · intro mm act w' hm' hR hI h1
                have hk : ∀ v, act.eval (.const v) = v := fun _ => rfl
                have hf : ∀ f, act.eval (.func f) = .func (.func f) #[] #[] := fun _ => rfl
                generalize act.eval = ρ at *
                have hm : mm < 8 := hm'
                replace h1 : ρ (.tmp 48) = .pointer (some ⟨g, 0, none⟩) := h1
                refine gx_gen2 (fun K hK => ?_)
                go_simp
                exact hK _ _ ⟨rfl, Chg.refl _ _, hI.mono (by omega)⟩
              exact trivial
            case hTs =>
              intro k v x y hv hc
              exact stab_list (by
                intro T hT
                simp only [List.mem_cons, List.not_mem_nil, or_false] at hT
                rcases hT with rfl | rfl | rfl | rfl | rfl | rfl | rfl <;> first | exact fun v a b h _ => h | exact stab10 _ _ (by omega) | exact fun v a b h hc => TL.keep h hc)
                k v x y hv hc
            case hI0 => exact (HR.out.drew).mono (by omega)
            case hfin =>
              intro w6 hR6 hI6
              intro v43 t43 v44 t44 v45 t45 v46 t46 v47 t47 v48 t48 v49 t49
              obtain ⟨z, rfl⟩ : ∃ z : Int, v47 = .int .i64 z := t47
              simp only [List.take, finP, Act.put, List.setIfInBounds_toArray, List.set_cons_succ, List.set_cons_zero]
              have hg6 := (hR6.block g (by simpa using hgl) (by simp; omega)).trans HH.out
              have hx6 := (hR6.block bg (by simpa using hblW) (by simp; omega)).trans HX.out
              have hz6 := (hR6.block w.heap.size (by simpa using ltS HZ.out) (by simp; omega)).trans HZ.out
              have hs6 : W9.heap.size ≤ w6.heap.size := hR6.size
              obtain ⟨yy, dd⟩ := thereS hg6 (i := 6) (by omega)
              have ff := frozenS hg6 6
              have hcb := (Chg.refl [g] w6).setCell (p := ⟨g, 6, none⟩) (.inl (by simp)) (.int .i64 z)
              have hR6' : Chg [rb] W9 w6 := (Chg.drew (Chg.refl _ W9)).trans hR6
              have HX6 := Lib.hid ((hcb.block bg (ltS hx6) (by simp; omega)).trans hx6)
              have HZ6 := Lib.hid ((hcb.block w.heap.size (ltS hz6) (by simp; omega)).trans hz6)
              have HW1 := Lib.hid ((HV1.out.chgG hR6' hn1).chgS hcb (fun a ha => by have := hbB1 a ha; simp; omega))
              have HW2 := Lib.hid ((HV2.out.chgG hR6' hn2).chgS hcb (fun a ha => by have := hbB2 a ha; simp; omega))
              have HW3 := Lib.hid (CeV.inG (putS (i := 6) hg6 (.int .i64 z)) (InS.putCe6 (z := z) HM.out hs9' HI.out))
              have HR6 := Lib.hid (hI6.setCell (p := ⟨g, 6, none⟩) (by simp; omega) (by simp; omega) (.int .i64 z))
              have HC6 := Lib.hid ((HC.out.trans hR6').setCell (p := ⟨g, 6, none⟩) (.inr (by simp; omega)) (.int .i64 z))
              clear hg6 hx6 hz6 hcb hR6' hI6 hR6 HX HZ HR HC HV1 HV2 HV3 HOO HH HI
              subst t43 t44 t45 t48 t49
              refine wpAny_one (f := 0) (i := 7) (by kernel_rfl) rfl rfl ?_
              go_simp
              refine wpAny_end (by kernel_rfl) ?_
              go_upto_region 15 with (fail)
              refine wp_genGS (fun W => W.heap[bg]? = some (.cells #[.slice A1 L1.length c1, .slice A2 L2.length c2, .slice (some ⟨g, 0, none⟩) C.length c3] 45 (0, 0)) ∧ W.heap[w.heap.size]? = some (.cells #[.slice none 0 0, .slice none 0 0, .slice none 0 0] 45 (0, 0)) ∧ LnV W A1 L1 ∧ LnV W A2 L2 ∧ CeV W (some ⟨g, 0, none⟩) (⟨x.co, x.ro, x.mc, x.mr, x.cw, x.ch, z, x.px, x.py⟩ :: T) ∧ Rd B rb A l c (M0 + 1 + 5 * 7) W ∧ Chg [rb] w W) ⟨HX6.out, HZ6.out, HW1.out, HW2.out, HW3.out, HR6.out, HC6.out⟩ (fun WZ hZ => ?_)
              clear HX6 HZ6 HW1 HW2 HW3 HR6 HC6 dd ff
              obtain ⟨hx, hz, hw1, hw2, hw3, hr, hc⟩ := hZ
              have HX := Lib.hid hx
              have HZ := Lib.hid hz
              have HR := Lib.hid hr
              have HC := Lib.hid hc
              clear hx hz hr hc
              have y0 := cellS HX.out 0
              have y1 := cellS HX.out 1
              have y2 := cellS HX.out 2
              have u0' := cellS HZ.out 0
              have u1' := cellS HZ.out 1
              have u2' := cellS HZ.out 2
              have g0' := frozenS HZ.out 0
              have g1' := frozenS HZ.out 1
              have g2' := frozenS HZ.out 2
              have hzl := ltS HZ.out
              have E1 := Lib.hid (put3s2 (put3s1 (put3s0 HZ.out (.slice A1 L1.length c1)) (.slice A2 L2.length c2)) (.slice (some ⟨g, 0, none⟩) C.length c3))
              go_wp2
              refine bp_genGS (fun W => W.heap[w.heap.size]? = some (.cells #[.slice A1 L1.length c1, .slice A2 L2.length c2, .slice (some ⟨g, 0, none⟩) C.length c3] 45 (0, 0)) ∧ Rd B rb A l c (m + 8000) W ∧ Chg [rb] w W ∧ Chg [w.heap.size] WZ W) ⟨E1.out, ((((HR.out.mono (by omega)).setCell (p := ⟨w.heap.size, 0, none⟩) (by simp; omega) (by simp; omega) _).setCell (p := ⟨w.heap.size, 1, none⟩) (by simp; omega) (by simp; omega) _).setCell (p := ⟨w.heap.size, 2, none⟩) (by simp; omega) (by simp; omega) _), (((HC.out.setCell (p := ⟨w.heap.size, 0, none⟩) (.inr (by simp)) _).setCell (p := ⟨w.heap.size, 1, none⟩) (.inr (by simp)) _).setCell (p := ⟨w.heap.size, 2, none⟩) (.inr (by simp)) _), ((((Chg.refl [w.heap.size] _).setCell (p := ⟨w.heap.size, 0, none⟩) (.inl (by simp)) _).setCell (p := ⟨w.heap.size, 1, none⟩) (.inl (by simp)) _).setCell (p := ⟨w.heap.size, 2, none⟩) (.inl (by simp)) _)⟩ ?_
              clear HX HZ HR HC E1 y0 y1 y2 u0' u1' u2' g0' g1' g2'
              rintro W ⟨hp, hrW, hcW, hcf⟩
              have q0 := cellS hp 0
              have q1 := cellS hp 1
              have q2 := cellS hp 2
              exact bodyPost_ret (v := .agg #[.slice A1 L1.length c1, .slice A2 L2.length c2, .slice (some ⟨g, 0, none⟩) C.length c3]) (by simp only [results, Try.results57]; go_simp) rfl ⟨⟨A1, c1, L1, A2, c2, L2, some ⟨g, 0, none⟩, c3, ⟨x.co, x.ro, x.mc, x.mr, x.cw, x.ch, z, x.px, x.py⟩ :: T, (by simp only [List.length_cons, HT.out]), ⟨A1, c1, rfl, hcap1, hw1.chgS hcf (fun a ha => by have := hbl1 a ha; simp; omega), fun a ha => by have := hbl1 a ha; omega⟩, ⟨A2, c2, rfl, hcap2, hw2.chgS hcf (fun a ha => by have := hbl2 a ha; simp; omega), fun a ha => by have := hbl2 a ha; omega⟩, ⟨some ⟨g, 0, none⟩, c3, rfl, (by have := HT.out; simp only [List.length_cons]; omega), hw3.chgS hcf (fun a ha => by cases ha; simp; omega), fun a ha => by cases ha; simp; omega⟩, hl15, hl25, (by have := HT.out; simp only [List.length_cons]; omega)⟩, hrW, hcW⟩
          · have hd2 : decide ((C.length : Int) > 0) = false := decide_eq_false (by omega)
            have hd2' : decide ((0 : Int) < (C.length : Int)) = false := decide_eq_false (by omega)
            have y2 := cellS HX.out 2
            go_upto_region 15 with (fail)
            have y0 := cellS HX.out 0
            have y1 := cellS HX.out 1
            have y2 := cellS HX.out 2
            have u0' := cellS HZ.out 0
            have u1' := cellS HZ.out 1
            have u2' := cellS HZ.out 2
            have g0' := frozenS HZ.out 0
            have g1' := frozenS HZ.out 1
            have g2' := frozenS HZ.out 2
            have hzl := ltS HZ.out
            have E1 := Lib.hid (put3s2 (put3s1 (put3s0 HZ.out (.slice A1 L1.length c1)) (.slice A2 L2.length c2)) (.slice A3 C.length c3))
            go_wp2
            refine bp_genGS (fun W => W.heap[w.heap.size]? = some (.cells #[.slice A1 L1.length c1, .slice A2 L2.length c2, .slice A3 C.length c3] 45 (0, 0)) ∧ Rd B rb A l c (m + 8000) W ∧ Chg [rb] w W ∧ Chg [w.heap.size] W9 W) ⟨E1.out, ((((HR.out.mono (by omega)).setCell (p := ⟨w.heap.size, 0, none⟩) (by simp; omega) (by simp; omega) _).setCell (p := ⟨w.heap.size, 1, none⟩) (by simp; omega) (by simp; omega) _).setCell (p := ⟨w.heap.size, 2, none⟩) (by simp; omega) (by simp; omega) _), (((HC.out.setCell (p := ⟨w.heap.size, 0, none⟩) (.inr (by simp)) _).setCell (p := ⟨w.heap.size, 1, none⟩) (.inr (by simp)) _).setCell (p := ⟨w.heap.size, 2, none⟩) (.inr (by simp)) _), ((((Chg.refl [w.heap.size] _).setCell (p := ⟨w.heap.size, 0, none⟩) (.inl (by simp)) _).setCell (p := ⟨w.heap.size, 1, none⟩) (.inl (by simp)) _).setCell (p := ⟨w.heap.size, 2, none⟩) (.inl (by simp)) _)⟩ ?_
            clear HX HZ HR HC E1 y0 y1 y2 u0' u1' u2' g0' g1' g2'
            rintro W ⟨hp, hrW, hcW, hcf⟩
            have q0 := cellS hp 0
            have q1 := cellS hp 1
            have q2 := cellS hp 2
            exact bodyPost_ret (v := .agg #[.slice A1 L1.length c1, .slice A2 L2.length c2, .slice A3 C.length c3]) (by simp only [results, Try.results57]; go_simp) rfl ⟨⟨A1, c1, L1, A2, c2, L2, A3, c3, C, rfl, ⟨A1, c1, rfl, hcap1, HV1.out.chgS hcf (fun a ha => by have := hbl1 a ha; simp; omega), fun a ha => by have := hbl1 a ha; omega⟩, ⟨A2, c2, rfl, hcap2, HV2.out.chgS hcf (fun a ha => by have := hbl2 a ha; simp; omega), fun a ha => by have := hbl2 a ha; omega⟩, ⟨A3, c3, rfl, hcap3, HV3.out.chgS hcf (fun a ha => by have := hbl3 a ha; simp; omega), fun a ha => by have := hbl3 a ha; omega⟩, hl15, hl25, hC8⟩, hrW, hcW⟩
        · have e1 : (v == 1) = false := by simpa using hv1
          by_cases hv2 : v = 2
          · subst hv2
            by_cases hCl : 0 < C.length
            · have hd2 : decide ((C.length : Int) > 0) = true := by simpa using hCl
              have hd2' : decide ((0 : Int) < (C.length : Int)) = true := by simpa using hCl
              rcases ce_inG HOO.out rfl with ⟨-, hC0⟩ | ⟨g, cap, cs, he, hgb, hcapg, hh, hs, hin⟩
              · rw [hC0] at hCl; simp at hCl
              cases he
              obtain ⟨x, T, hM⟩ : ∃ x T, C = x :: T := by cases C with | nil => simp at hCl | cons x T => exact ⟨x, T, rfl⟩
              have HM := Lib.hid hM
              have HT := Lib.hid (show C.length = T.length + 1 by rw [hM]; rfl)
              have hs9' : 9 ≤ cs.size := by rw [hs]; omega
              have HH := Lib.hid hh
              have HI := Lib.hid hin
              have hgl := ltS hh
              have hblW : bg < W9.heap.size := ltS HX.out
              have hrl9 := HR.out.lt
              have y2 := cellS HX.out 2
              clear hM hs hh hin
              go_upto_region 14 with (fail)
              clear y2
              refine wp_region_rgp (fun k => ((fun v _ => v = .pointer (some ⟨bg, 2, none⟩)) :: (fun v _ => v = .slice (some ⟨g, 0, none⟩) C.length c3) :: (fun v _ => v = .pointer (some ⟨rb, 0, none⟩)) :: (TL B [rb] 2) :: (fun v _ => ∃ z : Int, v = .int .i64 z) :: (fun v _ => v = .pointer (some ⟨g, 0, none⟩)) :: (fun v _ => v = .pointer (some ⟨g, 3, none⟩)) :: []).getD k (fun _ _ => True)) (Chg [rb]) (fun mm w => Rd B rb A l c (M0 + 1 + 5 * mm) w) 7 (by kernel_rfl) (by kernel_rfl) (by kernel_rfl) (fun a => Chg.refl _ a) (fun _ _ _ h k => h.trans k) ?hTs ?hI0 ?hops ?hfin
              case hops =>
                refine ⟨opOK_ds [(3, none)] (by kernel_rfl) rfl ?_, ?_⟩
                · intro mm act w' hm' hR hI h1
                  have hk : ∀ v, act.eval (.const v) = v := fun _ => rfl
                  have hf : ∀ f, act.eval (.func f) = .func (.func f) #[] #[] := fun _ => rfl
                  generalize act.eval = ρ at *
                  have hm : mm < 8 := hm'
                  replace h1 : ρ (.tmp 3) = .pointer (some ⟨bg, 0, none⟩) := h1
                  refine gx_gen2 (fun K hK => ?_)
                  go_simp
                  exact hK _ _ ⟨rfl, Chg.refl _ _, hI.mono (by omega)⟩
                refine ⟨opOK_ds [(56, some 0)] (by kernel_rfl) rfl ?_, ?_⟩
                · intro mm act w' hm' hR hI h1
                  have hk : ∀ v, act.eval (.const v) = v := fun _ => rfl
                  have hf : ∀ f, act.eval (.func f) = .func (.func f) #[] #[] := fun _ => rfl
                  generalize act.eval = ρ at *
                  have hm : mm < 8 := hm'
                  replace h1 : ρ (.tmp 56) = .pointer (some ⟨bg, 2, none⟩) := h1
                  refine gx_gen2 (fun K hK => ?_)
                  have hb := (hR.block bg (by simpa using hblW) (by simp; omega)).trans HX.out
                  have d2 := cellS hb 2
                  go_simp
                  exact hK _ _ ⟨rfl, Chg.refl _ _, hI.mono (by omega)⟩
                refine ⟨opOK_ds [(0, none)] (by kernel_rfl) rfl ?_, ?_⟩
                · intro mm act w' hm' hR hI h1
                  have hk : ∀ v, act.eval (.const v) = v := fun _ => rfl
                  have hf : ∀ f, act.eval (.func f) = .func (.func f) #[] #[] := fun _ => rfl
                  generalize act.eval = ρ at *
                  have hm : mm < 8 := hm'
                  replace h1 : ρ (.tmp 0) = .pointer (some ⟨rb, 0, none⟩) := h1
                  refine gx_gen2 (fun K hK => ?_)
                  go_simp
                  exact hK _ _ ⟨rfl, Chg.refl _ _, hI.mono (by omega)⟩
                refine ⟨opOK_ds [] (by kernel_rfl) rfl ?_, ?_⟩
                · intro mm act w' hm' hR hI 
                  have hk : ∀ v, act.eval (.const v) = v := fun _ => rfl
                  have hf : ∀ f, act.eval (.func f) = .func (.func f) #[] #[] := fun _ => rfl
                  generalize act.eval = ρ at *
                  have hm : mm < 8 := hm'
                  refine gx_gen2 (fun K hK => ?_)
                  have hrl := hI.lt
                  go_simp
                  exact hK _ _ ⟨TL.lit (by omega) (by simp; omega) (by simp) (by simp [isI]), (Chg.refl _ _).alloc _, (hI.alloc _).mono (by omega)⟩
                refine ⟨opOK_ds [(58, some 2), (59, some 3)] (by kernel_rfl) rfl ?_, ?_⟩
                · intro mm act w' hm' hR hI h1 h2
                  have hk : ∀ v, act.eval (.const v) = v := fun _ => rfl
                  have hf : ∀ f, act.eval (.func f) = .func (.func f) #[] #[] := fun _ => rfl
                  generalize act.eval = ρ at *
                  have hm : mm < 8 := hm'
                  replace h1 : ρ (.tmp 58) = .pointer (some ⟨rb, 0, none⟩) := h1
                  replace h2 : (TL B [rb] 2) (ρ (.tmp 59)) w' := h2
                  refine gx_gen2 (fun K hK => ?_)
                  go_simp
                  with_reducible refine (one_any _ hI (by omega) h2 (by omega) (by omega)).mono ?_
                  rintro e w1 ⟨⟨z, rfl⟩, hr, hc⟩
                  exact ⟨_, rfl, hK _ _ ⟨⟨z, rfl⟩, hc, hr.mono (by omega)⟩⟩
                refine ⟨opOK_ds [(57, some 1)] (by kernel_rfl) rfl ?_, ?_⟩
                · intro mm act w' hm' hR hI h1
                  have hk : ∀ v, act.eval (.const v) = v := fun _ => rfl
                  have hf : ∀ f, act.eval (.func f) = .func (.func f) #[] #[] := fun _ => rfl
                  generalize act.eval = ρ at *
                  have hm : mm < 8 := hm'
                  replace h1 : ρ (.tmp 57) = .slice (some ⟨g, 0, none⟩) C.length c3 := h1
                  refine gx_gen2 (fun K hK => ?_)
                  go_simp
                  exact hK _ _ ⟨rfl, Chg.refl _ _, hI.mono (by omega)⟩
                refine ⟨opOK_ds [(61, some 5)] (by kernel_rfl) rfl ?_, ?_⟩
                · intro mm act w' hm' hR hI h1
                  have hk : ∀ v, act.eval (.const v) = v := fun _ => rfl
                  have hf : ∀ f, act.eval (.func f) = .func (.func f) #[] #[] := fun _ => rfl
                  generalize act.eval = ρ at *
                  have hm : mm < 8 := hm'
                  replace h1 : ρ (.tmp 61) = .pointer (some ⟨g, 0, none⟩) := h1
                  refine gx_gen2 (fun K hK => ?_)
                  go_simp
                  exact hK _ _ ⟨rfl, Chg.refl _ _, hI.mono (by omega)⟩
                exact trivial
              case hTs =>
                intro k v x y hv hc
                exact stab_list (by
                  intro T hT
                  simp only [List.mem_cons, List.not_mem_nil, or_false] at hT
                  rcases hT with rfl | rfl | rfl | rfl | rfl | rfl | rfl <;> first | exact fun v a b h _ => h | exact stab10 _ _ (by omega) | exact fun v a b h hc => TL.keep h hc)
                  k v x y hv hc
              case hI0 => exact (HR.out.drew).mono (by omega)
              case hfin =>
                intro w6 hR6 hI6
                intro v56 t56 v57 t57 v58 t58 v59 t59 v60 t60 v61 t61 v62 t62
                obtain ⟨z, rfl⟩ : ∃ z : Int, v60 = .int .i64 z := t60
                simp only [List.take, finP, Act.put, List.setIfInBounds_toArray, List.set_cons_succ, List.set_cons_zero]
                have hg6 := (hR6.block g (by simpa using hgl) (by simp; omega)).trans HH.out
                have hx6 := (hR6.block bg (by simpa using hblW) (by simp; omega)).trans HX.out
                have hz6 := (hR6.block w.heap.size (by simpa using ltS HZ.out) (by simp; omega)).trans HZ.out
                have hs6 : W9.heap.size ≤ w6.heap.size := hR6.size
                obtain ⟨yy, dd⟩ := thereS hg6 (i := 3) (by omega)
                have ff := frozenS hg6 3
                have hcb := (Chg.refl [g] w6).setCell (p := ⟨g, 3, none⟩) (.inl (by simp)) (.int .i64 z)
                have hR6' : Chg [rb] W9 w6 := (Chg.drew (Chg.refl _ W9)).trans hR6
                have HX6 := Lib.hid ((hcb.block bg (ltS hx6) (by simp; omega)).trans hx6)
                have HZ6 := Lib.hid ((hcb.block w.heap.size (ltS hz6) (by simp; omega)).trans hz6)
                have HW1 := Lib.hid ((HV1.out.chgG hR6' hn1).chgS hcb (fun a ha => by have := hbB1 a ha; simp; omega))
                have HW2 := Lib.hid ((HV2.out.chgG hR6' hn2).chgS hcb (fun a ha => by have := hbB2 a ha; simp; omega))
                have HW3 := Lib.hid (CeV.inG (putS (i := 3) hg6 (.int .i64 z)) (InS.putCe3 (z := z) HM.out hs9' HI.out))
                have HR6 := Lib.hid (hI6.setCell (p := ⟨g, 3, none⟩) (by simp; omega) (by simp; omega) (.int .i64 z))
                have HC6 := Lib.hid ((HC.out.trans hR6').setCell (p := ⟨g, 3, none⟩) (.inr (by simp; omega)) (.int .i64 z))
                clear hg6 hx6 hz6 hcb hR6' hI6 hR6 HX HZ HR HC HV1 HV2 HV3 HOO HH HI
                subst t56 t57 t58 t61 t62
                refine wpAny_one (f := 0) (i := 7) (by kernel_rfl) rfl rfl ?_
                go_simp
                refine wpAny_end (by kernel_rfl) ?_
                go_upto_region 15 with (fail)
                refine wp_genGS (fun W => W.heap[bg]? = some (.cells #[.slice A1 L1.length c1, .slice A2 L2.length c2, .slice (some ⟨g, 0, none⟩) C.length c3] 45 (0, 0)) ∧ W.heap[w.heap.size]? = some (.cells #[.slice none 0 0, .slice none 0 0, .slice none 0 0] 45 (0, 0)) ∧ LnV W A1 L1 ∧ LnV W A2 L2 ∧ CeV W (some ⟨g, 0, none⟩) (⟨x.co, x.ro, x.mc, z, x.cw, x.ch, x.sk, x.px, x.py⟩ :: T) ∧ Rd B rb A l c (M0 + 1 + 5 * 7) W ∧ Chg [rb] w W) ⟨HX6.out, HZ6.out, HW1.out, HW2.out, HW3.out, HR6.out, HC6.out⟩ (fun WZ hZ => ?_)
                clear HX6 HZ6 HW1 HW2 HW3 HR6 HC6 dd ff
                obtain ⟨hx, hz, hw1, hw2, hw3, hr, hc⟩ := hZ
                have HX := Lib.hid hx
                have HZ := Lib.hid hz
                have HR := Lib.hid hr
                have HC := Lib.hid hc
                clear hx hz hr hc
                have y0 := cellS HX.out 0
                have y1 := cellS HX.out 1
                have y2 := cellS HX.out 2
                have u0' := cellS HZ.out 0
                have u1' := cellS HZ.out 1
                have u2' := cellS HZ.out 2
                have g0' := frozenS HZ.out 0
                have g1' := frozenS HZ.out 1
                have g2' := frozenS HZ.out 2
                have hzl := ltS HZ.out
                have E1 := Lib.hid (put3s2 (put3s1 (put3s0 HZ.out (.slice A1 L1.length c1)) (.slice A2 L2.length c2)) (.slice (some ⟨g, 0, none⟩) C.length c3))
                go_wp2
                refine bp_genGS (fun W => W.heap[w.heap.size]? = some (.cells #[.slice A1 L1.length c1, .slice A2 L2.length c2, .slice (some ⟨g, 0, none⟩) C.length c3] 45 (0, 0)) ∧ Rd B rb A l c (m + 8000) W ∧ Chg [rb] w W ∧ Chg [w.heap.size] WZ W) ⟨E1.out, ((((HR.out.mono (by omega)).setCell (p := ⟨w.heap.size, 0, none⟩) (by simp; omega) (by simp; omega) _).setCell (p := ⟨w.heap.size, 1, none⟩) (by simp; omega) (by simp; omega) _).setCell (p := ⟨w.heap.size, 2, none⟩) (by simp; omega) (by simp; omega) _), (((HC.out.setCell (p := ⟨w.heap.size, 0, none⟩) (.inr (by simp)) _).setCell (p := ⟨w.heap.size, 1, none⟩) (.inr (by simp)) _).setCell (p := ⟨w.heap.size, 2, none⟩) (.inr (by simp)) _), ((((Chg.refl [w.heap.size] _).setCell (p := ⟨w.heap.size, 0, none⟩) (.inl (by simp)) _).setCell (p := ⟨w.heap.size, 1, none⟩) (.inl (by simp)) _).setCell (p := ⟨w.heap.size, 2, none⟩) (.inl (by simp)) _)⟩ ?_
                clear HX HZ HR HC E1 y0 y1 y2 u0' u1' u2' g0' g1' g2'
                rintro W ⟨hp, hrW, hcW, hcf⟩
                have q0 := cellS hp 0
                have q1 := cellS hp 1
                have q2 := cellS hp 2
                exact bodyPost_ret (v := .agg #[.slice A1 L1.length c1, .slice A2 L2.length c2, .slice (some ⟨g, 0, none⟩) C.length c3]) (by simp only [results, Try.results57]; go_simp) rfl ⟨⟨A1, c1, L1, A2, c2, L2, some ⟨g, 0, none⟩, c3, ⟨x.co, x.ro, x.mc, z, x.cw, x.ch, x.sk, x.px, x.py⟩ :: T, (by simp only [List.length_cons, HT.out]), ⟨A1, c1, rfl, hcap1, hw1.chgS hcf (fun a ha => by have := hbl1 a ha; simp; omega), fun a ha => by have := hbl1 a ha; omega⟩, ⟨A2, c2, rfl, hcap2, hw2.chgS hcf (fun a ha => by have := hbl2 a ha; simp; omega), fun a ha => by have := hbl2 a ha; omega⟩, ⟨some ⟨g, 0, none⟩, c3, rfl, (by have := HT.out; simp only [List.length_cons]; omega), hw3.chgS hcf (fun a ha => by cases ha; simp; omega), fun a ha => by cases ha; simp; omega⟩, hl15, hl25, (by have := HT.out; simp only [List.length_cons]; omega)⟩, hrW, hcW⟩
            · have hd2 : decide ((C.length : Int) > 0) = false := decide_eq_false (by omega)
              have hd2' : decide ((0 : Int) < (C.length : Int)) = false := decide_eq_false (by omega)
              have y2 := cellS HX.out 2
              go_upto_region 15 with (fail)
              have y0 := cellS HX.out 0
              have y1 := cellS HX.out 1
              have y2 := cellS HX.out 2
              have u0' := cellS HZ.out 0
              have u1' := cellS HZ.out 1
              have u2' := cellS HZ.out 2
              have g0' := frozenS HZ.out 0
              have g1' := frozenS HZ.out 1
              have g2' := frozenS HZ.out 2
              have hzl := ltS HZ.out
              have E1 := Lib.hid (put3s2 (put3s1 (put3s0 HZ.out (.slice A1 L1.length c1)) (.slice A2 L2.length c2)) (.slice A3 C.length c3))
              go_wp2
              refine bp_genGS (fun W => W.heap[w.heap.size]? = some (.cells #[.slice A1 L1.length c1, .slice A2 L2.length c2, .slice A3 C.length c3] 45 (0, 0)) ∧ Rd B rb A l c (m + 8000) W ∧ Chg [rb] w W ∧ Chg [w.heap.size] W9 W) ⟨E1.out, ((((HR.out.mono (by omega)).setCell (p := ⟨w.heap.size, 0, none⟩) (by simp; omega) (by simp; omega) _).setCell (p := ⟨w.heap.size, 1, none⟩) (by simp; omega) (by simp; omega) _).setCell (p := ⟨w.heap.size, 2, none⟩) (by simp; omega) (by simp; omega) _), (((HC.out.setCell (p := ⟨w.heap.size, 0, none⟩) (.inr (by simp)) _).setCell (p := ⟨w.heap.size, 1, none⟩) (.inr (by simp)) _).setCell (p := ⟨w.heap.size, 2, none⟩) (.inr (by simp)) _), ((((Chg.refl [w.heap.size] _).setCell (p := ⟨w.heap.size, 0, none⟩) (.inl (by simp)) _).setCell (p := ⟨w.heap.size, 1, none⟩) (.inl (by simp)) _).setCell (p := ⟨w.heap.size, 2, none⟩) (.inl (by simp)) _)⟩ ?_
              clear HX HZ HR HC E1 y0 y1 y2 u0' u1' u2' g0' g1' g2'
              rintro W ⟨hp, hrW, hcW, hcf⟩
              have q0 := cellS hp 0
              have q1 := cellS hp 1
              have q2 := cellS hp 2
              exact bodyPost_ret (v := .agg #[.slice A1 L1.length c1, .slice A2 L2.length c2, .slice A3 C.length c3]) (by simp only [results, Try.results57]; go_simp) rfl ⟨⟨A1, c1, L1, A2, c2, L2, A3, c3, C, rfl, ⟨A1, c1, rfl, hcap1, HV1.out.chgS hcf (fun a ha => by have := hbl1 a ha; simp; omega), fun a ha => by have := hbl1 a ha; omega⟩, ⟨A2, c2, rfl, hcap2, HV2.out.chgS hcf (fun a ha => by have := hbl2 a ha; simp; omega), fun a ha => by have := hbl2 a ha; omega⟩, ⟨A3, c3, rfl, hcap3, HV3.out.chgS hcf (fun a ha => by have := hbl3 a ha; simp; omega), fun a ha => by have := hbl3 a ha; omega⟩, hl15, hl25, hC8⟩, hrW, hcW⟩
          · have e2 : (v == 2) = false := by simpa using hv2
            go_upto_region 15 with (fail)
            have y0 := cellS HX.out 0
            have y1 := cellS HX.out 1
            have y2 := cellS HX.out 2
            have u0' := cellS HZ.out 0
            have u1' := cellS HZ.out 1
            have u2' := cellS HZ.out 2
            have g0' := frozenS HZ.out 0
            have g1' := frozenS HZ.out 1
            have g2' := frozenS HZ.out 2
            have hzl := ltS HZ.out
            have E1 := Lib.hid (put3s2 (put3s1 (put3s0 HZ.out (.slice A1 L1.length c1)) (.slice A2 L2.length c2)) (.slice A3 C.length c3))
            go_wp2
            refine bp_genGS (fun W => W.heap[w.heap.size]? = some (.cells #[.slice A1 L1.length c1, .slice A2 L2.length c2, .slice A3 C.length c3] 45 (0, 0)) ∧ Rd B rb A l c (m + 8000) W ∧ Chg [rb] w W ∧ Chg [w.heap.size] W9 W) ⟨E1.out, ((((HR.out.mono (by omega)).setCell (p := ⟨w.heap.size, 0, none⟩) (by simp; omega) (by simp; omega) _).setCell (p := ⟨w.heap.size, 1, none⟩) (by simp; omega) (by simp; omega) _).setCell (p := ⟨w.heap.size, 2, none⟩) (by simp; omega) (by simp; omega) _), (((HC.out.setCell (p := ⟨w.heap.size, 0, none⟩) (.inr (by simp)) _).setCell (p := ⟨w.heap.size, 1, none⟩) (.inr (by simp)) _).setCell (p := ⟨w.heap.size, 2, none⟩) (.inr (by simp)) _), ((((Chg.refl [w.heap.size] _).setCell (p := ⟨w.heap.size, 0, none⟩) (.inl (by simp)) _).setCell (p := ⟨w.heap.size, 1, none⟩) (.inl (by simp)) _).setCell (p := ⟨w.heap.size, 2, none⟩) (.inl (by simp)) _)⟩ ?_
            clear HX HZ HR HC E1 y0 y1 y2 u0' u1' u2' g0' g1' g2'
            rintro W ⟨hp, hrW, hcW, hcf⟩
            have q0 := cellS hp 0
            have q1 := cellS hp 1
            have q2 := cellS hp 2
            exact bodyPost_ret (v := .agg #[.slice A1 L1.length c1, .slice A2 L2.length c2, .slice A3 C.length c3]) (by simp only [results, Try.results57]; go_simp) rfl ⟨⟨A1, c1, L1, A2, c2, L2, A3, c3, C, rfl, ⟨A1, c1, rfl, hcap1, HV1.out.chgS hcf (fun a ha => by have := hbl1 a ha; simp; omega), fun a ha => by have := hbl1 a ha; omega⟩, ⟨A2, c2, rfl, hcap2, HV2.out.chgS hcf (fun a ha => by have := hbl2 a ha; simp; omega), fun a ha => by have := hbl2 a ha; omega⟩, ⟨A3, c3, rfl, hcap3, HV3.out.chgS hcf (fun a ha => by have := hbl3 a ha; simp; omega), fun a ha => by have := hbl3 a ha; omega⟩, hl15, hl25, hC8⟩, hrW, hcW⟩
    · have hd : decide (((k + 1 : Nat) : Int) > 0) = true := by simp
      clear HX
      have HX := Lib.hid hx
      have HO := Lib.hid ho
      have HCW := Lib.hid hcw
      have hsW := hcw.size
      have hbl : bg < wr.heap.size := ltS hx
      have hrl := hr.lt
      obtain ⟨M0, hM0⟩ : ∃ M, m + 50 + 600 * C.length = M := ⟨_, rfl⟩
      rw [hM0] at hr
      clear HR
      have HR := Lib.hid hr
      clear hx ho hr hcw
      go_wp2_with fail
      refine wp_region_rgp (fun k => ((fun v _ => v = .pointer (some ⟨bg, 2, none⟩)) :: (fun v _ => v = u) :: (fun v _ => v = .pointer (some ⟨rb, 0, none⟩)) :: (fun v _ => v = .pointer (some ⟨bg, 0, none⟩)) :: (fun v _ => v = .slice A1 L1.length c1) :: (fun v _ => v = .int .i64 (L1.length : Int)) :: (fun v _ => v = .pointer (some ⟨bg, 1, none⟩)) :: (fun v _ => v = .slice A2 L2.length c2) :: (fun v _ => v = .int .i64 (L2.length : Int)) :: (fun v _ => ∃ p : Ce, v = .agg #[.int .i64 p.co, .int .i64 p.ro, .int .i64 p.mc, .int .i64 p.mr, .int .i64 p.cw, .int .i64 p.ch, .int .i64 p.sk, .int .i64 p.px, .int .i64 p.py]) :: (OneC wr.heap.size) :: []).getD k (fun _ _ => True)) (Chg [rb]) (fun mm w => Rd B rb A l c (M0 + 40 * mm) w) 11 (by kernel_rfl) (by kernel_rfl) (by kernel_rfl) (fun a => Chg.refl _ a) (fun _ _ _ h k => h.trans k) ?hTs ?hI0 ?hops ?hfin
      case hops =>
        refine ⟨opOK_ds [(3, none)] (by kernel_rfl) rfl ?_, ?_⟩
        · intro mm act w' hm' hR hI h1
          have hk : ∀ v, act.eval (.const v) = v := fun _ => rfl
          have hf : ∀ f, act.eval (.func f) = .func (.func f) #[] #[] := fun _ => rfl
          generalize act.eval = ρ at *
          have hm : mm < 14 := hm'
          replace h1 : ρ (.tmp 3) = .pointer (some ⟨bg, 0, none⟩) := h1
          refine gx_gen2 (fun K hK => ?_)
          go_simp
          exact hK _ _ ⟨rfl, Chg.refl _ _, hI.mono (by omega)⟩
        refine ⟨opOK_ds [(17, some 0)] (by kernel_rfl) rfl ?_, ?_⟩
        · intro mm act w' hm' hR hI h1
          have hk : ∀ v, act.eval (.const v) = v := fun _ => rfl
          have hf : ∀ f, act.eval (.func f) = .func (.func f) #[] #[] := fun _ => rfl
          generalize act.eval = ρ at *
          have hm : mm < 14 := hm'
          replace h1 : ρ (.tmp 17) = .pointer (some ⟨bg, 2, none⟩) := h1
          refine gx_gen2 (fun K hK => ?_)
          obtain ⟨d0, d1, d2⟩ : w'.cell? ⟨bg, 0, none⟩ = some (.slice A1 L1.length c1) ∧ w'.cell? ⟨bg, 1, none⟩ = some (.slice A2 L2.length c2) ∧ w'.cell? ⟨bg, 2, none⟩ = some u := by
            have hb := (hR.block bg (by simpa using hbl) (by simp; omega)).trans HX.out
            exact ⟨cellS hb 0, cellS hb 1, cellS hb 2⟩
          go_simp
          exact hK _ _ ⟨rfl, Chg.refl _ _, hI.mono (by omega)⟩
        refine ⟨opOK_ds [(0, none)] (by kernel_rfl) rfl ?_, ?_⟩
        · intro mm act w' hm' hR hI h1
          have hk : ∀ v, act.eval (.const v) = v := fun _ => rfl
          have hf : ∀ f, act.eval (.func f) = .func (.func f) #[] #[] := fun _ => rfl
          generalize act.eval = ρ at *
          have hm : mm < 14 := hm'
          replace h1 : ρ (.tmp 0) = .pointer (some ⟨rb, 0, none⟩) := h1
          refine gx_gen2 (fun K hK => ?_)
          go_simp
          exact hK _ _ ⟨rfl, Chg.refl _ _, hI.mono (by omega)⟩
        refine ⟨opOK_ds [(3, none)] (by kernel_rfl) rfl ?_, ?_⟩
        · intro mm act w' hm' hR hI h1
          have hk : ∀ v, act.eval (.const v) = v := fun _ => rfl
          have hf : ∀ f, act.eval (.func f) = .func (.func f) #[] #[] := fun _ => rfl
          generalize act.eval = ρ at *
          have hm : mm < 14 := hm'
          replace h1 : ρ (.tmp 3) = .pointer (some ⟨bg, 0, none⟩) := h1
          refine gx_gen2 (fun K hK => ?_)
          go_simp
          exact hK _ _ ⟨rfl, Chg.refl _ _, hI.mono (by omega)⟩
        refine ⟨opOK_ds [(20, some 3)] (by kernel_rfl) rfl ?_, ?_⟩
        · intro mm act w' hm' hR hI h1
          have hk : ∀ v, act.eval (.const v) = v := fun _ => rfl
          have hf : ∀ f, act.eval (.func f) = .func (.func f) #[] #[] := fun _ => rfl
          generalize act.eval = ρ at *
          have hm : mm < 14 := hm'
          replace h1 : ρ (.tmp 20) = .pointer (some ⟨bg, 0, none⟩) := h1
          refine gx_gen2 (fun K hK => ?_)
          obtain ⟨d0, d1, d2⟩ : w'.cell? ⟨bg, 0, none⟩ = some (.slice A1 L1.length c1) ∧ w'.cell? ⟨bg, 1, none⟩ = some (.slice A2 L2.length c2) ∧ w'.cell? ⟨bg, 2, none⟩ = some u := by
            have hb := (hR.block bg (by simpa using hbl) (by simp; omega)).trans HX.out
            exact ⟨cellS hb 0, cellS hb 1, cellS hb 2⟩
          go_simp
          exact hK _ _ ⟨rfl, Chg.refl _ _, hI.mono (by omega)⟩
        refine ⟨opOK_ds [(21, some 4)] (by kernel_rfl) rfl ?_, ?_⟩
        · intro mm act w' hm' hR hI h1
          have hk : ∀ v, act.eval (.const v) = v := fun _ => rfl
          have hf : ∀ f, act.eval (.func f) = .func (.func f) #[] #[] := fun _ => rfl
          generalize act.eval = ρ at *
          have hm : mm < 14 := hm'
          replace h1 : ρ (.tmp 21) = .slice A1 L1.length c1 := h1
          refine gx_gen2 (fun K hK => ?_)
          go_simp
          exact hK _ _ ⟨rfl, Chg.refl _ _, hI.mono (by omega)⟩
        refine ⟨opOK_ds [(3, none)] (by kernel_rfl) rfl ?_, ?_⟩
        · intro mm act w' hm' hR hI h1
          have hk : ∀ v, act.eval (.const v) = v := fun _ => rfl
          have hf : ∀ f, act.eval (.func f) = .func (.func f) #[] #[] := fun _ => rfl
          generalize act.eval = ρ at *
          have hm : mm < 14 := hm'
          replace h1 : ρ (.tmp 3) = .pointer (some ⟨bg, 0, none⟩) := h1
          refine gx_gen2 (fun K hK => ?_)
          go_simp
          exact hK _ _ ⟨rfl, Chg.refl _ _, hI.mono (by omega)⟩
        refine ⟨opOK_ds [(23, some 6)] (by kernel_rfl) rfl ?_, ?_⟩
        · intro mm act w' hm' hR hI h1
          have hk : ∀ v, act.eval (.const v) = v := fun _ => rfl
          have hf : ∀ f, act.eval (.func f) = .func (.func f) #[] #[] := fun _ => rfl
          generalize act.eval = ρ at *
          have hm : mm < 14 := hm'
          replace h1 : ρ (.tmp 23) = .pointer (some ⟨bg, 1, none⟩) := h1
          refine gx_gen2 (fun K hK => ?_)
          obtain ⟨d0, d1, d2⟩ : w'.cell? ⟨bg, 0, none⟩ = some (.slice A1 L1.length c1) ∧ w'.cell? ⟨bg, 1, none⟩ = some (.slice A2 L2.length c2) ∧ w'.cell? ⟨bg, 2, none⟩ = some u := by
            have hb := (hR.block bg (by simpa using hbl) (by simp; omega)).trans HX.out
            exact ⟨cellS hb 0, cellS hb 1, cellS hb 2⟩
          go_simp
          exact hK _ _ ⟨rfl, Chg.refl _ _, hI.mono (by omega)⟩
        refine ⟨opOK_ds [(24, some 7)] (by kernel_rfl) rfl ?_, ?_⟩
        · intro mm act w' hm' hR hI h1
          have hk : ∀ v, act.eval (.const v) = v := fun _ => rfl
          have hf : ∀ f, act.eval (.func f) = .func (.func f) #[] #[] := fun _ => rfl
          generalize act.eval = ρ at *
          have hm : mm < 14 := hm'
          replace h1 : ρ (.tmp 24) = .slice A2 L2.length c2 := h1
          refine gx_gen2 (fun K hK => ?_)
          go_simp
          exact hK _ _ ⟨rfl, Chg.refl _ _, hI.mono (by omega)⟩
        refine ⟨opOK_ds [(19, some 2), (22, some 5), (25, some 8)] (by kernel_rfl) rfl ?_, ?_⟩
        · intro mm act w' hm' hR hI h1 h2 h3
          have hk : ∀ v, act.eval (.const v) = v := fun _ => rfl
          have hf : ∀ f, act.eval (.func f) = .func (.func f) #[] #[] := fun _ => rfl
          generalize act.eval = ρ at *
          have hm : mm < 14 := hm'
          replace h1 : ρ (.tmp 19) = .pointer (some ⟨rb, 0, none⟩) := h1
          replace h2 : ρ (.tmp 22) = .int .i64 (L1.length : Int) := h2
          replace h3 : ρ (.tmp 25) = .int .i64 (L2.length : Int) := h3
          refine gx_gen2 (fun K hK => ?_)
          go_simp
          with_reducible refine (goodCell_any L1.length L2.length _ hI (by omega) hl1 hl15 hl2 hl25).mono ?_
          rintro e w1 ⟨⟨p, rfl⟩, hr, hc⟩
          exact ⟨_, rfl, hK _ _ ⟨⟨p, rfl⟩, hc, hr.mono (by omega)⟩⟩
        refine ⟨opOK_ds [(26, some 9)] (by kernel_rfl) rfl ?_, ?_⟩
        · intro mm act w' hm' hR hI h1
          have hk : ∀ v, act.eval (.const v) = v := fun _ => rfl
          have hf : ∀ f, act.eval (.func f) = .func (.func f) #[] #[] := fun _ => rfl
          generalize act.eval = ρ at *
          have hm : mm < 14 := hm'
          replace h1 : (fun v _ => ∃ p : Ce, v = .agg #[.int .i64 p.co, .int .i64 p.ro, .int .i64 p.mc, .int .i64 p.mr, .int .i64 p.cw, .int .i64 p.ch, .int .i64 p.sk, .int .i64 p.px, .int .i64 p.py]) (ρ (.tmp 26)) w' := h1
          refine gx_gen2 (fun K hK => ?_)
          obtain ⟨p, hp⟩ := h1
          go_simp
          exact hK _ _ ⟨⟨p, _, rfl, hR.size, newS _ _⟩, (Chg.refl _ _).alloc _, (hI.alloc _).mono (by omega)⟩
        exact trivial
      case hTs =>
        intro k v x y hv hc
        exact stab_list (by
          intro T hT
          simp only [List.mem_cons, List.not_mem_nil, or_false] at hT
          rcases hT with rfl | rfl | rfl | rfl | rfl | rfl | rfl | rfl | rfl | rfl | rfl <;> first | exact fun v a b h _ => h | exact stab10 _ _ (by omega) | exact fun v a b h hc => TL.keep h hc)
          k v x y hv hc
      case hI0 => exact HR.out.drew
      case hfin =>
        intro w6 hR6 hI6
        intro v17 t17 v18 t18 v19 t19 v20 t20 v21 t21 v22 t22 v23 t23 v24 t24 v25 t25 v26 t26 v27 t27
        have e18 : v18 = u := t18
        have e3 : v17 = .pointer (some ⟨bg, 2, none⟩) := t17
        obtain ⟨p, g, rfl, hg, hgc⟩ : OneC wr.heap.size v27 w6 := t27
        subst e18
        simp only [List.take, finP, Act.put, List.setIfInBounds_toArray, List.set_cons_succ, List.set_cons_zero]
        have hx6 := (hR6.block bg (by simpa using hbl) (by simp; omega)).trans HX.out
        have ho6 := own_chgN (World.ownsRow.drewW HO.out) hR6 (by omega)
        have hs6 : wr.heap.size ≤ w6.heap.size := hR6.size
        have hnews : ∀ (j : Nat) (u : Value), (valsCe p)[j]? = some u → w6.cell? ((⟨g, 0, none⟩ : Addr).add j) = some u := fun j u hu => by
          have hadd : (⟨g, 0, none⟩ : Addr).add j = ⟨g, j, none⟩ := by unfold Addr.add; split <;> simp_all
          rw [hadd]
          exact (cellS hgc j).trans (by simpa [valsCe] using hu)
        obtain ⟨v8, w8, hap, how8, hgr8, -⟩ := run_append_own (P := Try.prog) w6 (W2.heap.size) 43 43 52 ti tz 9 72 Try.underlying43 ti1 ti2 ti3 ti4 ti5 (by decide) _ C.length (cevals C) ho6 ⟨g, 0, none⟩ 1 1 (valsCe p) rfl hnews (valsCe_oneG p) (by simp only [maxLen]; omega) (by omega) (by omega)
        have hob6 := ho6.lt
        have hob8 : ∀ k, v18.ownBlock = some k → W2.heap.size ≤ k := fun k hk => (hob6 k hk).1
        have hx8 := (hgr8.block bg (ltS hx6) (fun e => by have := hob8 bg e.symm; omega)).trans hx6
        have hr8 := rd_ofg hI6 hgr8 (fun k hk => by have := hob8 k hk; omega)
        have hc8 := chg_ofg ((HCW.out).trans ((Chg.drew (Chg.refl _ wr)).trans (hR6.mono (S' := [rb, bg]) (by simp)))) hgr8 hob8
        rw [cevals_snoc] at how8
        obtain ⟨A8, c8, rfl⟩ := own_slice how8
        have hob9 := how8.lt
        have d2 := cellS hx8 2
        have f2 := frozenS hx8 2
        have HX8 := Lib.hid (put3s2 hx8 (.slice A8 (C.length + 1) c8))
        have HO8 := Lib.hid (own_setN how8 (b := bg) (fun k hk => by have := (hob9 k hk).1; omega) 2 (.slice A8 (C.length + 1) c8))
        have HR8 := Lib.hid (hr8.setCell (p := ⟨bg, 2, none⟩) (by simp; omega) (by simpa using hbgr) (.slice A8 (C.length + 1) c8))
        have HC8 := Lib.hid (hc8.setCell (p := ⟨bg, 2, none⟩) (.inl (by simp)) (.slice A8 (C.length + 1) c8))
        clear hx6 ho6 hnews how8 hgr8 hob6 hob8 hx8 hr8 hc8 hob9 hgc hI6 hR6
        subst t17 t19 t20 t21 t22 t23 t24 t25
        refine wpAny_one (f := 2) (i := 11) (by kernel_rfl) rfl rfl ?_
        refine upon_append (.tmp 18) (.tmp 27) 43 rfl rfl rfl hap ?_
        simp only [Act.put, List.setIfInBounds_toArray, List.set_cons_succ, List.set_cons_zero]
        refine wpAny_one (f := 1) (i := 12) (by kernel_rfl) rfl rfl ?_
        go_simp
        refine wpAny_one (f := 0) (i := 13) (by kernel_rfl) rfl rfl ?_
        go_simp
        refine wpAny_end (by kernel_rfl) ?_
        clear d2 f2 hap
        go_wp2
        go_roundw
        case rel => exact ⟨k, by go_num, C ++ [p], .slice A8 (C.length + 1) c8, by simp; omega, HX8.out, by simpa using HO8.out, HR8.out.mono (by simp; omega), HC8.out⟩
        case measure => simp [intOf]

end Go.Proofs.Ytjdjahckdgbkbac
end
