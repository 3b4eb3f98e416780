import Derived.Test.YtjdjahckdgbkbaeDoorQ03
section
namespace Go.Proofs.YtjdjahckdgbkbaeDoor
open Go.RowKit
set_option linter.unusedVariables false
set_option maxHeartbeats 2000000
attribute [local go_sem] growUpon_value growUpon_skip growUpon_enter
attribute [local go_sem] givesUpon_value givesUpon_skip givesUpon_enter
theorem gx_genP {P : Program} {K : Value → World → Prop} {r : Result Next} (h : ∀ K' : Value → World → Prop, (∀ v w', K v w' → K' v w') → givesUpon P K' r) : givesUpon P K r := h K fun _ _ h => h
theorem stab_listP {S : List Nat} : ∀ {l : List (Value → World → Prop)}, (∀ T ∈ l, ∀ (v : Value) (a b : World), T v a → Chg S a b → T v b) → ∀ (k : Nat) (v : Value) (a b : World), l.getD k (fun _ _ => True) v a → Chg S a b → l.getD k (fun _ _ => True) v b
  | [], _, k, v, a, b, h, hc => trivial
  | T :: r, hl, 0, v, a, b, h, hc => hl T List.mem_cons_self v a b h hc
  | T :: r, hl, k + 1, v, a, b, h, hc => stab_listP (l := r) (fun T hT => hl T (List.mem_cons_of_mem _ hT)) k v a b h hc
/-- a slice of one number in memory of its own -/
def OneI (lo : Nat) (v : Value) (w : World) : Prop := ∃ (p : Int) (g : Nat), v = .slice (some ⟨g, 0, none⟩) 1 1 ∧ lo ≤ g ∧ w.heap[g]? = some (.cells #[.int .i64 p] 3 (0, 0))
theorem stabI (rb lo : Nat) (h : rb < lo) : ∀ (v : Value) (a b : World), OneI lo v a → Chg [rb] a b → OneI lo v b := fun v a b ⟨p, g, e, hl, hg⟩ hc => ⟨p, g, e, hl, (hc.block g (ltS hg) (by simp; omega)).trans hg⟩
theorem chg_ofP {S : List Nat} {a W w5 : World} {ob : Option Nat} (h : Chg S a W) (hg : W.grownBy w5 ob) (hob : ∀ k, ob = some k → a.heap.size ≤ k) : Chg S a w5 :=
  ⟨hg.os.trans h.os, hg.tape.trans h.tape, hg.output.trans h.output, Nat.le_trans h.size hg.size, fun k hk hs => (hg.block k (Nat.lt_of_lt_of_le hk h.size) (fun e => by have := hob k e.symm; omega)).trans (h.block k hk hs)⟩
theorem rd_ofP {B rb : Nat} {A : Option Addr} {n c m : Nat} {W w5 : World} {ob : Option Nat} (h : Rd B rb A n c m W) (hg : W.grownBy w5 ob) (hob : ∀ k, ob = some k → rb < k) : Rd B rb A n c m w5 := by
  have hb := h.base
  cases ob with
  | none => exact h.keep (S := []) ⟨hg.os, hg.tape, hg.output, hg.size, fun k hk _ => hg.block k hk (fun e => by cases e)⟩ (by simp)
  | some g =>
    have := hob g rfl
    exact h.keep (S := [g]) ⟨hg.os, hg.tape, hg.output, hg.size, fun k hk hs => hg.block k hk (fun e => by cases e; simp at hs)⟩ (by simp; omega)
theorem own_setP {w : World} {base : Nat} {e : TypeId} {size : Nat} {v : Value} {n : Nat} {xs : List Value} (h : w.ownsRow base e size v n xs) {b : Nat} (hb : ∀ k, v.ownBlock = some k → k ≠ b) (o : Nat) (u : Value) : (w.setCell ⟨b, o, none⟩ u).ownsRow base e size v n xs :=
  h.kept (row := some b) (gsetS (greflS w b) o u) (by
    cases hv : v.ownBlock with
    | none => exact .inl rfl
    | some g => exact .inr (fun e => by have := hb g hv; cases e; omega))
theorem upon_appendP {P : Program} {o : Oper} {a : Act} {w : World} {K : Act → World → Prop} {Q : Exit → Act → World → Prop} (s x : Operand) (t : TypeId) {v xv v' : Value} {w' : World}
    (ho : o.op = .call { callee := .builtin .append, args := #[s, x], argTypes := #[t, t] }) (hs : a.eval s = v) (hx : a.eval x = xv)
    (hr : (Builtin.append_ #[t, t] o.type #[v, xv]).run P w = .ok v' w') (h : K (a.put o.dst v') w') : o.wp P a w K Q := by
  unfold Oper.wp execOp
  simp only [ho, resolve, invoke, builtin, Sem.run_bind, Sem.run_pure, Result.andThen_ok, List.map_toArray, List.map_cons, List.map_nil, hs, hx, hr]
  exact h
theorem own_sliceP {w : World} {base : Nat} {e : TypeId} {size : Nat} {v : Value} {n : Nat} {xs : List Value} (h : w.ownsRow base e size v n xs) : ∃ A c, v = .slice A n c := by
  rcases h.2 with ⟨rfl, h0⟩ | ⟨g, cap, cur, rfl, _⟩
  · exact ⟨none, 0, by rw [h0]⟩
  · exact ⟨_, cap, rfl⟩
theorem own_drewP {w : World} {base : Nat} {e : TypeId} {size : Nat} {v : Value} {n : Nat} {xs : List Value} (h : w.ownsRow base e size v n xs) : w.drew.ownsRow base e size v n xs := h.kept (row := none) ⟨rfl, rfl, rfl, Nat.le_refl _, fun _ _ _ => rfl⟩ (by cases hv : v.ownBlock with | none => exact .inl rfl | some g => exact .inr (fun e => by cases e))
theorem wp_PN {P : Program} {c : Code} {Q : Exit → Act → World → Prop} {a : Act} {W : World} (F : World → Prop) (hF : F W) (h : ∀ W0, F W0 → c.wp P Q a W0) : c.wp P Q a W := h W hF
theorem bp_PN {P : Program} {f : Func} {R : Ending → World → Prop} {e : Exit} {a : Act} {W : World} (F : World → Prop) (hF : F W) (h : ∀ W0, F W0 → bodyPost P f R e a W0) : bodyPost P f R e a W := h W hF
theorem put2_0 {w : World} {b : Nat} {a0 a1 : Value} {T : TypeId} {fz : Nat × Nat} (h : w.heap[b]? = some (.cells #[a0, a1] T fz)) (u : Value) : (w.setCell ⟨b, 0, none⟩ u).heap[b]? = some (.cells #[u, a1] T fz) := (putS h u).trans rfl
theorem put2_1 {w : World} {b : Nat} {a0 a1 : Value} {T : TypeId} {fz : Nat × Nat} (h : w.heap[b]? = some (.cells #[a0, a1] T fz)) (u : Value) : (w.setCell ⟨b, 1, none⟩ u).heap[b]? = some (.cells #[a0, u] T fz) := (putS h u).trans rfl
/-- two rows that grow, in a struct of its own -/
structure PW (bx n0 N0 : Nat) (S M : List Int) (u v : Value) (w : World) : Prop where
  box : w.heap[bx]? = some (.cells #[u, v] 35 (0, 0))
  su : w.ownsRow N0 3 1 u S.length (nvals S)
  sv : w.ownsRow N0 3 1 v M.length (nvals M)
  ap : ∀ g, u.ownBlock = some g → v.ownBlock ≠ some g
  z : w.heap[n0]? = some (.cells #[.slice none 0 0, .slice none 0 0] 35 (0, 0))
theorem PW.chg {bx n0 N0 rb : Nat} {S M : List Int} {u v : Value} {w w' : World} (h : PW bx n0 N0 S M u v w) (hc : Chg [rb] w w') (h1 : bx ≠ rb) (h2 : n0 ≠ rb) (h3 : rb < N0) : PW bx n0 N0 S M u v w' :=
  ⟨(hc.block bx (ltS h.box) (by simpa using h1)).trans h.box, own_chgN h.su hc h3, own_chgN h.sv hc h3, h.ap, (hc.block n0 (ltS h.z) (by simpa using h2)).trans h.z⟩
theorem PW.alloc {bx n0 N0 : Nat} {S M : List Int} {u v : Value} {w : World} (h : PW bx n0 N0 S M u v w) (o : Obj) : PW bx n0 N0 S M u v (w.alloc o) :=
  ⟨(Below.heap_alloc _ _ _ (ltS h.box)).trans h.box, h.su.alloc _, h.sv.alloc _, h.ap, (Below.heap_alloc _ _ _ (ltS h.z)).trans h.z⟩
theorem PW.drew {bx n0 N0 : Nat} {S M : List Int} {u v : Value} {w : World} (h : PW bx n0 N0 S M u v w) : PW bx n0 N0 S M u v w.drew := ⟨h.box, own_drewP h.su, own_drewP h.sv, h.ap, h.z⟩
/-- Mins has one more -/
theorem PW.addM {bx n0 N0 : Nat} {S M : List Int} {u v v' : Value} {w w' : World} {x : Int} (h : PW bx n0 N0 S M u v w) (hb : bx < N0) (hn : n0 < N0) (hnb : n0 ≠ bx) (ho : w'.ownsRow N0 3 1 v' (M.length + 1) (nvals M ++ [.int .i64 x])) (hg : w.grownBy w' v.ownBlock) (hat : v'.ownBlock = v.ownBlock ∨ v'.ownBlock = some w.heap.size) :
    PW bx n0 N0 S (M ++ [x]) u v' (w'.setCell ⟨bx, 1, none⟩ v') := by
  have hlv := h.sv.lt
  have hlu := h.su.lt
  have hlv' := ho.lt
  have hbx := (hg.block bx (ltS h.box) (fun e => by have := hlv bx e.symm; omega)).trans h.box
  have hz := (hg.block n0 (ltS h.z) (fun e => by have := hlv n0 e.symm; omega)).trans h.z
  have hsu : w'.ownsRow N0 3 1 u S.length (nvals S) := h.su.kept hg (by
    cases hu : u.ownBlock with
    | none => exact .inl rfl
    | some g => exact .inr (fun e => h.ap g hu e.symm))
  rw [nvals_snoc] at ho
  refine ⟨put2_1 hbx v', own_setP hsu (fun k hk => by have := hlu k hk; omega) 1 v', by rw [List.length_append]; exact own_setP ho (fun k hk => by have := hlv' k hk; omega) 1 v', fun g hg' he => ?_, (Below.heap_setCell _ _ _ _ hnb).trans hz⟩
  rcases hat with hat | hat
  · exact h.ap g hg' (hat ▸ he)
  · rw [hat] at he
    have := hlu g hg'
    cases he
    omega
theorem PW.addS {bx n0 N0 : Nat} {S M : List Int} {u v u' : Value} {w w' : World} {x : Int} (h : PW bx n0 N0 S M u v w) (hb : bx < N0) (hn : n0 < N0) (hnb : n0 ≠ bx) (ho : w'.ownsRow N0 3 1 u' (S.length + 1) (nvals S ++ [.int .i64 x])) (hg : w.grownBy w' u.ownBlock) (hat : u'.ownBlock = u.ownBlock ∨ u'.ownBlock = some w.heap.size) :
    PW bx n0 N0 (S ++ [x]) M u' v (w'.setCell ⟨bx, 0, none⟩ u') := by
  have hlv := h.sv.lt
  have hlu := h.su.lt
  have hlu' := ho.lt
  have hbx := (hg.block bx (ltS h.box) (fun e => by have := hlu bx e.symm; omega)).trans h.box
  have hz := (hg.block n0 (ltS h.z) (fun e => by have := hlu n0 e.symm; omega)).trans h.z
  have hsv : w'.ownsRow N0 3 1 v M.length (nvals M) := h.sv.kept hg (by
    cases hv : v.ownBlock with
    | none => exact .inl rfl
    | some g => exact .inr (fun e => h.ap g e.symm hv))
  rw [nvals_snoc] at ho
  refine ⟨put2_0 hbx u', by rw [List.length_append]; exact own_setP ho (fun k hk => by have := hlu' k hk; omega) 0 u', own_setP hsv (fun k hk => by have := hlv k hk; omega) 0 u', fun g hg' he => ?_, (Below.heap_setCell _ _ _ _ hnb).trans hz⟩
  rcases hat with hat | hat
  · exact h.ap g (hat ▸ hg') he
  · rw [hat] at hg'
    have := hlv g he
    cases hg'
    omega
structure PFs (bx n0 N0 : Nat) (A1 : Option Addr) (c1 : Nat) (L1 : List Int) (A2 : Option Addr) (c2 : Nat) (L2 : List Int) (w : World) : Prop where
  box : w.heap[bx]? = some (.cells #[.slice A1 L1.length c1, .slice A2 L2.length c2] 35 (0, 0))
  n1 : NV w A1 L1
  n2 : NV w A2 L2
  z : w.heap[n0]? = some (.cells #[.slice none 0 0, .slice none 0 0] 35 (0, 0))
  b1 : ∀ a, A1 = some a → N0 ≤ a.block
  b2 : ∀ a, A2 = some a → N0 ≤ a.block
  l1 : L1.length ≤ 6 ∧ L1.length ≤ c1
  l2 : L2.length ≤ 6 ∧ L2.length ≤ c2
theorem nv_setP {w : World} {b : Nat} {A : Option Addr} {L : List Int} (h : NV w A L) (hn : ∀ a, A = some a → a.block ≠ b) (j : Nat) (x : Value) : NV (w.setCell ⟨b, j, none⟩ x) A L :=
  ⟨fun h0 => let ⟨b', off, e, hl, hp⟩ := h.cells h0; ⟨b', off, e, by simpa [World.setCell] using hl, fun i y hy => (World.cell?_of_block (Below.heap_setCell w ⟨b, j, none⟩ x b' (by have := hn _ e; simpa using this))).trans (hp i y hy)⟩⟩
theorem putS2 {w : World} {b : Nat} {a0 a1 : Value} {T : TypeId} {fz : Nat × Nat} (h : w.heap[b]? = some (.cells #[a0, a1] T fz)) (x0 x1 : Value) :
    ((w.setCell ⟨b, 0, none⟩ x0).setCell ⟨b, 1, none⟩ x1).heap[b]? = some (.cells #[x0, x1] T fz) := by
  rw [putS (putS h x0) x1]; rfl
theorem nv_tail {w : World} {g : Nat} {cs : Array Value} {T : TypeId} {M : List Int} (hh : w.heap[g]? = some (.cells cs T (0, 0))) (hc : ∀ (i : Nat) (x : Int), M[i]? = some x → cs[i]? = some (Value.int .i64 x)) : NV w (some ⟨g, 1, none⟩) (M.drop 1) :=
  ⟨fun _ => ⟨g, 1, rfl, (Array.getElem?_eq_some_iff.1 hh).1, fun i x hx => by
    rw [List.getElem?_drop] at hx
    exact (cell_of_heap hh (1 + i)).trans (hc (1 + i) x hx)⟩⟩
theorem in_set0 {cs : Array Value} {L : List Int} {z : Int} (h : ∀ (i : Nat) (x : Int), L[i]? = some x → cs[i]? = some (Value.int .i64 x)) (h0 : 0 < cs.size) : ∀ (i : Nat) (x : Int), (L.set 0 z)[i]? = some x → (cs.setIfInBounds 0 (.int .i64 z))[i]? = some (Value.int .i64 x) := fun i x hx => by
  by_cases e : i = 0
  · subst e
    have hl := (List.getElem?_eq_some_iff.1 hx).1
    rw [List.length_set] at hl
    rw [List.getElem?_set_self hl] at hx
    cases hx
    rw [Array.getElem?_setIfInBounds_self_of_lt h0]
  · rw [List.getElem?_set_ne (Ne.symm e)] at hx
    rw [Array.getElem?_setIfInBounds_ne (Ne.symm e)]
    exact h i x hx
theorem newPN (w : World) (o o' : Obj) : ((w.alloc o).alloc o').heap[w.heap.size + 1]? = some o' := by
  have := newS (w.alloc o) o'; rwa [World.size_alloc] at this
set_option maxRecDepth 100000 in
theorem somePanes_any {B rb : Nat} {A : Option Addr} {l c m : Nat} (w : World) (h : Rd B rb A l c m w) (hm : m ≤ 800000) :
    Calls Tryd.prog 33 #[.pointer (some ⟨rb, 0, none⟩)] w fun e w' => (∃ (A1 : Option Addr) (c1 : Nat) (L1 : List Int) (A2 : Option Addr) (c2 : Nat) (L2 : List Int), e = .returned (.agg #[.slice A1 L1.length c1, .slice A2 L2.length c2]) ∧ NV w' A1 L1 ∧ NV w' A2 L2 ∧ L1.length ≤ 6 ∧ L2.length ≤ 6 ∧ L1.length ≤ c1 ∧ L2.length ≤ c2 ∧ (∀ a, A1 = some a → w.heap.size < a.block ∧ a.block ≠ rb) ∧ (∀ a, A2 = some a → w.heap.size < a.block ∧ a.block ≠ rb)) ∧ Rd B rb A l c (m + 300) w' ∧ Chg [rb] w w' := by
  have hlt := h.lt
  have hbase := h.base
  obtain ⟨ti, tz, ti1, ti2, ti3, ti4, ti5⟩ := int_info
  go_enter Tryd.func33, Tryd.ntmps33
  go_upto_region 2 with (fail)
  obtain ⟨n0, hn0⟩ : ∃ n0, w.heap.size = n0 := ⟨_, rfl⟩
  obtain ⟨bx, hbx⟩ : ∃ bx, w.heap.size + 1 = bx := ⟨_, rfl⟩
  obtain ⟨N0, hN0⟩ : ∃ N0, w.heap.size + 2 = N0 := ⟨_, rfl⟩
  refine wp_PN (fun W => PW bx n0 N0 [] [] (.slice none 0 0) (.slice none 0 0) W ∧ Rd B rb A l c m W ∧ Chg [rb] w W ∧ W.heap.size = N0) ⟨⟨by rw [← hbx]; exact (newPN _ _ _).trans rfl, World.ownsRow_nil _ _ _ _, World.ownsRow_nil _ _ _ _, fun g hg => (by cases hg), by rw [← hn0]; exact ((Below.heap_alloc _ _ _ (by simp)).trans (newS w _)).trans rfl⟩, (h.alloc _).alloc _, ((Chg.refl _ w).alloc _).alloc _, by rw [← hN0]; simp⟩ ?_
  rintro wa ⟨hW, hR, hC, hsz⟩
  have hb1 : bx ≠ rb := by omega
  have hb2 : n0 ≠ rb := by omega
  have hb3 : rb < N0 := by omega
  have hbN : bx < N0 := by omega
  have hnN : n0 < N0 := by omega
  have hnb : n0 ≠ bx := by omega
  have hwn : w.heap.size = n0 := hn0
  have hwN : w.heap.size ≤ N0 := by omega
  have hwb : w.heap.size ≤ bx := by omega
  have hBr : B ≤ rb := by omega
  have hBb : B ≤ bx := by omega
  have hBn0 : B ≤ n0 := by omega
  have hBn : B ≤ N0 := by omega
  rw [hbx, hn0]
  have hsa0 : N0 ≤ wa.heap.size := by omega
  clear h hn0 hbx hN0 hlt hbase hsz
  go_wp2_with fail
  with_reducible refine (one_lit_in 1 6 wa hR (by omega) (by simp) (by omega) (by omega) (by simp [isIn])).mono ?_
  rintro e w2 ⟨⟨K, rfl, K0, K1⟩, hr2, hc2⟩
  obtain ⟨k0, rfl⟩ := Int.eq_ofNat_of_zero_le (by omega : 0 ≤ K)
  have HW := Lib.hid (hW.chg hc2 hb1 hb2 hb3)
  have HR := Lib.hid hr2
  have HC := Lib.hid (hC.trans hc2)
  have hsN : N0 ≤ w2.heap.size := by have := hc2.size; omega
  clear hW hR hC hr2 hc2
  go_wp2_with fail
  go_loopw [4] (fun i wr => ∃ k : Nat, i = .int .i64 k ∧ ∃ (S M : List Int) (u v : Value), k + S.length = k0 ∧ M.length = S.length ∧ PW bx n0 N0 S M u v wr ∧ Rd B rb A l c (m + 1 + 40 * S.length) wr ∧ Chg [rb] w wr ∧ N0 ≤ wr.heap.size) (fun i _ => (intOf i).toNat)
  case atStart => exact ⟨k0, rfl, [], [], _, _, by simp, by simp, HW.out, HR.out.mono (by simp), HC.out, hsN⟩
  case round =>
    obtain ⟨k, rfl, S, M, u, v, hk, hMS, hW, hr, hcc, hsr⟩ := hrel
    have HMS := Lib.hid hMS
    clear HW HR HC hMS
    rcases k with _ | k
    · have hd : decide (((0 : Nat) : Int) > 0) = false := by simp
      have hS1 : 1 ≤ S.length := by omega
      have hM1 : 1 ≤ M.length := by have := HMS.out; omega
      rcases own_in1 hW.su rfl with ⟨-, hE⟩ | ⟨g1, q1, cs1, hu, hN1, hq1, hh1, hs1, hi1⟩
      · rw [hE] at hS1; simp at hS1
      rcases own_in1 hW.sv rfl with ⟨-, hE⟩ | ⟨g2, q2, cs2, hv, hN2, hq2, hh2, hs2, hi2⟩
      · rw [hE] at hM1; simp at hM1
      have hne := hW.ap
      have hbox := hW.box
      have hzz := hW.z
      rw [hu, hv] at hne hbox
      have hg12 : g1 ≠ g2 := fun e => hne g1 rfl (by rw [e]; rfl)
      have hcs1 : 0 < cs1.size := by omega
      have hcs2 : 0 < cs2.size := by omega
      have HI1 := Lib.hid hi1
      have HI2 := Lib.hid hi2
      clear hne hW hu hv hi1 hi2
      go_wp2_with fail
      with_reducible refine (pick_any _ _ hr (by omega)).mono ?_
      rintro e w3 ⟨⟨q, rfl, -⟩, hr3, hc3⟩
      have HX := Lib.hid ((hc3.block bx (ltS hbox) (by simpa using hb1)).trans hbox)
      have HZ := Lib.hid ((hc3.block n0 (ltS hzz) (by simpa using hb2)).trans hzz)
      have HH1 := Lib.hid ((hc3.block g1 (ltS hh1) (by simp; omega)).trans hh1)
      have HH2 := Lib.hid ((hc3.block g2 (ltS hh2) (by simp; omega)).trans hh2)
      have HR := Lib.hid hr3
      have HC := Lib.hid (hcc.trans hc3)
      have h0S : decide ((0 : Int) < (S.length : Int)) = true := by simp; omega
      have h0M : decide ((0 : Int) < (M.length : Int)) = true := by simp; omega
      have h0S' : (0 : Int) < (S.length : Int) := by omega
      have h0Sn : 0 < S.length := by omega
      have h0Mn : 0 < M.length := by omega
      have h0Se : ¬ S = [] := by rintro rfl; simp at h0Sn
      have h0Me : ¬ M = [] := by rintro rfl; simp at h0Mn
      have h0S0 : ¬ S.length = 0 := by omega
      have h0M0 : ¬ M.length = 0 := by omega
      have h0M' : (0 : Int) < (M.length : Int) := by omega
      clear hbox hzz hh1 hh2 hr hcc
      by_cases q0 : q = 0
      · subst q0
        go_wp2_with fail
        refine wp_region_rgp (fun k => ((fun v _ => v = .pointer (some ⟨bx, 0, none⟩)) :: (fun v _ => v = .slice (some ⟨g1, 0, none⟩) S.length q1) :: (fun v _ => v = .pointer (some ⟨rb, 0, none⟩)) :: (TL B [rb] 3) :: (fun v _ => ∃ z : Int, v = .int .i64 z) :: []).getD k (fun _ _ => True)) (Chg [rb]) (fun mm w => Rd B rb A l c (m + 250 + mm) w) 5 (by kernel_rfl) (by kernel_rfl) (by kernel_rfl) (fun a => Chg.refl _ a) (fun _ _ _ h k => h.trans k) ?hTs ?hI0 ?hops ?hfin
        case hops =>
          refine ⟨opOK_ds [(3, none)] (by kernel_rfl) rfl ?_, ?_⟩
          · intro mm act w' hm' hR hI h1
            have hk : ∀ v, act.eval (.const v) = v := fun _ => rfl
            have hf : ∀ f, act.eval (.func f) = .func (.func f) #[] #[] := fun _ => rfl
            generalize act.eval = ρ at *
            have hm : mm < 7 := hm'
            replace h1 : ρ (.tmp 3) = .pointer (some ⟨bx, 0, none⟩) := h1
            refine gx_genP (fun K hK => ?_)
            go_simp
            exact hK _ _ ⟨rfl, Chg.refl _ _, hI.mono (by omega)⟩
          refine ⟨opOK_ds [(37, some 0)] (by kernel_rfl) rfl ?_, ?_⟩
          · intro mm act w' hm' hR hI h1
            have hk : ∀ v, act.eval (.const v) = v := fun _ => rfl
            have hf : ∀ f, act.eval (.func f) = .func (.func f) #[] #[] := fun _ => rfl
            generalize act.eval = ρ at *
            have hm : mm < 7 := hm'
            replace h1 : ρ (.tmp 37) = .pointer (some ⟨bx, 0, none⟩) := h1
            refine gx_genP (fun K hK => ?_)
            obtain ⟨d0, d1⟩ : w'.cell? ⟨bx, 0, none⟩ = some (.slice (some ⟨g1, 0, none⟩) S.length q1) ∧ w'.cell? ⟨bx, 1, none⟩ = some (.slice (some ⟨g2, 0, none⟩) M.length q2) := by
              have hb := (hR.block bx (by simpa using ltS HX.out) (by simpa using hb1)).trans HX.out
              exact ⟨cellS hb 0, cellS hb 1⟩
            go_simp
            exact hK _ _ ⟨rfl, Chg.refl _ _, hI.mono (by omega)⟩
          refine ⟨opOK_ds [(0, none)] (by kernel_rfl) rfl ?_, ?_⟩
          · intro mm act w' hm' hR hI h1
            have hk : ∀ v, act.eval (.const v) = v := fun _ => rfl
            have hf : ∀ f, act.eval (.func f) = .func (.func f) #[] #[] := fun _ => rfl
            generalize act.eval = ρ at *
            have hm : mm < 7 := hm'
            replace h1 : ρ (.tmp 0) = .pointer (some ⟨rb, 0, none⟩) := h1
            refine gx_genP (fun K hK => ?_)
            go_simp
            exact hK _ _ ⟨rfl, Chg.refl _ _, hI.mono (by omega)⟩
          refine ⟨opOK_ds [] (by kernel_rfl) rfl ?_, ?_⟩
          · intro mm act w' hm' hR hI 
            have hk : ∀ v, act.eval (.const v) = v := fun _ => rfl
            have hf : ∀ f, act.eval (.func f) = .func (.func f) #[] #[] := fun _ => rfl
            generalize act.eval = ρ at *
            have hm : mm < 7 := hm'
            refine gx_genP (fun K hK => ?_)
            have hrl := hI.lt
            go_simp
            exact hK _ _ ⟨TL.lit (by omega) (by simp; omega) (by simp) (by simp [isI]), (Chg.refl _ _).alloc _, (hI.alloc _).mono (by omega)⟩
          refine ⟨opOK_ds [(39, some 2), (40, some 3)] (by kernel_rfl) rfl ?_, ?_⟩
          · intro mm act w' hm' hR hI h1 h2
            have hk : ∀ v, act.eval (.const v) = v := fun _ => rfl
            have hf : ∀ f, act.eval (.func f) = .func (.func f) #[] #[] := fun _ => rfl
            generalize act.eval = ρ at *
            have hm : mm < 7 := hm'
            replace h1 : ρ (.tmp 39) = .pointer (some ⟨rb, 0, none⟩) := h1
            replace h2 : (TL B [rb] 3) (ρ (.tmp 40)) w' := h2
            refine gx_genP (fun K hK => ?_)
            go_simp
            with_reducible refine (one_any _ hI (by omega) h2 (by omega) (by omega)).mono ?_
            rintro e w1 ⟨⟨z, rfl⟩, hr, hc⟩
            exact ⟨_, rfl, hK _ _ ⟨⟨z, rfl⟩, hc, hr.mono (by omega)⟩⟩
          exact trivial
        case hTs =>
          intro k v x y hv hc
          exact stab_listP (by
            intro T hT
            simp only [List.mem_cons, List.not_mem_nil, or_false] at hT
            rcases hT with rfl | rfl | rfl | rfl | rfl <;> first | exact fun v a b h _ => h | exact stabI _ _ (by omega) | exact fun v a b h hc => TL.keep h hc)
            k v x y hv hc
        case hI0 => exact (HR.out.drew).mono (by omega)
        case hfin =>
          intro w6 hR6 hI6
          intro v37 t37 v38 t38 v39 t39 v40 t40 v41 t41
          obtain ⟨z, rfl⟩ : ∃ z : Int, v41 = .int .i64 z := t41
          simp only [List.take, finP, Act.put, List.setIfInBounds_toArray, List.set_cons_succ, List.set_cons_zero]
          have hx6 := (hR6.block bx (by simpa using ltS HX.out) (by simpa using hb1)).trans HX.out
          have hz6 := (hR6.block n0 (by simpa using ltS HZ.out) (by simpa using hb2)).trans HZ.out
          have ha6 := (hR6.block g1 (by simpa using ltS HH1.out) (by simp; omega)).trans HH1.out
          have hb6 := (hR6.block g2 (by simpa using ltS HH2.out) (by simp; omega)).trans HH2.out
          obtain ⟨yy, dd⟩ := thereS ha6 (i := 0) (by omega)
          have ff := frozenS ha6 0
          have HA := Lib.hid (putS (i := 0) ha6 (.int .i64 z))
          have HBb := Lib.hid ((Below.heap_setCell w6 ⟨g1, 0, none⟩ (.int .i64 z) g2 (by simp; omega)).trans hb6)
          have HX6 := Lib.hid ((Below.heap_setCell w6 ⟨g1, 0, none⟩ (.int .i64 z) bx (by simp; omega)).trans hx6)
          have HZ6 := Lib.hid ((Below.heap_setCell w6 ⟨g1, 0, none⟩ (.int .i64 z) n0 (by simp; omega)).trans hz6)
          have HR6 := Lib.hid (hI6.setCell (p := ⟨g1, 0, none⟩) (by simp; omega) (by simp; omega) (.int .i64 z))
          have HC6 := Lib.hid ((HC.out.trans ((Chg.drew (Chg.refl _ w3)).trans hR6)).setCell (p := ⟨g1, 0, none⟩) (.inr (by simp; omega)) (.int .i64 z))
          clear hx6 hz6 ha6 hb6 hI6 hR6
          subst t37 t38 t39
          refine wpAny_one (f := 1) (i := 5) (by kernel_rfl) rfl rfl ?_
          go_simp
          refine wpAny_one (f := 0) (i := 6) (by kernel_rfl) rfl rfl ?_
          go_simp
          refine wpAny_end (by kernel_rfl) ?_
          go_upto_region 15 with (fail)
          refine wp_PN (fun W => PFs bx n0 N0 (some ⟨g1, 0, none⟩) q1 (S.set 0 z) (some ⟨g2, 0, none⟩) q2 M W ∧ Rd B rb A l c (m + 300) W ∧ Chg [rb] w W) ⟨⟨by rw [List.length_set]; exact HX6.out, nv_of HA.out (in_set0 HI1.out hcs1), nv_of HBb.out HI2.out, HZ6.out, fun a ha => by cases ha; exact hN1, fun a ha => by cases ha; exact hN2, ⟨by rw [List.length_set]; omega, by rw [List.length_set]; omega⟩, ⟨by have := HMS.out; omega, by have := HMS.out; omega⟩⟩, HR6.out.mono (by omega), HC6.out⟩ ?_
          clear HA HBb HX6 HZ6 HR6 HC6 dd ff
          clear HH1 HH2 HX HZ HR HC hr3 hc3
          rintro W ⟨hF, hR, hC⟩
          obtain ⟨c0, c1⟩ : W.cell? ⟨bx, 0, none⟩ = some _ ∧ W.cell? ⟨bx, 1, none⟩ = some _ := ⟨cellS hF.box 0, cellS hF.box 1⟩
          have c0' := (cellS hF.box 0).trans rfl
          have d0 := (cellS hF.z 0)
          have d1 := (cellS hF.z 1)
          have f0 := frozenS hF.z 0
          have f1 := frozenS hF.z 1
          have HF := Lib.hid hF
          have HR := Lib.hid hR
          have HC := Lib.hid hC
          clear hF hR hC c0'
          go_wp2
          refine bp_PN (fun W' => W'.heap[n0]? = some (.cells #[.slice (some ⟨g1, 0, none⟩) S.length q1, .slice (some ⟨g2, 0, none⟩) M.length q2] 35 (0, 0)) ∧ NV W' (some ⟨g1, 0, none⟩) (S.set 0 z) ∧ NV W' (some ⟨g2, 0, none⟩) M ∧ Rd B rb A l c (m + 300) W' ∧ Chg [rb] w W') ⟨putS2 HF.out.z _ _, nv_setP (nv_setP HF.out.n1 (fun a ha => by have hh := HF.out.b1 a ha; omega) _ _) (fun a ha => by have hh := HF.out.b1 a ha; omega) _ _, nv_setP (nv_setP HF.out.n2 (fun a ha => by have := HF.out.b2 a ha; omega) _ _) (fun a ha => by have := HF.out.b2 a ha; omega) _ _, (HR.out.setCell (p := ⟨n0, 0, none⟩) (by simp; omega) (by simpa using hb2) _).setCell (p := ⟨n0, 1, none⟩) (by simp; omega) (by simpa using hb2) _, (HC.out.setCell (p := ⟨n0, 0, none⟩) (.inr (by simp; omega)) _).setCell (p := ⟨n0, 1, none⟩) (.inr (by simp; omega)) _⟩ ?_
          have HQ : Hid (((S.set 0 z).length ≤ 6 ∧ (S.set 0 z).length ≤ q1) ∧ (M.length ≤ 6 ∧ M.length ≤ q2) ∧ (∀ a : Addr, (some ⟨g1, 0, none⟩) = some a → N0 ≤ a.block) ∧ (∀ a : Addr, (some ⟨g2, 0, none⟩) = some a → N0 ≤ a.block)) := Lib.hid ⟨HF.out.l1, HF.out.l2, HF.out.b1, HF.out.b2⟩
          clear HF HR HC c0 c1 d0 d1 f0 f1
          rintro W2 ⟨hz, n1, n2, hR2, hC2⟩
          have d0 := cellS hz 0
          have d1 := cellS hz 1
          exact bodyPost_ret (v := .agg #[.slice (some ⟨g1, 0, none⟩) S.length q1, .slice (some ⟨g2, 0, none⟩) M.length q2]) (by simp only [results, Tryd.results33]; go_simp) rfl ⟨⟨_, _, _, _, _, _, (by rw [List.length_set]), n1, n2, HQ.out.1.1, HQ.out.2.1.1, HQ.out.1.2, HQ.out.2.1.2, fun a ha => by have := HQ.out.2.2.1 a ha; omega, fun a ha => by have := HQ.out.2.2.2 a ha; omega⟩, hR2, hC2⟩
      by_cases q10 : q = 1
      · subst q10
        go_wp2_with fail
        refine wp_region_rgp (fun k => ((fun v _ => v = .pointer (some ⟨bx, 1, none⟩)) :: (fun v _ => v = .slice (some ⟨g2, 0, none⟩) M.length q2) :: (fun v _ => v = .pointer (some ⟨rb, 0, none⟩)) :: (TL B [rb] 2) :: (fun v _ => ∃ z : Int, v = .int .i64 z) :: []).getD k (fun _ _ => True)) (Chg [rb]) (fun mm w => Rd B rb A l c (m + 250 + mm) w) 5 (by kernel_rfl) (by kernel_rfl) (by kernel_rfl) (fun a => Chg.refl _ a) (fun _ _ _ h k => h.trans k) ?hTs ?hI0 ?hops ?hfin
        case hops =>
          refine ⟨opOK_ds [(3, none)] (by kernel_rfl) rfl ?_, ?_⟩
          · intro mm act w' hm' hR hI h1
            have hk : ∀ v, act.eval (.const v) = v := fun _ => rfl
            have hf : ∀ f, act.eval (.func f) = .func (.func f) #[] #[] := fun _ => rfl
            generalize act.eval = ρ at *
            have hm : mm < 7 := hm'
            replace h1 : ρ (.tmp 3) = .pointer (some ⟨bx, 0, none⟩) := h1
            refine gx_genP (fun K hK => ?_)
            go_simp
            exact hK _ _ ⟨rfl, Chg.refl _ _, hI.mono (by omega)⟩
          refine ⟨opOK_ds [(45, some 0)] (by kernel_rfl) rfl ?_, ?_⟩
          · intro mm act w' hm' hR hI h1
            have hk : ∀ v, act.eval (.const v) = v := fun _ => rfl
            have hf : ∀ f, act.eval (.func f) = .func (.func f) #[] #[] := fun _ => rfl
            generalize act.eval = ρ at *
            have hm : mm < 7 := hm'
            replace h1 : ρ (.tmp 45) = .pointer (some ⟨bx, 1, none⟩) := h1
            refine gx_genP (fun K hK => ?_)
            obtain ⟨d0, d1⟩ : w'.cell? ⟨bx, 0, none⟩ = some (.slice (some ⟨g1, 0, none⟩) S.length q1) ∧ w'.cell? ⟨bx, 1, none⟩ = some (.slice (some ⟨g2, 0, none⟩) M.length q2) := by
              have hb := (hR.block bx (by simpa using ltS HX.out) (by simpa using hb1)).trans HX.out
              exact ⟨cellS hb 0, cellS hb 1⟩
            go_simp
            exact hK _ _ ⟨rfl, Chg.refl _ _, hI.mono (by omega)⟩
          refine ⟨opOK_ds [(0, none)] (by kernel_rfl) rfl ?_, ?_⟩
          · intro mm act w' hm' hR hI h1
            have hk : ∀ v, act.eval (.const v) = v := fun _ => rfl
            have hf : ∀ f, act.eval (.func f) = .func (.func f) #[] #[] := fun _ => rfl
            generalize act.eval = ρ at *
            have hm : mm < 7 := hm'
            replace h1 : ρ (.tmp 0) = .pointer (some ⟨rb, 0, none⟩) := h1
            refine gx_genP (fun K hK => ?_)
            go_simp
            exact hK _ _ ⟨rfl, Chg.refl _ _, hI.mono (by omega)⟩
          refine ⟨opOK_ds [] (by kernel_rfl) rfl ?_, ?_⟩
          · intro mm act w' hm' hR hI 
            have hk : ∀ v, act.eval (.const v) = v := fun _ => rfl
            have hf : ∀ f, act.eval (.func f) = .func (.func f) #[] #[] := fun _ => rfl
            generalize act.eval = ρ at *
            have hm : mm < 7 := hm'
            refine gx_genP (fun K hK => ?_)
            have hrl := hI.lt
            go_simp
            exact hK _ _ ⟨TL.lit (by omega) (by simp; omega) (by simp) (by simp [isI]), (Chg.refl _ _).alloc _, (hI.alloc _).mono (by omega)⟩
          refine ⟨opOK_ds [(47, some 2), (48, some 3)] (by kernel_rfl) rfl ?_, ?_⟩
          · intro mm act w' hm' hR hI h1 h2
            have hk : ∀ v, act.eval (.const v) = v := fun _ => rfl
            have hf : ∀ f, act.eval (.func f) = .func (.func f) #[] #[] := fun _ => rfl
            generalize act.eval = ρ at *
            have hm : mm < 7 := hm'
            replace h1 : ρ (.tmp 47) = .pointer (some ⟨rb, 0, none⟩) := h1
            replace h2 : (TL B [rb] 2) (ρ (.tmp 48)) w' := h2
            refine gx_genP (fun K hK => ?_)
            go_simp
            with_reducible refine (one_any _ hI (by omega) h2 (by omega) (by omega)).mono ?_
            rintro e w1 ⟨⟨z, rfl⟩, hr, hc⟩
            exact ⟨_, rfl, hK _ _ ⟨⟨z, rfl⟩, hc, hr.mono (by omega)⟩⟩
          exact trivial
        case hTs =>
          intro k v x y hv hc
          exact stab_listP (by
            intro T hT
            simp only [List.mem_cons, List.not_mem_nil, or_false] at hT
            rcases hT with rfl | rfl | rfl | rfl | rfl <;> first | exact fun v a b h _ => h | exact stabI _ _ (by omega) | exact fun v a b h hc => TL.keep h hc)
            k v x y hv hc
        case hI0 => exact (HR.out.drew).mono (by omega)
        case hfin =>
          intro w6 hR6 hI6
          intro v45 t45 v46 t46 v47 t47 v48 t48 v49 t49
          obtain ⟨z, rfl⟩ : ∃ z : Int, v49 = .int .i64 z := t49
          simp only [List.take, finP, Act.put, List.setIfInBounds_toArray, List.set_cons_succ, List.set_cons_zero]
          have hx6 := (hR6.block bx (by simpa using ltS HX.out) (by simpa using hb1)).trans HX.out
          have hz6 := (hR6.block n0 (by simpa using ltS HZ.out) (by simpa using hb2)).trans HZ.out
          have ha6 := (hR6.block g2 (by simpa using ltS HH2.out) (by simp; omega)).trans HH2.out
          have hb6 := (hR6.block g1 (by simpa using ltS HH1.out) (by simp; omega)).trans HH1.out
          obtain ⟨yy, dd⟩ := thereS ha6 (i := 0) (by omega)
          have ff := frozenS ha6 0
          have HA := Lib.hid (putS (i := 0) ha6 (.int .i64 z))
          have HBb := Lib.hid ((Below.heap_setCell w6 ⟨g2, 0, none⟩ (.int .i64 z) g1 (by simp; omega)).trans hb6)
          have HX6 := Lib.hid ((Below.heap_setCell w6 ⟨g2, 0, none⟩ (.int .i64 z) bx (by simp; omega)).trans hx6)
          have HZ6 := Lib.hid ((Below.heap_setCell w6 ⟨g2, 0, none⟩ (.int .i64 z) n0 (by simp; omega)).trans hz6)
          have HR6 := Lib.hid (hI6.setCell (p := ⟨g2, 0, none⟩) (by simp; omega) (by simp; omega) (.int .i64 z))
          have HC6 := Lib.hid ((HC.out.trans ((Chg.drew (Chg.refl _ w3)).trans hR6)).setCell (p := ⟨g2, 0, none⟩) (.inr (by simp; omega)) (.int .i64 z))
          clear hx6 hz6 ha6 hb6 hI6 hR6
          subst t45 t46 t47
          refine wpAny_one (f := 1) (i := 5) (by kernel_rfl) rfl rfl ?_
          go_simp
          refine wpAny_one (f := 0) (i := 6) (by kernel_rfl) rfl rfl ?_
          go_simp
          refine wpAny_end (by kernel_rfl) ?_
          go_upto_region 15 with (fail)
          refine wp_PN (fun W => PFs bx n0 N0 (some ⟨g1, 0, none⟩) q1 S (some ⟨g2, 0, none⟩) q2 (M.set 0 z) W ∧ Rd B rb A l c (m + 300) W ∧ Chg [rb] w W) ⟨⟨by rw [List.length_set]; exact HX6.out, nv_of HBb.out HI1.out, nv_of HA.out (in_set0 HI2.out hcs2), HZ6.out, fun a ha => by cases ha; exact hN1, fun a ha => by cases ha; exact hN2, ⟨by omega, by omega⟩, ⟨by rw [List.length_set]; have := HMS.out; omega, by rw [List.length_set]; have := HMS.out; omega⟩⟩, HR6.out.mono (by omega), HC6.out⟩ ?_
          clear HA HBb HX6 HZ6 HR6 HC6 dd ff
          clear HH1 HH2 HX HZ HR HC hr3 hc3
          rintro W ⟨hF, hR, hC⟩
          obtain ⟨c0, c1⟩ : W.cell? ⟨bx, 0, none⟩ = some _ ∧ W.cell? ⟨bx, 1, none⟩ = some _ := ⟨cellS hF.box 0, cellS hF.box 1⟩
          have c0' := (cellS hF.box 0).trans rfl
          have d0 := (cellS hF.z 0)
          have d1 := (cellS hF.z 1)
          have f0 := frozenS hF.z 0
          have f1 := frozenS hF.z 1
          have HF := Lib.hid hF
          have HR := Lib.hid hR
          have HC := Lib.hid hC
          clear hF hR hC c0'
          go_wp2
          refine bp_PN (fun W' => W'.heap[n0]? = some (.cells #[.slice (some ⟨g1, 0, none⟩) S.length q1, .slice (some ⟨g2, 0, none⟩) M.length q2] 35 (0, 0)) ∧ NV W' (some ⟨g1, 0, none⟩) S ∧ NV W' (some ⟨g2, 0, none⟩) (M.set 0 z) ∧ Rd B rb A l c (m + 300) W' ∧ Chg [rb] w W') ⟨putS2 HF.out.z _ _, nv_setP (nv_setP HF.out.n1 (fun a ha => by have hh := HF.out.b1 a ha; omega) _ _) (fun a ha => by have hh := HF.out.b1 a ha; omega) _ _, nv_setP (nv_setP HF.out.n2 (fun a ha => by have := HF.out.b2 a ha; omega) _ _) (fun a ha => by have := HF.out.b2 a ha; omega) _ _, (HR.out.setCell (p := ⟨n0, 0, none⟩) (by simp; omega) (by simpa using hb2) _).setCell (p := ⟨n0, 1, none⟩) (by simp; omega) (by simpa using hb2) _, (HC.out.setCell (p := ⟨n0, 0, none⟩) (.inr (by simp; omega)) _).setCell (p := ⟨n0, 1, none⟩) (.inr (by simp; omega)) _⟩ ?_
          have HQ : Hid ((S.length ≤ 6 ∧ S.length ≤ q1) ∧ ((M.set 0 z).length ≤ 6 ∧ (M.set 0 z).length ≤ q2) ∧ (∀ a : Addr, (some ⟨g1, 0, none⟩) = some a → N0 ≤ a.block) ∧ (∀ a : Addr, (some ⟨g2, 0, none⟩) = some a → N0 ≤ a.block)) := Lib.hid ⟨HF.out.l1, HF.out.l2, HF.out.b1, HF.out.b2⟩
          clear HF HR HC c0 c1 d0 d1 f0 f1
          rintro W2 ⟨hz, n1, n2, hR2, hC2⟩
          have d0 := cellS hz 0
          have d1 := cellS hz 1
          exact bodyPost_ret (v := .agg #[.slice (some ⟨g1, 0, none⟩) S.length q1, .slice (some ⟨g2, 0, none⟩) M.length q2]) (by simp only [results, Tryd.results33]; go_simp) rfl ⟨⟨_, _, _, _, _, _, (by rw [List.length_set]), n1, n2, HQ.out.1.1, HQ.out.2.1.1, HQ.out.1.2, HQ.out.2.1.2, fun a ha => by have := HQ.out.2.2.1 a ha; omega, fun a ha => by have := HQ.out.2.2.2 a ha; omega⟩, hR2, hC2⟩
      by_cases q20 : q = 2
      · subst q20
        have c0 := cellS HX.out 0
        have c1 := (cellS HX.out 1).trans rfl
        have f1 := frozenS HX.out 1
        have hm1 : (1 : Int) ≤ (M.length : Int) := by omega
        have hmq : M.length ≤ q2 := hq2
        by_cases hq : q2 = 1
        · subst hq
          have hM1 : M.length = 1 := by omega
          go_upto_region 15 with (fail)
          refine wp_PN (fun W => PFs bx n0 N0 (some ⟨g1, 0, none⟩) q1 S (some ⟨g2, 0, none⟩) 0 [] W ∧ Rd B rb A l c (m + 300) W ∧ Chg [rb] w W) ⟨⟨put2_1 HX.out _, nv_setP (nv_of HH1.out HI1.out) (fun a ha => by cases ha; simp; omega) _ _, NV.nil _ _, (Below.heap_setCell _ _ _ _ (by simp; omega)).trans HZ.out, fun a ha => by cases ha; exact hN1, fun a ha => by cases ha; exact hN2, ⟨by omega, by omega⟩, ⟨by simp, by simp⟩⟩, (HR.out.setCell (p := ⟨bx, 1, none⟩) (by simp; omega) (by simpa using hb1) _).mono (by omega), HC.out.setCell (p := ⟨bx, 1, none⟩) (.inr (by simp; omega)) _⟩ ?_
          clear c0 c1 f1
          clear HH1 HH2 HX HZ HR HC hr3 hc3
          rintro W ⟨hF, hR, hC⟩
          obtain ⟨c0, c1⟩ : W.cell? ⟨bx, 0, none⟩ = some _ ∧ W.cell? ⟨bx, 1, none⟩ = some _ := ⟨cellS hF.box 0, cellS hF.box 1⟩
          have c0' := (cellS hF.box 0).trans rfl
          have d0 := (cellS hF.z 0)
          have d1 := (cellS hF.z 1)
          have f0 := frozenS hF.z 0
          have f1 := frozenS hF.z 1
          have HF := Lib.hid hF
          have HR := Lib.hid hR
          have HC := Lib.hid hC
          clear hF hR hC c0'
          go_wp2
          refine bp_PN (fun W' => W'.heap[n0]? = some (.cells #[.slice (some ⟨g1, 0, none⟩) S.length q1, .slice (some ⟨g2, 0, none⟩) 0 0] 35 (0, 0)) ∧ NV W' (some ⟨g1, 0, none⟩) S ∧ NV W' (some ⟨g2, 0, none⟩) ([] : List Int) ∧ Rd B rb A l c (m + 300) W' ∧ Chg [rb] w W') ⟨putS2 HF.out.z _ _, nv_setP (nv_setP HF.out.n1 (fun a ha => by have hh := HF.out.b1 a ha; omega) _ _) (fun a ha => by have hh := HF.out.b1 a ha; omega) _ _, nv_setP (nv_setP HF.out.n2 (fun a ha => by have := HF.out.b2 a ha; omega) _ _) (fun a ha => by have := HF.out.b2 a ha; omega) _ _, (HR.out.setCell (p := ⟨n0, 0, none⟩) (by simp; omega) (by simpa using hb2) _).setCell (p := ⟨n0, 1, none⟩) (by simp; omega) (by simpa using hb2) _, (HC.out.setCell (p := ⟨n0, 0, none⟩) (.inr (by simp; omega)) _).setCell (p := ⟨n0, 1, none⟩) (.inr (by simp; omega)) _⟩ ?_
          have HQ : Hid ((S.length ≤ 6 ∧ S.length ≤ q1) ∧ (([] : List Int).length ≤ 6 ∧ ([] : List Int).length ≤ 0) ∧ (∀ a : Addr, (some ⟨g1, 0, none⟩) = some a → N0 ≤ a.block) ∧ (∀ a : Addr, (some ⟨g2, 0, none⟩) = some a → N0 ≤ a.block)) := Lib.hid ⟨HF.out.l1, HF.out.l2, HF.out.b1, HF.out.b2⟩
          clear HF HR HC c0 c1 d0 d1 f0 f1
          rintro W2 ⟨hz, n1, n2, hR2, hC2⟩
          have d0 := cellS hz 0
          have d1 := cellS hz 1
          exact bodyPost_ret (v := .agg #[.slice (some ⟨g1, 0, none⟩) S.length q1, .slice (some ⟨g2, 0, none⟩) 0 0]) (by simp only [results, Tryd.results33]; go_simp) rfl ⟨⟨_, _, _, _, _, _, rfl, n1, n2, HQ.out.1.1, HQ.out.2.1.1, HQ.out.1.2, HQ.out.2.1.2, fun a ha => by have := HQ.out.2.2.1 a ha; omega, fun a ha => by have := HQ.out.2.2.2 a ha; omega⟩, hR2, hC2⟩
        · go_upto_region 15 with (fail)
          refine wp_PN (fun W => PFs bx n0 N0 (some ⟨g1, 0, none⟩) q1 S (some ⟨g2, 1, none⟩) (q2 - 1) (M.drop 1) W ∧ Rd B rb A l c (m + 300) W ∧ Chg [rb] w W) ⟨⟨(put2_1 HX.out _).trans (by rw [List.length_drop]), nv_setP (nv_of HH1.out HI1.out) (fun a ha => by cases ha; simp; omega) _ _, nv_setP (nv_tail HH2.out HI2.out) (fun a ha => by cases ha; simp; omega) _ _, (Below.heap_setCell _ _ _ _ (by simp; omega)).trans HZ.out, fun a ha => by cases ha; exact hN1, fun a ha => by cases ha; exact hN2, ⟨by omega, by omega⟩, ⟨by rw [List.length_drop]; have := HMS.out; omega, by rw [List.length_drop]; have := HMS.out; omega⟩⟩, (HR.out.setCell (p := ⟨bx, 1, none⟩) (by simp; omega) (by simpa using hb1) _).mono (by omega), HC.out.setCell (p := ⟨bx, 1, none⟩) (.inr (by simp; omega)) _⟩ ?_
          clear c0 c1 f1
          clear HH1 HH2 HX HZ HR HC hr3 hc3
          rintro W ⟨hF, hR, hC⟩
          obtain ⟨c0, c1⟩ : W.cell? ⟨bx, 0, none⟩ = some _ ∧ W.cell? ⟨bx, 1, none⟩ = some _ := ⟨cellS hF.box 0, cellS hF.box 1⟩
          have c0' := (cellS hF.box 0).trans rfl
          have d0 := (cellS hF.z 0)
          have d1 := (cellS hF.z 1)
          have f0 := frozenS hF.z 0
          have f1 := frozenS hF.z 1
          have HF := Lib.hid hF
          have HR := Lib.hid hR
          have HC := Lib.hid hC
          clear hF hR hC c0'
          go_wp2
          refine bp_PN (fun W' => W'.heap[n0]? = some (.cells #[.slice (some ⟨g1, 0, none⟩) S.length q1, .slice (some ⟨g2, 1, none⟩) (M.length - 1) (q2 - 1)] 35 (0, 0)) ∧ NV W' (some ⟨g1, 0, none⟩) S ∧ NV W' (some ⟨g2, 1, none⟩) (M.drop 1) ∧ Rd B rb A l c (m + 300) W' ∧ Chg [rb] w W') ⟨putS2 HF.out.z _ _, nv_setP (nv_setP HF.out.n1 (fun a ha => by have hh := HF.out.b1 a ha; omega) _ _) (fun a ha => by have hh := HF.out.b1 a ha; omega) _ _, nv_setP (nv_setP HF.out.n2 (fun a ha => by have := HF.out.b2 a ha; omega) _ _) (fun a ha => by have := HF.out.b2 a ha; omega) _ _, (HR.out.setCell (p := ⟨n0, 0, none⟩) (by simp; omega) (by simpa using hb2) _).setCell (p := ⟨n0, 1, none⟩) (by simp; omega) (by simpa using hb2) _, (HC.out.setCell (p := ⟨n0, 0, none⟩) (.inr (by simp; omega)) _).setCell (p := ⟨n0, 1, none⟩) (.inr (by simp; omega)) _⟩ ?_
          have HQ : Hid ((S.length ≤ 6 ∧ S.length ≤ q1) ∧ ((M.drop 1).length ≤ 6 ∧ (M.drop 1).length ≤ (q2 - 1)) ∧ (∀ a : Addr, (some ⟨g1, 0, none⟩) = some a → N0 ≤ a.block) ∧ (∀ a : Addr, (some ⟨g2, 1, none⟩) = some a → N0 ≤ a.block)) := Lib.hid ⟨HF.out.l1, HF.out.l2, HF.out.b1, HF.out.b2⟩
          clear HF HR HC c0 c1 d0 d1 f0 f1
          rintro W2 ⟨hz, n1, n2, hR2, hC2⟩
          have d0 := cellS hz 0
          have d1 := cellS hz 1
          exact bodyPost_ret (v := .agg #[.slice (some ⟨g1, 0, none⟩) S.length q1, .slice (some ⟨g2, 1, none⟩) (M.length - 1) (q2 - 1)]) (by simp only [results, Tryd.results33]; go_simp) rfl ⟨⟨_, _, _, _, _, _, (by rw [List.length_drop]), n1, n2, HQ.out.1.1, HQ.out.2.1.1, HQ.out.1.2, HQ.out.2.1.2, fun a ha => by have := HQ.out.2.2.1 a ha; omega, fun a ha => by have := HQ.out.2.2.2 a ha; omega⟩, hR2, hC2⟩
      have e0 : (q == 0) = false := by simpa using q0
      have e1 : (q == 1) = false := by simpa using q10
      have e2 : (q == 2) = false := by simpa using q20
      clear q0 q10 q20
      go_upto_region 15 with (fail)
      refine wp_PN (fun W => PFs bx n0 N0 (some ⟨g1, 0, none⟩) q1 S (some ⟨g2, 0, none⟩) q2 M W ∧ Rd B rb A l c (m + 300) W ∧ Chg [rb] w W) ⟨⟨HX.out, nv_of HH1.out HI1.out, nv_of HH2.out HI2.out, HZ.out, fun a ha => by cases ha; exact hN1, fun a ha => by cases ha; exact hN2, ⟨by omega, by omega⟩, ⟨by have := HMS.out; omega, by have := HMS.out; omega⟩⟩, HR.out.mono (by omega), HC.out⟩ ?_
      clear HH1 HH2 HX HZ HR HC hr3 hc3
      rintro W ⟨hF, hR, hC⟩
      obtain ⟨c0, c1⟩ : W.cell? ⟨bx, 0, none⟩ = some _ ∧ W.cell? ⟨bx, 1, none⟩ = some _ := ⟨cellS hF.box 0, cellS hF.box 1⟩
      have c0' := (cellS hF.box 0).trans rfl
      have d0 := (cellS hF.z 0)
      have d1 := (cellS hF.z 1)
      have f0 := frozenS hF.z 0
      have f1 := frozenS hF.z 1
      have HF := Lib.hid hF
      have HR := Lib.hid hR
      have HC := Lib.hid hC
      clear hF hR hC c0'
      go_wp2
      refine bp_PN (fun W' => W'.heap[n0]? = some (.cells #[.slice (some ⟨g1, 0, none⟩) S.length q1, .slice (some ⟨g2, 0, none⟩) M.length q2] 35 (0, 0)) ∧ NV W' (some ⟨g1, 0, none⟩) S ∧ NV W' (some ⟨g2, 0, none⟩) M ∧ Rd B rb A l c (m + 300) W' ∧ Chg [rb] w W') ⟨putS2 HF.out.z _ _, nv_setP (nv_setP HF.out.n1 (fun a ha => by have hh := HF.out.b1 a ha; omega) _ _) (fun a ha => by have hh := HF.out.b1 a ha; omega) _ _, nv_setP (nv_setP HF.out.n2 (fun a ha => by have := HF.out.b2 a ha; omega) _ _) (fun a ha => by have := HF.out.b2 a ha; omega) _ _, (HR.out.setCell (p := ⟨n0, 0, none⟩) (by simp; omega) (by simpa using hb2) _).setCell (p := ⟨n0, 1, none⟩) (by simp; omega) (by simpa using hb2) _, (HC.out.setCell (p := ⟨n0, 0, none⟩) (.inr (by simp; omega)) _).setCell (p := ⟨n0, 1, none⟩) (.inr (by simp; omega)) _⟩ ?_
      have HQ : Hid ((S.length ≤ 6 ∧ S.length ≤ q1) ∧ (M.length ≤ 6 ∧ M.length ≤ q2) ∧ (∀ a : Addr, (some ⟨g1, 0, none⟩) = some a → N0 ≤ a.block) ∧ (∀ a : Addr, (some ⟨g2, 0, none⟩) = some a → N0 ≤ a.block)) := Lib.hid ⟨HF.out.l1, HF.out.l2, HF.out.b1, HF.out.b2⟩
      clear HF HR HC c0 c1 d0 d1 f0 f1
      rintro W2 ⟨hz, n1, n2, hR2, hC2⟩
      have d0 := cellS hz 0
      have d1 := cellS hz 1
      exact bodyPost_ret (v := .agg #[.slice (some ⟨g1, 0, none⟩) S.length q1, .slice (some ⟨g2, 0, none⟩) M.length q2]) (by simp only [results, Tryd.results33]; go_simp) rfl ⟨⟨_, _, _, _, _, _, rfl, n1, n2, HQ.out.1.1, HQ.out.2.1.1, HQ.out.1.2, HQ.out.2.1.2, fun a ha => by have := HQ.out.2.2.1 a ha; omega, fun a ha => by have := HQ.out.2.2.2 a ha; omega⟩, hR2, hC2⟩
    · have hd : decide (((k + 1 : Nat) : Int) > 0) = true := by simp
      go_wp2_with fail
      with_reducible refine (one_lit _ hr (by omega) (by simp) (by omega) (by omega) (by simp [isI])).mono ?_
      rintro e w3 ⟨⟨z, rfl⟩, hr3, hc3⟩
      have HW := Lib.hid (hW.chg hc3 hb1 hb2 hb3)
      have HR := Lib.hid hr3
      have HC := Lib.hid (hcc.trans hc3)
      have hs3 : N0 ≤ w3.heap.size := by have := hc3.size; omega
      have c1 := cellS HW.out.box 1
      have hobM := HW.out.sv.lt
      clear hW hr hcc hr3 hc3
      go_wp2_with (at_builtin; refine wpList_append_at _ rfl _ _ 33 rfl N0 3 ti tz 1 8 Tryd.underlying33 ti1 ti2 ti3 ti4 ti5 (by decide) _ _ _ rfl (HW.out.sv.alloc _) ⟨w3.heap.size, 0, none⟩ 1 1 [.int .i64 z] rfl rfl (new1 _ _ _) (by simp [Value.oneCell']) (by have := HMS.out; simp only [maxLen]; omega) (by have := HMS.out; omega) (by simp; omega) (by omega) ?_)
      intro v5 w5 how5 hgr5 hat5
      obtain ⟨A5, c5, hv5⟩ := own_sliceP how5
      subst hv5
      have hbx5 := (hgr5.block bx (by have := ltS HW.out.box; simp; omega) (fun e => by have := hobM bx e.symm; omega)).trans ((HW.out.alloc _).box)
      have HW5 := Lib.hid ((HW.out.alloc _).addM hbN hnN hnb how5 hgr5 (by simpa using hat5))
      have HR5 := Lib.hid ((rd_ofP (HR.out.alloc _) hgr5 (fun k hk => by have := hobM k hk; omega)).setCell (p := ⟨bx, 1, none⟩) (by simp; omega) (by simpa using hb1) (.slice A5 (M.length + 1) c5))
      have HC5 := Lib.hid ((chg_ofP (HC.out.alloc _) hgr5 (fun k hk => by have := hobM k hk; omega)).setCell (p := ⟨bx, 1, none⟩) (.inr (by simp; omega)) (.slice A5 (M.length + 1) c5))
      have hs5 : w3.heap.size ≤ w5.heap.size := by have := hgr5.size; simp at this; omega
      have dd := cellS hbx5 1
      have ff := frozenS hbx5 1
      clear how5 hgr5 hat5 hobM c1 hbx5 HW HR HC
      go_upto_region 7 with (fail)
      obtain ⟨v5, hv5⟩ : ∃ v5, Value.slice A5 (M.length + 1) c5 = v5 := ⟨_, rfl⟩
      refine wp_PN (fun W => PW bx n0 N0 S (M ++ [z]) u v5 W ∧ Rd B rb A l c (m + 2 + 40 * S.length) W ∧ Chg [rb] w W ∧ N0 ≤ W.heap.size) ⟨by rw [← hv5]; exact HW5.out, HR5.out.mono (by omega), HC5.out, by simp [World.setCell]; omega⟩ ?_
      clear HW5 HR5 HC5 dd ff hs5
      rintro wa ⟨hW, hR, hC, hsa⟩
      have HW := Lib.hid hW
      have HR := Lib.hid hR
      have HC := Lib.hid hC
      have hbl := ltS hW.box
      clear hW hR hC hv5
      refine wp_region_rgp (fun k => ((fun v _ => v = .pointer (some ⟨bx, 0, none⟩)) :: (fun v _ => v = u) :: (fun v _ => v = .int .i64 z) :: (fun v _ => v = .pointer (some ⟨rb, 0, none⟩)) :: (TL B [rb] 4) :: (fun v _ => ∃ z : Int, v = .int .i64 z) :: (fun v _ => ∃ z : Int, v = .int .i64 z) :: (OneI wa.heap.size) :: []).getD k (fun _ _ => True)) (Chg [rb]) (fun mm w => Rd B rb A l c (m + 2 + 40 * S.length + mm) w) 8 (by kernel_rfl) (by kernel_rfl) (by kernel_rfl) (fun a => Chg.refl _ a) (fun _ _ _ h k => h.trans k) ?hTs ?hI0 ?hops ?hfin
      case hops =>
        refine ⟨opOK_ds [(3, none)] (by kernel_rfl) rfl ?_, ?_⟩
        · intro mm act w' hm' hR hI h1
          have hk : ∀ v, act.eval (.const v) = v := fun _ => rfl
          have hf : ∀ f, act.eval (.func f) = .func (.func f) #[] #[] := fun _ => rfl
          generalize act.eval = ρ at *
          have hm : mm < 11 := hm'
          replace h1 : ρ (.tmp 3) = .pointer (some ⟨bx, 0, none⟩) := h1
          refine gx_genP (fun K hK => ?_)
          go_simp
          exact hK _ _ ⟨rfl, Chg.refl _ _, hI.mono (by omega)⟩
        refine ⟨opOK_ds [(23, some 0)] (by kernel_rfl) rfl ?_, ?_⟩
        · intro mm act w' hm' hR hI h1
          have hk : ∀ v, act.eval (.const v) = v := fun _ => rfl
          have hf : ∀ f, act.eval (.func f) = .func (.func f) #[] #[] := fun _ => rfl
          generalize act.eval = ρ at *
          have hm : mm < 11 := hm'
          replace h1 : ρ (.tmp 23) = .pointer (some ⟨bx, 0, none⟩) := h1
          refine gx_genP (fun K hK => ?_)
          obtain ⟨d0, d1⟩ : w'.cell? ⟨bx, 0, none⟩ = some u ∧ w'.cell? ⟨bx, 1, none⟩ = some v5 := by
            have hb := (hR.block bx (by simpa using hbl) (by simpa using hb1)).trans HW.out.box
            exact ⟨cellS hb 0, cellS hb 1⟩
          go_simp
          exact hK _ _ ⟨rfl, Chg.refl _ _, hI.mono (by omega)⟩
        refine ⟨opOK_ds [(5, none)] (by kernel_rfl) rfl ?_, ?_⟩
        · intro mm act w' hm' hR hI h1
          have hk : ∀ v, act.eval (.const v) = v := fun _ => rfl
          have hf : ∀ f, act.eval (.func f) = .func (.func f) #[] #[] := fun _ => rfl
          generalize act.eval = ρ at *
          have hm : mm < 11 := hm'
          replace h1 : ρ (.tmp 5) = .int .i64 z := h1
          refine gx_genP (fun K hK => ?_)
          go_simp
          exact hK _ _ ⟨rfl, Chg.refl _ _, hI.mono (by omega)⟩
        refine ⟨opOK_ds [(0, none)] (by kernel_rfl) rfl ?_, ?_⟩
        · intro mm act w' hm' hR hI h1
          have hk : ∀ v, act.eval (.const v) = v := fun _ => rfl
          have hf : ∀ f, act.eval (.func f) = .func (.func f) #[] #[] := fun _ => rfl
          generalize act.eval = ρ at *
          have hm : mm < 11 := hm'
          replace h1 : ρ (.tmp 0) = .pointer (some ⟨rb, 0, none⟩) := h1
          refine gx_genP (fun K hK => ?_)
          go_simp
          exact hK _ _ ⟨rfl, Chg.refl _ _, hI.mono (by omega)⟩
        refine ⟨opOK_ds [] (by kernel_rfl) rfl ?_, ?_⟩
        · intro mm act w' hm' hR hI 
          have hk : ∀ v, act.eval (.const v) = v := fun _ => rfl
          have hf : ∀ f, act.eval (.func f) = .func (.func f) #[] #[] := fun _ => rfl
          generalize act.eval = ρ at *
          have hm : mm < 11 := hm'
          refine gx_genP (fun K hK => ?_)
          have hrl := hI.lt
          go_simp
          exact hK _ _ ⟨TL.lit (by omega) (by simp; omega) (by simp) (by simp [isI]), (Chg.refl _ _).alloc _, (hI.alloc _).mono (by omega)⟩
        refine ⟨opOK_ds [(26, some 3), (27, some 4)] (by kernel_rfl) rfl ?_, ?_⟩
        · intro mm act w' hm' hR hI h1 h2
          have hk : ∀ v, act.eval (.const v) = v := fun _ => rfl
          have hf : ∀ f, act.eval (.func f) = .func (.func f) #[] #[] := fun _ => rfl
          generalize act.eval = ρ at *
          have hm : mm < 11 := hm'
          replace h1 : ρ (.tmp 26) = .pointer (some ⟨rb, 0, none⟩) := h1
          replace h2 : (TL B [rb] 4) (ρ (.tmp 27)) w' := h2
          refine gx_genP (fun K hK => ?_)
          go_simp
          with_reducible refine (one_any _ hI (by omega) h2 (by omega) (by omega)).mono ?_
          rintro e w1 ⟨⟨z, rfl⟩, hr, hc⟩
          exact ⟨_, rfl, hK _ _ ⟨⟨z, rfl⟩, hc, hr.mono (by omega)⟩⟩
        refine ⟨opOK_ds [(25, some 2), (28, some 5)] (by kernel_rfl) rfl ?_, ?_⟩
        · intro mm act w' hm' hR hI h1 h2
          have hk : ∀ v, act.eval (.const v) = v := fun _ => rfl
          have hf : ∀ f, act.eval (.func f) = .func (.func f) #[] #[] := fun _ => rfl
          generalize act.eval = ρ at *
          have hm : mm < 11 := hm'
          replace h1 : ρ (.tmp 25) = .int .i64 z := h1
          replace h2 : (fun v _ => ∃ z : Int, v = .int .i64 z) (ρ (.tmp 28)) w' := h2
          refine gx_genP (fun K hK => ?_)
          obtain ⟨z2, h2⟩ := h2
          go_simp
          exact hK _ _ ⟨⟨_, rfl⟩, Chg.refl _ _, hI.mono (by omega)⟩
        refine ⟨opOK_ds [(29, some 6)] (by kernel_rfl) rfl ?_, ?_⟩
        · intro mm act w' hm' hR hI h1
          have hk : ∀ v, act.eval (.const v) = v := fun _ => rfl
          have hf : ∀ f, act.eval (.func f) = .func (.func f) #[] #[] := fun _ => rfl
          generalize act.eval = ρ at *
          have hm : mm < 11 := hm'
          replace h1 : (fun v _ => ∃ z : Int, v = .int .i64 z) (ρ (.tmp 29)) w' := h1
          refine gx_genP (fun K hK => ?_)
          obtain ⟨z2, h1⟩ := h1
          go_simp
          exact hK _ _ ⟨⟨_, _, rfl, hR.size, newS _ _⟩, (Chg.refl _ _).alloc _, (hI.alloc _).mono (by omega)⟩
        exact trivial
      case hTs =>
        intro k v x y hv hc
        exact stab_listP (by
          intro T hT
          simp only [List.mem_cons, List.not_mem_nil, or_false] at hT
          rcases hT with rfl | rfl | rfl | rfl | rfl | rfl | rfl | rfl <;> first | exact fun v a b h _ => h | exact stabI _ _ (by omega) | exact fun v a b h hc => TL.keep h hc)
          k v x y hv hc
      case hI0 => exact (HR.out.drew).mono (by omega)
      case hfin =>
        intro w6 hR6 hI6
        intro v23 t23 v24 t24 v25 t25 v26 t26 v27 t27 v28 t28 v29 t29 v30 t30
        have e24 : v24 = u := t24
        obtain ⟨x, g, rfl, hg, hgc⟩ : OneI wa.heap.size v30 w6 := t30
        subst e24
        simp only [List.take, finP, Act.put, List.setIfInBounds_toArray, List.set_cons_succ, List.set_cons_zero]
        have hW6 := HW.out.drew.chg hR6 hb1 hb2 hb3
        have hnews : ∀ (j : Nat) (u : Value), [Value.int .i64 x][j]? = some u → w6.cell? ((⟨g, 0, none⟩ : Addr).add j) = some u := fun j u hu => by
          have hadd : (⟨g, 0, none⟩ : Addr).add j = ⟨g, j, none⟩ := by unfold Addr.add; split <;> simp_all
          rw [hadd]
          exact (cellS hgc j).trans (by simpa using hu)
        have hs6 : wa.heap.size ≤ w6.heap.size := hR6.size
        obtain ⟨v8, w8, hap, how8, hgr8, hat8⟩ := run_append_two (P := Tryd.prog) w6 N0 33 33 3 ti tz 1 8 Tryd.underlying33 ti1 ti2 ti3 ti4 ti5 (by decide) _ S.length (nvals S) hW6.su ⟨g, 0, none⟩ 1 1 [.int .i64 x] rfl hnews (by simp [Value.oneCell']) (by simp only [maxLen]; omega) (by omega) (by omega) (by omega)
        have hob : ∀ k, v24.ownBlock = some k → N0 ≤ k := fun k hk => (hW6.su.lt k hk).1
        have hr8 := rd_ofP hI6 hgr8 (fun k hk => by have := hob k hk; omega)
        have hc8 := chg_ofP (HC.out.trans ((Chg.drew (Chg.refl _ wa)).trans hR6)) hgr8 (fun k hk => by have := hob k hk; omega)
        obtain ⟨A8, c8, rfl⟩ := own_sliceP how8
        have hbx8 := (hgr8.block bx (ltS hW6.box) (fun e => by have := hob bx e.symm; omega)).trans hW6.box
        have dd := cellS hbx8 0
        have ff := frozenS hbx8 0
        have HW8 := Lib.hid (hW6.addS hbN hnN hnb how8 hgr8 hat8)
        have HR8 := Lib.hid (hr8.setCell (p := ⟨bx, 0, none⟩) (by simp; omega) (by simpa using hb1) (.slice A8 (S.length + 1) c8))
        have HC8 := Lib.hid (hc8.setCell (p := ⟨bx, 0, none⟩) (.inr (by simp; omega)) (.slice A8 (S.length + 1) c8))
        have hs8 : N0 ≤ w8.heap.size := by have := hgr8.size; omega
        clear hW6 hnews how8 hgr8 hob hr8 hc8 hbx8 hgc hI6 hR6 hat8
        subst t23 t25 t26
        refine wpAny_one (f := 2) (i := 8) (by kernel_rfl) rfl rfl ?_
        refine upon_appendP (.tmp 24) (.tmp 30) 33 rfl rfl rfl hap ?_
        simp only [Act.put, List.setIfInBounds_toArray, List.set_cons_succ, List.set_cons_zero]
        refine wpAny_one (f := 1) (i := 9) (by kernel_rfl) rfl rfl ?_
        go_simp
        refine wpAny_one (f := 0) (i := 10) (by kernel_rfl) rfl rfl ?_
        go_simp
        refine wpAny_end (by kernel_rfl) ?_
        clear dd ff hap
        go_wp2
        go_roundw
        case rel => exact ⟨k, by go_num, S ++ [x], M ++ [z], _, _, by simp; omega, by simp; exact HMS.out, HW8.out, HR8.out.mono (by simp; omega), HC8.out, by simpa [World.setCell] using hs8⟩
        case measure => simp [intOf]
end Go.Proofs.YtjdjahckdgbkbaeDoor
end
