import Derived.Test.YtfhjmmajhohkjabQ02
section
set_option linter.unusedVariables false
namespace Go.Proofs.Ytfhjmmajhohkjab
/-- an item that is placed -/
structure Plc where
  x : Int
  y : Int
  rx : Int
  ry : Int
  ww : Int
  hh : Int
  qw : Int
  qh : Int
  an : Int
def shB (n : Int) : Bool := rng n (-300) 300
def reB (n : Int) : Bool := rng n 0 1000
def plB (p : Plc) : Bool := [p.x, p.y, p.ww, p.hh].all shB && ([p.rx, p.ry, p.qw, p.qh].all reB && rng p.an 0 8)
theorem plB_iff {p : Plc} : plB p = true ↔ ((-300 ≤ p.x ∧ p.x ≤ 300) ∧ (-300 ≤ p.y ∧ p.y ≤ 300) ∧ (0 ≤ p.rx ∧ p.rx ≤ 1000) ∧ (0 ≤ p.ry ∧ p.ry ≤ 1000) ∧ (-300 ≤ p.ww ∧ p.ww ≤ 300) ∧ (-300 ≤ p.hh ∧ p.hh ≤ 300) ∧ (0 ≤ p.qw ∧ p.qw ≤ 1000) ∧ (0 ≤ p.qh ∧ p.qh ≤ 1000) ∧ (0 ≤ p.an ∧ p.an ≤ 8)) := by
  simp only [plB, shB, reB, List.all_cons, List.all_nil, Bool.and_true, Bool.and_eq_true, rng_iff]
  omega
/-- so many thousandths -/
def thM (m s : Int) : Int := m * s / 1000
theorem th_prod {m s : Int} (h1 : 0 ≤ m) (h2 : m ≤ 1000) (h3 : 0 ≤ s) (h4 : s ≤ 400) : 0 ≤ m * s ∧ m * s ≤ 400000 := by
  refine ⟨Int.mul_nonneg h1 h3, ?_⟩
  have e1 : m * s ≤ 1000 * s := Int.mul_le_mul_of_nonneg_right h2 h3
  omega
theorem th_bd {m s : Int} (h1 : 0 ≤ m) (h2 : m ≤ 1000) (h3 : 0 ≤ s) (h4 : s ≤ 400) : 0 ≤ thM m s ∧ thM m s ≤ 400 := by
  have := th_prod h1 h2 h3 h4
  unfold thM; omega
theorem th_zero (s : Int) : thM 0 s = 0 := by simp [thM]
/-- the sizes and the place -/
def wM (p : Plc) (w : Int) : Int := mx (p.ww + thM p.qw w) 0
def hM (p : Plc) (h : Int) : Int := mx (p.hh + thM p.qh h) 0
def xM (p : Plc) (w : Int) : Int := p.x + thM p.rx w - wM p w * (p.an % 3) / 2
def yM (p : Plc) (h : Int) : Int := p.y + thM p.ry h - hM p h * (p.an / 3) / 2
def rqB (w h : Int) : Bool := rng w 0 400 && rng h 0 400
theorem rqB_iff {w h : Int} : rqB w h = true ↔ ((0 ≤ w ∧ w ≤ 400) ∧ (0 ≤ h ∧ h ≤ 400)) := by simp only [rqB, Bool.and_eq_true, rng_iff]
def prB (p : Plc) (w h : Int) : Bool := plB p && rqB w h
theorem half_bd {s k : Int} (h1 : 0 ≤ s) (h2 : s ≤ 700) (h3 : 0 ≤ k) (h4 : k ≤ 2) : 0 ≤ s * k ∧ s * k ≤ 1400 ∧ 0 ≤ s * k / 2 ∧ s * k / 2 ≤ 700 := by
  have e1 : 0 ≤ s * k := Int.mul_nonneg h1 h3
  have e2 : s * k ≤ s * 2 := Int.mul_le_mul_of_nonneg_left h4 h1
  omega
/-- all that the walks want to know of sizes -/
structure PlBd (p : Plc) (w h : Int) : Prop where
  t1 : 0 ≤ thM p.rx w ∧ thM p.rx w ≤ 400
  t2 : 0 ≤ thM p.ry h ∧ thM p.ry h ≤ 400
  t3 : 0 ≤ thM p.qw w ∧ thM p.qw w ≤ 400
  t4 : 0 ≤ thM p.qh h ∧ thM p.qh h ≤ 400
  w1 : 0 ≤ wM p w ∧ wM p w ≤ 700
  h1 : 0 ≤ hM p h ∧ hM p h ≤ 700
  a1 : 0 ≤ p.an % 3 ∧ p.an % 3 ≤ 2
  a2 : 0 ≤ p.an / 3 ∧ p.an / 3 ≤ 2
  p1 : 0 ≤ wM p w * (p.an % 3) ∧ wM p w * (p.an % 3) ≤ 1400 ∧ 0 ≤ wM p w * (p.an % 3) / 2 ∧ wM p w * (p.an % 3) / 2 ≤ 700
  p2 : 0 ≤ hM p h * (p.an / 3) ∧ hM p h * (p.an / 3) ≤ 1400 ∧ 0 ≤ hM p h * (p.an / 3) / 2 ∧ hM p h * (p.an / 3) / 2 ≤ 700
theorem pl_bd {p : Plc} {w h : Int} (hp : plB p = true) (hr : rqB w h = true) : PlBd p w h := by
  obtain ⟨b1, b2, b3, b4, b5, b6, b7, b8, b9⟩ := plB_iff.1 hp
  obtain ⟨r1, r2⟩ := rqB_iff.1 hr
  have t1 := th_bd b3.1 b3.2 r1.1 r1.2
  have t2 := th_bd b4.1 b4.2 r2.1 r2.2
  have t3 := th_bd b7.1 b7.2 r1.1 r1.2
  have t4 := th_bd b8.1 b8.2 r2.1 r2.2
  have w1 : 0 ≤ wM p w ∧ wM p w ≤ 700 := by have := mx_spec (p.ww + thM p.qw w) 0; unfold wM; omega
  have h1 : 0 ≤ hM p h ∧ hM p h ≤ 700 := by have := mx_spec (p.hh + thM p.qh h) 0; unfold hM; omega
  have a1 : 0 ≤ p.an % 3 ∧ p.an % 3 ≤ 2 := by omega
  have a2 : 0 ≤ p.an / 3 ∧ p.an / 3 ≤ 2 := by omega
  exact ⟨t1, t2, t3, t4, w1, h1, a1, a2, half_bd w1.1 w1.2 a1.1 a1.2, half_bd h1.1 h1.2 a2.1 a2.2⟩
theorem PlBd.x1 {p : Plc} {w h : Int} (b : PlBd p w h) (hp : plB p = true) : -1000 ≤ xM p w ∧ xM p w ≤ 700 := by
  obtain ⟨b1, _⟩ := plB_iff.1 hp
  obtain ⟨t1, t2, t3, t4, w1, h1, a1, a2, p1, p2⟩ := b
  unfold xM; omega
theorem PlBd.y1 {p : Plc} {w h : Int} (b : PlBd p w h) (hp : plB p = true) : -1000 ≤ yM p h ∧ yM p h ≤ 700 := by
  obtain ⟨_, b2, _⟩ := plB_iff.1 hp
  obtain ⟨t1, t2, t3, t4, w1, h1, a1, a2, p1, p2⟩ := b
  unfold yM; omega
/-- whether it lies inside -/
def piB (p : Plc) (w h : Int) : Bool := insB 0 0 w h (xM p w) (yM p h) (wM p w) (hM p h)
/-- the least size -/
def LeM (p : Plc) (v : Int) : Prop := (0 ≤ v ∧ v ≤ 400 ∧ piB p v v = true ∧ ∀ j : Int, 0 ≤ j → j < v → piB p j j = false) ∨ (v = -1 ∧ ∀ j : Int, 0 ≤ j → j ≤ 400 → piB p j j = false)
theorem LeM_uniq {p : Plc} {a b : Int} (ha : LeM p a) (hb : LeM p b) : a = b := by
  rcases ha with ⟨a0, a1, a2, a3⟩ | ⟨rfl, a1⟩ <;> rcases hb with ⟨b0, b1, b2, b3⟩ | ⟨rfl, b1⟩
  · rcases Int.lt_trichotomy a b with h | h | h
    · have := b3 a a0 h; rw [this] at a2; cases a2
    · exact h
    · have := a3 b b0 h; rw [this] at b2; cases b2
  · have := b1 a a0 a1; rw [this] at a2; cases a2
  · have := a1 b b0 b1; rw [this] at b2; cases b2
  · rfl
theorem le_step {p : Plc} {k : Nat} (h : ∀ j : Int, 0 ≤ j → j < k → piB p j j = false) (hk : piB p k k = false) : ∀ j : Int, 0 ≤ j → j < ((k + 1 : Nat) : Int) → piB p j j = false := fun j j0 j1 => by
  by_cases e : j = k
  · subst e; exact hk
  · exact h j j0 (by omega)
/-- the item that is told another place; what is fixed -/
def atM (p : Plc) (w h x y : Int) : Plc := ⟨p.x + (x - xM p w), p.y + (y - yM p h), p.rx, p.ry, p.ww, p.hh, p.qw, p.qh, p.an⟩
def fixM (p : Plc) (w h : Int) : Plc := ⟨p.x + thM p.rx w, p.y + thM p.ry h, 0, 0, wM p w, hM p h, 0, 0, p.an⟩
def paB (p : Plc) (w h x y : Int) : Bool := prB p w h && (shB x && (shB y && plB (atM p w h x y)))
def fxB (p : Plc) (w h : Int) : Bool := prB p w h && plB (fixM p w h)
end Go.Proofs.Ytfhjmmajhohkjab
namespace Go.Proofs.Ytfhjmmajhohkjab
def Sq (a b c d : Int) : Prop := (-2000 ≤ a ∧ a ≤ 2000) ∧ (-2000 ≤ b ∧ b ≤ 2000) ∧ (-2000 ≤ c ∧ c ≤ 2000) ∧ (-2000 ≤ d ∧ d ≤ 2000)
theorem Sq.sm {a b c d : Int} (h : Sq a b c d) : Sm a b c d := by
  obtain ⟨h1, h2, h3, h4⟩ := h
  exact Sm_of (by omega)
theorem Sq.cover {x y u v x' y' u' v' : Int} (h : Sq x y u v) (h' : Sq x' y' u' v') : Sm (mn x x') (mn y y') (mx (x + u) (x' + u')) (mx (y + v) (y' + v')) ∧ Sq (mn x x') (mn y y') 0 0 ∧ (-4000 ≤ mx (x + u) (x' + u') ∧ mx (x + u) (x' + u') ≤ 4000) ∧ (-4000 ≤ mx (y + v) (y' + v') ∧ mx (y + v) (y' + v') ≤ 4000) := by
  obtain ⟨h1, h2, h3, h4⟩ := h
  obtain ⟨k1, k2, k3, k4⟩ := h'
  have := mn_spec x x'; have := mn_spec y y'; have := mx_spec (x + u) (x' + u'); have := mx_spec (y + v) (y' + v')
  refine ⟨Sm_of (by omega), ⟨by omega, by omega, by omega, by omega⟩, by omega, by omega⟩
theorem holds_all {x y u v x' y' u' v' : Int} :
    (mn x x' = x ∧ mn y y' = y ∧ mx (x + u) (x' + u') - mn x x' = u ∧ mx (y + v) (y' + v') - mn y y' = v) ↔ (x ≤ x' ∧ y ≤ y' ∧ x' + u' ≤ x + u ∧ y' + v' ≤ y + v) := by
  have := mn_spec x x'; have := mn_spec y y'; have := mx_spec (x + u) (x' + u'); have := mx_spec (y + v) (y' + v')
  omega
theorem pl_sq {p : Plc} {w h : Int} (hp : plB p = true) (hr : rqB w h = true) : Sq (xM p w) (yM p h) (wM p w) (hM p h) := by
  have b := pl_bd hp hr
  have b1 := b.x1 hp
  have b2 := b.y1 hp
  have b3 := b.w1
  have b4 := b.h1
  exact ⟨by omega, by omega, by omega, by omega⟩
theorem rm_sq {w h : Int} (hr : rqB w h = true) : Sq 0 0 w h := by
  obtain ⟨r1, r2⟩ := rqB_iff.1 hr
  exact ⟨by omega, by omega, by omega, by omega⟩
theorem le_ex (p : Plc) : ∃ v, LeM p v := by
  have key : ∀ k : Nat, k ≤ 401 → (∃ v, LeM p v) ∨ ∀ j : Int, 0 ≤ j → j < k → piB p j j = false := by
    intro k
    induction k with
    | zero => intro _; exact .inr (fun j h1 h2 => by omega)
    | succ k ih =>
      intro hk
      rcases ih (by omega) with h | h
      · exact .inl h
      · cases hp : piB p (k : Int) (k : Int)
        · exact .inr (le_step h hp)
        · exact .inl ⟨k, .inl ⟨by omega, by omega, hp, h⟩⟩
  rcases key 401 (Nat.le_refl _) with h | h
  · exact h
  · exact ⟨-1, .inr ⟨rfl, fun j h0 h1 => h j h0 (by omega)⟩⟩
theorem prB_yes {p : Plc} {w h : Int} (e : prB p w h = true) : plB p = true ∧ rqB w h = true := by simpa [prB] using e
theorem atM_bd {p : Plc} {w h x y : Int} (e : paB p w h x y = true) : plB p = true ∧ rqB w h = true ∧ shB x = true ∧ shB y = true ∧ plB (atM p w h x y) = true := by
  simp only [paB, prB, Bool.and_eq_true] at e
  exact ⟨e.1.1, e.1.2, e.2.1, e.2.2.1, e.2.2.2⟩
end Go.Proofs.Ytfhjmmajhohkjab
end
section
namespace Go.Proofs.Ytfhjmmajhohkjab
open Go.RowKit
set_option linter.unusedVariables false
set_option maxHeartbeats 1000000
theorem inRange_q (n a b : Int) (t : Bool) (w : World) (h : rng n a b = t) : Calls Try.prog 48 #[.int .i64 n, .int .i64 a, .int .i64 b] w fun e w' => e = .returned (.bool t) ∧ w = w' := by rw [← h]; exact inRange_any n a b w
theorem within_q (n a b : Int) (t : Bool) (w : World) (h : rng n a b = t) : Calls Try.prog 53 #[.int .i64 n, .int .i64 a, .int .i64 b] w fun e w' => e = .returned (.bool t) ∧ w = w' := by rw [← h]; exact within_any n a b w
theorem shift_t (n : Int) (t : Bool) (w : World) (h : shB n = t) : Calls Try.prog 34 #[.int .i64 n] w fun e w' => e = .returned (.bool t) ∧ w = w' := by
  go_enter Try.func34, Try.ntmps34
  go_wp2_with (go_at_call 53; refine (within_q _ _ _ t _ h).mono ?_; rintro e w' ⟨rfl, rfl⟩)
  go_ret
  exact ⟨rfl, rfl⟩
theorem rel_t (n : Int) (t : Bool) (w : World) (h : reB n = t) : Calls Try.prog 35 #[.int .i64 n] w fun e w' => e = .returned (.bool t) ∧ w = w' := by
  go_enter Try.func35, Try.ntmps35
  go_wp2_with (go_at_call 53; refine (within_q _ _ _ t _ h).mono ?_; rintro e w' ⟨rfl, rfl⟩)
  go_ret
  exact ⟨rfl, rfl⟩
theorem anch_t (k : Int) (t : Bool) (w : World) (h : rng k 0 8 = t) : Calls Try.prog 36 #[.int .i64 k] w fun e w' => e = .returned (.bool t) ∧ w = w' := by
  go_enter Try.func36, Try.ntmps36
  go_wp2_with (go_at_call 53; refine (within_q _ _ _ t _ h).mono ?_; rintro e w' ⟨rfl, rfl⟩)
  go_ret
  exact ⟨rfl, rfl⟩
theorem sanch_t (k : Int) (t : Bool) (w : World) (h : rng k 0 8 = t) : Calls Try.prog 54 #[.int .i64 k] w fun e w' => e = .returned (.bool t) ∧ w = w' := by
  go_enter Try.func54, Try.ntmps54
  go_wp2_with (go_at_call 48; refine (inRange_q _ _ _ t _ h).mono ?_; rintro e w' ⟨rfl, rfl⟩)
  go_ret
  exact ⟨rfl, rfl⟩
theorem all_snocQ {f : Int → Bool} {L : List Int} {k : Nat} {p : Int} (h : L[k]? = some p) : (L.take (k + 1)).all f = ((L.take k).all f && f p) := by
  have hk : k < L.length := (List.getElem?_eq_some_iff.1 h).1
  have e : L[k] = p := (List.getElem?_eq_some_iff.1 h).2
  rw [List.take_succ_eq_append_getElem hk, e]
  simp
theorem new_q (w : World) (o : Obj) : (w.alloc o).heap[w.heap.size]? = some o := by
  show (w.heap.push o)[w.heap.size]? = some o
  simp
theorem newq1 (w : World) (o o' : Obj) : ((w.alloc o).alloc o').heap[w.heap.size + 1]? = some o' := by
  have := new_q (w.alloc o) o'; rwa [World.size_alloc] at this
theorem newq2 (w : World) (o o' o2 : Obj) : (((w.alloc o).alloc o').alloc o2).heap[w.heap.size + 1 + 1]? = some o2 := by
  have := newq1 (w.alloc o) o' o2; rwa [World.size_alloc] at this
theorem cl_q {w : World} {b : Nat} {cs : Array Value} {T : TypeId} {fz : Nat × Nat} (h : w.heap[b]? = some (.cells cs T fz)) (i : Nat) : w.cell? ⟨b, i, none⟩ = cs[i]? := by simp [World.cell?, h]
theorem nv4 {w : World} {g : Nat} {a b c d : Int} {T : TypeId} {fz : Nat × Nat} (h : w.heap[g]? = some (.cells #[.int .i64 a, .int .i64 b, .int .i64 c, .int .i64 d] T fz)) : NV w (some ⟨g, 0, none⟩) [a, b, c, d] :=
  ⟨fun _ => ⟨g, 0, rfl, (Array.getElem?_eq_some_iff.1 h).1, fun i x hx => by
    rw [Nat.zero_add, cl_q h]
    match i, hx with
    | 0, hx => simpa using hx
    | 1, hx => simpa using hx
    | 2, hx => simpa using hx
    | 3, hx => simpa using hx
    | i + 4, hx => simp at hx⟩⟩
set_option maxRecDepth 100000 in
theorem allSh (A : Option Addr) (c : Nat) (L : List Int) (t : Bool) (w : World) (h : NV w A L) (hL : L.length ≤ 1048576) (ht : L.all shB = t) :
    Calls Try.prog 33 #[.slice A L.length c, .func (.func 34) #[] #[]] w fun e w' => e = .returned (.bool t) ∧ w = w' := by
  subst ht
  go_enter Try.func33, Try.ntmps33
  go_wp2_with fail
  go_loop [9] (fun i => ∃ k : Nat, k ≤ L.length ∧ i = .int .i64 k ∧ (L.take k).all shB = true) (fun i => L.length - (intOf i).toNat)
  case atStart => exact ⟨0, by omega, rfl, rfl⟩
  case round =>
    obtain ⟨k, hk, rfl, hok⟩ := hrel
    by_cases hlt : k < L.length
    · have hd : decide ((k : Int) < (L.length : Int)) = true := by simpa using hlt
      obtain ⟨b, off, rfl, hb, hp⟩ := h.cells (by omega)
      have hget : L[k]? = some L[k] := List.getElem?_eq_getElem hlt
      have c0 := hp k _ hget
      generalize hx : L[k] = p at *
      have HG := Lib.hid hget
      have HX := Lib.hid hx
      have HO := Lib.hid hok
      have HP := Lib.hid hp
      clear hget hx hok hp
      cases hv : shB p
      all_goals
        have Hv := Lib.hid hv
        clear hv
        go_wp2_with fail
        first | (with_reducible refine (shift_t p false _ Hv.out).mono ?_) | (with_reducible refine (shift_t p true _ Hv.out).mono ?_)
        rintro e w1 ⟨rfl, rfl⟩
        go_wp2
      · go_ret
        exact ⟨ret_bool (by
          symm
          rw [Bool.eq_false_iff]
          intro hh
          have h1 := List.all_eq_true.1 hh p (List.mem_of_getElem? HG.out)
          rw [Hv.out] at h1
          cases h1), rfl⟩
      · go_round
        case rel => exact ⟨k + 1, by omega, by go_num, by rw [all_snocQ HG.out, HO.out, Hv.out]; rfl⟩
        case measure => simp [intOf]; omega
    · have hd : decide ((k : Int) < (L.length : Int)) = false := by simp; omega
      have he : L.take k = L := List.take_of_length_le (by omega)
      rw [he] at hok
      have HO := Lib.hid hok
      clear hok he
      go_wp2
      go_ret
      exact ⟨ret_bool HO.out.symm, rfl⟩
set_option maxRecDepth 100000 in
theorem allRe (A : Option Addr) (c : Nat) (L : List Int) (t : Bool) (w : World) (h : NV w A L) (hL : L.length ≤ 1048576) (ht : L.all reB = t) :
    Calls Try.prog 33 #[.slice A L.length c, .func (.func 35) #[] #[]] w fun e w' => e = .returned (.bool t) ∧ w = w' := by
  subst ht
  go_enter Try.func33, Try.ntmps33
  go_wp2_with fail
  go_loop [9] (fun i => ∃ k : Nat, k ≤ L.length ∧ i = .int .i64 k ∧ (L.take k).all reB = true) (fun i => L.length - (intOf i).toNat)
  case atStart => exact ⟨0, by omega, rfl, rfl⟩
  case round =>
    obtain ⟨k, hk, rfl, hok⟩ := hrel
    by_cases hlt : k < L.length
    · have hd : decide ((k : Int) < (L.length : Int)) = true := by simpa using hlt
      obtain ⟨b, off, rfl, hb, hp⟩ := h.cells (by omega)
      have hget : L[k]? = some L[k] := List.getElem?_eq_getElem hlt
      have c0 := hp k _ hget
      generalize hx : L[k] = p at *
      have HG := Lib.hid hget
      have HX := Lib.hid hx
      have HO := Lib.hid hok
      have HP := Lib.hid hp
      clear hget hx hok hp
      cases hv : reB p
      all_goals
        have Hv := Lib.hid hv
        clear hv
        go_wp2_with fail
        first | (with_reducible refine (rel_t p false _ Hv.out).mono ?_) | (with_reducible refine (rel_t p true _ Hv.out).mono ?_)
        rintro e w1 ⟨rfl, rfl⟩
        go_wp2
      · go_ret
        exact ⟨ret_bool (by
          symm
          rw [Bool.eq_false_iff]
          intro hh
          have h1 := List.all_eq_true.1 hh p (List.mem_of_getElem? HG.out)
          rw [Hv.out] at h1
          cases h1), rfl⟩
      · go_round
        case rel => exact ⟨k + 1, by omega, by go_num, by rw [all_snocQ HG.out, HO.out, Hv.out]; rfl⟩
        case measure => simp [intOf]; omega
    · have hd : decide ((k : Int) < (L.length : Int)) = false := by simp; omega
      have he : L.take k = L := List.take_of_length_le (by omega)
      rw [he] at hok
      have HO := Lib.hid hok
      clear hok he
      go_wp2
      go_ret
      exact ⟨ret_bool HO.out.symm, rfl⟩
theorem allSh4 {g : Nat} {x y z u : Int} {T : TypeId} {fz : Nat × Nat} (t : Bool) (w : World) (h : w.heap[g]? = some (.cells #[.int .i64 x, .int .i64 y, .int .i64 z, .int .i64 u] T fz)) (ht : [x, y, z, u].all shB = t) :
    Calls Try.prog 33 #[.slice (some ⟨g, 0, none⟩) 4 4, .func (.func 34) #[] #[]] w fun e w' => e = .returned (.bool t) ∧ w = w' := allSh _ 4 [x, y, z, u] t w (nv4 h) (by simp) ht
theorem allRe4 {g : Nat} {x y z u : Int} {T : TypeId} {fz : Nat × Nat} (t : Bool) (w : World) (h : w.heap[g]? = some (.cells #[.int .i64 x, .int .i64 y, .int .i64 z, .int .i64 u] T fz)) (ht : [x, y, z, u].all reB = t) :
    Calls Try.prog 33 #[.slice (some ⟨g, 0, none⟩) 4 4, .func (.func 35) #[] #[]] w fun e w' => e = .returned (.bool t) ∧ w = w' := allRe _ 4 [x, y, z, u] t w (nv4 h) (by simp) ht
end Go.Proofs.Ytfhjmmajhohkjab
end
section
namespace Go.Proofs.Ytfhjmmajhohkjab
open Go.RowKit
set_option linter.unusedVariables false
set_option maxHeartbeats 1000000
set_option maxRecDepth 100000 in
theorem validPlace_t (p : Plc) (t : Bool) (w : World) (h : plB p = t) : Calls Try.prog 10 #[.agg #[.int .i64 p.x, .int .i64 p.y, .int .i64 p.rx, .int .i64 p.ry, .int .i64 p.ww, .int .i64 p.hh, .int .i64 p.qw, .int .i64 p.qh, .int .i64 p.an]] w fun e w' => e = .returned (.bool t) ∧ Below w.heap.size w w' := by
  cases h1 : [p.x, p.y, p.ww, p.hh].all shB
  · have ht : false = t := by rw [← h]; simp only [plB, h1, Bool.false_and]
    subst ht
    go_enter Try.func10, Try.ntmps10
    go_wp2_with fail
    with_reducible refine (allSh4 false _ (by first | exact newq1 _ _ _ | exact newq2 _ _ _ _) h1).mono ?_
    rintro e w1 ⟨rfl, rfl⟩
    go_wp2
    go_ret
    exact ⟨rfl, (by repeat (first | with_reducible exact Below.refl _ _ | with_reducible assumption | with_reducible refine balloc ?_ | (with_reducible refine bset ?_ ?_; rotate_left; ((try dsimp only); omega)) | refine bkeep2 ?_ (by assumption) | with_reducible refine Below.drew ?_))⟩
  cases h2 : [p.rx, p.ry, p.qw, p.qh].all reB
  · have ht : false = t := by rw [← h]; simp only [plB, h1, h2, Bool.false_and, Bool.true_and]
    subst ht
    go_enter Try.func10, Try.ntmps10
    go_wp2_with fail
    with_reducible refine (allSh4 true _ (by first | exact newq1 _ _ _ | exact newq2 _ _ _ _) h1).mono ?_
    rintro e w1 ⟨rfl, rfl⟩
    go_wp2_with fail
    with_reducible refine (allRe4 false _ (by first | exact newq1 _ _ _ | exact newq2 _ _ _ _) h2).mono ?_
    rintro e w1 ⟨rfl, rfl⟩
    go_wp2
    go_ret
    exact ⟨rfl, (by repeat (first | with_reducible exact Below.refl _ _ | with_reducible assumption | with_reducible refine balloc ?_ | (with_reducible refine bset ?_ ?_; rotate_left; ((try dsimp only); omega)) | refine bkeep2 ?_ (by assumption) | with_reducible refine Below.drew ?_))⟩
  have h3 : rng p.an 0 8 = t := by rw [← h]; simp only [plB, h1, h2, Bool.true_and]
  go_enter Try.func10, Try.ntmps10
  go_wp2_with fail
  with_reducible refine (allSh4 true _ (by first | exact newq1 _ _ _ | exact newq2 _ _ _ _) h1).mono ?_
  rintro e w1 ⟨rfl, rfl⟩
  go_wp2_with fail
  with_reducible refine (allRe4 true _ (by first | exact newq1 _ _ _ | exact newq2 _ _ _ _) h2).mono ?_
  rintro e w1 ⟨rfl, rfl⟩
  go_wp2_with fail
  with_reducible refine (anch_t _ t _ h3).mono ?_
  rintro e w1 ⟨rfl, rfl⟩
  go_wp2
  go_ret
  exact ⟨rfl, (by repeat (first | with_reducible exact Below.refl _ _ | with_reducible assumption | with_reducible refine balloc ?_ | (with_reducible refine bset ?_ ?_; rotate_left; ((try dsimp only); omega)) | refine bkeep2 ?_ (by assumption) | with_reducible refine Below.drew ?_))⟩
end Go.Proofs.Ytfhjmmajhohkjab
end
section
namespace Go.Proofs.Ytfhjmmajhohkjab
open Go.RowKit
set_option linter.unusedVariables false
set_option maxHeartbeats 1000000
set_option maxRecDepth 100000 in
theorem svalidPlace_t (p : Plc) (t : Bool) (w : World) (h : plB p = t) : Calls Try.prog 37 #[.agg #[.int .i64 p.x, .int .i64 p.y, .int .i64 p.rx, .int .i64 p.ry, .int .i64 p.ww, .int .i64 p.hh, .int .i64 p.qw, .int .i64 p.qh, .int .i64 p.an]] w fun e w' => e = .returned (.bool t) ∧ Below w.heap.size w w' := by
  cases h1 : rng p.x (-300) 300
  · have ht : false = t := by rw [← h]; simp [plB, shB, reB, h1]
    subst ht
    go_enter Try.func37, Try.ntmps37
    go_wp2_with fail
    with_reducible refine (inRange_q _ _ _ false _ h1).mono ?_
    rintro e w1 ⟨rfl, rfl⟩
    go_wp2
    go_ret
    exact ⟨rfl, (by repeat (first | with_reducible exact Below.refl _ _ | with_reducible assumption | with_reducible refine balloc ?_ | (with_reducible refine bset ?_ ?_; rotate_left; ((try dsimp only); omega)) | refine bkeep2 ?_ (by assumption) | with_reducible refine Below.drew ?_))⟩
  cases h2 : rng p.y (-300) 300
  · have ht : false = t := by rw [← h]; simp [plB, shB, reB, h2]
    subst ht
    go_enter Try.func37, Try.ntmps37
    go_wp2_with fail
    with_reducible refine (inRange_q _ _ _ true _ h1).mono ?_
    rintro e w1 ⟨rfl, rfl⟩
    go_wp2_with fail
    with_reducible refine (inRange_q _ _ _ false _ h2).mono ?_
    rintro e w1 ⟨rfl, rfl⟩
    go_wp2
    go_ret
    exact ⟨rfl, (by repeat (first | with_reducible exact Below.refl _ _ | with_reducible assumption | with_reducible refine balloc ?_ | (with_reducible refine bset ?_ ?_; rotate_left; ((try dsimp only); omega)) | refine bkeep2 ?_ (by assumption) | with_reducible refine Below.drew ?_))⟩
  cases h3 : rng p.rx 0 1000
  · have ht : false = t := by rw [← h]; simp [plB, shB, reB, h3]
    subst ht
    go_enter Try.func37, Try.ntmps37
    go_wp2_with fail
    with_reducible refine (inRange_q _ _ _ true _ h1).mono ?_
    rintro e w1 ⟨rfl, rfl⟩
    go_wp2_with fail
    with_reducible refine (inRange_q _ _ _ true _ h2).mono ?_
    rintro e w1 ⟨rfl, rfl⟩
    go_wp2_with fail
    with_reducible refine (inRange_q _ _ _ false _ h3).mono ?_
    rintro e w1 ⟨rfl, rfl⟩
    go_wp2
    go_ret
    exact ⟨rfl, (by repeat (first | with_reducible exact Below.refl _ _ | with_reducible assumption | with_reducible refine balloc ?_ | (with_reducible refine bset ?_ ?_; rotate_left; ((try dsimp only); omega)) | refine bkeep2 ?_ (by assumption) | with_reducible refine Below.drew ?_))⟩
  cases h4 : rng p.ry 0 1000
  · have ht : false = t := by rw [← h]; simp [plB, shB, reB, h4]
    subst ht
    go_enter Try.func37, Try.ntmps37
    go_wp2_with fail
    with_reducible refine (inRange_q _ _ _ true _ h1).mono ?_
    rintro e w1 ⟨rfl, rfl⟩
    go_wp2_with fail
    with_reducible refine (inRange_q _ _ _ true _ h2).mono ?_
    rintro e w1 ⟨rfl, rfl⟩
    go_wp2_with fail
    with_reducible refine (inRange_q _ _ _ true _ h3).mono ?_
    rintro e w1 ⟨rfl, rfl⟩
    go_wp2_with fail
    with_reducible refine (inRange_q _ _ _ false _ h4).mono ?_
    rintro e w1 ⟨rfl, rfl⟩
    go_wp2
    go_ret
    exact ⟨rfl, (by repeat (first | with_reducible exact Below.refl _ _ | with_reducible assumption | with_reducible refine balloc ?_ | (with_reducible refine bset ?_ ?_; rotate_left; ((try dsimp only); omega)) | refine bkeep2 ?_ (by assumption) | with_reducible refine Below.drew ?_))⟩
  cases h5 : rng p.ww (-300) 300
  · have ht : false = t := by rw [← h]; simp [plB, shB, reB, h5]
    subst ht
    go_enter Try.func37, Try.ntmps37
    go_wp2_with fail
    with_reducible refine (inRange_q _ _ _ true _ h1).mono ?_
    rintro e w1 ⟨rfl, rfl⟩
    go_wp2_with fail
    with_reducible refine (inRange_q _ _ _ true _ h2).mono ?_
    rintro e w1 ⟨rfl, rfl⟩
    go_wp2_with fail
    with_reducible refine (inRange_q _ _ _ true _ h3).mono ?_
    rintro e w1 ⟨rfl, rfl⟩
    go_wp2_with fail
    with_reducible refine (inRange_q _ _ _ true _ h4).mono ?_
    rintro e w1 ⟨rfl, rfl⟩
    go_wp2_with fail
    with_reducible refine (inRange_q _ _ _ false _ h5).mono ?_
    rintro e w1 ⟨rfl, rfl⟩
    go_wp2
    go_ret
    exact ⟨rfl, (by repeat (first | with_reducible exact Below.refl _ _ | with_reducible assumption | with_reducible refine balloc ?_ | (with_reducible refine bset ?_ ?_; rotate_left; ((try dsimp only); omega)) | refine bkeep2 ?_ (by assumption) | with_reducible refine Below.drew ?_))⟩
  cases h6 : rng p.hh (-300) 300
  · have ht : false = t := by rw [← h]; simp [plB, shB, reB, h6]
    subst ht
    go_enter Try.func37, Try.ntmps37
    go_wp2_with fail
    with_reducible refine (inRange_q _ _ _ true _ h1).mono ?_
    rintro e w1 ⟨rfl, rfl⟩
    go_wp2_with fail
    with_reducible refine (inRange_q _ _ _ true _ h2).mono ?_
    rintro e w1 ⟨rfl, rfl⟩
    go_wp2_with fail
    with_reducible refine (inRange_q _ _ _ true _ h3).mono ?_
    rintro e w1 ⟨rfl, rfl⟩
    go_wp2_with fail
    with_reducible refine (inRange_q _ _ _ true _ h4).mono ?_
    rintro e w1 ⟨rfl, rfl⟩
    go_wp2_with fail
    with_reducible refine (inRange_q _ _ _ true _ h5).mono ?_
    rintro e w1 ⟨rfl, rfl⟩
    go_wp2_with fail
    with_reducible refine (inRange_q _ _ _ false _ h6).mono ?_
    rintro e w1 ⟨rfl, rfl⟩
    go_wp2
    go_ret
    exact ⟨rfl, (by repeat (first | with_reducible exact Below.refl _ _ | with_reducible assumption | with_reducible refine balloc ?_ | (with_reducible refine bset ?_ ?_; rotate_left; ((try dsimp only); omega)) | refine bkeep2 ?_ (by assumption) | with_reducible refine Below.drew ?_))⟩
  cases h7 : rng p.qw 0 1000
  · have ht : false = t := by rw [← h]; simp [plB, shB, reB, h7]
    subst ht
    go_enter Try.func37, Try.ntmps37
    go_wp2_with fail
    with_reducible refine (inRange_q _ _ _ true _ h1).mono ?_
    rintro e w1 ⟨rfl, rfl⟩
    go_wp2_with fail
    with_reducible refine (inRange_q _ _ _ true _ h2).mono ?_
    rintro e w1 ⟨rfl, rfl⟩
    go_wp2_with fail
    with_reducible refine (inRange_q _ _ _ true _ h3).mono ?_
    rintro e w1 ⟨rfl, rfl⟩
    go_wp2_with fail
    with_reducible refine (inRange_q _ _ _ true _ h4).mono ?_
    rintro e w1 ⟨rfl, rfl⟩
    go_wp2_with fail
    with_reducible refine (inRange_q _ _ _ true _ h5).mono ?_
    rintro e w1 ⟨rfl, rfl⟩
    go_wp2_with fail
    with_reducible refine (inRange_q _ _ _ true _ h6).mono ?_
    rintro e w1 ⟨rfl, rfl⟩
    go_wp2_with fail
    with_reducible refine (inRange_q _ _ _ false _ h7).mono ?_
    rintro e w1 ⟨rfl, rfl⟩
    go_wp2
    go_ret
    exact ⟨rfl, (by repeat (first | with_reducible exact Below.refl _ _ | with_reducible assumption | with_reducible refine balloc ?_ | (with_reducible refine bset ?_ ?_; rotate_left; ((try dsimp only); omega)) | refine bkeep2 ?_ (by assumption) | with_reducible refine Below.drew ?_))⟩
  cases h8 : rng p.qh 0 1000
  · have ht : false = t := by rw [← h]; simp [plB, shB, reB, h8]
    subst ht
    go_enter Try.func37, Try.ntmps37
    go_wp2_with fail
    with_reducible refine (inRange_q _ _ _ true _ h1).mono ?_
    rintro e w1 ⟨rfl, rfl⟩
    go_wp2_with fail
    with_reducible refine (inRange_q _ _ _ true _ h2).mono ?_
    rintro e w1 ⟨rfl, rfl⟩
    go_wp2_with fail
    with_reducible refine (inRange_q _ _ _ true _ h3).mono ?_
    rintro e w1 ⟨rfl, rfl⟩
    go_wp2_with fail
    with_reducible refine (inRange_q _ _ _ true _ h4).mono ?_
    rintro e w1 ⟨rfl, rfl⟩
    go_wp2_with fail
    with_reducible refine (inRange_q _ _ _ true _ h5).mono ?_
    rintro e w1 ⟨rfl, rfl⟩
    go_wp2_with fail
    with_reducible refine (inRange_q _ _ _ true _ h6).mono ?_
    rintro e w1 ⟨rfl, rfl⟩
    go_wp2_with fail
    with_reducible refine (inRange_q _ _ _ true _ h7).mono ?_
    rintro e w1 ⟨rfl, rfl⟩
    go_wp2_with fail
    with_reducible refine (inRange_q _ _ _ false _ h8).mono ?_
    rintro e w1 ⟨rfl, rfl⟩
    go_wp2
    go_ret
    exact ⟨rfl, (by repeat (first | with_reducible exact Below.refl _ _ | with_reducible assumption | with_reducible refine balloc ?_ | (with_reducible refine bset ?_ ?_; rotate_left; ((try dsimp only); omega)) | refine bkeep2 ?_ (by assumption) | with_reducible refine Below.drew ?_))⟩
  have h9 : rng p.an 0 8 = t := by rw [← h]; simp [plB, shB, reB, h1, h2, h3, h4, h5, h6, h7, h8]
  go_enter Try.func37, Try.ntmps37
  go_wp2_with fail
  with_reducible refine (inRange_q _ _ _ true _ h1).mono ?_
  rintro e w1 ⟨rfl, rfl⟩
  go_wp2_with fail
  with_reducible refine (inRange_q _ _ _ true _ h2).mono ?_
  rintro e w1 ⟨rfl, rfl⟩
  go_wp2_with fail
  with_reducible refine (inRange_q _ _ _ true _ h3).mono ?_
  rintro e w1 ⟨rfl, rfl⟩
  go_wp2_with fail
  with_reducible refine (inRange_q _ _ _ true _ h4).mono ?_
  rintro e w1 ⟨rfl, rfl⟩
  go_wp2_with fail
  with_reducible refine (inRange_q _ _ _ true _ h5).mono ?_
  rintro e w1 ⟨rfl, rfl⟩
  go_wp2_with fail
  with_reducible refine (inRange_q _ _ _ true _ h6).mono ?_
  rintro e w1 ⟨rfl, rfl⟩
  go_wp2_with fail
  with_reducible refine (inRange_q _ _ _ true _ h7).mono ?_
  rintro e w1 ⟨rfl, rfl⟩
  go_wp2_with fail
  with_reducible refine (inRange_q _ _ _ true _ h8).mono ?_
  rintro e w1 ⟨rfl, rfl⟩
  go_wp2_with fail
  with_reducible refine (sanch_t _ t _ h9).mono ?_
  rintro e w1 ⟨rfl, rfl⟩
  go_wp2
  go_ret
  exact ⟨rfl, (by repeat (first | with_reducible exact Below.refl _ _ | with_reducible assumption | with_reducible refine balloc ?_ | (with_reducible refine bset ?_ ?_; rotate_left; ((try dsimp only); omega)) | refine bkeep2 ?_ (by assumption) | with_reducible refine Below.drew ?_))⟩
theorem svalidPlace2_t (p : Plc) (t : Bool) (w : World) (h : plB p = t) : Calls Try.prog 11 #[.agg #[.int .i64 p.x, .int .i64 p.y, .int .i64 p.rx, .int .i64 p.ry, .int .i64 p.ww, .int .i64 p.hh, .int .i64 p.qw, .int .i64 p.qh, .int .i64 p.an]] w fun e w' => e = .returned (.bool t) ∧ Below w.heap.size w w' := by
  go_enter Try.func11, Try.ntmps11
  go_wp2_with fail
  with_reducible refine (svalidPlace_t p t _ h).mono ?_
  rintro e w1 ⟨rfl, hb⟩
  go_wp2
  go_ret
  exact ⟨rfl, (by repeat (first | with_reducible exact Below.refl _ _ | with_reducible assumption | with_reducible refine balloc ?_ | (with_reducible refine bset ?_ ?_; rotate_left; ((try dsimp only); omega)) | refine bkeep2 ?_ (by assumption) | with_reducible refine Below.drew ?_))⟩
end Go.Proofs.Ytfhjmmajhohkjab
end
section
namespace Go.Proofs.Ytfhjmmajhohkjab
open Go.RowKit
set_option linter.unusedVariables false
set_option maxHeartbeats 1000000
attribute [local go_sem 5000] run_mx run_mn
attribute [local go_sem] growUpon_value growUpon_skip growUpon_enter
theorem thou_v (m s : Int) (w : World) (h1 : 0 ≤ m) (h2 : m ≤ 1000) (h3 : 0 ≤ s) (h4 : s ≤ 400) : Calls Try.prog 56 #[.int .i64 m, .int .i64 s] w fun e w' => e = .returned (.int .i64 (thM m s)) ∧ Below w.heap.size w w' := by
  obtain ⟨q1, q2⟩ := th_prod h1 h2 h3 h4
  go_enter Try.func56, Try.ntmps56
  go_wp2
  go_ret
  exact ⟨ret_int rfl, (by repeat (first | with_reducible exact Below.refl _ _ | with_reducible assumption | with_reducible refine balloc ?_ | (with_reducible refine bset ?_ ?_; rotate_left; ((try dsimp only); omega)) | refine bkeep2 ?_ (by assumption) | with_reducible refine Below.drew ?_))⟩
theorem part_v (n m : Int) (w : World) (h1 : 0 ≤ m) (h2 : m ≤ 1000) (h3 : 0 ≤ n) (h4 : n ≤ 400) : Calls Try.prog 50 #[.int .i64 n, .int .i64 m] w fun e w' => e = .returned (.int .i64 (thM m n)) ∧ Below w.heap.size w w' := by
  obtain ⟨q1, q2⟩ := th_prod h1 h2 h3 h4
  rw [Int.mul_comm] at q1 q2
  go_enter Try.func50, Try.ntmps50
  go_wp2
  go_ret
  exact ⟨ret_int (by rw [thM, Int.mul_comm]), (by repeat (first | with_reducible exact Below.refl _ _ | with_reducible assumption | with_reducible refine balloc ?_ | (with_reducible refine bset ?_ ?_; rotate_left; ((try dsimp only); omega)) | refine bkeep2 ?_ (by assumption) | with_reducible refine Below.drew ?_))⟩
theorem put_q {w : World} {b i : Nat} {cs : Array Value} {T : TypeId} {fz : Nat × Nat} (h : w.heap[b]? = some (.cells cs T fz)) (u : Value) : (w.setCell ⟨b, i, none⟩ u).heap[b]? = some (.cells (cs.setIfInBounds i u) T fz) := by
  simp [World.setCell, Array.getElem?_modify, h]
theorem gs_q {w w' : World} {g : Nat} (h : w.grownBy w' (some g)) (o : Nat) (v : Value) : w.grownBy (w'.setCell ⟨g, o, none⟩ v) (some g) :=
  ⟨h.os, h.tape, h.output, by simpa [World.setCell] using h.size, fun k hk hne => (Below.heap_setCell w' ⟨g, o, none⟩ v k (by rintro rfl; exact hne rfl)).trans (h.block k hk hne)⟩
theorem gr_q (w : World) (g : Nat) : w.grownBy w (some g) := ⟨rfl, rfl, rfl, Nat.le_refl _, fun _ _ _ => rfl⟩
theorem gb_q {w w' w2 : World} {g : Nat} (h : w.grownBy w' (some g)) (hb : Below w'.heap.size w' w2) : w.grownBy w2 (some g) :=
  ⟨hb.os.trans h.os, hb.tape.trans h.tape, hb.output.trans h.output, Nat.le_trans h.size hb.size, fun k hk hne => (hb.block k (Nat.lt_of_lt_of_le hk h.size)).trans (h.block k hk hne)⟩
theorem gt_q {w w' w2 : World} {g : Nat} (h : w.grownBy w' (some g)) (hb : w'.grownBy w2 (some g)) : w.grownBy w2 (some g) :=
  ⟨hb.os.trans h.os, hb.tape.trans h.tape, hb.output.trans h.output, Nat.le_trans h.size hb.size, fun k hk hne => (hb.block k (Nat.lt_of_lt_of_le hk h.size) hne).trans (h.block k hk hne)⟩
/-- what is newer than the old world's blocks does not count there -/
theorem gnew_q {W w w' : World} {g : Nat} (h : Below W.heap.size W w) (hg : w.grownBy w' (some g)) (hn : W.heap.size ≤ g) : Below W.heap.size W w' :=
  ⟨hg.os.trans h.os, hg.tape.trans h.tape, hg.output.trans h.output, Nat.le_trans h.size hg.size, fun k hk => (hg.block k (Nat.lt_of_lt_of_le hk h.size) (fun e => by cases e; omega)).trans (h.block k hk)⟩
theorem fz_q {w : World} {b : Nat} {cs : Array Value} {T : TypeId} (h : w.heap[b]? = some (.cells cs T (0, 0))) (i : Nat) : w.frozen? ⟨b, i, none⟩ = false := by simp [World.frozen?, h]
theorem lt_q {w : World} {b : Nat} {o : Obj} (h : w.heap[b]? = some o) : b < w.heap.size := (Array.getElem?_eq_some_iff.1 h).1
theorem oldq1 (w : World) (o o' : Obj) : ((w.alloc o).alloc o').heap[w.heap.size]? = some o := (Below.heap_alloc _ o' w.heap.size (by simp)).trans (new_q w o)
theorem c9_q {w : World} {b : Nat} {a0 a1 a2 a3 a4 a5 a6 a7 a8 : Value} {T : TypeId} {fz : Nat × Nat} (h : w.heap[b]? = some (.cells #[a0, a1, a2, a3, a4, a5, a6, a7, a8] T fz)) :
    w.cell? ⟨b, 0, none⟩ = some a0 ∧ w.cell? ⟨b, 1, none⟩ = some a1 ∧ w.cell? ⟨b, 2, none⟩ = some a2 ∧ w.cell? ⟨b, 3, none⟩ = some a3 ∧ w.cell? ⟨b, 4, none⟩ = some a4 ∧ w.cell? ⟨b, 5, none⟩ = some a5 ∧ w.cell? ⟨b, 6, none⟩ = some a6 ∧ w.cell? ⟨b, 7, none⟩ = some a7 ∧ w.cell? ⟨b, 8, none⟩ = some a8 :=
  ⟨cl_q h 0, cl_q h 1, cl_q h 2, cl_q h 3, cl_q h 4, cl_q h 5, cl_q h 6, cl_q h 7, cl_q h 8⟩
theorem f9_q {w : World} {b : Nat} {cs : Array Value} {T : TypeId} (h : w.heap[b]? = some (.cells cs T (0, 0))) : w.frozen? ⟨b, 0, none⟩ = false ∧ w.frozen? ⟨b, 1, none⟩ = false ∧ w.frozen? ⟨b, 2, none⟩ = false ∧ w.frozen? ⟨b, 3, none⟩ = false ∧ w.frozen? ⟨b, 4, none⟩ = false ∧ w.frozen? ⟨b, 5, none⟩ = false ∧ w.frozen? ⟨b, 6, none⟩ = false ∧ w.frozen? ⟨b, 7, none⟩ = false ∧ w.frozen? ⟨b, 8, none⟩ = false :=
  ⟨fz_q h 0, fz_q h 1, fz_q h 2, fz_q h 3, fz_q h 4, fz_q h 5, fz_q h 6, fz_q h 7, fz_q h 8⟩
set_option maxRecDepth 100000 in
theorem shift_v (b : Nat) (p : Plc) (dx dy : Int) (w : World) (hh : w.heap[b]? = some (.cells #[.int .i64 p.x, .int .i64 p.y, .int .i64 p.rx, .int .i64 p.ry, .int .i64 p.ww, .int .i64 p.hh, .int .i64 p.qw, .int .i64 p.qh, .int .i64 p.an] 24 (0, 0))) (h1 : -5000 ≤ p.x ∧ p.x ≤ 5000) (h2 : -5000 ≤ p.y ∧ p.y ≤ 5000) (h3 : -5000 ≤ dx ∧ dx ≤ 5000) (h4 : -5000 ≤ dy ∧ dy ≤ 5000) :
    Calls Try.prog 46 #[.pointer (some ⟨b, 0, none⟩), .int .i64 dx, .int .i64 dy] w fun e w' => (∃ v, e = .returned v) ∧ w'.heap[b]? = some (.cells #[.int .i64 (p.x + dx), .int .i64 (p.y + dy), .int .i64 p.rx, .int .i64 p.ry, .int .i64 p.ww, .int .i64 p.hh, .int .i64 p.qw, .int .i64 p.qh, .int .i64 p.an] 24 (0, 0)) ∧ w.grownBy w' (some b) := by
  obtain ⟨c0, c1, c2, c3, c4, c5, c6, c7, c8⟩ := c9_q hh
  obtain ⟨f0, f1, -⟩ := f9_q hh
  have q1 := put_q (i := 0) hh (.int .i64 (p.x + dx))
  have q2 := put_q (i := 1) q1 (.int .i64 (p.y + dy))
  simp only [List.setIfInBounds_toArray, List.set_cons_succ, List.set_cons_zero] at q2
  have HQ := Lib.hid q2
  have HG := Lib.hid (gs_q (gs_q (gr_q w b) 0 (.int .i64 (p.x + dx))) 1 (.int .i64 (p.y + dy)))
  clear hh q1 q2 c2 c3 c4 c5 c6 c7 c8
  obtain ⟨h1, h1'⟩ := h1
  obtain ⟨h2, h2'⟩ := h2
  obtain ⟨h3, h3'⟩ := h3
  obtain ⟨h4, h4'⟩ := h4
  go_enter Try.func46, Try.ntmps46
  go_wp2
  go_end0
  exact ⟨⟨_, rfl⟩, HQ.out, HG.out⟩
end Go.Proofs.Ytfhjmmajhohkjab
end
section
namespace Go.Proofs.Ytfhjmmajhohkjab
open Go.RowKit
set_option linter.unusedVariables false
set_option maxHeartbeats 2000000
theorem one_lit1 {B rb : Nat} {A : Option Addr} {l c m k : Nat} {cs : Array Value} {T : TypeId} (w : World) (o : Obj) (h : Rd B rb A l c m w) (hm : m ≤ 1000000) (hk : cs.size = k) (h1 : 1 ≤ k) (h2 : k ≤ 100) (ha : cs.toList.all isI = true) :
    Calls Try.prog 45 #[.pointer (some ⟨rb, 0, none⟩), .slice (some ⟨w.heap.size + 1, 0, none⟩) k k] ((w.alloc o).alloc (.cells cs T)) fun e w' => (∃ z, e = .returned (.int .i64 z)) ∧ Rd B rb A l c (m + 1) w' ∧ Chg [rb] (w.alloc o) w' := by
  have := one_lit (cs := cs) (T := T) (w.alloc o) (h.alloc o) hm hk h1 h2 ha
  rwa [World.size_alloc] at this
set_option maxRecDepth 100000 in
theorem goodPlace_any {B rb : Nat} {A : Option Addr} {l c m : Nat} (w : World) (h : Rd B rb A l c m w) (hm : m ≤ 900000) :
    Calls Try.prog 51 #[.pointer (some ⟨rb, 0, none⟩)] w fun e w' => (∃ (v0 v1 v2 v3 v4 v5 v6 v7 v8 : Int), e = .returned (.agg #[.int .i64 v0, .int .i64 v1, .int .i64 v2, .int .i64 v3, .int .i64 v4, .int .i64 v5, .int .i64 v6, .int .i64 v7, .int .i64 v8])) ∧ Rd B rb A l c (m + 10) w' ∧ Chg [rb] w w' := by
  have hlt := h.lt
  have hbase := h.base
  go_enter Try.func51, Try.ntmps51
  go_wp2_with fail
  with_reducible refine (one_lit1 _ _ h (by omega) (by simp) (by omega) (by omega) (by simp [isI])).mono ?_
  rintro e w1 ⟨⟨z1, rfl⟩, hr1, hc1⟩
  go_wp2_with fail
  with_reducible refine (one_lit _ hr1 (by omega) (by simp) (by omega) (by omega) (by simp [isI])).mono ?_
  rintro e w2 ⟨⟨z2, rfl⟩, hr2, hc2⟩
  go_wp2_with fail
  with_reducible refine (one_lit _ hr2 (by omega) (by simp) (by omega) (by omega) (by simp [isI])).mono ?_
  rintro e w3 ⟨⟨z3, rfl⟩, hr3, hc3⟩
  go_wp2_with fail
  with_reducible refine (one_lit _ hr3 (by omega) (by simp) (by omega) (by omega) (by simp [isI])).mono ?_
  rintro e w4 ⟨⟨z4, rfl⟩, hr4, hc4⟩
  go_wp2_with fail
  with_reducible refine (one_lit _ hr4 (by omega) (by simp) (by omega) (by omega) (by simp [isI])).mono ?_
  rintro e w5 ⟨⟨z5, rfl⟩, hr5, hc5⟩
  go_wp2_with fail
  with_reducible refine (one_lit _ hr5 (by omega) (by simp) (by omega) (by omega) (by simp [isI])).mono ?_
  rintro e w6 ⟨⟨z6, rfl⟩, hr6, hc6⟩
  go_wp2_with fail
  with_reducible refine (one_lit _ hr6 (by omega) (by simp) (by omega) (by omega) (by simp [isI])).mono ?_
  rintro e w7 ⟨⟨z7, rfl⟩, hr7, hc7⟩
  go_wp2_with fail
  with_reducible refine (one_lit _ hr7 (by omega) (by simp) (by omega) (by omega) (by simp [isI])).mono ?_
  rintro e w8 ⟨⟨z8, rfl⟩, hr8, hc8⟩
  go_wp2_with fail
  with_reducible refine (pick_any _ _ hr8 (by omega)).mono ?_
  rintro e w9 ⟨⟨z9, rfl, -⟩, hr9, hc9⟩
  go_wp2_with fail
  with_reducible refine (one_lit _ hr9 (by omega) (by simp) (by omega) (by omega) (by simp [isI])).mono ?_
  rintro e w10 ⟨⟨z10, rfl⟩, hr10, hc10⟩
  have hc : Chg [rb] (w.alloc _) w10 := (((((((((hc1).trans hc2).trans hc3).trans hc4).trans hc5).trans hc6).trans hc7).trans hc8).trans hc9).trans hc10
  clear hc1 hc2 hc3 hc4 hc5 hc6 hc7 hc8 hc9 hc10 hr1 hr2 hr3 hr4 hr5 hr6 hr7 hr8 hr9
  have hb0 := (hc.block w.heap.size (by simp) (by simp; omega)).trans (heap_alloc_new w _)
  have hs := hc.size
  simp only [World.size_alloc] at hs
  have HC := Lib.hid ((((Chg.refl [rb] w).alloc _).trans hc).alloc (.cells #[.int .i64 z1, .int .i64 z2, .int .i64 z3, .int .i64 z4, .int .i64 z5, .int .i64 z6, .int .i64 z7, .int .i64 z8, .int .i64 z10] 24))
  have hl7 := hr10.lt
  have hx0 := Nat.lt_of_succ_le hs
  have hn0 : w.heap.size ≠ rb := by omega
  have hB0 : B ≤ w.heap.size := by omega
  have hn1 : w10.heap.size ≠ rb := by omega
  have hB1 : B ≤ w10.heap.size := by omega
  have hn01 : w.heap.size ≠ w10.heap.size := by omega
  have hn10 : ¬ w10.heap.size = w.heap.size := by omega
  have hw1 : w.heap.size ≤ w10.heap.size := by omega
  have HR := Lib.hid (hr10.alloc (.cells #[.int .i64 z1, .int .i64 z2, .int .i64 z3, .int .i64 z4, .int .i64 z5, .int .i64 z6, .int .i64 z7, .int .i64 z8, .int .i64 z10] 24))
  have HB1 := Lib.hid (heap_alloc_new w10 (.cells #[.int .i64 z1, .int .i64 z2, .int .i64 z3, .int .i64 z4, .int .i64 z5, .int .i64 z6, .int .i64 z7, .int .i64 z8, .int .i64 z10] 24))
  have HB0 := Lib.hid ((Below.heap_alloc w10 (.cells #[.int .i64 z1, .int .i64 z2, .int .i64 z3, .int .i64 z4, .int .i64 z5, .int .i64 z6, .int .i64 z7, .int .i64 z8, .int .i64 z10] 24) w.heap.size hx0).trans hb0)
  clear hc hlt hbase hs hl7 hb0 hr10
  go_upto_region 2 with (fail)
  refine wp_genG (fun W => W.heap[w.heap.size]? = some (.cells #[.int .i64 0, .int .i64 0, .int .i64 0, .int .i64 0, .int .i64 0, .int .i64 0, .int .i64 0, .int .i64 0, .int .i64 0] 24) ∧ W.heap[w10.heap.size]? = some (.cells #[.int .i64 z1, .int .i64 z2, .int .i64 z3, .int .i64 z4, .int .i64 z5, .int .i64 z6, .int .i64 z7, .int .i64 z8, .int .i64 z10] 24) ∧ Rd B rb A l c (m + 10) W ∧ Chg [rb] w W) ⟨HB0.out, HB1.out, HR.out.mono (by omega), HC.out⟩ (fun wz hwz => ?_)
  clear HB0 HB1 HR HC
  obtain ⟨k0, k1, k2, k3⟩ := hwz
  have HB0 := Lib.hid k0
  have HB1 := Lib.hid k1
  have HR := Lib.hid k2
  have HC := Lib.hid k3
  clear k0 k1 k2 k3
  have h0 := HB0.out
  have h1 := HB1.out
  obtain ⟨c0, c1, c2, c3, c4, c5, c6, c7, c8⟩ := c9_q h1
  obtain ⟨d0, d1, d2, d3, d4, d5, d6, d7, d8⟩ := c9_q h0
  obtain ⟨f0, f1, f2, f3, f4, f5, f6, f7, f8⟩ := f9_q h0
  clear h0 h1
  go_wp2
  refine bp_gen (fun W => W.heap[w.heap.size]? = some (.cells #[.int .i64 z1, .int .i64 z2, .int .i64 z3, .int .i64 z4, .int .i64 z5, .int .i64 z6, .int .i64 z7, .int .i64 z8, .int .i64 z10] 24) ∧ Rd B rb A l c (m + 10) W ∧ Chg [rb] w W) ⟨put9h HB0.out (.int .i64 z1) (.int .i64 z2) (.int .i64 z3) (.int .i64 z4) (.int .i64 z5) (.int .i64 z6) (.int .i64 z7) (.int .i64 z8) (.int .i64 z10), put9r (HR.out.mono (by omega)) hB0 hn0 (.int .i64 z1) (.int .i64 z2) (.int .i64 z3) (.int .i64 z4) (.int .i64 z5) (.int .i64 z6) (.int .i64 z7) (.int .i64 z8) (.int .i64 z10), put9c HC.out (.inr (Nat.le_refl _)) (.int .i64 z1) (.int .i64 z2) (.int .i64 z3) (.int .i64 z4) (.int .i64 z5) (.int .i64 z6) (.int .i64 z7) (.int .i64 z8) (.int .i64 z10)⟩ ?_
  clear HB0 HB1 HC HR c0 c1 c2 c3 c4 c5 c6 c7 c8 d0 d1 d2 d3 d4 d5 d6 d7 d8 f0 f1 f2 f3 f4 f5 f6 f7 f8
  rintro W ⟨h0, hR, hC⟩
  obtain ⟨d0, d1, d2, d3, d4, d5, d6, d7, d8⟩ := c9_q h0
  exact bodyPost_ret (v := .agg #[.int .i64 z1, .int .i64 z2, .int .i64 z3, .int .i64 z4, .int .i64 z5, .int .i64 z6, .int .i64 z7, .int .i64 z8, .int .i64 z10]) (by simp only [results, Try.results51]; go_simp) rfl ⟨⟨_, _, _, _, _, _, _, _, _, rfl⟩, hR, hC⟩
set_option maxRecDepth 100000 in
theorem somePlace_any {B rb : Nat} {A : Option Addr} {l c m : Nat} (w : World) (h : Rd B rb A l c m w) (hm : m ≤ 800000) :
    Calls Try.prog 31 #[.pointer (some ⟨rb, 0, none⟩)] w fun e w' => (∃ (v0 v1 v2 v3 v4 v5 v6 v7 v8 : Int), e = .returned (.agg #[.int .i64 v0, .int .i64 v1, .int .i64 v2, .int .i64 v3, .int .i64 v4, .int .i64 v5, .int .i64 v6, .int .i64 v7, .int .i64 v8])) ∧ Rd B rb A l c (m + 12) w' ∧ Chg [rb] w w' := by
  have hlt := h.lt
  have hbase := h.base
  go_enter Try.func31, Try.ntmps31
  go_wp2_with fail
  with_reducible refine (goodPlace_any _ (h.alloc _) (by omega)).mono ?_
  rintro e w1 ⟨⟨v0, v1, v2, v3, v4, v5, v6, v7, v8, rfl⟩, hr1, hc⟩
  have hb0 := (hc.block w.heap.size (by simp) (by simp; omega)).trans (heap_alloc_new w _)
  have hs := hc.size
  simp only [World.size_alloc] at hs
  have HC := Lib.hid (((Chg.refl [rb] w).alloc _).trans hc)
  have hl7 := hr1.lt
  have hx0 := Nat.lt_of_succ_le hs
  have hn0 : w.heap.size ≠ rb := by omega
  have hB0 : B ≤ w.heap.size := by omega
  have hn1 : w1.heap.size ≠ rb := by omega
  have hB1 : B ≤ w1.heap.size := by omega
  have hn01 : w.heap.size ≠ w1.heap.size := by omega
  have hn10 : ¬ w1.heap.size = w.heap.size := by omega
  have hw1 : w.heap.size ≤ w1.heap.size := by omega
  clear hc hlt hbase hs hl7
  have hb1 := heap_alloc_new w1 (.cells #[.int .i64 v0, .int .i64 v1, .int .i64 v2, .int .i64 v3, .int .i64 v4, .int .i64 v5, .int .i64 v6, .int .i64 v7, .int .i64 v8] 24)
  replace hb0 := (Below.heap_alloc w1 (.cells #[.int .i64 v0, .int .i64 v1, .int .i64 v2, .int .i64 v3, .int .i64 v4, .int .i64 v5, .int .i64 v6, .int .i64 v7, .int .i64 v8] 24) w.heap.size hx0).trans hb0
  replace HC := Lib.hid (HC.out.alloc (.cells #[.int .i64 v0, .int .i64 v1, .int .i64 v2, .int .i64 v3, .int .i64 v4, .int .i64 v5, .int .i64 v6, .int .i64 v7, .int .i64 v8] 24))
  have HR := Lib.hid (hr1.alloc (.cells #[.int .i64 v0, .int .i64 v1, .int .i64 v2, .int .i64 v3, .int .i64 v4, .int .i64 v5, .int .i64 v6, .int .i64 v7, .int .i64 v8] 24))
  clear hr1
  have HB0 := Lib.hid hb0
  have HB1 := Lib.hid hb1
  clear hb0 hb1
  have hz0 : w.heap.size < (w1.alloc (.cells #[.int .i64 v0, .int .i64 v1, .int .i64 v2, .int .i64 v3, .int .i64 v4, .int .i64 v5, .int .i64 v6, .int .i64 v7, .int .i64 v8] 24)).heap.size := by simp; omega
  have hz1 : w1.heap.size < (w1.alloc (.cells #[.int .i64 v0, .int .i64 v1, .int .i64 v2, .int .i64 v3, .int .i64 v4, .int .i64 v5, .int .i64 v6, .int .i64 v7, .int .i64 v8] 24)).heap.size := by simp
  have HZ0 := Lib.hid hz0
  have HZ1 := Lib.hid hz1
  clear hz0 hz1
  go_wp2_with fail
  with_reducible refine (pick_any _ _ HR.out (by omega)).mono ?_
  rintro e w2 ⟨⟨q, rfl, -⟩, hr2, hc2⟩
  replace HB0 := Lib.hid ((hc2.block _ HZ0.out (by simpa using hn0)).trans HB0.out)
  replace HB1 := Lib.hid ((hc2.block _ HZ1.out (by simpa using hn1)).trans HB1.out)
  replace HC := Lib.hid (HC.out.trans hc2)
  replace HR := Lib.hid hr2
  replace HZ0 := Lib.hid (Nat.lt_of_lt_of_le HZ0.out hc2.size)
  replace HZ1 := Lib.hid (Nat.lt_of_lt_of_le HZ1.out hc2.size)
  clear hr2 hc2
  by_cases q0 : q = 0
  · subst q0
    go_wp2_with fail
    with_reducible refine (one_lit _ HR.out (by omega) (by simp) (by omega) (by omega) (by simp [isI])).mono ?_
    rintro e w3 ⟨⟨z, rfl⟩, hr3, hc3⟩
    replace HB0 := Lib.hid ((hc3.block _ HZ0.out (by simpa using hn0)).trans HB0.out)
    replace HB1 := Lib.hid ((hc3.block _ HZ1.out (by simpa using hn1)).trans HB1.out)
    replace HC := Lib.hid (HC.out.trans hc3)
    replace HR := Lib.hid hr3
    replace HZ0 := Lib.hid (Nat.lt_of_lt_of_le HZ0.out hc3.size)
    replace HZ1 := Lib.hid (Nat.lt_of_lt_of_le HZ1.out hc3.size)
    clear hr3 hc3
    have h0 := HB0.out
    have h1 := HB1.out
    obtain ⟨c0, c1, c2, c3, c4, c5, c6, c7, c8⟩ := c9_q h1
    obtain ⟨d0, d1, d2, d3, d4, d5, d6, d7, d8⟩ := c9_q h0
    obtain ⟨f0, f1, f2, f3, f4, f5, f6, f7, f8⟩ := f9_q h0
    have g0 := frozen_of_heap h1 0
    clear h0 h1
    go_wp2
    refine bp_gen (fun W => W.heap[w.heap.size]? = some (.cells #[.int .i64 z, .int .i64 v1, .int .i64 v2, .int .i64 v3, .int .i64 v4, .int .i64 v5, .int .i64 v6, .int .i64 v7, .int .i64 v8] 24) ∧ Rd B rb A l c (m + 12) W ∧ Chg [rb] w W) ⟨put9h ((Below.heap_setCell w3 ⟨w1.heap.size, 0, none⟩ (.int .i64 z) _ hn01).trans HB0.out) (.int .i64 z) (.int .i64 v1) (.int .i64 v2) (.int .i64 v3) (.int .i64 v4) (.int .i64 v5) (.int .i64 v6) (.int .i64 v7) (.int .i64 v8), put9r ((HR.out.setCell (p := ⟨w1.heap.size, 0, none⟩) hB1 hn1 (.int .i64 z)).mono (by omega)) hB0 hn0 (.int .i64 z) (.int .i64 v1) (.int .i64 v2) (.int .i64 v3) (.int .i64 v4) (.int .i64 v5) (.int .i64 v6) (.int .i64 v7) (.int .i64 v8), put9c (HC.out.setCell (p := ⟨w1.heap.size, 0, none⟩) (.inr hw1) (.int .i64 z)) (.inr (Nat.le_refl _)) (.int .i64 z) (.int .i64 v1) (.int .i64 v2) (.int .i64 v3) (.int .i64 v4) (.int .i64 v5) (.int .i64 v6) (.int .i64 v7) (.int .i64 v8)⟩ ?_
    clear HB0 HB1 HC HR c0 c1 c2 c3 c4 c5 c6 c7 c8 d0 d1 d2 d3 d4 d5 d6 d7 d8 f0 f1 f2 f3 f4 f5 f6 f7 f8
    rintro W ⟨h0, hR, hC⟩
    obtain ⟨d0, d1, d2, d3, d4, d5, d6, d7, d8⟩ := c9_q h0
    exact bodyPost_ret (v := .agg #[.int .i64 z, .int .i64 v1, .int .i64 v2, .int .i64 v3, .int .i64 v4, .int .i64 v5, .int .i64 v6, .int .i64 v7, .int .i64 v8]) (by simp only [results, Try.results31]; go_simp) rfl ⟨⟨_, _, _, _, _, _, _, _, _, rfl⟩, hR, hC⟩
  by_cases q1 : q = 1
  · subst q1
    go_wp2_with fail
    with_reducible refine (one_lit _ HR.out (by omega) (by simp) (by omega) (by omega) (by simp [isI])).mono ?_
    rintro e w3 ⟨⟨z, rfl⟩, hr3, hc3⟩
    replace HB0 := Lib.hid ((hc3.block _ HZ0.out (by simpa using hn0)).trans HB0.out)
    replace HB1 := Lib.hid ((hc3.block _ HZ1.out (by simpa using hn1)).trans HB1.out)
    replace HC := Lib.hid (HC.out.trans hc3)
    replace HR := Lib.hid hr3
    replace HZ0 := Lib.hid (Nat.lt_of_lt_of_le HZ0.out hc3.size)
    replace HZ1 := Lib.hid (Nat.lt_of_lt_of_le HZ1.out hc3.size)
    clear hr3 hc3
    have h0 := HB0.out
    have h1 := HB1.out
    obtain ⟨c0, c1, c2, c3, c4, c5, c6, c7, c8⟩ := c9_q h1
    obtain ⟨d0, d1, d2, d3, d4, d5, d6, d7, d8⟩ := c9_q h0
    obtain ⟨f0, f1, f2, f3, f4, f5, f6, f7, f8⟩ := f9_q h0
    have g0 := frozen_of_heap h1 6
    clear h0 h1
    go_wp2
    refine bp_gen (fun W => W.heap[w.heap.size]? = some (.cells #[.int .i64 v0, .int .i64 v1, .int .i64 v2, .int .i64 v3, .int .i64 v4, .int .i64 v5, .int .i64 z, .int .i64 v7, .int .i64 v8] 24) ∧ Rd B rb A l c (m + 12) W ∧ Chg [rb] w W) ⟨put9h ((Below.heap_setCell w3 ⟨w1.heap.size, 6, none⟩ (.int .i64 z) _ hn01).trans HB0.out) (.int .i64 v0) (.int .i64 v1) (.int .i64 v2) (.int .i64 v3) (.int .i64 v4) (.int .i64 v5) (.int .i64 z) (.int .i64 v7) (.int .i64 v8), put9r ((HR.out.setCell (p := ⟨w1.heap.size, 6, none⟩) hB1 hn1 (.int .i64 z)).mono (by omega)) hB0 hn0 (.int .i64 v0) (.int .i64 v1) (.int .i64 v2) (.int .i64 v3) (.int .i64 v4) (.int .i64 v5) (.int .i64 z) (.int .i64 v7) (.int .i64 v8), put9c (HC.out.setCell (p := ⟨w1.heap.size, 6, none⟩) (.inr hw1) (.int .i64 z)) (.inr (Nat.le_refl _)) (.int .i64 v0) (.int .i64 v1) (.int .i64 v2) (.int .i64 v3) (.int .i64 v4) (.int .i64 v5) (.int .i64 z) (.int .i64 v7) (.int .i64 v8)⟩ ?_
    clear HB0 HB1 HC HR c0 c1 c2 c3 c4 c5 c6 c7 c8 d0 d1 d2 d3 d4 d5 d6 d7 d8 f0 f1 f2 f3 f4 f5 f6 f7 f8
    rintro W ⟨h0, hR, hC⟩
    obtain ⟨d0, d1, d2, d3, d4, d5, d6, d7, d8⟩ := c9_q h0
    exact bodyPost_ret (v := .agg #[.int .i64 v0, .int .i64 v1, .int .i64 v2, .int .i64 v3, .int .i64 v4, .int .i64 v5, .int .i64 z, .int .i64 v7, .int .i64 v8]) (by simp only [results, Try.results31]; go_simp) rfl ⟨⟨_, _, _, _, _, _, _, _, _, rfl⟩, hR, hC⟩
  by_cases q2 : q = 2
  · subst q2
    go_wp2_with fail
    with_reducible refine (one_lit _ HR.out (by omega) (by simp) (by omega) (by omega) (by simp [isI])).mono ?_
    rintro e w3 ⟨⟨z, rfl⟩, hr3, hc3⟩
    replace HB0 := Lib.hid ((hc3.block _ HZ0.out (by simpa using hn0)).trans HB0.out)
    replace HB1 := Lib.hid ((hc3.block _ HZ1.out (by simpa using hn1)).trans HB1.out)
    replace HC := Lib.hid (HC.out.trans hc3)
    replace HR := Lib.hid hr3
    replace HZ0 := Lib.hid (Nat.lt_of_lt_of_le HZ0.out hc3.size)
    replace HZ1 := Lib.hid (Nat.lt_of_lt_of_le HZ1.out hc3.size)
    clear hr3 hc3
    have h0 := HB0.out
    have h1 := HB1.out
    obtain ⟨c0, c1, c2, c3, c4, c5, c6, c7, c8⟩ := c9_q h1
    obtain ⟨d0, d1, d2, d3, d4, d5, d6, d7, d8⟩ := c9_q h0
    obtain ⟨f0, f1, f2, f3, f4, f5, f6, f7, f8⟩ := f9_q h0
    have g0 := frozen_of_heap h1 8
    clear h0 h1
    go_wp2
    refine bp_gen (fun W => W.heap[w.heap.size]? = some (.cells #[.int .i64 v0, .int .i64 v1, .int .i64 v2, .int .i64 v3, .int .i64 v4, .int .i64 v5, .int .i64 v6, .int .i64 v7, .int .i64 z] 24) ∧ Rd B rb A l c (m + 12) W ∧ Chg [rb] w W) ⟨put9h ((Below.heap_setCell w3 ⟨w1.heap.size, 8, none⟩ (.int .i64 z) _ hn01).trans HB0.out) (.int .i64 v0) (.int .i64 v1) (.int .i64 v2) (.int .i64 v3) (.int .i64 v4) (.int .i64 v5) (.int .i64 v6) (.int .i64 v7) (.int .i64 z), put9r ((HR.out.setCell (p := ⟨w1.heap.size, 8, none⟩) hB1 hn1 (.int .i64 z)).mono (by omega)) hB0 hn0 (.int .i64 v0) (.int .i64 v1) (.int .i64 v2) (.int .i64 v3) (.int .i64 v4) (.int .i64 v5) (.int .i64 v6) (.int .i64 v7) (.int .i64 z), put9c (HC.out.setCell (p := ⟨w1.heap.size, 8, none⟩) (.inr hw1) (.int .i64 z)) (.inr (Nat.le_refl _)) (.int .i64 v0) (.int .i64 v1) (.int .i64 v2) (.int .i64 v3) (.int .i64 v4) (.int .i64 v5) (.int .i64 v6) (.int .i64 v7) (.int .i64 z)⟩ ?_
    clear HB0 HB1 HC HR c0 c1 c2 c3 c4 c5 c6 c7 c8 d0 d1 d2 d3 d4 d5 d6 d7 d8 f0 f1 f2 f3 f4 f5 f6 f7 f8
    rintro W ⟨h0, hR, hC⟩
    obtain ⟨d0, d1, d2, d3, d4, d5, d6, d7, d8⟩ := c9_q h0
    exact bodyPost_ret (v := .agg #[.int .i64 v0, .int .i64 v1, .int .i64 v2, .int .i64 v3, .int .i64 v4, .int .i64 v5, .int .i64 v6, .int .i64 v7, .int .i64 z]) (by simp only [results, Try.results31]; go_simp) rfl ⟨⟨_, _, _, _, _, _, _, _, _, rfl⟩, hR, hC⟩
  have e0 : (q == 0) = false := by simpa using q0
  have e1 : (q == 1) = false := by simpa using q1
  have e2 : (q == 2) = false := by simpa using q2
  clear q0 q1 q2
  have h0 := HB0.out
  have h1 := HB1.out
  obtain ⟨c0, c1, c2, c3, c4, c5, c6, c7, c8⟩ := c9_q h1
  obtain ⟨d0, d1, d2, d3, d4, d5, d6, d7, d8⟩ := c9_q h0
  obtain ⟨f0, f1, f2, f3, f4, f5, f6, f7, f8⟩ := f9_q h0
  clear h0 h1
  go_wp2
  refine bp_gen (fun W => W.heap[w.heap.size]? = some (.cells #[.int .i64 v0, .int .i64 v1, .int .i64 v2, .int .i64 v3, .int .i64 v4, .int .i64 v5, .int .i64 v6, .int .i64 v7, .int .i64 v8] 24) ∧ Rd B rb A l c (m + 12) W ∧ Chg [rb] w W) ⟨put9h HB0.out (.int .i64 v0) (.int .i64 v1) (.int .i64 v2) (.int .i64 v3) (.int .i64 v4) (.int .i64 v5) (.int .i64 v6) (.int .i64 v7) (.int .i64 v8), put9r (HR.out.mono (by omega)) hB0 hn0 (.int .i64 v0) (.int .i64 v1) (.int .i64 v2) (.int .i64 v3) (.int .i64 v4) (.int .i64 v5) (.int .i64 v6) (.int .i64 v7) (.int .i64 v8), put9c HC.out (.inr (Nat.le_refl _)) (.int .i64 v0) (.int .i64 v1) (.int .i64 v2) (.int .i64 v3) (.int .i64 v4) (.int .i64 v5) (.int .i64 v6) (.int .i64 v7) (.int .i64 v8)⟩ ?_
  clear HB0 HB1 HC HR c0 c1 c2 c3 c4 c5 c6 c7 c8 d0 d1 d2 d3 d4 d5 d6 d7 d8 f0 f1 f2 f3 f4 f5 f6 f7 f8
  rintro W ⟨h0, hR, hC⟩
  obtain ⟨d0, d1, d2, d3, d4, d5, d6, d7, d8⟩ := c9_q h0
  exact bodyPost_ret (v := .agg #[.int .i64 v0, .int .i64 v1, .int .i64 v2, .int .i64 v3, .int .i64 v4, .int .i64 v5, .int .i64 v6, .int .i64 v7, .int .i64 v8]) (by simp only [results, Try.results31]; go_simp) rfl ⟨⟨_, _, _, _, _, _, _, _, _, rfl⟩, hR, hC⟩
set_option maxRecDepth 100000 in
theorem DrawValidPlace_any (A : Option Addr) (n c : Nat) (w : World) (h : Bts w A n) (hn : n ≤ c) (hc : c ≤ maxLen) :
    Calls Try.prog 9 #[.slice A n c] w fun e w' => (∃ p : Plc, e = .returned (.agg #[.int .i64 p.x, .int .i64 p.y, .int .i64 p.rx, .int .i64 p.ry, .int .i64 p.ww, .int .i64 p.hh, .int .i64 p.qw, .int .i64 p.qh, .int .i64 p.an])) ∧ Below w.heap.size w w' := by
  go_enter Try.func9, Try.ntmps9
  go_wp2_with fail
  with_reducible refine (newReader_any A n c _ (Bts.alloc' h _) hn hc).mono ?_
  rintro e w1 ⟨n', rfl, hr1, hc1⟩
  simp only [World.size_alloc] at hr1
  go_wp2_with fail
  with_reducible refine (somePlace_any _ hr1 (by omega)).mono ?_
  rintro e w2 ⟨⟨v0, v1, v2, v3, v4, v5, v6, v7, v8, rfl⟩, hr2, hc2⟩
  have hb := (hc1.block w.heap.size (by simp) (by simp)).trans (heap_alloc_new w _)
  have hs := hc1.size
  simp only [World.size_alloc] at hs
  replace hb := (hc2.block w.heap.size (by omega) (by simp)).trans hb
  have hB := Lib.hid (((Chg.refl [w.heap.size + 1] w).alloc _).trans ((hc1.mono (by simp)).trans hc2))
  have HB0 := Lib.hid hb
  obtain ⟨d0, d1, d2, d3, d4, d5, d6, d7, d8⟩ := c9_q hb
  obtain ⟨f0, f1, f2, f3, f4, f5, f6, f7, f8⟩ := f9_q hb
  clear hb hc1 hc2 hr1 hr2 hs
  go_wp2
  refine bp_gen (fun W => W.heap[w.heap.size]? = some (.cells #[.int .i64 v0, .int .i64 v1, .int .i64 v2, .int .i64 v3, .int .i64 v4, .int .i64 v5, .int .i64 v6, .int .i64 v7, .int .i64 v8] 24) ∧ Below w.heap.size w W) ⟨put9h HB0.out (.int .i64 v0) (.int .i64 v1) (.int .i64 v2) (.int .i64 v3) (.int .i64 v4) (.int .i64 v5) (.int .i64 v6) (.int .i64 v7) (.int .i64 v8), Chg.below (put9c hB.out (.inr (Nat.le_refl _)) _ _ _ _ _ _ _ _ _) (Nat.le_refl _) (by simp)⟩ ?_
  clear HB0 hB d0 d1 d2 d3 d4 d5 d6 d7 d8 f0 f1 f2 f3 f4 f5 f6 f7 f8
  rintro W ⟨h0, hBB⟩
  obtain ⟨d0, d1, d2, d3, d4, d5, d6, d7, d8⟩ := c9_q h0
  exact bodyPost_ret (v := .agg #[.int .i64 v0, .int .i64 v1, .int .i64 v2, .int .i64 v3, .int .i64 v4, .int .i64 v5, .int .i64 v6, .int .i64 v7, .int .i64 v8]) (by simp only [results, Try.results9]; go_simp) rfl ⟨⟨⟨v0, v1, v2, v3, v4, v5, v6, v7, v8⟩, rfl⟩, hBB⟩
set_option maxRecDepth 100000 in
theorem DrawLeastInside_any (A : Option Addr) (n c : Nat) (w : World) (h : Bts w A n) (hn : n ≤ c) (hc : c ≤ maxLen) :
    Calls Try.prog 21 #[.slice A n c] w fun e w' => (∃ p : Plc, e = .returned (.agg #[.int .i64 p.x, .int .i64 p.y, .int .i64 p.rx, .int .i64 p.ry, .int .i64 p.ww, .int .i64 p.hh, .int .i64 p.qw, .int .i64 p.qh, .int .i64 p.an])) ∧ Below w.heap.size w w' := by
  go_enter Try.func21, Try.ntmps21
  go_wp2_with fail
  with_reducible refine (newReader_any A n c _ (Bts.alloc' h _) hn hc).mono ?_
  rintro e w1 ⟨n', rfl, hr1, hc1⟩
  simp only [World.size_alloc] at hr1
  go_wp2_with fail
  with_reducible refine (somePlace_any _ hr1 (by omega)).mono ?_
  rintro e w2 ⟨⟨v0, v1, v2, v3, v4, v5, v6, v7, v8, rfl⟩, hr2, hc2⟩
  have hb := (hc1.block w.heap.size (by simp) (by simp)).trans (heap_alloc_new w _)
  have hs := hc1.size
  simp only [World.size_alloc] at hs
  replace hb := (hc2.block w.heap.size (by omega) (by simp)).trans hb
  have hB := Lib.hid (((Chg.refl [w.heap.size + 1] w).alloc _).trans ((hc1.mono (by simp)).trans hc2))
  have HB0 := Lib.hid hb
  obtain ⟨d0, d1, d2, d3, d4, d5, d6, d7, d8⟩ := c9_q hb
  obtain ⟨f0, f1, f2, f3, f4, f5, f6, f7, f8⟩ := f9_q hb
  clear hb hc1 hc2 hr1 hr2 hs
  go_wp2
  refine bp_gen (fun W => W.heap[w.heap.size]? = some (.cells #[.int .i64 v0, .int .i64 v1, .int .i64 v2, .int .i64 v3, .int .i64 v4, .int .i64 v5, .int .i64 v6, .int .i64 v7, .int .i64 v8] 24) ∧ Below w.heap.size w W) ⟨put9h HB0.out (.int .i64 v0) (.int .i64 v1) (.int .i64 v2) (.int .i64 v3) (.int .i64 v4) (.int .i64 v5) (.int .i64 v6) (.int .i64 v7) (.int .i64 v8), Chg.below (put9c hB.out (.inr (Nat.le_refl _)) _ _ _ _ _ _ _ _ _) (Nat.le_refl _) (by simp)⟩ ?_
  clear HB0 hB d0 d1 d2 d3 d4 d5 d6 d7 d8 f0 f1 f2 f3 f4 f5 f6 f7 f8
  rintro W ⟨h0, hBB⟩
  obtain ⟨d0, d1, d2, d3, d4, d5, d6, d7, d8⟩ := c9_q h0
  exact bodyPost_ret (v := .agg #[.int .i64 v0, .int .i64 v1, .int .i64 v2, .int .i64 v3, .int .i64 v4, .int .i64 v5, .int .i64 v6, .int .i64 v7, .int .i64 v8]) (by simp only [results, Try.results21]; go_simp) rfl ⟨⟨⟨v0, v1, v2, v3, v4, v5, v6, v7, v8⟩, rfl⟩, hBB⟩
end Go.Proofs.Ytfhjmmajhohkjab
end
section
namespace Go.Proofs.Ytfhjmmajhohkjab
open Go.RowKit
/-- behind a region that draws its order -/
theorem bdrewn {W w' : World} (h : Below W.drew.heap.size W.drew w') : Below W.heap.size W w' := (Below.refl _ _).drew.trans h
end Go.Proofs.Ytfhjmmajhohkjab
end
