import Derived.Test.YtfhjmmajhohkjabQ02
import Derived.IntWalk
section
set_option linter.unusedVariables false
namespace Go.Proofs.Ytfhjmmajhohkjab
/-- an item that is placed -/
structure Plc where
  x : Int
  y : Int
  rx : Int
  ry : Int
  ww : Int
  hh : Int
  qw : Int
  qh : Int
  an : Int
def shB (n : Int) : Bool := rng n (-300) 300
def reB (n : Int) : Bool := rng n 0 1000
def plB (p : Plc) : Bool := [p.x, p.y, p.ww, p.hh].all shB && ([p.rx, p.ry, p.qw, p.qh].all reB && rng p.an 0 8)
theorem plB_iff {p : Plc} : plB p = true ↔ ((-300 ≤ p.x ∧ p.x ≤ 300) ∧ (-300 ≤ p.y ∧ p.y ≤ 300) ∧ (0 ≤ p.rx ∧ p.rx ≤ 1000) ∧ (0 ≤ p.ry ∧ p.ry ≤ 1000) ∧ (-300 ≤ p.ww ∧ p.ww ≤ 300) ∧ (-300 ≤ p.hh ∧ p.hh ≤ 300) ∧ (0 ≤ p.qw ∧ p.qw ≤ 1000) ∧ (0 ≤ p.qh ∧ p.qh ≤ 1000) ∧ (0 ≤ p.an ∧ p.an ≤ 8)) := by
  simp only [plB, shB, reB, List.all_cons, List.all_nil, Bool.and_true, Bool.and_eq_true, rng_iff]
  omega
/-- so many thousandths -/
def thM (m s : Int) : Int := m * s / 1000
theorem th_prod {m s : Int} (h1 : 0 ≤ m) (h2 : m ≤ 1000) (h3 : 0 ≤ s) (h4 : s ≤ 400) : 0 ≤ m * s ∧ m * s ≤ 400000 := by
  refine ⟨Int.mul_nonneg h1 h3, ?_⟩
  have e1 : m * s ≤ 1000 * s := Int.mul_le_mul_of_nonneg_right h2 h3
  omega
theorem th_bd {m s : Int} (h1 : 0 ≤ m) (h2 : m ≤ 1000) (h3 : 0 ≤ s) (h4 : s ≤ 400) : 0 ≤ thM m s ∧ thM m s ≤ 400 := by
  have := th_prod h1 h2 h3 h4
  unfold thM; omega
theorem th_zero (s : Int) : thM 0 s = 0 := by simp [thM]
/-- the sizes and the place -/
def wM (p : Plc) (w : Int) : Int := mx (p.ww + thM p.qw w) 0
def hM (p : Plc) (h : Int) : Int := mx (p.hh + thM p.qh h) 0
def xM (p : Plc) (w : Int) : Int := p.x + thM p.rx w - wM p w * (p.an % 3) / 2
def yM (p : Plc) (h : Int) : Int := p.y + thM p.ry h - hM p h * (p.an / 3) / 2
def rqB (w h : Int) : Bool := rng w 0 400 && rng h 0 400
theorem rqB_iff {w h : Int} : rqB w h = true ↔ ((0 ≤ w ∧ w ≤ 400) ∧ (0 ≤ h ∧ h ≤ 400)) := by simp only [rqB, Bool.and_eq_true, rng_iff]
def prB (p : Plc) (w h : Int) : Bool := plB p && rqB w h
theorem half_bd {s k : Int} (h1 : 0 ≤ s) (h2 : s ≤ 700) (h3 : 0 ≤ k) (h4 : k ≤ 2) : 0 ≤ s * k ∧ s * k ≤ 1400 ∧ 0 ≤ s * k / 2 ∧ s * k / 2 ≤ 700 := by
  have e1 : 0 ≤ s * k := Int.mul_nonneg h1 h3
  have e2 : s * k ≤ s * 2 := Int.mul_le_mul_of_nonneg_left h4 h1
  omega
/-- all that the walks want to know of sizes -/
structure PlBd (p : Plc) (w h : Int) : Prop where
  t1 : 0 ≤ thM p.rx w ∧ thM p.rx w ≤ 400
  t2 : 0 ≤ thM p.ry h ∧ thM p.ry h ≤ 400
  t3 : 0 ≤ thM p.qw w ∧ thM p.qw w ≤ 400
  t4 : 0 ≤ thM p.qh h ∧ thM p.qh h ≤ 400
  w1 : 0 ≤ wM p w ∧ wM p w ≤ 700
  h1 : 0 ≤ hM p h ∧ hM p h ≤ 700
  a1 : 0 ≤ p.an % 3 ∧ p.an % 3 ≤ 2
  a2 : 0 ≤ p.an / 3 ∧ p.an / 3 ≤ 2
  p1 : 0 ≤ wM p w * (p.an % 3) ∧ wM p w * (p.an % 3) ≤ 1400 ∧ 0 ≤ wM p w * (p.an % 3) / 2 ∧ wM p w * (p.an % 3) / 2 ≤ 700
  p2 : 0 ≤ hM p h * (p.an / 3) ∧ hM p h * (p.an / 3) ≤ 1400 ∧ 0 ≤ hM p h * (p.an / 3) / 2 ∧ hM p h * (p.an / 3) / 2 ≤ 700
theorem pl_bd {p : Plc} {w h : Int} (hp : plB p = true) (hr : rqB w h = true) : PlBd p w h := by
  obtain ⟨b1, b2, b3, b4, b5, b6, b7, b8, b9⟩ := plB_iff.1 hp
  obtain ⟨r1, r2⟩ := rqB_iff.1 hr
  have t1 := th_bd b3.1 b3.2 r1.1 r1.2
  have t2 := th_bd b4.1 b4.2 r2.1 r2.2
  have t3 := th_bd b7.1 b7.2 r1.1 r1.2
  have t4 := th_bd b8.1 b8.2 r2.1 r2.2
  have w1 : 0 ≤ wM p w ∧ wM p w ≤ 700 := by have := mx_spec (p.ww + thM p.qw w) 0; unfold wM; omega
  have h1 : 0 ≤ hM p h ∧ hM p h ≤ 700 := by have := mx_spec (p.hh + thM p.qh h) 0; unfold hM; omega
  have a1 : 0 ≤ p.an % 3 ∧ p.an % 3 ≤ 2 := by omega
  have a2 : 0 ≤ p.an / 3 ∧ p.an / 3 ≤ 2 := by omega
  exact ⟨t1, t2, t3, t4, w1, h1, a1, a2, half_bd w1.1 w1.2 a1.1 a1.2, half_bd h1.1 h1.2 a2.1 a2.2⟩
theorem PlBd.x1 {p : Plc} {w h : Int} (b : PlBd p w h) (hp : plB p = true) : -1000 ≤ xM p w ∧ xM p w ≤ 700 := by
  obtain ⟨b1, _⟩ := plB_iff.1 hp
  obtain ⟨t1, t2, t3, t4, w1, h1, a1, a2, p1, p2⟩ := b
  unfold xM; omega
theorem PlBd.y1 {p : Plc} {w h : Int} (b : PlBd p w h) (hp : plB p = true) : -1000 ≤ yM p h ∧ yM p h ≤ 700 := by
  obtain ⟨_, b2, _⟩ := plB_iff.1 hp
  obtain ⟨t1, t2, t3, t4, w1, h1, a1, a2, p1, p2⟩ := b
  unfold yM; omega
/-- whether it lies inside -/
def piB (p : Plc) (w h : Int) : Bool := insB 0 0 w h (xM p w) (yM p h) (wM p w) (hM p h)
/-- the least size -/
def LeM (p : Plc) (v : Int) : Prop := (0 ≤ v ∧ v ≤ 400 ∧ piB p v v = true ∧ ∀ j : Int, 0 ≤ j → j < v → piB p j j = false) ∨ (v = -1 ∧ ∀ j : Int, 0 ≤ j → j ≤ 400 → piB p j j = false)
theorem LeM_uniq {p : Plc} {a b : Int} (ha : LeM p a) (hb : LeM p b) : a = b := by
  rcases ha with ⟨a0, a1, a2, a3⟩ | ⟨rfl, a1⟩ <;> rcases hb with ⟨b0, b1, b2, b3⟩ | ⟨rfl, b1⟩
  · rcases Int.lt_trichotomy a b with h | h | h
    · have := b3 a a0 h; rw [this] at a2; cases a2
    · exact h
    · have := a3 b b0 h; rw [this] at b2; cases b2
  · have := b1 a a0 a1; rw [this] at a2; cases a2
  · have := a1 b b0 b1; rw [this] at b2; cases b2
  · rfl
theorem le_step {p : Plc} {k : Nat} (h : ∀ j : Int, 0 ≤ j → j < k → piB p j j = false) (hk : piB p k k = false) : ∀ j : Int, 0 ≤ j → j < ((k + 1 : Nat) : Int) → piB p j j = false := fun j j0 j1 => by
  by_cases e : j = k
  · subst e; exact hk
  · exact h j j0 (by omega)
/-- the item that is told another place; what is fixed -/
def atM (p : Plc) (w h x y : Int) : Plc := ⟨p.x + (x - xM p w), p.y + (y - yM p h), p.rx, p.ry, p.ww, p.hh, p.qw, p.qh, p.an⟩
def fixM (p : Plc) (w h : Int) : Plc := ⟨p.x + thM p.rx w, p.y + thM p.ry h, 0, 0, wM p w, hM p h, 0, 0, p.an⟩
def paB (p : Plc) (w h x y : Int) : Bool := prB p w h && (shB x && (shB y && plB (atM p w h x y)))
def fxB (p : Plc) (w h : Int) : Bool := prB p w h && plB (fixM p w h)
end Go.Proofs.Ytfhjmmajhohkjab
namespace Go.Proofs.Ytfhjmmajhohkjab
def Sq (a b c d : Int) : Prop := (-2000 ≤ a ∧ a ≤ 2000) ∧ (-2000 ≤ b ∧ b ≤ 2000) ∧ (-2000 ≤ c ∧ c ≤ 2000) ∧ (-2000 ≤ d ∧ d ≤ 2000)
theorem Sq.sm {a b c d : Int} (h : Sq a b c d) : Sm a b c d := by
  obtain ⟨h1, h2, h3, h4⟩ := h
  exact Sm_of (by omega)
theorem Sq.cover {x y u v x' y' u' v' : Int} (h : Sq x y u v) (h' : Sq x' y' u' v') : Sm (mn x x') (mn y y') (mx (x + u) (x' + u')) (mx (y + v) (y' + v')) ∧ Sq (mn x x') (mn y y') 0 0 ∧ (-4000 ≤ mx (x + u) (x' + u') ∧ mx (x + u) (x' + u') ≤ 4000) ∧ (-4000 ≤ mx (y + v) (y' + v') ∧ mx (y + v) (y' + v') ≤ 4000) := by
  obtain ⟨h1, h2, h3, h4⟩ := h
  obtain ⟨k1, k2, k3, k4⟩ := h'
  have := mn_spec x x'; have := mn_spec y y'; have := mx_spec (x + u) (x' + u'); have := mx_spec (y + v) (y' + v')
  refine ⟨Sm_of (by omega), ⟨by omega, by omega, by omega, by omega⟩, by omega, by omega⟩
theorem holds_all {x y u v x' y' u' v' : Int} :
    (mn x x' = x ∧ mn y y' = y ∧ mx (x + u) (x' + u') - mn x x' = u ∧ mx (y + v) (y' + v') - mn y y' = v) ↔ (x ≤ x' ∧ y ≤ y' ∧ x' + u' ≤ x + u ∧ y' + v' ≤ y + v) := by
  have := mn_spec x x'; have := mn_spec y y'; have := mx_spec (x + u) (x' + u'); have := mx_spec (y + v) (y' + v')
  omega
theorem pl_sq {p : Plc} {w h : Int} (hp : plB p = true) (hr : rqB w h = true) : Sq (xM p w) (yM p h) (wM p w) (hM p h) := by
  have b := pl_bd hp hr
  have b1 := b.x1 hp
  have b2 := b.y1 hp
  have b3 := b.w1
  have b4 := b.h1
  exact ⟨by omega, by omega, by omega, by omega⟩
theorem rm_sq {w h : Int} (hr : rqB w h = true) : Sq 0 0 w h := by
  obtain ⟨r1, r2⟩ := rqB_iff.1 hr
  exact ⟨by omega, by omega, by omega, by omega⟩
theorem le_ex (p : Plc) : ∃ v, LeM p v := by
  have key : ∀ k : Nat, k ≤ 401 → (∃ v, LeM p v) ∨ ∀ j : Int, 0 ≤ j → j < k → piB p j j = false := by
    intro k
    induction k with
    | zero => intro _; exact .inr (fun j h1 h2 => by omega)
    | succ k ih =>
      intro hk
      rcases ih (by omega) with h | h
      · exact .inl h
      · cases hp : piB p (k : Int) (k : Int)
        · exact .inr (le_step h hp)
        · exact .inl ⟨k, .inl ⟨by omega, by omega, hp, h⟩⟩
  rcases key 401 (Nat.le_refl _) with h | h
  · exact h
  · exact ⟨-1, .inr ⟨rfl, fun j h0 h1 => h j h0 (by omega)⟩⟩
theorem prB_yes {p : Plc} {w h : Int} (e : prB p w h = true) : plB p = true ∧ rqB w h = true := by simpa [prB] using e
theorem atM_bd {p : Plc} {w h x y : Int} (e : paB p w h x y = true) : plB p = true ∧ rqB w h = true ∧ shB x = true ∧ shB y = true ∧ plB (atM p w h x y) = true := by
  simp only [paB, prB, Bool.and_eq_true] at e
  exact ⟨e.1.1, e.1.2, e.2.1, e.2.2.1, e.2.2.2⟩
end Go.Proofs.Ytfhjmmajhohkjab
end
section
namespace Go.Proofs.Ytfhjmmajhohkjab
open Go.RowKit
set_option linter.unusedVariables false
set_option maxHeartbeats 1000000
theorem inRange_q (n a b : Int) (t : Bool) (w : World) (h : rng n a b = t) : Calls Try.prog 48 #[.int .i64 n, .int .i64 a, .int .i64 b] w fun e w' => e = .returned (.bool t) ∧ w = w' := by rw [← h]; exact inRange_any n a b w
theorem within_q (n a b : Int) (t : Bool) (w : World) (h : rng n a b = t) : Calls Try.prog 53 #[.int .i64 n, .int .i64 a, .int .i64 b] w fun e w' => e = .returned (.bool t) ∧ w = w' := by rw [← h]; exact within_any n a b w
theorem shift_t (n : Int) (t : Bool) (w : World) (h : shB n = t) : Calls Try.prog 34 #[.int .i64 n] w fun e w' => e = .returned (.bool t) ∧ w = w' := by
  go_enter Try.func34, Try.ntmps34
  go_wp2_with (go_at_call 53; refine (within_q _ _ _ t _ h).mono ?_; rintro e w' ⟨rfl, rfl⟩)
  go_ret
  exact ⟨rfl, rfl⟩
theorem rel_t (n : Int) (t : Bool) (w : World) (h : reB n = t) : Calls Try.prog 35 #[.int .i64 n] w fun e w' => e = .returned (.bool t) ∧ w = w' := by
  go_enter Try.func35, Try.ntmps35
  go_wp2_with (go_at_call 53; refine (within_q _ _ _ t _ h).mono ?_; rintro e w' ⟨rfl, rfl⟩)
  go_ret
  exact ⟨rfl, rfl⟩
theorem anch_t (k : Int) (t : Bool) (w : World) (h : rng k 0 8 = t) : Calls Try.prog 36 #[.int .i64 k] w fun e w' => e = .returned (.bool t) ∧ w = w' := by
  go_enter Try.func36, Try.ntmps36
  go_wp2_with (go_at_call 53; refine (within_q _ _ _ t _ h).mono ?_; rintro e w' ⟨rfl, rfl⟩)
  go_ret
  exact ⟨rfl, rfl⟩
theorem sanch_t (k : Int) (t : Bool) (w : World) (h : rng k 0 8 = t) : Calls Try.prog 54 #[.int .i64 k] w fun e w' => e = .returned (.bool t) ∧ w = w' := by
  go_enter Try.func54, Try.ntmps54
  go_wp2_with (go_at_call 48; refine (inRange_q _ _ _ t _ h).mono ?_; rintro e w' ⟨rfl, rfl⟩)
  go_ret
  exact ⟨rfl, rfl⟩
theorem all_snocQ {f : Int → Bool} {L : List Int} {k : Nat} {p : Int} (h : L[k]? = some p) : (L.take (k + 1)).all f = ((L.take k).all f && f p) := by
  have hk : k < L.length := (List.getElem?_eq_some_iff.1 h).1
  have e : L[k] = p := (List.getElem?_eq_some_iff.1 h).2
  rw [List.take_succ_eq_append_getElem hk, e]
  simp
theorem new_q (w : World) (o : Obj) : (w.alloc o).heap[w.heap.size]? = some o := by
  show (w.heap.push o)[w.heap.size]? = some o
  simp
theorem newq1 (w : World) (o o' : Obj) : ((w.alloc o).alloc o').heap[w.heap.size + 1]? = some o' := by
  have := new_q (w.alloc o) o'; rwa [World.size_alloc] at this
theorem newq2 (w : World) (o o' o2 : Obj) : (((w.alloc o).alloc o').alloc o2).heap[w.heap.size + 1 + 1]? = some o2 := by
  have := newq1 (w.alloc o) o' o2; rwa [World.size_alloc] at this
theorem cl_q {w : World} {b : Nat} {cs : Array Value} {T : TypeId} {fz : Nat × Nat} (h : w.heap[b]? = some (.cells cs T fz)) (i : Nat) : w.cell? ⟨b, i, none⟩ = cs[i]? := by simp [World.cell?, h]
theorem nv4 {w : World} {g : Nat} {a b c d : Int} {T : TypeId} {fz : Nat × Nat} (h : w.heap[g]? = some (.cells #[.int .i64 a, .int .i64 b, .int .i64 c, .int .i64 d] T fz)) : NV w (some ⟨g, 0, none⟩) [a, b, c, d] :=
  ⟨fun _ => ⟨g, 0, rfl, (Array.getElem?_eq_some_iff.1 h).1, fun i x hx => by
    rw [Nat.zero_add, cl_q h]
    match i, hx with
    | 0, hx => simpa using hx
    | 1, hx => simpa using hx
    | 2, hx => simpa using hx
    | 3, hx => simpa using hx
    | i + 4, hx => simp at hx⟩⟩
set_option maxRecDepth 100000 in
theorem allSh (A : Option Addr) (c : Nat) (L : List Int) (t : Bool) (w : World) (h : NV w A L) (hL : L.length ≤ 1048576) (ht : L.all shB = t) :
    Calls Try.prog 33 #[.slice A L.length c, .func (.func 34) #[] #[]] w fun e w' => e = .returned (.bool t) ∧ w = w' := by
  subst ht
  go_enter Try.func33, Try.ntmps33
  go_wp2_with fail
  go_loop [9] (fun i => ∃ k : Nat, k ≤ L.length ∧ i = .int .i64 k ∧ (L.take k).all shB = true) (fun i => L.length - (intOf i).toNat)
  case atStart => exact ⟨0, by omega, rfl, rfl⟩
  case round =>
    obtain ⟨k, hk, rfl, hok⟩ := hrel
    by_cases hlt : k < L.length
    · have hd : decide ((k : Int) < (L.length : Int)) = true := by simpa using hlt
      obtain ⟨b, off, rfl, hb, hp⟩ := h.cells (by omega)
      have hget : L[k]? = some L[k] := List.getElem?_eq_getElem hlt
      have c0 := hp k _ hget
      generalize hx : L[k] = p at *
      have HG := Lib.hid hget
      have HX := Lib.hid hx
      have HO := Lib.hid hok
      have HP := Lib.hid hp
      clear hget hx hok hp
      cases hv : shB p
      all_goals
        have Hv := Lib.hid hv
        clear hv
        go_wp2_with fail
        first | (with_reducible refine (shift_t p false _ Hv.out).mono ?_) | (with_reducible refine (shift_t p true _ Hv.out).mono ?_)
        rintro e w1 ⟨rfl, rfl⟩
        go_wp2
      · go_ret
        exact ⟨ret_bool (by
          symm
          rw [Bool.eq_false_iff]
          intro hh
          have h1 := List.all_eq_true.1 hh p (List.mem_of_getElem? HG.out)
          rw [Hv.out] at h1
          cases h1), rfl⟩
      · go_round
        case rel => exact ⟨k + 1, by omega, by go_num, by rw [all_snocQ HG.out, HO.out, Hv.out]; rfl⟩
        case measure => simp [intOf]; omega
    · have hd : decide ((k : Int) < (L.length : Int)) = false := by simp; omega
      have he : L.take k = L := List.take_of_length_le (by omega)
      rw [he] at hok
      have HO := Lib.hid hok
      clear hok he
      go_wp2
      go_ret
      exact ⟨ret_bool HO.out.symm, rfl⟩
set_option maxRecDepth 100000 in
theorem allRe (A : Option Addr) (c : Nat) (L : List Int) (t : Bool) (w : World) (h : NV w A L) (hL : L.length ≤ 1048576) (ht : L.all reB = t) :
    Calls Try.prog 33 #[.slice A L.length c, .func (.func 35) #[] #[]] w fun e w' => e = .returned (.bool t) ∧ w = w' := by
  subst ht
  go_enter Try.func33, Try.ntmps33
  go_wp2_with fail
  go_loop [9] (fun i => ∃ k : Nat, k ≤ L.length ∧ i = .int .i64 k ∧ (L.take k).all reB = true) (fun i => L.length - (intOf i).toNat)
  case atStart => exact ⟨0, by omega, rfl, rfl⟩
  case round =>
    obtain ⟨k, hk, rfl, hok⟩ := hrel
    by_cases hlt : k < L.length
    · have hd : decide ((k : Int) < (L.length : Int)) = true := by simpa using hlt
      obtain ⟨b, off, rfl, hb, hp⟩ := h.cells (by omega)
      have hget : L[k]? = some L[k] := List.getElem?_eq_getElem hlt
      have c0 := hp k _ hget
      generalize hx : L[k] = p at *
      have HG := Lib.hid hget
      have HX := Lib.hid hx
      have HO := Lib.hid hok
      have HP := Lib.hid hp
      clear hget hx hok hp
      cases hv : reB p
      all_goals
        have Hv := Lib.hid hv
        clear hv
        go_wp2_with fail
        first | (with_reducible refine (rel_t p false _ Hv.out).mono ?_) | (with_reducible refine (rel_t p true _ Hv.out).mono ?_)
        rintro e w1 ⟨rfl, rfl⟩
        go_wp2
      · go_ret
        exact ⟨ret_bool (by
          symm
          rw [Bool.eq_false_iff]
          intro hh
          have h1 := List.all_eq_true.1 hh p (List.mem_of_getElem? HG.out)
          rw [Hv.out] at h1
          cases h1), rfl⟩
      · go_round
        case rel => exact ⟨k + 1, by omega, by go_num, by rw [all_snocQ HG.out, HO.out, Hv.out]; rfl⟩
        case measure => simp [intOf]; omega
    · have hd : decide ((k : Int) < (L.length : Int)) = false := by simp; omega
      have he : L.take k = L := List.take_of_length_le (by omega)
      rw [he] at hok
      have HO := Lib.hid hok
      clear hok he
      go_wp2
      go_ret
      exact ⟨ret_bool HO.out.symm, rfl⟩
theorem allSh4 {g : Nat} {x y z u : Int} {T : TypeId} {fz : Nat × Nat} (t : Bool) (w : World) (h : w.heap[g]? = some (.cells #[.int .i64 x, .int .i64 y, .int .i64 z, .int .i64 u] T fz)) (ht : [x, y, z, u].all shB = t) :
    Calls Try.prog 33 #[.slice (some ⟨g, 0, none⟩) 4 4, .func (.func 34) #[] #[]] w fun e w' => e = .returned (.bool t) ∧ w = w' := allSh _ 4 [x, y, z, u] t w (nv4 h) (by simp) ht
theorem allRe4 {g : Nat} {x y z u : Int} {T : TypeId} {fz : Nat × Nat} (t : Bool) (w : World) (h : w.heap[g]? = some (.cells #[.int .i64 x, .int .i64 y, .int .i64 z, .int .i64 u] T fz)) (ht : [x, y, z, u].all reB = t) :
    Calls Try.prog 33 #[.slice (some ⟨g, 0, none⟩) 4 4, .func (.func 35) #[] #[]] w fun e w' => e = .returned (.bool t) ∧ w = w' := allRe _ 4 [x, y, z, u] t w (nv4 h) (by simp) ht
end Go.Proofs.Ytfhjmmajhohkjab
end
section
namespace Go.Proofs.Ytfhjmmajhohkjab
open Go.RowKit
set_option linter.unusedVariables false
set_option maxHeartbeats 1000000
set_option maxRecDepth 100000 in
theorem validPlace_t (p : Plc) (t : Bool) (w : World) (h : plB p = t) : Calls Try.prog 10 #[.agg #[.int .i64 p.x, .int .i64 p.y, .int .i64 p.rx, .int .i64 p.ry, .int .i64 p.ww, .int .i64 p.hh, .int .i64 p.qw, .int .i64 p.qh, .int .i64 p.an]] w fun e w' => e = .returned (.bool t) ∧ Below w.heap.size w w' := by
  cases h1 : [p.x, p.y, p.ww, p.hh].all shB
  · have ht : false = t := by rw [← h]; simp only [plB, h1, Bool.false_and]
    subst ht
    go_enter Try.func10, Try.ntmps10
    go_wp2_with fail
    with_reducible refine (allSh4 false _ (by first | exact newq1 _ _ _ | exact newq2 _ _ _ _) h1).mono ?_
    rintro e w1 ⟨rfl, rfl⟩
    go_wp2
    go_ret
    exact ⟨rfl, (by repeat (first | with_reducible exact Below.refl _ _ | with_reducible assumption | with_reducible refine balloc ?_ | (with_reducible refine bset ?_ ?_; rotate_left; ((try dsimp only); omega)) | refine bkeep2 ?_ (by assumption) | with_reducible refine Below.drew ?_))⟩
  cases h2 : [p.rx, p.ry, p.qw, p.qh].all reB
  · have ht : false = t := by rw [← h]; simp only [plB, h1, h2, Bool.false_and, Bool.true_and]
    subst ht
    go_enter Try.func10, Try.ntmps10
    go_wp2_with fail
    with_reducible refine (allSh4 true _ (by first | exact newq1 _ _ _ | exact newq2 _ _ _ _) h1).mono ?_
    rintro e w1 ⟨rfl, rfl⟩
    go_wp2_with fail
    with_reducible refine (allRe4 false _ (by first | exact newq1 _ _ _ | exact newq2 _ _ _ _) h2).mono ?_
    rintro e w1 ⟨rfl, rfl⟩
    go_wp2
    go_ret
    exact ⟨rfl, (by repeat (first | with_reducible exact Below.refl _ _ | with_reducible assumption | with_reducible refine balloc ?_ | (with_reducible refine bset ?_ ?_; rotate_left; ((try dsimp only); omega)) | refine bkeep2 ?_ (by assumption) | with_reducible refine Below.drew ?_))⟩
  have h3 : rng p.an 0 8 = t := by rw [← h]; simp only [plB, h1, h2, Bool.true_and]
  go_enter Try.func10, Try.ntmps10
  go_wp2_with fail
  with_reducible refine (allSh4 true _ (by first | exact newq1 _ _ _ | exact newq2 _ _ _ _) h1).mono ?_
  rintro e w1 ⟨rfl, rfl⟩
  go_wp2_with fail
  with_reducible refine (allRe4 true _ (by first | exact newq1 _ _ _ | exact newq2 _ _ _ _) h2).mono ?_
  rintro e w1 ⟨rfl, rfl⟩
  go_wp2_with fail
  with_reducible refine (anch_t _ t _ h3).mono ?_
  rintro e w1 ⟨rfl, rfl⟩
  go_wp2
  go_ret
  exact ⟨rfl, (by repeat (first | with_reducible exact Below.refl _ _ | with_reducible assumption | with_reducible refine balloc ?_ | (with_reducible refine bset ?_ ?_; rotate_left; ((try dsimp only); omega)) | refine bkeep2 ?_ (by assumption) | with_reducible refine Below.drew ?_))⟩
end Go.Proofs.Ytfhjmmajhohkjab
end
section
namespace Go.Proofs.Ytfhjmmajhohkjab
open Go.RowKit
set_option linter.unusedVariables false
set_option maxHeartbeats 1000000
set_option maxRecDepth 100000 in
theorem svalidPlace_t (p : Plc) (t : Bool) (w : World) (h : plB p = t) : Calls Try.prog 37 #[.agg #[.int .i64 p.x, .int .i64 p.y, .int .i64 p.rx, .int .i64 p.ry, .int .i64 p.ww, .int .i64 p.hh, .int .i64 p.qw, .int .i64 p.qh, .int .i64 p.an]] w fun e w' => e = .returned (.bool t) ∧ Below w.heap.size w w' := by
  cases h1 : rng p.x (-300) 300
  · have ht : false = t := by rw [← h]; simp [plB, shB, reB, h1]
    subst ht
    go_enter Try.func37, Try.ntmps37
    go_wp2_with fail
    with_reducible refine (inRange_q _ _ _ false _ h1).mono ?_
    rintro e w1 ⟨rfl, rfl⟩
    go_wp2
    go_ret
    exact ⟨rfl, (by repeat (first | with_reducible exact Below.refl _ _ | with_reducible assumption | with_reducible refine balloc ?_ | (with_reducible refine bset ?_ ?_; rotate_left; ((try dsimp only); omega)) | refine bkeep2 ?_ (by assumption) | with_reducible refine Below.drew ?_))⟩
  cases h2 : rng p.y (-300) 300
  · have ht : false = t := by rw [← h]; simp [plB, shB, reB, h2]
    subst ht
    go_enter Try.func37, Try.ntmps37
    go_wp2_with fail
    with_reducible refine (inRange_q _ _ _ true _ h1).mono ?_
    rintro e w1 ⟨rfl, rfl⟩
    go_wp2_with fail
    with_reducible refine (inRange_q _ _ _ false _ h2).mono ?_
    rintro e w1 ⟨rfl, rfl⟩
    go_wp2
    go_ret
    exact ⟨rfl, (by repeat (first | with_reducible exact Below.refl _ _ | with_reducible assumption | with_reducible refine balloc ?_ | (with_reducible refine bset ?_ ?_; rotate_left; ((try dsimp only); omega)) | refine bkeep2 ?_ (by assumption) | with_reducible refine Below.drew ?_))⟩
  cases h3 : rng p.rx 0 1000
  · have ht : false = t := by rw [← h]; simp [plB, shB, reB, h3]
    subst ht
    go_enter Try.func37, Try.ntmps37
    go_wp2_with fail
    with_reducible refine (inRange_q _ _ _ true _ h1).mono ?_
    rintro e w1 ⟨rfl, rfl⟩
    go_wp2_with fail
    with_reducible refine (inRange_q _ _ _ true _ h2).mono ?_
    rintro e w1 ⟨rfl, rfl⟩
    go_wp2_with fail
    with_reducible refine (inRange_q _ _ _ false _ h3).mono ?_
    rintro e w1 ⟨rfl, rfl⟩
    go_wp2
    go_ret
    exact ⟨rfl, (by repeat (first | with_reducible exact Below.refl _ _ | with_reducible assumption | with_reducible refine balloc ?_ | (with_reducible refine bset ?_ ?_; rotate_left; ((try dsimp only); omega)) | refine bkeep2 ?_ (by assumption) | with_reducible refine Below.drew ?_))⟩
  cases h4 : rng p.ry 0 1000
  · have ht : false = t := by rw [← h]; simp [plB, shB, reB, h4]
    subst ht
    go_enter Try.func37, Try.ntmps37
    go_wp2_with fail
    with_reducible refine (inRange_q _ _ _ true _ h1).mono ?_
    rintro e w1 ⟨rfl, rfl⟩
    go_wp2_with fail
    with_reducible refine (inRange_q _ _ _ true _ h2).mono ?_
    rintro e w1 ⟨rfl, rfl⟩
    go_wp2_with fail
    with_reducible refine (inRange_q _ _ _ true _ h3).mono ?_
    rintro e w1 ⟨rfl, rfl⟩
    go_wp2_with fail
    with_reducible refine (inRange_q _ _ _ false _ h4).mono ?_
    rintro e w1 ⟨rfl, rfl⟩
    go_wp2
    go_ret
    exact ⟨rfl, (by repeat (first | with_reducible exact Below.refl _ _ | with_reducible assumption | with_reducible refine balloc ?_ | (with_reducible refine bset ?_ ?_; rotate_left; ((try dsimp only); omega)) | refine bkeep2 ?_ (by assumption) | with_reducible refine Below.drew ?_))⟩
  cases h5 : rng p.ww (-300) 300
  · have ht : false = t := by rw [← h]; simp [plB, shB, reB, h5]
    subst ht
    go_enter Try.func37, Try.ntmps37
    go_wp2_with fail
    with_reducible refine (inRange_q _ _ _ true _ h1).mono ?_
    rintro e w1 ⟨rfl, rfl⟩
    go_wp2_with fail
    with_reducible refine (inRange_q _ _ _ true _ h2).mono ?_
    rintro e w1 ⟨rfl, rfl⟩
    go_wp2_with fail
    with_reducible refine (inRange_q _ _ _ true _ h3).mono ?_
    rintro e w1 ⟨rfl, rfl⟩
    go_wp2_with fail
    with_reducible refine (inRange_q _ _ _ true _ h4).mono ?_
    rintro e w1 ⟨rfl, rfl⟩
    go_wp2_with fail
    with_reducible refine (inRange_q _ _ _ false _ h5).mono ?_
    rintro e w1 ⟨rfl, rfl⟩
    go_wp2
    go_ret
    exact ⟨rfl, (by repeat (first | with_reducible exact Below.refl _ _ | with_reducible assumption | with_reducible refine balloc ?_ | (with_reducible refine bset ?_ ?_; rotate_left; ((try dsimp only); omega)) | refine bkeep2 ?_ (by assumption) | with_reducible refine Below.drew ?_))⟩
  cases h6 : rng p.hh (-300) 300
  · have ht : false = t := by rw [← h]; simp [plB, shB, reB, h6]
    subst ht
    go_enter Try.func37, Try.ntmps37
    go_wp2_with fail
    with_reducible refine (inRange_q _ _ _ true _ h1).mono ?_
    rintro e w1 ⟨rfl, rfl⟩
    go_wp2_with fail
    with_reducible refine (inRange_q _ _ _ true _ h2).mono ?_
    rintro e w1 ⟨rfl, rfl⟩
    go_wp2_with fail
    with_reducible refine (inRange_q _ _ _ true _ h3).mono ?_
    rintro e w1 ⟨rfl, rfl⟩
    go_wp2_with fail
    with_reducible refine (inRange_q _ _ _ true _ h4).mono ?_
    rintro e w1 ⟨rfl, rfl⟩
    go_wp2_with fail
    with_reducible refine (inRange_q _ _ _ true _ h5).mono ?_
    rintro e w1 ⟨rfl, rfl⟩
    go_wp2_with fail
    with_reducible refine (inRange_q _ _ _ false _ h6).mono ?_
    rintro e w1 ⟨rfl, rfl⟩
    go_wp2
    go_ret
    exact ⟨rfl, (by repeat (first | with_reducible exact Below.refl _ _ | with_reducible assumption | with_reducible refine balloc ?_ | (with_reducible refine bset ?_ ?_; rotate_left; ((try dsimp only); omega)) | refine bkeep2 ?_ (by assumption) | with_reducible refine Below.drew ?_))⟩
  cases h7 : rng p.qw 0 1000
  · have ht : false = t := by rw [← h]; simp [plB, shB, reB, h7]
    subst ht
    go_enter Try.func37, Try.ntmps37
    go_wp2_with fail
    with_reducible refine (inRange_q _ _ _ true _ h1).mono ?_
    rintro e w1 ⟨rfl, rfl⟩
    go_wp2_with fail
    with_reducible refine (inRange_q _ _ _ true _ h2).mono ?_
    rintro e w1 ⟨rfl, rfl⟩
    go_wp2_with fail
    with_reducible refine (inRange_q _ _ _ true _ h3).mono ?_
    rintro e w1 ⟨rfl, rfl⟩
    go_wp2_with fail
    with_reducible refine (inRange_q _ _ _ true _ h4).mono ?_
    rintro e w1 ⟨rfl, rfl⟩
    go_wp2_with fail
    with_reducible refine (inRange_q _ _ _ true _ h5).mono ?_
    rintro e w1 ⟨rfl, rfl⟩
    go_wp2_with fail
    with_reducible refine (inRange_q _ _ _ true _ h6).mono ?_
    rintro e w1 ⟨rfl, rfl⟩
    go_wp2_with fail
    with_reducible refine (inRange_q _ _ _ false _ h7).mono ?_
    rintro e w1 ⟨rfl, rfl⟩
    go_wp2
    go_ret
    exact ⟨rfl, (by repeat (first | with_reducible exact Below.refl _ _ | with_reducible assumption | with_reducible refine balloc ?_ | (with_reducible refine bset ?_ ?_; rotate_left; ((try dsimp only); omega)) | refine bkeep2 ?_ (by assumption) | with_reducible refine Below.drew ?_))⟩
  cases h8 : rng p.qh 0 1000
  · have ht : false = t := by rw [← h]; simp [plB, shB, reB, h8]
    subst ht
    go_enter Try.func37, Try.ntmps37
    go_wp2_with fail
    with_reducible refine (inRange_q _ _ _ true _ h1).mono ?_
    rintro e w1 ⟨rfl, rfl⟩
    go_wp2_with fail
    with_reducible refine (inRange_q _ _ _ true _ h2).mono ?_
    rintro e w1 ⟨rfl, rfl⟩
    go_wp2_with fail
    with_reducible refine (inRange_q _ _ _ true _ h3).mono ?_
    rintro e w1 ⟨rfl, rfl⟩
    go_wp2_with fail
    with_reducible refine (inRange_q _ _ _ true _ h4).mono ?_
    rintro e w1 ⟨rfl, rfl⟩
    go_wp2_with fail
    with_reducible refine (inRange_q _ _ _ true _ h5).mono ?_
    rintro e w1 ⟨rfl, rfl⟩
    go_wp2_with fail
    with_reducible refine (inRange_q _ _ _ true _ h6).mono ?_
    rintro e w1 ⟨rfl, rfl⟩
    go_wp2_with fail
    with_reducible refine (inRange_q _ _ _ true _ h7).mono ?_
    rintro e w1 ⟨rfl, rfl⟩
    go_wp2_with fail
    with_reducible refine (inRange_q _ _ _ false _ h8).mono ?_
    rintro e w1 ⟨rfl, rfl⟩
    go_wp2
    go_ret
    exact ⟨rfl, (by repeat (first | with_reducible exact Below.refl _ _ | with_reducible assumption | with_reducible refine balloc ?_ | (with_reducible refine bset ?_ ?_; rotate_left; ((try dsimp only); omega)) | refine bkeep2 ?_ (by assumption) | with_reducible refine Below.drew ?_))⟩
  have h9 : rng p.an 0 8 = t := by rw [← h]; simp [plB, shB, reB, h1, h2, h3, h4, h5, h6, h7, h8]
  go_enter Try.func37, Try.ntmps37
  go_wp2_with fail
  with_reducible refine (inRange_q _ _ _ true _ h1).mono ?_
  rintro e w1 ⟨rfl, rfl⟩
  go_wp2_with fail
  with_reducible refine (inRange_q _ _ _ true _ h2).mono ?_
  rintro e w1 ⟨rfl, rfl⟩
  go_wp2_with fail
  with_reducible refine (inRange_q _ _ _ true _ h3).mono ?_
  rintro e w1 ⟨rfl, rfl⟩
  go_wp2_with fail
  with_reducible refine (inRange_q _ _ _ true _ h4).mono ?_
  rintro e w1 ⟨rfl, rfl⟩
  go_wp2_with fail
  with_reducible refine (inRange_q _ _ _ true _ h5).mono ?_
  rintro e w1 ⟨rfl, rfl⟩
  go_wp2_with fail
  with_reducible refine (inRange_q _ _ _ true _ h6).mono ?_
  rintro e w1 ⟨rfl, rfl⟩
  go_wp2_with fail
  with_reducible refine (inRange_q _ _ _ true _ h7).mono ?_
  rintro e w1 ⟨rfl, rfl⟩
  go_wp2_with fail
  with_reducible refine (inRange_q _ _ _ true _ h8).mono ?_
  rintro e w1 ⟨rfl, rfl⟩
  go_wp2_with fail
  with_reducible refine (sanch_t _ t _ h9).mono ?_
  rintro e w1 ⟨rfl, rfl⟩
  go_wp2
  go_ret
  exact ⟨rfl, (by repeat (first | with_reducible exact Below.refl _ _ | with_reducible assumption | with_reducible refine balloc ?_ | (with_reducible refine bset ?_ ?_; rotate_left; ((try dsimp only); omega)) | refine bkeep2 ?_ (by assumption) | with_reducible refine Below.drew ?_))⟩
theorem svalidPlace2_t (p : Plc) (t : Bool) (w : World) (h : plB p = t) : Calls Try.prog 11 #[.agg #[.int .i64 p.x, .int .i64 p.y, .int .i64 p.rx, .int .i64 p.ry, .int .i64 p.ww, .int .i64 p.hh, .int .i64 p.qw, .int .i64 p.qh, .int .i64 p.an]] w fun e w' => e = .returned (.bool t) ∧ Below w.heap.size w w' := by
  go_enter Try.func11, Try.ntmps11
  go_wp2_with fail
  with_reducible refine (svalidPlace_t p t _ h).mono ?_
  rintro e w1 ⟨rfl, hb⟩
  go_wp2
  go_ret
  exact ⟨rfl, (by repeat (first | with_reducible exact Below.refl _ _ | with_reducible assumption | with_reducible refine balloc ?_ | (with_reducible refine bset ?_ ?_; rotate_left; ((try dsimp only); omega)) | refine bkeep2 ?_ (by assumption) | with_reducible refine Below.drew ?_))⟩
end Go.Proofs.Ytfhjmmajhohkjab
end
section
namespace Go.Proofs.Ytfhjmmajhohkjab
open Go.RowKit
set_option linter.unusedVariables false
set_option maxHeartbeats 1000000
attribute [local go_sem 5000] run_mx run_mn
attribute [local go_sem] growUpon_value growUpon_skip growUpon_enter
theorem thou_v (m s : Int) (w : World) (h1 : 0 ≤ m) (h2 : m ≤ 1000) (h3 : 0 ≤ s) (h4 : s ≤ 400) : Calls Try.prog 56 #[.int .i64 m, .int .i64 s] w fun e w' => e = .returned (.int .i64 (thM m s)) ∧ Below w.heap.size w w' := by
  obtain ⟨q1, q2⟩ := th_prod h1 h2 h3 h4
  go_enter Try.func56, Try.ntmps56
  go_wp2
  go_ret
  exact ⟨ret_int rfl, (by repeat (first | with_reducible exact Below.refl _ _ | with_reducible assumption | with_reducible refine balloc ?_ | (with_reducible refine bset ?_ ?_; rotate_left; ((try dsimp only); omega)) | refine bkeep2 ?_ (by assumption) | with_reducible refine Below.drew ?_))⟩
theorem part_v (n m : Int) (w : World) (h1 : 0 ≤ m) (h2 : m ≤ 1000) (h3 : 0 ≤ n) (h4 : n ≤ 400) : Calls Try.prog 50 #[.int .i64 n, .int .i64 m] w fun e w' => e = .returned (.int .i64 (thM m n)) ∧ Below w.heap.size w w' := by
  obtain ⟨q1, q2⟩ := th_prod h1 h2 h3 h4
  rw [Int.mul_comm] at q1 q2
  go_enter Try.func50, Try.ntmps50
  go_wp2
  go_ret
  exact ⟨ret_int (by rw [thM, Int.mul_comm]), (by repeat (first | with_reducible exact Below.refl _ _ | with_reducible assumption | with_reducible refine balloc ?_ | (with_reducible refine bset ?_ ?_; rotate_left; ((try dsimp only); omega)) | refine bkeep2 ?_ (by assumption) | with_reducible refine Below.drew ?_))⟩
theorem put_q {w : World} {b i : Nat} {cs : Array Value} {T : TypeId} {fz : Nat × Nat} (h : w.heap[b]? = some (.cells cs T fz)) (u : Value) : (w.setCell ⟨b, i, none⟩ u).heap[b]? = some (.cells (cs.setIfInBounds i u) T fz) := by
  simp [World.setCell, Array.getElem?_modify, h]
theorem gs_q {w w' : World} {g : Nat} (h : w.grownBy w' (some g)) (o : Nat) (v : Value) : w.grownBy (w'.setCell ⟨g, o, none⟩ v) (some g) :=
  ⟨h.os, h.tape, h.output, by simpa [World.setCell] using h.size, fun k hk hne => (Below.heap_setCell w' ⟨g, o, none⟩ v k (by rintro rfl; exact hne rfl)).trans (h.block k hk hne)⟩
theorem gr_q (w : World) (g : Nat) : w.grownBy w (some g) := ⟨rfl, rfl, rfl, Nat.le_refl _, fun _ _ _ => rfl⟩
theorem gb_q {w w' w2 : World} {g : Nat} (h : w.grownBy w' (some g)) (hb : Below w'.heap.size w' w2) : w.grownBy w2 (some g) :=
  ⟨hb.os.trans h.os, hb.tape.trans h.tape, hb.output.trans h.output, Nat.le_trans h.size hb.size, fun k hk hne => (hb.block k (Nat.lt_of_lt_of_le hk h.size)).trans (h.block k hk hne)⟩
theorem gt_q {w w' w2 : World} {g : Nat} (h : w.grownBy w' (some g)) (hb : w'.grownBy w2 (some g)) : w.grownBy w2 (some g) :=
  ⟨hb.os.trans h.os, hb.tape.trans h.tape, hb.output.trans h.output, Nat.le_trans h.size hb.size, fun k hk hne => (hb.block k (Nat.lt_of_lt_of_le hk h.size) hne).trans (h.block k hk hne)⟩
/-- what is newer than the old world's blocks does not count there -/
theorem gnew_q {W w w' : World} {g : Nat} (h : Below W.heap.size W w) (hg : w.grownBy w' (some g)) (hn : W.heap.size ≤ g) : Below W.heap.size W w' :=
  ⟨hg.os.trans h.os, hg.tape.trans h.tape, hg.output.trans h.output, Nat.le_trans h.size hg.size, fun k hk => (hg.block k (Nat.lt_of_lt_of_le hk h.size) (fun e => by cases e; omega)).trans (h.block k hk)⟩
theorem fz_q {w : World} {b : Nat} {cs : Array Value} {T : TypeId} (h : w.heap[b]? = some (.cells cs T (0, 0))) (i : Nat) : w.frozen? ⟨b, i, none⟩ = false := by simp [World.frozen?, h]
theorem lt_q {w : World} {b : Nat} {o : Obj} (h : w.heap[b]? = some o) : b < w.heap.size := (Array.getElem?_eq_some_iff.1 h).1
theorem oldq1 (w : World) (o o' : Obj) : ((w.alloc o).alloc o').heap[w.heap.size]? = some o := (Below.heap_alloc _ o' w.heap.size (by simp)).trans (new_q w o)
theorem c9_q {w : World} {b : Nat} {a0 a1 a2 a3 a4 a5 a6 a7 a8 : Value} {T : TypeId} {fz : Nat × Nat} (h : w.heap[b]? = some (.cells #[a0, a1, a2, a3, a4, a5, a6, a7, a8] T fz)) :
    w.cell? ⟨b, 0, none⟩ = some a0 ∧ w.cell? ⟨b, 1, none⟩ = some a1 ∧ w.cell? ⟨b, 2, none⟩ = some a2 ∧ w.cell? ⟨b, 3, none⟩ = some a3 ∧ w.cell? ⟨b, 4, none⟩ = some a4 ∧ w.cell? ⟨b, 5, none⟩ = some a5 ∧ w.cell? ⟨b, 6, none⟩ = some a6 ∧ w.cell? ⟨b, 7, none⟩ = some a7 ∧ w.cell? ⟨b, 8, none⟩ = some a8 :=
  ⟨cl_q h 0, cl_q h 1, cl_q h 2, cl_q h 3, cl_q h 4, cl_q h 5, cl_q h 6, cl_q h 7, cl_q h 8⟩
theorem f9_q {w : World} {b : Nat} {cs : Array Value} {T : TypeId} (h : w.heap[b]? = some (.cells cs T (0, 0))) : w.frozen? ⟨b, 0, none⟩ = false ∧ w.frozen? ⟨b, 1, none⟩ = false ∧ w.frozen? ⟨b, 2, none⟩ = false ∧ w.frozen? ⟨b, 3, none⟩ = false ∧ w.frozen? ⟨b, 4, none⟩ = false ∧ w.frozen? ⟨b, 5, none⟩ = false ∧ w.frozen? ⟨b, 6, none⟩ = false ∧ w.frozen? ⟨b, 7, none⟩ = false ∧ w.frozen? ⟨b, 8, none⟩ = false :=
  ⟨fz_q h 0, fz_q h 1, fz_q h 2, fz_q h 3, fz_q h 4, fz_q h 5, fz_q h 6, fz_q h 7, fz_q h 8⟩
set_option maxRecDepth 100000 in
theorem shift_v (b : Nat) (p : Plc) (dx dy : Int) (w : World) (hh : w.heap[b]? = some (.cells #[.int .i64 p.x, .int .i64 p.y, .int .i64 p.rx, .int .i64 p.ry, .int .i64 p.ww, .int .i64 p.hh, .int .i64 p.qw, .int .i64 p.qh, .int .i64 p.an] 24 (0, 0))) (h1 : -5000 ≤ p.x ∧ p.x ≤ 5000) (h2 : -5000 ≤ p.y ∧ p.y ≤ 5000) (h3 : -5000 ≤ dx ∧ dx ≤ 5000) (h4 : -5000 ≤ dy ∧ dy ≤ 5000) :
    Calls Try.prog 46 #[.pointer (some ⟨b, 0, none⟩), .int .i64 dx, .int .i64 dy] w fun e w' => (∃ v, e = .returned v) ∧ w'.heap[b]? = some (.cells #[.int .i64 (p.x + dx), .int .i64 (p.y + dy), .int .i64 p.rx, .int .i64 p.ry, .int .i64 p.ww, .int .i64 p.hh, .int .i64 p.qw, .int .i64 p.qh, .int .i64 p.an] 24 (0, 0)) ∧ w.grownBy w' (some b) := by
  obtain ⟨c0, c1, c2, c3, c4, c5, c6, c7, c8⟩ := c9_q hh
  obtain ⟨f0, f1, -⟩ := f9_q hh
  have q1 := put_q (i := 0) hh (.int .i64 (p.x + dx))
  have q2 := put_q (i := 1) q1 (.int .i64 (p.y + dy))
  simp only [List.setIfInBounds_toArray, List.set_cons_succ, List.set_cons_zero] at q2
  have HQ := Lib.hid q2
  have HG := Lib.hid (gs_q (gs_q (gr_q w b) 0 (.int .i64 (p.x + dx))) 1 (.int .i64 (p.y + dy)))
  clear hh q1 q2 c2 c3 c4 c5 c6 c7 c8
  obtain ⟨h1, h1'⟩ := h1
  obtain ⟨h2, h2'⟩ := h2
  obtain ⟨h3, h3'⟩ := h3
  obtain ⟨h4, h4'⟩ := h4
  go_enter Try.func46, Try.ntmps46
  go_wp2
  go_end0
  exact ⟨⟨_, rfl⟩, HQ.out, HG.out⟩
end Go.Proofs.Ytfhjmmajhohkjab
end
section
namespace Go.Proofs.Ytfhjmmajhohkjab
open Go.RowKit
/-- behind a region that draws its order -/
theorem bdrewn {W w' : World} (h : Below W.drew.heap.size W.drew w') : Below W.heap.size W w' := (Below.refl _ _).drew.trans h
end Go.Proofs.Ytfhjmmajhohkjab
end
section
namespace Go.Proofs.Ytfhjmmajhohkjab
open Go.RowKit
set_option linter.unusedVariables false
set_option maxHeartbeats 1000000
attribute [local go_sem 5000] run_mx run_mn
attribute [local go_sem] growUpon_value growUpon_skip growUpon_enter
theorem nopan_normalQ {Q : Exit → Act → World → Prop} {a : Act} {w : World} (h : Q .normal a w) : NoPan Q .normal a w := h
theorem wr_q {e : Int} (h1 : -100000 ≤ e) (h2 : e ≤ 100000) : IntKind.i64.wrap e = e := IntWalk.i64_in _ (by omega)
theorem wp_genG3 {P : Program} {c : Code} {Q : Exit → Act → World → Prop} {a : Act} {W : World} (F : World → Prop) (hF : F W) (h : ∀ W0, F W0 → c.wp P Q a W0) : c.wp P Q a W := h W hF
set_option maxRecDepth 100000 in
theorem fix_v (b : Nat) (p : Plc) (w0 h0 : Int) (w : World) (hh : w.heap[b]? = some (.cells #[.int .i64 p.x, .int .i64 p.y, .int .i64 p.rx, .int .i64 p.ry, .int .i64 p.ww, .int .i64 p.hh, .int .i64 p.qw, .int .i64 p.qh, .int .i64 p.an] 24 (0, 0))) (hp : plB p = true) (hr : rqB w0 h0 = true) :
    Calls Try.prog 49 #[.pointer (some ⟨b, 0, none⟩), .int .i64 w0, .int .i64 h0] w fun e w' => (∃ v, e = .returned v) ∧ w'.heap[b]? = some (.cells #[.int .i64 (p.x + thM p.rx w0), .int .i64 (p.y + thM p.ry h0), .int .i64 0, .int .i64 0, .int .i64 (wM p w0), .int .i64 (hM p h0), .int .i64 0, .int .i64 0, .int .i64 p.an] 24 (0, 0)) ∧ w.grownBy w' (some b) := by
  have HBD := Lib.hid (pl_bd hp hr)
  obtain ⟨⟨b1, b1'⟩, ⟨b2, b2'⟩, ⟨b3, b3'⟩, ⟨b4, b4'⟩, ⟨b5, b5'⟩, ⟨b6, b6'⟩, ⟨b7, b7'⟩, ⟨b8, b8'⟩, ⟨b9, b9'⟩⟩ := plB_iff.1 hp
  obtain ⟨⟨r1, r1'⟩, ⟨r2, r2'⟩⟩ := rqB_iff.1 hr
  obtain ⟨⟨t1, t1'⟩, ⟨t2, t2'⟩, ⟨t3, t3'⟩, ⟨t4, t4'⟩, -, -, -, -, -, -⟩ := HBD.out
  have e1 : IntKind.i64.wrap (p.ww + thM p.qw w0) = p.ww + thM p.qw w0 := wr_q (by omega) (by omega)
  have e2 : IntKind.i64.wrap (p.hh + thM p.qh h0) = p.hh + thM p.qh h0 := wr_q (by omega) (by omega)
  have hlt := lt_q hh
  obtain ⟨c0, c1, c2, c3, c4, c5, c6, c7, c8⟩ := c9_q hh
  have HX := Lib.hid hh
  clear hh hp hr
  go_enter Try.func49, Try.ntmps49
  go_wp2_with fail
  refine wp_named (fun W0 e0 => ?_)
  replace e0 := Lib.hid e0
  refine wp_region_grow 13 1 (· < 13) (by kernel_rfl) (by kernel_rfl) rfl ?_
  iterate 13 (refine wpG_step (fun K hK => ?_); apply Exists.intro; refine ⟨.inl ⟨rfl, fun w' hw' => ?_⟩, ?_⟩; (focus ((obtain ⟨hc, hf⟩ := bcell hw'.out); (have hcS := bcellS hw'.out); go_simp <;> first | rfl | (go_at_call 56; exact thou_v _ _ _ (by assumption) (by assumption) (by assumption) (by assumption)))); (go_simp; refine hK _ ?_; clear hK K))
  refine wpG_nil ?_
  refine wpK_tail (by kernel_rfl) (fun w2 hg2 => ?_)
  have hb2 := bdrewn hg2.out
  refine wpAny_one (i := 13) (by kernel_rfl) rfl rfl ?_
  go_simp
  go_at_call 46
  have HX2 := Lib.hid ((hb2.block _ hlt).trans HX.out)
  clear c0 c1 c2 c3 c4 c5 c6 c7 c8
  refine (shift_v b p (thM p.rx w0) (thM p.ry h0) _ HX2.out (by omega) (by omega) (by omega) (by omega)).mono ?_
  rintro e w3 ⟨⟨v, rfl⟩, hx3, hg3⟩
  go_simp
  refine wpAny_end (by kernel_rfl) ?_
  refine NoPan.thn ?_
  have HG := Lib.hid (gt_q (gb_q (gr_q w b) hb2) hg3)
  have HX3 := Lib.hid hx3
  have hlt3 := lt_q hx3
  clear HX HX2 hb2 hg2 hx3 hg3 hlt
  obtain ⟨c0, c1, c2, c3, c4, c5, c6, c7, c8⟩ := c9_q HX3.out
  go_wp2_with fail
  refine wp_region_grow 15 1 (· < 15) (by kernel_rfl) (by kernel_rfl) rfl ?_
  iterate 15 (refine wpG_step (fun K hK => ?_); apply Exists.intro; refine ⟨.inl ⟨rfl, fun w' hw' => ?_⟩, ?_⟩; (focus ((obtain ⟨hc, hf⟩ := bcell hw'.out); (have hcS := bcellS hw'.out); go_simp <;> first | rfl | (go_at_call 56; exact thou_v _ _ _ (by assumption) (by assumption) (by assumption) (by assumption)))); (go_simp; refine hK _ ?_; clear hK K))
  refine wpG_nil ?_
  refine wpK_tail (by kernel_rfl) (fun w4 hg4 => ?_)
  have hb4 := bdrewn hg4.out
  have hx4 := (hb4.block _ hlt3).trans HX3.out
  clear c0 c1 c2 c3 c4 c5 c6 c7 c8
  obtain ⟨c0, c1, c2, c3, c4, c5, c6, c7, c8⟩ := c9_q hx4
  obtain ⟨f0, f1, f2, f3, f4, f5, f6, f7, f8⟩ := f9_q hx4
  have q4 := put_q (i := 4) hx4 (.int .i64 (mx (p.ww + thM p.qw w0) 0))
  simp only [List.setIfInBounds_toArray, List.set_cons_succ, List.set_cons_zero] at q4
  replace HX3 := Lib.hid q4
  replace HG := Lib.hid (gs_q (gb_q HG.out hb4) 4 (.int .i64 (mx (p.ww + thM p.qw w0) 0)))
  refine wpAny_one (i := 15) (by kernel_rfl) rfl rfl ?_
  go_simp
  refine wpAny_end (by kernel_rfl) ?_
  clear c0 c1 c2 c3 c4 c5 c6 c7 c8 f0 f1 f2 f3 f4 f5 f6 f7 f8 hx4 hb4 hg4 hlt3 q4
  refine NoPan.gen (fun W => W.heap[b]? = some (.cells #[.int .i64 (p.x + thM p.rx w0), .int .i64 (p.y + thM p.ry h0), .int .i64 p.rx, .int .i64 p.ry, .int .i64 (mx (p.ww + thM p.qw w0) 0), .int .i64 p.hh, .int .i64 p.qw, .int .i64 p.qh, .int .i64 p.an] 24 (0, 0)) ∧ w.grownBy W (some b)) ⟨HX3.out, HG.out⟩ (fun w5 hw5 => ?_)
  clear HX3 HG
  obtain ⟨hx5, hg5⟩ := hw5
  have HX3 := Lib.hid hx5
  have HG := Lib.hid hg5
  have hlt3 := lt_q hx5
  clear hx5 hg5
  obtain ⟨c0, c1, c2, c3, c4, c5, c6, c7, c8⟩ := c9_q HX3.out
  go_wp2_with fail
  refine wp_region_grow 15 1 (· < 15) (by kernel_rfl) (by kernel_rfl) rfl ?_
  iterate 15 (refine wpG_step (fun K hK => ?_); apply Exists.intro; refine ⟨.inl ⟨rfl, fun w' hw' => ?_⟩, ?_⟩; (focus ((obtain ⟨hc, hf⟩ := bcell hw'.out); (have hcS := bcellS hw'.out); go_simp <;> first | rfl | (go_at_call 56; exact thou_v _ _ _ (by assumption) (by assumption) (by assumption) (by assumption)))); (go_simp; refine hK _ ?_; clear hK K))
  refine wpG_nil ?_
  refine wpK_tail (by kernel_rfl) (fun w6 hg4 => ?_)
  have hb4 := bdrewn hg4.out
  have hx4 := (hb4.block _ hlt3).trans HX3.out
  clear c0 c1 c2 c3 c4 c5 c6 c7 c8
  obtain ⟨c0, c1, c2, c3, c4, c5, c6, c7, c8⟩ := c9_q hx4
  obtain ⟨f0, f1, f2, f3, f4, f5, f6, f7, f8⟩ := f9_q hx4
  have q4 := put_q (i := 5) hx4 (.int .i64 (mx (p.hh + thM p.qh h0) 0))
  simp only [List.setIfInBounds_toArray, List.set_cons_succ, List.set_cons_zero] at q4
  replace HX3 := Lib.hid q4
  replace HG := Lib.hid (gs_q (gb_q HG.out hb4) 5 (.int .i64 (mx (p.hh + thM p.qh h0) 0)))
  refine wpAny_one (i := 15) (by kernel_rfl) rfl rfl ?_
  go_simp
  refine wpAny_end (by kernel_rfl) ?_
  clear c0 c1 c2 c3 c4 c5 c6 c7 c8 f0 f1 f2 f3 f4 f5 f6 f7 f8 hx4 hb4 hg4 hlt3 q4
  refine NoPan.gen (fun W => W.heap[b]? = some (.cells #[.int .i64 (p.x + thM p.rx w0), .int .i64 (p.y + thM p.ry h0), .int .i64 p.rx, .int .i64 p.ry, .int .i64 (mx (p.ww + thM p.qw w0) 0), .int .i64 (mx (p.hh + thM p.qh h0) 0), .int .i64 p.qw, .int .i64 p.qh, .int .i64 p.an] 24 (0, 0)) ∧ w.grownBy W (some b)) ⟨HX3.out, HG.out⟩ (fun w7 hw5 => ?_)
  clear HX3 HG
  obtain ⟨hx5, hg5⟩ := hw5
  obtain ⟨c0, c1, c2, c3, c4, c5, c6, c7, c8⟩ := c9_q hx5
  obtain ⟨f0, f1, f2, f3, f4, f5, f6, f7, f8⟩ := f9_q hx5
  have q1 := put_q (i := 7) (put_q (i := 6) (put_q (i := 3) (put_q (i := 2) hx5 (.int .i64 0)) (.int .i64 0)) (.int .i64 0)) (.int .i64 0)
  simp only [List.setIfInBounds_toArray, List.set_cons_succ, List.set_cons_zero] at q1
  have HQ := Lib.hid q1
  have HG := Lib.hid (gs_q (gs_q (gs_q (gs_q hg5 2 (.int .i64 0)) 3 (.int .i64 0)) 6 (.int .i64 0)) 7 (.int .i64 0))
  clear q1 hx5 hg5
  go_wp2
  go_end0
  exact ⟨⟨_, rfl⟩, HQ.out, HG.out⟩
end Go.Proofs.Ytfhjmmajhohkjab
end
