import Derived.Test.YtgdkionmeacalabGreatQ04
import Derived.Deep.Draws
section
set_option linter.unusedVariables false
namespace Go.Proofs.YtgdkionmeacalabGreat
/-- an item that is placed -/
structure Plc where
  x : Int
  y : Int
  rx : Int
  ry : Int
  ww : Int
  hh : Int
  qw : Int
  qh : Int
  an : Int
def shB (n : Int) : Bool := rng n (-300) 300
def reB (n : Int) : Bool := rng n 0 1000
def plB (p : Plc) : Bool := [p.x, p.y, p.ww, p.hh].all shB && ([p.rx, p.ry, p.qw, p.qh].all reB && rng p.an 0 8)
theorem plB_iff {p : Plc} : plB p = true ↔ ((-300 ≤ p.x ∧ p.x ≤ 300) ∧ (-300 ≤ p.y ∧ p.y ≤ 300) ∧ (0 ≤ p.rx ∧ p.rx ≤ 1000) ∧ (0 ≤ p.ry ∧ p.ry ≤ 1000) ∧ (-300 ≤ p.ww ∧ p.ww ≤ 300) ∧ (-300 ≤ p.hh ∧ p.hh ≤ 300) ∧ (0 ≤ p.qw ∧ p.qw ≤ 1000) ∧ (0 ≤ p.qh ∧ p.qh ≤ 1000) ∧ (0 ≤ p.an ∧ p.an ≤ 8)) := by
  simp only [plB, shB, reB, List.all_cons, List.all_nil, Bool.and_true, Bool.and_eq_true, rng_iff]
  omega
/-- so many thousandths -/
def thM (m s : Int) : Int := m * s / 1000
theorem th_prod {m s : Int} (h1 : 0 ≤ m) (h2 : m ≤ 1000) (h3 : 0 ≤ s) (h4 : s ≤ 400) : 0 ≤ m * s ∧ m * s ≤ 400000 := by
  refine ⟨Int.mul_nonneg h1 h3, ?_⟩
  have e1 : m * s ≤ 1000 * s := Int.mul_le_mul_of_nonneg_right h2 h3
  omega
theorem th_bd {m s : Int} (h1 : 0 ≤ m) (h2 : m ≤ 1000) (h3 : 0 ≤ s) (h4 : s ≤ 400) : 0 ≤ thM m s ∧ thM m s ≤ 400 := by
  have := th_prod h1 h2 h3 h4
  unfold thM; omega
theorem th_zero (s : Int) : thM 0 s = 0 := by simp [thM]
/-- the sizes and the place -/
def wM (p : Plc) (w : Int) : Int := mx (p.ww + thM p.qw w) 0
def hM (p : Plc) (h : Int) : Int := mx (p.hh + thM p.qh h) 0
def xM (p : Plc) (w : Int) : Int := p.x + thM p.rx w - wM p w * (p.an % 3) / 2
def yM (p : Plc) (h : Int) : Int := p.y + thM p.ry h - hM p h * (p.an / 3) / 2
def rqB (w h : Int) : Bool := rng w 0 400 && rng h 0 400
theorem rqB_iff {w h : Int} : rqB w h = true ↔ ((0 ≤ w ∧ w ≤ 400) ∧ (0 ≤ h ∧ h ≤ 400)) := by simp only [rqB, Bool.and_eq_true, rng_iff]
def prB (p : Plc) (w h : Int) : Bool := plB p && rqB w h
theorem half_bd {s k : Int} (h1 : 0 ≤ s) (h2 : s ≤ 700) (h3 : 0 ≤ k) (h4 : k ≤ 2) : 0 ≤ s * k ∧ s * k ≤ 1400 ∧ 0 ≤ s * k / 2 ∧ s * k / 2 ≤ 700 := by
  have e1 : 0 ≤ s * k := Int.mul_nonneg h1 h3
  have e2 : s * k ≤ s * 2 := Int.mul_le_mul_of_nonneg_left h4 h1
  omega
/-- all that the walks want to know of sizes -/
structure PlBd (p : Plc) (w h : Int) : Prop where
  t1 : 0 ≤ thM p.rx w ∧ thM p.rx w ≤ 400
  t2 : 0 ≤ thM p.ry h ∧ thM p.ry h ≤ 400
  t3 : 0 ≤ thM p.qw w ∧ thM p.qw w ≤ 400
  t4 : 0 ≤ thM p.qh h ∧ thM p.qh h ≤ 400
  w1 : 0 ≤ wM p w ∧ wM p w ≤ 700
  h1 : 0 ≤ hM p h ∧ hM p h ≤ 700
  a1 : 0 ≤ p.an % 3 ∧ p.an % 3 ≤ 2
  a2 : 0 ≤ p.an / 3 ∧ p.an / 3 ≤ 2
  p1 : 0 ≤ wM p w * (p.an % 3) ∧ wM p w * (p.an % 3) ≤ 1400 ∧ 0 ≤ wM p w * (p.an % 3) / 2 ∧ wM p w * (p.an % 3) / 2 ≤ 700
  p2 : 0 ≤ hM p h * (p.an / 3) ∧ hM p h * (p.an / 3) ≤ 1400 ∧ 0 ≤ hM p h * (p.an / 3) / 2 ∧ hM p h * (p.an / 3) / 2 ≤ 700
theorem pl_bd {p : Plc} {w h : Int} (hp : plB p = true) (hr : rqB w h = true) : PlBd p w h := by
  obtain ⟨b1, b2, b3, b4, b5, b6, b7, b8, b9⟩ := plB_iff.1 hp
  obtain ⟨r1, r2⟩ := rqB_iff.1 hr
  have t1 := th_bd b3.1 b3.2 r1.1 r1.2
  have t2 := th_bd b4.1 b4.2 r2.1 r2.2
  have t3 := th_bd b7.1 b7.2 r1.1 r1.2
  have t4 := th_bd b8.1 b8.2 r2.1 r2.2
  have w1 : 0 ≤ wM p w ∧ wM p w ≤ 700 := by have := mx_spec (p.ww + thM p.qw w) 0; unfold wM; omega
  have h1 : 0 ≤ hM p h ∧ hM p h ≤ 700 := by have := mx_spec (p.hh + thM p.qh h) 0; unfold hM; omega
  have a1 : 0 ≤ p.an % 3 ∧ p.an % 3 ≤ 2 := by omega
  have a2 : 0 ≤ p.an / 3 ∧ p.an / 3 ≤ 2 := by omega
  exact ⟨t1, t2, t3, t4, w1, h1, a1, a2, half_bd w1.1 w1.2 a1.1 a1.2, half_bd h1.1 h1.2 a2.1 a2.2⟩
theorem PlBd.x1 {p : Plc} {w h : Int} (b : PlBd p w h) (hp : plB p = true) : -1000 ≤ xM p w ∧ xM p w ≤ 700 := by
  obtain ⟨b1, _⟩ := plB_iff.1 hp
  obtain ⟨t1, t2, t3, t4, w1, h1, a1, a2, p1, p2⟩ := b
  unfold xM; omega
theorem PlBd.y1 {p : Plc} {w h : Int} (b : PlBd p w h) (hp : plB p = true) : -1000 ≤ yM p h ∧ yM p h ≤ 700 := by
  obtain ⟨_, b2, _⟩ := plB_iff.1 hp
  obtain ⟨t1, t2, t3, t4, w1, h1, a1, a2, p1, p2⟩ := b
  unfold yM; omega
/-- whether it lies inside -/
def piB (p : Plc) (w h : Int) : Bool := insB 0 0 w h (xM p w) (yM p h) (wM p w) (hM p h)
/-- the least size -/
def LeM (p : Plc) (v : Int) : Prop := (0 ≤ v ∧ v ≤ 400 ∧ piB p v v = true ∧ ∀ j : Int, 0 ≤ j → j < v → piB p j j = false) ∨ (v = -1 ∧ ∀ j : Int, 0 ≤ j → j ≤ 400 → piB p j j = false)
theorem LeM_uniq {p : Plc} {a b : Int} (ha : LeM p a) (hb : LeM p b) : a = b := by
  rcases ha with ⟨a0, a1, a2, a3⟩ | ⟨rfl, a1⟩ <;> rcases hb with ⟨b0, b1, b2, b3⟩ | ⟨rfl, b1⟩
  · rcases Int.lt_trichotomy a b with h | h | h
    · have := b3 a a0 h; rw [this] at a2; cases a2
    · exact h
    · have := a3 b b0 h; rw [this] at b2; cases b2
  · have := b1 a a0 a1; rw [this] at a2; cases a2
  · have := a1 b b0 b1; rw [this] at b2; cases b2
  · rfl
theorem le_step {p : Plc} {k : Nat} (h : ∀ j : Int, 0 ≤ j → j < k → piB p j j = false) (hk : piB p k k = false) : ∀ j : Int, 0 ≤ j → j < ((k + 1 : Nat) : Int) → piB p j j = false := fun j j0 j1 => by
  by_cases e : j = k
  · subst e; exact hk
  · exact h j j0 (by omega)
/-- the item that is told another place; what is fixed -/
def atM (p : Plc) (w h x y : Int) : Plc := ⟨p.x + (x - xM p w), p.y + (y - yM p h), p.rx, p.ry, p.ww, p.hh, p.qw, p.qh, p.an⟩
def fixM (p : Plc) (w h : Int) : Plc := ⟨p.x + thM p.rx w, p.y + thM p.ry h, 0, 0, wM p w, hM p h, 0, 0, p.an⟩
def paB (p : Plc) (w h x y : Int) : Bool := prB p w h && (shB x && (shB y && plB (atM p w h x y)))
def fxB (p : Plc) (w h : Int) : Bool := prB p w h && plB (fixM p w h)
end Go.Proofs.YtgdkionmeacalabGreat
namespace Go.Proofs.YtgdkionmeacalabGreat
def Sq (a b c d : Int) : Prop := (-2000 ≤ a ∧ a ≤ 2000) ∧ (-2000 ≤ b ∧ b ≤ 2000) ∧ (-2000 ≤ c ∧ c ≤ 2000) ∧ (-2000 ≤ d ∧ d ≤ 2000)
theorem Sq.sm {a b c d : Int} (h : Sq a b c d) : Sm a b c d := by
  obtain ⟨h1, h2, h3, h4⟩ := h
  exact Sm_of (by omega)
theorem Sq.cover {x y u v x' y' u' v' : Int} (h : Sq x y u v) (h' : Sq x' y' u' v') : Sm (mn x x') (mn y y') (mx (x + u) (x' + u')) (mx (y + v) (y' + v')) ∧ Sq (mn x x') (mn y y') 0 0 ∧ (-4000 ≤ mx (x + u) (x' + u') ∧ mx (x + u) (x' + u') ≤ 4000) ∧ (-4000 ≤ mx (y + v) (y' + v') ∧ mx (y + v) (y' + v') ≤ 4000) := by
  obtain ⟨h1, h2, h3, h4⟩ := h
  obtain ⟨k1, k2, k3, k4⟩ := h'
  have := mn_spec x x'; have := mn_spec y y'; have := mx_spec (x + u) (x' + u'); have := mx_spec (y + v) (y' + v')
  refine ⟨Sm_of (by omega), ⟨by omega, by omega, by omega, by omega⟩, by omega, by omega⟩
theorem holds_all {x y u v x' y' u' v' : Int} :
    (mn x x' = x ∧ mn y y' = y ∧ mx (x + u) (x' + u') - mn x x' = u ∧ mx (y + v) (y' + v') - mn y y' = v) ↔ (x ≤ x' ∧ y ≤ y' ∧ x' + u' ≤ x + u ∧ y' + v' ≤ y + v) := by
  have := mn_spec x x'; have := mn_spec y y'; have := mx_spec (x + u) (x' + u'); have := mx_spec (y + v) (y' + v')
  omega
theorem pl_sq {p : Plc} {w h : Int} (hp : plB p = true) (hr : rqB w h = true) : Sq (xM p w) (yM p h) (wM p w) (hM p h) := by
  have b := pl_bd hp hr
  have b1 := b.x1 hp
  have b2 := b.y1 hp
  have b3 := b.w1
  have b4 := b.h1
  exact ⟨by omega, by omega, by omega, by omega⟩
theorem rm_sq {w h : Int} (hr : rqB w h = true) : Sq 0 0 w h := by
  obtain ⟨r1, r2⟩ := rqB_iff.1 hr
  exact ⟨by omega, by omega, by omega, by omega⟩
theorem le_ex (p : Plc) : ∃ v, LeM p v := by
  have key : ∀ k : Nat, k ≤ 401 → (∃ v, LeM p v) ∨ ∀ j : Int, 0 ≤ j → j < k → piB p j j = false := by
    intro k
    induction k with
    | zero => intro _; exact .inr (fun j h1 h2 => by omega)
    | succ k ih =>
      intro hk
      rcases ih (by omega) with h | h
      · exact .inl h
      · cases hp : piB p (k : Int) (k : Int)
        · exact .inr (le_step h hp)
        · exact .inl ⟨k, .inl ⟨by omega, by omega, hp, h⟩⟩
  rcases key 401 (Nat.le_refl _) with h | h
  · exact h
  · exact ⟨-1, .inr ⟨rfl, fun j h0 h1 => h j h0 (by omega)⟩⟩
theorem prB_yes {p : Plc} {w h : Int} (e : prB p w h = true) : plB p = true ∧ rqB w h = true := by simpa [prB] using e
theorem atM_bd {p : Plc} {w h x y : Int} (e : paB p w h x y = true) : plB p = true ∧ rqB w h = true ∧ shB x = true ∧ shB y = true ∧ plB (atM p w h x y) = true := by
  simp only [paB, prB, Bool.and_eq_true] at e
  exact ⟨e.1.1, e.1.2, e.2.1, e.2.2.1, e.2.2.2⟩
end Go.Proofs.YtgdkionmeacalabGreat
end
section
namespace Go.Proofs.YtgdkionmeacalabGreat
open Go.RowKit
set_option linter.unusedVariables false
set_option maxHeartbeats 1000000
theorem inRange_q (n a b : Int) (t : Bool) (w : World) (h : rng n a b = t) : Calls Tryz.prog 52 #[.int .i64 n, .int .i64 a, .int .i64 b] w fun e w' => e = .returned (.bool t) ∧ w = w' := by rw [← h]; exact inRange_any n a b w
theorem within_q (n a b : Int) (t : Bool) (w : World) (h : rng n a b = t) : Calls Tryz.prog 45 #[.int .i64 n, .int .i64 a, .int .i64 b] w fun e w' => e = .returned (.bool t) ∧ w = w' := by rw [← h]; exact within_any n a b w
theorem shift_t (n : Int) (t : Bool) (w : World) (h : shB n = t) : Calls Tryz.prog 106 #[.int .i64 n] w fun e w' => e = .returned (.bool t) ∧ w = w' := by
  go_enter Tryz.func106, Tryz.ntmps106
  go_wp2_with (go_at_call 45; refine (within_q _ _ _ t _ h).mono ?_; rintro e w' ⟨rfl, rfl⟩)
  go_ret
  exact ⟨rfl, rfl⟩
theorem rel_t (n : Int) (t : Bool) (w : World) (h : reB n = t) : Calls Tryz.prog 107 #[.int .i64 n] w fun e w' => e = .returned (.bool t) ∧ w = w' := by
  go_enter Tryz.func107, Tryz.ntmps107
  go_wp2_with (go_at_call 45; refine (within_q _ _ _ t _ h).mono ?_; rintro e w' ⟨rfl, rfl⟩)
  go_ret
  exact ⟨rfl, rfl⟩
theorem anch_t (k : Int) (t : Bool) (w : World) (h : rng k 0 8 = t) : Calls Tryz.prog 104 #[.int .i64 k] w fun e w' => e = .returned (.bool t) ∧ w = w' := by
  go_enter Tryz.func104, Tryz.ntmps104
  go_wp2_with (go_at_call 45; refine (within_q _ _ _ t _ h).mono ?_; rintro e w' ⟨rfl, rfl⟩)
  go_ret
  exact ⟨rfl, rfl⟩
theorem sanch_t (k : Int) (t : Bool) (w : World) (h : rng k 0 8 = t) : Calls Tryz.prog 115 #[.int .i64 k] w fun e w' => e = .returned (.bool t) ∧ w = w' := by
  go_enter Tryz.func115, Tryz.ntmps115
  go_wp2_with (go_at_call 52; refine (inRange_q _ _ _ t _ h).mono ?_; rintro e w' ⟨rfl, rfl⟩)
  go_ret
  exact ⟨rfl, rfl⟩
theorem all_snocQ {f : Int → Bool} {L : List Int} {k : Nat} {p : Int} (h : L[k]? = some p) : (L.take (k + 1)).all f = ((L.take k).all f && f p) := by
  have hk : k < L.length := (List.getElem?_eq_some_iff.1 h).1
  have e : L[k] = p := (List.getElem?_eq_some_iff.1 h).2
  rw [List.take_succ_eq_append_getElem hk, e]
  simp
theorem new_q (w : World) (o : Obj) : (w.alloc o).heap[w.heap.size]? = some o := by
  show (w.heap.push o)[w.heap.size]? = some o
  simp
theorem newq1 (w : World) (o o' : Obj) : ((w.alloc o).alloc o').heap[w.heap.size + 1]? = some o' := by
  have := new_q (w.alloc o) o'; rwa [World.size_alloc] at this
theorem newq2 (w : World) (o o' o2 : Obj) : (((w.alloc o).alloc o').alloc o2).heap[w.heap.size + 1 + 1]? = some o2 := by
  have := newq1 (w.alloc o) o' o2; rwa [World.size_alloc] at this
theorem cl_q {w : World} {b : Nat} {cs : Array Value} {T : TypeId} {fz : Nat × Nat} (h : w.heap[b]? = some (.cells cs T fz)) (i : Nat) : w.cell? ⟨b, i, none⟩ = cs[i]? := by simp [World.cell?, h]
theorem nv4 {w : World} {g : Nat} {a b c d : Int} {T : TypeId} {fz : Nat × Nat} (h : w.heap[g]? = some (.cells #[.int .i64 a, .int .i64 b, .int .i64 c, .int .i64 d] T fz)) : NV w (some ⟨g, 0, none⟩) [a, b, c, d] :=
  ⟨fun _ => ⟨g, 0, rfl, (Array.getElem?_eq_some_iff.1 h).1, fun i x hx => by
    rw [Nat.zero_add, cl_q h]
    match i, hx with
    | 0, hx => simpa using hx
    | 1, hx => simpa using hx
    | 2, hx => simpa using hx
    | 3, hx => simpa using hx
    | i + 4, hx => simp at hx⟩⟩
set_option maxRecDepth 100000 in
theorem allSh (A : Option Addr) (c : Nat) (L : List Int) (t : Bool) (w : World) (h : NV w A L) (hL : L.length ≤ 1048576) (ht : L.all shB = t) :
    Calls Tryz.prog 105 #[.slice A L.length c, .func (.func 106) #[] #[]] w fun e w' => e = .returned (.bool t) ∧ w = w' := by
  subst ht
  go_enter Tryz.func105, Tryz.ntmps105
  go_wp2_with fail
  go_loop [9] (fun i => ∃ k : Nat, k ≤ L.length ∧ i = .int .i64 k ∧ (L.take k).all shB = true) (fun i => L.length - (intOf i).toNat)
  case atStart => exact ⟨0, by omega, rfl, rfl⟩
  case round =>
    obtain ⟨k, hk, rfl, hok⟩ := hrel
    by_cases hlt : k < L.length
    · have hd : decide ((k : Int) < (L.length : Int)) = true := by simpa using hlt
      obtain ⟨b, off, rfl, hb, hp⟩ := h.cells (by omega)
      have hget : L[k]? = some L[k] := List.getElem?_eq_getElem hlt
      have c0 := hp k _ hget
      generalize hx : L[k] = p at *
      have HG := Lib.hid hget
      have HX := Lib.hid hx
      have HO := Lib.hid hok
      have HP := Lib.hid hp
      clear hget hx hok hp
      cases hv : shB p
      all_goals
        have Hv := Lib.hid hv
        clear hv
        go_wp2_with fail
        first | (with_reducible refine (shift_t p false _ Hv.out).mono ?_) | (with_reducible refine (shift_t p true _ Hv.out).mono ?_)
        rintro e w1 ⟨rfl, rfl⟩
        go_wp2
      · go_ret
        exact ⟨ret_bool (by
          symm
          rw [Bool.eq_false_iff]
          intro hh
          have h1 := List.all_eq_true.1 hh p (List.mem_of_getElem? HG.out)
          rw [Hv.out] at h1
          cases h1), rfl⟩
      · go_round
        case rel => exact ⟨k + 1, by omega, by go_num, by rw [all_snocQ HG.out, HO.out, Hv.out]; rfl⟩
        case measure => simp [intOf]; omega
    · have hd : decide ((k : Int) < (L.length : Int)) = false := by simp; omega
      have he : L.take k = L := List.take_of_length_le (by omega)
      rw [he] at hok
      have HO := Lib.hid hok
      clear hok he
      go_wp2
      go_ret
      exact ⟨ret_bool HO.out.symm, rfl⟩
set_option maxRecDepth 100000 in
theorem allRe (A : Option Addr) (c : Nat) (L : List Int) (t : Bool) (w : World) (h : NV w A L) (hL : L.length ≤ 1048576) (ht : L.all reB = t) :
    Calls Tryz.prog 105 #[.slice A L.length c, .func (.func 107) #[] #[]] w fun e w' => e = .returned (.bool t) ∧ w = w' := by
  subst ht
  go_enter Tryz.func105, Tryz.ntmps105
  go_wp2_with fail
  go_loop [9] (fun i => ∃ k : Nat, k ≤ L.length ∧ i = .int .i64 k ∧ (L.take k).all reB = true) (fun i => L.length - (intOf i).toNat)
  case atStart => exact ⟨0, by omega, rfl, rfl⟩
  case round =>
    obtain ⟨k, hk, rfl, hok⟩ := hrel
    by_cases hlt : k < L.length
    · have hd : decide ((k : Int) < (L.length : Int)) = true := by simpa using hlt
      obtain ⟨b, off, rfl, hb, hp⟩ := h.cells (by omega)
      have hget : L[k]? = some L[k] := List.getElem?_eq_getElem hlt
      have c0 := hp k _ hget
      generalize hx : L[k] = p at *
      have HG := Lib.hid hget
      have HX := Lib.hid hx
      have HO := Lib.hid hok
      have HP := Lib.hid hp
      clear hget hx hok hp
      cases hv : reB p
      all_goals
        have Hv := Lib.hid hv
        clear hv
        go_wp2_with fail
        first | (with_reducible refine (rel_t p false _ Hv.out).mono ?_) | (with_reducible refine (rel_t p true _ Hv.out).mono ?_)
        rintro e w1 ⟨rfl, rfl⟩
        go_wp2
      · go_ret
        exact ⟨ret_bool (by
          symm
          rw [Bool.eq_false_iff]
          intro hh
          have h1 := List.all_eq_true.1 hh p (List.mem_of_getElem? HG.out)
          rw [Hv.out] at h1
          cases h1), rfl⟩
      · go_round
        case rel => exact ⟨k + 1, by omega, by go_num, by rw [all_snocQ HG.out, HO.out, Hv.out]; rfl⟩
        case measure => simp [intOf]; omega
    · have hd : decide ((k : Int) < (L.length : Int)) = false := by simp; omega
      have he : L.take k = L := List.take_of_length_le (by omega)
      rw [he] at hok
      have HO := Lib.hid hok
      clear hok he
      go_wp2
      go_ret
      exact ⟨ret_bool HO.out.symm, rfl⟩
theorem allSh4 {g : Nat} {x y z u : Int} {T : TypeId} {fz : Nat × Nat} (t : Bool) (w : World) (h : w.heap[g]? = some (.cells #[.int .i64 x, .int .i64 y, .int .i64 z, .int .i64 u] T fz)) (ht : [x, y, z, u].all shB = t) :
    Calls Tryz.prog 105 #[.slice (some ⟨g, 0, none⟩) 4 4, .func (.func 106) #[] #[]] w fun e w' => e = .returned (.bool t) ∧ w = w' := allSh _ 4 [x, y, z, u] t w (nv4 h) (by simp) ht
theorem allRe4 {g : Nat} {x y z u : Int} {T : TypeId} {fz : Nat × Nat} (t : Bool) (w : World) (h : w.heap[g]? = some (.cells #[.int .i64 x, .int .i64 y, .int .i64 z, .int .i64 u] T fz)) (ht : [x, y, z, u].all reB = t) :
    Calls Tryz.prog 105 #[.slice (some ⟨g, 0, none⟩) 4 4, .func (.func 107) #[] #[]] w fun e w' => e = .returned (.bool t) ∧ w = w' := allRe _ 4 [x, y, z, u] t w (nv4 h) (by simp) ht
end Go.Proofs.YtgdkionmeacalabGreat
end
section
namespace Go.Proofs.YtgdkionmeacalabGreat
open Go.RowKit
set_option linter.unusedVariables false
set_option maxHeartbeats 1000000
set_option maxRecDepth 100000 in
theorem validPlace_t (p : Plc) (t : Bool) (w : World) (h : plB p = t) : Calls Tryz.prog 71 #[.agg #[.int .i64 p.x, .int .i64 p.y, .int .i64 p.rx, .int .i64 p.ry, .int .i64 p.ww, .int .i64 p.hh, .int .i64 p.qw, .int .i64 p.qh, .int .i64 p.an]] w fun e w' => e = .returned (.bool t) ∧ Below w.heap.size w w' := by
  cases h1 : [p.x, p.y, p.ww, p.hh].all shB
  · have ht : false = t := by rw [← h]; simp only [plB, h1, Bool.false_and]
    subst ht
    go_enter Tryz.func71, Tryz.ntmps71
    go_wp2_with fail
    with_reducible refine (allSh4 false _ (by first | exact newq1 _ _ _ | exact newq2 _ _ _ _) h1).mono ?_
    rintro e w1 ⟨rfl, rfl⟩
    go_wp2
    go_ret
    exact ⟨rfl, (by repeat (first | with_reducible exact Below.refl _ _ | with_reducible assumption | with_reducible refine balloc ?_ | (with_reducible refine bset ?_ ?_; rotate_left; ((try dsimp only); omega)) | refine bkeep2 ?_ (by assumption) | with_reducible refine Below.drew ?_))⟩
  cases h2 : [p.rx, p.ry, p.qw, p.qh].all reB
  · have ht : false = t := by rw [← h]; simp only [plB, h1, h2, Bool.false_and, Bool.true_and]
    subst ht
    go_enter Tryz.func71, Tryz.ntmps71
    go_wp2_with fail
    with_reducible refine (allSh4 true _ (by first | exact newq1 _ _ _ | exact newq2 _ _ _ _) h1).mono ?_
    rintro e w1 ⟨rfl, rfl⟩
    go_wp2_with fail
    with_reducible refine (allRe4 false _ (by first | exact newq1 _ _ _ | exact newq2 _ _ _ _) h2).mono ?_
    rintro e w1 ⟨rfl, rfl⟩
    go_wp2
    go_ret
    exact ⟨rfl, (by repeat (first | with_reducible exact Below.refl _ _ | with_reducible assumption | with_reducible refine balloc ?_ | (with_reducible refine bset ?_ ?_; rotate_left; ((try dsimp only); omega)) | refine bkeep2 ?_ (by assumption) | with_reducible refine Below.drew ?_))⟩
  have h3 : rng p.an 0 8 = t := by rw [← h]; simp only [plB, h1, h2, Bool.true_and]
  go_enter Tryz.func71, Tryz.ntmps71
  go_wp2_with fail
  with_reducible refine (allSh4 true _ (by first | exact newq1 _ _ _ | exact newq2 _ _ _ _) h1).mono ?_
  rintro e w1 ⟨rfl, rfl⟩
  go_wp2_with fail
  with_reducible refine (allRe4 true _ (by first | exact newq1 _ _ _ | exact newq2 _ _ _ _) h2).mono ?_
  rintro e w1 ⟨rfl, rfl⟩
  go_wp2_with fail
  with_reducible refine (anch_t _ t _ h3).mono ?_
  rintro e w1 ⟨rfl, rfl⟩
  go_wp2
  go_ret
  exact ⟨rfl, (by repeat (first | with_reducible exact Below.refl _ _ | with_reducible assumption | with_reducible refine balloc ?_ | (with_reducible refine bset ?_ ?_; rotate_left; ((try dsimp only); omega)) | refine bkeep2 ?_ (by assumption) | with_reducible refine Below.drew ?_))⟩
end Go.Proofs.YtgdkionmeacalabGreat
end
section
namespace Go.Proofs.YtgdkionmeacalabGreat
open Go.RowKit
set_option linter.unusedVariables false
set_option maxHeartbeats 1000000
set_option maxRecDepth 100000 in
theorem svalidPlace_t (p : Plc) (t : Bool) (w : World) (h : plB p = t) : Calls Tryz.prog 92 #[.agg #[.int .i64 p.x, .int .i64 p.y, .int .i64 p.rx, .int .i64 p.ry, .int .i64 p.ww, .int .i64 p.hh, .int .i64 p.qw, .int .i64 p.qh, .int .i64 p.an]] w fun e w' => e = .returned (.bool t) ∧ Below w.heap.size w w' := by
  cases h1 : rng p.x (-300) 300
  · have ht : false = t := by rw [← h]; simp [plB, shB, reB, h1]
    subst ht
    go_enter Tryz.func92, Tryz.ntmps92
    go_wp2_with fail
    with_reducible refine (inRange_q _ _ _ false _ h1).mono ?_
    rintro e w1 ⟨rfl, rfl⟩
    go_wp2
    go_ret
    exact ⟨rfl, (by repeat (first | with_reducible exact Below.refl _ _ | with_reducible assumption | with_reducible refine balloc ?_ | (with_reducible refine bset ?_ ?_; rotate_left; ((try dsimp only); omega)) | refine bkeep2 ?_ (by assumption) | with_reducible refine Below.drew ?_))⟩
  cases h2 : rng p.y (-300) 300
  · have ht : false = t := by rw [← h]; simp [plB, shB, reB, h2]
    subst ht
    go_enter Tryz.func92, Tryz.ntmps92
    go_wp2_with fail
    with_reducible refine (inRange_q _ _ _ true _ h1).mono ?_
    rintro e w1 ⟨rfl, rfl⟩
    go_wp2_with fail
    with_reducible refine (inRange_q _ _ _ false _ h2).mono ?_
    rintro e w1 ⟨rfl, rfl⟩
    go_wp2
    go_ret
    exact ⟨rfl, (by repeat (first | with_reducible exact Below.refl _ _ | with_reducible assumption | with_reducible refine balloc ?_ | (with_reducible refine bset ?_ ?_; rotate_left; ((try dsimp only); omega)) | refine bkeep2 ?_ (by assumption) | with_reducible refine Below.drew ?_))⟩
  cases h3 : rng p.rx 0 1000
  · have ht : false = t := by rw [← h]; simp [plB, shB, reB, h3]
    subst ht
    go_enter Tryz.func92, Tryz.ntmps92
    go_wp2_with fail
    with_reducible refine (inRange_q _ _ _ true _ h1).mono ?_
    rintro e w1 ⟨rfl, rfl⟩
    go_wp2_with fail
    with_reducible refine (inRange_q _ _ _ true _ h2).mono ?_
    rintro e w1 ⟨rfl, rfl⟩
    go_wp2_with fail
    with_reducible refine (inRange_q _ _ _ false _ h3).mono ?_
    rintro e w1 ⟨rfl, rfl⟩
    go_wp2
    go_ret
    exact ⟨rfl, (by repeat (first | with_reducible exact Below.refl _ _ | with_reducible assumption | with_reducible refine balloc ?_ | (with_reducible refine bset ?_ ?_; rotate_left; ((try dsimp only); omega)) | refine bkeep2 ?_ (by assumption) | with_reducible refine Below.drew ?_))⟩
  cases h4 : rng p.ry 0 1000
  · have ht : false = t := by rw [← h]; simp [plB, shB, reB, h4]
    subst ht
    go_enter Tryz.func92, Tryz.ntmps92
    go_wp2_with fail
    with_reducible refine (inRange_q _ _ _ true _ h1).mono ?_
    rintro e w1 ⟨rfl, rfl⟩
    go_wp2_with fail
    with_reducible refine (inRange_q _ _ _ true _ h2).mono ?_
    rintro e w1 ⟨rfl, rfl⟩
    go_wp2_with fail
    with_reducible refine (inRange_q _ _ _ true _ h3).mono ?_
    rintro e w1 ⟨rfl, rfl⟩
    go_wp2_with fail
    with_reducible refine (inRange_q _ _ _ false _ h4).mono ?_
    rintro e w1 ⟨rfl, rfl⟩
    go_wp2
    go_ret
    exact ⟨rfl, (by repeat (first | with_reducible exact Below.refl _ _ | with_reducible assumption | with_reducible refine balloc ?_ | (with_reducible refine bset ?_ ?_; rotate_left; ((try dsimp only); omega)) | refine bkeep2 ?_ (by assumption) | with_reducible refine Below.drew ?_))⟩
  cases h5 : rng p.ww (-300) 300
  · have ht : false = t := by rw [← h]; simp [plB, shB, reB, h5]
    subst ht
    go_enter Tryz.func92, Tryz.ntmps92
    go_wp2_with fail
    with_reducible refine (inRange_q _ _ _ true _ h1).mono ?_
    rintro e w1 ⟨rfl, rfl⟩
    go_wp2_with fail
    with_reducible refine (inRange_q _ _ _ true _ h2).mono ?_
    rintro e w1 ⟨rfl, rfl⟩
    go_wp2_with fail
    with_reducible refine (inRange_q _ _ _ true _ h3).mono ?_
    rintro e w1 ⟨rfl, rfl⟩
    go_wp2_with fail
    with_reducible refine (inRange_q _ _ _ true _ h4).mono ?_
    rintro e w1 ⟨rfl, rfl⟩
    go_wp2_with fail
    with_reducible refine (inRange_q _ _ _ false _ h5).mono ?_
    rintro e w1 ⟨rfl, rfl⟩
    go_wp2
    go_ret
    exact ⟨rfl, (by repeat (first | with_reducible exact Below.refl _ _ | with_reducible assumption | with_reducible refine balloc ?_ | (with_reducible refine bset ?_ ?_; rotate_left; ((try dsimp only); omega)) | refine bkeep2 ?_ (by assumption) | with_reducible refine Below.drew ?_))⟩
  cases h6 : rng p.hh (-300) 300
  · have ht : false = t := by rw [← h]; simp [plB, shB, reB, h6]
    subst ht
    go_enter Tryz.func92, Tryz.ntmps92
    go_wp2_with fail
    with_reducible refine (inRange_q _ _ _ true _ h1).mono ?_
    rintro e w1 ⟨rfl, rfl⟩
    go_wp2_with fail
    with_reducible refine (inRange_q _ _ _ true _ h2).mono ?_
    rintro e w1 ⟨rfl, rfl⟩
    go_wp2_with fail
    with_reducible refine (inRange_q _ _ _ true _ h3).mono ?_
    rintro e w1 ⟨rfl, rfl⟩
    go_wp2_with fail
    with_reducible refine (inRange_q _ _ _ true _ h4).mono ?_
    rintro e w1 ⟨rfl, rfl⟩
    go_wp2_with fail
    with_reducible refine (inRange_q _ _ _ true _ h5).mono ?_
    rintro e w1 ⟨rfl, rfl⟩
    go_wp2_with fail
    with_reducible refine (inRange_q _ _ _ false _ h6).mono ?_
    rintro e w1 ⟨rfl, rfl⟩
    go_wp2
    go_ret
    exact ⟨rfl, (by repeat (first | with_reducible exact Below.refl _ _ | with_reducible assumption | with_reducible refine balloc ?_ | (with_reducible refine bset ?_ ?_; rotate_left; ((try dsimp only); omega)) | refine bkeep2 ?_ (by assumption) | with_reducible refine Below.drew ?_))⟩
  cases h7 : rng p.qw 0 1000
  · have ht : false = t := by rw [← h]; simp [plB, shB, reB, h7]
    subst ht
    go_enter Tryz.func92, Tryz.ntmps92
    go_wp2_with fail
    with_reducible refine (inRange_q _ _ _ true _ h1).mono ?_
    rintro e w1 ⟨rfl, rfl⟩
    go_wp2_with fail
    with_reducible refine (inRange_q _ _ _ true _ h2).mono ?_
    rintro e w1 ⟨rfl, rfl⟩
    go_wp2_with fail
    with_reducible refine (inRange_q _ _ _ true _ h3).mono ?_
    rintro e w1 ⟨rfl, rfl⟩
    go_wp2_with fail
    with_reducible refine (inRange_q _ _ _ true _ h4).mono ?_
    rintro e w1 ⟨rfl, rfl⟩
    go_wp2_with fail
    with_reducible refine (inRange_q _ _ _ true _ h5).mono ?_
    rintro e w1 ⟨rfl, rfl⟩
    go_wp2_with fail
    with_reducible refine (inRange_q _ _ _ true _ h6).mono ?_
    rintro e w1 ⟨rfl, rfl⟩
    go_wp2_with fail
    with_reducible refine (inRange_q _ _ _ false _ h7).mono ?_
    rintro e w1 ⟨rfl, rfl⟩
    go_wp2
    go_ret
    exact ⟨rfl, (by repeat (first | with_reducible exact Below.refl _ _ | with_reducible assumption | with_reducible refine balloc ?_ | (with_reducible refine bset ?_ ?_; rotate_left; ((try dsimp only); omega)) | refine bkeep2 ?_ (by assumption) | with_reducible refine Below.drew ?_))⟩
  cases h8 : rng p.qh 0 1000
  · have ht : false = t := by rw [← h]; simp [plB, shB, reB, h8]
    subst ht
    go_enter Tryz.func92, Tryz.ntmps92
    go_wp2_with fail
    with_reducible refine (inRange_q _ _ _ true _ h1).mono ?_
    rintro e w1 ⟨rfl, rfl⟩
    go_wp2_with fail
    with_reducible refine (inRange_q _ _ _ true _ h2).mono ?_
    rintro e w1 ⟨rfl, rfl⟩
    go_wp2_with fail
    with_reducible refine (inRange_q _ _ _ true _ h3).mono ?_
    rintro e w1 ⟨rfl, rfl⟩
    go_wp2_with fail
    with_reducible refine (inRange_q _ _ _ true _ h4).mono ?_
    rintro e w1 ⟨rfl, rfl⟩
    go_wp2_with fail
    with_reducible refine (inRange_q _ _ _ true _ h5).mono ?_
    rintro e w1 ⟨rfl, rfl⟩
    go_wp2_with fail
    with_reducible refine (inRange_q _ _ _ true _ h6).mono ?_
    rintro e w1 ⟨rfl, rfl⟩
    go_wp2_with fail
    with_reducible refine (inRange_q _ _ _ true _ h7).mono ?_
    rintro e w1 ⟨rfl, rfl⟩
    go_wp2_with fail
    with_reducible refine (inRange_q _ _ _ false _ h8).mono ?_
    rintro e w1 ⟨rfl, rfl⟩
    go_wp2
    go_ret
    exact ⟨rfl, (by repeat (first | with_reducible exact Below.refl _ _ | with_reducible assumption | with_reducible refine balloc ?_ | (with_reducible refine bset ?_ ?_; rotate_left; ((try dsimp only); omega)) | refine bkeep2 ?_ (by assumption) | with_reducible refine Below.drew ?_))⟩
  have h9 : rng p.an 0 8 = t := by rw [← h]; simp [plB, shB, reB, h1, h2, h3, h4, h5, h6, h7, h8]
  go_enter Tryz.func92, Tryz.ntmps92
  go_wp2_with fail
  with_reducible refine (inRange_q _ _ _ true _ h1).mono ?_
  rintro e w1 ⟨rfl, rfl⟩
  go_wp2_with fail
  with_reducible refine (inRange_q _ _ _ true _ h2).mono ?_
  rintro e w1 ⟨rfl, rfl⟩
  go_wp2_with fail
  with_reducible refine (inRange_q _ _ _ true _ h3).mono ?_
  rintro e w1 ⟨rfl, rfl⟩
  go_wp2_with fail
  with_reducible refine (inRange_q _ _ _ true _ h4).mono ?_
  rintro e w1 ⟨rfl, rfl⟩
  go_wp2_with fail
  with_reducible refine (inRange_q _ _ _ true _ h5).mono ?_
  rintro e w1 ⟨rfl, rfl⟩
  go_wp2_with fail
  with_reducible refine (inRange_q _ _ _ true _ h6).mono ?_
  rintro e w1 ⟨rfl, rfl⟩
  go_wp2_with fail
  with_reducible refine (inRange_q _ _ _ true _ h7).mono ?_
  rintro e w1 ⟨rfl, rfl⟩
  go_wp2_with fail
  with_reducible refine (inRange_q _ _ _ true _ h8).mono ?_
  rintro e w1 ⟨rfl, rfl⟩
  go_wp2_with fail
  with_reducible refine (sanch_t _ t _ h9).mono ?_
  rintro e w1 ⟨rfl, rfl⟩
  go_wp2
  go_ret
  exact ⟨rfl, (by repeat (first | with_reducible exact Below.refl _ _ | with_reducible assumption | with_reducible refine balloc ?_ | (with_reducible refine bset ?_ ?_; rotate_left; ((try dsimp only); omega)) | refine bkeep2 ?_ (by assumption) | with_reducible refine Below.drew ?_))⟩
end Go.Proofs.YtgdkionmeacalabGreat
end
section
namespace Go.Proofs.YtgdkionmeacalabGreat
open Go.RowKit
set_option linter.unusedVariables false
set_option maxHeartbeats 1000000
attribute [local go_sem 5000] run_mx run_mn
attribute [local go_sem] growUpon_value growUpon_skip growUpon_enter
theorem thou_v (m s : Int) (w : World) (h1 : 0 ≤ m) (h2 : m ≤ 1000) (h3 : 0 ≤ s) (h4 : s ≤ 400) : Calls Tryz.prog 181 #[.int .i64 m, .int .i64 s] w fun e w' => e = .returned (.int .i64 (thM m s)) ∧ Below w.heap.size w w' := by
  obtain ⟨q1, q2⟩ := th_prod h1 h2 h3 h4
  go_enter Tryz.func181, Tryz.ntmps181
  go_wp2
  go_ret
  exact ⟨ret_int rfl, (by repeat (first | with_reducible exact Below.refl _ _ | with_reducible assumption | with_reducible refine balloc ?_ | (with_reducible refine bset ?_ ?_; rotate_left; ((try dsimp only); omega)) | refine bkeep2 ?_ (by assumption) | with_reducible refine Below.drew ?_))⟩
theorem part_v (n m : Int) (w : World) (h1 : 0 ≤ m) (h2 : m ≤ 1000) (h3 : 0 ≤ n) (h4 : n ≤ 400) : Calls Tryz.prog 122 #[.int .i64 n, .int .i64 m] w fun e w' => e = .returned (.int .i64 (thM m n)) ∧ Below w.heap.size w w' := by
  obtain ⟨q1, q2⟩ := th_prod h1 h2 h3 h4
  rw [Int.mul_comm] at q1 q2
  go_enter Tryz.func122, Tryz.ntmps122
  go_wp2
  go_ret
  exact ⟨ret_int (by rw [thM, Int.mul_comm]), (by repeat (first | with_reducible exact Below.refl _ _ | with_reducible assumption | with_reducible refine balloc ?_ | (with_reducible refine bset ?_ ?_; rotate_left; ((try dsimp only); omega)) | refine bkeep2 ?_ (by assumption) | with_reducible refine Below.drew ?_))⟩
theorem put_q {w : World} {b i : Nat} {cs : Array Value} {T : TypeId} {fz : Nat × Nat} (h : w.heap[b]? = some (.cells cs T fz)) (u : Value) : (w.setCell ⟨b, i, none⟩ u).heap[b]? = some (.cells (cs.setIfInBounds i u) T fz) := by
  simp [World.setCell, Array.getElem?_modify, h]
theorem gs_q {w w' : World} {g : Nat} (h : w.grownBy w' (some g)) (o : Nat) (v : Value) : w.grownBy (w'.setCell ⟨g, o, none⟩ v) (some g) :=
  ⟨h.os, h.tape, h.output, by simpa [World.setCell] using h.size, fun k hk hne => (Below.heap_setCell w' ⟨g, o, none⟩ v k (by rintro rfl; exact hne rfl)).trans (h.block k hk hne)⟩
theorem gr_q (w : World) (g : Nat) : w.grownBy w (some g) := ⟨rfl, rfl, rfl, Nat.le_refl _, fun _ _ _ => rfl⟩
theorem gb_q {w w' w2 : World} {g : Nat} (h : w.grownBy w' (some g)) (hb : Below w'.heap.size w' w2) : w.grownBy w2 (some g) :=
  ⟨hb.os.trans h.os, hb.tape.trans h.tape, hb.output.trans h.output, Nat.le_trans h.size hb.size, fun k hk hne => (hb.block k (Nat.lt_of_lt_of_le hk h.size)).trans (h.block k hk hne)⟩
theorem gt_q {w w' w2 : World} {g : Nat} (h : w.grownBy w' (some g)) (hb : w'.grownBy w2 (some g)) : w.grownBy w2 (some g) :=
  ⟨hb.os.trans h.os, hb.tape.trans h.tape, hb.output.trans h.output, Nat.le_trans h.size hb.size, fun k hk hne => (hb.block k (Nat.lt_of_lt_of_le hk h.size) hne).trans (h.block k hk hne)⟩
/-- what is newer than the old world's blocks does not count there -/
theorem gnew_q {W w w' : World} {g : Nat} (h : Below W.heap.size W w) (hg : w.grownBy w' (some g)) (hn : W.heap.size ≤ g) : Below W.heap.size W w' :=
  ⟨hg.os.trans h.os, hg.tape.trans h.tape, hg.output.trans h.output, Nat.le_trans h.size hg.size, fun k hk => (hg.block k (Nat.lt_of_lt_of_le hk h.size) (fun e => by cases e; omega)).trans (h.block k hk)⟩
theorem fz_q {w : World} {b : Nat} {cs : Array Value} {T : TypeId} (h : w.heap[b]? = some (.cells cs T (0, 0))) (i : Nat) : w.frozen? ⟨b, i, none⟩ = false := by simp [World.frozen?, h]
theorem lt_q {w : World} {b : Nat} {o : Obj} (h : w.heap[b]? = some o) : b < w.heap.size := (Array.getElem?_eq_some_iff.1 h).1
theorem oldq1 (w : World) (o o' : Obj) : ((w.alloc o).alloc o').heap[w.heap.size]? = some o := (Below.heap_alloc _ o' w.heap.size (by simp)).trans (new_q w o)
theorem c9_q {w : World} {b : Nat} {a0 a1 a2 a3 a4 a5 a6 a7 a8 : Value} {T : TypeId} {fz : Nat × Nat} (h : w.heap[b]? = some (.cells #[a0, a1, a2, a3, a4, a5, a6, a7, a8] T fz)) :
    w.cell? ⟨b, 0, none⟩ = some a0 ∧ w.cell? ⟨b, 1, none⟩ = some a1 ∧ w.cell? ⟨b, 2, none⟩ = some a2 ∧ w.cell? ⟨b, 3, none⟩ = some a3 ∧ w.cell? ⟨b, 4, none⟩ = some a4 ∧ w.cell? ⟨b, 5, none⟩ = some a5 ∧ w.cell? ⟨b, 6, none⟩ = some a6 ∧ w.cell? ⟨b, 7, none⟩ = some a7 ∧ w.cell? ⟨b, 8, none⟩ = some a8 :=
  ⟨cl_q h 0, cl_q h 1, cl_q h 2, cl_q h 3, cl_q h 4, cl_q h 5, cl_q h 6, cl_q h 7, cl_q h 8⟩
theorem f9_q {w : World} {b : Nat} {cs : Array Value} {T : TypeId} (h : w.heap[b]? = some (.cells cs T (0, 0))) : w.frozen? ⟨b, 0, none⟩ = false ∧ w.frozen? ⟨b, 1, none⟩ = false ∧ w.frozen? ⟨b, 2, none⟩ = false ∧ w.frozen? ⟨b, 3, none⟩ = false ∧ w.frozen? ⟨b, 4, none⟩ = false ∧ w.frozen? ⟨b, 5, none⟩ = false ∧ w.frozen? ⟨b, 6, none⟩ = false ∧ w.frozen? ⟨b, 7, none⟩ = false ∧ w.frozen? ⟨b, 8, none⟩ = false :=
  ⟨fz_q h 0, fz_q h 1, fz_q h 2, fz_q h 3, fz_q h 4, fz_q h 5, fz_q h 6, fz_q h 7, fz_q h 8⟩
set_option maxRecDepth 100000 in
theorem shift_v (b : Nat) (p : Plc) (dx dy : Int) (w : World) (hh : w.heap[b]? = some (.cells #[.int .i64 p.x, .int .i64 p.y, .int .i64 p.rx, .int .i64 p.ry, .int .i64 p.ww, .int .i64 p.hh, .int .i64 p.qw, .int .i64 p.qh, .int .i64 p.an] 36 (0, 0))) (h1 : -5000 ≤ p.x ∧ p.x ≤ 5000) (h2 : -5000 ≤ p.y ∧ p.y ≤ 5000) (h3 : -5000 ≤ dx ∧ dx ≤ 5000) (h4 : -5000 ≤ dy ∧ dy ≤ 5000) :
    Calls Tryz.prog 180 #[.pointer (some ⟨b, 0, none⟩), .int .i64 dx, .int .i64 dy] w fun e w' => (∃ v, e = .returned v) ∧ w'.heap[b]? = some (.cells #[.int .i64 (p.x + dx), .int .i64 (p.y + dy), .int .i64 p.rx, .int .i64 p.ry, .int .i64 p.ww, .int .i64 p.hh, .int .i64 p.qw, .int .i64 p.qh, .int .i64 p.an] 36 (0, 0)) ∧ w.grownBy w' (some b) := by
  obtain ⟨c0, c1, c2, c3, c4, c5, c6, c7, c8⟩ := c9_q hh
  obtain ⟨f0, f1, -⟩ := f9_q hh
  have q1 := put_q (i := 0) hh (.int .i64 (p.x + dx))
  have q2 := put_q (i := 1) q1 (.int .i64 (p.y + dy))
  simp only [List.setIfInBounds_toArray, List.set_cons_succ, List.set_cons_zero] at q2
  have HQ := Lib.hid q2
  have HG := Lib.hid (gs_q (gs_q (gr_q w b) 0 (.int .i64 (p.x + dx))) 1 (.int .i64 (p.y + dy)))
  clear hh q1 q2 c2 c3 c4 c5 c6 c7 c8
  obtain ⟨h1, h1'⟩ := h1
  obtain ⟨h2, h2'⟩ := h2
  obtain ⟨h3, h3'⟩ := h3
  obtain ⟨h4, h4'⟩ := h4
  go_enter Tryz.func180, Tryz.ntmps180
  go_wp2
  go_end0
  exact ⟨⟨_, rfl⟩, HQ.out, HG.out⟩
end Go.Proofs.YtgdkionmeacalabGreat
end
section
namespace Go.Proofs.YtgdkionmeacalabGreat
open Go.RowKit
set_option linter.unusedVariables false
set_option maxHeartbeats 2000000
theorem one_lit1 {B rb : Nat} {A : Option Addr} {l c m k : Nat} {cs : Array Value} {T : TypeId} (w : World) (o : Obj) (h : Rd B rb A l c m w) (hm : m ≤ 1000000) (hk : cs.size = k) (h1 : 1 ≤ k) (h2 : k ≤ 100) (ha : cs.toList.all isI = true) :
    Calls Tryz.prog 43 #[.pointer (some ⟨rb, 0, none⟩), .slice (some ⟨w.heap.size + 1, 0, none⟩) k k] ((w.alloc o).alloc (.cells cs T)) fun e w' => (∃ z, e = .returned (.int .i64 z)) ∧ Rd B rb A l c (m + 1) w' ∧ Chg [rb] (w.alloc o) w' := by
  have := one_lit (cs := cs) (T := T) (w.alloc o) (h.alloc o) hm hk h1 h2 ha
  rwa [World.size_alloc] at this
set_option maxRecDepth 100000 in
theorem goodPlace_any {B rb : Nat} {A : Option Addr} {l c m : Nat} (w : World) (h : Rd B rb A l c m w) (hm : m ≤ 900000) :
    Calls Tryz.prog 100 #[.pointer (some ⟨rb, 0, none⟩)] w fun e w' => (∃ (v0 v1 v2 v3 v4 v5 v6 v7 v8 : Int), e = .returned (.agg #[.int .i64 v0, .int .i64 v1, .int .i64 v2, .int .i64 v3, .int .i64 v4, .int .i64 v5, .int .i64 v6, .int .i64 v7, .int .i64 v8])) ∧ Rd B rb A l c (m + 10) w' ∧ Chg [rb] w w' := by
  have hlt := h.lt
  have hbase := h.base
  go_enter Tryz.func100, Tryz.ntmps100
  go_wp2_with fail
  with_reducible refine (one_lit1 _ _ h (by omega) (by simp) (by omega) (by omega) (by simp [isI])).mono ?_
  rintro e w1 ⟨⟨z1, rfl⟩, hr1, hc1⟩
  go_wp2_with fail
  with_reducible refine (one_lit _ hr1 (by omega) (by simp) (by omega) (by omega) (by simp [isI])).mono ?_
  rintro e w2 ⟨⟨z2, rfl⟩, hr2, hc2⟩
  go_wp2_with fail
  with_reducible refine (one_lit _ hr2 (by omega) (by simp) (by omega) (by omega) (by simp [isI])).mono ?_
  rintro e w3 ⟨⟨z3, rfl⟩, hr3, hc3⟩
  go_wp2_with fail
  with_reducible refine (one_lit _ hr3 (by omega) (by simp) (by omega) (by omega) (by simp [isI])).mono ?_
  rintro e w4 ⟨⟨z4, rfl⟩, hr4, hc4⟩
  go_wp2_with fail
  with_reducible refine (one_lit _ hr4 (by omega) (by simp) (by omega) (by omega) (by simp [isI])).mono ?_
  rintro e w5 ⟨⟨z5, rfl⟩, hr5, hc5⟩
  go_wp2_with fail
  with_reducible refine (one_lit _ hr5 (by omega) (by simp) (by omega) (by omega) (by simp [isI])).mono ?_
  rintro e w6 ⟨⟨z6, rfl⟩, hr6, hc6⟩
  go_wp2_with fail
  with_reducible refine (one_lit _ hr6 (by omega) (by simp) (by omega) (by omega) (by simp [isI])).mono ?_
  rintro e w7 ⟨⟨z7, rfl⟩, hr7, hc7⟩
  go_wp2_with fail
  with_reducible refine (one_lit _ hr7 (by omega) (by simp) (by omega) (by omega) (by simp [isI])).mono ?_
  rintro e w8 ⟨⟨z8, rfl⟩, hr8, hc8⟩
  go_wp2_with fail
  with_reducible refine (pick_any _ _ hr8 (by omega)).mono ?_
  rintro e w9 ⟨⟨z9, rfl, -⟩, hr9, hc9⟩
  go_wp2_with fail
  with_reducible refine (one_lit _ hr9 (by omega) (by simp) (by omega) (by omega) (by simp [isI])).mono ?_
  rintro e w10 ⟨⟨z10, rfl⟩, hr10, hc10⟩
  have hc : Chg [rb] (w.alloc _) w10 := (((((((((hc1).trans hc2).trans hc3).trans hc4).trans hc5).trans hc6).trans hc7).trans hc8).trans hc9).trans hc10
  clear hc1 hc2 hc3 hc4 hc5 hc6 hc7 hc8 hc9 hc10 hr1 hr2 hr3 hr4 hr5 hr6 hr7 hr8 hr9
  have hb0 := (hc.block w.heap.size (by simp) (by simp; omega)).trans (heap_alloc_new w _)
  have hs := hc.size
  simp only [World.size_alloc] at hs
  have HC := Lib.hid ((((Chg.refl [rb] w).alloc _).trans hc).alloc (.cells #[.int .i64 z1, .int .i64 z2, .int .i64 z3, .int .i64 z4, .int .i64 z5, .int .i64 z6, .int .i64 z7, .int .i64 z8, .int .i64 z10] 36))
  have hl7 := hr10.lt
  have hx0 := Nat.lt_of_succ_le hs
  have hn0 : w.heap.size ≠ rb := by omega
  have hB0 : B ≤ w.heap.size := by omega
  have hn1 : w10.heap.size ≠ rb := by omega
  have hB1 : B ≤ w10.heap.size := by omega
  have hn01 : w.heap.size ≠ w10.heap.size := by omega
  have hn10 : ¬ w10.heap.size = w.heap.size := by omega
  have hw1 : w.heap.size ≤ w10.heap.size := by omega
  have HR := Lib.hid (hr10.alloc (.cells #[.int .i64 z1, .int .i64 z2, .int .i64 z3, .int .i64 z4, .int .i64 z5, .int .i64 z6, .int .i64 z7, .int .i64 z8, .int .i64 z10] 36))
  have HB1 := Lib.hid (heap_alloc_new w10 (.cells #[.int .i64 z1, .int .i64 z2, .int .i64 z3, .int .i64 z4, .int .i64 z5, .int .i64 z6, .int .i64 z7, .int .i64 z8, .int .i64 z10] 36))
  have HB0 := Lib.hid ((Below.heap_alloc w10 (.cells #[.int .i64 z1, .int .i64 z2, .int .i64 z3, .int .i64 z4, .int .i64 z5, .int .i64 z6, .int .i64 z7, .int .i64 z8, .int .i64 z10] 36) w.heap.size hx0).trans hb0)
  clear hc hlt hbase hs hl7 hb0 hr10
  go_upto_region 2 with (fail)
  refine wp_genG (fun W => W.heap[w.heap.size]? = some (.cells #[.int .i64 0, .int .i64 0, .int .i64 0, .int .i64 0, .int .i64 0, .int .i64 0, .int .i64 0, .int .i64 0, .int .i64 0] 36) ∧ W.heap[w10.heap.size]? = some (.cells #[.int .i64 z1, .int .i64 z2, .int .i64 z3, .int .i64 z4, .int .i64 z5, .int .i64 z6, .int .i64 z7, .int .i64 z8, .int .i64 z10] 36) ∧ Rd B rb A l c (m + 10) W ∧ Chg [rb] w W) ⟨HB0.out, HB1.out, HR.out.mono (by omega), HC.out⟩ (fun wz hwz => ?_)
  clear HB0 HB1 HR HC
  obtain ⟨k0, k1, k2, k3⟩ := hwz
  have HB0 := Lib.hid k0
  have HB1 := Lib.hid k1
  have HR := Lib.hid k2
  have HC := Lib.hid k3
  clear k0 k1 k2 k3
  have h0 := HB0.out
  have h1 := HB1.out
  obtain ⟨c0, c1, c2, c3, c4, c5, c6, c7, c8⟩ := c9_q h1
  obtain ⟨d0, d1, d2, d3, d4, d5, d6, d7, d8⟩ := c9_q h0
  obtain ⟨f0, f1, f2, f3, f4, f5, f6, f7, f8⟩ := f9_q h0
  clear h0 h1
  go_wp2
  refine bp_gen (fun W => W.heap[w.heap.size]? = some (.cells #[.int .i64 z1, .int .i64 z2, .int .i64 z3, .int .i64 z4, .int .i64 z5, .int .i64 z6, .int .i64 z7, .int .i64 z8, .int .i64 z10] 36) ∧ Rd B rb A l c (m + 10) W ∧ Chg [rb] w W) ⟨put9h HB0.out (.int .i64 z1) (.int .i64 z2) (.int .i64 z3) (.int .i64 z4) (.int .i64 z5) (.int .i64 z6) (.int .i64 z7) (.int .i64 z8) (.int .i64 z10), put9r (HR.out.mono (by omega)) hB0 hn0 (.int .i64 z1) (.int .i64 z2) (.int .i64 z3) (.int .i64 z4) (.int .i64 z5) (.int .i64 z6) (.int .i64 z7) (.int .i64 z8) (.int .i64 z10), put9c HC.out (.inr (Nat.le_refl _)) (.int .i64 z1) (.int .i64 z2) (.int .i64 z3) (.int .i64 z4) (.int .i64 z5) (.int .i64 z6) (.int .i64 z7) (.int .i64 z8) (.int .i64 z10)⟩ ?_
  clear HB0 HB1 HC HR c0 c1 c2 c3 c4 c5 c6 c7 c8 d0 d1 d2 d3 d4 d5 d6 d7 d8 f0 f1 f2 f3 f4 f5 f6 f7 f8
  rintro W ⟨h0, hR, hC⟩
  obtain ⟨d0, d1, d2, d3, d4, d5, d6, d7, d8⟩ := c9_q h0
  exact bodyPost_ret (v := .agg #[.int .i64 z1, .int .i64 z2, .int .i64 z3, .int .i64 z4, .int .i64 z5, .int .i64 z6, .int .i64 z7, .int .i64 z8, .int .i64 z10]) (by simp only [results, Tryz.results100]; go_simp) rfl ⟨⟨_, _, _, _, _, _, _, _, _, rfl⟩, hR, hC⟩
end Go.Proofs.YtgdkionmeacalabGreat
end
section
namespace Go.Proofs.YtgdkionmeacalabGreat
open Go Go.RowKit
set_option linter.unusedVariables false
section
variable {P : Program}
def rgC (l : List Oper) (size : Nat) : Bool :=
  Region.noSelect l.toArray &&
  ((List.range l.length).all fun i => match l[i]? with
    | none => true
    | some o => (o.after.toList.all fun e => !Region.binds .any e || decide (e.on < i)) &&
      (o.dst.all fun d => decide (d < size) && dstIdx d l 0 == some i) &&
      ((o.looksAt l.toArray).all fun t => match dstIdx t l 0 with
        | none => true
        | some j => o.after.toList.any fun e => e.on == j && Region.binds .any e))
theorem wp_region_rgc {id : Nat} {l : List Oper} {Q : Exit → Act → World → Prop} {a0 : Act} {w : World} (T : Nat → Value → World → Prop) (R : World → World → Prop) (I : Nat → World → Prop)
    (hm : P.follows .mixedOrders = true) (hB : rgC l a0.tmps.size = true) (hRr : ∀ a, R a a) (hRt : ∀ a b c, R a b → R b c → R a c) (hTs : ∀ k v a b, T k v a → R a b → T k v b) (hI0 : I 0 w.drew)
    (hops : opsOK P l T R I a0 w.drew l 0) (hfin : ∀ w', R w.drew w' → I l.length w' → finP T w' (fun a' => Q .normal a' w') l 0 a0) : (Code.region id l.toArray true).wp P Q a0 w := by
  simp only [rgC, Bool.and_eq_true] at hB
  obtain ⟨hns, hB⟩ := hB
  have hB' : ∀ (i : Nat) (o : Oper), l[i]? = some o → (∀ e ∈ o.after, Region.binds .any e = true → e.on < i) ∧ (∀ d, o.dst = some d → d < a0.tmps.size ∧ dstIdx d l 0 = some i) ∧ (∀ t ∈ o.looksAt l.toArray, ∀ j, dstIdx t l 0 = some j → ∃ e ∈ o.after, e.on = j ∧ Region.binds .any e = true) := by
    intro i o ho
    have hlt := (List.getElem?_eq_some_iff.1 ho).1
    have h1 := List.all_eq_true.1 hB i (List.mem_range.2 hlt)
    simp only [ho, Bool.and_eq_true] at h1
    obtain ⟨⟨h1, h2⟩, h3⟩ := h1
    refine ⟨fun e he hb => by have := List.all_eq_true.1 h1 e (by simpa using he); simpa [hb] using this, fun d hd => ?_, fun t ht j hj => ?_⟩
    · rw [hd] at h2
      simp only [Option.all_some, Bool.and_eq_true, decide_eq_true_eq, beq_iff_eq] at h2
      exact h2
    · have h4 := List.all_eq_true.1 h3 t ht
      rw [hj] at h4
      obtain ⟨e, he, h5⟩ := List.any_eq_true.1 h4
      simp only [Bool.and_eq_true, beq_iff_eq] at h5
      exact ⟨e, by simpa using he, h5⟩
  have hdist : ∀ (i : Nat) (o : Oper) (j : Nat) (p : Oper), l[i]? = some o → l[j]? = some p → i ≠ j → ∀ d, o.dst = some d → p.dst ≠ some d := by
    intro i o j p ho hp hij d hd hpd
    have h1 := ((hB' i o ho).2.1 d hd).2
    rw [((hB' j p hp).2.1 d hpd).2] at h1
    injection h1 with h1
    exact hij h1.symm
  have main : ∀ (fuel m : Nat) (listed : Array Bool) (a : Act) (w' : World), cntF (fun i => listed.getD i true) l.length = fuel → listed.size = l.length → fuel + m = l.length → RJ l T R I a0 w.drew m listed a w' →
      wpAny P .any l.toArray Q fuel listed a w' := by
    intro fuel
    have hdone : ∀ (m : Nat) (listed : Array Bool) (a : Act) (w' : World), m = l.length → (∀ i, i < l.length → listed.getD i false = true) → RJ l T R I a0 w.drew m listed a w' → Q .normal a w' := by
      rintro m listed a w' rfl hall ⟨hR, hI, hd, hs, ht, hT⟩
      refine finP_to (T := T) (w := w') (F := fun a' => Q .normal a' w') (l := l) (k := 0) (b := a0) hd.symm hs.symm (fun t h => ?_) (fun j o ho hn => ?_) (hfin w' hR hI)
      · exact (ht t fun j o ho _ => h o (List.mem_of_getElem? ho)).symm
      · rw [Nat.zero_add]; exact hT j o ho (hall j (List.getElem?_eq_some_iff.1 ho).1) hn
    have hnil : ∀ (listed : Array Bool), listed.size = l.length → Region.ready .any l.toArray listed = [] → ∀ i, i < l.length → listed.getD i false = true := by
      intro listed hls hr i
      induction i using Nat.strongRecOn with
      | ind i ih =>
        intro hi
        by_cases hl : listed.getD i false = true
        · exact hl
        · exfalso
          have ho : l[i]? = some l[i] := List.getElem?_eq_getElem hi
          have hmem : i ∈ Region.ready .any l.toArray listed := mem_ready.2 ⟨by
            rw [Array.getD_eq_getD_getElem?, Array.getElem?_eq_getElem (by omega)] at *
            simp only [Option.getD_some, Bool.not_eq_true] at *
            exact hl, l[i], by simp, fun e he hb => ih e.on ((hB' i _ ho).1 e he hb) (by have := (hB' i _ ho).1 e he hb; omega)⟩
          rw [hr] at hmem
          cases hmem
    induction fuel with
    | zero =>
      intro m listed a w' hc hls hm' hJ
      have hall : ∀ i, i < l.length → listed.getD i false = true := fun i hi => by
        have := cntF_zero hc i hi
        rw [Array.getD_eq_getD_getElem?, Array.getElem?_eq_getElem (by omega)] at *
        simpa using this
      refine ⟨?_, hdone m listed a w' (by omega) hall hJ⟩
      cases hr : Region.ready .any l.toArray listed with
      | nil => rfl
      | cons x xs =>
        exfalso
        obtain ⟨h0, o, ho, _⟩ := mem_ready.1 (show x ∈ Region.ready .any l.toArray listed by rw [hr]; exact List.mem_cons_self)
        have hlt : x < l.length := by have := (Array.getElem?_eq_some_iff.1 ho).1; simpa using this
        have := hall x hlt
        rw [Array.getD_eq_getD_getElem?, Array.getElem?_eq_getElem (by omega)] at *
        simp at h0 this
        rw [h0] at this
        cases this
    | succ fuel ih =>
      intro m listed a w' hc hls hm' hJ
      refine ⟨fun hr => ?_, fun i hi => ?_⟩
      · exfalso
        have hall := hnil listed hls hr
        have : cntF (fun i => listed.getD i true) l.length = 0 := by
          rw [cntF_same (g := fun _ => true) (fun i hi => by
            have := hall i hi
            rw [Array.getD_eq_getD_getElem?, Array.getElem?_eq_getElem (by omega)] at *
            simpa using this)]
          clear hc hm' hls
          induction l.length with
          | zero => rfl
          | succ n ihn => simp [cntF, ihn]
        omega
      · obtain ⟨h0, o, ho', hall⟩ := mem_ready.1 hi
        have ho : l[i]? = some o := by simpa using ho'
        have hlt : i < l.length := (List.getElem?_eq_some_iff.1 ho).1
        obtain ⟨hR, hI, hd, hs, ht, hT⟩ := hJ
        obtain ⟨b1, b2, b3⟩ := hB' i o ho
        have hlook : ∀ t ∈ o.looksAt l.toArray, match dstIdx t l 0 with | some j => T j (tv a t) w' | none => tv a t = tv a0 t := by
          intro t htm
          cases hj : dstIdx t l 0 with
          | none =>
            refine tv_of (ht t fun j p hp _ => dstIdx_none hj p (List.mem_of_getElem? hp))
          | some j =>
            obtain ⟨e, he, rfl, hb⟩ := b3 t htm j hj
            obtain ⟨_, p, hp, hpd⟩ := dstIdx_some hj
            have := hT e.on p (by simpa using hp) (hall e he hb) (by rw [hpd]; simp)
            rw [hpd] at this
            exact this
        have hop := look_of hlook (opsOK_at hops ho m a w' (by omega) hR hI)
        rw [Nat.zero_add] at hop
        have hget : ∀ d, (listed.setIfInBounds i true).getD i d = true := fun d => by
          rw [Array.getD_eq_getD_getElem?, Array.getElem?_setIfInBounds_self_of_lt (by omega)]; rfl
        have next : ∀ v w1, T i v w1 → R w' w1 → I (m + 1) w1 → wpAny P .any l.toArray Q fuel (listed.setIfInBounds i true) (a.put o.dst v) w1 := by
          intro v w1 hTv hR1 hI1
          refine ih (m + 1) _ _ _ ?_ (by simpa using hls) (by omega) ⟨hRt _ _ _ hR hR1, hI1, (put_defers' _ _ _).trans hd, (put_size _ _ _).trans hs, fun t h => ?_, fun j p hp hl hn => ?_⟩
          · have := cntF_set (f := fun i => listed.getD i true) (g := fun j => (listed.setIfInBounds i true).getD j true) (i := i) h0 (hget true) (fun j hj => getD_set_ne true (Ne.symm hj)) hlt
            omega
          · have hne : o.dst ≠ some t := h i o ho (hget false)
            rw [put_ne _ _ _ hne]
            exact ht t fun j p hp hl => h j p hp (getD_set_true hl)
          · by_cases e : i = j
            · subst e
              rw [ho] at hp
              obtain rfl := Option.some.inj hp
              cases hod : o.dst with
              | none => exact absurd hod hn
              | some d =>
                have : tv (a.put (some d) v) d = v := by
                  unfold tv
                  rw [Array.getD_eq_getD_getElem?, put_same _ _ _ (by rw [hs]; exact (b2 d hod).1)]
                  rfl
                simp only [vof]
                rw [this]
                exact hTv
            · rw [getD_set_ne false e] at hl
              have h2 := hTs j _ w' w1 (hT j p hp hl hn) hR1
              cases hpd : p.dst with
              | none => exact absurd hpd hn
              | some d =>
                rw [hpd] at h2
                simp only [vof] at h2 ⊢
                rw [show tv (a.put o.dst v) d = tv a d from tv_of (put_ne _ _ _ (fun hod => hdist i o j p ho hp e d hod hpd))]
                exact h2
        unfold wpOp
        simp only [ho']
        cases hg : o.guard with
        | none =>
          rw [hg] at hop
          rw [if_pos (by simp [Region.wanted, hg])]
          exact .inl (wp_of_gives hop fun v w1 ⟨h1, h2, h3⟩ => next v w1 h1 h2 h3)
        | some g =>
          rw [hg] at hop
          obtain ⟨g1, g2⟩ := hop
          split
          · rename_i hw
            exact .inl (wp_of_gives (g1 hw) fun v w1 ⟨h1, h2, h3⟩ => next v w1 h1 h2 h3)
          · rename_i hw
            obtain ⟨h1, h2⟩ := g2 (by simpa using hw)
            exact next undef w' h1 (hRr _) h2
  refine wp_region_any hm ?_
  refine main l.toArray.size 0 _ a0 w.drew ?_ (by simp) (by simp) ⟨hRr _, hI0, rfl, rfl, fun t _ => rfl, fun j o ho hl => ?_⟩
  · have : ∀ n, n ≤ l.length → cntF (fun i => (Array.replicate l.toArray.size false).getD i true) n = n := by
      intro n
      induction n with
      | zero => intro _; rfl
      | succ n ihn =>
        intro hn
        simp only [cntF]
        rw [ihn (by omega)]
        have : (Array.replicate l.toArray.size false).getD n true = false := by
          rw [Array.getD_eq_getD_getElem?, Array.getElem?_replicate, if_pos (by simp; omega)]; rfl
        rw [if_neg (by rw [this]; decide)]
    simpa using this l.length (Nat.le_refl _)
  · exfalso
    rw [Array.getD_eq_getD_getElem?, Array.getElem?_replicate] at hl
    split at hl <;> simp at hl
theorem wp_region_rglc {id : Nat} {l : List Oper} {Q : Exit → Act → World → Prop} {a0 : Act} {w : World} (T : Nat → Value → World → Prop) (R : World → World → Prop) (I : Nat → World → Prop)
    (hm : P.follows .mixedOrders = true) (hB : rgC l a0.tmps.size = true) (hRr : ∀ a, R a a) (hRt : ∀ a b c, R a b → R b c → R a c) (hTs : ∀ k v a b, T k v a → R a b → T k v b) (hI0 : I 0 w.drew)
    (hops : opsOK P l T R I a0 w.drew l 0) (hfin : ∀ w', R w.drew w' → I l.length w' → finP T w' (fun a' => Q .normal a' w') l 0 a0) : (Code.region id l.toArray true).wp P Q a0 w := wp_region_rgc T R I hm hB hRr hRt hTs hI0 hops hfin
end
end Go.Proofs.YtgdkionmeacalabGreat
end
