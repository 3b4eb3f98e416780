import Derived.Test.YtjdjahckdgbkbabQ02
import Derived.RegionTactic
section
namespace Go.Proofs.Ytjdjahckdgbkbab
open Go.RowKit
set_option linter.unusedVariables false
set_option maxHeartbeats 1000000
attribute [local go_sem 5000] run_mx run_mn
def esB (L : List Pk) (room : Int) (d : Bool) : Bool := vpsB L && (match L with
  | [] => false
  | p :: _ => rng room 0 400 && (p.ex && (p.down == d)))
theorem esB_yes {L : List Pk} {room : Int} {d : Bool} (h : esB L room d = true) : ∃ p r, L = p :: r ∧ vpsB L = true ∧ rng room 0 400 = true ∧ p.ex = true ∧ p.down = d := by
  unfold esB at h
  rw [Bool.and_eq_true] at h
  obtain ⟨h1, h2⟩ := h
  match L, h1, h2 with
  | p :: r, h1, h2 =>
    simp only [Bool.and_eq_true, beq_iff_eq] at h2
    exact ⟨p, r, rfl, h1, h2.1, h2.2.1, h2.2.2⟩
theorem esB_no {L : List Pk} {room : Int} {d : Bool} (h : esB L room d = false) : L = [] ∨ (∃ p r, L = p :: r ∧ (vpsB L = false ∨ (vpsB L = true ∧ rng room 0 400 = false) ∨ (vpsB L = true ∧ rng room 0 400 = true ∧ p.ex = false) ∨ (vpsB L = true ∧ rng room 0 400 = true ∧ p.ex = true ∧ (p.down == d) = false))) := by
  match L, h with
  | [], _ => exact .inl rfl
  | p :: r, h =>
    refine .inr ⟨p, r, rfl, ?_⟩
    unfold esB at h
    cases h1 : vpsB (p :: r)
    · exact .inl rfl
    · cases h2 : rng room 0 400
      · exact .inr (.inl ⟨rfl, rfl⟩)
      · cases h3 : p.ex
        · exact .inr (.inr (.inl ⟨rfl, rfl, rfl⟩))
        · simp [h1, h2, h3] at h
          exact .inr (.inr (.inr ⟨rfl, rfl, rfl, by simpa using h⟩))
theorem first_cells {w : World} {A : Option Addr} {L : List Pk} {p : Pk} {r : List Pk} (h : PV w A L) (e : L = p :: r) : ∃ b off, A = some ⟨b, off, none⟩ ∧ b < w.heap.size ∧ Cells9 w b off p := by
  subst e
  obtain ⟨b, off, e, hb, hp⟩ := h.cells (by simp)
  have := hp 0 p rfl
  exact ⟨b, off, e, hb, by simpa using this⟩
theorem vps_v (A : Option Addr) (c : Nat) (L : List Pk) (b : Bool) (w : World) (h : PV w A L) (hL : L.length ≤ 1048576) (hb : vpsB L = b) :
    Calls Try.prog 37 #[.slice A L.length c] w fun e w' => e = .returned (.bool b) ∧ Below w.heap.size w w' := by rw [← hb]; exact validPacks_any A c L w h hL
theorem svps_v (A : Option Addr) (c : Nat) (L : List Pk) (b : Bool) (w : World) (h : PV w A L) (hL : L.length ≤ 1048576) (hb : vpsB L = b) :
    Calls Try.prog 33 #[.slice A L.length c] w fun e w' => e = .returned (.bool b) ∧ Below w.heap.size w w' := by rw [← hb]; exact svalidPacks_any A c L w h hL
theorem within_v (n a b : Int) (t : Bool) (w : World) (h : rng n a b = t) : Calls Try.prog 47 #[.int .i64 n, .int .i64 a, .int .i64 b] w fun e w' => e = .returned (.bool t) ∧ w = w' := by rw [← h]; exact within_any n a b w
theorem inRange_v (n a b : Int) (t : Bool) (w : World) (h : rng n a b = t) : Calls Try.prog 52 #[.int .i64 n, .int .i64 a, .int .i64 b] w fun e w' => e = .returned (.bool t) ∧ w = w' := by rw [← h]; exact inRange_any n a b w
end Go.Proofs.Ytjdjahckdgbkbab
end
section
set_option linter.unusedVariables false
namespace Go.Proofs.Ytjdjahckdgbkbab
structure Rc where
  x : Int
  y : Int
  u : Int
  v : Int
def Rc.ok (r : Rc) : Bool := vr r.x r.y r.u r.v
/-- the piece at a side, and the rest -/
def cutP (r : Rc) (s n : Int) : Rc × Rc :=
  if s = 0 then (⟨r.x, r.y, r.u, mn n r.v⟩, ⟨r.x, r.y + mn n r.v, r.u, r.v - mn n r.v⟩)
  else if s = 1 then (⟨r.x, r.y + (r.v - mn n r.v), r.u, mn n r.v⟩, ⟨r.x, r.y, r.u, r.v - mn n r.v⟩)
  else if s = 2 then (⟨r.x, r.y, mn n r.u, r.v⟩, ⟨r.x + mn n r.u, r.y, r.u - mn n r.u, r.v⟩)
  else (⟨r.x + (r.u - mn n r.u), r.y, mn n r.u, r.v⟩, ⟨r.x, r.y, r.u - mn n r.u, r.v⟩)
theorem cutP_ok {r : Rc} {s n : Int} (h : r.ok = true) (hn : 0 ≤ n) : (cutP r s n).1.ok = true ∧ (cutP r s n).2.ok = true := by
  obtain ⟨a1, a2, a3, a4, a5, a6, a7, a8⟩ := vr_iff.1 h
  have m1 := mn_spec n r.u
  have m2 := mn_spec n r.v
  unfold cutP
  split
  · exact ⟨vr_iff.2 (by dsimp only; omega), vr_iff.2 (by dsimp only; omega)⟩
  · split
    · exact ⟨vr_iff.2 (by dsimp only; omega), vr_iff.2 (by dsimp only; omega)⟩
    · split
      · exact ⟨vr_iff.2 (by dsimp only; omega), vr_iff.2 (by dsimp only; omega)⟩
      · exact ⟨vr_iff.2 (by dsimp only; omega), vr_iff.2 (by dsimp only; omega)⟩
def Rc.size (r : Rc) (d : Bool) : Int := if d then r.v else r.u
theorem Rc.size_bd {r : Rc} (h : r.ok = true) (d : Bool) : 0 ≤ r.size d ∧ r.size d ≤ 400 := by
  obtain ⟨a1, a2, a3, a4, a5, a6, a7, a8⟩ := vr_iff.1 h
  unfold Rc.size; split <;> omega
/-- how much the first item has more -/
def moreOf : List Pk → Rc → Int
  | [], _ => 0
  | p :: r, z => if p.ex then shareGo (p :: r) p.down (z.size p.down) (z.size p.down) 0 else 0
def takeOf (p : Pk) (r : List Pk) (z : Rc) : Int := p.need p.down + moreOf (p :: r) z
def parcM : List Pk → Rc → List Rc × Rc
  | [], z => ([], z)
  | p :: r, z => ((cutP z p.s (takeOf p r z)).1 :: (parcM r (cutP z p.s (takeOf p r z)).2).1, (parcM r (cutP z p.s (takeOf p r z)).2).2)
theorem parcM_len : ∀ {L : List Pk} {z : Rc}, (parcM L z).1.length = L.length
  | [], z => rfl
  | p :: r, z => by simp [parcM, parcM_len (L := r)]
theorem moreOf_bd {p : Pk} {r : List Pk} {z : Rc} (hL : ∀ q ∈ p :: r, q.ok = true) (hz : z.ok = true) : 0 ≤ moreOf (p :: r) z ∧ moreOf (p :: r) z ≤ 400 := by
  obtain ⟨b1, b2⟩ := Rc.size_bd hz p.down
  simp only [moreOf]
  cases hx : p.ex
  · simp
  · have nb := Pk.need_bd (hL p List.mem_cons_self) p.down
    simp only [if_true]
    rw [shareGo_same rfl hx]
    exact shareGo_bd (fun q hq => hL q (List.mem_cons_of_mem _ hq)) b1 b2 (by omega) (by omega)
theorem takeOf_bd {p : Pk} {r : List Pk} {z : Rc} (hL : ∀ q ∈ p :: r, q.ok = true) (hz : z.ok = true) : 0 ≤ takeOf p r z ∧ takeOf p r z ≤ 450 := by
  have := moreOf_bd hL hz
  have := Pk.need_bd (hL p List.mem_cons_self) p.down
  unfold takeOf; omega
end Go.Proofs.Ytjdjahckdgbkbab
end
section
set_option linter.unusedVariables false
namespace Go.Proofs.Ytjdjahckdgbkbab
def hpB (x y u v p q : Int) : Bool := decide (x ≤ p ∧ p < x + u ∧ y ≤ q ∧ q < y + v)
theorem hpB_iff {x y u v p q : Int} : hpB x y u v p q = true ↔ (x ≤ p ∧ p < x + u ∧ y ≤ q ∧ q < y + v) := by simp only [hpB, decide_eq_true_eq]
theorem hpB_not {x y u v p q : Int} : hpB x y u v p q = false ↔ ¬ (x ≤ p ∧ p < x + u ∧ y ≤ q ∧ q < y + v) := by unfold hpB; exact decide_eq_false_iff_not
theorem hpB_n1 {x y u v p q : Int} (h : ¬ x ≤ p) : hpB x y u v p q = false := by rw [hpB_not]; omega
theorem hpB_n2 {x y u v p q : Int} (h : ¬ p < x + u) : hpB x y u v p q = false := by rw [hpB_not]; omega
theorem hpB_n3 {x y u v p q : Int} (h : ¬ y ≤ q) : hpB x y u v p q = false := by rw [hpB_not]; omega
theorem hpB_n4 {x y u v p q : Int} (h : ¬ q < y + v) : hpB x y u v p q = false := by rw [hpB_not]; omega
theorem hpB_y {x y u v p q : Int} (h1 : x ≤ p) (h2 : p < x + u) (h3 : y ≤ q) (h4 : q < y + v) : hpB x y u v p q = true := by rw [hpB_iff]; omega
theorem rng_n {p a b : Int} (h1 : ¬ p < b) : rng p a (b - 1) = false := by rw [rng_not]; omega
theorem hpB_sp {x y u v p q : Int} : hpB x y u v p q = (rng p x (x + u - 1) && rng q y (y + v - 1)) := by
  rw [Bool.eq_iff_iff, hpB_iff, Bool.and_eq_true, rng_iff, rng_iff]; omega
end Go.Proofs.Ytjdjahckdgbkbab
namespace Go.Proofs.Ytjdjahckdgbkbab
def meetB (x y u v x' y' u' v' : Int) : Bool := vr x y u v && vr x' y' u' v' && hitB x y u v x' y' u' v'
theorem meetB_yes {x y u v x' y' u' v' : Int} (h : meetB x y u v x' y' u' v' = true) : vr x y u v = true ∧ vr x' y' u' v' = true ∧ hitB x y u v x' y' u' v' = true := by
  simp only [meetB, Bool.and_eq_true] at h; exact ⟨h.1.1, h.1.2, h.2⟩
theorem meetB_hit {x y u v x' y' u' v' : Int} (h : meetB x y u v x' y' u' v' = false) (h1 : vr x y u v = true) (h2 : vr x' y' u' v' = true) : hitB x y u v x' y' u' v' = false := by
  simpa [meetB, h1, h2] using h
def covB (x y u v x' y' u' v' : Int) : Bool := vr (mn x x') (mn y y') (mx (x + u) (x' + u') - mn x x') (mx (y + v) (y' + v') - mn y y')
def coverB (x y u v x' y' u' v' : Int) : Bool := vr x y u v && vr x' y' u' v' && covB x y u v x' y' u' v'
theorem coverB_yes {x y u v x' y' u' v' : Int} (h : coverB x y u v x' y' u' v' = true) : vr x y u v = true ∧ vr x' y' u' v' = true ∧ vr (mn x x') (mn y y') (mx (x + u) (x' + u') - mn x x') (mx (y + v) (y' + v') - mn y y') = true := by
  simp only [coverB, Bool.and_eq_true] at h; exact ⟨h.1.1, h.1.2, h.2⟩
theorem coverB_no {x y u v x' y' u' v' : Int} (h : coverB x y u v x' y' u' v' = false) (h1 : vr x y u v = true) (h2 : vr x' y' u' v' = true) : vr (mn x x') (mn y y') (mx (x + u) (x' + u') - mn x x') (mx (y + v) (y' + v') - mn y y') = false := by
  simpa [coverB, covB, h1, h2] using h
theorem cover_bds {x y u v x' y' u' v' : Int} (h1 : vr x y u v = true) (h2 : vr x' y' u' v' = true) : -1000 ≤ mn x x' ∧ mn x x' ≤ 1000 ∧ -1000 ≤ mn y y' ∧ mn y y' ≤ 1000 ∧ -1000 ≤ mx (x + u) (x' + u') ∧ mx (x + u) (x' + u') ≤ 1000 ∧ -1000 ≤ mx (y + v) (y' + v') ∧ mx (y + v) (y' + v') ≤ 1000 := by
  rw [vr_iff] at h1 h2
  obtain ⟨m1, m2⟩ := mn_bd (a := x) (b := x') (-1000) 1000 (by omega) (by omega) (by omega) (by omega)
  obtain ⟨m3, m4⟩ := mn_bd (a := y) (b := y') (-1000) 1000 (by omega) (by omega) (by omega) (by omega)
  obtain ⟨m5, m6⟩ := mx_bd (a := x + u) (b := x' + u') (-1000) 1000 (by omega) (by omega) (by omega) (by omega)
  obtain ⟨m7, m8⟩ := mx_bd (a := y + v) (b := y' + v') (-1000) 1000 (by omega) (by omega) (by omega) (by omega)
  exact ⟨m1, m2, m3, m4, m5, m6, m7, m8⟩
def insB (x y u v x' y' u' v' : Int) : Bool := decide (x ≤ x' ∧ y ≤ y' ∧ x' + u' ≤ x + u ∧ y' + v' ≤ y + v)
theorem insB_iff {x y u v x' y' u' v' : Int} : insB x y u v x' y' u' v' = true ↔ (x ≤ x' ∧ y ≤ y' ∧ x' + u' ≤ x + u ∧ y' + v' ≤ y + v) := by simp only [insB, decide_eq_true_eq]
theorem insB_not {x y u v x' y' u' v' : Int} : insB x y u v x' y' u' v' = false ↔ ¬ (x ≤ x' ∧ y ≤ y' ∧ x' + u' ≤ x + u ∧ y' + v' ≤ y + v) := by unfold insB; exact decide_eq_false_iff_not
theorem holds_eq {x y u v x' y' u' v' : Int} (h1 : vr x y u v = true) (h2 : vr x' y' u' v' = true) :
    (mn x x' = x ∧ mn y y' = y ∧ mx (x + u) (x' + u') - mn x x' = u ∧ mx (y + v) (y' + v') - mn y y' = v) ↔ (x ≤ x' ∧ y ≤ y' ∧ x' + u' ≤ x + u ∧ y' + v' ≤ y + v) := by
  have := mn_spec x x'; have := mn_spec y y'; have := mx_spec (x + u) (x' + u'); have := mx_spec (y + v) (y' + v')
  omega
end Go.Proofs.Ytjdjahckdgbkbab
end
section
namespace Go.Proofs.Ytjdjahckdgbkbab
open Go.RowKit
set_option linter.unusedVariables false
attribute [local go_sem 5000] run_mx run_mn
attribute [local go_sem] growUpon_value growUpon_skip growUpon_enter
set_option maxHeartbeats 1000000
end Go.Proofs.Ytjdjahckdgbkbab
end
section
set_option linter.unusedVariables false
namespace Go.Proofs.Ytjdjahckdgbkbab
def mvB (x y u v p q : Int) : Bool := vr x y u v && rng p (-1000) 1000 && rng q (-1000) 1000 && vr (x + p) (y + q) u v
theorem mvB_yes {x y u v p q : Int} (h : mvB x y u v p q = true) : vr x y u v = true ∧ rng p (-1000) 1000 = true ∧ rng q (-1000) 1000 = true ∧ vr (x + p) (y + q) u v = true := by
  simp only [mvB, Bool.and_eq_true] at h; exact ⟨h.1.1.1, h.1.1.2, h.1.2, h.2⟩
theorem mvB_no {x y u v p q : Int} (h : mvB x y u v p q = false) (h1 : vr x y u v = true) (h2 : rng p (-1000) 1000 = true) (h3 : rng q (-1000) 1000 = true) : vr (x + p) (y + q) u v = false := by
  simpa [mvB, h1, h2, h3] using h
def inB (x y u v p q : Int) : Bool := vr x y u v && rng p 0 10 && rng q 0 10
theorem inB_yes {x y u v p q : Int} (h : inB x y u v p q = true) : vr x y u v = true ∧ rng p 0 10 = true ∧ rng q 0 10 = true := by
  simp only [inB, Bool.and_eq_true] at h; exact ⟨h.1.1, h.1.2, h.2⟩
theorem inB_no {x y u v p q : Int} (h : inB x y u v p q = false) (h1 : vr x y u v = true) (h2 : rng p 0 10 = true) : rng q 0 10 = false := by
  simpa [inB, h1, h2] using h
theorem mx_comm (a b : Int) : mx a b = mx b a := by unfold mx; split <;> split <;> omega
theorem in_bds {x y u v p q : Int} (h : inB x y u v p q = true) : 0 ≤ mn p (u / 2) ∧ mn p (u / 2) ≤ 10 ∧ 0 ≤ mn q (v / 2) ∧ mn q (v / 2) ≤ 10 ∧ 0 ≤ mx (u - 2 * p) 0 ∧ mx (u - 2 * p) 0 ≤ 400 ∧ 0 ≤ mx (v - 2 * q) 0 ∧ mx (v - 2 * q) 0 ≤ 400 := by
  obtain ⟨h1, h2, h3⟩ := inB_yes h
  rw [vr_iff] at h1; rw [rng_iff] at h2 h3
  have := mn_spec p (u / 2); have := mn_spec q (v / 2); have := mx_spec (u - 2 * p) 0; have := mx_spec (v - 2 * q) 0
  omega
def anB (x y u v p q k : Int) : Bool := vr x y u v && rng p 0 400 && rng q 0 400 && rng k 0 8
theorem anB_yes {x y u v p q k : Int} (h : anB x y u v p q k = true) : vr x y u v = true ∧ rng p 0 400 = true ∧ rng q 0 400 = true ∧ rng k 0 8 = true := by
  simp only [anB, Bool.and_eq_true] at h; exact ⟨h.1.1.1, h.1.1.2, h.1.2, h.2⟩
theorem anB_no {x y u v p q k : Int} (h : anB x y u v p q k = false) (h1 : vr x y u v = true) (h2 : rng p 0 400 = true) (h3 : rng q 0 400 = true) : rng k 0 8 = false := by
  simpa [anB, h1, h2, h3] using h
def ctB (x y u v s n : Int) : Bool := vr x y u v && rng s 0 3 && rng n 0 400
theorem ctB_yes {x y u v s n : Int} (h : ctB x y u v s n = true) : vr x y u v = true ∧ rng s 0 3 = true ∧ rng n 0 400 = true := by
  simp only [ctB, Bool.and_eq_true] at h; exact ⟨h.1.1, h.1.2, h.2⟩
theorem ctB_no {x y u v s n : Int} (h : ctB x y u v s n = false) (h1 : vr x y u v = true) (h2 : rng s 0 3 = true) : rng n 0 400 = false := by
  simpa [ctB, h1, h2] using h
end Go.Proofs.Ytjdjahckdgbkbab
namespace Go.Proofs.Ytjdjahckdgbkbab
theorem area_bds {x y u v : Int} (h : vr x y u v = true) : 0 ≤ u * v ∧ u * v ≤ 160000 := by
  obtain ⟨a1, a2, a3, a4, _⟩ := vr_iff.1 h
  exact ⟨Int.mul_nonneg a1 a3, Int.le_trans (Int.mul_le_mul a2 a4 a3 (by omega)) (by omega)⟩
end Go.Proofs.Ytjdjahckdgbkbab
namespace Go.Proofs.Ytjdjahckdgbkbab
theorem prod_bds {a b : Int} (h1 : 0 ≤ a) (h2 : a ≤ 400) (h3 : 0 ≤ b) (h4 : b ≤ 2) : 0 ≤ a * b ∧ a * b ≤ 800 :=
  ⟨Int.mul_nonneg h1 h3, Int.le_trans (Int.mul_le_mul h2 h4 h3 (by omega)) (by omega)⟩
theorem an_bds {x y u v p q k : Int} (h : anB x y u v p q k = true) : 0 ≤ mn p u ∧ mn p u ≤ u ∧ 0 ≤ mn q v ∧ mn q v ≤ v ∧ 0 ≤ k % 3 ∧ k % 3 ≤ 2 ∧ 0 ≤ k / 3 ∧ k / 3 ≤ 2 ∧ 0 ≤ (u - mn p u) * (k % 3) ∧ (u - mn p u) * (k % 3) ≤ 800 ∧ 0 ≤ (v - mn q v) * (k / 3) ∧ (v - mn q v) * (k / 3) ≤ 800 := by
  obtain ⟨h1, h2, h3, h4⟩ := anB_yes h
  rw [vr_iff] at h1; rw [rng_iff] at h2 h3 h4
  have g1 := mn_spec p u; have g2 := mn_spec q v
  have e1 := prod_bds (a := u - mn p u) (b := k % 3) (by omega) (by omega) (by omega) (by omega)
  have e2 := prod_bds (a := v - mn q v) (b := k / 3) (by omega) (by omega) (by omega) (by omega)
  omega
end Go.Proofs.Ytjdjahckdgbkbab
end
section
namespace Go.Proofs.Ytjdjahckdgbkbab
open Go.RowKit
set_option linter.unusedVariables false
attribute [local go_sem 5000] run_mx run_mn run_eqlR run_neqR
attribute [local go_sem] growUpon_value growUpon_skip growUpon_enter
set_option maxHeartbeats 1000000
theorem box4 {w : World} {b : Nat} {t0 t1 t2 t3 : Value} (v0 v1 v2 v3 : Value) (h0 : w.cell? ⟨b, 0, none⟩ = some t0) (h1 : w.cell? ⟨b, 1, none⟩ = some t1) (h2 : w.cell? ⟨b, 2, none⟩ = some t2) (h3 : w.cell? ⟨b, 3, none⟩ = some t3) :
    ((((w.setCell ⟨b, 0, none⟩ v0).setCell ⟨b, 1, none⟩ v1).setCell ⟨b, 2, none⟩ v2).setCell ⟨b, 3, none⟩ v3).cell? ⟨b, 0, none⟩ = some v0 ∧ ((((w.setCell ⟨b, 0, none⟩ v0).setCell ⟨b, 1, none⟩ v1).setCell ⟨b, 2, none⟩ v2).setCell ⟨b, 3, none⟩ v3).cell? ⟨b, 1, none⟩ = some v1 ∧
    ((((w.setCell ⟨b, 0, none⟩ v0).setCell ⟨b, 1, none⟩ v1).setCell ⟨b, 2, none⟩ v2).setCell ⟨b, 3, none⟩ v3).cell? ⟨b, 2, none⟩ = some v2 ∧ ((((w.setCell ⟨b, 0, none⟩ v0).setCell ⟨b, 1, none⟩ v1).setCell ⟨b, 2, none⟩ v2).setCell ⟨b, 3, none⟩ v3).cell? ⟨b, 3, none⟩ = some v3 ∧
    ∀ c o, c ≠ b → ((((w.setCell ⟨b, 0, none⟩ v0).setCell ⟨b, 1, none⟩ v1).setCell ⟨b, 2, none⟩ v2).setCell ⟨b, 3, none⟩ v3).cell? ⟨c, o, none⟩ = w.cell? ⟨c, o, none⟩ := by
  have ne : ∀ i j : Nat, i ≠ j → (⟨b, i, none⟩ : Addr) ≠ ⟨b, j, none⟩ := fun i j h e => h (by injection e)
  have nb : ∀ c i o : Nat, c ≠ b → (⟨b, i, none⟩ : Addr) ≠ ⟨c, o, none⟩ := fun c i o h e => h (by injection e with e1; exact e1.symm)
  refine ⟨?_, ?_, ?_, ?_, fun c o hc => ?_⟩
  · rw [World.cell?_setCell_other _ _ _ _ (ne 3 0 (by decide)), World.cell?_setCell_other _ _ _ _ (ne 2 0 (by decide)), World.cell?_setCell_other _ _ _ _ (ne 1 0 (by decide))]
    exact World.cell?_setCell_same _ _ _ h0
  · rw [World.cell?_setCell_other _ _ _ _ (ne 3 1 (by decide)), World.cell?_setCell_other _ _ _ _ (ne 2 1 (by decide))]
    exact World.cell?_setCell_same _ _ _ ((World.cell?_setCell_other _ _ _ _ (ne 0 1 (by decide))).trans h1)
  · rw [World.cell?_setCell_other _ _ _ _ (ne 3 2 (by decide))]
    exact World.cell?_setCell_same _ _ _ (((World.cell?_setCell_other _ _ _ _ (ne 1 2 (by decide))).trans (World.cell?_setCell_other _ _ _ _ (ne 0 2 (by decide)))).trans h2)
  · exact World.cell?_setCell_same _ _ _ ((((World.cell?_setCell_other _ _ _ _ (ne 2 3 (by decide))).trans (World.cell?_setCell_other _ _ _ _ (ne 1 3 (by decide)))).trans (World.cell?_setCell_other _ _ _ _ (ne 0 3 (by decide)))).trans h3)
  · rw [World.cell?_setCell_other _ _ _ _ (nb c 3 o hc), World.cell?_setCell_other _ _ _ _ (nb c 2 o hc), World.cell?_setCell_other _ _ _ _ (nb c 1 o hc), World.cell?_setCell_other _ _ _ _ (nb c 0 o hc)]
theorem corners_eq (l t r b W H : Int) (w : World) (hS : Sm l t r b) (hW : r - l = W) (hH : b - t = H) :
    Calls Try.prog 75 #[.int .i64 l, .int .i64 t, .int .i64 r, .int .i64 b] w fun e w' => e = .returned (.agg #[.int .i64 (l), .int .i64 (t), .int .i64 (W), .int .i64 (H)]) ∧ Below w.heap.size w w' := by
  subst hW hH
  exact corners_any l t r b w hS
set_option maxRecDepth 100000 in
theorem cutTop_any (x y u v n m k : Int) (w : World) (h1 : vr x y u v = true) (h2 : 0 ≤ n) (hm : mn n v = m) (hk : v - m = k) :
    Calls Try.prog 88 #[.agg #[.int .i64 (x), .int .i64 (y), .int .i64 (u), .int .i64 (v)], .int .i64 n] w fun e w' => e = .returned (.tuple #[.agg #[.int .i64 (x), .int .i64 (y), .int .i64 (u), .int .i64 (m)], .agg #[.int .i64 (x), .int .i64 (y + m), .int .i64 (u), .int .i64 (k)]]) ∧ Below w.heap.size w w' := by
  obtain ⟨a1, a2, a3, a4, a5, a6, a7, a8⟩ := vr_iff.1 h1
  have g := mn_spec n v
  rw [hm] at g
  have g1 : 0 ≤ m := by omega
  have g2 : m ≤ v := by omega
  have S1 := Sm_vr h1
  have S2 : Sm x y (x + u) (y + m) := Sm_of (by omega)
  have S3 : Sm x (y + m) (x + u) (y + v) := Sm_of (by omega)
  clear g h1
  have hk1 : v - m ≤ k := by omega
  have hk2 : k ≤ v - m := by omega
  clear hk
  go_enter Try.func88, Try.ntmps88
  go_wp2_with fail
  refine wp_region_grow 16 2 (· < 16) (by kernel_rfl) (by kernel_rfl) rfl ?_
  iterate 16 (refine wpG_step (fun K hK => ?_); apply Exists.intro; refine ⟨.inl ⟨rfl, fun w' hw' => ?_⟩, ?_⟩; (focus ((obtain ⟨hc, hf⟩ := bcell hw'.out); (have hcS := bcellS hw'.out); go_simp <;> first | rfl | (go_at_call 76; exact right_any _ _ _ _ _ (by assumption)) | (go_at_call 77; exact bottom_any _ _ _ _ _ (by assumption)) | (go_at_call 75; refine corners_eq _ _ _ _ u m _ ?_ ?_ ?_; assumption; omega; omega) | (go_at_call 75; refine corners_eq _ _ _ _ u k _ ?_ ?_ ?_; assumption; omega; omega))); (go_simp; refine hK _ ?_; clear hK K))
  refine wpG_nil ?_
  refine wpK_tail (by kernel_rfl) (fun wt1 ht1 => ?_)
  obtain ⟨hct1, hft1⟩ := bcell ht1.out
  have kb0_0 : wt1.cell? ⟨w.heap.size + 1, 0, none⟩ = some (.int .i64 (0)) := by go_simp
  have kg0_0 : wt1.frozen? ⟨w.heap.size + 1, 0, none⟩ = false := by go_simp
  have kb0_1 : wt1.cell? ⟨w.heap.size + 1, 1, none⟩ = some (.int .i64 (0)) := by go_simp
  have kg0_1 : wt1.frozen? ⟨w.heap.size + 1, 1, none⟩ = false := by go_simp
  have kb0_2 : wt1.cell? ⟨w.heap.size + 1, 2, none⟩ = some (.int .i64 (0)) := by go_simp
  have kg0_2 : wt1.frozen? ⟨w.heap.size + 1, 2, none⟩ = false := by go_simp
  have kb0_3 : wt1.cell? ⟨w.heap.size + 1, 3, none⟩ = some (.int .i64 (0)) := by go_simp
  have kg0_3 : wt1.frozen? ⟨w.heap.size + 1, 3, none⟩ = false := by go_simp
  have kb1_0 : wt1.cell? ⟨w.heap.size + 1 + 1, 0, none⟩ = some (.int .i64 (0)) := by go_simp
  have kg1_0 : wt1.frozen? ⟨w.heap.size + 1 + 1, 0, none⟩ = false := by go_simp
  have kb1_1 : wt1.cell? ⟨w.heap.size + 1 + 1, 1, none⟩ = some (.int .i64 (0)) := by go_simp
  have kg1_1 : wt1.frozen? ⟨w.heap.size + 1 + 1, 1, none⟩ = false := by go_simp
  have kb1_2 : wt1.cell? ⟨w.heap.size + 1 + 1, 2, none⟩ = some (.int .i64 (0)) := by go_simp
  have kg1_2 : wt1.frozen? ⟨w.heap.size + 1 + 1, 2, none⟩ = false := by go_simp
  have kb1_3 : wt1.cell? ⟨w.heap.size + 1 + 1, 3, none⟩ = some (.int .i64 (0)) := by go_simp
  have kg1_3 : wt1.frozen? ⟨w.heap.size + 1 + 1, 3, none⟩ = false := by go_simp
  clear hct1 hft1
  refine wpAny_one (i := 16) (by kernel_rfl) rfl rfl ?_
  go_simp
  refine wpAny_one (i := 17) (by kernel_rfl) rfl rfl ?_
  go_simp
  refine wpAny_end (by kernel_rfl) ?_
  have XA := box4 (w := wt1) (b := w.heap.size + 1) (.int .i64 (x)) (.int .i64 (y)) (.int .i64 (u)) (.int .i64 (m)) kb0_0 kb0_1 kb0_2 kb0_3
  have XB := box4 (b := w.heap.size + 1 + 1) (.int .i64 (x)) (.int .i64 (y + m)) (.int .i64 (u)) (.int .i64 (k)) ((XA.2.2.2.2 (w.heap.size + 1 + 1) 0 (by omega)).trans kb1_0) ((XA.2.2.2.2 (w.heap.size + 1 + 1) 1 (by omega)).trans kb1_1) ((XA.2.2.2.2 (w.heap.size + 1 + 1) 2 (by omega)).trans kb1_2) ((XA.2.2.2.2 (w.heap.size + 1 + 1) 3 (by omega)).trans kb1_3)
  refine NoPan.gen (fun wf => Below w.heap.size w wf ∧ wf.cell? ⟨w.heap.size + 1, 0, none⟩ = some (.int .i64 (x)) ∧ wf.cell? ⟨w.heap.size + 1, 1, none⟩ = some (.int .i64 (y)) ∧ wf.cell? ⟨w.heap.size + 1, 2, none⟩ = some (.int .i64 (u)) ∧ wf.cell? ⟨w.heap.size + 1, 3, none⟩ = some (.int .i64 (m)) ∧ wf.cell? ⟨w.heap.size + 1 + 1, 0, none⟩ = some (.int .i64 (x)) ∧ wf.cell? ⟨w.heap.size + 1 + 1, 1, none⟩ = some (.int .i64 (y + m)) ∧ wf.cell? ⟨w.heap.size + 1 + 1, 2, none⟩ = some (.int .i64 (u)) ∧ wf.cell? ⟨w.heap.size + 1 + 1, 3, none⟩ = some (.int .i64 (k))) ⟨(by repeat (first | with_reducible exact Below.refl _ _ | with_reducible assumption | with_reducible refine balloc ?_ | (with_reducible refine bset ?_ ?_; rotate_left; ((try dsimp only); omega)) | refine bkeep2 ?_ (by assumption) | with_reducible refine Below.drew ?_)), (XB.2.2.2.2 (w.heap.size + 1) 0 (by omega)).trans XA.1, (XB.2.2.2.2 (w.heap.size + 1) 1 (by omega)).trans XA.2.1, (XB.2.2.2.2 (w.heap.size + 1) 2 (by omega)).trans XA.2.2.1, (XB.2.2.2.2 (w.heap.size + 1) 3 (by omega)).trans XA.2.2.2.1, XB.1, XB.2.1, XB.2.2.1, XB.2.2.2.1⟩ (fun wf hwf => ?_)
  clear XA XB kb0_0 kb0_1 kb0_2 kb0_3 kb1_0 kb1_1 kb1_2 kb1_3 kg0_0 kg0_1 kg0_2 kg0_3 kg1_0 kg1_1 kg1_2 kg1_3
  obtain ⟨hBf, z0, z1, z2, z3, z4, z5, z6, z7⟩ := hwf
  go_wp2
  exact bodyPost_ret (v := .tuple #[.agg #[.int .i64 (x), .int .i64 (y), .int .i64 (u), .int .i64 (m)], .agg #[.int .i64 (x), .int .i64 (y + m), .int .i64 (u), .int .i64 (k)]]) (by simp only [results, Try.results88]; go_simp) rfl ⟨rfl, (by repeat (first | with_reducible exact Below.refl _ _ | with_reducible assumption | with_reducible refine balloc ?_ | (with_reducible refine bset ?_ ?_; rotate_left; ((try dsimp only); omega)) | refine bkeep2 ?_ (by assumption) | with_reducible refine Below.drew ?_))⟩
set_option maxRecDepth 100000 in
theorem cutLeft_any (x y u v n m k : Int) (w : World) (h1 : vr x y u v = true) (h2 : 0 ≤ n) (hm : mn n u = m) (hk : u - m = k) :
    Calls Try.prog 90 #[.agg #[.int .i64 (x), .int .i64 (y), .int .i64 (u), .int .i64 (v)], .int .i64 n] w fun e w' => e = .returned (.tuple #[.agg #[.int .i64 (x), .int .i64 (y), .int .i64 (m), .int .i64 (v)], .agg #[.int .i64 (x + m), .int .i64 (y), .int .i64 (k), .int .i64 (v)]]) ∧ Below w.heap.size w w' := by
  obtain ⟨a1, a2, a3, a4, a5, a6, a7, a8⟩ := vr_iff.1 h1
  have g := mn_spec n u
  rw [hm] at g
  have g1 : 0 ≤ m := by omega
  have g2 : m ≤ u := by omega
  have S1 := Sm_vr h1
  have S2 : Sm x y (x + m) (y + v) := Sm_of (by omega)
  have S3 : Sm (x + m) y (x + u) (y + v) := Sm_of (by omega)
  clear g h1
  have hk1 : u - m ≤ k := by omega
  have hk2 : k ≤ u - m := by omega
  clear hk
  go_enter Try.func90, Try.ntmps90
  go_wp2_with fail
  refine wp_region_grow 16 2 (· < 16) (by kernel_rfl) (by kernel_rfl) rfl ?_
  iterate 16 (refine wpG_step (fun K hK => ?_); apply Exists.intro; refine ⟨.inl ⟨rfl, fun w' hw' => ?_⟩, ?_⟩; (focus ((obtain ⟨hc, hf⟩ := bcell hw'.out); (have hcS := bcellS hw'.out); go_simp <;> first | rfl | (go_at_call 76; exact right_any _ _ _ _ _ (by assumption)) | (go_at_call 77; exact bottom_any _ _ _ _ _ (by assumption)) | (go_at_call 75; refine corners_eq _ _ _ _ m v _ ?_ ?_ ?_; assumption; omega; omega) | (go_at_call 75; refine corners_eq _ _ _ _ k v _ ?_ ?_ ?_; assumption; omega; omega))); (go_simp; refine hK _ ?_; clear hK K))
  refine wpG_nil ?_
  refine wpK_tail (by kernel_rfl) (fun wt1 ht1 => ?_)
  obtain ⟨hct1, hft1⟩ := bcell ht1.out
  have kb0_0 : wt1.cell? ⟨w.heap.size + 1, 0, none⟩ = some (.int .i64 (0)) := by go_simp
  have kg0_0 : wt1.frozen? ⟨w.heap.size + 1, 0, none⟩ = false := by go_simp
  have kb0_1 : wt1.cell? ⟨w.heap.size + 1, 1, none⟩ = some (.int .i64 (0)) := by go_simp
  have kg0_1 : wt1.frozen? ⟨w.heap.size + 1, 1, none⟩ = false := by go_simp
  have kb0_2 : wt1.cell? ⟨w.heap.size + 1, 2, none⟩ = some (.int .i64 (0)) := by go_simp
  have kg0_2 : wt1.frozen? ⟨w.heap.size + 1, 2, none⟩ = false := by go_simp
  have kb0_3 : wt1.cell? ⟨w.heap.size + 1, 3, none⟩ = some (.int .i64 (0)) := by go_simp
  have kg0_3 : wt1.frozen? ⟨w.heap.size + 1, 3, none⟩ = false := by go_simp
  have kb1_0 : wt1.cell? ⟨w.heap.size + 1 + 1, 0, none⟩ = some (.int .i64 (0)) := by go_simp
  have kg1_0 : wt1.frozen? ⟨w.heap.size + 1 + 1, 0, none⟩ = false := by go_simp
  have kb1_1 : wt1.cell? ⟨w.heap.size + 1 + 1, 1, none⟩ = some (.int .i64 (0)) := by go_simp
  have kg1_1 : wt1.frozen? ⟨w.heap.size + 1 + 1, 1, none⟩ = false := by go_simp
  have kb1_2 : wt1.cell? ⟨w.heap.size + 1 + 1, 2, none⟩ = some (.int .i64 (0)) := by go_simp
  have kg1_2 : wt1.frozen? ⟨w.heap.size + 1 + 1, 2, none⟩ = false := by go_simp
  have kb1_3 : wt1.cell? ⟨w.heap.size + 1 + 1, 3, none⟩ = some (.int .i64 (0)) := by go_simp
  have kg1_3 : wt1.frozen? ⟨w.heap.size + 1 + 1, 3, none⟩ = false := by go_simp
  clear hct1 hft1
  refine wpAny_one (i := 16) (by kernel_rfl) rfl rfl ?_
  go_simp
  refine wpAny_one (i := 17) (by kernel_rfl) rfl rfl ?_
  go_simp
  refine wpAny_end (by kernel_rfl) ?_
  have XA := box4 (w := wt1) (b := w.heap.size + 1) (.int .i64 (x)) (.int .i64 (y)) (.int .i64 (m)) (.int .i64 (v)) kb0_0 kb0_1 kb0_2 kb0_3
  have XB := box4 (b := w.heap.size + 1 + 1) (.int .i64 (x + m)) (.int .i64 (y)) (.int .i64 (k)) (.int .i64 (v)) ((XA.2.2.2.2 (w.heap.size + 1 + 1) 0 (by omega)).trans kb1_0) ((XA.2.2.2.2 (w.heap.size + 1 + 1) 1 (by omega)).trans kb1_1) ((XA.2.2.2.2 (w.heap.size + 1 + 1) 2 (by omega)).trans kb1_2) ((XA.2.2.2.2 (w.heap.size + 1 + 1) 3 (by omega)).trans kb1_3)
  refine NoPan.gen (fun wf => Below w.heap.size w wf ∧ wf.cell? ⟨w.heap.size + 1, 0, none⟩ = some (.int .i64 (x)) ∧ wf.cell? ⟨w.heap.size + 1, 1, none⟩ = some (.int .i64 (y)) ∧ wf.cell? ⟨w.heap.size + 1, 2, none⟩ = some (.int .i64 (m)) ∧ wf.cell? ⟨w.heap.size + 1, 3, none⟩ = some (.int .i64 (v)) ∧ wf.cell? ⟨w.heap.size + 1 + 1, 0, none⟩ = some (.int .i64 (x + m)) ∧ wf.cell? ⟨w.heap.size + 1 + 1, 1, none⟩ = some (.int .i64 (y)) ∧ wf.cell? ⟨w.heap.size + 1 + 1, 2, none⟩ = some (.int .i64 (k)) ∧ wf.cell? ⟨w.heap.size + 1 + 1, 3, none⟩ = some (.int .i64 (v))) ⟨(by repeat (first | with_reducible exact Below.refl _ _ | with_reducible assumption | with_reducible refine balloc ?_ | (with_reducible refine bset ?_ ?_; rotate_left; ((try dsimp only); omega)) | refine bkeep2 ?_ (by assumption) | with_reducible refine Below.drew ?_)), (XB.2.2.2.2 (w.heap.size + 1) 0 (by omega)).trans XA.1, (XB.2.2.2.2 (w.heap.size + 1) 1 (by omega)).trans XA.2.1, (XB.2.2.2.2 (w.heap.size + 1) 2 (by omega)).trans XA.2.2.1, (XB.2.2.2.2 (w.heap.size + 1) 3 (by omega)).trans XA.2.2.2.1, XB.1, XB.2.1, XB.2.2.1, XB.2.2.2.1⟩ (fun wf hwf => ?_)
  clear XA XB kb0_0 kb0_1 kb0_2 kb0_3 kb1_0 kb1_1 kb1_2 kb1_3 kg0_0 kg0_1 kg0_2 kg0_3 kg1_0 kg1_1 kg1_2 kg1_3
  obtain ⟨hBf, z0, z1, z2, z3, z4, z5, z6, z7⟩ := hwf
  go_wp2
  exact bodyPost_ret (v := .tuple #[.agg #[.int .i64 (x), .int .i64 (y), .int .i64 (m), .int .i64 (v)], .agg #[.int .i64 (x + m), .int .i64 (y), .int .i64 (k), .int .i64 (v)]]) (by simp only [results, Try.results90]; go_simp) rfl ⟨rfl, (by repeat (first | with_reducible exact Below.refl _ _ | with_reducible assumption | with_reducible refine balloc ?_ | (with_reducible refine bset ?_ ?_; rotate_left; ((try dsimp only); omega)) | refine bkeep2 ?_ (by assumption) | with_reducible refine Below.drew ?_))⟩
end Go.Proofs.Ytjdjahckdgbkbab
end
section
namespace Go.Proofs.Ytjdjahckdgbkbab
open Go.RowKit
set_option linter.unusedVariables false
attribute [local go_sem 5000] run_mx run_mn run_eqlR run_neqR
attribute [local go_sem] growUpon_value growUpon_skip growUpon_enter
set_option maxHeartbeats 1000000
theorem celld {W : World} {a : Addr} {v : Value} (h : W.cell? a = some v) : W.drew.cell? a = some v := h
theorem gen_post {P : Program} {fn : Func} {R : Ending → World → Prop} {e : Exit} {a : Act} {W : World} (F : World → Prop) (hF : F W) (h : ∀ W0, F W0 → bodyPost P fn R e a W0) : bodyPost P fn R e a W := h W hF
set_option maxRecDepth 100000 in
theorem cutBottom_any (x y u v n : Int) (w : World) (h1 : vr x y u v = true) (h2 : 0 ≤ n) :
    Calls Try.prog 89 #[.agg #[.int .i64 (x), .int .i64 (y), .int .i64 (u), .int .i64 (v)], .int .i64 n] w fun e w' => e = .returned (.tuple #[.agg #[.int .i64 (x), .int .i64 (y + (v - mn n v)), .int .i64 (u), .int .i64 (mn n v)], .agg #[.int .i64 (x), .int .i64 (y), .int .i64 (u), .int .i64 (v - mn n v)]]) ∧ Below w.heap.size w w' := by
  obtain ⟨a1, a2, a3, a4, a5, a6, a7, a8⟩ := vr_iff.1 h1
  have g := mn_spec n v
  have g1 : 0 ≤ mn n v := by omega
  have g2 : mn n v ≤ v := by omega
  have C := Lib.hid (fun w => cutTop_any x y u v (v - mn n v) (v - mn n v) (mn n v) w h1 (by omega) (by have := mn_spec (v - mn n v) v; omega) (by omega))
  clear g
  go_enter Try.func89, Try.ntmps89
  go_wp2_with (go_at_call 88; refine (C.out _).mono ?_; rintro e w1 ⟨rfl, hb⟩; obtain ⟨hc, hf⟩ := bcell hb; (first | (replace hB := bkeep2 hB hb) | (replace hB := bkeep2 (balloc hB) hb) | (replace hB := bkeep2 (balloc (balloc hB)) hb) | have hB := hb); obtain ⟨hC, hF, hZ, hN⟩ := bcell4 hB; (try (have hlt := Nat.lt_of_lt_of_le hlt hb.size; have hne := Nat.ne_of_lt hlt)); (have hs0 := hb.size); (try simp only [World.size_alloc] at hs0); (try (have hlt := Nat.lt_of_succ_le hs0; have hne := Nat.ne_of_lt hlt)); (have kz0 : w.heap.size < w1.heap.size := by have := hB.size; simp at this; omega); (have kn0 : ¬ w.heap.size = w1.heap.size := by omega); (have kz1 : w.heap.size + 1 < w1.heap.size := by have := hB.size; simp at this; omega); (have kn1 : ¬ w.heap.size + 1 = w1.heap.size := by omega); (have kz2 : w.heap.size + 1 + 1 < w1.heap.size := by have := hB.size; simp at this; omega); (have kn2 : ¬ w.heap.size + 1 + 1 = w1.heap.size := by omega); (have kc0 : w1.cell? ⟨w.heap.size + 1, 0, none⟩ = some (.int .i64 (0)) := by go_simp); (have kf0 : w1.frozen? ⟨w.heap.size + 1, 0, none⟩ = false := by go_simp); (have kc1 : w1.cell? ⟨w.heap.size + 1, 1, none⟩ = some (.int .i64 (0)) := by go_simp); (have kf1 : w1.frozen? ⟨w.heap.size + 1, 1, none⟩ = false := by go_simp); (have kc2 : w1.cell? ⟨w.heap.size + 1, 2, none⟩ = some (.int .i64 (0)) := by go_simp); (have kf2 : w1.frozen? ⟨w.heap.size + 1, 2, none⟩ = false := by go_simp); (have kc3 : w1.cell? ⟨w.heap.size + 1, 3, none⟩ = some (.int .i64 (0)) := by go_simp); (have kf3 : w1.frozen? ⟨w.heap.size + 1, 3, none⟩ = false := by go_simp); (have kc0 : w1.cell? ⟨w.heap.size + 1 + 1, 0, none⟩ = some (.int .i64 (0)) := by go_simp); (have kf0 : w1.frozen? ⟨w.heap.size + 1 + 1, 0, none⟩ = false := by go_simp); (have kc1 : w1.cell? ⟨w.heap.size + 1 + 1, 1, none⟩ = some (.int .i64 (0)) := by go_simp); (have kf1 : w1.frozen? ⟨w.heap.size + 1 + 1, 1, none⟩ = false := by go_simp); (have kc2 : w1.cell? ⟨w.heap.size + 1 + 1, 2, none⟩ = some (.int .i64 (0)) := by go_simp); (have kf2 : w1.frozen? ⟨w.heap.size + 1 + 1, 2, none⟩ = false := by go_simp); (have kc3 : w1.cell? ⟨w.heap.size + 1 + 1, 3, none⟩ = some (.int .i64 (0)) := by go_simp); (have kf3 : w1.frozen? ⟨w.heap.size + 1 + 1, 3, none⟩ = false := by go_simp); clear hC hF hc hf hZ hN)
  refine wp_gen (fun W0 => Below w.heap.size w W0 ∧ W0.cell? ⟨w.heap.size + 1, 0, none⟩ = some (.int .i64 0) ∧ W0.frozen? ⟨w.heap.size + 1, 0, none⟩ = false ∧ W0.cell? ⟨w.heap.size + 1, 1, none⟩ = some (.int .i64 0) ∧ W0.frozen? ⟨w.heap.size + 1, 1, none⟩ = false ∧ W0.cell? ⟨w.heap.size + 1, 2, none⟩ = some (.int .i64 0) ∧ W0.frozen? ⟨w.heap.size + 1, 2, none⟩ = false ∧ W0.cell? ⟨w.heap.size + 1, 3, none⟩ = some (.int .i64 0) ∧ W0.frozen? ⟨w.heap.size + 1, 3, none⟩ = false ∧ W0.cell? ⟨w.heap.size + 1 + 1, 0, none⟩ = some (.int .i64 0) ∧ W0.frozen? ⟨w.heap.size + 1 + 1, 0, none⟩ = false ∧ W0.cell? ⟨w.heap.size + 1 + 1, 1, none⟩ = some (.int .i64 0) ∧ W0.frozen? ⟨w.heap.size + 1 + 1, 1, none⟩ = false ∧ W0.cell? ⟨w.heap.size + 1 + 1, 2, none⟩ = some (.int .i64 0) ∧ W0.frozen? ⟨w.heap.size + 1 + 1, 2, none⟩ = false ∧ W0.cell? ⟨w.heap.size + 1 + 1, 3, none⟩ = some (.int .i64 0) ∧ W0.frozen? ⟨w.heap.size + 1 + 1, 3, none⟩ = false ∧ W0.cell? ⟨w1.heap.size, 0, none⟩ = some (.int .i64 (x)) ∧ W0.cell? ⟨w1.heap.size, 1, none⟩ = some (.int .i64 (y)) ∧ W0.cell? ⟨w1.heap.size, 2, none⟩ = some (.int .i64 (u)) ∧ W0.cell? ⟨w1.heap.size, 3, none⟩ = some (.int .i64 (v - mn n v)) ∧ W0.cell? ⟨w1.heap.size + 1, 0, none⟩ = some (.int .i64 (x)) ∧ W0.cell? ⟨w1.heap.size + 1, 1, none⟩ = some (.int .i64 (y + (v - mn n v))) ∧ W0.cell? ⟨w1.heap.size + 1, 2, none⟩ = some (.int .i64 (u)) ∧ W0.cell? ⟨w1.heap.size + 1, 3, none⟩ = some (.int .i64 (mn n v))) ⟨(by repeat (first | with_reducible exact Below.refl _ _ | with_reducible assumption | with_reducible refine balloc ?_ | (with_reducible refine bset ?_ ?_; rotate_left; ((try dsimp only); omega)) | refine bkeep2 ?_ (by assumption) | with_reducible refine Below.drew ?_)), ?_⟩ (fun W0 hW0 => ?_)
  · go_simp
  obtain ⟨hBW, p0, pf0, p1, pf1, p2, pf2, p3, pf3, q0, qf0, q1, qf1, q2, qf2, q3, qf3, r0, r1, r2, r3, s0, s1, s2, s3⟩ := hW0
  generalize w1.heap.size = b6 at *

  go_region
  all_goals go_wp2
  all_goals
    have XA := box4 (w := W0) (b := w.heap.size + 1) (.int .i64 (x)) (.int .i64 (y + (v - mn n v))) (.int .i64 (u)) (.int .i64 (mn n v)) p0 p1 p2 p3
    have XB := box4 (b := w.heap.size + 1 + 1) (.int .i64 (x)) (.int .i64 (y)) (.int .i64 (u)) (.int .i64 (v - mn n v)) ((XA.2.2.2.2 (w.heap.size + 1 + 1) 0 (by omega)).trans q0) ((XA.2.2.2.2 (w.heap.size + 1 + 1) 1 (by omega)).trans q1) ((XA.2.2.2.2 (w.heap.size + 1 + 1) 2 (by omega)).trans q2) ((XA.2.2.2.2 (w.heap.size + 1 + 1) 3 (by omega)).trans q3)
    refine gen_post (fun wf => Below w.heap.size w wf ∧ wf.cell? ⟨w.heap.size + 1, 0, none⟩ = some (.int .i64 (x)) ∧ wf.cell? ⟨w.heap.size + 1, 1, none⟩ = some (.int .i64 (y + (v - mn n v))) ∧ wf.cell? ⟨w.heap.size + 1, 2, none⟩ = some (.int .i64 (u)) ∧ wf.cell? ⟨w.heap.size + 1, 3, none⟩ = some (.int .i64 (mn n v)) ∧ wf.cell? ⟨w.heap.size + 1 + 1, 0, none⟩ = some (.int .i64 (x)) ∧ wf.cell? ⟨w.heap.size + 1 + 1, 1, none⟩ = some (.int .i64 (y)) ∧ wf.cell? ⟨w.heap.size + 1 + 1, 2, none⟩ = some (.int .i64 (u)) ∧ wf.cell? ⟨w.heap.size + 1 + 1, 3, none⟩ = some (.int .i64 (v - mn n v))) ⟨(by with_reducible refine Below.drew ?_; exact (by repeat (first | with_reducible exact Below.refl _ _ | with_reducible assumption | with_reducible refine balloc ?_ | (with_reducible refine bset ?_ ?_; rotate_left; ((try dsimp only); omega)) | refine bkeep2 ?_ (by assumption) | with_reducible refine Below.drew ?_))), celld ((XB.2.2.2.2 (w.heap.size + 1) 0 (by omega)).trans XA.1), celld ((XB.2.2.2.2 (w.heap.size + 1) 1 (by omega)).trans XA.2.1), celld ((XB.2.2.2.2 (w.heap.size + 1) 2 (by omega)).trans XA.2.2.1), celld ((XB.2.2.2.2 (w.heap.size + 1) 3 (by omega)).trans XA.2.2.2.1), celld (XB.1), celld (XB.2.1), celld (XB.2.2.1), celld (XB.2.2.2.1)⟩ (fun wf hwf => ?_)
    clear XA XB
    obtain ⟨hBf, z0, z1, z2, z3, z4, z5, z6, z7⟩ := hwf
    exact bodyPost_ret (v := .tuple #[.agg #[.int .i64 (x), .int .i64 (y + (v - mn n v)), .int .i64 (u), .int .i64 (mn n v)], .agg #[.int .i64 (x), .int .i64 (y), .int .i64 (u), .int .i64 (v - mn n v)]]) (by simp only [results, Try.results89]; go_simp) rfl ⟨rfl, (by repeat (first | with_reducible exact Below.refl _ _ | with_reducible assumption | with_reducible refine balloc ?_ | (with_reducible refine bset ?_ ?_; rotate_left; ((try dsimp only); omega)) | refine bkeep2 ?_ (by assumption) | with_reducible refine Below.drew ?_))⟩
set_option maxRecDepth 100000 in
theorem cutRight_any (x y u v n : Int) (w : World) (h1 : vr x y u v = true) (h2 : 0 ≤ n) :
    Calls Try.prog 91 #[.agg #[.int .i64 (x), .int .i64 (y), .int .i64 (u), .int .i64 (v)], .int .i64 n] w fun e w' => e = .returned (.tuple #[.agg #[.int .i64 (x + (u - mn n u)), .int .i64 (y), .int .i64 (mn n u), .int .i64 (v)], .agg #[.int .i64 (x), .int .i64 (y), .int .i64 (u - mn n u), .int .i64 (v)]]) ∧ Below w.heap.size w w' := by
  obtain ⟨a1, a2, a3, a4, a5, a6, a7, a8⟩ := vr_iff.1 h1
  have g := mn_spec n u
  have g1 : 0 ≤ mn n u := by omega
  have g2 : mn n u ≤ u := by omega
  have C := Lib.hid (fun w => cutLeft_any x y u v (u - mn n u) (u - mn n u) (mn n u) w h1 (by omega) (by have := mn_spec (u - mn n u) u; omega) (by omega))
  clear g
  go_enter Try.func91, Try.ntmps91
  go_wp2_with (go_at_call 90; refine (C.out _).mono ?_; rintro e w1 ⟨rfl, hb⟩; obtain ⟨hc, hf⟩ := bcell hb; (first | (replace hB := bkeep2 hB hb) | (replace hB := bkeep2 (balloc hB) hb) | (replace hB := bkeep2 (balloc (balloc hB)) hb) | have hB := hb); obtain ⟨hC, hF, hZ, hN⟩ := bcell4 hB; (try (have hlt := Nat.lt_of_lt_of_le hlt hb.size; have hne := Nat.ne_of_lt hlt)); (have hs0 := hb.size); (try simp only [World.size_alloc] at hs0); (try (have hlt := Nat.lt_of_succ_le hs0; have hne := Nat.ne_of_lt hlt)); (have kz0 : w.heap.size < w1.heap.size := by have := hB.size; simp at this; omega); (have kn0 : ¬ w.heap.size = w1.heap.size := by omega); (have kz1 : w.heap.size + 1 < w1.heap.size := by have := hB.size; simp at this; omega); (have kn1 : ¬ w.heap.size + 1 = w1.heap.size := by omega); (have kz2 : w.heap.size + 1 + 1 < w1.heap.size := by have := hB.size; simp at this; omega); (have kn2 : ¬ w.heap.size + 1 + 1 = w1.heap.size := by omega); (have kc0 : w1.cell? ⟨w.heap.size + 1, 0, none⟩ = some (.int .i64 (0)) := by go_simp); (have kf0 : w1.frozen? ⟨w.heap.size + 1, 0, none⟩ = false := by go_simp); (have kc1 : w1.cell? ⟨w.heap.size + 1, 1, none⟩ = some (.int .i64 (0)) := by go_simp); (have kf1 : w1.frozen? ⟨w.heap.size + 1, 1, none⟩ = false := by go_simp); (have kc2 : w1.cell? ⟨w.heap.size + 1, 2, none⟩ = some (.int .i64 (0)) := by go_simp); (have kf2 : w1.frozen? ⟨w.heap.size + 1, 2, none⟩ = false := by go_simp); (have kc3 : w1.cell? ⟨w.heap.size + 1, 3, none⟩ = some (.int .i64 (0)) := by go_simp); (have kf3 : w1.frozen? ⟨w.heap.size + 1, 3, none⟩ = false := by go_simp); (have kc0 : w1.cell? ⟨w.heap.size + 1 + 1, 0, none⟩ = some (.int .i64 (0)) := by go_simp); (have kf0 : w1.frozen? ⟨w.heap.size + 1 + 1, 0, none⟩ = false := by go_simp); (have kc1 : w1.cell? ⟨w.heap.size + 1 + 1, 1, none⟩ = some (.int .i64 (0)) := by go_simp); (have kf1 : w1.frozen? ⟨w.heap.size + 1 + 1, 1, none⟩ = false := by go_simp); (have kc2 : w1.cell? ⟨w.heap.size + 1 + 1, 2, none⟩ = some (.int .i64 (0)) := by go_simp); (have kf2 : w1.frozen? ⟨w.heap.size + 1 + 1, 2, none⟩ = false := by go_simp); (have kc3 : w1.cell? ⟨w.heap.size + 1 + 1, 3, none⟩ = some (.int .i64 (0)) := by go_simp); (have kf3 : w1.frozen? ⟨w.heap.size + 1 + 1, 3, none⟩ = false := by go_simp); clear hC hF hc hf hZ hN)
  refine wp_gen (fun W0 => Below w.heap.size w W0 ∧ W0.cell? ⟨w.heap.size + 1, 0, none⟩ = some (.int .i64 0) ∧ W0.frozen? ⟨w.heap.size + 1, 0, none⟩ = false ∧ W0.cell? ⟨w.heap.size + 1, 1, none⟩ = some (.int .i64 0) ∧ W0.frozen? ⟨w.heap.size + 1, 1, none⟩ = false ∧ W0.cell? ⟨w.heap.size + 1, 2, none⟩ = some (.int .i64 0) ∧ W0.frozen? ⟨w.heap.size + 1, 2, none⟩ = false ∧ W0.cell? ⟨w.heap.size + 1, 3, none⟩ = some (.int .i64 0) ∧ W0.frozen? ⟨w.heap.size + 1, 3, none⟩ = false ∧ W0.cell? ⟨w.heap.size + 1 + 1, 0, none⟩ = some (.int .i64 0) ∧ W0.frozen? ⟨w.heap.size + 1 + 1, 0, none⟩ = false ∧ W0.cell? ⟨w.heap.size + 1 + 1, 1, none⟩ = some (.int .i64 0) ∧ W0.frozen? ⟨w.heap.size + 1 + 1, 1, none⟩ = false ∧ W0.cell? ⟨w.heap.size + 1 + 1, 2, none⟩ = some (.int .i64 0) ∧ W0.frozen? ⟨w.heap.size + 1 + 1, 2, none⟩ = false ∧ W0.cell? ⟨w.heap.size + 1 + 1, 3, none⟩ = some (.int .i64 0) ∧ W0.frozen? ⟨w.heap.size + 1 + 1, 3, none⟩ = false ∧ W0.cell? ⟨w1.heap.size, 0, none⟩ = some (.int .i64 (x)) ∧ W0.cell? ⟨w1.heap.size, 1, none⟩ = some (.int .i64 (y)) ∧ W0.cell? ⟨w1.heap.size, 2, none⟩ = some (.int .i64 (u - mn n u)) ∧ W0.cell? ⟨w1.heap.size, 3, none⟩ = some (.int .i64 (v)) ∧ W0.cell? ⟨w1.heap.size + 1, 0, none⟩ = some (.int .i64 (x + (u - mn n u))) ∧ W0.cell? ⟨w1.heap.size + 1, 1, none⟩ = some (.int .i64 (y)) ∧ W0.cell? ⟨w1.heap.size + 1, 2, none⟩ = some (.int .i64 (mn n u)) ∧ W0.cell? ⟨w1.heap.size + 1, 3, none⟩ = some (.int .i64 (v))) ⟨(by repeat (first | with_reducible exact Below.refl _ _ | with_reducible assumption | with_reducible refine balloc ?_ | (with_reducible refine bset ?_ ?_; rotate_left; ((try dsimp only); omega)) | refine bkeep2 ?_ (by assumption) | with_reducible refine Below.drew ?_)), ?_⟩ (fun W0 hW0 => ?_)
  · go_simp
  obtain ⟨hBW, p0, pf0, p1, pf1, p2, pf2, p3, pf3, q0, qf0, q1, qf1, q2, qf2, q3, qf3, r0, r1, r2, r3, s0, s1, s2, s3⟩ := hW0
  generalize w1.heap.size = b6 at *

  go_region
  all_goals go_wp2
  all_goals
    have XA := box4 (w := W0) (b := w.heap.size + 1) (.int .i64 (x + (u - mn n u))) (.int .i64 (y)) (.int .i64 (mn n u)) (.int .i64 (v)) p0 p1 p2 p3
    have XB := box4 (b := w.heap.size + 1 + 1) (.int .i64 (x)) (.int .i64 (y)) (.int .i64 (u - mn n u)) (.int .i64 (v)) ((XA.2.2.2.2 (w.heap.size + 1 + 1) 0 (by omega)).trans q0) ((XA.2.2.2.2 (w.heap.size + 1 + 1) 1 (by omega)).trans q1) ((XA.2.2.2.2 (w.heap.size + 1 + 1) 2 (by omega)).trans q2) ((XA.2.2.2.2 (w.heap.size + 1 + 1) 3 (by omega)).trans q3)
    refine gen_post (fun wf => Below w.heap.size w wf ∧ wf.cell? ⟨w.heap.size + 1, 0, none⟩ = some (.int .i64 (x + (u - mn n u))) ∧ wf.cell? ⟨w.heap.size + 1, 1, none⟩ = some (.int .i64 (y)) ∧ wf.cell? ⟨w.heap.size + 1, 2, none⟩ = some (.int .i64 (mn n u)) ∧ wf.cell? ⟨w.heap.size + 1, 3, none⟩ = some (.int .i64 (v)) ∧ wf.cell? ⟨w.heap.size + 1 + 1, 0, none⟩ = some (.int .i64 (x)) ∧ wf.cell? ⟨w.heap.size + 1 + 1, 1, none⟩ = some (.int .i64 (y)) ∧ wf.cell? ⟨w.heap.size + 1 + 1, 2, none⟩ = some (.int .i64 (u - mn n u)) ∧ wf.cell? ⟨w.heap.size + 1 + 1, 3, none⟩ = some (.int .i64 (v))) ⟨(by with_reducible refine Below.drew ?_; exact (by repeat (first | with_reducible exact Below.refl _ _ | with_reducible assumption | with_reducible refine balloc ?_ | (with_reducible refine bset ?_ ?_; rotate_left; ((try dsimp only); omega)) | refine bkeep2 ?_ (by assumption) | with_reducible refine Below.drew ?_))), celld ((XB.2.2.2.2 (w.heap.size + 1) 0 (by omega)).trans XA.1), celld ((XB.2.2.2.2 (w.heap.size + 1) 1 (by omega)).trans XA.2.1), celld ((XB.2.2.2.2 (w.heap.size + 1) 2 (by omega)).trans XA.2.2.1), celld ((XB.2.2.2.2 (w.heap.size + 1) 3 (by omega)).trans XA.2.2.2.1), celld (XB.1), celld (XB.2.1), celld (XB.2.2.1), celld (XB.2.2.2.1)⟩ (fun wf hwf => ?_)
    clear XA XB
    obtain ⟨hBf, z0, z1, z2, z3, z4, z5, z6, z7⟩ := hwf
    exact bodyPost_ret (v := .tuple #[.agg #[.int .i64 (x + (u - mn n u)), .int .i64 (y), .int .i64 (mn n u), .int .i64 (v)], .agg #[.int .i64 (x), .int .i64 (y), .int .i64 (u - mn n u), .int .i64 (v)]]) (by simp only [results, Try.results91]; go_simp) rfl ⟨rfl, (by repeat (first | with_reducible exact Below.refl _ _ | with_reducible assumption | with_reducible refine balloc ?_ | (with_reducible refine bset ?_ ?_; rotate_left; ((try dsimp only); omega)) | refine bkeep2 ?_ (by assumption) | with_reducible refine Below.drew ?_))⟩
end Go.Proofs.Ytjdjahckdgbkbab
end
