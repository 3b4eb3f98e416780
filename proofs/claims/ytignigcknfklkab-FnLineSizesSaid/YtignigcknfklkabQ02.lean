import Derived.Test.YtignigcknfklkabQ01
import Derived.LoopTactic
import Derived.OwnWalk
import Derived.Lib.SmallJoins
section
set_option linter.unusedVariables false
namespace Go.Proofs.Ytignigcknfklkab
def hpB (x y u v p q : Int) : Bool := decide (x ≤ p ∧ p < x + u ∧ y ≤ q ∧ q < y + v)
theorem hpB_iff {x y u v p q : Int} : hpB x y u v p q = true ↔ (x ≤ p ∧ p < x + u ∧ y ≤ q ∧ q < y + v) := by simp only [hpB, decide_eq_true_eq]
theorem hpB_not {x y u v p q : Int} : hpB x y u v p q = false ↔ ¬ (x ≤ p ∧ p < x + u ∧ y ≤ q ∧ q < y + v) := by unfold hpB; exact decide_eq_false_iff_not
theorem hpB_n1 {x y u v p q : Int} (h : ¬ x ≤ p) : hpB x y u v p q = false := by rw [hpB_not]; omega
theorem hpB_n2 {x y u v p q : Int} (h : ¬ p < x + u) : hpB x y u v p q = false := by rw [hpB_not]; omega
theorem hpB_n3 {x y u v p q : Int} (h : ¬ y ≤ q) : hpB x y u v p q = false := by rw [hpB_not]; omega
theorem hpB_n4 {x y u v p q : Int} (h : ¬ q < y + v) : hpB x y u v p q = false := by rw [hpB_not]; omega
theorem hpB_y {x y u v p q : Int} (h1 : x ≤ p) (h2 : p < x + u) (h3 : y ≤ q) (h4 : q < y + v) : hpB x y u v p q = true := by rw [hpB_iff]; omega
theorem rng_n {p a b : Int} (h1 : ¬ p < b) : rng p a (b - 1) = false := by rw [rng_not]; omega
theorem hpB_sp {x y u v p q : Int} : hpB x y u v p q = (rng p x (x + u - 1) && rng q y (y + v - 1)) := by
  rw [Bool.eq_iff_iff, hpB_iff, Bool.and_eq_true, rng_iff, rng_iff]; omega
end Go.Proofs.Ytignigcknfklkab
namespace Go.Proofs.Ytignigcknfklkab
def meetB (x y u v x' y' u' v' : Int) : Bool := vr x y u v && vr x' y' u' v' && hitB x y u v x' y' u' v'
theorem meetB_yes {x y u v x' y' u' v' : Int} (h : meetB x y u v x' y' u' v' = true) : vr x y u v = true ∧ vr x' y' u' v' = true ∧ hitB x y u v x' y' u' v' = true := by
  simp only [meetB, Bool.and_eq_true] at h; exact ⟨h.1.1, h.1.2, h.2⟩
theorem meetB_hit {x y u v x' y' u' v' : Int} (h : meetB x y u v x' y' u' v' = false) (h1 : vr x y u v = true) (h2 : vr x' y' u' v' = true) : hitB x y u v x' y' u' v' = false := by
  simpa [meetB, h1, h2] using h
def covB (x y u v x' y' u' v' : Int) : Bool := vr (mn x x') (mn y y') (mx (x + u) (x' + u') - mn x x') (mx (y + v) (y' + v') - mn y y')
def coverB (x y u v x' y' u' v' : Int) : Bool := vr x y u v && vr x' y' u' v' && covB x y u v x' y' u' v'
theorem coverB_yes {x y u v x' y' u' v' : Int} (h : coverB x y u v x' y' u' v' = true) : vr x y u v = true ∧ vr x' y' u' v' = true ∧ vr (mn x x') (mn y y') (mx (x + u) (x' + u') - mn x x') (mx (y + v) (y' + v') - mn y y') = true := by
  simp only [coverB, Bool.and_eq_true] at h; exact ⟨h.1.1, h.1.2, h.2⟩
theorem coverB_no {x y u v x' y' u' v' : Int} (h : coverB x y u v x' y' u' v' = false) (h1 : vr x y u v = true) (h2 : vr x' y' u' v' = true) : vr (mn x x') (mn y y') (mx (x + u) (x' + u') - mn x x') (mx (y + v) (y' + v') - mn y y') = false := by
  simpa [coverB, covB, h1, h2] using h
theorem cover_bds {x y u v x' y' u' v' : Int} (h1 : vr x y u v = true) (h2 : vr x' y' u' v' = true) : -1000 ≤ mn x x' ∧ mn x x' ≤ 1000 ∧ -1000 ≤ mn y y' ∧ mn y y' ≤ 1000 ∧ -1000 ≤ mx (x + u) (x' + u') ∧ mx (x + u) (x' + u') ≤ 1000 ∧ -1000 ≤ mx (y + v) (y' + v') ∧ mx (y + v) (y' + v') ≤ 1000 := by
  rw [vr_iff] at h1 h2
  obtain ⟨m1, m2⟩ := mn_bd (a := x) (b := x') (-1000) 1000 (by omega) (by omega) (by omega) (by omega)
  obtain ⟨m3, m4⟩ := mn_bd (a := y) (b := y') (-1000) 1000 (by omega) (by omega) (by omega) (by omega)
  obtain ⟨m5, m6⟩ := mx_bd (a := x + u) (b := x' + u') (-1000) 1000 (by omega) (by omega) (by omega) (by omega)
  obtain ⟨m7, m8⟩ := mx_bd (a := y + v) (b := y' + v') (-1000) 1000 (by omega) (by omega) (by omega) (by omega)
  exact ⟨m1, m2, m3, m4, m5, m6, m7, m8⟩
def insB (x y u v x' y' u' v' : Int) : Bool := decide (x ≤ x' ∧ y ≤ y' ∧ x' + u' ≤ x + u ∧ y' + v' ≤ y + v)
theorem insB_iff {x y u v x' y' u' v' : Int} : insB x y u v x' y' u' v' = true ↔ (x ≤ x' ∧ y ≤ y' ∧ x' + u' ≤ x + u ∧ y' + v' ≤ y + v) := by simp only [insB, decide_eq_true_eq]
theorem insB_not {x y u v x' y' u' v' : Int} : insB x y u v x' y' u' v' = false ↔ ¬ (x ≤ x' ∧ y ≤ y' ∧ x' + u' ≤ x + u ∧ y' + v' ≤ y + v) := by unfold insB; exact decide_eq_false_iff_not
theorem holds_eq {x y u v x' y' u' v' : Int} (h1 : vr x y u v = true) (h2 : vr x' y' u' v' = true) :
    (mn x x' = x ∧ mn y y' = y ∧ mx (x + u) (x' + u') - mn x x' = u ∧ mx (y + v) (y' + v') - mn y y' = v) ↔ (x ≤ x' ∧ y ≤ y' ∧ x' + u' ≤ x + u ∧ y' + v' ≤ y + v) := by
  have := mn_spec x x'; have := mn_spec y y'; have := mx_spec (x + u) (x' + u'); have := mx_spec (y + v) (y' + v')
  omega
end Go.Proofs.Ytignigcknfklkab
end
section
set_option linter.unusedVariables false
namespace Go.Proofs.Ytignigcknfklkab
def mvB (x y u v p q : Int) : Bool := vr x y u v && rng p (-1000) 1000 && rng q (-1000) 1000 && vr (x + p) (y + q) u v
theorem mvB_yes {x y u v p q : Int} (h : mvB x y u v p q = true) : vr x y u v = true ∧ rng p (-1000) 1000 = true ∧ rng q (-1000) 1000 = true ∧ vr (x + p) (y + q) u v = true := by
  simp only [mvB, Bool.and_eq_true] at h; exact ⟨h.1.1.1, h.1.1.2, h.1.2, h.2⟩
theorem mvB_no {x y u v p q : Int} (h : mvB x y u v p q = false) (h1 : vr x y u v = true) (h2 : rng p (-1000) 1000 = true) (h3 : rng q (-1000) 1000 = true) : vr (x + p) (y + q) u v = false := by
  simpa [mvB, h1, h2, h3] using h
def inB (x y u v p q : Int) : Bool := vr x y u v && rng p 0 10 && rng q 0 10
theorem inB_yes {x y u v p q : Int} (h : inB x y u v p q = true) : vr x y u v = true ∧ rng p 0 10 = true ∧ rng q 0 10 = true := by
  simp only [inB, Bool.and_eq_true] at h; exact ⟨h.1.1, h.1.2, h.2⟩
theorem inB_no {x y u v p q : Int} (h : inB x y u v p q = false) (h1 : vr x y u v = true) (h2 : rng p 0 10 = true) : rng q 0 10 = false := by
  simpa [inB, h1, h2] using h
theorem mx_comm (a b : Int) : mx a b = mx b a := by unfold mx; split <;> split <;> omega
theorem in_bds {x y u v p q : Int} (h : inB x y u v p q = true) : 0 ≤ mn p (u / 2) ∧ mn p (u / 2) ≤ 10 ∧ 0 ≤ mn q (v / 2) ∧ mn q (v / 2) ≤ 10 ∧ 0 ≤ mx (u - 2 * p) 0 ∧ mx (u - 2 * p) 0 ≤ 400 ∧ 0 ≤ mx (v - 2 * q) 0 ∧ mx (v - 2 * q) 0 ≤ 400 := by
  obtain ⟨h1, h2, h3⟩ := inB_yes h
  rw [vr_iff] at h1; rw [rng_iff] at h2 h3
  have := mn_spec p (u / 2); have := mn_spec q (v / 2); have := mx_spec (u - 2 * p) 0; have := mx_spec (v - 2 * q) 0
  omega
def anB (x y u v p q k : Int) : Bool := vr x y u v && rng p 0 400 && rng q 0 400 && rng k 0 8
theorem anB_yes {x y u v p q k : Int} (h : anB x y u v p q k = true) : vr x y u v = true ∧ rng p 0 400 = true ∧ rng q 0 400 = true ∧ rng k 0 8 = true := by
  simp only [anB, Bool.and_eq_true] at h; exact ⟨h.1.1.1, h.1.1.2, h.1.2, h.2⟩
theorem anB_no {x y u v p q k : Int} (h : anB x y u v p q k = false) (h1 : vr x y u v = true) (h2 : rng p 0 400 = true) (h3 : rng q 0 400 = true) : rng k 0 8 = false := by
  simpa [anB, h1, h2, h3] using h
def ctB (x y u v s n : Int) : Bool := vr x y u v && rng s 0 3 && rng n 0 400
theorem ctB_yes {x y u v s n : Int} (h : ctB x y u v s n = true) : vr x y u v = true ∧ rng s 0 3 = true ∧ rng n 0 400 = true := by
  simp only [ctB, Bool.and_eq_true] at h; exact ⟨h.1.1, h.1.2, h.2⟩
theorem ctB_no {x y u v s n : Int} (h : ctB x y u v s n = false) (h1 : vr x y u v = true) (h2 : rng s 0 3 = true) : rng n 0 400 = false := by
  simpa [ctB, h1, h2] using h
end Go.Proofs.Ytignigcknfklkab
namespace Go.Proofs.Ytignigcknfklkab
theorem area_bds {x y u v : Int} (h : vr x y u v = true) : 0 ≤ u * v ∧ u * v ≤ 160000 := by
  obtain ⟨a1, a2, a3, a4, _⟩ := vr_iff.1 h
  exact ⟨Int.mul_nonneg a1 a3, Int.le_trans (Int.mul_le_mul a2 a4 a3 (by omega)) (by omega)⟩
end Go.Proofs.Ytignigcknfklkab
namespace Go.Proofs.Ytignigcknfklkab
theorem prod_bds {a b : Int} (h1 : 0 ≤ a) (h2 : a ≤ 400) (h3 : 0 ≤ b) (h4 : b ≤ 2) : 0 ≤ a * b ∧ a * b ≤ 800 :=
  ⟨Int.mul_nonneg h1 h3, Int.le_trans (Int.mul_le_mul h2 h4 h3 (by omega)) (by omega)⟩
theorem an_bds {x y u v p q k : Int} (h : anB x y u v p q k = true) : 0 ≤ mn p u ∧ mn p u ≤ u ∧ 0 ≤ mn q v ∧ mn q v ≤ v ∧ 0 ≤ k % 3 ∧ k % 3 ≤ 2 ∧ 0 ≤ k / 3 ∧ k / 3 ≤ 2 ∧ 0 ≤ (u - mn p u) * (k % 3) ∧ (u - mn p u) * (k % 3) ≤ 800 ∧ 0 ≤ (v - mn q v) * (k / 3) ∧ (v - mn q v) * (k / 3) ≤ 800 := by
  obtain ⟨h1, h2, h3, h4⟩ := anB_yes h
  rw [vr_iff] at h1; rw [rng_iff] at h2 h3 h4
  have g1 := mn_spec p u; have g2 := mn_spec q v
  have e1 := prod_bds (a := u - mn p u) (b := k % 3) (by omega) (by omega) (by omega) (by omega)
  have e2 := prod_bds (a := v - mn q v) (b := k / 3) (by omega) (by omega) (by omega) (by omega)
  omega
end Go.Proofs.Ytignigcknfklkab
end
section
namespace Go.Proofs.Ytignigcknfklkab
open Go.RowKit
set_option linter.unusedVariables false
set_option maxHeartbeats 1000000
/-- the sum of a list -/
def sumI : List Int → Int
  | [] => 0
  | x :: t => x + sumI t
theorem sumI_append : ∀ (A B : List Int), sumI (A ++ B) = sumI A + sumI B
  | [], B => by simp [sumI]
  | x :: t, B => by simp [sumI, sumI_append t B]; omega
theorem sumI_snoc {L : List Int} {k : Nat} {x : Int} (h : L[k]? = some x) : sumI (L.take (k + 1)) = sumI (L.take k) + x := by
  obtain ⟨hk, e⟩ := List.getElem?_eq_some_iff.1 h
  rw [List.take_succ_eq_append_getElem hk, sumI_append, e]
  simp [sumI]
theorem sumI_bd {lo hi : Int} : ∀ {L : List Int}, (∀ x ∈ L, lo ≤ x ∧ x ≤ hi) → lo * L.length ≤ sumI L ∧ sumI L ≤ hi * L.length
  | [], _ => by simp [sumI]
  | x :: t, h => by
    have h1 := sumI_bd (L := t) (fun q hq => h q (List.mem_cons_of_mem _ hq))
    have h2 := h x List.mem_cons_self
    simp only [sumI, List.length_cons]
    have e1 : lo * ((t.length + 1 : Nat) : Int) = lo * t.length + lo := by rw [Int.natCast_succ, Int.mul_add, Int.mul_one]
    have e2 : hi * ((t.length + 1 : Nat) : Int) = hi * t.length + hi := by rw [Int.natCast_succ, Int.mul_add, Int.mul_one]
    rw [e1, e2]; omega
/-- all numbers are small -/
def Smal (M : Int) (L : List Int) : Prop := ∀ k, -M ≤ sumI (L.take k) ∧ sumI (L.take k) ≤ M
theorem smal_of {b M : Int} {L : List Int} (h : ∀ x ∈ L, -b ≤ x ∧ x ≤ b) (hb : 0 ≤ b) (hl : b * L.length ≤ M) : Smal M L := fun k => by
  have := sumI_bd (L := L.take k) (fun x hx => h x (List.mem_of_mem_take hx))
  have hk : ((L.take k).length : Int) ≤ L.length := by rw [List.length_take]; omega
  have h1 : b * ((L.take k).length : Int) ≤ b * L.length := Int.mul_le_mul_of_nonneg_left hk hb
  have h2 : -b * ((L.take k).length : Int) = -(b * ((L.take k).length : Int)) := by rw [Int.neg_mul]
  rw [h2] at this
  omega
/-- a slice that reads as this list of numbers -/
structure NV (w : World) (A : Option Addr) (L : List Int) : Prop where
  cells : 0 < L.length → ∃ b off, A = some ⟨b, off, none⟩ ∧ b < w.heap.size ∧ ∀ i x, L[i]? = some x → w.cell? ⟨b, off + i, none⟩ = some (.int .i64 x)
theorem NV.keep {w w' : World} {A : Option Addr} {L : List Int} (h : NV w A L) (hb : Below w.heap.size w w') : NV w' A L :=
  ⟨fun h0 => let ⟨b, off, e, hl, hp⟩ := h.cells h0; ⟨b, off, e, Nat.lt_of_lt_of_le hl hb.size, fun i x hx => (hb.cell (p := ⟨b, off + i, none⟩) hl).trans (hp i x hx)⟩⟩
theorem NV.nil (w : World) (A : Option Addr) : NV w A [] := ⟨fun h => absurd h (by simp)⟩
/-- a part of it, from one index up to another -/
theorem NV.sub {w : World} {b off : Nat} {L : List Int} (hb : b < w.heap.size) (h : ∀ i x, L[i]? = some x → w.cell? ⟨b, off + i, none⟩ = some (.int .i64 x)) (i j : Nat) : NV w (some ⟨b, off + i, none⟩) ((L.drop i).take j) :=
  ⟨fun _ => ⟨b, off + i, rfl, hb, fun k x hx => by
    rw [List.getElem?_take] at hx
    split at hx
    · rw [List.getElem?_drop] at hx
      have := h (i + k) x hx
      rwa [← Nat.add_assoc] at this
    · cases hx⟩⟩
def ivals (L : List Int) : Array Value := (L.map (Value.int .i64)).toArray
/-- a block of numbers -/
def IB (w : World) (g : Nat) (L : List Int) : Prop := w.heap[g]? = some (.cells (ivals L) 3 (0, 0))
theorem IB.lt {w : World} {g : Nat} {L : List Int} (h : IB w g L) : g < w.heap.size := (Array.getElem?_eq_some_iff.1 h).1
theorem IB.cell {w : World} {g i : Nat} {L : List Int} {x : Int} (h : IB w g L) (hx : L[i]? = some x) : w.cell? ⟨g, i, none⟩ = some (.int .i64 x) := by
  have h' : w.heap[g]? = some (.cells (ivals L) 3 (0, 0)) := h
  simp [World.cell?, h', ivals, hx]
theorem IB.frozen {w : World} {g : Nat} {L : List Int} (h : IB w g L) (i : Nat) : w.frozen? ⟨g, i, none⟩ = false := by
  have h' : w.heap[g]? = some (.cells (ivals L) 3 (0, 0)) := h
  simp [World.frozen?, h']
theorem IB.keep {w w' : World} {g : Nat} {L : List Int} (h : IB w g L) (hb : Below w.heap.size w w') : IB w' g L := (hb.block g h.lt).trans h
theorem IB.set {w : World} {g : Nat} {L : List Int} (h : IB w g L) (i : Nat) (x : Int) : IB (w.setCell ⟨g, i, none⟩ (.int .i64 x)) g (L.set i x) := by
  have h' : w.heap[g]? = some (.cells (ivals L) 3 (0, 0)) := h
  show _ = _
  simp [World.setCell, Array.getElem?_modify, h', ivals, List.map_set]
theorem IB.nv {w : World} {g : Nat} {L : List Int} (h : IB w g L) : NV w (some ⟨g, 0, none⟩) L :=
  ⟨fun _ => ⟨g, 0, rfl, h.lt, fun i x hx => by rw [Nat.zero_add]; exact h.cell hx⟩⟩
theorem madeI : ∀ (n : Nat) (w : World), n ≤ 1048576 → (Instr.makeSlice 27 (.int .i64 (n : Int)) (.int .i64 (n : Int))).run Try.prog w = .ok (.slice (some ⟨w.heap.size, 0, none⟩) n n) (w.alloc (.cells (ivals (List.replicate n 0)) 3)) := by
  intro n w hn
  have hinfo : (Try.prog.info? 3).map (fun i => (i.zero, i.size, i.bytes)) = some (some (.int .i64 0), 1, 8) := by kernel_rfl
  obtain ⟨i, hi, h1, h2, h3⟩ := info_parts hinfo
  have hr := run_make (P := Try.prog) w 27 3 i _ Try.underlying27 hi h1 .i64 .i64 n n (by omega) (Int.le_refl _) (by rw [h3]; omega) (by omega)
  rw [h2] at hr
  have e : madeCells (Value.int .i64 0).cells (n * 1) = ivals (List.replicate n 0) := by
    apply Array.ext
    · rw [size_madeCells]; simp [ivals]
    · intro i h1 h2
      simp [madeCells, ivals, Value.cells, Nat.mod_one]
  rw [Int.toNat_natCast, e] at hr
  simpa using hr
theorem makeI_b (n : Nat) (w : World) : IB (w.alloc (.cells (ivals (List.replicate n 0)) 3)) w.heap.size (List.replicate n 0) := by
  show (w.heap.push _)[w.heap.size]? = _
  simp
set_option maxRecDepth 100000 in
theorem sum_v (A : Option Addr) (c : Nat) (L : List Int) (w : World) (h : NV w A L) (hL : L.length ≤ 1048576) (hM : Smal 1000000000 L) :
    Calls Try.prog 59 #[.slice A L.length c] w fun e w' => e = .returned (.int .i64 (sumI L)) ∧ w = w' := by
  have HM := Lib.hid hM
  clear hM
  go_enter Try.func59, Try.ntmps59
  go_wp2_with fail
  go_loop [3, 8] (fun s i => ∃ k : Nat, k ≤ L.length ∧ i = .int .i64 k ∧ s = .int .i64 (sumI (L.take k))) (fun _ i => L.length - (intOf i).toNat)
  case atStart => exact ⟨0, by omega, rfl, rfl⟩
  case round =>
    obtain ⟨k, hk, rfl, rfl⟩ := hrel
    by_cases hlt : k < L.length
    · have hd : decide ((k : Int) < (L.length : Int)) = true := by simpa using hlt
      obtain ⟨b, off, rfl, hb, hp⟩ := h.cells (by omega)
      have hget : L[k]? = some L[k] := List.getElem?_eq_getElem hlt
      have c0 := hp k _ hget
      generalize hx : L[k] = x at *
      have hs := sumI_snoc hget
      have b1 := HM.out k
      have b2 := HM.out (k + 1)
      rw [hs] at b2
      obtain ⟨S, hS⟩ : ∃ S, sumI (L.take k) = S := ⟨_, rfl⟩
      rw [hS] at b1 b2 hs
      rw [hS]
      have HS := Lib.hid hs
      clear hs hS hget hx hp
      go_wp2
      go_round
      case rel => exact ⟨k + 1, by omega, by go_num, by rw [HS.out]⟩
      case measure => simp [intOf]; omega
    · have hd : decide ((k : Int) < (L.length : Int)) = false := by simp; omega
      have he : L.take k = L := List.take_of_length_le (by omega)
      rw [he]
      clear he
      go_wp2
      go_ret
      exact ⟨rfl, rfl⟩
set_option maxRecDepth 100000 in
theorem total_v (A : Option Addr) (c : Nat) (L : List Int) (w : World) (h : NV w A L) (hL : L.length ≤ 1048576) (hM : Smal 1000000000 L) :
    Calls Try.prog 63 #[.slice A L.length c] w fun e w' => e = .returned (.int .i64 (sumI L)) ∧ w = w' := by
  have HM := Lib.hid hM
  clear hM
  go_enter Try.func63, Try.ntmps63
  go_wp2_with fail
  go_loop [3, 4] (fun s i => ∃ k : Nat, k ≤ L.length ∧ i = .int .i64 k ∧ s = .int .i64 (sumI (L.take k))) (fun _ i => L.length - (intOf i).toNat)
  case atStart => exact ⟨0, by omega, rfl, rfl⟩
  case round =>
    obtain ⟨k, hk, rfl, rfl⟩ := hrel
    by_cases hlt : k < L.length
    · have hd : decide ((k : Int) < (L.length : Int)) = true := by simpa using hlt
      obtain ⟨b, off, rfl, hb, hp⟩ := h.cells (by omega)
      have hget : L[k]? = some L[k] := List.getElem?_eq_getElem hlt
      have c0 := hp k _ hget
      generalize hx : L[k] = x at *
      have hs := sumI_snoc hget
      have b1 := HM.out k
      have b2 := HM.out (k + 1)
      rw [hs] at b2
      obtain ⟨S, hS⟩ : ∃ S, sumI (L.take k) = S := ⟨_, rfl⟩
      rw [hS] at b1 b2 hs
      rw [hS]
      have HS := Lib.hid hs
      clear hs hS hget hx hp
      go_wp2
      go_round
      case rel => exact ⟨k + 1, by omega, by go_num, by rw [HS.out]⟩
      case measure => simp [intOf]; omega
    · have hd : decide ((k : Int) < (L.length : Int)) = false := by simp; omega
      have he : L.take k = L := List.take_of_length_le (by omega)
      rw [he]
      clear he
      go_wp2
      go_ret
      exact ⟨rfl, rfl⟩
end Go.Proofs.Ytignigcknfklkab
end
section
namespace Go.Proofs.Ytignigcknfklkab
set_option linter.unusedVariables false
/-- each part, without a rest -/
def baseM (n S : Int) (ws : List Int) : List Int := ws.map (fun x => n * x / S)
/-- the first ones that have a weight get 1 more, as many as are missing -/
def onesM : Int → List Int → List Int → List Int
  | m, x :: ws, b :: bs => if 0 < x ∧ 0 < m then (b + 1) :: onesM (m - 1) ws bs else b :: onesM m ws bs
  | _, _, bs => bs
def spreadM (n : Int) (ws : List Int) : List Int :=
  if sumI ws = 0 then (List.replicate ws.length 0).set (ws.length - 1) n
  else onesM (n - sumI (baseM n (sumI ws) ws)) ws (baseM n (sumI ws) ws)
theorem baseM_len (n S : Int) (ws : List Int) : (baseM n S ws).length = ws.length := by simp [baseM]
theorem onesM_len : ∀ {m : Int} {ws bs : List Int}, (onesM m ws bs).length = bs.length
  | m, [], bs => by simp [onesM]
  | m, x :: ws, [] => by simp [onesM]
  | m, x :: ws, b :: bs => by
    unfold onesM
    split <;> simp [onesM_len]
theorem spreadM_len {n : Int} {ws : List Int} : (spreadM n ws).length = ws.length := by
  unfold spreadM
  split
  · simp
  · rw [onesM_len, baseM_len]
theorem onesM_zero : ∀ {m : Int} {ws bs : List Int}, m ≤ 0 → onesM m ws bs = bs
  | m, [], bs, h => by simp [onesM]
  | m, x :: ws, [], h => by simp [onesM]
  | m, x :: ws, b :: bs, h => by
    unfold onesM
    rw [if_neg (by omega), onesM_zero h]
/-- how many have a weight -/
def cntP : List Int → Int
  | [] => 0
  | x :: t => (if 0 < x then 1 else 0) + cntP t
theorem cntP_bd : ∀ ws : List Int, 0 ≤ cntP ws ∧ cntP ws ≤ ws.length
  | [] => by simp [cntP]
  | x :: t => by
    have := cntP_bd t
    simp only [cntP, List.length_cons]
    split <;> omega
theorem sumI_nonneg {L : List Int} (h : ∀ x ∈ L, 0 ≤ x) : 0 ≤ sumI L := by
  induction L with
  | nil => exact Int.le_refl _
  | cons x t ih =>
    have h1 := h x List.mem_cons_self
    have h2 := ih (fun q hq => h q (List.mem_cons_of_mem _ hq))
    simp only [sumI]; omega
theorem mul_sum (n : Int) : ∀ ws : List Int, n * sumI ws = sumI (ws.map (fun x => n * x))
  | [] => by simp [sumI]
  | x :: t => by simp only [sumI, List.map_cons, Int.mul_add, mul_sum n t]
/-- what the parts without a rest leave: at least 0, and less than the positive weights are many, or 0 -/
theorem left_bd {n S : Int} (hn : 0 ≤ n) (hS : 0 < S) : ∀ {ws : List Int}, (∀ x ∈ ws, 0 ≤ x) → 0 ≤ n * sumI ws - S * sumI (baseM n S ws) ∧ n * sumI ws - S * sumI (baseM n S ws) ≤ (S - 1) * cntP ws
  | [], _ => by simp [sumI, baseM, cntP]
  | x :: t, h => by
    have ih := left_bd hn hS (ws := t) (fun q hq => h q (List.mem_cons_of_mem _ hq))
    have hx := h x List.mem_cons_self
    have e := Int.mul_ediv_add_emod (n * x) S
    have r0 := Int.emod_nonneg (n * x) (show S ≠ 0 by omega)
    have r1 := Int.emod_lt_of_pos (n * x) hS
    have eb : sumI (baseM n S (x :: t)) = n * x / S + sumI (baseM n S t) := rfl
    rw [eb]
    simp only [sumI, cntP, Int.mul_add]
    generalize n * x / S = q at *
    generalize (n * x) % S = r at *
    generalize n * sumI t = u at *
    generalize S * sumI (baseM n S t) = v at *
    generalize (S - 1) * cntP t = z at *
    by_cases hp : 0 < x
    · simp only [if_pos hp, Int.mul_one]
      omega
    · have hx0 : x = 0 := by omega
      subst hx0
      simp only [Int.mul_zero] at e ⊢
      simp only [Int.lt_irrefl, if_false, Int.mul_zero]
      have hsq : S * q = 0 ∨ S * q ≠ 0 := by omega
      have hr : r = 0 := by
        have : S * q + r = 0 := e
        rcases Int.lt_or_le q 0 with hq | hq
        · have : S * q ≤ S * (-1) := Int.mul_le_mul_of_nonneg_left (by omega) (by omega)
          omega
        · have : 0 ≤ S * q := Int.mul_nonneg (by omega) hq
          omega
      omega
theorem miss_bd {n : Int} {ws : List Int} (hn : 0 ≤ n) (h : ∀ x ∈ ws, 0 ≤ x) (hS : sumI ws ≠ 0) : 0 ≤ n - sumI (baseM n (sumI ws) ws) ∧ n - sumI (baseM n (sumI ws) ws) ≤ cntP ws := by
  have h0 := sumI_nonneg h
  have hS' : 0 < sumI ws := by omega
  obtain ⟨a1, a2⟩ := left_bd hn hS' h
  have hc := (cntP_bd ws).1
  generalize sumI (baseM n (sumI ws) ws) = B at *
  generalize hs : sumI ws = S at *
  have e : n * S - S * B = S * (n - B) := by rw [Int.mul_sub, Int.mul_comm n S]
  rw [e] at a1 a2
  have e2 : (S - 1) * cntP ws = S * cntP ws - cntP ws := by rw [Int.sub_mul, Int.one_mul]
  rw [e2] at a2
  generalize cntP ws = C at *
  constructor
  · rcases Int.lt_or_le (n - B) 0 with hq | hq
    · have : S * (n - B) ≤ S * (-1) := Int.mul_le_mul_of_nonneg_left (by omega) (by omega)
      omega
    · exact hq
  · rcases Int.lt_or_le C (n - B) with hq | hq
    · have : S * (C + 1) ≤ S * (n - B) := Int.mul_le_mul_of_nonneg_left (by omega) (by omega)
      rw [Int.mul_add, Int.mul_one] at this
      omega
    · exact hq
theorem base_bd {n S x : Int} (hn : 0 ≤ n) (hS : 0 < S) (h0 : 0 ≤ x) (hx : x ≤ S) : 0 ≤ n * x / S ∧ n * x / S ≤ n := by
  refine ⟨Int.ediv_nonneg (Int.mul_nonneg hn h0) (by omega), ?_⟩
  have h1 : n * x ≤ n * S := Int.mul_le_mul_of_nonneg_left hx hn
  have h2 := Int.ediv_le_ediv hS h1
  rwa [Int.mul_ediv_cancel _ (by omega)] at h2
theorem mem_le_sum : ∀ {ws : List Int}, (∀ x ∈ ws, 0 ≤ x) → ∀ x ∈ ws, x ≤ sumI ws
  | [], _, x, hx => by cases hx
  | y :: t, h, x, hx => by
    have h1 := h y List.mem_cons_self
    have h2 := sumI_nonneg (L := t) (fun q hq => h q (List.mem_cons_of_mem _ hq))
    simp only [sumI]
    rcases List.mem_cons.1 hx with rfl | hx
    · omega
    · have := mem_le_sum (ws := t) (fun q hq => h q (List.mem_cons_of_mem _ hq)) x hx
      omega
end Go.Proofs.Ytignigcknfklkab
end
section
namespace Go.Proofs.Ytignigcknfklkab
open Go.RowKit
set_option linter.unusedVariables false
set_option maxHeartbeats 1000000
/-- weights of lines -/
def wsOK (ws : List Int) : Prop := (∀ x ∈ ws, 0 ≤ x ∧ x ≤ 5) ∧ 1 ≤ ws.length ∧ ws.length ≤ 5
theorem wsOK.sum {ws : List Int} (h : wsOK ws) : 0 ≤ sumI ws ∧ sumI ws ≤ 25 := by
  have := sumI_bd h.1
  have := h.2.2
  omega
theorem wsOK.smal {ws : List Int} (h : wsOK ws) : Smal 1000000000 ws := smal_of (b := 5) (fun x hx => by have := h.1 x hx; omega) (by omega) (by have := h.2.2; omega)
theorem wsOK.nn {ws : List Int} (h : wsOK ws) : ∀ x ∈ ws, 0 ≤ x := fun x hx => (h.1 x hx).1
theorem base_get {n S : Int} {ws : List Int} {k : Nat} {x : Int} (h : ws[k]? = some x) : (baseM n S ws)[k]? = some (n * x / S) := by
  simp [baseM, h]
/-- so far, and 0 -/
def mixM (B : List Int) (k : Nat) : List Int := B.take k ++ List.replicate (B.length - k) 0
theorem mixM_zero (B : List Int) : mixM B 0 = List.replicate B.length 0 := by simp [mixM]
theorem mixM_all (B : List Int) : mixM B B.length = B := by simp [mixM]
theorem mixM_set {B : List Int} {k : Nat} {b : Int} (h : B[k]? = some b) : (mixM B k).set k b = mixM B (k + 1) := by
  obtain ⟨hk, e⟩ := List.getElem?_eq_some_iff.1 h
  unfold mixM
  rw [List.set_append_right _ _ (by rw [List.length_take]; omega)]
  have h1 : B.length - k = (B.length - (k + 1)) + 1 := by omega
  rw [h1, List.replicate_succ]
  have h2 : k - (B.take k).length = 0 := by rw [List.length_take]; omega
  rw [h2, List.set_cons_zero, List.take_succ_eq_append_getElem hk, e]
  simp
theorem mixM_get {B : List Int} {k : Nat} (hk : k < B.length) : ∃ x, (mixM B k)[k]? = some x := by
  unfold mixM
  rw [List.getElem?_append_right (by rw [List.length_take]; omega)]
  have : k - (B.take k).length = 0 := by rw [List.length_take]; omega
  rw [this]
  exact ⟨0, by rw [List.getElem?_replicate, if_pos (by omega)]⟩
theorem mixM_get' {B : List Int} {k : Nat} {b : Int} (h : B[k]? = some b) : (mixM B (k + 1))[k]? = some b := by
  obtain ⟨hk, e⟩ := List.getElem?_eq_some_iff.1 h
  unfold mixM
  rw [List.getElem?_append_left (by rw [List.length_take]; omega), List.getElem?_take, if_pos (by omega), h]
theorem smal_base {n : Int} {ws : List Int} (hn : 0 ≤ n) (hn2 : n ≤ 100000) (h : wsOK ws) (hS : sumI ws ≠ 0) : Smal 1000000000 (baseM n (sumI ws) ws) := by
  refine smal_of (b := 100000) (fun x hx => ?_) (by omega) (by rw [baseM_len]; have := h.2.2; omega)
  obtain ⟨y, hy, rfl⟩ := List.mem_map.1 hx
  have h0 := h.sum
  have := base_bd (n := n) (S := sumI ws) (x := y) hn (by omega) (h.nn y hy) (mem_le_sum h.nn y hy)
  omega
theorem last_set {n : Int} {ws : List Int} {j : Nat} (hj : ws.length = j + 1) (h0 : sumI ws = 0) : (List.replicate ws.length (0 : Int)).set j n = spreadM n ws := by
  unfold spreadM
  rw [if_pos h0]
  congr 1
  omega
theorem wadd_mul {n x : Int} (hn : 0 ≤ n) (hn2 : n ≤ 100000) (h0 : 0 ≤ x) (h5 : x ≤ 5) : 0 ≤ n * x ∧ n * x ≤ 500000 :=
  ⟨Int.mul_nonneg hn h0, Int.le_trans (Int.mul_le_mul hn2 h5 h0 (by omega)) (by omega)⟩
theorem drop_consI {L : List Int} {k : Nat} {p : Int} (h : L[k]? = some p) : L.drop k = p :: L.drop (k + 1) := by
  have hk := (List.getElem?_eq_some_iff.1 h).1
  have e := (List.getElem?_eq_some_iff.1 h).2
  rw [List.drop_eq_getElem_cons hk, e]
theorem set_here {P R : List Int} {k : Nat} {y z : Int} (h : P.length = k) : (P ++ y :: R).set k z = P ++ z :: R := by
  rw [List.set_append_right _ _ (by omega)]
  have : k - P.length = 0 := by omega
  rw [this, List.set_cons_zero]
theorem onesM_nil (m : Int) (ws : List Int) : onesM m ws [] = [] := by cases ws <;> simp [onesM]
theorem sum_n (A : Option Addr) (c n : Nat) (L : List Int) (w : World) (h : NV w A L) (hn : n = L.length) (hL : n ≤ 1048576) (hM : Smal 1000000000 L) :
    Calls Try.prog 59 #[.slice A n c] w fun e w' => e = .returned (.int .i64 (sumI L)) ∧ w = w' := by subst hn; exact sum_v A c L w h hL hM
theorem total_n (A : Option Addr) (c n : Nat) (L : List Int) (w : World) (h : NV w A L) (hn : n = L.length) (hL : n ≤ 1048576) (hM : Smal 1000000000 L) :
    Calls Try.prog 63 #[.slice A n c] w fun e w' => e = .returned (.int .i64 (sumI L)) ∧ w = w' := by subst hn; exact total_v A c L w h hL hM
set_option maxRecDepth 100000 in
theorem spread_v (A : Option Addr) (c : Nat) (n : Int) (ws : List Int) (w : World) (h : NV w A ws) (hw : wsOK ws) (hn : 0 ≤ n) (hn2 : n ≤ 100000) :
    Calls Try.prog 90 #[.int .i64 n, .slice A ws.length c] w fun e w' => e = .returned (.slice (some ⟨w.heap.size, 0, none⟩) ws.length ws.length) ∧ IB w' w.heap.size (spreadM n ws) ∧ Below w.heap.size w w' := by
  obtain ⟨hw1, hw2, hw3⟩ := id hw
  obtain ⟨hs0, hs1⟩ := hw.sum
  have hmk : ∀ w : World, (Instr.makeSlice 27 (.int .i64 (ws.length : Int)) (.int .i64 (ws.length : Int))).run Try.prog w = .ok (.slice (some ⟨w.heap.size, 0, none⟩) ws.length ws.length) (w.alloc (.cells (ivals (List.replicate ws.length 0)) 3)) := fun w => madeI ws.length w (by omega)
  have HW := Lib.hid hw
  have HW1 := Lib.hid hw1
  obtain ⟨j, hj⟩ : ∃ j, ws.length = j + 1 := ⟨ws.length - 1, by omega⟩
  have HJ := Lib.hid hj
  clear hw1 hw hj
  go_enter Try.func90, Try.ntmps90
  go_wp2_with fail
  have hI0 := makeI_b ws.length w
  have hB0 : Below w.heap.size w (w.alloc (.cells (ivals (List.replicate ws.length 0)) 3)) := balloc (Below.refl _ _)
  obtain ⟨W, hWe⟩ : ∃ W, w.alloc (.cells (ivals (List.replicate ws.length 0)) 3) = W := ⟨_, rfl⟩
  rw [hWe] at hI0 hB0 ⊢
  have HI := Lib.hid hI0
  have HB := Lib.hid hB0
  have HNW := Lib.hid (h.keep hB0)
  clear hWe hI0 hB0 hmk
  with_reducible refine (sum_v A c ws _ HNW.out (by omega) HW.out.smal).mono ?_
  rintro e w1 ⟨rfl, rfl⟩
  by_cases hS : sumI ws = 0
  · have hz : (sumI ws == 0) = true := by simpa using hS
    have hsp := last_set (n := n) (by rw [HJ.out] : ws.length = j + 1) hS
    have e1 : (ws.length : Int) - 1 = (j : Int) := by have := HJ.out; omega
    have e2 : IntKind.i64.wrap ((ws.length : Int) - 1) = (j : Int) := by rw [e1]; exact IntWalk.i64_in _ (by omega)
    have hjl : j < ws.length := by have := HJ.out; omega
    have c0 := HI.out.cell (i := j) (x := 0) (by simp [hjl])
    have f0 := HI.out.frozen j
    have HF := Lib.hid (show IB (W.setCell ⟨w.heap.size, j, none⟩ (.int .i64 n)) w.heap.size (spreadM n ws) by have := HI.out.set j n; rwa [hsp] at this)
    have HB2 := Lib.hid (HB.out.setCell (p := ⟨w.heap.size, j, none⟩) (Nat.le_refl _) (.int .i64 n))
    clear hS hsp HI HB
    go_wp2
    go_ret
    exact ⟨rfl, HF.out, HB2.out⟩
  · have hz : (sumI ws == 0) = false := by simpa using hS
    obtain ⟨S, hSe⟩ : ∃ S, sumI ws = S := ⟨_, rfl⟩
    have hS1 : 0 < S := by omega
    have hS2 : S ≤ 25 := by omega
    have hbl := baseM_len n S ws
    have hmb := miss_bd hn HW.out.nn hS
    have hsm := smal_base hn hn2 HW.out hS
    have hsp : spreadM n ws = onesM (n - sumI (baseM n S ws)) ws (baseM n S ws) := by unfold spreadM; rw [if_neg hS, hSe]
    rw [hSe] at hz hmb hsm
    have hcb := cntP_bd ws
    have HSP := Lib.hid hsp
    have HMB := Lib.hid hmb
    have HSM := Lib.hid hsm
    have HSE := Lib.hid hSe
    have HBL := Lib.hid hbl
    rw [hSe]
    have hI0 : IB W w.heap.size (mixM (baseM n S ws) 0) := by rw [mixM_zero, hbl]; exact HI.out
    have HI0 := Lib.hid hI0
    have hcb2 : cntP ws ≤ 5 := by omega
    have hcb1 : 0 ≤ cntP ws := by omega
    clear hS hsp hmb hsm hbl hSe HI hI0 hs0 hs1 hcb
    go_wp2_with fail
    go_loopw [26] (fun i wr => ∃ k : Nat, k ≤ ws.length ∧ i = .int .i64 k ∧ IB wr w.heap.size (mixM (baseM n S ws) k) ∧ Below w.heap.size w wr) (fun i _ => ws.length - (intOf i).toNat)
    case atStart => exact ⟨0, by omega, rfl, HI0.out, HB.out⟩
    case round =>
      obtain ⟨k, hk, rfl, hI, hBr⟩ := hrel
      clear HI0
      by_cases hlt : k < ws.length
      · have hd : decide ((k : Int) < (ws.length : Int)) = true := by simpa using hlt
        obtain ⟨b, off, rfl, hb, hp⟩ := (h.keep hBr).cells (by omega)
        have hget : ws[k]? = some ws[k] := List.getElem?_eq_getElem hlt
        have c0 := hp k _ hget
        have hx01 := HW1.out _ (List.getElem_mem hlt)
        generalize hx : ws[k] = x at *
        obtain ⟨hx0, hx1⟩ := hx01
        obtain ⟨hm0, hm1⟩ := wadd_mul hn hn2 hx0 hx1
        have hbk := base_get (n := n) (S := S) hget
        obtain ⟨y, hy⟩ := mixM_get (B := baseM n S ws) (k := k) (by rw [HBL.out]; exact hlt)
        have d0 := hI.cell hy
        have f0 := hI.frozen k
        have hI2 := hI.set k (n * x / S)
        rw [mixM_set hbk] at hI2
        have HI2 := Lib.hid hI2
        have HB2 := Lib.hid (hBr.setCell (p := ⟨w.heap.size, k, none⟩) (Nat.le_refl _) (.int .i64 (n * x / S)))
        clear hI hI2 hBr hp hget hx hy hbk
        go_wp2
        go_roundw
        case rel => exact ⟨k + 1, by omega, by go_num, HI2.out, HB2.out⟩
        case measure => simp [intOf]; omega
      · have hd : decide ((k : Int) < (ws.length : Int)) = false := by simp; omega
        obtain rfl : k = ws.length := by omega
        rw [← HBL.out, mixM_all] at hI
        have HIB := Lib.hid hI
        have HBR := Lib.hid hBr
        clear hI hBr
        go_wp2_with fail
        with_reducible refine (sum_n _ ws.length ws.length (baseM n S ws) _ HIB.out.nv HBL.out.symm (by omega) HSM.out).mono ?_
        rintro e w2 ⟨rfl, rfl⟩
        obtain ⟨m, hm⟩ : ∃ m, n - sumI (baseM n S ws) = m := ⟨_, rfl⟩
        have hmb := HMB.out
        rw [hm] at hmb
        obtain ⟨hm0, hm1⟩ := hmb
        have hmw : IntKind.i64.wrap (n - sumI (baseM n S ws)) = m := by rw [hm]; exact IntWalk.i64_in _ (by omega)
        have hsp := HSP.out
        rw [hm] at hsp
        have HSP2 := Lib.hid hsp
        have hcc : m ≤ 5 := by omega
        clear HSP hsp HMB hm
        go_wp2_with fail
        go_loopw [8, 47] (fun mv i wr => ∃ (k : Nat) (m' : Int) (P : List Int), k ≤ ws.length ∧ i = .int .i64 k ∧ mv = .int .i64 m' ∧ P.length = k ∧ m' ≤ 5 ∧ IB wr w.heap.size (P ++ (baseM n S ws).drop k) ∧ P ++ onesM m' (ws.drop k) ((baseM n S ws).drop k) = spreadM n ws ∧ Below w.heap.size w wr) (fun _ i _ => ws.length - (intOf i).toNat)
        case atStart => exact ⟨0, m, [], by omega, rfl, rfl, rfl, hcc, by simpa using HIB.out, by simpa using HSP2.out.symm, HBR.out⟩
        case round =>
          obtain ⟨k, m', P, hk, rfl, rfl, hP, hm5, hI, hf, hBr⟩ := hrel
          clear HIB HBR HSP2 hmw hm0 hm1 hcc
          by_cases hlt : k < ws.length
          · have hd : decide ((k : Int) < (ws.length : Int)) = true := by simpa using hlt
            obtain ⟨b, off, rfl, hb, hp⟩ := (h.keep hBr).cells (by omega)
            have hget : ws[k]? = some ws[k] := List.getElem?_eq_getElem hlt
            have c0 := hp k _ hget
            have hx01 := HW1.out _ (List.getElem_mem hlt)
            have hbk := base_get (n := n) (S := S) hget
            have hdw := drop_consI hget
            generalize hx : ws[k] = x at *
            have hdb := drop_consI hbk
            obtain ⟨hx0, hx1⟩ := hx01
            have hbb : 0 ≤ n * x / S ∧ n * x / S ≤ 500000 := by
              obtain ⟨q0, q1⟩ := wadd_mul hn hn2 hx0 hx1
              exact ⟨Int.ediv_nonneg q0 (by omega), Int.le_trans (Int.ediv_le_self S q0) q1⟩
            generalize n * x / S = y at *
            obtain ⟨hb0, hb1⟩ := hbb
            rw [hdb] at hI hf
            rw [hdw] at hf
            have d0 := hI.cell (i := k) (x := y) (by rw [List.getElem?_append_right (by omega), hP, Nat.sub_self]; rfl)
            have f0 := hI.frozen k
            have HDW := Lib.hid hdw
            by_cases hxp : 0 < x
            · have e1 : decide (x > 0) = true := by simpa using hxp
              have e1' : decide (0 < x) = true := by simpa using hxp
              by_cases hmp : 0 < m'
              · have e2 : decide (m' > 0) = true := by simpa using hmp
                have e2' : decide (0 < m') = true := by simpa using hmp
                rw [onesM, if_pos ⟨hxp, hmp⟩] at hf
                have hI2 := hI.set k (y + 1)
                rw [set_here hP] at hI2
                have HI2 := Lib.hid hI2
                have HF2 := Lib.hid hf
                have HP := Lib.hid hP
                have HB2 := Lib.hid (hBr.setCell (p := ⟨w.heap.size, k, none⟩) (Nat.le_refl _) (.int .i64 (y + 1)))
                have HXP := Lib.hid hxp
                have HMP := Lib.hid hmp
                clear hI hI2 hBr hp hget hx hbk hdb hdw hf hP hxp
                go_wp2
                go_roundw
                case rel => exact ⟨k + 1, m' - 1, P ++ [y + 1], by omega, by go_num, rfl, by simp [HP.out], by omega, by simpa using HI2.out, by simpa using HF2.out, HB2.out⟩
                case measure => simp [intOf]; omega
              · have e2 : decide (m' > 0) = false := by simpa using hmp
                have e2' : decide (0 < m') = false := by simpa using hmp
                rw [onesM, if_neg (by omega)] at hf
                have HI2 := Lib.hid hI
                have HF2 := Lib.hid hf
                have HP := Lib.hid hP
                have HB2 := Lib.hid hBr
                have HXP := Lib.hid hxp
                have HMP := Lib.hid hmp
                clear hI hBr hp hget hx hbk hdb hdw hf hP hxp hmp
                go_wp2
                go_roundw
                case rel => exact ⟨k + 1, m', P ++ [y], by omega, by go_num, rfl, by simp [HP.out], by omega, by simpa using HI2.out, by simpa using HF2.out, HB2.out⟩
                case measure => simp [intOf]; omega
            · have e1 : decide (x > 0) = false := by simpa using hxp
              have e1' : decide (0 < x) = false := by simpa using hxp
              rw [onesM, if_neg (by omega)] at hf
              have HI2 := Lib.hid hI
              have HF2 := Lib.hid hf
              have HP := Lib.hid hP
              have HB2 := Lib.hid hBr
              have HXP := Lib.hid hxp
              clear hI hBr hp hget hx hbk hdb hdw hf hP hxp
              go_wp2
              go_roundw
              case rel => exact ⟨k + 1, m', P ++ [y], by omega, by go_num, rfl, by simp [HP.out], by omega, by simpa using HI2.out, by simpa using HF2.out, HB2.out⟩
              case measure => simp [intOf]; omega
          · have hd : decide ((k : Int) < (ws.length : Int)) = false := by simp; omega
            have hk' : k = ws.length := by omega
            have hdb : (baseM n S ws).drop k = [] := List.drop_eq_nil_of_le (by rw [HBL.out]; omega)
            rw [hdb, onesM_nil, List.append_nil] at hf
            rw [hdb, List.append_nil, hf] at hI
            have HI2 := Lib.hid hI
            have HB2 := Lib.hid hBr
            clear hI hBr hf hdb hP
            go_wp2
            go_ret
            exact ⟨rfl, HI2.out, HB2.out⟩
end Go.Proofs.Ytignigcknfklkab
end
section
namespace Go.Proofs.Ytignigcknfklkab
open Go.RowKit
/-- behind a region that draws its order -/
theorem bdrewn {W w' : World} (h : Below W.drew.heap.size W.drew w') : Below W.heap.size W w' := (Below.refl _ _).drew.trans h
end Go.Proofs.Ytignigcknfklkab
end
section
namespace Go.Proofs.Ytignigcknfklkab
open Go.RowKit
set_option linter.unusedVariables false
set_option maxHeartbeats 1000000
attribute [local go_sem] growUpon_value growUpon_skip growUpon_enter
theorem below_grownI {w w' : World} {B : Nat} {row : Option Nat} (h : w.grownBy w' row) (hr : ∀ g, row = some g → B ≤ g) (hB : B ≤ w.heap.size) : Below B w w' :=
  ⟨h.os, h.tape, h.output, h.size, fun k hk => h.block k (by omega) (fun e => by have := hr k e.symm; omega)⟩
theorem gsetI {w w' : World} {g : Nat} (h : w.grownBy w' (some g)) (o : Nat) (v : Value) : w.grownBy (w'.setCell ⟨g, o, none⟩ v) (some g) :=
  ⟨h.os, h.tape, h.output, by simpa [World.setCell] using h.size, fun k hk hne => (Below.heap_setCell w' ⟨g, o, none⟩ v k (by rintro rfl; exact hne rfl)).trans (h.block k hk hne)⟩
theorem greflI (w : World) (g : Nat) : w.grownBy w (some g) := ⟨rfl, rfl, rfl, Nat.le_refl _, fun _ _ _ => rfl⟩
/-- the value reads as the list -/
def NR (w : World) (v : Value) (L : List Int) : Prop := ∃ A c, v = .slice A L.length c ∧ NV w A L
theorem NR.keep {w w' : World} {v : Value} {L : List Int} (h : NR w v L) (hb : Below w.heap.size w w') : NR w' v L := let ⟨A, c, e, n⟩ := h; ⟨A, c, e, n.keep hb⟩
theorem IB.nr {w : World} {g n : Nat} {L : List Int} (h : IB w g L) (hn : n = L.length) (m : Nat) : NR w (.slice (some ⟨g, 0, none⟩) n m) L := ⟨_, m, by rw [hn], h.nv⟩
theorem IB.but {w w' : World} {g h : Nat} {L : List Int} (hi : IB w h L) (hg : w.grownBy w' (some g)) (hne : h ≠ g) : IB w' h L := (hg.block h hi.lt (fun e => hne (Option.some.inj e))).trans hi
/-- a list in a block that was made from lo on, or none -/
def GI (lo : Nat) (w : World) (v : Value) (L : List Int) : Prop := (v = .slice none 0 0 ∧ L = []) ∨ ∃ g n, v = .slice (some ⟨g, 0, none⟩) n n ∧ n = L.length ∧ lo ≤ g ∧ IB w g L
theorem GI.nr {lo : Nat} {w : World} {v : Value} {L : List Int} (h : GI lo w v L) : NR w v L := by
  rcases h with ⟨rfl, rfl⟩ | ⟨g, n, rfl, hn, _, hk⟩
  · exact ⟨none, 0, rfl, NV.nil _ _⟩
  · exact hk.nr hn n
theorem GI.keep {lo : Nat} {w w' : World} {v : Value} {L : List Int} (h : GI lo w v L) (hb : Below w.heap.size w w') : GI lo w' v L := h.imp id fun ⟨g, n, h1, h2, h3, hk⟩ => ⟨g, n, h1, h2, h3, hk.keep hb⟩
theorem GI.but {lo g0 : Nat} {w w' : World} {v : Value} {L : List Int} (h : GI lo w v L) (hb : w.grownBy w' (some g0)) (hg : g0 < lo) : GI lo w' v L := h.imp id fun ⟨g, n, h1, h2, h3, hk⟩ => ⟨g, n, h1, h2, h3, hk.but hb (by omega)⟩
def MKI (n : Nat) : List Int := (List.range n).map (fun i : Nat => (i : Int) + 1)
theorem MKI_len (n : Nat) : (MKI n).length = n := by simp [MKI]
theorem MKI_get {n k : Nat} (h : k < n) : (MKI n)[k]? = some ((k : Int) + 1) := by simp [MKI, h]
def GIM (w : World) (v : Value) (n : Nat) : Prop := (v = .slice none 0 0 ∧ n = 0) ∨ ∃ g, v = .slice (some ⟨g, 0, none⟩) n n ∧ IB w g (MKI n)
theorem GIM.keep {w w' : World} {v : Value} {n : Nat} (h : GIM w v n) (hb : Below w.heap.size w w') : GIM w' v n := h.imp id fun ⟨g, h1, hk⟩ => ⟨g, h1, hk.keep hb⟩
end Go.Proofs.Ytignigcknfklkab
end
section
namespace Go.Proofs.Ytignigcknfklkab
open Go.RowKit
set_option linter.unusedVariables false
set_option maxHeartbeats 1000000
set_option maxRecDepth 100000 in
theorem sspread_v (A : Option Addr) (c : Nat) (n : Int) (ws : List Int) (w : World) (h : NV w A ws) (hw : wsOK ws) (hn : 0 ≤ n) (hn2 : n ≤ 100000) :
    Calls Try.prog 64 #[.int .i64 n, .slice A ws.length c] w fun e w' => e = .returned (.slice (some ⟨w.heap.size, 0, none⟩) ws.length ws.length) ∧ IB w' w.heap.size (spreadM n ws) ∧ Below w.heap.size w w' := by
  obtain ⟨hw1, hw2, hw3⟩ := id hw
  obtain ⟨hs0, hs1⟩ := hw.sum
  have hmk : ∀ w : World, (Instr.makeSlice 27 (.int .i64 (ws.length : Int)) (.int .i64 (ws.length : Int))).run Try.prog w = .ok (.slice (some ⟨w.heap.size, 0, none⟩) ws.length ws.length) (w.alloc (.cells (ivals (List.replicate ws.length 0)) 3)) := fun w => madeI ws.length w (by omega)
  have HW := Lib.hid hw
  have HW1 := Lib.hid hw1
  obtain ⟨j, hj⟩ : ∃ j, ws.length = j + 1 := ⟨ws.length - 1, by omega⟩
  have HJ := Lib.hid hj
  clear hw1 hw hj
  go_enter Try.func64, Try.ntmps64
  go_wp2_with fail
  have hI0 := makeI_b ws.length w
  have hB0 : Below w.heap.size w (w.alloc (.cells (ivals (List.replicate ws.length 0)) 3)) := balloc (Below.refl _ _)
  obtain ⟨W, hWe⟩ : ∃ W, w.alloc (.cells (ivals (List.replicate ws.length 0)) 3) = W := ⟨_, rfl⟩
  rw [hWe] at hI0 hB0 ⊢
  have HI := Lib.hid hI0
  have HB := Lib.hid hB0
  have HNW := Lib.hid (h.keep hB0)
  clear hWe hI0 hB0 hmk
  with_reducible refine (total_v A c ws _ HNW.out (by omega) HW.out.smal).mono ?_
  rintro e w1 ⟨rfl, rfl⟩
  by_cases hS : sumI ws = 0
  · have hz : (sumI ws == 0) = true := by simpa using hS
    have hsp := last_set (n := n) (by rw [HJ.out] : ws.length = j + 1) hS
    have e1 : (ws.length : Int) - 1 = (j : Int) := by have := HJ.out; omega
    have e2 : IntKind.i64.wrap ((ws.length : Int) - 1) = (j : Int) := by rw [e1]; exact IntWalk.i64_in _ (by omega)
    have hjl : j < ws.length := by have := HJ.out; omega
    have hg0 : decide ((ws.length : Int) > 0) = true := by simp; omega
    have c0 := HI.out.cell (i := j) (x := 0) (by simp [hjl])
    have f0 := HI.out.frozen j
    have HF := Lib.hid (show IB (W.setCell ⟨w.heap.size, j, none⟩ (.int .i64 n)) w.heap.size (spreadM n ws) by have := HI.out.set j n; rwa [hsp] at this)
    have HB2 := Lib.hid (HB.out.setCell (p := ⟨w.heap.size, j, none⟩) (Nat.le_refl _) (.int .i64 n))
    clear hS hsp HI HB
    go_wp2
    go_ret
    exact ⟨rfl, HF.out, HB2.out⟩
  · have hz : (sumI ws == 0) = false := by simpa using hS
    obtain ⟨S, hSe⟩ : ∃ S, sumI ws = S := ⟨_, rfl⟩
    have hS1 : 0 < S := by omega
    have hS2 : S ≤ 25 := by omega
    have hbl := baseM_len n S ws
    have hmb := miss_bd hn HW.out.nn hS
    have hsm := smal_base hn hn2 HW.out hS
    have hsp : spreadM n ws = onesM (n - sumI (baseM n S ws)) ws (baseM n S ws) := by unfold spreadM; rw [if_neg hS, hSe]
    rw [hSe] at hz hmb hsm
    have hcb := cntP_bd ws
    have HSP := Lib.hid hsp
    have HMB := Lib.hid hmb
    have HSM := Lib.hid hsm
    have HSE := Lib.hid hSe
    have HBL := Lib.hid hbl
    rw [hSe]
    have hI0 : IB W w.heap.size (mixM (baseM n S ws) 0) := by rw [mixM_zero, hbl]; exact HI.out
    have HI0 := Lib.hid hI0
    have hcb2 : cntP ws ≤ 5 := by omega
    have hcb1 : 0 ≤ cntP ws := by omega
    clear hS hsp hmb hsm hbl hSe HI hI0 hs0 hs1 hcb
    go_wp2_with fail
    have hsb : ∀ k, k ≤ ws.length → -500000 ≤ sumI ((baseM n S ws).take k) ∧ sumI ((baseM n S ws).take k) ≤ 500000 := fun k hk => by
      have := sumI_bd (lo := 0) (hi := 100000) (L := (baseM n S ws).take k) (fun y hy => by
        obtain ⟨x, hx, rfl⟩ := List.mem_map.1 (List.mem_of_mem_take hy)
        have h1 := mem_le_sum HW.out.nn x hx
        rw [HSE.out] at h1
        have := base_bd (n := n) (S := S) (x := x) hn hS1 (HW.out.nn x hx) h1
        omega)
      have h2 : ((baseM n S ws).take k).length ≤ 5 := by rw [List.length_take, HBL.out]; omega
      omega
    have HSB := Lib.hid hsb
    clear hsb
    go_loopw [7, 8] (fun lv i wr => ∃ k : Nat, k ≤ ws.length ∧ i = .int .i64 k ∧ lv = .int .i64 (n - sumI ((baseM n S ws).take k)) ∧ IB wr w.heap.size (mixM (baseM n S ws) k) ∧ Below w.heap.size w wr) (fun _ i _ => ws.length - (intOf i).toNat)
    case atStart => exact ⟨0, by omega, rfl, by simp [sumI], HI0.out, HB.out⟩
    case round =>
      obtain ⟨k, hk, rfl, rfl, hI, hBr⟩ := hrel
      clear HI0
      by_cases hlt : k < ws.length
      · have hd : decide ((k : Int) < (ws.length : Int)) = true := by simpa using hlt
        obtain ⟨b, off, rfl, hb, hp⟩ := (h.keep hBr).cells (by omega)
        have hget : ws[k]? = some ws[k] := List.getElem?_eq_getElem hlt
        have c0 := hp k _ hget
        have hx01 := HW1.out _ (List.getElem_mem hlt)
        generalize hx : ws[k] = x at *
        obtain ⟨hx0, hx1⟩ := hx01
        obtain ⟨hm0, hm1⟩ := wadd_mul hn hn2 hx0 hx1
        have hbk := base_get (n := n) (S := S) hget
        obtain ⟨y, hy⟩ := mixM_get (B := baseM n S ws) (k := k) (by rw [HBL.out]; exact hlt)
        have d0 := hI.cell hy
        have f0 := hI.frozen k
        have hI2 := hI.set k (n * x / S)
        rw [mixM_set hbk] at hI2
        have e0 := hI2.cell (mixM_get' hbk)
        have hsn := sumI_snoc hbk
        have b1 := HSB.out k hk
        have b2 := HSB.out (k + 1) (by omega)
        rw [hsn] at b2
        have HI2 := Lib.hid hI2
        have HB2 := Lib.hid (hBr.setCell (p := ⟨w.heap.size, k, none⟩) (Nat.le_refl _) (.int .i64 (n * x / S)))
        obtain ⟨q, hq⟩ : ∃ q, sumI ((baseM n S ws).take k) = q := ⟨_, rfl⟩
        rw [hq] at b1 b2 hsn
        rw [hq]
        have HSN := Lib.hid hsn
        have hbb : 0 ≤ n * x / S ∧ n * x / S ≤ 500000 := ⟨Int.ediv_nonneg hm0 (by omega), Int.le_trans (Int.ediv_le_self S hm0) hm1⟩
        obtain ⟨hbb0, hbb1⟩ := hbb
        clear hI hI2 hBr hp hget hx hy hbk hsn hq
        go_wp2
        go_roundw
        case rel => exact ⟨k + 1, by omega, by go_num, by rw [HSN.out]; go_num, HI2.out, HB2.out⟩
        case measure => simp [intOf]; omega
      · have hd : decide ((k : Int) < (ws.length : Int)) = false := by simp; omega
        obtain rfl : k = ws.length := by omega
        have htl : (baseM n S ws).take ws.length = baseM n S ws := List.take_of_length_le (by rw [HBL.out]; omega)
        rw [htl]
        rw [← HBL.out, mixM_all] at hI
        have HIB := Lib.hid hI
        have HBR := Lib.hid hBr
        clear hI hBr htl
        obtain ⟨m, hm⟩ : ∃ m, n - sumI (baseM n S ws) = m := ⟨_, rfl⟩
        have hmb := HMB.out
        rw [hm] at hmb
        obtain ⟨hm0, hm1⟩ := hmb
        have hsp := HSP.out
        rw [hm] at hsp
        have HSP2 := Lib.hid hsp
        have hcc : m ≤ 5 := by omega
        rw [hm]
        clear HSP hsp HMB hm
        go_wp2_with fail
        go_loopw [7, 9] (fun mv i wr => ∃ (k : Nat) (m' : Int) (P : List Int), k ≤ ws.length ∧ i = .int .i64 k ∧ mv = .int .i64 m' ∧ P.length = k ∧ m' ≤ 5 ∧ m' ≤ cntP (ws.drop k) ∧ IB wr w.heap.size (P ++ (baseM n S ws).drop k) ∧ P ++ onesM m' (ws.drop k) ((baseM n S ws).drop k) = spreadM n ws ∧ Below w.heap.size w wr) (fun _ i _ => ws.length - (intOf i).toNat)
        case atStart => exact ⟨0, m, [], by omega, rfl, rfl, rfl, hcc, by simpa using hm1, by simpa using HIB.out, by simpa using HSP2.out.symm, HBR.out⟩
        case round =>
          obtain ⟨k, m', P, hk, rfl, rfl, hP, hm5, hmc, hI, hf, hBr⟩ := hrel
          clear HIB HBR HSP2 hm0 hm1 hcc
          by_cases hmp : 0 < m'
          · have hlt : k < ws.length := by
              rcases Nat.lt_or_ge k ws.length with h1 | h1
              · exact h1
              · rw [List.drop_eq_nil_of_le h1] at hmc; simp [cntP] at hmc; omega
            have e2 : decide (m' > 0) = true := by simpa using hmp
            have e2' : decide (0 < m') = true := by simpa using hmp
            obtain ⟨b, off, rfl, hb, hp⟩ := (h.keep hBr).cells (by omega)
            have hget : ws[k]? = some ws[k] := List.getElem?_eq_getElem hlt
            have c0 := hp k _ hget
            have hx01 := HW1.out _ (List.getElem_mem hlt)
            have hbk := base_get (n := n) (S := S) hget
            have hdw := drop_consI hget
            generalize hx : ws[k] = x at *
            have hdb := drop_consI hbk
            obtain ⟨hx0, hx1⟩ := hx01
            have hbb : 0 ≤ n * x / S ∧ n * x / S ≤ 500000 := by
              obtain ⟨q0, q1⟩ := wadd_mul hn hn2 hx0 hx1
              exact ⟨Int.ediv_nonneg q0 (by omega), Int.le_trans (Int.ediv_le_self S q0) q1⟩
            generalize n * x / S = y at *
            obtain ⟨hb0, hb1⟩ := hbb
            rw [hdb] at hI hf
            rw [hdw] at hf hmc
            have d0 := hI.cell (i := k) (x := y) (by rw [List.getElem?_append_right (by omega), hP, Nat.sub_self]; rfl)
            have f0 := hI.frozen k
            simp only [cntP] at hmc
            by_cases hxp : 0 < x
            · have e1 : decide (x > 0) = true := by simpa using hxp
              have e1' : decide (0 < x) = true := by simpa using hxp
              rw [if_pos hxp] at hmc
              rw [onesM, if_pos ⟨hxp, hmp⟩] at hf
              have hI2 := hI.set k (y + 1)
              rw [set_here hP] at hI2
              have HI2 := Lib.hid hI2
              have HF2 := Lib.hid hf
              have HP := Lib.hid hP
              have HB2 := Lib.hid (hBr.setCell (p := ⟨w.heap.size, k, none⟩) (Nat.le_refl _) (.int .i64 (y + 1)))
              have HXP := Lib.hid hxp
              have HMC := Lib.hid hmc
              clear hI hI2 hBr hp hget hx hbk hdb hdw hf hP hxp hmc
              go_wp2
              go_roundw
              case rel => exact ⟨k + 1, m' - 1, P ++ [y + 1], by omega, by go_num, rfl, by simp [HP.out], by omega, by have := HMC.out; omega, by simpa using HI2.out, by simpa using HF2.out, HB2.out⟩
              case measure => simp [intOf]; omega
            · have e1 : decide (x > 0) = false := by simpa using hxp
              have e1' : decide (0 < x) = false := by simpa using hxp
              rw [if_neg hxp] at hmc
              rw [onesM, if_neg (by omega)] at hf
              have HI2 := Lib.hid hI
              have HF2 := Lib.hid hf
              have HP := Lib.hid hP
              have HB2 := Lib.hid hBr
              have HXP := Lib.hid hxp
              have HMC := Lib.hid hmc
              have HMP := Lib.hid hmp
              clear hI hBr hp hget hx hbk hdb hdw hf hP hxp hmc hmp
              go_wp2
              go_roundw
              case rel => exact ⟨k + 1, m', P ++ [y], by omega, by go_num, rfl, by simp [HP.out], by omega, by have := HMC.out; omega, by simpa using HI2.out, by simpa using HF2.out, HB2.out⟩
              case measure => simp [intOf]; omega
          · have e2 : decide (m' > 0) = false := by simpa using hmp
            have e2' : decide (0 < m') = false := by simpa using hmp
            rw [onesM_zero (by omega)] at hf
            rw [hf] at hI
            have HI2 := Lib.hid hI
            have HB2 := Lib.hid hBr
            clear hI hBr hf hP hmc
            go_wp2
            go_ret
            exact ⟨rfl, HI2.out, HB2.out⟩
end Go.Proofs.Ytignigcknfklkab
end
section
namespace Go.Proofs.Ytignigcknfklkab
open Go.RowKit
set_option linter.unusedVariables false
set_option maxHeartbeats 1000000
attribute [local go_sem] growUpon_value growUpon_skip growUpon_enter
def wB (x : Int) : Bool := rng x 0 5
def sbB (n : Int) (ws : List Int) : Bool := rng n 0 400 && (rng ws.length 1 5 && ws.all wB)
theorem sbB_yes {n : Int} {ws : List Int} (h : sbB n ws = true) : wsOK ws ∧ 0 ≤ n ∧ n ≤ 400 := by
  simp only [sbB, Bool.and_eq_true, rng_iff, List.all_eq_true, wB] at h
  exact ⟨⟨h.2.2, by omega, by omega⟩, h.1⟩
theorem within_w (n a b : Int) (t : Bool) (w : World) (h : rng n a b = t) : Calls Try.prog 36 #[.int .i64 n, .int .i64 a, .int .i64 b] w fun e w' => e = .returned (.bool t) ∧ w = w' := by rw [← h]; exact within_any n a b w
theorem inRange_w (n a b : Int) (t : Bool) (w : World) (h : rng n a b = t) : Calls Try.prog 38 #[.int .i64 n, .int .i64 a, .int .i64 b] w fun e w' => e = .returned (.bool t) ∧ w = w' := by rw [← h]; exact inRange_any n a b w
theorem inRange_b (n : Int) (t : Bool) (w : World) (h : wB n = t) : Calls Try.prog 38 #[.int .i64 n, .int .i64 0, .int .i64 5] w fun e w' => e = .returned (.bool t) ∧ w = w' := inRange_w n 0 5 t w h
theorem validWeight_w (n : Int) (t : Bool) (w : World) (h : wB n = t) : Calls Try.prog 89 #[.int .i64 n] w fun e w' => e = .returned (.bool t) ∧ w = w' := by
  go_enter Try.func89, Try.ntmps89
  go_wp2_with (go_at_call 36; refine (within_w _ _ _ t _ h).mono ?_; rintro e w' ⟨rfl, rfl⟩)
  go_ret
  exact ⟨rfl, rfl⟩
theorem all_snocI {f : Int → Bool} {L : List Int} {k : Nat} {p : Int} (h : L[k]? = some p) : (L.take (k + 1)).all f = ((L.take k).all f && f p) := by
  have hk : k < L.length := (List.getElem?_eq_some_iff.1 h).1
  have e : L[k] = p := (List.getElem?_eq_some_iff.1 h).2
  rw [List.take_succ_eq_append_getElem hk, e]
  simp
end Go.Proofs.Ytignigcknfklkab
end
