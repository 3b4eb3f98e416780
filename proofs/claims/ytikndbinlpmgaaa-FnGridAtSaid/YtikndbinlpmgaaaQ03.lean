import Derived.Test.YtikndbinlpmgaaaQ02
import Derived.LoopTactic
import Derived.OwnWalk
import Derived.Lib.SmallJoins
section
set_option linter.unusedVariables false
namespace Go.Proofs.Ytikndbinlpmgaaa
def hpB (x y u v p q : Int) : Bool := decide (x ≤ p ∧ p < x + u ∧ y ≤ q ∧ q < y + v)
theorem hpB_iff {x y u v p q : Int} : hpB x y u v p q = true ↔ (x ≤ p ∧ p < x + u ∧ y ≤ q ∧ q < y + v) := by simp only [hpB, decide_eq_true_eq]
theorem hpB_not {x y u v p q : Int} : hpB x y u v p q = false ↔ ¬ (x ≤ p ∧ p < x + u ∧ y ≤ q ∧ q < y + v) := by unfold hpB; exact decide_eq_false_iff_not
theorem hpB_n1 {x y u v p q : Int} (h : ¬ x ≤ p) : hpB x y u v p q = false := by rw [hpB_not]; omega
theorem hpB_n2 {x y u v p q : Int} (h : ¬ p < x + u) : hpB x y u v p q = false := by rw [hpB_not]; omega
theorem hpB_n3 {x y u v p q : Int} (h : ¬ y ≤ q) : hpB x y u v p q = false := by rw [hpB_not]; omega
theorem hpB_n4 {x y u v p q : Int} (h : ¬ q < y + v) : hpB x y u v p q = false := by rw [hpB_not]; omega
theorem hpB_y {x y u v p q : Int} (h1 : x ≤ p) (h2 : p < x + u) (h3 : y ≤ q) (h4 : q < y + v) : hpB x y u v p q = true := by rw [hpB_iff]; omega
theorem rng_n {p a b : Int} (h1 : ¬ p < b) : rng p a (b - 1) = false := by rw [rng_not]; omega
theorem hpB_sp {x y u v p q : Int} : hpB x y u v p q = (rng p x (x + u - 1) && rng q y (y + v - 1)) := by
  rw [Bool.eq_iff_iff, hpB_iff, Bool.and_eq_true, rng_iff, rng_iff]; omega
end Go.Proofs.Ytikndbinlpmgaaa
namespace Go.Proofs.Ytikndbinlpmgaaa
def meetB (x y u v x' y' u' v' : Int) : Bool := vr x y u v && vr x' y' u' v' && hitB x y u v x' y' u' v'
theorem meetB_yes {x y u v x' y' u' v' : Int} (h : meetB x y u v x' y' u' v' = true) : vr x y u v = true ∧ vr x' y' u' v' = true ∧ hitB x y u v x' y' u' v' = true := by
  simp only [meetB, Bool.and_eq_true] at h; exact ⟨h.1.1, h.1.2, h.2⟩
theorem meetB_hit {x y u v x' y' u' v' : Int} (h : meetB x y u v x' y' u' v' = false) (h1 : vr x y u v = true) (h2 : vr x' y' u' v' = true) : hitB x y u v x' y' u' v' = false := by
  simpa [meetB, h1, h2] using h
def covB (x y u v x' y' u' v' : Int) : Bool := vr (mn x x') (mn y y') (mx (x + u) (x' + u') - mn x x') (mx (y + v) (y' + v') - mn y y')
def coverB (x y u v x' y' u' v' : Int) : Bool := vr x y u v && vr x' y' u' v' && covB x y u v x' y' u' v'
theorem coverB_yes {x y u v x' y' u' v' : Int} (h : coverB x y u v x' y' u' v' = true) : vr x y u v = true ∧ vr x' y' u' v' = true ∧ vr (mn x x') (mn y y') (mx (x + u) (x' + u') - mn x x') (mx (y + v) (y' + v') - mn y y') = true := by
  simp only [coverB, Bool.and_eq_true] at h; exact ⟨h.1.1, h.1.2, h.2⟩
theorem coverB_no {x y u v x' y' u' v' : Int} (h : coverB x y u v x' y' u' v' = false) (h1 : vr x y u v = true) (h2 : vr x' y' u' v' = true) : vr (mn x x') (mn y y') (mx (x + u) (x' + u') - mn x x') (mx (y + v) (y' + v') - mn y y') = false := by
  simpa [coverB, covB, h1, h2] using h
theorem cover_bds {x y u v x' y' u' v' : Int} (h1 : vr x y u v = true) (h2 : vr x' y' u' v' = true) : -1000 ≤ mn x x' ∧ mn x x' ≤ 1000 ∧ -1000 ≤ mn y y' ∧ mn y y' ≤ 1000 ∧ -1000 ≤ mx (x + u) (x' + u') ∧ mx (x + u) (x' + u') ≤ 1000 ∧ -1000 ≤ mx (y + v) (y' + v') ∧ mx (y + v) (y' + v') ≤ 1000 := by
  rw [vr_iff] at h1 h2
  obtain ⟨m1, m2⟩ := mn_bd (a := x) (b := x') (-1000) 1000 (by omega) (by omega) (by omega) (by omega)
  obtain ⟨m3, m4⟩ := mn_bd (a := y) (b := y') (-1000) 1000 (by omega) (by omega) (by omega) (by omega)
  obtain ⟨m5, m6⟩ := mx_bd (a := x + u) (b := x' + u') (-1000) 1000 (by omega) (by omega) (by omega) (by omega)
  obtain ⟨m7, m8⟩ := mx_bd (a := y + v) (b := y' + v') (-1000) 1000 (by omega) (by omega) (by omega) (by omega)
  exact ⟨m1, m2, m3, m4, m5, m6, m7, m8⟩
def insB (x y u v x' y' u' v' : Int) : Bool := decide (x ≤ x' ∧ y ≤ y' ∧ x' + u' ≤ x + u ∧ y' + v' ≤ y + v)
theorem insB_iff {x y u v x' y' u' v' : Int} : insB x y u v x' y' u' v' = true ↔ (x ≤ x' ∧ y ≤ y' ∧ x' + u' ≤ x + u ∧ y' + v' ≤ y + v) := by simp only [insB, decide_eq_true_eq]
theorem insB_not {x y u v x' y' u' v' : Int} : insB x y u v x' y' u' v' = false ↔ ¬ (x ≤ x' ∧ y ≤ y' ∧ x' + u' ≤ x + u ∧ y' + v' ≤ y + v) := by unfold insB; exact decide_eq_false_iff_not
theorem holds_eq {x y u v x' y' u' v' : Int} (h1 : vr x y u v = true) (h2 : vr x' y' u' v' = true) :
    (mn x x' = x ∧ mn y y' = y ∧ mx (x + u) (x' + u') - mn x x' = u ∧ mx (y + v) (y' + v') - mn y y' = v) ↔ (x ≤ x' ∧ y ≤ y' ∧ x' + u' ≤ x + u ∧ y' + v' ≤ y + v) := by
  have := mn_spec x x'; have := mn_spec y y'; have := mx_spec (x + u) (x' + u'); have := mx_spec (y + v) (y' + v')
  omega
end Go.Proofs.Ytikndbinlpmgaaa
end
section
set_option linter.unusedVariables false
namespace Go.Proofs.Ytikndbinlpmgaaa
def mvB (x y u v p q : Int) : Bool := vr x y u v && rng p (-1000) 1000 && rng q (-1000) 1000 && vr (x + p) (y + q) u v
theorem mvB_yes {x y u v p q : Int} (h : mvB x y u v p q = true) : vr x y u v = true ∧ rng p (-1000) 1000 = true ∧ rng q (-1000) 1000 = true ∧ vr (x + p) (y + q) u v = true := by
  simp only [mvB, Bool.and_eq_true] at h; exact ⟨h.1.1.1, h.1.1.2, h.1.2, h.2⟩
theorem mvB_no {x y u v p q : Int} (h : mvB x y u v p q = false) (h1 : vr x y u v = true) (h2 : rng p (-1000) 1000 = true) (h3 : rng q (-1000) 1000 = true) : vr (x + p) (y + q) u v = false := by
  simpa [mvB, h1, h2, h3] using h
def inB (x y u v p q : Int) : Bool := vr x y u v && rng p 0 10 && rng q 0 10
theorem inB_yes {x y u v p q : Int} (h : inB x y u v p q = true) : vr x y u v = true ∧ rng p 0 10 = true ∧ rng q 0 10 = true := by
  simp only [inB, Bool.and_eq_true] at h; exact ⟨h.1.1, h.1.2, h.2⟩
theorem inB_no {x y u v p q : Int} (h : inB x y u v p q = false) (h1 : vr x y u v = true) (h2 : rng p 0 10 = true) : rng q 0 10 = false := by
  simpa [inB, h1, h2] using h
theorem mx_comm (a b : Int) : mx a b = mx b a := by unfold mx; split <;> split <;> omega
theorem in_bds {x y u v p q : Int} (h : inB x y u v p q = true) : 0 ≤ mn p (u / 2) ∧ mn p (u / 2) ≤ 10 ∧ 0 ≤ mn q (v / 2) ∧ mn q (v / 2) ≤ 10 ∧ 0 ≤ mx (u - 2 * p) 0 ∧ mx (u - 2 * p) 0 ≤ 400 ∧ 0 ≤ mx (v - 2 * q) 0 ∧ mx (v - 2 * q) 0 ≤ 400 := by
  obtain ⟨h1, h2, h3⟩ := inB_yes h
  rw [vr_iff] at h1; rw [rng_iff] at h2 h3
  have := mn_spec p (u / 2); have := mn_spec q (v / 2); have := mx_spec (u - 2 * p) 0; have := mx_spec (v - 2 * q) 0
  omega
def anB (x y u v p q k : Int) : Bool := vr x y u v && rng p 0 400 && rng q 0 400 && rng k 0 8
theorem anB_yes {x y u v p q k : Int} (h : anB x y u v p q k = true) : vr x y u v = true ∧ rng p 0 400 = true ∧ rng q 0 400 = true ∧ rng k 0 8 = true := by
  simp only [anB, Bool.and_eq_true] at h; exact ⟨h.1.1.1, h.1.1.2, h.1.2, h.2⟩
theorem anB_no {x y u v p q k : Int} (h : anB x y u v p q k = false) (h1 : vr x y u v = true) (h2 : rng p 0 400 = true) (h3 : rng q 0 400 = true) : rng k 0 8 = false := by
  simpa [anB, h1, h2, h3] using h
def ctB (x y u v s n : Int) : Bool := vr x y u v && rng s 0 3 && rng n 0 400
theorem ctB_yes {x y u v s n : Int} (h : ctB x y u v s n = true) : vr x y u v = true ∧ rng s 0 3 = true ∧ rng n 0 400 = true := by
  simp only [ctB, Bool.and_eq_true] at h; exact ⟨h.1.1, h.1.2, h.2⟩
theorem ctB_no {x y u v s n : Int} (h : ctB x y u v s n = false) (h1 : vr x y u v = true) (h2 : rng s 0 3 = true) : rng n 0 400 = false := by
  simpa [ctB, h1, h2] using h
end Go.Proofs.Ytikndbinlpmgaaa
namespace Go.Proofs.Ytikndbinlpmgaaa
theorem area_bds {x y u v : Int} (h : vr x y u v = true) : 0 ≤ u * v ∧ u * v ≤ 160000 := by
  obtain ⟨a1, a2, a3, a4, _⟩ := vr_iff.1 h
  exact ⟨Int.mul_nonneg a1 a3, Int.le_trans (Int.mul_le_mul a2 a4 a3 (by omega)) (by omega)⟩
end Go.Proofs.Ytikndbinlpmgaaa
namespace Go.Proofs.Ytikndbinlpmgaaa
theorem prod_bds {a b : Int} (h1 : 0 ≤ a) (h2 : a ≤ 400) (h3 : 0 ≤ b) (h4 : b ≤ 2) : 0 ≤ a * b ∧ a * b ≤ 800 :=
  ⟨Int.mul_nonneg h1 h3, Int.le_trans (Int.mul_le_mul h2 h4 h3 (by omega)) (by omega)⟩
theorem an_bds {x y u v p q k : Int} (h : anB x y u v p q k = true) : 0 ≤ mn p u ∧ mn p u ≤ u ∧ 0 ≤ mn q v ∧ mn q v ≤ v ∧ 0 ≤ k % 3 ∧ k % 3 ≤ 2 ∧ 0 ≤ k / 3 ∧ k / 3 ≤ 2 ∧ 0 ≤ (u - mn p u) * (k % 3) ∧ (u - mn p u) * (k % 3) ≤ 800 ∧ 0 ≤ (v - mn q v) * (k / 3) ∧ (v - mn q v) * (k / 3) ≤ 800 := by
  obtain ⟨h1, h2, h3, h4⟩ := anB_yes h
  rw [vr_iff] at h1; rw [rng_iff] at h2 h3 h4
  have g1 := mn_spec p u; have g2 := mn_spec q v
  have e1 := prod_bds (a := u - mn p u) (b := k % 3) (by omega) (by omega) (by omega) (by omega)
  have e2 := prod_bds (a := v - mn q v) (b := k / 3) (by omega) (by omega) (by omega) (by omega)
  omega
end Go.Proofs.Ytikndbinlpmgaaa
end
section
namespace Go.Proofs.Ytikndbinlpmgaaa
open Go.RowKit
set_option linter.unusedVariables false
set_option maxHeartbeats 1000000
/-- the sum of a list -/
def sumI : List Int → Int
  | [] => 0
  | x :: t => x + sumI t
theorem sumI_append : ∀ (A B : List Int), sumI (A ++ B) = sumI A + sumI B
  | [], B => by simp [sumI]
  | x :: t, B => by simp [sumI, sumI_append t B]; omega
theorem sumI_snoc {L : List Int} {k : Nat} {x : Int} (h : L[k]? = some x) : sumI (L.take (k + 1)) = sumI (L.take k) + x := by
  obtain ⟨hk, e⟩ := List.getElem?_eq_some_iff.1 h
  rw [List.take_succ_eq_append_getElem hk, sumI_append, e]
  simp [sumI]
theorem sumI_bd {lo hi : Int} : ∀ {L : List Int}, (∀ x ∈ L, lo ≤ x ∧ x ≤ hi) → lo * L.length ≤ sumI L ∧ sumI L ≤ hi * L.length
  | [], _ => by simp [sumI]
  | x :: t, h => by
    have h1 := sumI_bd (L := t) (fun q hq => h q (List.mem_cons_of_mem _ hq))
    have h2 := h x List.mem_cons_self
    simp only [sumI, List.length_cons]
    have e1 : lo * ((t.length + 1 : Nat) : Int) = lo * t.length + lo := by rw [Int.natCast_succ, Int.mul_add, Int.mul_one]
    have e2 : hi * ((t.length + 1 : Nat) : Int) = hi * t.length + hi := by rw [Int.natCast_succ, Int.mul_add, Int.mul_one]
    rw [e1, e2]; omega
/-- all numbers are small -/
def Smal (M : Int) (L : List Int) : Prop := ∀ k, -M ≤ sumI (L.take k) ∧ sumI (L.take k) ≤ M
theorem smal_of {b M : Int} {L : List Int} (h : ∀ x ∈ L, -b ≤ x ∧ x ≤ b) (hb : 0 ≤ b) (hl : b * L.length ≤ M) : Smal M L := fun k => by
  have := sumI_bd (L := L.take k) (fun x hx => h x (List.mem_of_mem_take hx))
  have hk : ((L.take k).length : Int) ≤ L.length := by rw [List.length_take]; omega
  have h1 : b * ((L.take k).length : Int) ≤ b * L.length := Int.mul_le_mul_of_nonneg_left hk hb
  have h2 : -b * ((L.take k).length : Int) = -(b * ((L.take k).length : Int)) := by rw [Int.neg_mul]
  rw [h2] at this
  omega
/-- a slice that reads as this list of numbers -/
structure NV (w : World) (A : Option Addr) (L : List Int) : Prop where
  cells : 0 < L.length → ∃ b off, A = some ⟨b, off, none⟩ ∧ b < w.heap.size ∧ ∀ i x, L[i]? = some x → w.cell? ⟨b, off + i, none⟩ = some (.int .i64 x)
theorem NV.keep {w w' : World} {A : Option Addr} {L : List Int} (h : NV w A L) (hb : Below w.heap.size w w') : NV w' A L :=
  ⟨fun h0 => let ⟨b, off, e, hl, hp⟩ := h.cells h0; ⟨b, off, e, Nat.lt_of_lt_of_le hl hb.size, fun i x hx => (hb.cell (p := ⟨b, off + i, none⟩) hl).trans (hp i x hx)⟩⟩
theorem NV.nil (w : World) (A : Option Addr) : NV w A [] := ⟨fun h => absurd h (by simp)⟩
/-- a part of it, from one index up to another -/
theorem NV.sub {w : World} {b off : Nat} {L : List Int} (hb : b < w.heap.size) (h : ∀ i x, L[i]? = some x → w.cell? ⟨b, off + i, none⟩ = some (.int .i64 x)) (i j : Nat) : NV w (some ⟨b, off + i, none⟩) ((L.drop i).take j) :=
  ⟨fun _ => ⟨b, off + i, rfl, hb, fun k x hx => by
    rw [List.getElem?_take] at hx
    split at hx
    · rw [List.getElem?_drop] at hx
      have := h (i + k) x hx
      rwa [← Nat.add_assoc] at this
    · cases hx⟩⟩
def ivals (L : List Int) : Array Value := (L.map (Value.int .i64)).toArray
/-- a block of numbers -/
def IB (w : World) (g : Nat) (L : List Int) : Prop := w.heap[g]? = some (.cells (ivals L) 3 (0, 0))
theorem IB.lt {w : World} {g : Nat} {L : List Int} (h : IB w g L) : g < w.heap.size := (Array.getElem?_eq_some_iff.1 h).1
theorem IB.cell {w : World} {g i : Nat} {L : List Int} {x : Int} (h : IB w g L) (hx : L[i]? = some x) : w.cell? ⟨g, i, none⟩ = some (.int .i64 x) := by
  have h' : w.heap[g]? = some (.cells (ivals L) 3 (0, 0)) := h
  simp [World.cell?, h', ivals, hx]
theorem IB.frozen {w : World} {g : Nat} {L : List Int} (h : IB w g L) (i : Nat) : w.frozen? ⟨g, i, none⟩ = false := by
  have h' : w.heap[g]? = some (.cells (ivals L) 3 (0, 0)) := h
  simp [World.frozen?, h']
theorem IB.keep {w w' : World} {g : Nat} {L : List Int} (h : IB w g L) (hb : Below w.heap.size w w') : IB w' g L := (hb.block g h.lt).trans h
theorem IB.set {w : World} {g : Nat} {L : List Int} (h : IB w g L) (i : Nat) (x : Int) : IB (w.setCell ⟨g, i, none⟩ (.int .i64 x)) g (L.set i x) := by
  have h' : w.heap[g]? = some (.cells (ivals L) 3 (0, 0)) := h
  show _ = _
  simp [World.setCell, Array.getElem?_modify, h', ivals, List.map_set]
theorem IB.nv {w : World} {g : Nat} {L : List Int} (h : IB w g L) : NV w (some ⟨g, 0, none⟩) L :=
  ⟨fun _ => ⟨g, 0, rfl, h.lt, fun i x hx => by rw [Nat.zero_add]; exact h.cell hx⟩⟩
theorem madeI : ∀ (n : Nat) (w : World), n ≤ 1048576 → (Instr.makeSlice 68 (.int .i64 (n : Int)) (.int .i64 (n : Int))).run Try.prog w = .ok (.slice (some ⟨w.heap.size, 0, none⟩) n n) (w.alloc (.cells (ivals (List.replicate n 0)) 3)) := by
  intro n w hn
  have hinfo : (Try.prog.info? 3).map (fun i => (i.zero, i.size, i.bytes)) = some (some (.int .i64 0), 1, 8) := by kernel_rfl
  obtain ⟨i, hi, h1, h2, h3⟩ := info_parts hinfo
  have hr := run_make (P := Try.prog) w 68 3 i _ Try.underlying68 hi h1 .i64 .i64 n n (by omega) (Int.le_refl _) (by rw [h3]; omega) (by omega)
  rw [h2] at hr
  have e : madeCells (Value.int .i64 0).cells (n * 1) = ivals (List.replicate n 0) := by
    apply Array.ext
    · rw [size_madeCells]; simp [ivals]
    · intro i h1 h2
      simp [madeCells, ivals, Value.cells, Nat.mod_one]
  rw [Int.toNat_natCast, e] at hr
  simpa using hr
theorem makeI_b (n : Nat) (w : World) : IB (w.alloc (.cells (ivals (List.replicate n 0)) 3)) w.heap.size (List.replicate n 0) := by
  show (w.heap.push _)[w.heap.size]? = _
  simp
set_option maxRecDepth 100000 in
theorem sum_v (A : Option Addr) (c : Nat) (L : List Int) (w : World) (h : NV w A L) (hL : L.length ≤ 1048576) (hM : Smal 1000000000 L) :
    Calls Try.prog 79 #[.slice A L.length c] w fun e w' => e = .returned (.int .i64 (sumI L)) ∧ w = w' := by
  have HM := Lib.hid hM
  clear hM
  go_enter Try.func79, Try.ntmps79
  go_wp2_with fail
  go_loop [3, 8] (fun s i => ∃ k : Nat, k ≤ L.length ∧ i = .int .i64 k ∧ s = .int .i64 (sumI (L.take k))) (fun _ i => L.length - (intOf i).toNat)
  case atStart => exact ⟨0, by omega, rfl, rfl⟩
  case round =>
    obtain ⟨k, hk, rfl, rfl⟩ := hrel
    by_cases hlt : k < L.length
    · have hd : decide ((k : Int) < (L.length : Int)) = true := by simpa using hlt
      obtain ⟨b, off, rfl, hb, hp⟩ := h.cells (by omega)
      have hget : L[k]? = some L[k] := List.getElem?_eq_getElem hlt
      have c0 := hp k _ hget
      generalize hx : L[k] = x at *
      have hs := sumI_snoc hget
      have b1 := HM.out k
      have b2 := HM.out (k + 1)
      rw [hs] at b2
      obtain ⟨S, hS⟩ : ∃ S, sumI (L.take k) = S := ⟨_, rfl⟩
      rw [hS] at b1 b2 hs
      rw [hS]
      have HS := Lib.hid hs
      clear hs hS hget hx hp
      go_wp2
      go_round
      case rel => exact ⟨k + 1, by omega, by go_num, by rw [HS.out]⟩
      case measure => simp [intOf]; omega
    · have hd : decide ((k : Int) < (L.length : Int)) = false := by simp; omega
      have he : L.take k = L := List.take_of_length_le (by omega)
      rw [he]
      clear he
      go_wp2
      go_ret
      exact ⟨rfl, rfl⟩
set_option maxRecDepth 100000 in
theorem total_v (A : Option Addr) (c : Nat) (L : List Int) (w : World) (h : NV w A L) (hL : L.length ≤ 1048576) (hM : Smal 1000000000 L) :
    Calls Try.prog 72 #[.slice A L.length c] w fun e w' => e = .returned (.int .i64 (sumI L)) ∧ w = w' := by
  have HM := Lib.hid hM
  clear hM
  go_enter Try.func72, Try.ntmps72
  go_wp2_with fail
  go_loop [3, 4] (fun s i => ∃ k : Nat, k ≤ L.length ∧ i = .int .i64 k ∧ s = .int .i64 (sumI (L.take k))) (fun _ i => L.length - (intOf i).toNat)
  case atStart => exact ⟨0, by omega, rfl, rfl⟩
  case round =>
    obtain ⟨k, hk, rfl, rfl⟩ := hrel
    by_cases hlt : k < L.length
    · have hd : decide ((k : Int) < (L.length : Int)) = true := by simpa using hlt
      obtain ⟨b, off, rfl, hb, hp⟩ := h.cells (by omega)
      have hget : L[k]? = some L[k] := List.getElem?_eq_getElem hlt
      have c0 := hp k _ hget
      generalize hx : L[k] = x at *
      have hs := sumI_snoc hget
      have b1 := HM.out k
      have b2 := HM.out (k + 1)
      rw [hs] at b2
      obtain ⟨S, hS⟩ : ∃ S, sumI (L.take k) = S := ⟨_, rfl⟩
      rw [hS] at b1 b2 hs
      rw [hS]
      have HS := Lib.hid hs
      clear hs hS hget hx hp
      go_wp2
      go_round
      case rel => exact ⟨k + 1, by omega, by go_num, by rw [HS.out]⟩
      case measure => simp [intOf]; omega
    · have hd : decide ((k : Int) < (L.length : Int)) = false := by simp; omega
      have he : L.take k = L := List.take_of_length_le (by omega)
      rw [he]
      clear he
      go_wp2
      go_ret
      exact ⟨rfl, rfl⟩
end Go.Proofs.Ytikndbinlpmgaaa
end
section
namespace Go.Proofs.Ytikndbinlpmgaaa
open Go.RowKit
set_option linter.unusedVariables false
set_option maxHeartbeats 1000000
def nvals (L : List Int) : List Value := L.map (Value.int .i64)
theorem nvals_snoc (L : List Int) (x : Int) : nvals L ++ [.int .i64 x] = nvals (L ++ [x]) := by simp [nvals]
theorem own_chgN {w w' : World} {base rb : Nat} {e : TypeId} {size : Nat} {v : Value} {n : Nat} {xs : List Value} (h : w.ownsRow base e size v n xs) (hc : Chg [rb] w w') (hr : rb < base) : w'.ownsRow base e size v n xs :=
  h.kept (row := some rb) ⟨hc.os, hc.tape, hc.output, hc.size, fun k hk hne => hc.block k hk (by simp; exact fun e => hne (by rw [e]))⟩ (by
    cases hv : v.ownBlock with
    | none => exact .inl rfl
    | some g => exact .inr (fun e => by have := h.lt g hv; cases e; omega))
theorem chg_grownN {S : List Nat} {a W w5 : World} {v : Value} {o : Obj} {lo hi : Nat} (h : Chg S a W) (hg : (W.alloc o).grownBy w5 v.ownBlock) (hob : ∀ k, v.ownBlock = some k → lo ≤ k ∧ k < hi) (hlo : a.heap.size ≤ lo) : Chg S a w5 :=
  ⟨hg.os.trans (h.alloc o).os, hg.tape.trans (h.alloc o).tape, hg.output.trans (h.alloc o).output, Nat.le_trans (h.alloc o).size hg.size, fun k hk hs => (hg.block k (Nat.lt_of_lt_of_le hk (h.alloc o).size) (fun e => by have := hob k e.symm; omega)).trans ((h.alloc o).block k hk hs)⟩
theorem rd_grownN {B rb : Nat} {A : Option Addr} {n c m : Nat} {W w5 : World} {v : Value} {o : Obj} {lo hi : Nat} (h : Rd B rb A n c m W) (hg : (W.alloc o).grownBy w5 v.ownBlock) (hob : ∀ k, v.ownBlock = some k → lo ≤ k ∧ k < hi) (hlo : rb < lo) : Rd B rb A n c m w5 := by
  have hb := h.base
  cases hv : v.ownBlock with
  | none =>
    rw [hv] at hg
    exact h.keep (S := []) ⟨hg.os, hg.tape, hg.output, Nat.le_trans (by simp) hg.size, fun k hk _ => (hg.block k (by simp; omega) (fun e => by cases e)).trans (Below.heap_alloc _ _ _ hk)⟩ (by simp)
  | some g =>
    have := hob g hv
    rw [hv] at hg
    exact h.keep (S := [g]) (Chg.of_grown ((Chg.refl [g] W).alloc o) hg (.inl (by simp))) (by simp; omega)
theorem own_in1 {w : World} {base n : Nat} {v : Value} {M : List Int} {T : TypeId} (h : w.ownsRow base T 1 v n (nvals M)) (hn : n = M.length) :
    (v = .slice none 0 0 ∧ M = []) ∨ ∃ g cap, ∃ cs : Array Value, v = .slice (some ⟨g, 0, none⟩) n cap ∧ base ≤ g ∧ n ≤ cap ∧ w.heap[g]? = some (.cells cs T (0, 0)) ∧ cs.size = cap * 1 ∧ ∀ (i : Nat) (x : Int), M[i]? = some x → cs[i]? = some (Value.int .i64 x) := by
  rcases h.2 with ⟨rfl, h0⟩ | ⟨g, cap, cur, rfl, hb, hg, hc, _, hs, ht⟩
  · exact .inl ⟨rfl, List.length_eq_zero_iff.1 (by omega)⟩
  · refine .inr ⟨g, cap, cur, rfl, hb, hc, hg, hs, fun i x hx => ?_⟩
    have e : (nvals M)[i]? = some (Value.int .i64 x) := by simp [nvals, hx]
    have hi := (List.getElem?_eq_some_iff.1 hx).1
    rw [← ht, List.getElem?_take] at e
    rw [if_pos (by omega)] at e
    simpa using e
theorem nv_of {w : World} {g : Nat} {cs : Array Value} {T : TypeId} {M : List Int} (hh : w.heap[g]? = some (.cells cs T (0, 0))) (hc : ∀ (i : Nat) (x : Int), M[i]? = some x → cs[i]? = some (Value.int .i64 x)) : NV w (some ⟨g, 0, none⟩) M :=
  ⟨fun _ => ⟨g, 0, rfl, (Array.getElem?_eq_some_iff.1 hh).1, fun i x hx => by rw [Nat.zero_add]; exact (cell_of_heap hh i).trans (hc i x hx)⟩⟩
theorem NV.chg {w w' : World} {A : Option Addr} {L : List Int} {rb : Nat} (h : NV w A L) (hc : Chg [rb] w w') (hne : ∀ a, A = some a → a.block ≠ rb) : NV w' A L :=
  ⟨fun h0 => let ⟨b, off, e, hl, hp⟩ := h.cells h0; ⟨b, off, e, Nat.lt_of_lt_of_le hl hc.size, fun i x hx => (hc.cell (p := ⟨b, off + i, none⟩) hl (by simp; exact hne _ e)).trans (hp i x hx)⟩⟩
theorem int_info : ∃ (i : TypeInfo) (z : Value), Try.prog.info? 3 = some i ∧ i.zero = some z ∧ i.size = 1 ∧ i.bytes = 8 ∧ z.cells.size = 1 := by
  have hinfo : (Try.prog.info? 3).map (fun i => (i.zero, i.size, i.bytes)) = some (some (.int .i64 0), 1, 8) := by kernel_rfl
  obtain ⟨i, hi, h1, h2, h3⟩ := info_parts hinfo
  exact ⟨i, _, hi, h1, h2, h3, rfl⟩
theorem new1 (W : World) (x : Int) (T : TypeId) : ∀ (j : Nat) (u : Value), [Value.int .i64 x][j]? = some u → (W.alloc (.cells #[.int .i64 x] T)).cell? ((⟨W.heap.size, 0, none⟩ : Addr).add j) = some u := fun j u h => by
  have hadd : (⟨W.heap.size, 0, none⟩ : Addr).add j = ⟨W.heap.size, j, none⟩ := by unfold Addr.add; split <;> simp_all
  rw [hadd]
  exact (cell_of_heap (heap_alloc_new W _) j).trans (by simpa using h)
end Go.Proofs.Ytikndbinlpmgaaa
end
section
namespace Go.Proofs.Ytikndbinlpmgaaa
open Go.RowKit
/-- behind a region that draws its order -/
theorem bdrewn {W w' : World} (h : Below W.drew.heap.size W.drew w') : Below W.heap.size W w' := (Below.refl _ _).drew.trans h
end Go.Proofs.Ytikndbinlpmgaaa
end
section
namespace Go.Proofs.Ytikndbinlpmgaaa
open Go.RowKit
set_option linter.unusedVariables false
set_option maxHeartbeats 1000000
/-- values written side by side -/
def wrAt (cs : Array Value) (o : Nat) : List Value → Array Value
  | [] => cs
  | v :: r => wrAt (cs.setIfInBounds o v) (o + 1) r
theorem wrAt_size : ∀ (vs : List Value) (cs : Array Value) (o : Nat), (wrAt cs o vs).size = cs.size
  | [], cs, o => rfl
  | v :: r, cs, o => by unfold wrAt; rw [wrAt_size r]; simp
theorem wrAt_lo : ∀ (vs : List Value) (cs : Array Value) (o i : Nat), i < o → (wrAt cs o vs)[i]? = cs[i]?
  | [], cs, o, i, _ => rfl
  | v :: r, cs, o, i, h => by unfold wrAt; rw [wrAt_lo r _ _ _ (by omega), Array.getElem?_setIfInBounds_ne (by omega)]
theorem wrAt_hi : ∀ (vs : List Value) (cs : Array Value) (o i : Nat), o + vs.length ≤ i → (wrAt cs o vs)[i]? = cs[i]?
  | [], cs, o, i, _ => rfl
  | v :: r, cs, o, i, h => by
    simp only [List.length_cons] at h
    unfold wrAt; rw [wrAt_hi r _ _ _ (by omega), Array.getElem?_setIfInBounds_ne (by omega)]
theorem wrAt_in : ∀ (vs : List Value) (cs : Array Value) (o j : Nat), o + vs.length ≤ cs.size → j < vs.length → (wrAt cs o vs)[o + j]? = vs[j]?
  | [], cs, o, j, _, h => by simp at h
  | v :: r, cs, o, 0, h, _ => by
    simp only [List.length_cons] at h
    unfold wrAt; rw [wrAt_lo r _ _ _ (by omega), Nat.add_zero, Array.getElem?_setIfInBounds_self_of_lt (by omega)]
    rfl
  | v :: r, cs, o, j + 1, h, hj => by
    simp only [List.length_cons] at h hj
    unfold wrAt
    rw [show o + (j + 1) = o + 1 + j from by omega, wrAt_in r _ _ _ (by simp; omega) (by omega)]
    simp
theorem putS {w : World} {b i : Nat} {cs : Array Value} {T : TypeId} {fz : Nat × Nat} (h : w.heap[b]? = some (.cells cs T fz)) (u : Value) : (w.setCell ⟨b, i, none⟩ u).heap[b]? = some (.cells (cs.setIfInBounds i u) T fz) := by
  simp [World.setCell, Array.getElem?_modify, h]
theorem cellS {w : World} {b : Nat} {cs : Array Value} {T : TypeId} {fz : Nat × Nat} (h : w.heap[b]? = some (.cells cs T fz)) (i : Nat) : w.cell? ⟨b, i, none⟩ = cs[i]? := by simp [World.cell?, h]
theorem frozenS {w : World} {b : Nat} {cs : Array Value} {T : TypeId} (h : w.heap[b]? = some (.cells cs T (0, 0))) (i : Nat) : w.frozen? ⟨b, i, none⟩ = false := by simp [World.frozen?, h]
theorem thereS {w : World} {b : Nat} {cs : Array Value} {T : TypeId} {fz : Nat × Nat} (h : w.heap[b]? = some (.cells cs T fz)) {i : Nat} (hi : i < cs.size) : ∃ v, w.cell? ⟨b, i, none⟩ = some v := ⟨cs[i], (cellS h i).trans (by simp [hi])⟩
theorem newS (w : World) (o : Obj) : (w.alloc o).heap[w.heap.size]? = some o := by
  show (w.heap.push _)[w.heap.size]? = _
  simp
theorem ltS {w : World} {g : Nat} {o : Obj} (h : w.heap[g]? = some o) : g < w.heap.size := (Array.getElem?_eq_some_iff.1 h).1
theorem gsetS {w w' : World} {g : Nat} (h : w.grownBy w' (some g)) (o : Nat) (v : Value) : w.grownBy (w'.setCell ⟨g, o, none⟩ v) (some g) :=
  ⟨h.os, h.tape, h.output, by simpa [World.setCell] using h.size, fun k hk hne => (Below.heap_setCell w' ⟨g, o, none⟩ v k (by rintro rfl; exact hne rfl)).trans (h.block k hk hne)⟩
theorem greflS (w : World) (g : Nat) : w.grownBy w (some g) := ⟨rfl, rfl, rfl, Nat.le_refl _, fun _ _ _ => rfl⟩
/-- the values lie in the cells from o on -/
def InS (cs : Array Value) (o : Nat) (l : List Value) : Prop := ∀ j u, l[j]? = some u → cs[o + j]? = some u
theorem InS.write {cs : Array Value} {o : Nat} {l : List Value} (h : o + l.length ≤ cs.size) : InS (wrAt cs o l) o l := fun j u hu => by
  have hj := (List.getElem?_eq_some_iff.1 hu).1
  rw [wrAt_in _ _ _ _ h hj, hu]
theorem InS.keepS {cs : Array Value} {o o' : Nat} {l m : List Value} (h : InS cs o' m) (hd : o' + m.length ≤ o ∨ o + l.length ≤ o') : InS (wrAt cs o l) o' m := fun j u hu => by
  have hj := (List.getElem?_eq_some_iff.1 hu).1
  rcases hd with hd | hd
  · rw [wrAt_lo _ _ _ _ (by omega)]; exact h j u hu
  · rw [wrAt_hi _ _ _ _ (by omega)]; exact h j u hu
end Go.Proofs.Ytikndbinlpmgaaa
end
section
namespace Go.Proofs.Ytikndbinlpmgaaa
open Go.RowKit
set_option linter.unusedVariables false
set_option maxHeartbeats 1000000
attribute [local go_sem] growUpon_value growUpon_skip growUpon_enter
structure Ln where
  wt : Int
  mi : Int
def valsLn (p : Ln) : List Value := [.int .i64 p.wt, .int .i64 p.mi]
/-- a slice that reads as this list -/
structure LnV (w : World) (A : Option Addr) (L : List Ln) : Prop where
  cells : 0 < L.length → ∃ b off, A = some ⟨b, off, none⟩ ∧ b < w.heap.size ∧ ∀ i p, L[i]? = some p → w.cell? ⟨b, off + i * 2, none⟩ = some (.int .i64 p.wt) ∧ w.cell? ⟨b, off + i * 2 + 1, none⟩ = some (.int .i64 p.mi)
theorem LnV.keep {w w' : World} {A : Option Addr} {L : List Ln} (h : LnV w A L) (hb : Below w.heap.size w w') : LnV w' A L :=
  ⟨fun h0 => let ⟨b, off, e, hl, hp⟩ := h.cells h0; ⟨b, off, e, Nat.lt_of_lt_of_le hl hb.size, fun i p hi => by
    obtain ⟨c0, c1⟩ := hp i p hi
    exact ⟨(hb.cell (p := ⟨b, off + i * 2, none⟩) hl).trans c0, (hb.cell (p := ⟨b, off + i * 2 + 1, none⟩) hl).trans c1⟩⟩⟩
theorem LnV.nil (w : World) (A : Option Addr) : LnV w A [] := ⟨fun h => absurd h (by simp)⟩
/-- what a new block holds -/
def LnB (w : World) (g : Nat) (L : List Ln) : Prop := ∃ cs : Array Value, w.heap[g]? = some (.cells cs 111 (0, 0)) ∧ cs.size = L.length * 2 ∧ ∀ i p, L[i]? = some p → InS cs (i * 2) (valsLn p)
theorem LnB.v {w : World} {g : Nat} {L : List Ln} (h : LnB w g L) : LnV w (some ⟨g, 0, none⟩) L := by
  obtain ⟨cs, hh, hs, hc⟩ := h
  refine ⟨fun _ => ⟨g, 0, rfl, ltS hh, fun i p hp => ?_⟩⟩
  have hi := hc i p hp
  simp only [Nat.zero_add]
  exact ⟨(cellS hh _).trans (hi 0 _ rfl), (cellS hh _).trans (hi 1 _ rfl)⟩
theorem LnB.lt {w : World} {g : Nat} {L : List Ln} (h : LnB w g L) : g < w.heap.size := by obtain ⟨cs, hh, _⟩ := h; exact ltS hh
theorem LnB.keep {w w' : World} {g : Nat} {L : List Ln} (h : LnB w g L) (hb : Below w.heap.size w w') : LnB w' g L := by
  obtain ⟨cs, hh, hs, hc⟩ := h
  exact ⟨cs, (hb.block g (ltS hh)).trans hh, hs, hc⟩
theorem LnB.but {w w' : World} {g h : Nat} {L : List Ln} (hi : LnB w h L) (hg : w.grownBy w' (some g)) (hne : h ≠ g) : LnB w' h L := by
  obtain ⟨cs, hh, hs, hc⟩ := hi
  exact ⟨cs, (hg.block h (ltS hh) (fun e => hne (Option.some.inj e))).trans hh, hs, hc⟩
theorem madeLn : ∃ f : Nat → Array Value, (∀ n, (f n).size = n * 2) ∧ ∀ (n : Nat) (w : World), n ≤ 1048576 → (Instr.makeSlice 23 (.int .i64 (n : Int)) (.int .i64 (n : Int))).run Try.prog w = .ok (.slice (some ⟨w.heap.size, 0, none⟩) n n) (w.alloc (.cells (f n) 111)) := by
  have hinfo : (Try.prog.info? 111).map (fun i => (i.zero, i.size, i.bytes)) = some (some (.agg #[.int .i64 0, .int .i64 0]), 2, 16) := by kernel_rfl
  obtain ⟨i, hi, h1, h2, h3⟩ := info_parts hinfo
  refine ⟨fun n => madeCells (Value.agg #[.int .i64 0, .int .i64 0]).cells (n * 2), fun n => size_madeCells _ _, fun n w hn => ?_⟩
  have hr := run_make (P := Try.prog) w 23 111 i _ Try.underlying23 hi h1 .i64 .i64 n n (by omega) (Int.le_refl _) (by rw [h3]; omega) (by omega)
  rw [h2] at hr
  simpa using hr
set_option maxRecDepth 100000 in
theorem toLn_v (p : Ln) (w : World) : Calls Try.prog 92 #[.agg #[.int .i64 p.wt, .int .i64 p.mi]] w fun e w' => e = .returned (.agg #[.int .i64 p.wt, .int .i64 p.mi]) ∧ Below w.heap.size w w' := by
  obtain ⟨x0, x1⟩ := p
  go_enter Try.func92, Try.ntmps92
  go_wp2
  exact bodyPost_ret (v := .agg #[.int .i64 x0, .int .i64 x1]) (by simp only [results, Try.results92]; go_simp) rfl ⟨rfl, (by repeat (first | with_reducible exact Below.refl _ _ | with_reducible assumption | with_reducible refine balloc ?_ | (with_reducible refine bset ?_ ?_; rotate_left; ((try dsimp only); omega)) | refine bkeep2 ?_ (by assumption) | with_reducible refine Below.drew ?_))⟩
theorem putLn {w : World} {b : Nat} {cs : Array Value} {T : TypeId} {fz : Nat × Nat} (h : w.heap[b]? = some (.cells cs T fz)) (o : Nat) (p : Ln) :
    (((w.setCell ⟨b, o, none⟩ (.int .i64 p.wt)).setCell ⟨b, o + 1, none⟩ (.int .i64 p.mi))).heap[b]? = some (.cells (wrAt cs o (valsLn p)) T fz) :=
  putS (putS h _) _
theorem putLnb {B b : Nat} {a w : World} (h : Below B a w) (hb : B ≤ b) (o : Nat) (p : Ln) : Below B a (((w.setCell ⟨b, o, none⟩ (.int .i64 p.wt)).setCell ⟨b, o + 1, none⟩ (.int .i64 p.mi))) :=
  ((h).setCell hb _).setCell hb _
set_option maxRecDepth 100000 in
theorem toLnS_any (A : Option Addr) (c : Nat) (L : List Ln) (w : World) (h : LnV w A L) (hL : L.length ≤ 1048576) :
    Calls Try.prog 54 #[.slice A L.length c] w fun e w' => e = .returned (.slice (some ⟨w.heap.size, 0, none⟩) L.length L.length) ∧ LnB w' w.heap.size L ∧ Below w.heap.size w w' := by
  obtain ⟨f, hf, hmk0⟩ := madeLn
  have hmk : ∀ w : World, (Instr.makeSlice 23 (.int .i64 (L.length : Int)) (.int .i64 (L.length : Int))).run Try.prog w = .ok (.slice (some ⟨w.heap.size, 0, none⟩) L.length L.length) (w.alloc (.cells (f L.length) 111)) := fun w => hmk0 L.length w hL
  go_enter Try.func54, Try.ntmps54
  go_wp2_with fail
  have HWW : Hid (∃ cs : Array Value, (w.alloc (.cells (f L.length) 111)).heap[w.heap.size]? = some (.cells cs 111 (0, 0)) ∧ cs.size = L.length * 2 ∧ ∀ i p, i < 0 → L[i]? = some p → InS cs (i * 2) (valsLn p)) := Lib.hid ⟨_, newS _ _, hf _, fun i p hi => absurd hi (by omega)⟩
  clear hmk hmk0 hf
  go_loopw [4] (fun i wr => ∃ k : Nat, k ≤ L.length ∧ i = .int .i64 k ∧ (∃ cs : Array Value, wr.heap[w.heap.size]? = some (.cells cs 111 (0, 0)) ∧ cs.size = L.length * 2 ∧ ∀ i p, i < k → L[i]? = some p → InS cs (i * 2) (valsLn p)) ∧ Below w.heap.size w wr) (fun i _ => L.length - (intOf i).toNat)
  case atStart => exact ⟨0, by omega, rfl, HWW.out, balloc (Below.refl _ _)⟩
  case round =>
    obtain ⟨k, hk, rfl, ⟨cs, hh, hs, hc⟩, hB⟩ := hrel
    clear HWW
    by_cases hlt : k < L.length
    · have hd : decide ((k : Int) < (L.length : Int)) = true := by simpa using hlt
      obtain ⟨b, off, rfl, hb, hp⟩ := (h.keep hB).cells (by omega)
      have hget : L[k]? = some L[k] := List.getElem?_eq_getElem hlt
      obtain ⟨c0, c1⟩ := hp k _ hget
      generalize hx : L[k] = p at *
      have HG := Lib.hid hget
      have HX := Lib.hid hx
      have HH := Lib.hid hh
      have HS := Lib.hid hs
      have HC := Lib.hid hc
      have HBB := Lib.hid hB
      have HP := Lib.hid hp
      clear hget hx hh hs hc hB hp
      go_wp2_with fail
      refine (toLn_v p _).mono ?_
      rintro e w1 ⟨rfl, hb1⟩
      have hlg : w.heap.size < wr.heap.size := ltS HH.out
      replace HH := Lib.hid ((hb1.block _ hlg).trans HH.out)
      replace HBB := Lib.hid (HBB.out.trans (hb1.mono HBB.out.size))
      clear hb1 c0 c1 hlg
      have hsz : k * 2 + 2 ≤ cs.size := by rw [HS.out]; omega
      obtain ⟨y0, d0⟩ := thereS HH.out (i := k * 2) (by omega)
      obtain ⟨y1, d1⟩ := thereS HH.out (i := k * 2 + 1) (by omega)
      have f0 := frozenS HH.out (k * 2)
      have f1 := frozenS HH.out (k * 2 + 1)
      have E1 := Lib.hid (putLn HH.out (k * 2) p)
      have E2 := Lib.hid (putLnb HBB.out (Nat.le_refl _) (k * 2) p)
      go_wp2
      go_roundw
      case rel => exact ⟨k + 1, by omega, by go_num, ⟨_, E1.out, (wrAt_size _ _ _).trans HS.out, fun i q hi hq => by
        by_cases e : i = k
        · subst e
          obtain rfl : p = q := by have := HG.out; rw [this] at hq; exact Option.some.inj hq
          exact InS.write (by simp only [valsLn, List.length_cons, List.length_nil]; omega)
        · exact (HC.out i q (by omega) hq).keepS (.inl (by simp only [valsLn, List.length_cons, List.length_nil]; omega))⟩, E2.out⟩
      case measure => simp [intOf]; omega
    · have hd : decide ((k : Int) < (L.length : Int)) = false := by simp; omega
      obtain rfl : k = L.length := by omega
      have HR := Lib.hid (show LnB wr w.heap.size L from ⟨cs, hh, hs, fun i p hp => hc i p (List.getElem?_eq_some_iff.1 hp).1 hp⟩)
      have HBB := Lib.hid hB
      clear hh hs hc hB
      go_wp2
      go_ret
      exact ⟨rfl, HR.out, HBB.out⟩
set_option maxRecDepth 100000 in
theorem eqLn_same (p : Ln) (w : World) : Calls Try.prog 94 #[.agg #[.int .i64 p.wt, .int .i64 p.mi], .agg #[.int .i64 p.wt, .int .i64 p.mi]] w fun e w' => e = .returned (.bool true) ∧ Below w.heap.size w w' := by
  go_enter Try.func94, Try.ntmps94
  go_wp2
  go_ret
  exact ⟨rfl, balloc (balloc (Below.refl _ _))⟩
set_option maxRecDepth 100000 in
theorem eqLnS_same (A B : Option Addr) (c c' : Nat) (L : List Ln) (w : World) (h : LnV w A L) (h' : LnV w B L) (hL : L.length ≤ 1048576) :
    Calls Try.prog 56 #[.slice A L.length c, .slice B L.length c'] w fun e w' => e = .returned (.bool true) ∧ Below w.heap.size w w' := by
  go_enter Try.func56, Try.ntmps56
  go_wp2_with fail
  go_loopw [5] (fun i wr => ∃ k : Nat, k ≤ L.length ∧ i = .int .i64 k ∧ Below w.heap.size w wr) (fun i _ => L.length - (intOf i).toNat)
  case atStart => exact ⟨0, by omega, rfl, Below.refl _ _⟩
  case round =>
    obtain ⟨k, hk, rfl, hB⟩ := hrel
    by_cases hlt : k < L.length
    · have hd : decide ((k : Int) < (L.length : Int)) = true := by simpa using hlt
      obtain ⟨b, off, rfl, hb, hp⟩ := (h.keep hB).cells (by omega)
      obtain ⟨b', off', rfl, hb', hp'⟩ := (h'.keep hB).cells (by omega)
      obtain ⟨c0, c1⟩ := hp k _ (List.getElem?_eq_getElem hlt)
      obtain ⟨d0, d1⟩ := hp' k _ (List.getElem?_eq_getElem hlt)
      generalize hx : L[k] = p at *
      have HX := Lib.hid hx
      have HBB := Lib.hid hB
      clear hx hp hp' hB
      go_wp2_with fail
      refine wp_region_grow 10 0 (· < 10) (by kernel_rfl) (by kernel_rfl) rfl ?_
      iterate 10 (refine wpG_step (fun K hK => ?_); first | (refine grow_skip rfl ?_; go_simp; refine hK _ ?_; clear hK K) | (apply Exists.intro; refine ⟨.inl ⟨rfl, fun w' hw' => ?_⟩, ?_⟩; (focus ((obtain ⟨hc, hf⟩ := bcell hw'.out); (have hcS := bcellS hw'.out); go_simp <;> first | rfl | (go_at_call 94; exact eqLn_same p _))); (go_simp; refine hK _ ?_; clear hK K)))
      refine wpG_nil ?_
      refine wpK_tail (by kernel_rfl) (fun w1 hg1 => ?_)
      have hb1 := bdrewn hg1.out
      refine wpAny_end (by kernel_rfl) ?_
      refine NoPan.thn ?_
      clear hg1
      replace HBB := Lib.hid (HBB.out.trans (hb1.mono HBB.out.size))
      clear hb1 c0 c1 d0 d1
      go_wp2
      go_roundw
      case rel => exact ⟨k + 1, by omega, by go_num, HBB.out⟩
      case measure => simp [intOf]; omega
    · have hd : decide ((k : Int) < (L.length : Int)) = false := by simp; omega
      have HBB := Lib.hid hB
      clear hB
      go_wp2
      go_ret
      exact ⟨rfl, HBB.out⟩
theorem szLnS_yes (A : Option Addr) (c n : Nat) (z : Int) (w : World) (h : (n : Int) ≤ z) (hz : z ≤ 1048576) : Calls Try.prog 52 #[.slice A n c, .int .i64 z] w fun e w' => e = .returned (.int .i64 (z - n)) ∧ w' = w := by
  have h1 : decide (z - (n : Int) < 0) = false := by simp; omega
  go_enter Try.func52, Try.ntmps52
  go_wp2
  go_ret
  exact ⟨rfl, rfl⟩
theorem szLnS_no (A : Option Addr) (c n : Nat) (z : Int) (w : World) (h : ¬ (n : Int) ≤ z) (h0 : 0 ≤ z) (hz : z ≤ 1048576) (hn : n ≤ maxLen) : Calls Try.prog 52 #[.slice A n c, .int .i64 z] w fun e w' => e = .returned (.int .i64 (-1)) ∧ w' = w := by
  unfold maxLen at hn
  have h1 : decide (z - (n : Int) < 0) = true := by simp; omega
  go_enter Try.func52, Try.ntmps52
  go_wp2
  go_ret
  exact ⟨rfl, rfl⟩
set_option maxRecDepth 100000 in
theorem markLnS_v (g n : Nat) (z : Int) (L : List Ln) (w : World) (h : LnB w g L) (hn : n = L.length) (hL : L.length ≤ 1048576) (h0 : 1 ≤ z) (hz : z ≤ 1000000000) :
    Calls Try.prog 59 #[.slice (some ⟨g, 0, none⟩) n n, .int .i64 z] w fun e w' => e = .returned (.int .i64 ((L.length : Int) * 2 + z)) ∧ w.grownBy w' (some g) := by
  subst hn
  obtain ⟨cs0, hh0, hs0, _⟩ := h
  have H0 := Lib.hid (And.intro hh0 hs0)
  clear hh0 hs0
  go_enter Try.func59, Try.ntmps59
  go_wp2_with fail
  go_loopw [1, 5] (fun kk i wr => ∃ k : Nat, k ≤ L.length ∧ i = .int .i64 k ∧ kk = .int .i64 ((k : Int) * 2 + z) ∧ (∃ cs : Array Value, wr.heap[g]? = some (.cells cs 111 (0, 0)) ∧ cs.size = L.length * 2) ∧ w.grownBy wr (some g)) (fun _ i _ => L.length - (intOf i).toNat)
  case atStart => exact ⟨0, by omega, rfl, by simp, ⟨_, H0.out.1, H0.out.2⟩, greflS _ _⟩
  case round =>
    obtain ⟨k, hk, rfl, rfl, ⟨cs, hh, hs⟩, hB⟩ := hrel
    clear H0
    by_cases hlt : k < L.length
    · have hd : decide ((k : Int) < (L.length : Int)) = true := by simpa using hlt
      obtain ⟨y0, d0⟩ := thereS hh (i := k * 2) (by omega)
      obtain ⟨y1, d1⟩ := thereS hh (i := k * 2 + 1) (by omega)
      have f0 := frozenS hh (k * 2)
      have f1 := frozenS hh (k * 2 + 1)
      have HH := Lib.hid hh
      have HS := Lib.hid hs
      have HB := Lib.hid hB
      clear hh hs hB
      go_wp2_with fail
      go_roundw
      case rel =>
        refine ⟨k + 1, by omega, by go_num, by go_num, ⟨_, putS (putS (HH.out) _) _, by simpa using HS.out⟩, ?_⟩
        exact gsetS (gsetS (HB.out) _ _) _ _
      case measure => simp [intOf]; omega
    · have hd : decide ((k : Int) < (L.length : Int)) = false := by simp; omega
      obtain rfl : k = L.length := by omega
      have HB := Lib.hid hB
      clear hh hs hB
      go_wp2
      go_ret
      exact ⟨rfl, HB.out⟩
end Go.Proofs.Ytikndbinlpmgaaa
end
section
namespace Go.Proofs.Ytikndbinlpmgaaa
open Go.RowKit
set_option linter.unusedVariables false
set_option maxHeartbeats 1000000
attribute [local go_sem] growUpon_value growUpon_skip growUpon_enter
structure Sp where
  sa : Int
  many : Int
  need : Int
def valsSp (p : Sp) : List Value := [.int .i64 p.sa, .int .i64 p.many, .int .i64 p.need]
/-- a slice that reads as this list -/
structure SpV (w : World) (A : Option Addr) (L : List Sp) : Prop where
  cells : 0 < L.length → ∃ b off, A = some ⟨b, off, none⟩ ∧ b < w.heap.size ∧ ∀ i p, L[i]? = some p → w.cell? ⟨b, off + i * 3, none⟩ = some (.int .i64 p.sa) ∧ w.cell? ⟨b, off + i * 3 + 1, none⟩ = some (.int .i64 p.many) ∧ w.cell? ⟨b, off + i * 3 + 2, none⟩ = some (.int .i64 p.need)
theorem SpV.keep {w w' : World} {A : Option Addr} {L : List Sp} (h : SpV w A L) (hb : Below w.heap.size w w') : SpV w' A L :=
  ⟨fun h0 => let ⟨b, off, e, hl, hp⟩ := h.cells h0; ⟨b, off, e, Nat.lt_of_lt_of_le hl hb.size, fun i p hi => by
    obtain ⟨c0, c1, c2⟩ := hp i p hi
    exact ⟨(hb.cell (p := ⟨b, off + i * 3, none⟩) hl).trans c0, (hb.cell (p := ⟨b, off + i * 3 + 1, none⟩) hl).trans c1, (hb.cell (p := ⟨b, off + i * 3 + 2, none⟩) hl).trans c2⟩⟩⟩
theorem SpV.nil (w : World) (A : Option Addr) : SpV w A [] := ⟨fun h => absurd h (by simp)⟩
/-- what a new block holds -/
def SpB (w : World) (g : Nat) (L : List Sp) : Prop := ∃ cs : Array Value, w.heap[g]? = some (.cells cs 102 (0, 0)) ∧ cs.size = L.length * 3 ∧ ∀ i p, L[i]? = some p → InS cs (i * 3) (valsSp p)
theorem SpB.v {w : World} {g : Nat} {L : List Sp} (h : SpB w g L) : SpV w (some ⟨g, 0, none⟩) L := by
  obtain ⟨cs, hh, hs, hc⟩ := h
  refine ⟨fun _ => ⟨g, 0, rfl, ltS hh, fun i p hp => ?_⟩⟩
  have hi := hc i p hp
  simp only [Nat.zero_add]
  exact ⟨(cellS hh _).trans (hi 0 _ rfl), (cellS hh _).trans (hi 1 _ rfl), (cellS hh _).trans (hi 2 _ rfl)⟩
theorem SpB.lt {w : World} {g : Nat} {L : List Sp} (h : SpB w g L) : g < w.heap.size := by obtain ⟨cs, hh, _⟩ := h; exact ltS hh
theorem SpB.keep {w w' : World} {g : Nat} {L : List Sp} (h : SpB w g L) (hb : Below w.heap.size w w') : SpB w' g L := by
  obtain ⟨cs, hh, hs, hc⟩ := h
  exact ⟨cs, (hb.block g (ltS hh)).trans hh, hs, hc⟩
theorem SpB.but {w w' : World} {g h : Nat} {L : List Sp} (hi : SpB w h L) (hg : w.grownBy w' (some g)) (hne : h ≠ g) : SpB w' h L := by
  obtain ⟨cs, hh, hs, hc⟩ := hi
  exact ⟨cs, (hg.block h (ltS hh) (fun e => hne (Option.some.inj e))).trans hh, hs, hc⟩
theorem madeSp : ∃ f : Nat → Array Value, (∀ n, (f n).size = n * 3) ∧ ∀ (n : Nat) (w : World), n ≤ 1048576 → (Instr.makeSlice 74 (.int .i64 (n : Int)) (.int .i64 (n : Int))).run Try.prog w = .ok (.slice (some ⟨w.heap.size, 0, none⟩) n n) (w.alloc (.cells (f n) 102)) := by
  have hinfo : (Try.prog.info? 102).map (fun i => (i.zero, i.size, i.bytes)) = some (some (.agg #[.int .i64 0, .int .i64 0, .int .i64 0]), 3, 24) := by kernel_rfl
  obtain ⟨i, hi, h1, h2, h3⟩ := info_parts hinfo
  refine ⟨fun n => madeCells (Value.agg #[.int .i64 0, .int .i64 0, .int .i64 0]).cells (n * 3), fun n => size_madeCells _ _, fun n w hn => ?_⟩
  have hr := run_make (P := Try.prog) w 74 102 i _ Try.underlying74 hi h1 .i64 .i64 n n (by omega) (Int.le_refl _) (by rw [h3]; omega) (by omega)
  rw [h2] at hr
  simpa using hr
theorem putSp {w : World} {b : Nat} {cs : Array Value} {T : TypeId} {fz : Nat × Nat} (h : w.heap[b]? = some (.cells cs T fz)) (o : Nat) (p : Sp) :
    ((((w.setCell ⟨b, o, none⟩ (.int .i64 p.sa)).setCell ⟨b, o + 1, none⟩ (.int .i64 p.many)).setCell ⟨b, o + 2, none⟩ (.int .i64 p.need))).heap[b]? = some (.cells (wrAt cs o (valsSp p)) T fz) :=
  putS (putS (putS h _) _) _
theorem putSpb {B b : Nat} {a w : World} (h : Below B a w) (hb : B ≤ b) (o : Nat) (p : Sp) : Below B a ((((w.setCell ⟨b, o, none⟩ (.int .i64 p.sa)).setCell ⟨b, o + 1, none⟩ (.int .i64 p.many)).setCell ⟨b, o + 2, none⟩ (.int .i64 p.need))) :=
  (((h).setCell hb _).setCell hb _).setCell hb _
end Go.Proofs.Ytikndbinlpmgaaa
end
