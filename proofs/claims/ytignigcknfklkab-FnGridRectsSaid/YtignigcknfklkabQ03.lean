import Derived.Test.YtignigcknfklkabQ02
import Derived.LoopTactic
import Derived.OwnWalk
import Derived.Lib.SmallJoins
section
set_option linter.unusedVariables false
namespace Go.Proofs.Ytignigcknfklkab
def mvB (x y u v p q : Int) : Bool := vr x y u v && rng p (-1000) 1000 && rng q (-1000) 1000 && vr (x + p) (y + q) u v
theorem mvB_yes {x y u v p q : Int} (h : mvB x y u v p q = true) : vr x y u v = true ∧ rng p (-1000) 1000 = true ∧ rng q (-1000) 1000 = true ∧ vr (x + p) (y + q) u v = true := by
  simp only [mvB, Bool.and_eq_true] at h; exact ⟨h.1.1.1, h.1.1.2, h.1.2, h.2⟩
theorem mvB_no {x y u v p q : Int} (h : mvB x y u v p q = false) (h1 : vr x y u v = true) (h2 : rng p (-1000) 1000 = true) (h3 : rng q (-1000) 1000 = true) : vr (x + p) (y + q) u v = false := by
  simpa [mvB, h1, h2, h3] using h
def inB (x y u v p q : Int) : Bool := vr x y u v && rng p 0 10 && rng q 0 10
theorem inB_yes {x y u v p q : Int} (h : inB x y u v p q = true) : vr x y u v = true ∧ rng p 0 10 = true ∧ rng q 0 10 = true := by
  simp only [inB, Bool.and_eq_true] at h; exact ⟨h.1.1, h.1.2, h.2⟩
theorem inB_no {x y u v p q : Int} (h : inB x y u v p q = false) (h1 : vr x y u v = true) (h2 : rng p 0 10 = true) : rng q 0 10 = false := by
  simpa [inB, h1, h2] using h
theorem mx_comm (a b : Int) : mx a b = mx b a := by unfold mx; split <;> split <;> omega
theorem in_bds {x y u v p q : Int} (h : inB x y u v p q = true) : 0 ≤ mn p (u / 2) ∧ mn p (u / 2) ≤ 10 ∧ 0 ≤ mn q (v / 2) ∧ mn q (v / 2) ≤ 10 ∧ 0 ≤ mx (u - 2 * p) 0 ∧ mx (u - 2 * p) 0 ≤ 400 ∧ 0 ≤ mx (v - 2 * q) 0 ∧ mx (v - 2 * q) 0 ≤ 400 := by
  obtain ⟨h1, h2, h3⟩ := inB_yes h
  rw [vr_iff] at h1; rw [rng_iff] at h2 h3
  have := mn_spec p (u / 2); have := mn_spec q (v / 2); have := mx_spec (u - 2 * p) 0; have := mx_spec (v - 2 * q) 0
  omega
def anB (x y u v p q k : Int) : Bool := vr x y u v && rng p 0 400 && rng q 0 400 && rng k 0 8
theorem anB_yes {x y u v p q k : Int} (h : anB x y u v p q k = true) : vr x y u v = true ∧ rng p 0 400 = true ∧ rng q 0 400 = true ∧ rng k 0 8 = true := by
  simp only [anB, Bool.and_eq_true] at h; exact ⟨h.1.1.1, h.1.1.2, h.1.2, h.2⟩
theorem anB_no {x y u v p q k : Int} (h : anB x y u v p q k = false) (h1 : vr x y u v = true) (h2 : rng p 0 400 = true) (h3 : rng q 0 400 = true) : rng k 0 8 = false := by
  simpa [anB, h1, h2, h3] using h
def ctB (x y u v s n : Int) : Bool := vr x y u v && rng s 0 3 && rng n 0 400
theorem ctB_yes {x y u v s n : Int} (h : ctB x y u v s n = true) : vr x y u v = true ∧ rng s 0 3 = true ∧ rng n 0 400 = true := by
  simp only [ctB, Bool.and_eq_true] at h; exact ⟨h.1.1, h.1.2, h.2⟩
theorem ctB_no {x y u v s n : Int} (h : ctB x y u v s n = false) (h1 : vr x y u v = true) (h2 : rng s 0 3 = true) : rng n 0 400 = false := by
  simpa [ctB, h1, h2] using h
end Go.Proofs.Ytignigcknfklkab
namespace Go.Proofs.Ytignigcknfklkab
theorem area_bds {x y u v : Int} (h : vr x y u v = true) : 0 ≤ u * v ∧ u * v ≤ 160000 := by
  obtain ⟨a1, a2, a3, a4, _⟩ := vr_iff.1 h
  exact ⟨Int.mul_nonneg a1 a3, Int.le_trans (Int.mul_le_mul a2 a4 a3 (by omega)) (by omega)⟩
end Go.Proofs.Ytignigcknfklkab
namespace Go.Proofs.Ytignigcknfklkab
theorem prod_bds {a b : Int} (h1 : 0 ≤ a) (h2 : a ≤ 400) (h3 : 0 ≤ b) (h4 : b ≤ 2) : 0 ≤ a * b ∧ a * b ≤ 800 :=
  ⟨Int.mul_nonneg h1 h3, Int.le_trans (Int.mul_le_mul h2 h4 h3 (by omega)) (by omega)⟩
theorem an_bds {x y u v p q k : Int} (h : anB x y u v p q k = true) : 0 ≤ mn p u ∧ mn p u ≤ u ∧ 0 ≤ mn q v ∧ mn q v ≤ v ∧ 0 ≤ k % 3 ∧ k % 3 ≤ 2 ∧ 0 ≤ k / 3 ∧ k / 3 ≤ 2 ∧ 0 ≤ (u - mn p u) * (k % 3) ∧ (u - mn p u) * (k % 3) ≤ 800 ∧ 0 ≤ (v - mn q v) * (k / 3) ∧ (v - mn q v) * (k / 3) ≤ 800 := by
  obtain ⟨h1, h2, h3, h4⟩ := anB_yes h
  rw [vr_iff] at h1; rw [rng_iff] at h2 h3 h4
  have g1 := mn_spec p u; have g2 := mn_spec q v
  have e1 := prod_bds (a := u - mn p u) (b := k % 3) (by omega) (by omega) (by omega) (by omega)
  have e2 := prod_bds (a := v - mn q v) (b := k / 3) (by omega) (by omega) (by omega) (by omega)
  omega
end Go.Proofs.Ytignigcknfklkab
end
section
namespace Go.Proofs.Ytignigcknfklkab
open Go.RowKit
set_option linter.unusedVariables false
set_option maxHeartbeats 1000000
/-- the sum of a list -/
def sumI : List Int → Int
  | [] => 0
  | x :: t => x + sumI t
theorem sumI_append : ∀ (A B : List Int), sumI (A ++ B) = sumI A + sumI B
  | [], B => by simp [sumI]
  | x :: t, B => by simp [sumI, sumI_append t B]; omega
theorem sumI_snoc {L : List Int} {k : Nat} {x : Int} (h : L[k]? = some x) : sumI (L.take (k + 1)) = sumI (L.take k) + x := by
  obtain ⟨hk, e⟩ := List.getElem?_eq_some_iff.1 h
  rw [List.take_succ_eq_append_getElem hk, sumI_append, e]
  simp [sumI]
theorem sumI_bd {lo hi : Int} : ∀ {L : List Int}, (∀ x ∈ L, lo ≤ x ∧ x ≤ hi) → lo * L.length ≤ sumI L ∧ sumI L ≤ hi * L.length
  | [], _ => by simp [sumI]
  | x :: t, h => by
    have h1 := sumI_bd (L := t) (fun q hq => h q (List.mem_cons_of_mem _ hq))
    have h2 := h x List.mem_cons_self
    simp only [sumI, List.length_cons]
    have e1 : lo * ((t.length + 1 : Nat) : Int) = lo * t.length + lo := by rw [Int.natCast_succ, Int.mul_add, Int.mul_one]
    have e2 : hi * ((t.length + 1 : Nat) : Int) = hi * t.length + hi := by rw [Int.natCast_succ, Int.mul_add, Int.mul_one]
    rw [e1, e2]; omega
/-- all numbers are small -/
def Smal (M : Int) (L : List Int) : Prop := ∀ k, -M ≤ sumI (L.take k) ∧ sumI (L.take k) ≤ M
theorem smal_of {b M : Int} {L : List Int} (h : ∀ x ∈ L, -b ≤ x ∧ x ≤ b) (hb : 0 ≤ b) (hl : b * L.length ≤ M) : Smal M L := fun k => by
  have := sumI_bd (L := L.take k) (fun x hx => h x (List.mem_of_mem_take hx))
  have hk : ((L.take k).length : Int) ≤ L.length := by rw [List.length_take]; omega
  have h1 : b * ((L.take k).length : Int) ≤ b * L.length := Int.mul_le_mul_of_nonneg_left hk hb
  have h2 : -b * ((L.take k).length : Int) = -(b * ((L.take k).length : Int)) := by rw [Int.neg_mul]
  rw [h2] at this
  omega
/-- a slice that reads as this list of numbers -/
structure NV (w : World) (A : Option Addr) (L : List Int) : Prop where
  cells : 0 < L.length → ∃ b off, A = some ⟨b, off, none⟩ ∧ b < w.heap.size ∧ ∀ i x, L[i]? = some x → w.cell? ⟨b, off + i, none⟩ = some (.int .i64 x)
theorem NV.keep {w w' : World} {A : Option Addr} {L : List Int} (h : NV w A L) (hb : Below w.heap.size w w') : NV w' A L :=
  ⟨fun h0 => let ⟨b, off, e, hl, hp⟩ := h.cells h0; ⟨b, off, e, Nat.lt_of_lt_of_le hl hb.size, fun i x hx => (hb.cell (p := ⟨b, off + i, none⟩) hl).trans (hp i x hx)⟩⟩
theorem NV.nil (w : World) (A : Option Addr) : NV w A [] := ⟨fun h => absurd h (by simp)⟩
/-- a part of it, from one index up to another -/
theorem NV.sub {w : World} {b off : Nat} {L : List Int} (hb : b < w.heap.size) (h : ∀ i x, L[i]? = some x → w.cell? ⟨b, off + i, none⟩ = some (.int .i64 x)) (i j : Nat) : NV w (some ⟨b, off + i, none⟩) ((L.drop i).take j) :=
  ⟨fun _ => ⟨b, off + i, rfl, hb, fun k x hx => by
    rw [List.getElem?_take] at hx
    split at hx
    · rw [List.getElem?_drop] at hx
      have := h (i + k) x hx
      rwa [← Nat.add_assoc] at this
    · cases hx⟩⟩
def ivals (L : List Int) : Array Value := (L.map (Value.int .i64)).toArray
/-- a block of numbers -/
def IB (w : World) (g : Nat) (L : List Int) : Prop := w.heap[g]? = some (.cells (ivals L) 3 (0, 0))
theorem IB.lt {w : World} {g : Nat} {L : List Int} (h : IB w g L) : g < w.heap.size := (Array.getElem?_eq_some_iff.1 h).1
theorem IB.cell {w : World} {g i : Nat} {L : List Int} {x : Int} (h : IB w g L) (hx : L[i]? = some x) : w.cell? ⟨g, i, none⟩ = some (.int .i64 x) := by
  have h' : w.heap[g]? = some (.cells (ivals L) 3 (0, 0)) := h
  simp [World.cell?, h', ivals, hx]
theorem IB.frozen {w : World} {g : Nat} {L : List Int} (h : IB w g L) (i : Nat) : w.frozen? ⟨g, i, none⟩ = false := by
  have h' : w.heap[g]? = some (.cells (ivals L) 3 (0, 0)) := h
  simp [World.frozen?, h']
theorem IB.keep {w w' : World} {g : Nat} {L : List Int} (h : IB w g L) (hb : Below w.heap.size w w') : IB w' g L := (hb.block g h.lt).trans h
theorem IB.set {w : World} {g : Nat} {L : List Int} (h : IB w g L) (i : Nat) (x : Int) : IB (w.setCell ⟨g, i, none⟩ (.int .i64 x)) g (L.set i x) := by
  have h' : w.heap[g]? = some (.cells (ivals L) 3 (0, 0)) := h
  show _ = _
  simp [World.setCell, Array.getElem?_modify, h', ivals, List.map_set]
theorem IB.nv {w : World} {g : Nat} {L : List Int} (h : IB w g L) : NV w (some ⟨g, 0, none⟩) L :=
  ⟨fun _ => ⟨g, 0, rfl, h.lt, fun i x hx => by rw [Nat.zero_add]; exact h.cell hx⟩⟩
theorem madeI : ∀ (n : Nat) (w : World), n ≤ 1048576 → (Instr.makeSlice 27 (.int .i64 (n : Int)) (.int .i64 (n : Int))).run Try.prog w = .ok (.slice (some ⟨w.heap.size, 0, none⟩) n n) (w.alloc (.cells (ivals (List.replicate n 0)) 3)) := by
  intro n w hn
  have hinfo : (Try.prog.info? 3).map (fun i => (i.zero, i.size, i.bytes)) = some (some (.int .i64 0), 1, 8) := by kernel_rfl
  obtain ⟨i, hi, h1, h2, h3⟩ := info_parts hinfo
  have hr := run_make (P := Try.prog) w 27 3 i _ Try.underlying27 hi h1 .i64 .i64 n n (by omega) (Int.le_refl _) (by rw [h3]; omega) (by omega)
  rw [h2] at hr
  have e : madeCells (Value.int .i64 0).cells (n * 1) = ivals (List.replicate n 0) := by
    apply Array.ext
    · rw [size_madeCells]; simp [ivals]
    · intro i h1 h2
      simp [madeCells, ivals, Value.cells, Nat.mod_one]
  rw [Int.toNat_natCast, e] at hr
  simpa using hr
theorem makeI_b (n : Nat) (w : World) : IB (w.alloc (.cells (ivals (List.replicate n 0)) 3)) w.heap.size (List.replicate n 0) := by
  show (w.heap.push _)[w.heap.size]? = _
  simp
set_option maxRecDepth 100000 in
theorem sum_v (A : Option Addr) (c : Nat) (L : List Int) (w : World) (h : NV w A L) (hL : L.length ≤ 1048576) (hM : Smal 1000000000 L) :
    Calls Try.prog 59 #[.slice A L.length c] w fun e w' => e = .returned (.int .i64 (sumI L)) ∧ w = w' := by
  have HM := Lib.hid hM
  clear hM
  go_enter Try.func59, Try.ntmps59
  go_wp2_with fail
  go_loop [3, 8] (fun s i => ∃ k : Nat, k ≤ L.length ∧ i = .int .i64 k ∧ s = .int .i64 (sumI (L.take k))) (fun _ i => L.length - (intOf i).toNat)
  case atStart => exact ⟨0, by omega, rfl, rfl⟩
  case round =>
    obtain ⟨k, hk, rfl, rfl⟩ := hrel
    by_cases hlt : k < L.length
    · have hd : decide ((k : Int) < (L.length : Int)) = true := by simpa using hlt
      obtain ⟨b, off, rfl, hb, hp⟩ := h.cells (by omega)
      have hget : L[k]? = some L[k] := List.getElem?_eq_getElem hlt
      have c0 := hp k _ hget
      generalize hx : L[k] = x at *
      have hs := sumI_snoc hget
      have b1 := HM.out k
      have b2 := HM.out (k + 1)
      rw [hs] at b2
      obtain ⟨S, hS⟩ : ∃ S, sumI (L.take k) = S := ⟨_, rfl⟩
      rw [hS] at b1 b2 hs
      rw [hS]
      have HS := Lib.hid hs
      clear hs hS hget hx hp
      go_wp2
      go_round
      case rel => exact ⟨k + 1, by omega, by go_num, by rw [HS.out]⟩
      case measure => simp [intOf]; omega
    · have hd : decide ((k : Int) < (L.length : Int)) = false := by simp; omega
      have he : L.take k = L := List.take_of_length_le (by omega)
      rw [he]
      clear he
      go_wp2
      go_ret
      exact ⟨rfl, rfl⟩
set_option maxRecDepth 100000 in
theorem total_v (A : Option Addr) (c : Nat) (L : List Int) (w : World) (h : NV w A L) (hL : L.length ≤ 1048576) (hM : Smal 1000000000 L) :
    Calls Try.prog 63 #[.slice A L.length c] w fun e w' => e = .returned (.int .i64 (sumI L)) ∧ w = w' := by
  have HM := Lib.hid hM
  clear hM
  go_enter Try.func63, Try.ntmps63
  go_wp2_with fail
  go_loop [3, 4] (fun s i => ∃ k : Nat, k ≤ L.length ∧ i = .int .i64 k ∧ s = .int .i64 (sumI (L.take k))) (fun _ i => L.length - (intOf i).toNat)
  case atStart => exact ⟨0, by omega, rfl, rfl⟩
  case round =>
    obtain ⟨k, hk, rfl, rfl⟩ := hrel
    by_cases hlt : k < L.length
    · have hd : decide ((k : Int) < (L.length : Int)) = true := by simpa using hlt
      obtain ⟨b, off, rfl, hb, hp⟩ := h.cells (by omega)
      have hget : L[k]? = some L[k] := List.getElem?_eq_getElem hlt
      have c0 := hp k _ hget
      generalize hx : L[k] = x at *
      have hs := sumI_snoc hget
      have b1 := HM.out k
      have b2 := HM.out (k + 1)
      rw [hs] at b2
      obtain ⟨S, hS⟩ : ∃ S, sumI (L.take k) = S := ⟨_, rfl⟩
      rw [hS] at b1 b2 hs
      rw [hS]
      have HS := Lib.hid hs
      clear hs hS hget hx hp
      go_wp2
      go_round
      case rel => exact ⟨k + 1, by omega, by go_num, by rw [HS.out]⟩
      case measure => simp [intOf]; omega
    · have hd : decide ((k : Int) < (L.length : Int)) = false := by simp; omega
      have he : L.take k = L := List.take_of_length_le (by omega)
      rw [he]
      clear he
      go_wp2
      go_ret
      exact ⟨rfl, rfl⟩
end Go.Proofs.Ytignigcknfklkab
end
section
namespace Go.Proofs.Ytignigcknfklkab
open Go.RowKit
set_option linter.unusedVariables false
set_option maxHeartbeats 1000000
def nvals (L : List Int) : List Value := L.map (Value.int .i64)
theorem nvals_snoc (L : List Int) (x : Int) : nvals L ++ [.int .i64 x] = nvals (L ++ [x]) := by simp [nvals]
theorem own_chgN {w w' : World} {base rb : Nat} {e : TypeId} {size : Nat} {v : Value} {n : Nat} {xs : List Value} (h : w.ownsRow base e size v n xs) (hc : Chg [rb] w w') (hr : rb < base) : w'.ownsRow base e size v n xs :=
  h.kept (row := some rb) ⟨hc.os, hc.tape, hc.output, hc.size, fun k hk hne => hc.block k hk (by simp; exact fun e => hne (by rw [e]))⟩ (by
    cases hv : v.ownBlock with
    | none => exact .inl rfl
    | some g => exact .inr (fun e => by have := h.lt g hv; cases e; omega))
theorem chg_grownN {S : List Nat} {a W w5 : World} {v : Value} {o : Obj} {lo hi : Nat} (h : Chg S a W) (hg : (W.alloc o).grownBy w5 v.ownBlock) (hob : ∀ k, v.ownBlock = some k → lo ≤ k ∧ k < hi) (hlo : a.heap.size ≤ lo) : Chg S a w5 :=
  ⟨hg.os.trans (h.alloc o).os, hg.tape.trans (h.alloc o).tape, hg.output.trans (h.alloc o).output, Nat.le_trans (h.alloc o).size hg.size, fun k hk hs => (hg.block k (Nat.lt_of_lt_of_le hk (h.alloc o).size) (fun e => by have := hob k e.symm; omega)).trans ((h.alloc o).block k hk hs)⟩
theorem rd_grownN {B rb : Nat} {A : Option Addr} {n c m : Nat} {W w5 : World} {v : Value} {o : Obj} {lo hi : Nat} (h : Rd B rb A n c m W) (hg : (W.alloc o).grownBy w5 v.ownBlock) (hob : ∀ k, v.ownBlock = some k → lo ≤ k ∧ k < hi) (hlo : rb < lo) : Rd B rb A n c m w5 := by
  have hb := h.base
  cases hv : v.ownBlock with
  | none =>
    rw [hv] at hg
    exact h.keep (S := []) ⟨hg.os, hg.tape, hg.output, Nat.le_trans (by simp) hg.size, fun k hk _ => (hg.block k (by simp; omega) (fun e => by cases e)).trans (Below.heap_alloc _ _ _ hk)⟩ (by simp)
  | some g =>
    have := hob g hv
    rw [hv] at hg
    exact h.keep (S := [g]) (Chg.of_grown ((Chg.refl [g] W).alloc o) hg (.inl (by simp))) (by simp; omega)
theorem own_in1 {w : World} {base n : Nat} {v : Value} {M : List Int} {T : TypeId} (h : w.ownsRow base T 1 v n (nvals M)) (hn : n = M.length) :
    (v = .slice none 0 0 ∧ M = []) ∨ ∃ g cap, ∃ cs : Array Value, v = .slice (some ⟨g, 0, none⟩) n cap ∧ base ≤ g ∧ n ≤ cap ∧ w.heap[g]? = some (.cells cs T (0, 0)) ∧ cs.size = cap * 1 ∧ ∀ (i : Nat) (x : Int), M[i]? = some x → cs[i]? = some (Value.int .i64 x) := by
  rcases h.2 with ⟨rfl, h0⟩ | ⟨g, cap, cur, rfl, hb, hg, hc, _, hs, ht⟩
  · exact .inl ⟨rfl, List.length_eq_zero_iff.1 (by omega)⟩
  · refine .inr ⟨g, cap, cur, rfl, hb, hc, hg, hs, fun i x hx => ?_⟩
    have e : (nvals M)[i]? = some (Value.int .i64 x) := by simp [nvals, hx]
    have hi := (List.getElem?_eq_some_iff.1 hx).1
    rw [← ht, List.getElem?_take] at e
    rw [if_pos (by omega)] at e
    simpa using e
theorem nv_of {w : World} {g : Nat} {cs : Array Value} {T : TypeId} {M : List Int} (hh : w.heap[g]? = some (.cells cs T (0, 0))) (hc : ∀ (i : Nat) (x : Int), M[i]? = some x → cs[i]? = some (Value.int .i64 x)) : NV w (some ⟨g, 0, none⟩) M :=
  ⟨fun _ => ⟨g, 0, rfl, (Array.getElem?_eq_some_iff.1 hh).1, fun i x hx => by rw [Nat.zero_add]; exact (cell_of_heap hh i).trans (hc i x hx)⟩⟩
theorem NV.chg {w w' : World} {A : Option Addr} {L : List Int} {rb : Nat} (h : NV w A L) (hc : Chg [rb] w w') (hne : ∀ a, A = some a → a.block ≠ rb) : NV w' A L :=
  ⟨fun h0 => let ⟨b, off, e, hl, hp⟩ := h.cells h0; ⟨b, off, e, Nat.lt_of_lt_of_le hl hc.size, fun i x hx => (hc.cell (p := ⟨b, off + i, none⟩) hl (by simp; exact hne _ e)).trans (hp i x hx)⟩⟩
theorem int_info : ∃ (i : TypeInfo) (z : Value), Try.prog.info? 3 = some i ∧ i.zero = some z ∧ i.size = 1 ∧ i.bytes = 8 ∧ z.cells.size = 1 := by
  have hinfo : (Try.prog.info? 3).map (fun i => (i.zero, i.size, i.bytes)) = some (some (.int .i64 0), 1, 8) := by kernel_rfl
  obtain ⟨i, hi, h1, h2, h3⟩ := info_parts hinfo
  exact ⟨i, _, hi, h1, h2, h3, rfl⟩
theorem new1 (W : World) (x : Int) (T : TypeId) : ∀ (j : Nat) (u : Value), [Value.int .i64 x][j]? = some u → (W.alloc (.cells #[.int .i64 x] T)).cell? ((⟨W.heap.size, 0, none⟩ : Addr).add j) = some u := fun j u h => by
  have hadd : (⟨W.heap.size, 0, none⟩ : Addr).add j = ⟨W.heap.size, j, none⟩ := by unfold Addr.add; split <;> simp_all
  rw [hadd]
  exact (cell_of_heap (heap_alloc_new W _) j).trans (by simpa using h)
end Go.Proofs.Ytignigcknfklkab
end
section
namespace Go.Proofs.Ytignigcknfklkab
open Go.RowKit
/-- behind a region that draws its order -/
theorem bdrewn {W w' : World} (h : Below W.drew.heap.size W.drew w') : Below W.heap.size W w' := (Below.refl _ _).drew.trans h
end Go.Proofs.Ytignigcknfklkab
end
section
namespace Go.Proofs.Ytignigcknfklkab
open Go.RowKit
set_option linter.unusedVariables false
set_option maxHeartbeats 1000000
/-- values written side by side -/
def wrAt (cs : Array Value) (o : Nat) : List Value → Array Value
  | [] => cs
  | v :: r => wrAt (cs.setIfInBounds o v) (o + 1) r
theorem wrAt_size : ∀ (vs : List Value) (cs : Array Value) (o : Nat), (wrAt cs o vs).size = cs.size
  | [], cs, o => rfl
  | v :: r, cs, o => by unfold wrAt; rw [wrAt_size r]; simp
theorem wrAt_lo : ∀ (vs : List Value) (cs : Array Value) (o i : Nat), i < o → (wrAt cs o vs)[i]? = cs[i]?
  | [], cs, o, i, _ => rfl
  | v :: r, cs, o, i, h => by unfold wrAt; rw [wrAt_lo r _ _ _ (by omega), Array.getElem?_setIfInBounds_ne (by omega)]
theorem wrAt_hi : ∀ (vs : List Value) (cs : Array Value) (o i : Nat), o + vs.length ≤ i → (wrAt cs o vs)[i]? = cs[i]?
  | [], cs, o, i, _ => rfl
  | v :: r, cs, o, i, h => by
    simp only [List.length_cons] at h
    unfold wrAt; rw [wrAt_hi r _ _ _ (by omega), Array.getElem?_setIfInBounds_ne (by omega)]
theorem wrAt_in : ∀ (vs : List Value) (cs : Array Value) (o j : Nat), o + vs.length ≤ cs.size → j < vs.length → (wrAt cs o vs)[o + j]? = vs[j]?
  | [], cs, o, j, _, h => by simp at h
  | v :: r, cs, o, 0, h, _ => by
    simp only [List.length_cons] at h
    unfold wrAt; rw [wrAt_lo r _ _ _ (by omega), Nat.add_zero, Array.getElem?_setIfInBounds_self_of_lt (by omega)]
    rfl
  | v :: r, cs, o, j + 1, h, hj => by
    simp only [List.length_cons] at h hj
    unfold wrAt
    rw [show o + (j + 1) = o + 1 + j from by omega, wrAt_in r _ _ _ (by simp; omega) (by omega)]
    simp
theorem putS {w : World} {b i : Nat} {cs : Array Value} {T : TypeId} {fz : Nat × Nat} (h : w.heap[b]? = some (.cells cs T fz)) (u : Value) : (w.setCell ⟨b, i, none⟩ u).heap[b]? = some (.cells (cs.setIfInBounds i u) T fz) := by
  simp [World.setCell, Array.getElem?_modify, h]
theorem cellS {w : World} {b : Nat} {cs : Array Value} {T : TypeId} {fz : Nat × Nat} (h : w.heap[b]? = some (.cells cs T fz)) (i : Nat) : w.cell? ⟨b, i, none⟩ = cs[i]? := by simp [World.cell?, h]
theorem frozenS {w : World} {b : Nat} {cs : Array Value} {T : TypeId} (h : w.heap[b]? = some (.cells cs T (0, 0))) (i : Nat) : w.frozen? ⟨b, i, none⟩ = false := by simp [World.frozen?, h]
theorem thereS {w : World} {b : Nat} {cs : Array Value} {T : TypeId} {fz : Nat × Nat} (h : w.heap[b]? = some (.cells cs T fz)) {i : Nat} (hi : i < cs.size) : ∃ v, w.cell? ⟨b, i, none⟩ = some v := ⟨cs[i], (cellS h i).trans (by simp [hi])⟩
theorem newS (w : World) (o : Obj) : (w.alloc o).heap[w.heap.size]? = some o := by
  show (w.heap.push _)[w.heap.size]? = _
  simp
theorem ltS {w : World} {g : Nat} {o : Obj} (h : w.heap[g]? = some o) : g < w.heap.size := (Array.getElem?_eq_some_iff.1 h).1
theorem gsetS {w w' : World} {g : Nat} (h : w.grownBy w' (some g)) (o : Nat) (v : Value) : w.grownBy (w'.setCell ⟨g, o, none⟩ v) (some g) :=
  ⟨h.os, h.tape, h.output, by simpa [World.setCell] using h.size, fun k hk hne => (Below.heap_setCell w' ⟨g, o, none⟩ v k (by rintro rfl; exact hne rfl)).trans (h.block k hk hne)⟩
theorem greflS (w : World) (g : Nat) : w.grownBy w (some g) := ⟨rfl, rfl, rfl, Nat.le_refl _, fun _ _ _ => rfl⟩
/-- the values lie in the cells from o on -/
def InS (cs : Array Value) (o : Nat) (l : List Value) : Prop := ∀ j u, l[j]? = some u → cs[o + j]? = some u
theorem InS.write {cs : Array Value} {o : Nat} {l : List Value} (h : o + l.length ≤ cs.size) : InS (wrAt cs o l) o l := fun j u hu => by
  have hj := (List.getElem?_eq_some_iff.1 hu).1
  rw [wrAt_in _ _ _ _ h hj, hu]
theorem InS.keepS {cs : Array Value} {o o' : Nat} {l m : List Value} (h : InS cs o' m) (hd : o' + m.length ≤ o ∨ o + l.length ≤ o') : InS (wrAt cs o l) o' m := fun j u hu => by
  have hj := (List.getElem?_eq_some_iff.1 hu).1
  rcases hd with hd | hd
  · rw [wrAt_lo _ _ _ _ (by omega)]; exact h j u hu
  · rw [wrAt_hi _ _ _ _ (by omega)]; exact h j u hu
end Go.Proofs.Ytignigcknfklkab
end
section
namespace Go.Proofs.Ytignigcknfklkab
open Go.RowKit
set_option linter.unusedVariables false
set_option maxHeartbeats 1000000
attribute [local go_sem] growUpon_value growUpon_skip growUpon_enter
structure Ln where
  wt : Int
  mi : Int
def valsLn (p : Ln) : List Value := [.int .i64 p.wt, .int .i64 p.mi]
/-- a slice that reads as this list -/
structure LnV (w : World) (A : Option Addr) (L : List Ln) : Prop where
  cells : 0 < L.length → ∃ b off, A = some ⟨b, off, none⟩ ∧ b < w.heap.size ∧ ∀ i p, L[i]? = some p → w.cell? ⟨b, off + i * 2, none⟩ = some (.int .i64 p.wt) ∧ w.cell? ⟨b, off + i * 2 + 1, none⟩ = some (.int .i64 p.mi)
theorem LnV.keep {w w' : World} {A : Option Addr} {L : List Ln} (h : LnV w A L) (hb : Below w.heap.size w w') : LnV w' A L :=
  ⟨fun h0 => let ⟨b, off, e, hl, hp⟩ := h.cells h0; ⟨b, off, e, Nat.lt_of_lt_of_le hl hb.size, fun i p hi => by
    obtain ⟨c0, c1⟩ := hp i p hi
    exact ⟨(hb.cell (p := ⟨b, off + i * 2, none⟩) hl).trans c0, (hb.cell (p := ⟨b, off + i * 2 + 1, none⟩) hl).trans c1⟩⟩⟩
theorem LnV.nil (w : World) (A : Option Addr) : LnV w A [] := ⟨fun h => absurd h (by simp)⟩
/-- what a new block holds -/
def LnB (w : World) (g : Nat) (L : List Ln) : Prop := ∃ cs : Array Value, w.heap[g]? = some (.cells cs 34 (0, 0)) ∧ cs.size = L.length * 2 ∧ ∀ i p, L[i]? = some p → InS cs (i * 2) (valsLn p)
theorem LnB.v {w : World} {g : Nat} {L : List Ln} (h : LnB w g L) : LnV w (some ⟨g, 0, none⟩) L := by
  obtain ⟨cs, hh, hs, hc⟩ := h
  refine ⟨fun _ => ⟨g, 0, rfl, ltS hh, fun i p hp => ?_⟩⟩
  have hi := hc i p hp
  simp only [Nat.zero_add]
  exact ⟨(cellS hh _).trans (hi 0 _ rfl), (cellS hh _).trans (hi 1 _ rfl)⟩
theorem LnB.lt {w : World} {g : Nat} {L : List Ln} (h : LnB w g L) : g < w.heap.size := by obtain ⟨cs, hh, _⟩ := h; exact ltS hh
theorem LnB.keep {w w' : World} {g : Nat} {L : List Ln} (h : LnB w g L) (hb : Below w.heap.size w w') : LnB w' g L := by
  obtain ⟨cs, hh, hs, hc⟩ := h
  exact ⟨cs, (hb.block g (ltS hh)).trans hh, hs, hc⟩
theorem LnB.but {w w' : World} {g h : Nat} {L : List Ln} (hi : LnB w h L) (hg : w.grownBy w' (some g)) (hne : h ≠ g) : LnB w' h L := by
  obtain ⟨cs, hh, hs, hc⟩ := hi
  exact ⟨cs, (hg.block h (ltS hh) (fun e => hne (Option.some.inj e))).trans hh, hs, hc⟩
theorem madeLn : ∃ f : Nat → Array Value, (∀ n, (f n).size = n * 2) ∧ ∀ (n : Nat) (w : World), n ≤ 1048576 → (Instr.makeSlice 23 (.int .i64 (n : Int)) (.int .i64 (n : Int))).run Try.prog w = .ok (.slice (some ⟨w.heap.size, 0, none⟩) n n) (w.alloc (.cells (f n) 34)) := by
  have hinfo : (Try.prog.info? 34).map (fun i => (i.zero, i.size, i.bytes)) = some (some (.agg #[.int .i64 0, .int .i64 0]), 2, 16) := by kernel_rfl
  obtain ⟨i, hi, h1, h2, h3⟩ := info_parts hinfo
  refine ⟨fun n => madeCells (Value.agg #[.int .i64 0, .int .i64 0]).cells (n * 2), fun n => size_madeCells _ _, fun n w hn => ?_⟩
  have hr := run_make (P := Try.prog) w 23 34 i _ Try.underlying23 hi h1 .i64 .i64 n n (by omega) (Int.le_refl _) (by rw [h3]; omega) (by omega)
  rw [h2] at hr
  simpa using hr
theorem putLn {w : World} {b : Nat} {cs : Array Value} {T : TypeId} {fz : Nat × Nat} (h : w.heap[b]? = some (.cells cs T fz)) (o : Nat) (p : Ln) :
    (((w.setCell ⟨b, o, none⟩ (.int .i64 p.wt)).setCell ⟨b, o + 1, none⟩ (.int .i64 p.mi))).heap[b]? = some (.cells (wrAt cs o (valsLn p)) T fz) :=
  putS (putS h _) _
theorem putLnb {B b : Nat} {a w : World} (h : Below B a w) (hb : B ≤ b) (o : Nat) (p : Ln) : Below B a (((w.setCell ⟨b, o, none⟩ (.int .i64 p.wt)).setCell ⟨b, o + 1, none⟩ (.int .i64 p.mi))) :=
  ((h).setCell hb _).setCell hb _
end Go.Proofs.Ytignigcknfklkab
end
section
namespace Go.Proofs.Ytignigcknfklkab
open Go.RowKit
set_option linter.unusedVariables false
set_option maxHeartbeats 1000000
attribute [local go_sem] growUpon_value growUpon_skip growUpon_enter
structure Sp where
  sa : Int
  many : Int
  need : Int
def valsSp (p : Sp) : List Value := [.int .i64 p.sa, .int .i64 p.many, .int .i64 p.need]
/-- a slice that reads as this list -/
structure SpV (w : World) (A : Option Addr) (L : List Sp) : Prop where
  cells : 0 < L.length → ∃ b off, A = some ⟨b, off, none⟩ ∧ b < w.heap.size ∧ ∀ i p, L[i]? = some p → w.cell? ⟨b, off + i * 3, none⟩ = some (.int .i64 p.sa) ∧ w.cell? ⟨b, off + i * 3 + 1, none⟩ = some (.int .i64 p.many) ∧ w.cell? ⟨b, off + i * 3 + 2, none⟩ = some (.int .i64 p.need)
theorem SpV.keep {w w' : World} {A : Option Addr} {L : List Sp} (h : SpV w A L) (hb : Below w.heap.size w w') : SpV w' A L :=
  ⟨fun h0 => let ⟨b, off, e, hl, hp⟩ := h.cells h0; ⟨b, off, e, Nat.lt_of_lt_of_le hl hb.size, fun i p hi => by
    obtain ⟨c0, c1, c2⟩ := hp i p hi
    exact ⟨(hb.cell (p := ⟨b, off + i * 3, none⟩) hl).trans c0, (hb.cell (p := ⟨b, off + i * 3 + 1, none⟩) hl).trans c1, (hb.cell (p := ⟨b, off + i * 3 + 2, none⟩) hl).trans c2⟩⟩⟩
theorem SpV.nil (w : World) (A : Option Addr) : SpV w A [] := ⟨fun h => absurd h (by simp)⟩
/-- what a new block holds -/
def SpB (w : World) (g : Nat) (L : List Sp) : Prop := ∃ cs : Array Value, w.heap[g]? = some (.cells cs 32 (0, 0)) ∧ cs.size = L.length * 3 ∧ ∀ i p, L[i]? = some p → InS cs (i * 3) (valsSp p)
theorem SpB.v {w : World} {g : Nat} {L : List Sp} (h : SpB w g L) : SpV w (some ⟨g, 0, none⟩) L := by
  obtain ⟨cs, hh, hs, hc⟩ := h
  refine ⟨fun _ => ⟨g, 0, rfl, ltS hh, fun i p hp => ?_⟩⟩
  have hi := hc i p hp
  simp only [Nat.zero_add]
  exact ⟨(cellS hh _).trans (hi 0 _ rfl), (cellS hh _).trans (hi 1 _ rfl), (cellS hh _).trans (hi 2 _ rfl)⟩
theorem SpB.lt {w : World} {g : Nat} {L : List Sp} (h : SpB w g L) : g < w.heap.size := by obtain ⟨cs, hh, _⟩ := h; exact ltS hh
theorem SpB.keep {w w' : World} {g : Nat} {L : List Sp} (h : SpB w g L) (hb : Below w.heap.size w w') : SpB w' g L := by
  obtain ⟨cs, hh, hs, hc⟩ := h
  exact ⟨cs, (hb.block g (ltS hh)).trans hh, hs, hc⟩
theorem SpB.but {w w' : World} {g h : Nat} {L : List Sp} (hi : SpB w h L) (hg : w.grownBy w' (some g)) (hne : h ≠ g) : SpB w' h L := by
  obtain ⟨cs, hh, hs, hc⟩ := hi
  exact ⟨cs, (hg.block h (ltS hh) (fun e => hne (Option.some.inj e))).trans hh, hs, hc⟩
theorem madeSp : ∃ f : Nat → Array Value, (∀ n, (f n).size = n * 3) ∧ ∀ (n : Nat) (w : World), n ≤ 1048576 → (Instr.makeSlice 24 (.int .i64 (n : Int)) (.int .i64 (n : Int))).run Try.prog w = .ok (.slice (some ⟨w.heap.size, 0, none⟩) n n) (w.alloc (.cells (f n) 32)) := by
  have hinfo : (Try.prog.info? 32).map (fun i => (i.zero, i.size, i.bytes)) = some (some (.agg #[.int .i64 0, .int .i64 0, .int .i64 0]), 3, 24) := by kernel_rfl
  obtain ⟨i, hi, h1, h2, h3⟩ := info_parts hinfo
  refine ⟨fun n => madeCells (Value.agg #[.int .i64 0, .int .i64 0, .int .i64 0]).cells (n * 3), fun n => size_madeCells _ _, fun n w hn => ?_⟩
  have hr := run_make (P := Try.prog) w 24 32 i _ Try.underlying24 hi h1 .i64 .i64 n n (by omega) (Int.le_refl _) (by rw [h3]; omega) (by omega)
  rw [h2] at hr
  simpa using hr
theorem putSp {w : World} {b : Nat} {cs : Array Value} {T : TypeId} {fz : Nat × Nat} (h : w.heap[b]? = some (.cells cs T fz)) (o : Nat) (p : Sp) :
    ((((w.setCell ⟨b, o, none⟩ (.int .i64 p.sa)).setCell ⟨b, o + 1, none⟩ (.int .i64 p.many)).setCell ⟨b, o + 2, none⟩ (.int .i64 p.need))).heap[b]? = some (.cells (wrAt cs o (valsSp p)) T fz) :=
  putS (putS (putS h _) _) _
theorem putSpb {B b : Nat} {a w : World} (h : Below B a w) (hb : B ≤ b) (o : Nat) (p : Sp) : Below B a ((((w.setCell ⟨b, o, none⟩ (.int .i64 p.sa)).setCell ⟨b, o + 1, none⟩ (.int .i64 p.many)).setCell ⟨b, o + 2, none⟩ (.int .i64 p.need))) :=
  (((h).setCell hb _).setCell hb _).setCell hb _
end Go.Proofs.Ytignigcknfklkab
end
section
namespace Go.Proofs.Ytignigcknfklkab
open Go.RowKit
set_option linter.unusedVariables false
set_option maxHeartbeats 1000000
attribute [local go_sem] growUpon_value growUpon_skip growUpon_enter
theorem pick_any2 {B rb : Nat} {A : Option Addr} {l c m : Nat} (n : Int) (w : World) (h : Rd B rb A l c m w) (hm : m ≤ 1000000) :
    Calls Try.prog 35 #[.pointer (some ⟨rb, 0, none⟩), .int .i64 n] w fun e w' => (∃ v, e = .returned (.int .i64 v) ∧ (1 ≤ n → 0 ≤ v ∧ v < n) ∧ (n < 1 → v = 0)) ∧ Rd B rb A l c (m + 1) w' ∧ Chg [rb] w w' := by
  by_cases hn : 1 ≤ n
  · exact (pick_any n w h hm).mono fun e w' ⟨⟨v, he, h3⟩, h1, h2⟩ => ⟨⟨v, he, h3, fun h => by omega⟩, h1, h2⟩
  · exact (pick_lo n w h hm (by omega)).mono fun e w' ⟨he, h1, h2⟩ => ⟨⟨0, he, fun h => absurd h hn, fun _ => rfl⟩, h1, h2⟩
def lnvals : List Ln → List Value
  | [] => []
  | r :: t => valsLn r ++ lnvals t
theorem lnvals_append (A B : List Ln) : lnvals (A ++ B) = lnvals A ++ lnvals B := by
  induction A with
  | nil => rfl
  | cons r t ih => simp [lnvals, ih]
theorem lnvals_snoc (L : List Ln) (r : Ln) : lnvals L ++ valsLn r = lnvals (L ++ [r]) := by rw [lnvals_append]; simp [lnvals]
theorem lnvals_get : ∀ {M : List Ln} {i : Nat} {r : Ln}, M[i]? = some r → ∀ j, j < 2 → (lnvals M)[i * 2 + j]? = (valsLn r)[j]?
  | [], i, r, h, _, _ => by simp at h
  | q :: t, 0, r, h, j, hj => by
    simp at h; subst h
    show (valsLn q ++ lnvals t)[0 * 2 + j]? = _
    rw [List.getElem?_append_left (by simp [valsLn]; omega)]; simp
  | q :: t, i + 1, r, h, j, hj => by
    show (valsLn q ++ lnvals t)[(i + 1) * 2 + j]? = _
    rw [List.getElem?_append_right (by simp [valsLn]; omega)]
    have := lnvals_get (M := t) (i := i) (r := r) (by simpa using h) j hj
    rw [← this]; congr 1; simp [valsLn]; omega
theorem ln_infoG : ∃ (i : TypeInfo) (z : Value), Try.prog.info? 34 = some i ∧ i.zero = some z ∧ i.size = 2 ∧ i.bytes = 16 ∧ z.cells.size = 2 := by
  have hinfo : (Try.prog.info? 34).map (fun i => (i.zero, i.size, i.bytes)) = some (some (.agg #[.int .i64 0, .int .i64 0]), 2, 16) := by kernel_rfl
  obtain ⟨i, hi, h1, h2, h3⟩ := info_parts hinfo
  exact ⟨i, _, hi, h1, h2, h3, rfl⟩
theorem ln_newG (W : World) (r : Ln) (T : TypeId) : ∀ (j : Nat) (u : Value), (valsLn r)[j]? = some u → (W.alloc (.cells #[.int .i64 r.wt, .int .i64 r.mi] T)).cell? ((⟨W.heap.size, 0, none⟩ : Addr).add j) = some u := fun j u h => by
  have hadd : (⟨W.heap.size, 0, none⟩ : Addr).add j = ⟨W.heap.size, j, none⟩ := by unfold Addr.add; split <;> simp_all
  rw [hadd]
  exact (cellS (newS W _) j).trans (by simpa [valsLn] using h)
theorem valsLn_oneG (r : Ln) : ∀ u ∈ valsLn r, u.oneCell' = true := by intro u hu; simp [valsLn] at hu; rcases hu with rfl | rfl <;> rfl
theorem ln_inG {w : World} {base n : Nat} {v : Value} {M : List Ln} {T : TypeId} (h : w.ownsRow base T 2 v n (lnvals M)) (hn : n = M.length) :
    (v = .slice none 0 0 ∧ M = []) ∨ ∃ g cap, ∃ cs : Array Value, v = .slice (some ⟨g, 0, none⟩) n cap ∧ base ≤ g ∧ n ≤ cap ∧ w.heap[g]? = some (.cells cs T (0, 0)) ∧ cs.size = cap * 2 ∧ ∀ (i : Nat) (x : Ln), M[i]? = some x → InS cs (i * 2) (valsLn x) := by
  rcases h.2 with ⟨rfl, h0⟩ | ⟨g, cap, cur, rfl, hb, hg, hc, _, hs, ht⟩
  · exact .inl ⟨rfl, List.length_eq_zero_iff.1 (by omega)⟩
  · refine .inr ⟨g, cap, cur, rfl, hb, hc, hg, hs, fun i r hr j u hu => ?_⟩
    have hj : j < 2 := by have := (List.getElem?_eq_some_iff.1 hu).1; simpa [valsLn] using this
    have e := (lnvals_get hr j hj).trans hu
    rw [← ht, List.getElem?_take] at e
    have : i < M.length := (List.getElem?_eq_some_iff.1 hr).1
    rw [if_pos (by omega)] at e
    simpa using e
theorem LnV.inG {w : World} {g : Nat} {cs : Array Value} {T : TypeId} {M : List Ln} (hh : w.heap[g]? = some (.cells cs T (0, 0))) (hc : ∀ (i : Nat) (x : Ln), M[i]? = some x → InS cs (i * 2) (valsLn x)) : LnV w (some ⟨g, 0, none⟩) M :=
  ⟨fun _ => ⟨g, 0, rfl, ltS hh, fun i r hr => by
    have e : ∀ j u, (valsLn r)[j]? = some u → w.cell? ⟨g, 0 + i * 2 + j, none⟩ = some u := fun j u hu => by rw [Nat.zero_add]; exact (cellS hh _).trans (hc i r hr j u hu)
    exact ⟨e 0 _ rfl, e 1 _ rfl⟩⟩⟩
theorem LnV.chgG {w w' : World} {A : Option Addr} {L : List Ln} {rb : Nat} (h : LnV w A L) (hc : Chg [rb] w w') (hne : ∀ a, A = some a → a.block ≠ rb) : LnV w' A L :=
  ⟨fun h0 => let ⟨b, off, e, hl, hp⟩ := h.cells h0; ⟨b, off, e, Nat.lt_of_lt_of_le hl hc.size, fun i x hx => by
    have k : ∀ j, w'.cell? ⟨b, j, none⟩ = w.cell? ⟨b, j, none⟩ := fun j => hc.cell (p := ⟨b, j, none⟩) hl (by simp; exact hne _ e)
    have := hp i x hx
    exact ⟨(k _).trans this.1, (k _).trans this.2⟩⟩⟩
/-- a list that was drawn, in memory from a block on -/
def LnO (base : Nat) (w : World) (v : Value) (L : List Ln) : Prop := ∃ A c, v = .slice A L.length c ∧ L.length ≤ c ∧ LnV w A L ∧ ∀ a : Addr, A = some a → base ≤ a.block
theorem LnO.chg {base rb : Nat} {w w' : World} {v : Value} {L : List Ln} (h : LnO base w v L) (hc : Chg [rb] w w') (hr : rb < base) : LnO base w' v L := by
  obtain ⟨A, c, e, h1, h2, h3⟩ := h
  exact ⟨A, c, e, h1, h2.chgG hc (fun a ha => by have := h3 a ha; omega), h3⟩
theorem LnO.of {base : Nat} {w : World} {v : Value} {L : List Ln} {T : TypeId} (h : w.ownsRow base T 2 v L.length (lnvals L)) : LnO base w v L := by
  rcases ln_inG h rfl with ⟨rfl, rfl⟩ | ⟨g, cap, cs, rfl, hg, hc, hh, hs, hin⟩
  · exact ⟨none, 0, rfl, Nat.le_refl _, LnV.nil _ _, fun a e => by cases e⟩
  · exact ⟨_, cap, rfl, hc, LnV.inG hh hin, fun a e => by cases e; exact hg⟩
def spvals : List Sp → List Value
  | [] => []
  | r :: t => valsSp r ++ spvals t
theorem spvals_append (A B : List Sp) : spvals (A ++ B) = spvals A ++ spvals B := by
  induction A with
  | nil => rfl
  | cons r t ih => simp [spvals, ih]
theorem spvals_snoc (L : List Sp) (r : Sp) : spvals L ++ valsSp r = spvals (L ++ [r]) := by rw [spvals_append]; simp [spvals]
theorem spvals_get : ∀ {M : List Sp} {i : Nat} {r : Sp}, M[i]? = some r → ∀ j, j < 3 → (spvals M)[i * 3 + j]? = (valsSp r)[j]?
  | [], i, r, h, _, _ => by simp at h
  | q :: t, 0, r, h, j, hj => by
    simp at h; subst h
    show (valsSp q ++ spvals t)[0 * 3 + j]? = _
    rw [List.getElem?_append_left (by simp [valsSp]; omega)]; simp
  | q :: t, i + 1, r, h, j, hj => by
    show (valsSp q ++ spvals t)[(i + 1) * 3 + j]? = _
    rw [List.getElem?_append_right (by simp [valsSp]; omega)]
    have := spvals_get (M := t) (i := i) (r := r) (by simpa using h) j hj
    rw [← this]; congr 1; simp [valsSp]; omega
theorem sp_infoG : ∃ (i : TypeInfo) (z : Value), Try.prog.info? 32 = some i ∧ i.zero = some z ∧ i.size = 3 ∧ i.bytes = 24 ∧ z.cells.size = 3 := by
  have hinfo : (Try.prog.info? 32).map (fun i => (i.zero, i.size, i.bytes)) = some (some (.agg #[.int .i64 0, .int .i64 0, .int .i64 0]), 3, 24) := by kernel_rfl
  obtain ⟨i, hi, h1, h2, h3⟩ := info_parts hinfo
  exact ⟨i, _, hi, h1, h2, h3, rfl⟩
theorem sp_newG (W : World) (r : Sp) (T : TypeId) : ∀ (j : Nat) (u : Value), (valsSp r)[j]? = some u → (W.alloc (.cells #[.int .i64 r.sa, .int .i64 r.many, .int .i64 r.need] T)).cell? ((⟨W.heap.size, 0, none⟩ : Addr).add j) = some u := fun j u h => by
  have hadd : (⟨W.heap.size, 0, none⟩ : Addr).add j = ⟨W.heap.size, j, none⟩ := by unfold Addr.add; split <;> simp_all
  rw [hadd]
  exact (cellS (newS W _) j).trans (by simpa [valsSp] using h)
theorem valsSp_oneG (r : Sp) : ∀ u ∈ valsSp r, u.oneCell' = true := by intro u hu; simp [valsSp] at hu; rcases hu with rfl | rfl | rfl <;> rfl
theorem sp_inG {w : World} {base n : Nat} {v : Value} {M : List Sp} {T : TypeId} (h : w.ownsRow base T 3 v n (spvals M)) (hn : n = M.length) :
    (v = .slice none 0 0 ∧ M = []) ∨ ∃ g cap, ∃ cs : Array Value, v = .slice (some ⟨g, 0, none⟩) n cap ∧ base ≤ g ∧ n ≤ cap ∧ w.heap[g]? = some (.cells cs T (0, 0)) ∧ cs.size = cap * 3 ∧ ∀ (i : Nat) (x : Sp), M[i]? = some x → InS cs (i * 3) (valsSp x) := by
  rcases h.2 with ⟨rfl, h0⟩ | ⟨g, cap, cur, rfl, hb, hg, hc, _, hs, ht⟩
  · exact .inl ⟨rfl, List.length_eq_zero_iff.1 (by omega)⟩
  · refine .inr ⟨g, cap, cur, rfl, hb, hc, hg, hs, fun i r hr j u hu => ?_⟩
    have hj : j < 3 := by have := (List.getElem?_eq_some_iff.1 hu).1; simpa [valsSp] using this
    have e := (spvals_get hr j hj).trans hu
    rw [← ht, List.getElem?_take] at e
    have : i < M.length := (List.getElem?_eq_some_iff.1 hr).1
    rw [if_pos (by omega)] at e
    simpa using e
theorem SpV.inG {w : World} {g : Nat} {cs : Array Value} {T : TypeId} {M : List Sp} (hh : w.heap[g]? = some (.cells cs T (0, 0))) (hc : ∀ (i : Nat) (x : Sp), M[i]? = some x → InS cs (i * 3) (valsSp x)) : SpV w (some ⟨g, 0, none⟩) M :=
  ⟨fun _ => ⟨g, 0, rfl, ltS hh, fun i r hr => by
    have e : ∀ j u, (valsSp r)[j]? = some u → w.cell? ⟨g, 0 + i * 3 + j, none⟩ = some u := fun j u hu => by rw [Nat.zero_add]; exact (cellS hh _).trans (hc i r hr j u hu)
    exact ⟨e 0 _ rfl, e 1 _ rfl, e 2 _ rfl⟩⟩⟩
theorem SpV.chgG {w w' : World} {A : Option Addr} {L : List Sp} {rb : Nat} (h : SpV w A L) (hc : Chg [rb] w w') (hne : ∀ a, A = some a → a.block ≠ rb) : SpV w' A L :=
  ⟨fun h0 => let ⟨b, off, e, hl, hp⟩ := h.cells h0; ⟨b, off, e, Nat.lt_of_lt_of_le hl hc.size, fun i x hx => by
    have k : ∀ j, w'.cell? ⟨b, j, none⟩ = w.cell? ⟨b, j, none⟩ := fun j => hc.cell (p := ⟨b, j, none⟩) hl (by simp; exact hne _ e)
    have := hp i x hx
    exact ⟨(k _).trans this.1, (k _).trans this.2.1, (k _).trans this.2.2⟩⟩⟩
/-- a list that was drawn, in memory from a block on -/
def SpO (base : Nat) (w : World) (v : Value) (L : List Sp) : Prop := ∃ A c, v = .slice A L.length c ∧ L.length ≤ c ∧ SpV w A L ∧ ∀ a : Addr, A = some a → base ≤ a.block
theorem SpO.chg {base rb : Nat} {w w' : World} {v : Value} {L : List Sp} (h : SpO base w v L) (hc : Chg [rb] w w') (hr : rb < base) : SpO base w' v L := by
  obtain ⟨A, c, e, h1, h2, h3⟩ := h
  exact ⟨A, c, e, h1, h2.chgG hc (fun a ha => by have := h3 a ha; omega), h3⟩
theorem SpO.of {base : Nat} {w : World} {v : Value} {L : List Sp} {T : TypeId} (h : w.ownsRow base T 3 v L.length (spvals L)) : SpO base w v L := by
  rcases sp_inG h rfl with ⟨rfl, rfl⟩ | ⟨g, cap, cs, rfl, hg, hc, hh, hs, hin⟩
  · exact ⟨none, 0, rfl, Nat.le_refl _, SpV.nil _ _, fun a e => by cases e⟩
  · exact ⟨_, cap, rfl, hc, SpV.inG hh hin, fun a e => by cases e; exact hg⟩
set_option maxRecDepth 100000 in
theorem goodLines_any {B rb : Nat} {A : Option Addr} {l c m : Nat} (w : World) (h : Rd B rb A l c m w) (hm : m ≤ 700000) :
    Calls Try.prog 50 #[.pointer (some ⟨rb, 0, none⟩)] w fun e w' => (∃ v, ∃ L : List Ln, e = .returned v ∧ w'.ownsRow w.heap.size 34 2 v L.length (lnvals L) ∧ 1 ≤ L.length ∧ L.length ≤ 5) ∧ Rd B rb A l c (m + 20) w' ∧ Chg [rb] w w' := by
  obtain ⟨ti, tz, ti1, ti2, ti3, ti4, ti5⟩ := ln_infoG
  go_enter Try.func50, Try.ntmps50
  go_wp2_with fail
  have hlt := h.lt
  obtain ⟨W0, hW0⟩ : ∃ W0, w.alloc (.cells #[] 34 (0, 0)) = W0 := ⟨_, rfl⟩
  have hs0 : w.heap.size + 1 = W0.heap.size := by rw [← hW0]; simp
  have hr0 : Rd B rb A l c m W0 := by rw [← hW0]; exact h.alloc _
  have ho0 : W0.ownsRow w.heap.size 34 2 (.slice (some ⟨w.heap.size, 0, none⟩) 0 0) 0 [] := by rw [← hW0]; exact World.ownsRow_lit (base := w.heap.size) (e := 34) (size := 2) w #[] 0 (Nat.le_refl _) (by decide) rfl
  have hc0 : Chg [rb] w W0 := by rw [← hW0]; exact (Chg.refl [rb] w).alloc _
  rw [hW0, hs0]
  clear hW0
  with_reducible refine (one_lit_in 1 5 W0 hr0 (by omega) (by simp) (by omega) (by omega) (by simp [isIn])).mono ?_
  rintro e w1 ⟨⟨z, rfl, z0, z1⟩, hr1, hc1⟩
  obtain ⟨n, rfl⟩ := Int.eq_ofNat_of_zero_le (show 0 ≤ z by omega)
  have ho1 := own_chgN ho0 hc1 hlt
  have HO1 := Lib.hid ho1
  have HR1 := Lib.hid hr1
  have HC1 := Lib.hid (hc0.trans hc1)
  clear ho1 hr1 hc1 ho0 hr0 hc0
  go_wp2_with fail
  go_loopw [3, 4] (fun out i wr => ∃ k : Nat, i = .int .i64 k ∧ ∃ L : List Ln, k + L.length = n ∧ wr.ownsRow w.heap.size 34 2 out L.length (lnvals L) ∧ Rd B rb A l c (m + 1 + 2 * L.length) wr ∧ Chg [rb] w wr) (fun _ i _ => (intOf i).toNat)
  case atStart => exact ⟨n, rfl, [], by simp, HO1.out, HR1.out, HC1.out⟩
  case round =>
    obtain ⟨k, rfl, L, hk, ho, hr, hc⟩ := hrel
    clear HO1 HR1 HC1
    rcases k with _ | k
    · have hd : decide (((0 : Nat) : Int) > 0) = false := by simp
      have HO := Lib.hid ho
      have HR := Lib.hid hr
      have HC := Lib.hid hc
      clear ho hr hc
      go_wp2
      go_ret
      exact ⟨⟨_, L, rfl, HO.out, by omega, by omega⟩, HR.out.mono (by omega), HC.out⟩
    · have hd : decide (((k + 1 : Nat) : Int) > 0) = true := by simp
      have hlt0 := h.lt
      go_wp2_with fail
      with_reducible refine (one_lit_in 0 5 _ hr (by omega) (by simp) (by omega) (by omega) (by simp [isIn])).mono ?_
      rintro e w2 ⟨⟨y1, rfl, y1a, y1b⟩, hr2, hc2⟩
      have ho2 := own_chgN ho hc2 hlt0
      have HO := Lib.hid ho2
      have HC := Lib.hid (hc.trans hc2)
      clear ho hr hc hc2 ho2
      go_wp2_with fail
      with_reducible refine (one_lit_in 0 10 _ hr2 (by omega) (by simp) (by omega) (by omega) (by simp [isIn])).mono ?_
      rintro e w3 ⟨⟨y2, rfl, y2a, y2b⟩, hr3, hc3⟩
      have ho3 := own_chgN HO.out hc3 hlt0
      have hw3 : w.heap.size ≤ w3.heap.size := Nat.le_trans HC.out.size hc3.size
      have hob := ho3.lt
      have HR := Lib.hid hr3
      replace HC := Lib.hid (HC.out.trans hc3)
      replace HO := Lib.hid ho3
      clear hr2 hr3 hc3 ho3
      go_wp2_with (at_builtin; refine wpList_append_own _ rfl _ _ 23 rfl w.heap.size 34 ti tz 2 16 Try.underlying23 ti1 ti2 ti3 ti4 ti5 (by decide) _ _ _ rfl (HO.out.alloc _) ⟨w3.heap.size, 0, none⟩ 1 1 (valsLn ⟨y1, y2⟩) rfl rfl (ln_newG _ ⟨y1, y2⟩ _) (valsLn_oneG _) (by simp only [maxLen]; omega) (by omega) (by simp; omega) ?_)
      intro v5 w5 how5 hgr5 _
      rw [lnvals_snoc] at how5
      replace HC := Lib.hid (chg_grownN HC.out hgr5 hob (Nat.le_refl _))
      replace HR := Lib.hid (rd_grownN HR.out hgr5 hob hlt0)
      replace HO := Lib.hid how5
      clear how5 hgr5 hob
      go_wp2
      go_roundw
      case rel => exact ⟨k, by go_num, L ++ [⟨y1, y2⟩], by simp; omega, by simpa using HO.out, HR.out.mono (by simp; omega), HC.out⟩
      case measure => simp [intOf]
theorem InS.putLn0 {cs : Array Value} {M : List Ln} {x : Ln} {T : List Ln} {z : Int} (hM : M = x :: T) (hs : 2 ≤ cs.size) (h : ∀ (i : Nat) (y : Ln), M[i]? = some y → InS cs (i * 2) (valsLn y)) :
    ∀ (i : Nat) (y : Ln), ((⟨z, x.mi⟩ : Ln) :: T)[i]? = some y → InS (cs.setIfInBounds 0 (.int .i64 z)) (i * 2) (valsLn y) := by
  subst hM
  intro i y hy j u hu
  have hj : j < 2 := by have := (List.getElem?_eq_some_iff.1 hu).1; simpa [valsLn] using this
  rw [Array.getElem?_setIfInBounds]
  rcases i with _ | i
  · simp only [List.getElem?_cons_zero, Option.some.injEq] at hy
    subst hy
    have h0 := h 0 x rfl j
    rcases j with _ | _ | j
    · rw [if_pos (by omega), if_pos (by omega)]; simpa [valsLn] using hu
    · rw [if_neg (by omega)]; exact h0 u (by simpa [valsLn] using hu)
    · omega
  · rw [if_neg (by omega)]
    exact h (i + 1) y (by simpa using hy) j u hu
theorem InS.putLn1 {cs : Array Value} {M : List Ln} {x : Ln} {T : List Ln} {z : Int} (hM : M = x :: T) (hs : 2 ≤ cs.size) (h : ∀ (i : Nat) (y : Ln), M[i]? = some y → InS cs (i * 2) (valsLn y)) :
    ∀ (i : Nat) (y : Ln), ((⟨x.wt, z⟩ : Ln) :: T)[i]? = some y → InS (cs.setIfInBounds 1 (.int .i64 z)) (i * 2) (valsLn y) := by
  subst hM
  intro i y hy j u hu
  have hj : j < 2 := by have := (List.getElem?_eq_some_iff.1 hu).1; simpa [valsLn] using this
  rw [Array.getElem?_setIfInBounds]
  rcases i with _ | i
  · simp only [List.getElem?_cons_zero, Option.some.injEq] at hy
    subst hy
    have h0 := h 0 x rfl j
    rcases j with _ | _ | j
    · rw [if_neg (by omega)]; exact h0 u (by simpa [valsLn] using hu)
    · rw [if_pos (by omega), if_pos (by omega)]; simpa [valsLn] using hu
    · omega
  · rw [if_neg (by omega)]
    exact h (i + 1) y (by simpa using hy) j u hu
set_option maxRecDepth 100000 in
theorem someLines_any {B rb : Nat} {A : Option Addr} {l c m : Nat} (w : World) (h : Rd B rb A l c m w) (hm : m ≤ 600000) :
    Calls Try.prog 26 #[.pointer (some ⟨rb, 0, none⟩)] w fun e w' => (∃ v, ∃ L : List Ln, e = .returned v ∧ LnO w.heap.size w' v L ∧ L.length ≤ 5) ∧ Rd B rb A l c (m + 30) w' ∧ Chg [rb] w w' := by
  have hlt0 := h.lt
  go_enter Try.func26, Try.ntmps26
  go_wp2_with fail
  with_reducible refine (goodLines_any w h (by omega)).mono ?_
  rintro e w1 ⟨⟨v, L, rfl, ho, hl1, hl5⟩, hr1, hc1⟩
  rcases ln_inG ho rfl with ⟨rfl, rfl⟩ | ⟨g, cap, cs, rfl, hg, hcap, hh, hs, hin⟩
  · simp at hl1
  have hB := h.base
  have HH := Lib.hid hh
  have HI := Lib.hid hin
  have HC := Lib.hid hc1
  clear ho hh hin hc1
  go_wp2_with fail
  with_reducible refine (pick_any 24 _ hr1 (by omega)).mono ?_
  rintro e w2 ⟨⟨v, rfl, -⟩, hr2, hc2⟩
  replace HH := Lib.hid ((hc2.block g (ltS HH.out) (by simp; omega)).trans HH.out)
  replace HC := Lib.hid (HC.out.trans hc2)
  have HR := Lib.hid hr2
  clear hr1 hr2 hc2
  obtain ⟨x, T, hM⟩ : ∃ x T, L = x :: T := by cases L with | nil => simp at hl1 | cons x T => exact ⟨x, T, rfl⟩
  have hT : T.length + 1 = L.length := by rw [hM]; rfl
  have hs2 : 2 ≤ cs.size := by rw [hs]; omega
  have HM := Lib.hid hM
  have HT := Lib.hid hT
  have HS := Lib.hid hs
  clear hM hT hs
  by_cases hv0 : v = 0
  · subst hv0
    have hl0 : decide ((0 : Int) < (L.length : Int)) = true := by simp; omega
    go_wp2_with fail
    with_reducible refine (one_lit_in (-1) 6 _ HR.out (by omega) (by simp) (by omega) (by omega) (by simp [isIn])).mono ?_
    rintro e w3 ⟨⟨z, rfl, -⟩, hr3, hc3⟩
    replace HH := Lib.hid ((hc3.block g (ltS HH.out) (by simp; omega)).trans HH.out)
    replace HC := Lib.hid (HC.out.trans hc3)
    replace HR := Lib.hid hr3
    obtain ⟨y0, d0⟩ := thereS HH.out (i := 0) (by omega)
    have f0 := frozenS HH.out 0
    have E1 := Lib.hid (putS (i := 0) HH.out (.int .i64 z))
    replace HC := Lib.hid (HC.out.setCell (p := ⟨g, 0, none⟩) (.inr hg) (.int .i64 z))
    replace HR := Lib.hid (HR.out.setCell (p := ⟨g, 0, none⟩) (by simp; omega) (by simp; omega) (.int .i64 z))
    have E2 := Lib.hid (InS.putLn0 (z := z) HM.out hs2 HI.out)
    clear hr3 hc3
    go_wp2
    go_ret
    exact ⟨⟨_, ⟨z, x.mi⟩ :: T, rfl, ⟨some ⟨g, 0, none⟩, cap, (by show _ = Value.slice _ (T.length + 1) cap; rw [HT.out]; rfl), by have := HT.out; simp only [List.length_cons]; omega, LnV.inG E1.out E2.out, fun a e => by cases e; exact hg⟩, by have := HT.out; simp; omega⟩, HR.out.mono (by omega), HC.out⟩
  · have e0 : (v == 0) = false := by simpa using hv0
    by_cases hv1 : v = 1
    · subst hv1
      have hl0 : decide ((0 : Int) < (L.length : Int)) = true := by simp; omega
      go_wp2_with fail
      with_reducible refine (one_lit_in (-1) 31 _ HR.out (by omega) (by simp) (by omega) (by omega) (by simp [isIn])).mono ?_
      rintro e w3 ⟨⟨z, rfl, -⟩, hr3, hc3⟩
      replace HH := Lib.hid ((hc3.block g (ltS HH.out) (by simp; omega)).trans HH.out)
      replace HC := Lib.hid (HC.out.trans hc3)
      replace HR := Lib.hid hr3
      obtain ⟨y0, d0⟩ := thereS HH.out (i := 1) (by omega)
      have f0 := frozenS HH.out 1
      have E1 := Lib.hid (putS (i := 1) HH.out (.int .i64 z))
      replace HC := Lib.hid (HC.out.setCell (p := ⟨g, 1, none⟩) (.inr hg) (.int .i64 z))
      replace HR := Lib.hid (HR.out.setCell (p := ⟨g, 1, none⟩) (by simp; omega) (by simp; omega) (.int .i64 z))
      have E2 := Lib.hid (InS.putLn1 (z := z) HM.out hs2 HI.out)
      clear hr3 hc3
      go_wp2
      go_ret
      exact ⟨⟨_, ⟨x.wt, z⟩ :: T, rfl, ⟨some ⟨g, 0, none⟩, cap, (by show _ = Value.slice _ (T.length + 1) cap; rw [HT.out]; rfl), by have := HT.out; simp only [List.length_cons]; omega, LnV.inG E1.out E2.out, fun a e => by cases e; exact hg⟩, by have := HT.out; simp; omega⟩, HR.out.mono (by omega), HC.out⟩
    · have e1 : (v == 1) = false := by simpa using hv1
      by_cases hv2 : v = 2
      · subst hv2
        have hsz := HC.out.size
        go_wp2
        go_ret
        exact ⟨⟨_, [], rfl, ⟨_, 0, rfl, Nat.le_refl _, LnV.nil _ _, fun a e => by cases e; exact hsz⟩, by simp⟩, (HR.out.alloc _).mono (by omega), HC.out.alloc _⟩
      · have e2 : (v == 2) = false := by simpa using hv2
        go_wp2
        go_ret
        exact ⟨⟨_, L, rfl, ⟨_, cap, rfl, hcap, LnV.inG HH.out HI.out, fun a e => by cases e; exact hg⟩, hl5⟩, HR.out.mono (by omega), HC.out⟩
end Go.Proofs.Ytignigcknfklkab
end
section
namespace Go.Proofs.Ytignigcknfklkab
open Go.RowKit
set_option linter.unusedVariables false
set_option maxHeartbeats 1000000
attribute [local go_sem] growUpon_value growUpon_skip growUpon_enter
structure Ce where
  co : Int
  ro : Int
  mc : Int
  mr : Int
  cw : Int
  ch : Int
  sk : Int
  px : Int
  py : Int
def valsCe (p : Ce) : List Value := [.int .i64 p.co, .int .i64 p.ro, .int .i64 p.mc, .int .i64 p.mr, .int .i64 p.cw, .int .i64 p.ch, .int .i64 p.sk, .int .i64 p.px, .int .i64 p.py]
/-- a slice that reads as this list -/
structure CeV (w : World) (A : Option Addr) (L : List Ce) : Prop where
  cells : 0 < L.length → ∃ b off, A = some ⟨b, off, none⟩ ∧ b < w.heap.size ∧ ∀ i p, L[i]? = some p → w.cell? ⟨b, off + i * 9, none⟩ = some (.int .i64 p.co) ∧ w.cell? ⟨b, off + i * 9 + 1, none⟩ = some (.int .i64 p.ro) ∧ w.cell? ⟨b, off + i * 9 + 2, none⟩ = some (.int .i64 p.mc) ∧ w.cell? ⟨b, off + i * 9 + 3, none⟩ = some (.int .i64 p.mr) ∧ w.cell? ⟨b, off + i * 9 + 4, none⟩ = some (.int .i64 p.cw) ∧ w.cell? ⟨b, off + i * 9 + 5, none⟩ = some (.int .i64 p.ch) ∧ w.cell? ⟨b, off + i * 9 + 6, none⟩ = some (.int .i64 p.sk) ∧ w.cell? ⟨b, off + i * 9 + 7, none⟩ = some (.int .i64 p.px) ∧ w.cell? ⟨b, off + i * 9 + 8, none⟩ = some (.int .i64 p.py)
theorem CeV.keep {w w' : World} {A : Option Addr} {L : List Ce} (h : CeV w A L) (hb : Below w.heap.size w w') : CeV w' A L :=
  ⟨fun h0 => let ⟨b, off, e, hl, hp⟩ := h.cells h0; ⟨b, off, e, Nat.lt_of_lt_of_le hl hb.size, fun i p hi => by
    obtain ⟨c0, c1, c2, c3, c4, c5, c6, c7, c8⟩ := hp i p hi
    exact ⟨(hb.cell (p := ⟨b, off + i * 9, none⟩) hl).trans c0, (hb.cell (p := ⟨b, off + i * 9 + 1, none⟩) hl).trans c1, (hb.cell (p := ⟨b, off + i * 9 + 2, none⟩) hl).trans c2, (hb.cell (p := ⟨b, off + i * 9 + 3, none⟩) hl).trans c3, (hb.cell (p := ⟨b, off + i * 9 + 4, none⟩) hl).trans c4, (hb.cell (p := ⟨b, off + i * 9 + 5, none⟩) hl).trans c5, (hb.cell (p := ⟨b, off + i * 9 + 6, none⟩) hl).trans c6, (hb.cell (p := ⟨b, off + i * 9 + 7, none⟩) hl).trans c7, (hb.cell (p := ⟨b, off + i * 9 + 8, none⟩) hl).trans c8⟩⟩⟩
theorem CeV.nil (w : World) (A : Option Addr) : CeV w A [] := ⟨fun h => absurd h (by simp)⟩
/-- what a new block holds -/
def CeB (w : World) (g : Nat) (L : List Ce) : Prop := ∃ cs : Array Value, w.heap[g]? = some (.cells cs 52 (0, 0)) ∧ cs.size = L.length * 9 ∧ ∀ i p, L[i]? = some p → InS cs (i * 9) (valsCe p)
theorem CeB.v {w : World} {g : Nat} {L : List Ce} (h : CeB w g L) : CeV w (some ⟨g, 0, none⟩) L := by
  obtain ⟨cs, hh, hs, hc⟩ := h
  refine ⟨fun _ => ⟨g, 0, rfl, ltS hh, fun i p hp => ?_⟩⟩
  have hi := hc i p hp
  simp only [Nat.zero_add]
  exact ⟨(cellS hh _).trans (hi 0 _ rfl), (cellS hh _).trans (hi 1 _ rfl), (cellS hh _).trans (hi 2 _ rfl), (cellS hh _).trans (hi 3 _ rfl), (cellS hh _).trans (hi 4 _ rfl), (cellS hh _).trans (hi 5 _ rfl), (cellS hh _).trans (hi 6 _ rfl), (cellS hh _).trans (hi 7 _ rfl), (cellS hh _).trans (hi 8 _ rfl)⟩
theorem CeB.lt {w : World} {g : Nat} {L : List Ce} (h : CeB w g L) : g < w.heap.size := by obtain ⟨cs, hh, _⟩ := h; exact ltS hh
theorem CeB.keep {w w' : World} {g : Nat} {L : List Ce} (h : CeB w g L) (hb : Below w.heap.size w w') : CeB w' g L := by
  obtain ⟨cs, hh, hs, hc⟩ := h
  exact ⟨cs, (hb.block g (ltS hh)).trans hh, hs, hc⟩
theorem CeB.but {w w' : World} {g h : Nat} {L : List Ce} (hi : CeB w h L) (hg : w.grownBy w' (some g)) (hne : h ≠ g) : CeB w' h L := by
  obtain ⟨cs, hh, hs, hc⟩ := hi
  exact ⟨cs, (hg.block h (ltS hh) (fun e => hne (Option.some.inj e))).trans hh, hs, hc⟩
theorem madeCe : ∃ f : Nat → Array Value, (∀ n, (f n).size = n * 9) ∧ ∀ (n : Nat) (w : World), n ≤ 1048576 → (Instr.makeSlice 39 (.int .i64 (n : Int)) (.int .i64 (n : Int))).run Try.prog w = .ok (.slice (some ⟨w.heap.size, 0, none⟩) n n) (w.alloc (.cells (f n) 52)) := by
  have hinfo : (Try.prog.info? 52).map (fun i => (i.zero, i.size, i.bytes)) = some (some (.agg #[.int .i64 0, .int .i64 0, .int .i64 0, .int .i64 0, .int .i64 0, .int .i64 0, .int .i64 0, .int .i64 0, .int .i64 0]), 9, 72) := by kernel_rfl
  obtain ⟨i, hi, h1, h2, h3⟩ := info_parts hinfo
  refine ⟨fun n => madeCells (Value.agg #[.int .i64 0, .int .i64 0, .int .i64 0, .int .i64 0, .int .i64 0, .int .i64 0, .int .i64 0, .int .i64 0, .int .i64 0]).cells (n * 9), fun n => size_madeCells _ _, fun n w hn => ?_⟩
  have hr := run_make (P := Try.prog) w 39 52 i _ Try.underlying39 hi h1 .i64 .i64 n n (by omega) (Int.le_refl _) (by rw [h3]; omega) (by omega)
  rw [h2] at hr
  simpa using hr
theorem putCe {w : World} {b : Nat} {cs : Array Value} {T : TypeId} {fz : Nat × Nat} (h : w.heap[b]? = some (.cells cs T fz)) (o : Nat) (p : Ce) :
    ((((((((((w.setCell ⟨b, o, none⟩ (.int .i64 p.co)).setCell ⟨b, o + 1, none⟩ (.int .i64 p.ro)).setCell ⟨b, o + 2, none⟩ (.int .i64 p.mc)).setCell ⟨b, o + 3, none⟩ (.int .i64 p.mr)).setCell ⟨b, o + 4, none⟩ (.int .i64 p.cw)).setCell ⟨b, o + 5, none⟩ (.int .i64 p.ch)).setCell ⟨b, o + 6, none⟩ (.int .i64 p.sk)).setCell ⟨b, o + 7, none⟩ (.int .i64 p.px)).setCell ⟨b, o + 8, none⟩ (.int .i64 p.py))).heap[b]? = some (.cells (wrAt cs o (valsCe p)) T fz) :=
  putS (putS (putS (putS (putS (putS (putS (putS (putS h _) _) _) _) _) _) _) _) _
theorem putCeb {B b : Nat} {a w : World} (h : Below B a w) (hb : B ≤ b) (o : Nat) (p : Ce) : Below B a ((((((((((w.setCell ⟨b, o, none⟩ (.int .i64 p.co)).setCell ⟨b, o + 1, none⟩ (.int .i64 p.ro)).setCell ⟨b, o + 2, none⟩ (.int .i64 p.mc)).setCell ⟨b, o + 3, none⟩ (.int .i64 p.mr)).setCell ⟨b, o + 4, none⟩ (.int .i64 p.cw)).setCell ⟨b, o + 5, none⟩ (.int .i64 p.ch)).setCell ⟨b, o + 6, none⟩ (.int .i64 p.sk)).setCell ⟨b, o + 7, none⟩ (.int .i64 p.px)).setCell ⟨b, o + 8, none⟩ (.int .i64 p.py))) :=
  (((((((((h).setCell hb _).setCell hb _).setCell hb _).setCell hb _).setCell hb _).setCell hb _).setCell hb _).setCell hb _).setCell hb _
end Go.Proofs.Ytignigcknfklkab
end
