import Derived.Test.YtjdjahckdgbkbaeDoorQ01
import Derived.LoopTactic
import Derived.OwnWalk
import Derived.Lib.SmallJoins
import Derived.ChangeSame
section
set_option linter.unusedVariables false
namespace Go.Proofs.YtjdjahckdgbkbaeDoor
def mvB (x y u v p q : Int) : Bool := vr x y u v && rng p (-1000) 1000 && rng q (-1000) 1000 && vr (x + p) (y + q) u v
theorem mvB_yes {x y u v p q : Int} (h : mvB x y u v p q = true) : vr x y u v = true ∧ rng p (-1000) 1000 = true ∧ rng q (-1000) 1000 = true ∧ vr (x + p) (y + q) u v = true := by
  simp only [mvB, Bool.and_eq_true] at h; exact ⟨h.1.1.1, h.1.1.2, h.1.2, h.2⟩
theorem mvB_no {x y u v p q : Int} (h : mvB x y u v p q = false) (h1 : vr x y u v = true) (h2 : rng p (-1000) 1000 = true) (h3 : rng q (-1000) 1000 = true) : vr (x + p) (y + q) u v = false := by
  simpa [mvB, h1, h2, h3] using h
def inB (x y u v p q : Int) : Bool := vr x y u v && rng p 0 10 && rng q 0 10
theorem inB_yes {x y u v p q : Int} (h : inB x y u v p q = true) : vr x y u v = true ∧ rng p 0 10 = true ∧ rng q 0 10 = true := by
  simp only [inB, Bool.and_eq_true] at h; exact ⟨h.1.1, h.1.2, h.2⟩
theorem inB_no {x y u v p q : Int} (h : inB x y u v p q = false) (h1 : vr x y u v = true) (h2 : rng p 0 10 = true) : rng q 0 10 = false := by
  simpa [inB, h1, h2] using h
theorem mx_comm (a b : Int) : mx a b = mx b a := by unfold mx; split <;> split <;> omega
theorem in_bds {x y u v p q : Int} (h : inB x y u v p q = true) : 0 ≤ mn p (u / 2) ∧ mn p (u / 2) ≤ 10 ∧ 0 ≤ mn q (v / 2) ∧ mn q (v / 2) ≤ 10 ∧ 0 ≤ mx (u - 2 * p) 0 ∧ mx (u - 2 * p) 0 ≤ 400 ∧ 0 ≤ mx (v - 2 * q) 0 ∧ mx (v - 2 * q) 0 ≤ 400 := by
  obtain ⟨h1, h2, h3⟩ := inB_yes h
  rw [vr_iff] at h1; rw [rng_iff] at h2 h3
  have := mn_spec p (u / 2); have := mn_spec q (v / 2); have := mx_spec (u - 2 * p) 0; have := mx_spec (v - 2 * q) 0
  omega
def anB (x y u v p q k : Int) : Bool := vr x y u v && rng p 0 400 && rng q 0 400 && rng k 0 8
theorem anB_yes {x y u v p q k : Int} (h : anB x y u v p q k = true) : vr x y u v = true ∧ rng p 0 400 = true ∧ rng q 0 400 = true ∧ rng k 0 8 = true := by
  simp only [anB, Bool.and_eq_true] at h; exact ⟨h.1.1.1, h.1.1.2, h.1.2, h.2⟩
theorem anB_no {x y u v p q k : Int} (h : anB x y u v p q k = false) (h1 : vr x y u v = true) (h2 : rng p 0 400 = true) (h3 : rng q 0 400 = true) : rng k 0 8 = false := by
  simpa [anB, h1, h2, h3] using h
def ctB (x y u v s n : Int) : Bool := vr x y u v && rng s 0 3 && rng n 0 400
theorem ctB_yes {x y u v s n : Int} (h : ctB x y u v s n = true) : vr x y u v = true ∧ rng s 0 3 = true ∧ rng n 0 400 = true := by
  simp only [ctB, Bool.and_eq_true] at h; exact ⟨h.1.1, h.1.2, h.2⟩
theorem ctB_no {x y u v s n : Int} (h : ctB x y u v s n = false) (h1 : vr x y u v = true) (h2 : rng s 0 3 = true) : rng n 0 400 = false := by
  simpa [ctB, h1, h2] using h
end Go.Proofs.YtjdjahckdgbkbaeDoor
namespace Go.Proofs.YtjdjahckdgbkbaeDoor
theorem area_bds {x y u v : Int} (h : vr x y u v = true) : 0 ≤ u * v ∧ u * v ≤ 160000 := by
  obtain ⟨a1, a2, a3, a4, _⟩ := vr_iff.1 h
  exact ⟨Int.mul_nonneg a1 a3, Int.le_trans (Int.mul_le_mul a2 a4 a3 (by omega)) (by omega)⟩
end Go.Proofs.YtjdjahckdgbkbaeDoor
namespace Go.Proofs.YtjdjahckdgbkbaeDoor
theorem prod_bds {a b : Int} (h1 : 0 ≤ a) (h2 : a ≤ 400) (h3 : 0 ≤ b) (h4 : b ≤ 2) : 0 ≤ a * b ∧ a * b ≤ 800 :=
  ⟨Int.mul_nonneg h1 h3, Int.le_trans (Int.mul_le_mul h2 h4 h3 (by omega)) (by omega)⟩
theorem an_bds {x y u v p q k : Int} (h : anB x y u v p q k = true) : 0 ≤ mn p u ∧ mn p u ≤ u ∧ 0 ≤ mn q v ∧ mn q v ≤ v ∧ 0 ≤ k % 3 ∧ k % 3 ≤ 2 ∧ 0 ≤ k / 3 ∧ k / 3 ≤ 2 ∧ 0 ≤ (u - mn p u) * (k % 3) ∧ (u - mn p u) * (k % 3) ≤ 800 ∧ 0 ≤ (v - mn q v) * (k / 3) ∧ (v - mn q v) * (k / 3) ≤ 800 := by
  obtain ⟨h1, h2, h3, h4⟩ := anB_yes h
  rw [vr_iff] at h1; rw [rng_iff] at h2 h3 h4
  have g1 := mn_spec p u; have g2 := mn_spec q v
  have e1 := prod_bds (a := u - mn p u) (b := k % 3) (by omega) (by omega) (by omega) (by omega)
  have e2 := prod_bds (a := v - mn q v) (b := k / 3) (by omega) (by omega) (by omega) (by omega)
  omega
end Go.Proofs.YtjdjahckdgbkbaeDoor
end
section
namespace Go.Proofs.YtjdjahckdgbkbaeDoor
open Go.RowKit
set_option linter.unusedVariables false
set_option maxHeartbeats 1000000
/-- the sum of a list -/
def sumI : List Int → Int
  | [] => 0
  | x :: t => x + sumI t
theorem sumI_append : ∀ (A B : List Int), sumI (A ++ B) = sumI A + sumI B
  | [], B => by simp [sumI]
  | x :: t, B => by simp [sumI, sumI_append t B]; omega
theorem sumI_snoc {L : List Int} {k : Nat} {x : Int} (h : L[k]? = some x) : sumI (L.take (k + 1)) = sumI (L.take k) + x := by
  obtain ⟨hk, e⟩ := List.getElem?_eq_some_iff.1 h
  rw [List.take_succ_eq_append_getElem hk, sumI_append, e]
  simp [sumI]
theorem sumI_bd {lo hi : Int} : ∀ {L : List Int}, (∀ x ∈ L, lo ≤ x ∧ x ≤ hi) → lo * L.length ≤ sumI L ∧ sumI L ≤ hi * L.length
  | [], _ => by simp [sumI]
  | x :: t, h => by
    have h1 := sumI_bd (L := t) (fun q hq => h q (List.mem_cons_of_mem _ hq))
    have h2 := h x List.mem_cons_self
    simp only [sumI, List.length_cons]
    have e1 : lo * ((t.length + 1 : Nat) : Int) = lo * t.length + lo := by rw [Int.natCast_succ, Int.mul_add, Int.mul_one]
    have e2 : hi * ((t.length + 1 : Nat) : Int) = hi * t.length + hi := by rw [Int.natCast_succ, Int.mul_add, Int.mul_one]
    rw [e1, e2]; omega
/-- all numbers are small -/
def Smal (M : Int) (L : List Int) : Prop := ∀ k, -M ≤ sumI (L.take k) ∧ sumI (L.take k) ≤ M
theorem smal_of {b M : Int} {L : List Int} (h : ∀ x ∈ L, -b ≤ x ∧ x ≤ b) (hb : 0 ≤ b) (hl : b * L.length ≤ M) : Smal M L := fun k => by
  have := sumI_bd (L := L.take k) (fun x hx => h x (List.mem_of_mem_take hx))
  have hk : ((L.take k).length : Int) ≤ L.length := by rw [List.length_take]; omega
  have h1 : b * ((L.take k).length : Int) ≤ b * L.length := Int.mul_le_mul_of_nonneg_left hk hb
  have h2 : -b * ((L.take k).length : Int) = -(b * ((L.take k).length : Int)) := by rw [Int.neg_mul]
  rw [h2] at this
  omega
/-- a slice that reads as this list of numbers -/
structure NV (w : World) (A : Option Addr) (L : List Int) : Prop where
  cells : 0 < L.length → ∃ b off, A = some ⟨b, off, none⟩ ∧ b < w.heap.size ∧ ∀ i x, L[i]? = some x → w.cell? ⟨b, off + i, none⟩ = some (.int .i64 x)
theorem NV.keep {w w' : World} {A : Option Addr} {L : List Int} (h : NV w A L) (hb : Below w.heap.size w w') : NV w' A L :=
  ⟨fun h0 => let ⟨b, off, e, hl, hp⟩ := h.cells h0; ⟨b, off, e, Nat.lt_of_lt_of_le hl hb.size, fun i x hx => (hb.cell (p := ⟨b, off + i, none⟩) hl).trans (hp i x hx)⟩⟩
theorem NV.nil (w : World) (A : Option Addr) : NV w A [] := ⟨fun h => absurd h (by simp)⟩
/-- a part of it, from one index up to another -/
theorem NV.sub {w : World} {b off : Nat} {L : List Int} (hb : b < w.heap.size) (h : ∀ i x, L[i]? = some x → w.cell? ⟨b, off + i, none⟩ = some (.int .i64 x)) (i j : Nat) : NV w (some ⟨b, off + i, none⟩) ((L.drop i).take j) :=
  ⟨fun _ => ⟨b, off + i, rfl, hb, fun k x hx => by
    rw [List.getElem?_take] at hx
    split at hx
    · rw [List.getElem?_drop] at hx
      have := h (i + k) x hx
      rwa [← Nat.add_assoc] at this
    · cases hx⟩⟩
def ivals (L : List Int) : Array Value := (L.map (Value.int .i64)).toArray
/-- a block of numbers -/
def IB (w : World) (g : Nat) (L : List Int) : Prop := w.heap[g]? = some (.cells (ivals L) 3 (0, 0))
theorem IB.lt {w : World} {g : Nat} {L : List Int} (h : IB w g L) : g < w.heap.size := (Array.getElem?_eq_some_iff.1 h).1
theorem IB.cell {w : World} {g i : Nat} {L : List Int} {x : Int} (h : IB w g L) (hx : L[i]? = some x) : w.cell? ⟨g, i, none⟩ = some (.int .i64 x) := by
  have h' : w.heap[g]? = some (.cells (ivals L) 3 (0, 0)) := h
  simp [World.cell?, h', ivals, hx]
theorem IB.frozen {w : World} {g : Nat} {L : List Int} (h : IB w g L) (i : Nat) : w.frozen? ⟨g, i, none⟩ = false := by
  have h' : w.heap[g]? = some (.cells (ivals L) 3 (0, 0)) := h
  simp [World.frozen?, h']
theorem IB.keep {w w' : World} {g : Nat} {L : List Int} (h : IB w g L) (hb : Below w.heap.size w w') : IB w' g L := (hb.block g h.lt).trans h
theorem IB.set {w : World} {g : Nat} {L : List Int} (h : IB w g L) (i : Nat) (x : Int) : IB (w.setCell ⟨g, i, none⟩ (.int .i64 x)) g (L.set i x) := by
  have h' : w.heap[g]? = some (.cells (ivals L) 3 (0, 0)) := h
  show _ = _
  simp [World.setCell, Array.getElem?_modify, h', ivals, List.map_set]
theorem IB.nv {w : World} {g : Nat} {L : List Int} (h : IB w g L) : NV w (some ⟨g, 0, none⟩) L :=
  ⟨fun _ => ⟨g, 0, rfl, h.lt, fun i x hx => by rw [Nat.zero_add]; exact h.cell hx⟩⟩
theorem madeI : ∀ (n : Nat) (w : World), n ≤ 1048576 → (Instr.makeSlice 33 (.int .i64 (n : Int)) (.int .i64 (n : Int))).run Tryd.prog w = .ok (.slice (some ⟨w.heap.size, 0, none⟩) n n) (w.alloc (.cells (ivals (List.replicate n 0)) 3)) := by
  intro n w hn
  have hinfo : (Tryd.prog.info? 3).map (fun i => (i.zero, i.size, i.bytes)) = some (some (.int .i64 0), 1, 8) := by kernel_rfl
  obtain ⟨i, hi, h1, h2, h3⟩ := info_parts hinfo
  have hr := run_make (P := Tryd.prog) w 33 3 i _ Tryd.underlying33 hi h1 .i64 .i64 n n (by omega) (Int.le_refl _) (by rw [h3]; omega) (by omega)
  rw [h2] at hr
  have e : madeCells (Value.int .i64 0).cells (n * 1) = ivals (List.replicate n 0) := by
    apply Array.ext
    · rw [size_madeCells]; simp [ivals]
    · intro i h1 h2
      simp [madeCells, ivals, Value.cells, Nat.mod_one]
  rw [Int.toNat_natCast, e] at hr
  simpa using hr
theorem makeI_b (n : Nat) (w : World) : IB (w.alloc (.cells (ivals (List.replicate n 0)) 3)) w.heap.size (List.replicate n 0) := by
  show (w.heap.push _)[w.heap.size]? = _
  simp
set_option maxRecDepth 100000 in
theorem sum_v (A : Option Addr) (c : Nat) (L : List Int) (w : World) (h : NV w A L) (hL : L.length ≤ 1048576) (hM : Smal 1000000000000000 L) :
    Calls Tryd.prog 44 #[.slice A L.length c] w fun e w' => e = .returned (.int .i64 (sumI L)) ∧ w = w' := by
  have HM := Lib.hid hM
  clear hM
  go_enter Tryd.func44, Tryd.ntmps44
  go_wp2_with fail
  go_loop [3, 8] (fun s i => ∃ k : Nat, k ≤ L.length ∧ i = .int .i64 k ∧ s = .int .i64 (sumI (L.take k))) (fun _ i => L.length - (intOf i).toNat)
  case atStart => exact ⟨0, by omega, rfl, rfl⟩
  case round =>
    obtain ⟨k, hk, rfl, rfl⟩ := hrel
    by_cases hlt : k < L.length
    · have hd : decide ((k : Int) < (L.length : Int)) = true := by simpa using hlt
      obtain ⟨b, off, rfl, hb, hp⟩ := h.cells (by omega)
      have hget : L[k]? = some L[k] := List.getElem?_eq_getElem hlt
      have c0 := hp k _ hget
      generalize hx : L[k] = x at *
      have hs := sumI_snoc hget
      have b1 := HM.out k
      have b2 := HM.out (k + 1)
      rw [hs] at b2
      obtain ⟨S, hS⟩ : ∃ S, sumI (L.take k) = S := ⟨_, rfl⟩
      rw [hS] at b1 b2 hs
      rw [hS]
      have HS := Lib.hid hs
      clear hs hS hget hx hp
      go_wp2
      go_round
      case rel => exact ⟨k + 1, by omega, by go_num, by rw [HS.out]⟩
      case measure => simp [intOf]; omega
    · have hd : decide ((k : Int) < (L.length : Int)) = false := by simp; omega
      have he : L.take k = L := List.take_of_length_le (by omega)
      rw [he]
      clear he
      go_wp2
      go_ret
      exact ⟨rfl, rfl⟩
set_option maxRecDepth 100000 in
theorem total_v (A : Option Addr) (c : Nat) (L : List Int) (w : World) (h : NV w A L) (hL : L.length ≤ 1048576) (hM : Smal 1000000000000000 L) :
    Calls Tryd.prog 35 #[.slice A L.length c] w fun e w' => e = .returned (.int .i64 (sumI L)) ∧ w = w' := by
  have HM := Lib.hid hM
  clear hM
  go_enter Tryd.func35, Tryd.ntmps35
  go_wp2_with fail
  go_loop [3, 4] (fun s i => ∃ k : Nat, k ≤ L.length ∧ i = .int .i64 k ∧ s = .int .i64 (sumI (L.take k))) (fun _ i => L.length - (intOf i).toNat)
  case atStart => exact ⟨0, by omega, rfl, rfl⟩
  case round =>
    obtain ⟨k, hk, rfl, rfl⟩ := hrel
    by_cases hlt : k < L.length
    · have hd : decide ((k : Int) < (L.length : Int)) = true := by simpa using hlt
      obtain ⟨b, off, rfl, hb, hp⟩ := h.cells (by omega)
      have hget : L[k]? = some L[k] := List.getElem?_eq_getElem hlt
      have c0 := hp k _ hget
      generalize hx : L[k] = x at *
      have hs := sumI_snoc hget
      have b1 := HM.out k
      have b2 := HM.out (k + 1)
      rw [hs] at b2
      obtain ⟨S, hS⟩ : ∃ S, sumI (L.take k) = S := ⟨_, rfl⟩
      rw [hS] at b1 b2 hs
      rw [hS]
      have HS := Lib.hid hs
      clear hs hS hget hx hp
      go_wp2
      go_round
      case rel => exact ⟨k + 1, by omega, by go_num, by rw [HS.out]⟩
      case measure => simp [intOf]; omega
    · have hd : decide ((k : Int) < (L.length : Int)) = false := by simp; omega
      have he : L.take k = L := List.take_of_length_le (by omega)
      rw [he]
      clear he
      go_wp2
      go_ret
      exact ⟨rfl, rfl⟩
end Go.Proofs.YtjdjahckdgbkbaeDoor
end
section
namespace Go.Proofs.YtjdjahckdgbkbaeDoor
open Go.Joins Go.ChangeShapes Go.WideShapes Go.RowKit
set_option linter.unusedVariables false
theorem addr_add0 (b off n : Nat) : (⟨b, off, none⟩ : Addr).add n = ⟨b, off + n, none⟩ := by
  unfold Addr.add
  split
  · rename_i h; subst h; rfl
  · rfl
theorem ints_of {H : Type} {enc : TypeId × Value → H} {W : World} {a : Option Addr} {len cap : Nat} {d : DataW H} {ps : List MemPlace}
    (h : DataW.Trod enc Tryd.prog W 0 (fun _ => true) true 33 (.slice a len cap) d ps) : ∃ L : List Int, L.length = len ∧ NV W a L ∧ len ≤ maxLen := by
  obtain ⟨fuel, hf⟩ := h
  rcases open_ints Tryd.underlying33 Tryd.underlying3 (by kernel_rfl) hf with ⟨hcs, _⟩ | ⟨x, l, c, zs, hcs, _, hl, hm, hz, _, hcell, hwz⟩
  · simp [Value.cells] at hcs
    obtain ⟨rfl, rfl, rfl⟩ := hcs
    exact ⟨[], rfl, NV.nil _ _, by simp⟩
  · simp [Value.cells] at hcs
    obtain ⟨rfl, rfl, rfl⟩ := hcs
    refine ⟨(List.range len).map (fun i => zs.getD i 0), by simp, ⟨fun h0 => ?_⟩, by omega⟩
    have h0' : 0 < len := by simpa using h0
    obtain ⟨b, off, spot⟩ := x
    have hz' : len ≤ zs.length := by have := hz; simp at this; omega
    have hc := hcell 0 (by omega)
    have hc' : W.cell? ⟨b, off, spot⟩ = some (.int .i64 (zs.getD 0 0)) := by simpa [Addr.add] using hc
    have hspot : spot = none := World.cell?_spot hc'
    subst hspot
    refine ⟨b, off, rfl, World.block_lt_of_cell? W _ hc', fun i p hp => ?_⟩
    have hil : i < len := by
      have := (List.getElem?_eq_some_iff.1 hp).1
      simpa using this
    rw [List.getElem?_map, List.getElem?_range hil] at hp
    simp at hp
    subst hp
    have := hcell i (by omega)
    rw [addr_add0] at this
    simpa using this
end Go.Proofs.YtjdjahckdgbkbaeDoor
end
section
namespace Go.Proofs.YtjdjahckdgbkbaeDoor
open Go.Joins Go.ChangeShapes Go.WideShapes Go.RowKit Go.Deep
set_option linter.unusedVariables false
section
variable {H : Type} {enc : TypeId × Value → H} {P : Program} {w : World} {base : Nat} {spare : Nat → Bool} {held : Bool}
theorem open_agg2' {r : Reach} {b0 : Nat} {t : TypeId} {f0 f1 : Field} {v : Value} {d : DataW H} {p : List MemPlace} (hs : P.underlying t = some (.struct #[f0, f1])) (hone : oneCellFields P #[f0, f1] = true) (hC : P.cellsOf t = 2)
    (hv : Value.okWide P w r b0 t v) (h : DataW.Trod enc P w base spare held t v d p) :
    ∃ (v0 v1 : Value) (y0 y1 : DataW H × List MemPlace) (n : Nat), v = .agg #[v0, v1] ∧ d = .agg [y0.1, y1.1] ∧ p = y0.2 ++ y1.2 ∧
      DataW.trod enc P w base spare held n f0.type [v0] = some y0 ∧ DataW.trod enc P w base spare held n f1.type [v1] = some y1 := by
  obtain ⟨cs, rfl, hsz⟩ := okWide_struct hs hv
  obtain ⟨l⟩ := cs
  match l, hsz.trans hC with
  | [c0, c1], _ =>
    obtain ⟨fuel, hf⟩ := h
    obtain ⟨xs, n, _, hx, _, hlen, hg⟩ := DataW.trod_struct hs hf
    obtain ⟨o0, k0⟩ := hone_of hone 0 f0 rfl
    obtain ⟨o1, k1⟩ := hone_of hone 1 f1 rfl
    match xs, hlen with
    | [y0, y1], _ =>
      simp only [Prod.mk.injEq] at hx
      exact ⟨c0, c1, y0, y1, n, rfl, by simpa using hx.1, by simpa using hx.2, by simpa [Value.cells, o0, k0] using hg 0 f0 rfl, by simpa [Value.cells, o1, k1] using hg 1 f1 rfl⟩
end
set_option maxRecDepth 100000 in
theorem slI_of {H : Type} {enc : TypeId × Value → H} {W : World} {n : Nat} {v0 : Value} {y : DataW H × List MemPlace}
    (h : DataW.trod enc Tryd.prog W 0 (fun _ => true) true n 33 [v0] = some y) : ∃ a c, ∃ L : List Int, v0 = .slice a L.length c ∧ NV W a L ∧ L.length ≤ maxLen := by
  obtain ⟨a, len, c, rfl⟩ : ∃ a len c, v0 = .slice a len c := by
    rcases open_slice Tryd.underlying33 h with ⟨hcs, _⟩ | ⟨x, l, c, m, fu, D, Pl, hcs, _⟩
    · exact ⟨none, 0, 0, by simpa using hcs⟩
    · exact ⟨some x, l, c, by simpa using hcs⟩
  obtain ⟨L, rfl, k, m⟩ := ints_of (enc := enc) (a := a) (len := len) (cap := c) (d := y.1) (ps := y.2) ⟨n, by simpa [Value.cells] using h⟩
  exact ⟨a, c, L, rfl, k, m⟩
set_option maxRecDepth 100000 in
theorem panes_of {H : Type} {enc : TypeId × Value → H} {W : World} {base : Nat} {v : Value} {d : DataW H} {ps : List MemPlace}
    (hv : Value.okWide Tryd.prog W .any base 43 v) (h : DataW.Trod enc Tryd.prog W 0 (fun _ => true) true 43 v d ps) :
    ∃ a1 c1, ∃ L1 : List Int, ∃ a2 c2, ∃ L2 : List Int, v = .agg #[.slice a1 L1.length c1, .slice a2 L2.length c2] ∧ (NV W a1 L1 ∧ L1.length ≤ maxLen) ∧ (NV W a2 L2 ∧ L2.length ≤ maxLen) := by
  obtain ⟨v0, v1, y0, y1, n, rfl, _, _, h0, h1⟩ := open_agg2' Tryd.underlying43 (by kernel_rfl) (by kernel_rfl) hv h
  obtain ⟨a1, c1, L1, rfl, k1, m1⟩ := slI_of h0
  obtain ⟨a2, c2, L2, rfl, k2, m2⟩ := slI_of h1
  exact ⟨a1, c1, L1, a2, c2, L2, rfl, ⟨k1, m1⟩, ⟨k2, m2⟩⟩
end Go.Proofs.YtjdjahckdgbkbaeDoor
end
section
namespace Go.Proofs.YtjdjahckdgbkbaeDoor
open Go.RowKit
/-- behind a region that draws its order -/
theorem bdrewn {W w' : World} (h : Below W.drew.heap.size W.drew w') : Below W.heap.size W w' := (Below.refl _ _).drew.trans h
end Go.Proofs.YtjdjahckdgbkbaeDoor
end
section
namespace Go.Proofs.YtjdjahckdgbkbaeDoor
open Go.RowKit
set_option linter.unusedVariables false
set_option maxHeartbeats 1000000
/-- values written side by side -/
def wrAt (cs : Array Value) (o : Nat) : List Value → Array Value
  | [] => cs
  | v :: r => wrAt (cs.setIfInBounds o v) (o + 1) r
theorem wrAt_size : ∀ (vs : List Value) (cs : Array Value) (o : Nat), (wrAt cs o vs).size = cs.size
  | [], cs, o => rfl
  | v :: r, cs, o => by unfold wrAt; rw [wrAt_size r]; simp
theorem wrAt_lo : ∀ (vs : List Value) (cs : Array Value) (o i : Nat), i < o → (wrAt cs o vs)[i]? = cs[i]?
  | [], cs, o, i, _ => rfl
  | v :: r, cs, o, i, h => by unfold wrAt; rw [wrAt_lo r _ _ _ (by omega), Array.getElem?_setIfInBounds_ne (by omega)]
theorem wrAt_hi : ∀ (vs : List Value) (cs : Array Value) (o i : Nat), o + vs.length ≤ i → (wrAt cs o vs)[i]? = cs[i]?
  | [], cs, o, i, _ => rfl
  | v :: r, cs, o, i, h => by
    simp only [List.length_cons] at h
    unfold wrAt; rw [wrAt_hi r _ _ _ (by omega), Array.getElem?_setIfInBounds_ne (by omega)]
theorem wrAt_in : ∀ (vs : List Value) (cs : Array Value) (o j : Nat), o + vs.length ≤ cs.size → j < vs.length → (wrAt cs o vs)[o + j]? = vs[j]?
  | [], cs, o, j, _, h => by simp at h
  | v :: r, cs, o, 0, h, _ => by
    simp only [List.length_cons] at h
    unfold wrAt; rw [wrAt_lo r _ _ _ (by omega), Nat.add_zero, Array.getElem?_setIfInBounds_self_of_lt (by omega)]
    rfl
  | v :: r, cs, o, j + 1, h, hj => by
    simp only [List.length_cons] at h hj
    unfold wrAt
    rw [show o + (j + 1) = o + 1 + j from by omega, wrAt_in r _ _ _ (by simp; omega) (by omega)]
    simp
theorem putS {w : World} {b i : Nat} {cs : Array Value} {T : TypeId} {fz : Nat × Nat} (h : w.heap[b]? = some (.cells cs T fz)) (u : Value) : (w.setCell ⟨b, i, none⟩ u).heap[b]? = some (.cells (cs.setIfInBounds i u) T fz) := by
  simp [World.setCell, Array.getElem?_modify, h]
theorem cellS {w : World} {b : Nat} {cs : Array Value} {T : TypeId} {fz : Nat × Nat} (h : w.heap[b]? = some (.cells cs T fz)) (i : Nat) : w.cell? ⟨b, i, none⟩ = cs[i]? := by simp [World.cell?, h]
theorem frozenS {w : World} {b : Nat} {cs : Array Value} {T : TypeId} (h : w.heap[b]? = some (.cells cs T (0, 0))) (i : Nat) : w.frozen? ⟨b, i, none⟩ = false := by simp [World.frozen?, h]
theorem thereS {w : World} {b : Nat} {cs : Array Value} {T : TypeId} {fz : Nat × Nat} (h : w.heap[b]? = some (.cells cs T fz)) {i : Nat} (hi : i < cs.size) : ∃ v, w.cell? ⟨b, i, none⟩ = some v := ⟨cs[i], (cellS h i).trans (by simp [hi])⟩
theorem newS (w : World) (o : Obj) : (w.alloc o).heap[w.heap.size]? = some o := by
  show (w.heap.push _)[w.heap.size]? = _
  simp
theorem ltS {w : World} {g : Nat} {o : Obj} (h : w.heap[g]? = some o) : g < w.heap.size := (Array.getElem?_eq_some_iff.1 h).1
theorem gsetS {w w' : World} {g : Nat} (h : w.grownBy w' (some g)) (o : Nat) (v : Value) : w.grownBy (w'.setCell ⟨g, o, none⟩ v) (some g) :=
  ⟨h.os, h.tape, h.output, by simpa [World.setCell] using h.size, fun k hk hne => (Below.heap_setCell w' ⟨g, o, none⟩ v k (by rintro rfl; exact hne rfl)).trans (h.block k hk hne)⟩
theorem greflS (w : World) (g : Nat) : w.grownBy w (some g) := ⟨rfl, rfl, rfl, Nat.le_refl _, fun _ _ _ => rfl⟩
/-- the values lie in the cells from o on -/
def InS (cs : Array Value) (o : Nat) (l : List Value) : Prop := ∀ j u, l[j]? = some u → cs[o + j]? = some u
theorem InS.write {cs : Array Value} {o : Nat} {l : List Value} (h : o + l.length ≤ cs.size) : InS (wrAt cs o l) o l := fun j u hu => by
  have hj := (List.getElem?_eq_some_iff.1 hu).1
  rw [wrAt_in _ _ _ _ h hj, hu]
theorem InS.keepS {cs : Array Value} {o o' : Nat} {l m : List Value} (h : InS cs o' m) (hd : o' + m.length ≤ o ∨ o + l.length ≤ o') : InS (wrAt cs o l) o' m := fun j u hu => by
  have hj := (List.getElem?_eq_some_iff.1 hu).1
  rcases hd with hd | hd
  · rw [wrAt_lo _ _ _ _ (by omega)]; exact h j u hu
  · rw [wrAt_hi _ _ _ _ (by omega)]; exact h j u hu
end Go.Proofs.YtjdjahckdgbkbaeDoor
end
section
namespace Go.Proofs.YtjdjahckdgbkbaeDoor
open Go.RowKit
set_option linter.unusedVariables false
set_option maxHeartbeats 1000000
def nvalsW (L : List Int) : List Value := L.map (Value.int .i64)
theorem nvalsW_snoc (L : List Int) (x : Int) : nvalsW L ++ [.int .i64 x] = nvalsW (L ++ [x]) := by simp [nvalsW]
/-- a block with room: what it holds ahead -/
def OB (w : World) (g cap : Nat) (L : List Int) : Prop := L.length ≤ cap ∧ ∃ cs : Array Value, w.heap[g]? = some (.cells cs 3 (0, 0)) ∧ cs.size = cap ∧ ∀ (i : Nat) (x : Int), L[i]? = some x → cs[i]? = some (Value.int .i64 x)
theorem OB.lt {w : World} {g cap : Nat} {L : List Int} (h : OB w g cap L) : g < w.heap.size := by obtain ⟨_, cs, hh, _⟩ := h; exact ltS hh
theorem OB.keep {w w' : World} {g cap : Nat} {L : List Int} (h : OB w g cap L) (hb : Below w.heap.size w w') : OB w' g cap L := by
  obtain ⟨hl, cs, hh, hs, hc⟩ := h
  exact ⟨hl, cs, (hb.block g (ltS hh)).trans hh, hs, hc⟩
theorem OB.cell {w : World} {g cap i : Nat} {L : List Int} {x : Int} (h : OB w g cap L) (hx : L[i]? = some x) : w.cell? ⟨g, i, none⟩ = some (.int .i64 x) := by
  obtain ⟨hl, cs, hh, hs, hc⟩ := h
  exact (cellS hh i).trans (hc i x hx)
theorem OB.frozen {w : World} {g cap : Nat} {L : List Int} (h : OB w g cap L) (i : Nat) : w.frozen? ⟨g, i, none⟩ = false := by
  obtain ⟨hl, cs, hh, hs, hc⟩ := h
  exact frozenS hh i
theorem OB.set {w : World} {g cap : Nat} {L : List Int} (h : OB w g cap L) (i : Nat) (y : Int) (hi : i < L.length) : OB (w.setCell ⟨g, i, none⟩ (.int .i64 y)) g cap (L.set i y) := by
  obtain ⟨hl, cs, hh, hs, hc⟩ := h
  refine ⟨by rw [List.length_set]; exact hl, _, putS hh _, by simp [hs], fun k x hk => ?_⟩
  by_cases e : i = k
  · subst e
    rw [List.getElem?_set_self hi] at hk
    obtain rfl := Option.some.inj hk
    rw [Array.getElem?_setIfInBounds_self_of_lt (by omega)]
  · rw [List.getElem?_set_ne e] at hk
    rw [Array.getElem?_setIfInBounds_ne e]
    exact hc k x hk
theorem OB.nv {w : World} {g cap : Nat} {L : List Int} (h : OB w g cap L) : NV w (some ⟨g, 0, none⟩) L :=
  ⟨fun _ => ⟨g, 0, rfl, h.lt, fun i x hx => by rw [Nat.zero_add]; exact h.cell hx⟩⟩
theorem own_inW {w : World} {base n : Nat} {v : Value} {M : List Int} (h : w.ownsRow base 3 1 v n (nvalsW M)) (hn : n = M.length) :
    (v = .slice none 0 0 ∧ M = []) ∨ ∃ g cap, v = .slice (some ⟨g, 0, none⟩) n cap ∧ base ≤ g ∧ OB w g cap M := by
  rcases h.2 with ⟨rfl, h0⟩ | ⟨g, cap, cur, rfl, hb, hg, hc, _, hs, ht⟩
  · exact .inl ⟨rfl, List.length_eq_zero_iff.1 (by omega)⟩
  · refine .inr ⟨g, cap, rfl, hb, by omega, cur, hg, by omega, fun i x hx => ?_⟩
    have e : (nvalsW M)[i]? = some (Value.int .i64 x) := by simp [nvalsW, hx]
    have hi := (List.getElem?_eq_some_iff.1 hx).1
    rw [← ht, List.getElem?_take] at e
    rw [if_pos (by omega)] at e
    simpa using e
theorem int_infoW : ∃ (i : TypeInfo) (z : Value), Tryd.prog.info? 3 = some i ∧ i.zero = some z ∧ i.size = 1 ∧ i.bytes = 8 ∧ z.cells.size = 1 := by
  have hinfo : (Tryd.prog.info? 3).map (fun i => (i.zero, i.size, i.bytes)) = some (some (.int .i64 0), 1, 8) := by kernel_rfl
  obtain ⟨i, hi, h1, h2, h3⟩ := info_parts hinfo
  exact ⟨i, _, hi, h1, h2, h3, rfl⟩
theorem newW (W : World) (x : Int) (T : TypeId) : ∀ (j : Nat) (u : Value), [Value.int .i64 x][j]? = some u → (W.alloc (.cells #[.int .i64 x] T)).cell? ((⟨W.heap.size, 0, none⟩ : Addr).add j) = some u := fun j u h => by
  have hadd : (⟨W.heap.size, 0, none⟩ : Addr).add j = ⟨W.heap.size, j, none⟩ := by unfold Addr.add; split <;> simp_all
  rw [hadd]
  exact (cellS (newS W _) j).trans (by simpa using h)
theorem below_own {n : Nat} {a W w5 : World} {v : Value} {o : Obj} {lo hi : Nat} (h : Below n a W) (hg : (W.alloc o).grownBy w5 v.ownBlock) (hob : ∀ k, v.ownBlock = some k → lo ≤ k ∧ k < hi) (hlo : n ≤ lo) (hn : n ≤ a.heap.size) : Below n a w5 :=
  have h' : Below n a (W.alloc o) := h.alloc (Nat.le_trans hn h.size) o
  ⟨hg.os.trans h'.os, hg.tape.trans h'.tape, hg.output.trans h'.output, Nat.le_trans h'.size hg.size, fun k hk => (hg.block k (Nat.lt_of_lt_of_le (Nat.lt_of_lt_of_le hk hn) h'.size) (fun e => by have := hob k e.symm; omega)).trans (h'.block k hk)⟩
end Go.Proofs.YtjdjahckdgbkbaeDoor
end
section
namespace Go.Proofs.YtjdjahckdgbkbaeDoor
set_option linter.unusedVariables false
/-- each part, without a rest -/
def baseM (n S : Int) (ws : List Int) : List Int := ws.map (fun x => n * x / S)
/-- the first ones that have a weight get 1 more, as many as are missing -/
def onesM : Int → List Int → List Int → List Int
  | m, x :: ws, b :: bs => if 0 < x ∧ 0 < m then (b + 1) :: onesM (m - 1) ws bs else b :: onesM m ws bs
  | _, _, bs => bs
def spreadM (n : Int) (ws : List Int) : List Int :=
  if sumI ws = 0 then (List.replicate ws.length 0).set (ws.length - 1) n
  else onesM (n - sumI (baseM n (sumI ws) ws)) ws (baseM n (sumI ws) ws)
theorem baseM_len (n S : Int) (ws : List Int) : (baseM n S ws).length = ws.length := by simp [baseM]
theorem onesM_len : ∀ {m : Int} {ws bs : List Int}, (onesM m ws bs).length = bs.length
  | m, [], bs => by simp [onesM]
  | m, x :: ws, [] => by simp [onesM]
  | m, x :: ws, b :: bs => by
    unfold onesM
    split <;> simp [onesM_len]
theorem spreadM_len {n : Int} {ws : List Int} : (spreadM n ws).length = ws.length := by
  unfold spreadM
  split
  · simp
  · rw [onesM_len, baseM_len]
theorem onesM_zero : ∀ {m : Int} {ws bs : List Int}, m ≤ 0 → onesM m ws bs = bs
  | m, [], bs, h => by simp [onesM]
  | m, x :: ws, [], h => by simp [onesM]
  | m, x :: ws, b :: bs, h => by
    unfold onesM
    rw [if_neg (by omega), onesM_zero h]
/-- how many have a weight -/
def cntP : List Int → Int
  | [] => 0
  | x :: t => (if 0 < x then 1 else 0) + cntP t
theorem cntP_bd : ∀ ws : List Int, 0 ≤ cntP ws ∧ cntP ws ≤ ws.length
  | [] => by simp [cntP]
  | x :: t => by
    have := cntP_bd t
    simp only [cntP, List.length_cons]
    split <;> omega
theorem sumI_nonneg {L : List Int} (h : ∀ x ∈ L, 0 ≤ x) : 0 ≤ sumI L := by
  induction L with
  | nil => exact Int.le_refl _
  | cons x t ih =>
    have h1 := h x List.mem_cons_self
    have h2 := ih (fun q hq => h q (List.mem_cons_of_mem _ hq))
    simp only [sumI]; omega
theorem mul_sum (n : Int) : ∀ ws : List Int, n * sumI ws = sumI (ws.map (fun x => n * x))
  | [] => by simp [sumI]
  | x :: t => by simp only [sumI, List.map_cons, Int.mul_add, mul_sum n t]
/-- what the parts without a rest leave: at least 0, and less than the positive weights are many, or 0 -/
theorem left_bd {n S : Int} (hn : 0 ≤ n) (hS : 0 < S) : ∀ {ws : List Int}, (∀ x ∈ ws, 0 ≤ x) → 0 ≤ n * sumI ws - S * sumI (baseM n S ws) ∧ n * sumI ws - S * sumI (baseM n S ws) ≤ (S - 1) * cntP ws
  | [], _ => by simp [sumI, baseM, cntP]
  | x :: t, h => by
    have ih := left_bd hn hS (ws := t) (fun q hq => h q (List.mem_cons_of_mem _ hq))
    have hx := h x List.mem_cons_self
    have e := Int.mul_ediv_add_emod (n * x) S
    have r0 := Int.emod_nonneg (n * x) (show S ≠ 0 by omega)
    have r1 := Int.emod_lt_of_pos (n * x) hS
    have eb : sumI (baseM n S (x :: t)) = n * x / S + sumI (baseM n S t) := rfl
    rw [eb]
    simp only [sumI, cntP, Int.mul_add]
    generalize n * x / S = q at *
    generalize (n * x) % S = r at *
    generalize n * sumI t = u at *
    generalize S * sumI (baseM n S t) = v at *
    generalize (S - 1) * cntP t = z at *
    by_cases hp : 0 < x
    · simp only [if_pos hp, Int.mul_one]
      omega
    · have hx0 : x = 0 := by omega
      subst hx0
      simp only [Int.mul_zero] at e ⊢
      simp only [Int.lt_irrefl, if_false, Int.mul_zero]
      have hsq : S * q = 0 ∨ S * q ≠ 0 := by omega
      have hr : r = 0 := by
        have : S * q + r = 0 := e
        rcases Int.lt_or_le q 0 with hq | hq
        · have : S * q ≤ S * (-1) := Int.mul_le_mul_of_nonneg_left (by omega) (by omega)
          omega
        · have : 0 ≤ S * q := Int.mul_nonneg (by omega) hq
          omega
      omega
theorem miss_bd {n : Int} {ws : List Int} (hn : 0 ≤ n) (h : ∀ x ∈ ws, 0 ≤ x) (hS : sumI ws ≠ 0) : 0 ≤ n - sumI (baseM n (sumI ws) ws) ∧ n - sumI (baseM n (sumI ws) ws) ≤ cntP ws := by
  have h0 := sumI_nonneg h
  have hS' : 0 < sumI ws := by omega
  obtain ⟨a1, a2⟩ := left_bd hn hS' h
  have hc := (cntP_bd ws).1
  generalize sumI (baseM n (sumI ws) ws) = B at *
  generalize hs : sumI ws = S at *
  have e : n * S - S * B = S * (n - B) := by rw [Int.mul_sub, Int.mul_comm n S]
  rw [e] at a1 a2
  have e2 : (S - 1) * cntP ws = S * cntP ws - cntP ws := by rw [Int.sub_mul, Int.one_mul]
  rw [e2] at a2
  generalize cntP ws = C at *
  constructor
  · rcases Int.lt_or_le (n - B) 0 with hq | hq
    · have : S * (n - B) ≤ S * (-1) := Int.mul_le_mul_of_nonneg_left (by omega) (by omega)
      omega
    · exact hq
  · rcases Int.lt_or_le C (n - B) with hq | hq
    · have : S * (C + 1) ≤ S * (n - B) := Int.mul_le_mul_of_nonneg_left (by omega) (by omega)
      rw [Int.mul_add, Int.mul_one] at this
      omega
    · exact hq
theorem base_bd {n S x : Int} (hn : 0 ≤ n) (hS : 0 < S) (h0 : 0 ≤ x) (hx : x ≤ S) : 0 ≤ n * x / S ∧ n * x / S ≤ n := by
  refine ⟨Int.ediv_nonneg (Int.mul_nonneg hn h0) (by omega), ?_⟩
  have h1 : n * x ≤ n * S := Int.mul_le_mul_of_nonneg_left hx hn
  have h2 := Int.ediv_le_ediv hS h1
  rwa [Int.mul_ediv_cancel _ (by omega)] at h2
theorem mem_le_sum : ∀ {ws : List Int}, (∀ x ∈ ws, 0 ≤ x) → ∀ x ∈ ws, x ≤ sumI ws
  | [], _, x, hx => by cases hx
  | y :: t, h, x, hx => by
    have h1 := h y List.mem_cons_self
    have h2 := sumI_nonneg (L := t) (fun q hq => h q (List.mem_cons_of_mem _ hq))
    simp only [sumI]
    rcases List.mem_cons.1 hx with rfl | hx
    · omega
    · have := mem_le_sum (ws := t) (fun q hq => h q (List.mem_cons_of_mem _ hq)) x hx
      omega
end Go.Proofs.YtjdjahckdgbkbaeDoor
end
section
namespace Go.Proofs.YtjdjahckdgbkbaeDoor
open Go.RowKit
set_option linter.unusedVariables false
set_option maxHeartbeats 1000000
/-- weights of lines -/
def wsOK (ws : List Int) : Prop := (∀ x ∈ ws, 0 ≤ x ∧ x ≤ 5) ∧ 1 ≤ ws.length ∧ ws.length ≤ 5
theorem wsOK.sum {ws : List Int} (h : wsOK ws) : 0 ≤ sumI ws ∧ sumI ws ≤ 25 := by
  have := sumI_bd h.1
  have := h.2.2
  omega
theorem wsOK.smal {ws : List Int} (h : wsOK ws) : Smal 1000000000000000 ws := smal_of (b := 5) (fun x hx => by have := h.1 x hx; omega) (by omega) (by have := h.2.2; omega)
theorem wsOK.nn {ws : List Int} (h : wsOK ws) : ∀ x ∈ ws, 0 ≤ x := fun x hx => (h.1 x hx).1
theorem base_get {n S : Int} {ws : List Int} {k : Nat} {x : Int} (h : ws[k]? = some x) : (baseM n S ws)[k]? = some (n * x / S) := by
  simp [baseM, h]
/-- so far, and 0 -/
def mixM (B : List Int) (k : Nat) : List Int := B.take k ++ List.replicate (B.length - k) 0
theorem mixM_zero (B : List Int) : mixM B 0 = List.replicate B.length 0 := by simp [mixM]
theorem mixM_all (B : List Int) : mixM B B.length = B := by simp [mixM]
theorem mixM_set {B : List Int} {k : Nat} {b : Int} (h : B[k]? = some b) : (mixM B k).set k b = mixM B (k + 1) := by
  obtain ⟨hk, e⟩ := List.getElem?_eq_some_iff.1 h
  unfold mixM
  rw [List.set_append_right _ _ (by rw [List.length_take]; omega)]
  have h1 : B.length - k = (B.length - (k + 1)) + 1 := by omega
  rw [h1, List.replicate_succ]
  have h2 : k - (B.take k).length = 0 := by rw [List.length_take]; omega
  rw [h2, List.set_cons_zero, List.take_succ_eq_append_getElem hk, e]
  simp
theorem mixM_get {B : List Int} {k : Nat} (hk : k < B.length) : ∃ x, (mixM B k)[k]? = some x := by
  unfold mixM
  rw [List.getElem?_append_right (by rw [List.length_take]; omega)]
  have : k - (B.take k).length = 0 := by rw [List.length_take]; omega
  rw [this]
  exact ⟨0, by rw [List.getElem?_replicate, if_pos (by omega)]⟩
theorem mixM_get' {B : List Int} {k : Nat} {b : Int} (h : B[k]? = some b) : (mixM B (k + 1))[k]? = some b := by
  obtain ⟨hk, e⟩ := List.getElem?_eq_some_iff.1 h
  unfold mixM
  rw [List.getElem?_append_left (by rw [List.length_take]; omega), List.getElem?_take, if_pos (by omega), h]
theorem smal_base {n : Int} {ws : List Int} (hn : 0 ≤ n) (hn2 : n ≤ 100000000000000) (h : wsOK ws) (hS : sumI ws ≠ 0) : Smal 1000000000000000 (baseM n (sumI ws) ws) := by
  refine smal_of (b := 100000000000000) (fun x hx => ?_) (by omega) (by rw [baseM_len]; have := h.2.2; omega)
  obtain ⟨y, hy, rfl⟩ := List.mem_map.1 hx
  have h0 := h.sum
  have := base_bd (n := n) (S := sumI ws) (x := y) hn (by omega) (h.nn y hy) (mem_le_sum h.nn y hy)
  omega
theorem last_set {n : Int} {ws : List Int} {j : Nat} (hj : ws.length = j + 1) (h0 : sumI ws = 0) : (List.replicate ws.length (0 : Int)).set j n = spreadM n ws := by
  unfold spreadM
  rw [if_pos h0]
  congr 1
  omega
theorem wadd_mul {n x : Int} (hn : 0 ≤ n) (hn2 : n ≤ 100000000000000) (h0 : 0 ≤ x) (h5 : x ≤ 5) : 0 ≤ n * x ∧ n * x ≤ 500000000000000 :=
  ⟨Int.mul_nonneg hn h0, Int.le_trans (Int.mul_le_mul hn2 h5 h0 (by omega)) (by omega)⟩
theorem drop_consI {L : List Int} {k : Nat} {p : Int} (h : L[k]? = some p) : L.drop k = p :: L.drop (k + 1) := by
  have hk := (List.getElem?_eq_some_iff.1 h).1
  have e := (List.getElem?_eq_some_iff.1 h).2
  rw [List.drop_eq_getElem_cons hk, e]
theorem set_here {P R : List Int} {k : Nat} {y z : Int} (h : P.length = k) : (P ++ y :: R).set k z = P ++ z :: R := by
  rw [List.set_append_right _ _ (by omega)]
  have : k - P.length = 0 := by omega
  rw [this, List.set_cons_zero]
theorem onesM_nil (m : Int) (ws : List Int) : onesM m ws [] = [] := by cases ws <;> simp [onesM]
theorem sum_n (A : Option Addr) (c n : Nat) (L : List Int) (w : World) (h : NV w A L) (hn : n = L.length) (hL : n ≤ 1048576) (hM : Smal 1000000000000000 L) :
    Calls Tryd.prog 44 #[.slice A n c] w fun e w' => e = .returned (.int .i64 (sumI L)) ∧ w = w' := by subst hn; exact sum_v A c L w h hL hM
theorem total_n (A : Option Addr) (c n : Nat) (L : List Int) (w : World) (h : NV w A L) (hn : n = L.length) (hL : n ≤ 1048576) (hM : Smal 1000000000000000 L) :
    Calls Tryd.prog 35 #[.slice A n c] w fun e w' => e = .returned (.int .i64 (sumI L)) ∧ w = w' := by subst hn; exact total_v A c L w h hL hM
end Go.Proofs.YtjdjahckdgbkbaeDoor
end
section
namespace Go.Proofs.YtjdjahckdgbkbaeDoor
open Go.RowKit
set_option linter.unusedVariables false
set_option maxHeartbeats 1000000
attribute [local go_sem] growUpon_value growUpon_skip growUpon_enter
theorem below_grownI {w w' : World} {B : Nat} {row : Option Nat} (h : w.grownBy w' row) (hr : ∀ g, row = some g → B ≤ g) (hB : B ≤ w.heap.size) : Below B w w' :=
  ⟨h.os, h.tape, h.output, h.size, fun k hk => h.block k (by omega) (fun e => by have := hr k e.symm; omega)⟩
theorem gsetI {w w' : World} {g : Nat} (h : w.grownBy w' (some g)) (o : Nat) (v : Value) : w.grownBy (w'.setCell ⟨g, o, none⟩ v) (some g) :=
  ⟨h.os, h.tape, h.output, by simpa [World.setCell] using h.size, fun k hk hne => (Below.heap_setCell w' ⟨g, o, none⟩ v k (by rintro rfl; exact hne rfl)).trans (h.block k hk hne)⟩
theorem greflI (w : World) (g : Nat) : w.grownBy w (some g) := ⟨rfl, rfl, rfl, Nat.le_refl _, fun _ _ _ => rfl⟩
/-- the value reads as the list -/
def NR (w : World) (v : Value) (L : List Int) : Prop := ∃ A c, v = .slice A L.length c ∧ NV w A L
theorem NR.keep {w w' : World} {v : Value} {L : List Int} (h : NR w v L) (hb : Below w.heap.size w w') : NR w' v L := let ⟨A, c, e, n⟩ := h; ⟨A, c, e, n.keep hb⟩
theorem IB.nr {w : World} {g n : Nat} {L : List Int} (h : IB w g L) (hn : n = L.length) (m : Nat) : NR w (.slice (some ⟨g, 0, none⟩) n m) L := ⟨_, m, by rw [hn], h.nv⟩
theorem IB.but {w w' : World} {g h : Nat} {L : List Int} (hi : IB w h L) (hg : w.grownBy w' (some g)) (hne : h ≠ g) : IB w' h L := (hg.block h hi.lt (fun e => hne (Option.some.inj e))).trans hi
/-- a list in a block that was made from lo on, or none -/
def GI (lo : Nat) (w : World) (v : Value) (L : List Int) : Prop := (v = .slice none 0 0 ∧ L = []) ∨ ∃ g n, v = .slice (some ⟨g, 0, none⟩) n n ∧ n = L.length ∧ lo ≤ g ∧ IB w g L
theorem GI.nr {lo : Nat} {w : World} {v : Value} {L : List Int} (h : GI lo w v L) : NR w v L := by
  rcases h with ⟨rfl, rfl⟩ | ⟨g, n, rfl, hn, _, hk⟩
  · exact ⟨none, 0, rfl, NV.nil _ _⟩
  · exact hk.nr hn n
theorem GI.keep {lo : Nat} {w w' : World} {v : Value} {L : List Int} (h : GI lo w v L) (hb : Below w.heap.size w w') : GI lo w' v L := h.imp id fun ⟨g, n, h1, h2, h3, hk⟩ => ⟨g, n, h1, h2, h3, hk.keep hb⟩
theorem GI.but {lo g0 : Nat} {w w' : World} {v : Value} {L : List Int} (h : GI lo w v L) (hb : w.grownBy w' (some g0)) (hg : g0 < lo) : GI lo w' v L := h.imp id fun ⟨g, n, h1, h2, h3, hk⟩ => ⟨g, n, h1, h2, h3, hk.but hb (by omega)⟩
def MKI (n : Nat) : List Int := (List.range n).map (fun i : Nat => (i : Int) + 1)
theorem MKI_len (n : Nat) : (MKI n).length = n := by simp [MKI]
theorem MKI_get {n k : Nat} (h : k < n) : (MKI n)[k]? = some ((k : Int) + 1) := by simp [MKI, h]
def GIM (w : World) (v : Value) (n : Nat) : Prop := (v = .slice none 0 0 ∧ n = 0) ∨ ∃ g, v = .slice (some ⟨g, 0, none⟩) n n ∧ IB w g (MKI n)
theorem GIM.keep {w w' : World} {v : Value} {n : Nat} (h : GIM w v n) (hb : Below w.heap.size w w') : GIM w' v n := h.imp id fun ⟨g, h1, hk⟩ => ⟨g, h1, hk.keep hb⟩
set_option maxRecDepth 100000 in
theorem toIntS_any (A : Option Addr) (c : Nat) (L : List Int) (w : World) (h : NV w A L) (hL : L.length ≤ 1048576) :
    Calls Tryd.prog 46 #[.slice A L.length c] w fun e w' => e = .returned (.slice (some ⟨w.heap.size, 0, none⟩) L.length L.length) ∧ IB w' w.heap.size L ∧ Below w.heap.size w w' := by
  have hmk : ∀ w : World, (Instr.makeSlice 33 (.int .i64 (L.length : Int)) (.int .i64 (L.length : Int))).run Tryd.prog w = .ok (.slice (some ⟨w.heap.size, 0, none⟩) L.length L.length) (w.alloc (.cells (ivals (List.replicate L.length 0)) 3)) := fun w => madeI L.length w hL
  go_enter Tryd.func46, Tryd.ntmps46
  go_wp2_with fail
  have hI0 := makeI_b L.length w
  have hB0 : Below w.heap.size w (w.alloc (.cells (ivals (List.replicate L.length 0)) 3)) := balloc (Below.refl _ _)
  rw [← mixM_zero] at hI0
  have HI0 := Lib.hid hI0
  have HB0 := Lib.hid hB0
  clear hmk hI0 hB0
  go_loopw [4] (fun i wr => ∃ k : Nat, k ≤ L.length ∧ i = .int .i64 k ∧ IB wr w.heap.size (mixM L k) ∧ Below w.heap.size w wr) (fun i _ => L.length - (intOf i).toNat)
  case atStart => exact ⟨0, by omega, rfl, HI0.out, HB0.out⟩
  case round =>
    obtain ⟨k, hk, rfl, hI, hBr⟩ := hrel
    clear HI0 HB0
    by_cases hlt : k < L.length
    · have hd : decide ((k : Int) < (L.length : Int)) = true := by simpa using hlt
      obtain ⟨b, off, rfl, hb, hp⟩ := (h.keep hBr).cells (by omega)
      have hget : L[k]? = some L[k] := List.getElem?_eq_getElem hlt
      have c0 := hp k _ hget
      generalize hx : L[k] = x at *
      obtain ⟨y, hy⟩ := mixM_get (B := L) (k := k) hlt
      have d0 := hI.cell hy
      have f0 := hI.frozen k
      have hI2 := hI.set k x
      rw [mixM_set hget] at hI2
      have HI2 := Lib.hid hI2
      have HB2 := Lib.hid (hBr.setCell (p := ⟨w.heap.size, k, none⟩) (Nat.le_refl _) (.int .i64 x))
      clear hI hI2 hBr hp hget hx hy
      go_wp2
      go_roundw
      case rel => exact ⟨k + 1, by omega, by go_num, HI2.out, HB2.out⟩
      case measure => simp [intOf]; omega
    · have hd : decide ((k : Int) < (L.length : Int)) = false := by simp; omega
      obtain rfl : k = L.length := by omega
      rw [mixM_all] at hI
      have HI2 := Lib.hid hI
      have HB2 := Lib.hid hBr
      clear hI hBr
      go_wp2
      go_ret
      exact ⟨rfl, HI2.out, HB2.out⟩
set_option maxRecDepth 100000 in
theorem eqIntS_same (v v' : Value) (L : List Int) (w : World) (h : NR w v L) (h' : NR w v' L) (hL : L.length ≤ 1048576) :
    Calls Tryd.prog 47 #[v, v'] w fun e w' => e = .returned (.bool true) ∧ Below w.heap.size w w' := by
  obtain ⟨A, c, rfl, h⟩ := h
  obtain ⟨B, c', rfl, h'⟩ := h'
  go_enter Tryd.func47, Tryd.ntmps47
  go_wp2_with fail
  go_loopw [5] (fun i wr => ∃ k : Nat, k ≤ L.length ∧ i = .int .i64 k ∧ Below w.heap.size w wr) (fun i _ => L.length - (intOf i).toNat)
  case atStart => exact ⟨0, by omega, rfl, Below.refl _ _⟩
  case round =>
    obtain ⟨k, hk, rfl, hB⟩ := hrel
    by_cases hlt : k < L.length
    · have hd : decide ((k : Int) < (L.length : Int)) = true := by simpa using hlt
      obtain ⟨b, off, rfl, hb, hp⟩ := (h.keep hB).cells (by omega)
      obtain ⟨b', off', rfl, hb', hp'⟩ := (h'.keep hB).cells (by omega)
      have hget : L[k]? = some L[k] := List.getElem?_eq_getElem hlt
      have c0 := hp k _ hget
      have d0 := hp' k _ hget
      generalize hx : L[k] = x at *
      have HB := Lib.hid hB
      clear hget hx hp hp' hB
      go_wp2_with fail
      refine wp_region_grow 9 0 (· < 9) (by kernel_rfl) (by kernel_rfl) rfl ?_
      iterate 9 (refine wpG_step (fun K hK => ?_); first | (refine grow_skip rfl ?_; go_simp; refine hK _ ?_; clear hK K) | (apply Exists.intro; refine ⟨.inl ⟨rfl, fun w' hw' => ?_⟩, ?_⟩; (focus ((obtain ⟨hc, hf⟩ := bcell hw'.out); (have hcS := bcellS hw'.out); go_simp <;> first | rfl | (fail))); (go_simp; refine hK _ ?_; clear hK K)))
      refine wpG_nil ?_
      refine wpK_tail (by kernel_rfl) (fun w1 hg1 => ?_)
      have hb1 := bdrewn hg1.out
      refine wpAny_end (by kernel_rfl) ?_
      refine NoPan.thn ?_
      clear hg1
      replace HB := Lib.hid (HB.out.trans (hb1.mono HB.out.size))
      clear hb1 c0 d0
      go_wp2
      go_roundw
      case rel => exact ⟨k + 1, by omega, by go_num, HB.out⟩
      case measure => simp [intOf]; omega
    · have hd : decide ((k : Int) < (L.length : Int)) = false := by simp; omega
      have HB := Lib.hid hB
      clear hB
      go_wp2
      go_ret
      exact ⟨rfl, HB.out⟩
set_option maxRecDepth 100000 in
theorem markIntS_v (g : Nat) (M : List Int) (n : Nat) (w : World) (h : IB w g M) (hn : n = M.length) (hL : n ≤ 1048576) :
    Calls Tryd.prog 48 #[.slice (some ⟨g, 0, none⟩) n n, .int .i64 1] w fun e w' => e = .returned (.int .i64 ((n : Int) + 1)) ∧ IB w' g (MKI n) ∧ w.grownBy w' (some g) := by
  subst hn
  have HI := Lib.hid h
  clear h
  go_enter Tryd.func48, Tryd.ntmps48
  go_wp2_with fail
  go_loopw [1, 5] (fun kv i wr => ∃ k : Nat, k ≤ M.length ∧ i = .int .i64 k ∧ kv = .int .i64 ((k : Int) + 1) ∧ IB wr g ((MKI M.length).take k ++ M.drop k) ∧ w.grownBy wr (some g)) (fun _ i _ => M.length - (intOf i).toNat)
  case atStart => exact ⟨0, by omega, rfl, rfl, by simpa using HI.out, greflI _ _⟩
  case round =>
    obtain ⟨k, hk, rfl, rfl, hI, hgr⟩ := hrel
    clear HI
    by_cases hlt : k < M.length
    · have hd : decide ((k : Int) < (M.length : Int)) = true := by simpa using hlt
      have hget : M[k]? = some M[k] := List.getElem?_eq_getElem hlt
      have hdr := drop_consI hget
      rw [hdr] at hI
      have hlk : ((MKI M.length).take k).length = k := by rw [List.length_take, MKI_len]; omega
      have d0 := hI.cell (i := k) (x := M[k]) (by rw [List.getElem?_append_right (by omega), hlk, Nat.sub_self]; rfl)
      have f0 := hI.frozen k
      have hI2 := hI.set k ((k : Int) + 1)
      rw [set_here hlk] at hI2
      have e3 : (MKI M.length).take k ++ ((k : Int) + 1) :: M.drop (k + 1) = (MKI M.length).take (k + 1) ++ M.drop (k + 1) := by
        have h1 := MKI_get hlt
        obtain ⟨h2, h3⟩ := List.getElem?_eq_some_iff.1 h1
        rw [List.take_succ_eq_append_getElem h2, h3]; simp
      rw [e3] at hI2
      have HI2 := Lib.hid hI2
      have HG2 := Lib.hid (gsetI hgr k (.int .i64 ((k : Int) + 1)))
      generalize M[k] = x at *
      clear hI hI2 hgr hget hdr hlk e3
      go_wp2
      go_roundw
      case rel => exact ⟨k + 1, by omega, by go_num, by go_num, HI2.out, HG2.out⟩
      case measure => simp [intOf]; omega
    · have hd : decide ((k : Int) < (M.length : Int)) = false := by simp; omega
      obtain rfl : k = M.length := by omega
      have e1 : (MKI M.length).take M.length = MKI M.length := List.take_of_length_le (by rw [MKI_len]; omega)
      rw [e1, List.drop_length, List.append_nil] at hI
      have HI2 := Lib.hid hI
      have HG2 := Lib.hid hgr
      clear hI hgr e1
      go_wp2
      go_ret
      exact ⟨rfl, HI2.out, HG2.out⟩
set_option maxRecDepth 100000 in
theorem markIntS_nil (w : World) : Calls Tryd.prog 48 #[.slice none 0 0, .int .i64 1] w fun e w' => e = .returned (.int .i64 1) ∧ w' = w := by
  go_enter Tryd.func48, Tryd.ntmps48
  go_wp2_with fail
  go_loop [1, 5] (fun kv i => kv = .int .i64 1 ∧ i = .int .i64 0) (fun _ _ => 0)
  case atStart => exact ⟨rfl, rfl⟩
  case round =>
    obtain ⟨rfl, rfl⟩ := hrel
    go_wp2
    go_ret
    exact ⟨rfl, rfl⟩
set_option maxRecDepth 100000 in
theorem heldIntS_v (g : Nat) (n : Nat) (w : World) (h : IB w g (MKI n)) (hL : n ≤ 1048576) :
    Calls Tryd.prog 49 #[.slice (some ⟨g, 0, none⟩) n n, .int .i64 1] w fun e w' => e = .returned (.int .i64 ((n : Int) + 1)) ∧ w' = w := by
  go_enter Tryd.func49, Tryd.ntmps49
  go_wp2_with fail
  go_loop [1, 5] (fun kv i => ∃ k : Nat, k ≤ n ∧ i = .int .i64 k ∧ kv = .int .i64 ((k : Int) + 1)) (fun _ i => n - (intOf i).toNat)
  case atStart => exact ⟨0, by omega, rfl, rfl⟩
  case round =>
    obtain ⟨k, hk, rfl, rfl⟩ := hrel
    by_cases hlt : k < n
    · have hd : decide ((k : Int) < (n : Int)) = true := by simpa using hlt
      have d0 := h.cell (MKI_get hlt)
      go_wp2
      go_round
      case rel => exact ⟨k + 1, by omega, by go_num, by go_num⟩
      case measure => simp [intOf]; omega
    · have hd : decide ((k : Int) < (n : Int)) = false := by simp; omega
      obtain rfl : k = n := by omega
      go_wp2
      go_ret
      exact ⟨rfl, rfl⟩
set_option maxRecDepth 100000 in
theorem heldIntS_nil (w : World) : Calls Tryd.prog 49 #[.slice none 0 0, .int .i64 1] w fun e w' => e = .returned (.int .i64 1) ∧ w' = w := by
  go_enter Tryd.func49, Tryd.ntmps49
  go_wp2_with fail
  go_loop [1, 5] (fun kv i => kv = .int .i64 1 ∧ i = .int .i64 0) (fun _ _ => 0)
  case atStart => exact ⟨rfl, rfl⟩
  case round =>
    obtain ⟨rfl, rfl⟩ := hrel
    go_wp2
    go_ret
    exact ⟨rfl, rfl⟩
theorem markGI (lo : Nat) (w : World) (v : Value) (M : List Int) (h : GI lo w v M) (hM : M.length ≤ 1048576) :
    Calls Tryd.prog 48 #[v, .int .i64 1] w fun e w' => e = .returned (.int .i64 ((M.length : Int) + 1)) ∧ GIM w' v M.length ∧ Below lo w w' := by
  rcases h with ⟨rfl, rfl⟩ | ⟨g, n, rfl, hn, hg0, hk⟩
  · refine (markIntS_nil w).mono ?_
    rintro e w' ⟨rfl, rfl⟩
    exact ⟨rfl, .inl ⟨rfl, rfl⟩, Below.refl _ _⟩
  · have hlo := hk.lt
    refine (markIntS_v g M n w hk hn (by omega)).mono ?_
    rintro e w' ⟨rfl, hk', hg⟩
    subst hn
    exact ⟨rfl, .inr ⟨g, rfl, hk'⟩, below_grownI hg (fun q e => by cases e; exact hg0) (by omega)⟩
theorem heldGI (w : World) (v : Value) (n : Nat) (h : GIM w v n) (hn : n ≤ 1048576) :
    Calls Tryd.prog 49 #[v, .int .i64 1] w fun e w' => e = .returned (.int .i64 ((n : Int) + 1)) ∧ w' = w := by
  rcases h with ⟨rfl, rfl⟩ | ⟨g, rfl, hk⟩
  · exact heldIntS_nil w
  · exact heldIntS_v g n w hk hn
end Go.Proofs.YtjdjahckdgbkbaeDoor
end
section
namespace Go.Proofs.YtjdjahckdgbkbaeDoor
open Go.RowKit
set_option linter.unusedVariables false
set_option maxHeartbeats 1000000
attribute [local go_sem] growUpon_value growUpon_skip growUpon_enter
theorem IB.ob {w : World} {g n : Nat} {L : List Int} (h : IB w g L) (hn : n = L.length) : OB w g n L := by
  have h' : w.heap[g]? = some (.cells (ivals L) 3 (0, 0)) := h
  exact ⟨by omega, ivals L, h', by simp [ivals, hn], fun i x hx => by simp [ivals, hx]⟩
theorem OB.sameL {w w' : World} {g cap : Nat} {L : List Int} (h : OB w g cap L) (e : w'.heap[g]? = w.heap[g]?) : OB w' g cap L := by
  obtain ⟨hl, cs, hh, hs, hc⟩ := h
  exact ⟨hl, cs, e.trans hh, hs, hc⟩
theorem OB.nr {w : World} {g cap n : Nat} {L : List Int} (h : OB w g cap L) (hn : n = L.length) (m : Nat) : NR w (.slice (some ⟨g, 0, none⟩) n m) L := ⟨_, m, by rw [hn], h.nv⟩
/-- the marks from k on -/
def MKo (k : Int) (n : Nat) : List Int := (List.range n).map (fun i : Nat => (i : Int) + k)
theorem MKo_len (k : Int) (n : Nat) : (MKo k n).length = n := by simp [MKo]
theorem MKo_get {k : Int} {n i : Nat} (h : i < n) : (MKo k n)[i]? = some ((i : Int) + k) := by simp [MKo, h]
theorem drop_consO {L : List Int} {k : Nat} {x : Int} (h : L[k]? = some x) : L.drop k = x :: L.drop (k + 1) := by
  obtain ⟨hk, e⟩ := List.getElem?_eq_some_iff.1 h
  rw [List.drop_eq_getElem_cons hk, e]
theorem set_hereO {A B : List Int} {n : Nat} {y x : Int} (h : A.length = n) : (A ++ y :: B).set n x = A ++ x :: B := by
  subst h; simp
set_option maxRecDepth 100000 in
theorem markO (g cap n : Nat) (k : Int) (M : List Int) (w : World) (h : OB w g cap M) (hn : n = M.length) (hL : n ≤ 1048576) (hk0 : 0 ≤ k) (hk1 : k ≤ 10000000) :
    Calls Tryd.prog 48 #[.slice (some ⟨g, 0, none⟩) n cap, .int .i64 k] w fun e w' => e = .returned (.int .i64 (k + (n : Int))) ∧ OB w' g cap (MKo k n) ∧ w.grownBy w' (some g) := by
  subst hn
  have HI := Lib.hid h
  clear h
  go_enter Tryd.func48, Tryd.ntmps48
  go_wp2_with fail
  go_loopw [1, 5] (fun kv i wr => ∃ j : Nat, j ≤ M.length ∧ i = .int .i64 j ∧ kv = .int .i64 (k + (j : Int)) ∧ OB wr g cap ((MKo k M.length).take j ++ M.drop j) ∧ w.grownBy wr (some g)) (fun _ i _ => M.length - (intOf i).toNat)
  case atStart => exact ⟨0, by omega, rfl, by simp, by simpa using HI.out, greflI _ _⟩
  case round =>
    obtain ⟨j, hj, rfl, rfl, hI, hgr⟩ := hrel
    clear HI
    by_cases hlt : j < M.length
    · have hd : decide ((j : Int) < (M.length : Int)) = true := by simpa using hlt
      have hget : M[j]? = some M[j] := List.getElem?_eq_getElem hlt
      have hdr := drop_consO hget
      rw [hdr] at hI
      have hlk : ((MKo k M.length).take j).length = j := by rw [List.length_take, MKo_len]; omega
      have d0 := hI.cell (i := j) (x := M[j]) (by rw [List.getElem?_append_right (by omega), hlk, Nat.sub_self]; rfl)
      have f0 := hI.frozen j
      have hI2 := hI.set j (k + (j : Int)) (by rw [List.length_append, hlk, List.length_cons]; omega)
      rw [set_hereO hlk] at hI2
      have e3 : (MKo k M.length).take j ++ (k + (j : Int)) :: M.drop (j + 1) = (MKo k M.length).take (j + 1) ++ M.drop (j + 1) := by
        have h1 := MKo_get (k := k) hlt
        obtain ⟨h2, h3⟩ := List.getElem?_eq_some_iff.1 h1
        rw [List.take_succ_eq_append_getElem h2, h3]; simp [Int.add_comm]
      rw [e3] at hI2
      have HI2 := Lib.hid hI2
      have HG2 := Lib.hid (gsetI hgr j (.int .i64 (k + (j : Int))))
      generalize M[j] = x at *
      clear hI hI2 hgr hget hdr hlk e3
      go_wp2
      go_roundw
      case rel => exact ⟨j + 1, by omega, by go_num, by go_num, HI2.out, HG2.out⟩
      case measure => simp [intOf]; omega
    · have hd : decide ((j : Int) < (M.length : Int)) = false := by simp; omega
      obtain rfl : j = M.length := by omega
      have e1 : (MKo k M.length).take M.length = MKo k M.length := List.take_of_length_le (by rw [MKo_len]; omega)
      rw [e1, List.drop_length, List.append_nil] at hI
      have HI2 := Lib.hid hI
      have HG2 := Lib.hid hgr
      clear hI hgr e1
      go_wp2
      go_ret
      exact ⟨rfl, HI2.out, HG2.out⟩
set_option maxRecDepth 100000 in
theorem markO_nil (k : Int) (w : World) : Calls Tryd.prog 48 #[.slice none 0 0, .int .i64 k] w fun e w' => e = .returned (.int .i64 k) ∧ w' = w := by
  go_enter Tryd.func48, Tryd.ntmps48
  go_wp2_with fail
  go_loop [1, 5] (fun kv i => kv = .int .i64 k ∧ i = .int .i64 0) (fun _ _ => 0)
  case atStart => exact ⟨rfl, rfl⟩
  case round =>
    obtain ⟨rfl, rfl⟩ := hrel
    go_wp2
    go_ret
    exact ⟨rfl, rfl⟩
set_option maxRecDepth 100000 in
theorem heldO (g cap n : Nat) (k : Int) (w : World) (h : OB w g cap (MKo k n)) (hL : n ≤ 1048576) (hk0 : 0 ≤ k) (hk1 : k ≤ 10000000) :
    Calls Tryd.prog 49 #[.slice (some ⟨g, 0, none⟩) n cap, .int .i64 k] w fun e w' => e = .returned (.int .i64 (k + (n : Int))) ∧ w' = w := by
  go_enter Tryd.func49, Tryd.ntmps49
  go_wp2_with fail
  go_loop [1, 5] (fun kv i => ∃ j : Nat, j ≤ n ∧ i = .int .i64 j ∧ kv = .int .i64 (k + (j : Int))) (fun _ i => n - (intOf i).toNat)
  case atStart => exact ⟨0, by omega, rfl, by simp⟩
  case round =>
    obtain ⟨j, hj, rfl, rfl⟩ := hrel
    by_cases hlt : j < n
    · have hd : decide ((j : Int) < (n : Int)) = true := by simpa using hlt
      have d0 := h.cell (MKo_get hlt)
      rw [Int.add_comm] at d0
      go_wp2
      go_round
      case rel => exact ⟨j + 1, by omega, by go_num, by go_num⟩
      case measure => simp [intOf]; omega
    · have hd : decide ((j : Int) < (n : Int)) = false := by simp; omega
      obtain rfl : j = n := by omega
      go_wp2
      go_ret
      exact ⟨rfl, rfl⟩
set_option maxRecDepth 100000 in
theorem heldO_nil (k : Int) (w : World) : Calls Tryd.prog 49 #[.slice none 0 0, .int .i64 k] w fun e w' => e = .returned (.int .i64 k) ∧ w' = w := by
  go_enter Tryd.func49, Tryd.ntmps49
  go_wp2_with fail
  go_loop [1, 5] (fun kv i => kv = .int .i64 k ∧ i = .int .i64 0) (fun _ _ => 0)
  case atStart => exact ⟨rfl, rfl⟩
  case round =>
    obtain ⟨rfl, rfl⟩ := hrel
    go_wp2
    go_ret
    exact ⟨rfl, rfl⟩
theorem szIntS_yes (A : Option Addr) (n c : Nat) (l : Int) (w : World) (h1 : (n : Int) ≤ l) (h2 : l ≤ 1048576) : Calls Tryd.prog 45 #[.slice A n c, .int .i64 l] w fun e w' => e = .returned (.int .i64 (l - n)) ∧ w = w' := by
  have q1 : ¬ l - (n : Int) < 0 := by omega
  have q2 : IntKind.i64.wrap (l - (n : Int)) = l - n := IntWalk.i64_in _ (by omega)
  go_enter Tryd.func45, Tryd.ntmps45
  go_wp2
  go_ret
  exact ⟨rfl, rfl⟩
theorem szIntS_no (A : Option Addr) (n c : Nat) (l : Int) (w : World) (h0 : 0 ≤ l) (h1 : l < n) (h2 : n ≤ maxLen) : Calls Tryd.prog 45 #[.slice A n c, .int .i64 l] w fun e w' => e = .returned (.int .i64 (-1)) ∧ w = w' := by
  have q1 : l - (n : Int) < 0 := by omega
  have q3 : (n : Int) ≤ 9223372036854775807 := by unfold maxLen at h2; omega
  have q2 : IntKind.i64.wrap (l - (n : Int)) = l - n := IntWalk.i64_in _ (by omega)
  go_enter Tryd.func45, Tryd.ntmps45
  go_wp2
  go_ret
  exact ⟨rfl, rfl⟩
end Go.Proofs.YtjdjahckdgbkbaeDoor
end
