import Derived.Test.YtogpdpjheknkjacRG
import Derived.Deep.Draws
import Derived.Laws.OwnMore
namespace Go.Proofs.Ytogpdpjheknkjac
open Go Go.RowKit
set_option linter.unusedVariables false
/-- of the blocks that there were, only these may have changed -/
structure Chg (S : List Nat) (w w' : World) : Prop where
  os : w'.os = w.os
  tape : w'.tape = w.tape
  output : w'.output = w.output
  size : w.heap.size ≤ w'.heap.size
  block : ∀ k, k < w.heap.size → k ∉ S → w'.heap[k]? = w.heap[k]?
theorem Chg.refl (S : List Nat) (w : World) : Chg S w w := ⟨rfl, rfl, rfl, Nat.le_refl _, fun _ _ _ => rfl⟩
theorem Chg.trans {S : List Nat} {a b c : World} (h : Chg S a b) (k : Chg S b c) : Chg S a c :=
  ⟨k.os.trans h.os, k.tape.trans h.tape, k.output.trans h.output, Nat.le_trans h.size k.size, fun i hi hs => (k.block i (Nat.lt_of_lt_of_le hi h.size) hs).trans (h.block i hi hs)⟩
theorem Chg.mono {S S' : List Nat} {w w' : World} (h : Chg S w w') (hs : ∀ x ∈ S, x ∈ S') : Chg S' w w' := ⟨h.os, h.tape, h.output, h.size, fun k hk hn => h.block k hk fun hx => hn (hs k hx)⟩
theorem Chg.drew {S : List Nat} {a w : World} (h : Chg S a w) : Chg S a w.drew := ⟨h.os, h.tape, h.output, h.size, h.block⟩
theorem Chg.drewN {S : List Nat} {a w : World} (h : Chg S a w) (n : Nat) : Chg S a (w.drewN n) := ⟨h.os, h.tape, h.output, h.size, h.block⟩
theorem Chg.alloc {S : List Nat} {a w : World} (h : Chg S a w) (o : Obj) : Chg S a (w.alloc o) :=
  h.trans ⟨rfl, rfl, rfl, by simp, fun k hk _ => Below.heap_alloc _ _ _ hk⟩
theorem Chg.setCell {S : List Nat} {a w : World} (h : Chg S a w) {p : Addr} (hp : p.block ∈ S ∨ a.heap.size ≤ p.block) (u : Value) : Chg S a (w.setCell p u) :=
  ⟨h.os, h.tape, h.output, by simpa [World.setCell] using h.size, fun k hk hs => (Below.heap_setCell w p u k (by
    rintro rfl
    rcases hp with hp | hp
    · exact hs hp
    · omega)).trans (h.block k hk hs)⟩
theorem Chg.below {S : List Nat} {w w' : World} {B : Nat} (h : Chg S w w') (hB : B ≤ w.heap.size) (hs : ∀ x ∈ S, B ≤ x) : Below B w w' :=
  ⟨h.os, h.tape, h.output, h.size, fun k hk => h.block k (by omega) fun hx => by have := hs k hx; omega⟩
theorem Chg.of_below {S : List Nat} {a w w' : World} (h : Chg S a w) (hb : Below w.heap.size w w') : Chg S a w' :=
  h.trans ⟨hb.os, hb.tape, hb.output, hb.size, fun k hk _ => hb.block k hk⟩
theorem Chg.of_grown {S : List Nat} {a w w' : World} {g : Nat} (h : Chg S a w) (hb : w.grownBy w' (some g)) (hg : g ∈ S ∨ a.heap.size ≤ g) : Chg S a w' :=
  ⟨hb.os.trans h.os, hb.tape.trans h.tape, hb.output.trans h.output, Nat.le_trans h.size hb.size, fun k hk hs => (hb.block k (Nat.lt_of_lt_of_le hk h.size) (fun e => by
    injection e with e
    subst e
    rcases hg with hg | hg
    · exact hs hg
    · omega)).trans (h.block k hk hs)⟩
/-- steps in a world that came later -/
theorem Chg.more {S S' : List Nat} {a w w' : World} (h : Chg S a w) (hb : Chg S' w w') (hs : ∀ x ∈ S', x ∈ S ∨ a.heap.size ≤ x) : Chg S a w' :=
  ⟨hb.os.trans h.os, hb.tape.trans h.tape, hb.output.trans h.output, Nat.le_trans h.size hb.size, fun k hk hn => (hb.block k (Nat.lt_of_lt_of_le hk h.size) (fun hx => by
    rcases hs k hx with h1 | h1
    · exact hn h1
    · omega)).trans (h.block k hk hn)⟩
theorem Chg.cell {S : List Nat} {w w' : World} (h : Chg S w w') {p : Addr} (hp : p.block < w.heap.size) (hs : p.block ∉ S) : w'.cell? p = w.cell? p := World.cell?_of_block (h.block _ hp hs)
theorem lt_of_heap {w : World} {g : Nat} {o : Obj} (h : w.heap[g]? = some o) : g < w.heap.size := (Array.getElem?_eq_some_iff.1 h).1
theorem Chg.set1 (w : World) (g o : Nat) (u : Value) : Chg [g] w (w.setCell ⟨g, o, none⟩ u) := (Chg.refl _ _).setCell (.inl (by simp)) u
/-- the reader lies in block rb: the bytes that it was given, and a place of at most m -/
structure Rd (B rb : Nat) (A : Option Addr) (n c : Nat) (m : Nat) (w : World) : Prop where
  base : B ≤ rb
  len : n ≤ 2000
  box : ∃ p : Nat, p ≤ m ∧ w.heap[rb]? = some (.cells #[.slice A n c, .int .i64 p] 70 (0, 0))
  bytes : 0 < n → ∃ ad, A = some ad ∧ ad.block < B ∧ ∀ i, i < n → ∃ z : Int, 0 ≤ z ∧ z < 256 ∧ w.cell? (ad.add i) = some (.int .u8 z)
section
variable {B rb : Nat} {A : Option Addr} {n c m : Nat} {w w' : World}
theorem block_add (a : Addr) (i : Nat) : (a.add i).block = a.block := by unfold Addr.add; split <;> rfl
theorem Rd.lt (h : Rd B rb A n c m w) : rb < w.heap.size := by obtain ⟨p, _, hp⟩ := h.box; exact lt_of_heap hp
theorem Rd.keep (h : Rd B rb A n c m w) {S : List Nat} (hc : Chg S w w') (hs : ∀ x ∈ S, B ≤ x ∧ x ≠ rb) : Rd B rb A n c m w' := by
  have hlt := h.lt
  refine ⟨h.base, h.len, ?_, fun hn => ?_⟩
  · obtain ⟨p, hp, hh⟩ := h.box
    exact ⟨p, hp, (hc.block rb hlt fun hx => (hs rb hx).2 rfl).trans hh⟩
  · obtain ⟨ad, e, hb, hcell⟩ := h.bytes hn
    refine ⟨ad, e, hb, fun i hi => ?_⟩
    obtain ⟨z, z0, z1, hz⟩ := hcell i hi
    exact ⟨z, z0, z1, (hc.cell (by rw [block_add]; have := h.base; omega) (by rw [block_add]; intro hx; have := (hs _ hx).1; omega)).trans hz⟩
theorem Rd.mono {m' : Nat} (h : Rd B rb A n c m w) (hm : m ≤ m') : Rd B rb A n c m' w := ⟨h.base, h.len, let ⟨p, hp, hh⟩ := h.box; ⟨p, by omega, hh⟩, h.bytes⟩
theorem Rd.drew (h : Rd B rb A n c m w) : Rd B rb A n c m w.drew := ⟨h.base, h.len, h.box, h.bytes⟩
theorem Rd.drewN (h : Rd B rb A n c m w) (k : Nat) : Rd B rb A n c m (w.drewN k) := ⟨h.base, h.len, h.box, h.bytes⟩
theorem Rd.alloc (h : Rd B rb A n c m w) (o : Obj) : Rd B rb A n c m (w.alloc o) := h.keep (S := []) ((Chg.refl _ _).alloc o) (by simp)
theorem Rd.setCell (h : Rd B rb A n c m w) {p : Addr} (hB : B ≤ p.block) (hp : p.block ≠ rb) (u : Value) : Rd B rb A n c m (w.setCell p u) :=
  h.keep (S := [p.block]) ((Chg.refl _ _).setCell (.inl List.mem_cons_self) u) (by simp; exact ⟨hB, hp⟩)
theorem Rd.below (h : Rd B rb A n c m w) (hb : Below w.heap.size w w') : Rd B rb A n c m w' := h.keep (S := []) ((Chg.refl _ _).of_below hb) (by simp)
end
/-- a slice of bytes that came in -/
def Bts (w : World) (A : Option Addr) (n : Nat) : Prop := 0 < n → ∃ ad, A = some ad ∧ ad.block < w.heap.size ∧ ∀ i, i < n → ∃ z : Int, 0 ≤ z ∧ z < 256 ∧ w.cell? (ad.add i) = some (.int .u8 z)
theorem Bts.rd {w : World} {A : Option Addr} {n k c : Nat} (h : Bts w A n) (hk : k ≤ n) (h2 : k ≤ 2000) : Rd w.heap.size w.heap.size A k c 0 (w.alloc (.cells #[.slice A k c, .int .i64 0] 70)) := by
  refine ⟨Nat.le_refl _, h2, ⟨0, Nat.le_refl _, ?_⟩, fun hn => ?_⟩
  · show (w.heap.push _)[w.heap.size]? = _
    simp
  · obtain ⟨ad, e, hb, hc⟩ := h (by omega)
    refine ⟨ad, e, hb, fun i hi => ?_⟩
    obtain ⟨z, z0, z1, hz⟩ := hc i (by omega)
    exact ⟨z, z0, z1, (World.cell?_of_block (Below.heap_alloc _ _ _ (by rw [block_add]; exact hb))).trans hz⟩
/-! what a value is good for -/
def TI : Value → World → Prop := fun v _ => ∃ z, v = .int .i64 z
def TIr (lo hi : Int) : Value → World → Prop := fun v _ => ∃ z, v = .int .i64 z ∧ lo ≤ z ∧ z < hi
def TB : Value → World → Prop := fun v _ => ∃ b, v = .bool b
def TV (u : Value) : Value → World → Prop := fun v _ => v = u
def TT0 : Value → World → Prop := fun _ _ => True
def TRect : Value → World → Prop := fun v _ => ∃ x y u q, v = .agg #[.int .i64 (x), .int .i64 (y), .int .i64 (u), .int .i64 (q)]
/-- a slice of k ints of the call's own, not the reader's, nor one of those that are written -/
def TL (B : Nat) (S : List Nat) (k : Nat) : Value → World → Prop := fun v w => ∃ g, v = .slice (some ⟨g, 0, none⟩) k k ∧ B ≤ g ∧ g ∉ S ∧ g < w.heap.size ∧ ∀ i, i < k → ∃ z, w.cell? ⟨g, i, none⟩ = some (.int .i64 z)
theorem TL.keep {B : Nat} {S : List Nat} {k : Nat} {v : Value} {a b : World} (h : TL B S k v a) (hc : Chg S a b) : TL B S k v b := by
  obtain ⟨g, e, h0, h1, h2, h3⟩ := h
  exact ⟨g, e, h0, h1, Nat.lt_of_lt_of_le h2 hc.size, fun i hi => let ⟨z, hz⟩ := h3 i hi; ⟨z, (hc.cell (p := ⟨g, i, none⟩) h2 h1).trans hz⟩⟩
theorem cell_of_heap {w : World} {b : Nat} {cs : Array Value} {T : TypeId} {fz : Nat × Nat} (h : w.heap[b]? = some (.cells cs T fz)) (i : Nat) : w.cell? ⟨b, i, none⟩ = cs[i]? := by simp [World.cell?, h]
theorem frozen_of_heap {w : World} {b : Nat} {cs : Array Value} {T : TypeId} (h : w.heap[b]? = some (.cells cs T (0, 0))) (i : Nat) : w.frozen? ⟨b, i, none⟩ = false := by simp [World.frozen?, h]
theorem end4 {B rb b : Nat} {A : Option Addr} {n c m : Nat} {w w8 : World} (hr : Rd B rb A n c m w8) (hc : Chg [rb] w w8) (h1 : B ≤ b) (h2 : b ≠ rb) (h3 : w.heap.size ≤ b) (u0 u1 u2 u3 : Value) :
    Rd B rb A n c m ((((w8.setCell ⟨b, 0, none⟩ u0).setCell ⟨b, 1, none⟩ u1).setCell ⟨b, 2, none⟩ u2).setCell ⟨b, 3, none⟩ u3) ∧ Chg [rb] w ((((w8.setCell ⟨b, 0, none⟩ u0).setCell ⟨b, 1, none⟩ u1).setCell ⟨b, 2, none⟩ u2).setCell ⟨b, 3, none⟩ u3) :=
  ⟨(((hr.setCell h1 h2 _).setCell h1 h2 _).setCell h1 h2 _).setCell h1 h2 _, (((hc.setCell (.inr h3) _).setCell (.inr h3) _).setCell (.inr h3) _).setCell (.inr h3) _⟩
theorem b4 {w : World} {b : Nat} {a0 a1 a2 a3 : Value} {T : TypeId} (h : w.heap[b]? = some (.cells #[a0, a1, a2, a3] T (0, 0))) :
    w.cell? ⟨b, 0, none⟩ = some a0 ∧ w.cell? ⟨b, 1, none⟩ = some a1 ∧ w.cell? ⟨b, 2, none⟩ = some a2 ∧ w.cell? ⟨b, 3, none⟩ = some a3 ∧ w.frozen? ⟨b, 0, none⟩ = false ∧ w.frozen? ⟨b, 1, none⟩ = false ∧ w.frozen? ⟨b, 2, none⟩ = false ∧ w.frozen? ⟨b, 3, none⟩ = false :=
  ⟨cell_of_heap h 0, cell_of_heap h 1, cell_of_heap h 2, cell_of_heap h 3, frozen_of_heap h 0, frozen_of_heap h 1, frozen_of_heap h 2, frozen_of_heap h 3⟩
def isI : Value → Bool | .int .i64 _ => true | _ => false
theorem isI_ex {v : Value} (h : isI v = true) : ∃ z, v = .int .i64 z := by
  unfold isI at h
  split at h
  · exact ⟨_, rfl⟩
  · cases h
theorem TL.lit {B : Nat} {S : List Nat} {k : Nat} {w : World} {cs : Array Value} {T : TypeId} (hB : B ≤ w.heap.size) (hS : ∀ x ∈ S, x < w.heap.size) (hk : cs.size = k) (ha : cs.toList.all isI = true) :
    TL B S k (.slice (some ⟨w.heap.size, 0, none⟩) k k) (w.alloc (.cells cs T)) := by
  refine ⟨w.heap.size, rfl, hB, fun hx => by have := hS _ hx; omega, by simp, fun i hi => ?_⟩
  have hc : cs[i]? = some cs[i] := by simp [hk, hi]
  obtain ⟨z, hz⟩ := isI_ex (List.all_eq_true.1 ha cs[i] (by simp))
  refine ⟨z, ?_⟩
  rw [← hz, ← hc]
  have hh : (w.alloc (.cells cs T)).heap[w.heap.size]? = some (.cells cs T (0, 0)) := by show (w.heap.push _)[w.heap.size]? = _; simp
  unfold World.cell?
  rw [hh]
  rfl
end Go.Proofs.Ytogpdpjheknkjac
