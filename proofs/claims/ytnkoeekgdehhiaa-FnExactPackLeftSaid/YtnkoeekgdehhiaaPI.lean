import Derived.Test.YtnkoeekgdehhiaaPH
namespace Go.Proofs.Ytnkoeekgdehhiaa
open Go.RowKit
set_option linter.unusedVariables false
set_option maxHeartbeats 1000000
attribute [local go_sem 5000] run_mx run_mn
def esB (L : List Pk) (room : Int) (d : Bool) : Bool := vpsB L && (match L with
  | [] => false
  | p :: _ => rng room 0 400 && (p.ex && (p.down == d)))
theorem esB_yes {L : List Pk} {room : Int} {d : Bool} (h : esB L room d = true) : ∃ p r, L = p :: r ∧ vpsB L = true ∧ rng room 0 400 = true ∧ p.ex = true ∧ p.down = d := by
  unfold esB at h
  rw [Bool.and_eq_true] at h
  obtain ⟨h1, h2⟩ := h
  match L, h1, h2 with
  | p :: r, h1, h2 =>
    simp only [Bool.and_eq_true, beq_iff_eq] at h2
    exact ⟨p, r, rfl, h1, h2.1, h2.2.1, h2.2.2⟩
theorem esB_no {L : List Pk} {room : Int} {d : Bool} (h : esB L room d = false) : L = [] ∨ (∃ p r, L = p :: r ∧ (vpsB L = false ∨ (vpsB L = true ∧ rng room 0 400 = false) ∨ (vpsB L = true ∧ rng room 0 400 = true ∧ p.ex = false) ∨ (vpsB L = true ∧ rng room 0 400 = true ∧ p.ex = true ∧ (p.down == d) = false))) := by
  match L, h with
  | [], _ => exact .inl rfl
  | p :: r, h =>
    refine .inr ⟨p, r, rfl, ?_⟩
    unfold esB at h
    cases h1 : vpsB (p :: r)
    · exact .inl rfl
    · cases h2 : rng room 0 400
      · exact .inr (.inl ⟨rfl, rfl⟩)
      · cases h3 : p.ex
        · exact .inr (.inr (.inl ⟨rfl, rfl, rfl⟩))
        · simp [h1, h2, h3] at h
          exact .inr (.inr (.inr ⟨rfl, rfl, rfl, by simpa using h⟩))
theorem first_cells {w : World} {A : Option Addr} {L : List Pk} {p : Pk} {r : List Pk} (h : PV w A L) (e : L = p :: r) : ∃ b off, A = some ⟨b, off, none⟩ ∧ b < w.heap.size ∧ Cells9 w b off p := by
  subst e
  obtain ⟨b, off, e, hb, hp⟩ := h.cells (by simp)
  have := hp 0 p rfl
  exact ⟨b, off, e, hb, by simpa using this⟩
theorem vps_v (A : Option Addr) (c : Nat) (L : List Pk) (b : Bool) (w : World) (h : PV w A L) (hL : L.length ≤ 1048576) (hb : vpsB L = b) :
    Calls Try.prog 32 #[.slice A L.length c] w fun e w' => e = .returned (.bool b) ∧ Below w.heap.size w w' := by rw [← hb]; exact validPacks_any A c L w h hL
theorem svps_v (A : Option Addr) (c : Nat) (L : List Pk) (b : Bool) (w : World) (h : PV w A L) (hL : L.length ≤ 1048576) (hb : vpsB L = b) :
    Calls Try.prog 29 #[.slice A L.length c] w fun e w' => e = .returned (.bool b) ∧ Below w.heap.size w w' := by rw [← hb]; exact svalidPacks_any A c L w h hL
theorem within_v (n a b : Int) (t : Bool) (w : World) (h : rng n a b = t) : Calls Try.prog 54 #[.int .i64 n, .int .i64 a, .int .i64 b] w fun e w' => e = .returned (.bool t) ∧ w = w' := by rw [← h]; exact within_any n a b w
theorem inRange_v (n a b : Int) (t : Bool) (w : World) (h : rng n a b = t) : Calls Try.prog 51 #[.int .i64 n, .int .i64 a, .int .i64 b] w fun e w' => e = .returned (.bool t) ∧ w = w' := by rw [← h]; exact inRange_any n a b w
end Go.Proofs.Ytnkoeekgdehhiaa
