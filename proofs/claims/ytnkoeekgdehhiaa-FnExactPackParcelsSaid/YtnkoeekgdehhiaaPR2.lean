import Derived.Test.YtnkoeekgdehhiaaPO
namespace Go.Proofs.Ytnkoeekgdehhiaa
open Go.RowKit
set_option linter.unusedVariables false
set_option maxHeartbeats 1000000
theorem gset {w w' : World} {g : Nat} (h : w.grownBy w' (some g)) (o : Nat) (v : Value) : w.grownBy (w'.setCell ⟨g, o, none⟩ v) (some g) :=
  ⟨h.os, h.tape, h.output, by simpa using h.size, fun k hk hne => (Below.heap_setCell _ _ _ _ (fun e => hne (by rw [e]))).trans (h.block k hk hne)⟩
theorem grefl (w : World) (g : Nat) : w.grownBy w (some g) := ⟨rfl, rfl, rfl, Nat.le_refl _, fun _ _ _ => rfl⟩
set_option maxRecDepth 100000 in
theorem markPackS_v (g : Nat) (L : List Pk) (w : World) (h : Blk9 w g L) (hL : L.length ≤ 1048576) :
    Calls Try.prog 17 #[.slice (some ⟨g, 0, none⟩) L.length L.length, .int .i64 1] w fun e w' => (∃ k : Int, e = .returned (.int .i64 k) ∧ 0 ≤ k) ∧ w.grownBy w' (some g) := by
  obtain ⟨cs0, hh0, hs0, _⟩ := h
  have H0 := Lib.hid (And.intro hh0 hs0)
  clear hh0 hs0
  go_enter Try.func17, Try.ntmps17
  go_wp2_with fail
  go_loopw [1, 5] (fun kk i wr => ∃ k : Nat, k ≤ L.length ∧ i = .int .i64 k ∧ kk = .int .i64 ((k : Int) * 9 + 1) ∧ (∃ cs : Array Value, wr.heap[g]? = some (.cells cs 45 (0, 0)) ∧ cs.size = L.length * 9) ∧ w.grownBy wr (some g)) (fun _ i _ => L.length - (intOf i).toNat)
  case atStart => exact ⟨0, by omega, rfl, rfl, ⟨_, H0.out.1, H0.out.2⟩, grefl _ _⟩
  case round =>
    obtain ⟨k, hk, rfl, rfl, ⟨cs, hh, hs⟩, hB⟩ := hrel
    clear H0
    by_cases hlt : k < L.length
    · have hd : decide ((k : Int) < (L.length : Int)) = true := by simpa using hlt
      obtain ⟨y0, d0⟩ := there hh (i := k * 9) (by omega)
      obtain ⟨y1, d1⟩ := there hh (i := k * 9 + 1) (by omega)
      obtain ⟨y2, d2⟩ := there hh (i := k * 9 + 2) (by omega)
      obtain ⟨y3, d3⟩ := there hh (i := k * 9 + 3) (by omega)
      obtain ⟨y4, d4⟩ := there hh (i := k * 9 + 4) (by omega)
      obtain ⟨y5, d5⟩ := there hh (i := k * 9 + 5) (by omega)
      obtain ⟨y6, d6⟩ := there hh (i := k * 9 + 6) (by omega)
      obtain ⟨y7, d7⟩ := there hh (i := k * 9 + 7) (by omega)
      obtain ⟨y8, d8⟩ := there hh (i := k * 9 + 8) (by omega)
      have f0 := frozenH hh (k * 9)
      have f1 := frozenH hh (k * 9 + 1)
      have f2 := frozenH hh (k * 9 + 2)
      have f3 := frozenH hh (k * 9 + 3)
      have f4 := frozenH hh (k * 9 + 4)
      have f5 := frozenH hh (k * 9 + 5)
      have f6 := frozenH hh (k * 9 + 6)
      have f7 := frozenH hh (k * 9 + 7)
      have f8 := frozenH hh (k * 9 + 8)
      have HH := Lib.hid hh
      have HS := Lib.hid hs
      have HB := Lib.hid hB
      clear hh hs hB
      go_wp2_with fail
      go_roundw
      case rel =>
        refine ⟨k + 1, by omega, by go_num, by go_num, ⟨_, pput1 (pput1 (pput1 (pput1 (pput1 (pput1 (pput1 (pput1 (pput1 HH.out _) _) _) _) _) _) _) _) _, by simpa using HS.out⟩, ?_⟩
        exact gset (gset (gset (gset (gset (gset (gset (gset (gset HB.out _ _) _ _) _ _) _ _) _ _) _ _) _ _) _ _) _ _
      case measure => simp [intOf]; omega
    · have hd : decide ((k : Int) < (L.length : Int)) = false := by simp; omega
      have HB := Lib.hid hB
      clear hh hs hB
      go_wp2
      go_ret
      exact ⟨⟨_, rfl, by omega⟩, HB.out⟩
end Go.Proofs.Ytnkoeekgdehhiaa
