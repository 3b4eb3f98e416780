import Derived.Test.YtnkoeekgdehhiaaPR2
import Derived.Test.YtnkoeekgdehhiaaPQ
namespace Go.Proofs.Ytnkoeekgdehhiaa
open Go.RowKit
set_option linter.unusedVariables false
set_option maxHeartbeats 1000000
def mk4 (k : Nat) : Rc := ⟨(k : Int) * 4 + 1, (k : Int) * 4 + 1 + 1, (k : Int) * 4 + 1 + 1 + 1, (k : Int) * 4 + 1 + 1 + 1 + 1⟩
def MK (n : Nat) : List Rc := (List.range n).map mk4
theorem MK_len (n : Nat) : (MK n).length = n := by simp [MK]
theorem MK_get {n k : Nat} (h : k < n) : (MK n)[k]? = some (mk4 k) := by simp [MK, h]
theorem MK_eq {n k : Nat} {r : Rc} (h : (MK n)[k]? = some r) : r = mk4 k := by
  have : k < n := by have := (List.getElem?_eq_some_iff.1 h).1; rwa [MK_len] at this
  rw [MK_get this] at h
  exact (Option.some.inj h).symm
set_option maxRecDepth 100000 in
theorem markRectS_v (g : Nat) (M : List Rc) (n : Nat) (w : World) (h : Blk4 w g M) (hn : n = M.length) (hL : n ≤ 7) :
    Calls Try.prog 18 #[.slice (some ⟨g, 0, none⟩) n n, .int .i64 1] w fun e w' => e = .returned (.int .i64 ((n : Int) * 4 + 1)) ∧ Blk4 w' g (MK n) ∧ w.grownBy w' (some g) := by
  obtain ⟨cs0, hh0, hs0, _⟩ := h
  rw [← hn] at hs0
  clear hn
  have H0 := Lib.hid (And.intro hh0 hs0)
  clear hh0 hs0
  go_enter Try.func18, Try.ntmps18
  go_wp2_with fail
  go_loopw [1, 5] (fun kk i wr => ∃ k : Nat, k ≤ n ∧ i = .int .i64 k ∧ kk = .int .i64 ((k : Int) * 4 + 1) ∧ (∃ cs : Array Value, wr.heap[g]? = some (.cells cs 37 (0, 0)) ∧ cs.size = n * 4 ∧ ∀ i, i < k → In4 cs (i * 4) (mk4 i)) ∧ w.grownBy wr (some g)) (fun _ i _ => n - (intOf i).toNat)
  case atStart => exact ⟨0, by omega, rfl, rfl, ⟨_, H0.out.1, H0.out.2, fun i hi => absurd hi (by omega)⟩, grefl _ _⟩
  case round =>
    obtain ⟨k, hk, rfl, rfl, ⟨cs, hh, hs, hc⟩, hB⟩ := hrel
    clear H0
    by_cases hlt : k < n
    · have hd : decide ((k : Int) < (n : Int)) = true := by simpa using hlt
      have hsz : k * 4 + 4 ≤ cs.size := by rw [hs]; omega
      obtain ⟨y0, d0⟩ := there hh (i := k * 4) (by omega)
      obtain ⟨y1, d1⟩ := there hh (i := k * 4 + 1) (by omega)
      obtain ⟨y2, d2⟩ := there hh (i := k * 4 + 2) (by omega)
      obtain ⟨y3, d3⟩ := there hh (i := k * 4 + 3) (by omega)
      have f0 := frozenH hh (k * 4)
      have f1 := frozenH hh (k * 4 + 1)
      have f2 := frozenH hh (k * 4 + 2)
      have f3 := frozenH hh (k * 4 + 3)
      have HH := Lib.hid hh
      have HS := Lib.hid hs
      have HC := Lib.hid hc
      have HB := Lib.hid hB
      have E1 := Lib.hid (pput4 hh (k * 4) (mk4 k))
      clear hh hs hc hB
      go_wp2_with fail
      go_roundw
      case rel =>
        refine ⟨k + 1, by omega, by go_num, by go_num, ⟨_, E1.out, (writeAt_size _ _ _).trans HS.out, fun i hi => ?_⟩, ?_⟩
        · by_cases e : i = k
          · subst e; exact In4.write _ hsz
          · exact (HC.out i (by omega)).keep (.inl (by omega))
        · exact gset (gset (gset (gset HB.out _ _) _ _) _ _) _ _
      case measure => simp [intOf]; omega
    · have hd : decide ((k : Int) < (n : Int)) = false := by simp; omega
      obtain rfl : k = n := by omega
      have HK := Lib.hid (show Blk4 wr g (MK k) from ⟨cs, hh, by rw [hs, MK_len], fun i r hr => by
        have h1 : i < k := by have := (List.getElem?_eq_some_iff.1 hr).1; rwa [MK_len] at this
        rw [MK_eq hr]; exact hc i h1⟩)
      have HB := Lib.hid hB
      clear hh hs hB hc
      go_wp2
      go_ret
      exact ⟨rfl, HK.out, HB.out⟩
set_option maxRecDepth 100000 in
theorem heldRectS_v (g : Nat) (n : Nat) (w : World) (h : Blk4 w g (MK n)) (hL : n ≤ 7) :
    Calls Try.prog 19 #[.slice (some ⟨g, 0, none⟩) n n, .int .i64 1] w fun e w' => e = .returned (.int .i64 ((n : Int) * 4 + 1)) ∧ Below w.heap.size w w' := by
  have hg : g < w.heap.size := by obtain ⟨cs, hh, _⟩ := h; exact (Array.getElem?_eq_some_iff.1 hh).1
  have H := Lib.hid h
  clear h
  go_enter Try.func19, Try.ntmps19
  go_wp2_with fail
  go_loopw [1, 5] (fun kk i wr => ∃ k : Nat, k ≤ n ∧ i = .int .i64 k ∧ kk = .int .i64 ((k : Int) * 4 + 1) ∧ Below w.heap.size w wr) (fun _ i _ => n - (intOf i).toNat)
  case atStart => exact ⟨0, by omega, rfl, rfl, Below.refl _ _⟩
  case round =>
    obtain ⟨k, hk, rfl, rfl, hB⟩ := hrel
    by_cases hlt : k < n
    · have hd : decide ((k : Int) < (n : Int)) = true := by simpa using hlt
      obtain ⟨cs, hh, hs, hc⟩ := H.out.keep hB
      obtain ⟨c0, c1, c2, c3⟩ := (hc k _ (MK_get hlt)).cells hh
      dsimp only [mk4] at c0 c1 c2 c3
      have HB := Lib.hid hB
      clear hh hs hB hc
      go_wp2_with fail
      go_roundw
      case rel => exact ⟨k + 1, by omega, by go_num, by go_num, HB.out⟩
      case measure => simp [intOf]; omega
    · have hd : decide ((k : Int) < (n : Int)) = false := by simp; omega
      obtain rfl : k = n := by omega
      have HB := Lib.hid hB
      clear hB
      go_wp2
      go_ret
      exact ⟨rfl, HB.out⟩
set_option maxRecDepth 100000 in
theorem markRectS_nil (w : World) : Calls Try.prog 18 #[.slice none 0 0, .int .i64 1] w fun e w' => e = .returned (.int .i64 1) ∧ w' = w := by
  go_enter Try.func18, Try.ntmps18
  go_wp2_with fail
  go_loopw [1, 5] (fun kk i wr => i = .int .i64 0 ∧ kk = .int .i64 1 ∧ wr = w) (fun _ i _ => 0)
  case atStart => exact ⟨rfl, rfl, rfl⟩
  case round =>
    obtain ⟨rfl, rfl, rfl⟩ := hrel
    go_wp2
    go_ret
    exact ⟨rfl, rfl⟩
set_option maxRecDepth 100000 in
theorem heldRectS_nil (w : World) : Calls Try.prog 19 #[.slice none 0 0, .int .i64 1] w fun e w' => e = .returned (.int .i64 1) ∧ w' = w := by
  go_enter Try.func19, Try.ntmps19
  go_wp2_with fail
  go_loopw [1, 5] (fun kk i wr => i = .int .i64 0 ∧ kk = .int .i64 1 ∧ wr = w) (fun _ i _ => 0)
  case atStart => exact ⟨rfl, rfl, rfl⟩
  case round =>
    obtain ⟨rfl, rfl, rfl⟩ := hrel
    go_wp2
    go_ret
    exact ⟨rfl, rfl⟩
end Go.Proofs.Ytnkoeekgdehhiaa
