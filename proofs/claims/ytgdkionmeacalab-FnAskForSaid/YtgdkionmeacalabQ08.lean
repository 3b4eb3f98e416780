import Derived.Test.YtgdkionmeacalabQ07
section
namespace Go.Proofs.Ytgdkionmeacalab
open Go.RowKit
set_option linter.unusedVariables false
set_option maxHeartbeats 1000000
attribute [local go_sem] growUpon_value growUpon_skip growUpon_enter
theorem gsetI {w w' : World} {g : Nat} (h : w.grownBy w' (some g)) (o : Nat) (v : Value) : w.grownBy (w'.setCell ⟨g, o, none⟩ v) (some g) :=
  ⟨h.os, h.tape, h.output, by simpa [World.setCell] using h.size, fun k hk hne => (Below.heap_setCell w' ⟨g, o, none⟩ v k (by rintro rfl; exact hne rfl)).trans (h.block k hk hne)⟩
theorem greflI (w : World) (g : Nat) : w.grownBy w (some g) := ⟨rfl, rfl, rfl, Nat.le_refl _, fun _ _ _ => rfl⟩
/-- the value reads as the list -/
def NR (w : World) (v : Value) (L : List Int) : Prop := ∃ A c, v = .slice A L.length c ∧ NV w A L
theorem NR.keep {w w' : World} {v : Value} {L : List Int} (h : NR w v L) (hb : Below w.heap.size w w') : NR w' v L := let ⟨A, c, e, n⟩ := h; ⟨A, c, e, n.keep hb⟩
theorem IB.but {w w' : World} {g h : Nat} {L : List Int} (hi : IB w h L) (hg : w.grownBy w' (some g)) (hne : h ≠ g) : IB w' h L := (hg.block h hi.lt (fun e => hne (Option.some.inj e))).trans hi
/-- a list in a block that was made from lo on, or none -/
def GI (lo : Nat) (w : World) (v : Value) (L : List Int) : Prop := (v = .slice none 0 0 ∧ L = []) ∨ ∃ g n, v = .slice (some ⟨g, 0, none⟩) n n ∧ n = L.length ∧ lo ≤ g ∧ IB w g L
theorem GI.keep {lo : Nat} {w w' : World} {v : Value} {L : List Int} (h : GI lo w v L) (hb : Below w.heap.size w w') : GI lo w' v L := h.imp id fun ⟨g, n, h1, h2, h3, hk⟩ => ⟨g, n, h1, h2, h3, hk.keep hb⟩
theorem GI.but {lo g0 : Nat} {w w' : World} {v : Value} {L : List Int} (h : GI lo w v L) (hb : w.grownBy w' (some g0)) (hg : g0 < lo) : GI lo w' v L := h.imp id fun ⟨g, n, h1, h2, h3, hk⟩ => ⟨g, n, h1, h2, h3, hk.but hb (by omega)⟩
def MKI (n : Nat) : List Int := (List.range n).map (fun i : Nat => (i : Int) + 1)
def GIM (w : World) (v : Value) (n : Nat) : Prop := (v = .slice none 0 0 ∧ n = 0) ∨ ∃ g, v = .slice (some ⟨g, 0, none⟩) n n ∧ IB w g (MKI n)
theorem GIM.keep {w w' : World} {v : Value} {n : Nat} (h : GIM w v n) (hb : Below w.heap.size w w') : GIM w' v n := h.imp id fun ⟨g, h1, hk⟩ => ⟨g, h1, hk.keep hb⟩
end Go.Proofs.Ytgdkionmeacalab
end
section
namespace Go.Proofs.Ytgdkionmeacalab
open Go.RowKit
set_option linter.unusedVariables false
set_option maxHeartbeats 1000000
attribute [local go_sem] growUpon_value growUpon_skip growUpon_enter
theorem IB.ob {w : World} {g n : Nat} {L : List Int} (h : IB w g L) (hn : n = L.length) : OB w g n L := by
  have h' : w.heap[g]? = some (.cells (ivals L) 3 (0, 0)) := h
  exact ⟨by omega, ivals L, h', by simp [ivals, hn], fun i x hx => by simp [ivals, hx]⟩
theorem OB.sameL {w w' : World} {g cap : Nat} {L : List Int} (h : OB w g cap L) (e : w'.heap[g]? = w.heap[g]?) : OB w' g cap L := by
  obtain ⟨hl, cs, hh, hs, hc⟩ := h
  exact ⟨hl, cs, e.trans hh, hs, hc⟩
/-- the marks from k on -/
def MKo (k : Int) (n : Nat) : List Int := (List.range n).map (fun i : Nat => (i : Int) + k)
end Go.Proofs.Ytgdkionmeacalab
end
section
namespace Go.Proofs.Ytgdkionmeacalab
open Go.RowKit
set_option linter.unusedVariables false
set_option maxHeartbeats 1000000
/-! A tree that is marked. -/
structure TM (g hi : Nat) (S : List Nr) (w : World) : Prop where
  s : NodS w g S
  l : LnsS w g hi 0 S
  a : ApS S
  lt : g < hi
theorem TM.of {g : Nat} {w : World} {R S : List Nr} (h : NrB w g S) (hc : CpR (g + 1) w R S) : TM g w.heap.size S w := ⟨NodS.of h, LnsS.of hc (Nat.le_refl _), hc.apart, h.lt⟩
theorem TM.keep {g hi : Nat} {S : List Nr} {w w' : World} (h : TM g hi S w) (hb : Below w.heap.size w w') : TM g hi S w' :=
  ⟨h.s.keep (hb.block g h.s.lt), fun i q hk hq => by
    obtain ⟨g1, g2, e1, e2, e3, e4, l1, l2, l3, b1, b2⟩ := h.l i q hk hq
    exact ⟨g1, g2, e1, e2, e3, e4, l1, l2, l3, b1.keep hb, b2.keep hb⟩, h.a, h.lt⟩
theorem Wi.pre {lo hi : Nat} {w w' : World} {o : Obj} (h : Wi lo hi (w.alloc o) w') : Wi lo hi w w' :=
  ⟨h.os.trans rfl, h.tape.trans rfl, h.output.trans rfl, by have := h.size; rw [World.size_alloc] at this; omega, fun k hk hn => (h.block k (by rw [World.size_alloc]; omega) hn).trans (Below.heap_alloc _ _ _ hk)⟩
def GO (lo : Nat) (w : World) (v : Value) (M : List Int) : Prop := (v = .slice none 0 0 ∧ M = []) ∨ ∃ g cap n, v = .slice (some ⟨g, 0, none⟩) n cap ∧ n = M.length ∧ lo ≤ g ∧ OB w g cap M
theorem GO.of {lo n : Nat} {w : World} {v : Value} {M : List Int} (h : w.ownsRow lo 3 1 v n (nvalsW M)) (hn : n = M.length) : GO lo w v M :=
  (own_inW h hn).imp id fun ⟨g, cap, h1, h2, h3⟩ => ⟨g, cap, n, h1, hn, h2, h3⟩
theorem GO.keep {lo : Nat} {w w' : World} {v : Value} {L : List Int} (h : GO lo w v L) (hb : Below w.heap.size w w') : GO lo w' v L := h.imp id fun ⟨g, cap, n, h1, h2, h3, hk⟩ => ⟨g, cap, n, h1, h2, h3, hk.keep hb⟩
theorem GO.mono {lo lo' : Nat} {w : World} {v : Value} {L : List Int} (h : GO lo w v L) (hl : lo' ≤ lo) : GO lo' w v L := h.imp id fun ⟨g, cap, n, h1, h2, h3, hk⟩ => ⟨g, cap, n, h1, h2, Nat.le_trans hl h3, hk⟩
def GOM (w : World) (v : Value) (n : Nat) : Prop := (v = .slice none 0 0 ∧ n = 0) ∨ ∃ g cap, v = .slice (some ⟨g, 0, none⟩) n cap ∧ OB w g cap (MKo 1 n)
theorem GOM.keep {w w' : World} {v : Value} {n : Nat} (h : GOM w v n) (hb : Below w.heap.size w w') : GOM w' v n := h.imp id fun ⟨g, cap, h1, hk⟩ => ⟨g, cap, h1, hk.keep hb⟩
end Go.Proofs.Ytgdkionmeacalab
end
