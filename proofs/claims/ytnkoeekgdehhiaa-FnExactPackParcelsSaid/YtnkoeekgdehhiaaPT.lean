import Derived.Test.YtnkoeekgdehhiaaPS
namespace Go.Proofs.Ytnkoeekgdehhiaa
open Go.RowKit
set_option linter.unusedVariables false
set_option maxHeartbeats 1000000
theorem toPack_v (p : Pk) (w : World) : Calls Try.prog 31 #[.agg #[.int .i64 p.w, .int .i64 p.h, .int .i64 p.s, .bool p.fx, .bool p.fy, .bool p.ex, .int .i64 p.an, .int .i64 p.px, .int .i64 p.py]] w fun e w' => e = .returned (.agg #[.int .i64 p.w, .int .i64 p.h, .int .i64 p.s, .bool p.fx, .bool p.fy, .bool p.ex, .int .i64 p.an, .int .i64 p.px, .int .i64 p.py]) ∧ Below w.heap.size w w' := toPack_any _ _ _ _ _ _ _ _ _ _
/-- what a new block of items holds -/
def Blk9 (w : World) (g : Nat) (L : List Pk) : Prop := ∃ cs : Array Value, w.heap[g]? = some (.cells cs 45 (0, 0)) ∧ cs.size = L.length * 9 ∧ ∀ i p, L[i]? = some p → In9 cs (i * 9) p
theorem Blk9.pv {w : World} {g : Nat} {L : List Pk} (h : Blk9 w g L) : PV w (some ⟨g, 0, none⟩) L := by
  obtain ⟨cs, hh, hs, hc⟩ := h
  refine ⟨fun _ => ⟨g, 0, rfl, (Array.getElem?_eq_some_iff.1 hh).1, fun i p hp => ?_⟩⟩
  have := (hc i p hp).cells hh
  simpa using this
theorem Blk9.keep {w w' : World} {g : Nat} {L : List Pk} (h : Blk9 w g L) (hb : Below w.heap.size w w') : Blk9 w' g L := by
  obtain ⟨cs, hh, hs, hc⟩ := h
  exact ⟨cs, (hb.block g (Array.getElem?_eq_some_iff.1 hh).1).trans hh, hs, hc⟩
theorem Blk9.lt {w : World} {g : Nat} {L : List Pk} (h : Blk9 w g L) : g < w.heap.size := by obtain ⟨cs, hh, _⟩ := h; exact (Array.getElem?_eq_some_iff.1 hh).1
set_option maxRecDepth 100000 in
theorem toPackS_any (A : Option Addr) (c : Nat) (L : List Pk) (w : World) (h : PV w A L) (hL : L.length ≤ 1048576) :
    Calls Try.prog 11 #[.slice A L.length c] w fun e w' => e = .returned (.slice (some ⟨w.heap.size, 0, none⟩) L.length L.length) ∧ Blk9 w' w.heap.size L ∧ Below w.heap.size w w' := by
  obtain ⟨f, hf, hmk0⟩ := made9
  have hmk : ∀ w : World, (Instr.makeSlice 26 (.int .i64 (L.length : Int)) (.int .i64 (L.length : Int))).run Try.prog w = .ok (.slice (some ⟨w.heap.size, 0, none⟩) L.length L.length) (w.alloc (.cells (f L.length) 45)) := fun w => hmk0 L.length w hL
  go_enter Try.func11, Try.ntmps11
  go_wp2_with fail
  have HW : ∃ cs : Array Value, (w.alloc (.cells (f L.length) 45)).heap[w.heap.size]? = some (.cells cs 45 (0, 0)) ∧ cs.size = L.length * 9 ∧ ∀ i p, i < 0 → L[i]? = some p → In9 cs (i * 9) p := ⟨_, heap_new _ _, hf _, fun i p hi => absurd hi (by omega)⟩
  have HWW := Lib.hid HW
  clear HW hmk hmk0 hf
  go_loopw [4] (fun i wr => ∃ k : Nat, k ≤ L.length ∧ i = .int .i64 k ∧ (∃ cs : Array Value, wr.heap[w.heap.size]? = some (.cells cs 45 (0, 0)) ∧ cs.size = L.length * 9 ∧ ∀ i p, i < k → L[i]? = some p → In9 cs (i * 9) p) ∧ Below w.heap.size w wr) (fun i _ => L.length - (intOf i).toNat)
  case atStart => exact ⟨0, by omega, rfl, HWW.out, balloc (Below.refl _ _)⟩
  case round =>
    obtain ⟨k, hk, rfl, ⟨cs, hh, hs, hc⟩, hB⟩ := hrel
    clear HWW
    by_cases hlt : k < L.length
    · have hd : decide ((k : Int) < (L.length : Int)) = true := by simpa using hlt
      obtain ⟨b, off, rfl, hb, hp⟩ := (h.keep hB).cells (by omega)
      obtain ⟨c0, c1, c2, c3, c4, c5, c6, c7, c8⟩ := hp k _ (List.getElem?_eq_getElem hlt)
      have hget : L[k]? = some L[k] := List.getElem?_eq_getElem hlt
      generalize hx : L[k] = p at *
      have HG := Lib.hid hget
      have HX := Lib.hid hx
      have HH := Lib.hid hh
      have HS := Lib.hid hs
      have HC := Lib.hid hc
      have HBB := Lib.hid hB
      have HP := Lib.hid hp
      clear hget hx hh hs hc hB hp
      go_wp2_with fail
      refine (toPack_v p _).mono ?_
      rintro e w1 ⟨rfl, hb1⟩
      have hlg : w.heap.size < wr.heap.size := (Array.getElem?_eq_some_iff.1 HH.out).1
      replace HH := Lib.hid ((hb1.block _ hlg).trans HH.out)
      replace HBB := Lib.hid (HBB.out.trans (hb1.mono HBB.out.size))
      clear hb1 c0 c1 c2 c3 c4 c5 c6 c7 c8 hlg
      have hsz : k * 9 + 9 ≤ cs.size := by rw [HS.out]; omega
      obtain ⟨y0, d0⟩ := there HH.out (i := k * 9) (by omega)
      obtain ⟨y1, d1⟩ := there HH.out (i := k * 9 + 1) (by omega)
      obtain ⟨y2, d2⟩ := there HH.out (i := k * 9 + 2) (by omega)
      obtain ⟨y3, d3⟩ := there HH.out (i := k * 9 + 3) (by omega)
      obtain ⟨y4, d4⟩ := there HH.out (i := k * 9 + 4) (by omega)
      obtain ⟨y5, d5⟩ := there HH.out (i := k * 9 + 5) (by omega)
      obtain ⟨y6, d6⟩ := there HH.out (i := k * 9 + 6) (by omega)
      obtain ⟨y7, d7⟩ := there HH.out (i := k * 9 + 7) (by omega)
      obtain ⟨y8, d8⟩ := there HH.out (i := k * 9 + 8) (by omega)
      have f0 := frozenH HH.out (k * 9)
      have f1 := frozenH HH.out (k * 9 + 1)
      have f2 := frozenH HH.out (k * 9 + 2)
      have f3 := frozenH HH.out (k * 9 + 3)
      have f4 := frozenH HH.out (k * 9 + 4)
      have f5 := frozenH HH.out (k * 9 + 5)
      have f6 := frozenH HH.out (k * 9 + 6)
      have f7 := frozenH HH.out (k * 9 + 7)
      have f8 := frozenH HH.out (k * 9 + 8)
      have E1 := Lib.hid (pput9 HH.out (k * 9) p)
      have E2 := Lib.hid (pput9b HBB.out (Nat.le_refl _) (k * 9) p)
      go_wp2
      go_roundw
      case rel => exact ⟨k + 1, by omega, by go_num, ⟨_, E1.out, (writeAt_size _ _ _).trans HS.out, fun i q hi hq => by
        by_cases e : i = k
        · subst e
          obtain rfl : p = q := by have := HG.out; rw [this] at hq; exact Option.some.inj hq
          exact In9.write p hsz
        · exact (HC.out i q (by omega) hq).keep (.inl (by omega))⟩, E2.out⟩
      case measure => simp [intOf]; omega
    · have hd : decide ((k : Int) < (L.length : Int)) = false := by simp; omega
      obtain rfl : k = L.length := by omega
      have HR := Lib.hid (show Blk9 wr w.heap.size L from ⟨cs, hh, hs, fun i p hp => hc i p (List.getElem?_eq_some_iff.1 hp).1 hp⟩)
      have HBB := Lib.hid hB
      clear hh hs hc hB
      go_wp2
      go_ret
      exact ⟨rfl, HR.out, HBB.out⟩
end Go.Proofs.Ytnkoeekgdehhiaa
