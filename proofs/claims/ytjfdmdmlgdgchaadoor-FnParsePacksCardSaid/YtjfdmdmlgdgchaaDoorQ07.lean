import Derived.Test.YtjfdmdmlgdgchaaDoorQ06
import Derived.Lib.SplitLaws
import Derived.Lib.Join
section
namespace Go.Proofs.YtjfdmdmlgdgchaaDoor
open Go.RowKit
set_option linter.unusedVariables false
set_option linter.unusedSimpArgs false
set_option maxHeartbeats 1000000
attribute [local go_sem] growUpon_value growUpon_skip growUpon_enter
/-! A reader of words. -/
/-- the reader in block b, with the words L left, which lie in block g -/
def RDR (b g : Nat) (w : World) (L : List (List UInt8)) : Prop := ∃ off c, w.heap[b]? = some (.cells #[.slice (some ⟨g, off, none⟩) L.length c] 42 (0, 0)) ∧ SLs w g off L ∧ L.length ≤ c ∧ c ≤ 4294967290
theorem RDR.keep {b g : Nat} {w w' : World} {L : List (List UInt8)} (h : RDR b g w L) (hb : Below w.heap.size w w') : RDR b g w' L := by
  obtain ⟨off, c, h1, h2, h3⟩ := h
  exact ⟨off, c, (hb.block _ (ltS h1)).trans h1, h2.keep hb, h3⟩
theorem SLs.put {w : World} {g off : Nat} {L : List (List UInt8)} (h : SLs w g off L) (b o : Nat) (v : Value) (hn : b ≠ g) : SLs (w.setCell ⟨b, o, none⟩ v) g off L :=
  ⟨by simpa [World.setCell] using h.1, fun i x hx => (World.cell?_of_block (Below.heap_setCell w ⟨b, o, none⟩ v g (Ne.symm hn))).trans (h.2 i x hx)⟩
theorem SLs.tail {w : World} {g off : Nat} {x : List UInt8} {L : List (List UInt8)} (h : SLs w g off (x :: L)) : SLs w g (off + 1) L :=
  ⟨h.1, fun i y hy => by have := h.2 (i + 1) y (by simpa using hy); rwa [show off + 1 + i = off + (i + 1) by omega]⟩
theorem SLs.head {w : World} {g off : Nat} {x : List UInt8} {L : List (List UInt8)} (h : SLs w g off (x :: L)) : w.cell? ⟨g, off, none⟩ = some (tx x) := by simpa using h.2 0 x rfl
theorem gset1 (w : World) (b : Nat) (v : Value) : w.grownBy (w.setCell ⟨b, 0, none⟩ v) (some b) :=
  ⟨rfl, rfl, rfl, by simp [World.setCell], fun k hk hn => Below.heap_setCell w ⟨b, 0, none⟩ v k (fun e => hn (by rw [e]))⟩
theorem grefl (w : World) (r : Option Nat) : w.grownBy w r := ⟨rfl, rfl, rfl, Nat.le_refl _, fun _ _ _ => rfl⟩
theorem next_nil (b g : Nat) (w : World) (h : RDR b g w []) : Calls Tryd.prog 50 #[.pointer (some ⟨b, 0, none⟩)] w fun e w' => e = .returned (tx []) ∧ RDR b g w' [] ∧ w.grownBy w' (some b) := by
  have hR := Lib.hid h
  obtain ⟨off, c, hb, hS, hc⟩ := h
  have c0 : w.cell? ⟨b, 0, none⟩ = some (.slice (some ⟨g, off, none⟩) 0 c) := (cellS hb 0).trans rfl
  clear hb hS
  go_enter Tryd.func50, Tryd.ntmps50
  go_wp2
  go_ret
  exact ⟨rfl, hR.out, grefl _ _⟩
theorem next_cons (b g : Nat) (x : List UInt8) (L : List (List UInt8)) (w : World) (h : RDR b g w (x :: L)) (hn : b ≠ g) : Calls Tryd.prog 50 #[.pointer (some ⟨b, 0, none⟩)] w fun e w' => e = .returned (tx x) ∧ RDR b g w' L ∧ w.grownBy w' (some b) := by
  obtain ⟨off, c, hb, hS, hc, hc2⟩ := h
  rw [List.length_cons] at hb hc
  have c0 : w.cell? ⟨b, 0, none⟩ = some (.slice (some ⟨g, off, none⟩) (L.length + 1) c) := (cellS hb 0).trans rfl
  have f0 := frozenS hb 0
  have hx := hS.head
  have hnz : ¬ ((L.length + 1 : Nat) : Int) = 0 := by omega
  have hnb : (((L.length + 1 : Nat) : Int) == 0) = false := by simpa using hnz
  have hlz : 0 < L.length + 1 := by omega
  have hlt := ltS hb
  by_cases hc1 : c = 1
  · subst hc1
    obtain rfl : L = [] := List.length_eq_zero_iff.1 (by omega)
    have HP := Lib.hid (putS (i := 0) hb (.slice (some ⟨g, off, none⟩) 0 0))
    have HS := Lib.hid (show SLs (w.setCell ⟨b, 0, none⟩ (.slice (some ⟨g, off, none⟩) 0 0)) g off [] from ⟨by simpa [World.setCell] using hS.1, fun i x hx => by simp at hx⟩)
    clear hb hS
    go_enter Tryd.func50, Tryd.ntmps50
    go_wp2
    go_ret
    exact ⟨rfl, ⟨off, 0, HP.out, HS.out, by simp, by omega⟩, gset1 _ _ _⟩
  · have hc3 : ¬ c = 1 := hc1
    have HP := Lib.hid (putS (i := 0) hb (.slice (some ⟨g, off + 1, none⟩) L.length (c - 1)))
    have HS := Lib.hid ((hS.tail).put b 0 (.slice (some ⟨g, off + 1, none⟩) L.length (c - 1)) hn)
    have hcc : 1 ≤ c := by omega
    clear hb hS
    go_enter Tryd.func50, Tryd.ntmps50
    go_wp2
    go_ret
    exact ⟨rfl, ⟨off + 1, c - 1, HP.out, HS.out, by omega, by omega⟩, gset1 _ _ _⟩
theorem next_v (b g : Nat) (L : List (List UInt8)) (w : World) (h : RDR b g w L) (hn : b ≠ g) : Calls Tryd.prog 50 #[.pointer (some ⟨b, 0, none⟩)] w fun e w' => e = .returned (tx (L.headD [])) ∧ RDR b g w' L.tail ∧ w.grownBy w' (some b) := by
  cases L with
  | nil => exact next_nil b g w h
  | cons x L => exact next_cons b g x L w h hn
theorem gby_below {w w1 w2 : World} {b : Nat} (h : w.grownBy w1 (some b)) (hb : Below w1.heap.size w1 w2) : w.grownBy w2 (some b) :=
  ⟨hb.os.trans h.os, hb.tape.trans h.tape, hb.output.trans h.output, Nat.le_trans h.size hb.size, fun k hk hne => (hb.block k (Nat.lt_of_lt_of_le hk h.size)).trans (h.block k hk hne)⟩
theorem gby_gby {w w1 w2 : World} {b : Nat} (h : w.grownBy w1 (some b)) (hb : w1.grownBy w2 (some b)) : w.grownBy w2 (some b) :=
  ⟨hb.os.trans h.os, hb.tape.trans h.tape, hb.output.trans h.output, Nat.le_trans h.size hb.size, fun k hk hne => (hb.block k (Nat.lt_of_lt_of_le hk h.size) hne).trans (h.block k hk hne)⟩
theorem numberOf_x (x : List UInt8) (hx : x.length ≤ 4294967280) (w : World) : Calls Tryd.prog 69 #[tx x] w fun e w' => e = .returned (.int .i64 (numV 400 x)) ∧ Below w.heap.size w w' := numberOf_v ⟨x.toArray⟩ (show x.toArray.size ≤ 4294967280 by simpa using hx) w
theorem number_rd (b g : Nat) (L : List (List UInt8)) (w : World) (h : RDR b g w L) (hn : b ≠ g) (hw : ∀ x ∈ L, x.length ≤ 4294967280) : Calls Tryd.prog 51 #[.pointer (some ⟨b, 0, none⟩)] w fun e w' => e = .returned (.int .i64 (numV 400 (L.headD []))) ∧ RDR b g w' L.tail ∧ w.grownBy w' (some b) := by
  have HN := Lib.hid (fun w => numberOf_x (L.headD []) (by cases L with | nil => simp | cons x L => exact hw x List.mem_cons_self) w)
  have HX := Lib.hid (next_v b g L w h hn)
  generalize L.headD [] = x at *
  generalize L.tail = L' at *
  clear h hw
  go_enter Tryd.func51, Tryd.ntmps51
  go_wp2_with fail
  with_reducible refine HX.out.mono ?_
  rintro e w1 ⟨rfl, hR, hg⟩
  have HR := Lib.hid hR
  have HG := Lib.hid hg
  clear hR hg HX
  go_wp2_with fail
  with_reducible refine (HN.out _).mono ?_
  rintro e w2 ⟨rfl, hb⟩
  have HR2 := Lib.hid (HR.out.keep hb)
  have HG2 := Lib.hid (gby_below HG.out hb)
  clear hb HR HG
  go_wp2
  go_ret
  exact ⟨rfl, HR2.out, HG2.out⟩
/-- is the next word this one -/
def tk (m : List UInt8) (L : List (List UInt8)) : Bool := L.head? == some m
def rst (t : Bool) (L : List (List UInt8)) : List (List UInt8) := if t then L.tail else L
theorem takes_v (b g : Nat) (m : List UInt8) (L : List (List UInt8)) (w : World) (h : RDR b g w L) (hn : b ≠ g) : Calls Tryd.prog 52 #[.pointer (some ⟨b, 0, none⟩), tx m] w fun e w' => e = .returned (.bool (tk m L)) ∧ RDR b g w' (rst (tk m L) L) ∧ w.grownBy w' (some b) := by
  cases L with
  | nil =>
    have hR := Lib.hid h
    obtain ⟨off, c, hb, hS, hc⟩ := h
    have c0 : w.cell? ⟨b, 0, none⟩ = some (.slice (some ⟨g, off, none⟩) 0 c) := (cellS hb 0).trans rfl
    clear hb hS
    go_enter Tryd.func52, Tryd.ntmps52
    go_wp2
    go_ret
    exact ⟨rfl, hR.out, grefl _ _⟩
  | cons x L =>
    have hR := Lib.hid h
    have HX := Lib.hid (next_v b g (x :: L) w h hn)
    obtain ⟨off, c, hb, hS, hc, hc2⟩ := h
    rw [List.length_cons] at hb
    have c0 : w.cell? ⟨b, 0, none⟩ = some (.slice (some ⟨g, off, none⟩) (L.length + 1) c) := (cellS hb 0).trans rfl
    have hx := hS.head
    have hnz : ¬ ((L.length + 1 : Nat) : Int) = 0 := by omega
    have hnb : (((L.length + 1 : Nat) : Int) == 0) = false := by simpa using hnz
    have hlz : 0 < L.length + 1 := by omega
    have g1 := fun s t w => eqg_tx .neq s t x m w
    clear hb hS
    by_cases e : x = m
    · subst e
      have g2 := ne_same x
      have ht : tk x (x :: L) = true := by simp [tk]
      rw [ht]
      go_enter Tryd.func52, Tryd.ntmps52
      go_wp2_with fail
      with_reducible refine HX.out.mono ?_
      rintro e w1 ⟨rfl, hR1, hg⟩
      have HR1 := Lib.hid hR1
      have HG := Lib.hid hg
      clear hR1 hg HX c0 hx
      go_wp2
      go_ret
      exact ⟨rfl, HR1.out, HG.out⟩
    · have g2 := neq_yes x m e
      have ht : tk m (x :: L) = false := by simp [tk, e]
      rw [ht]
      clear e
      go_enter Tryd.func52, Tryd.ntmps52
      go_wp2
      go_ret
      exact ⟨rfl, hR.out, grefl _ _⟩
def nbV (m : List UInt8) (other : Int) (L : List (List UInt8)) : Int := if tk m L then numV 400 (L.tail.headD []) else other
def nbR (m : List UInt8) (L : List (List UInt8)) : List (List UInt8) := if tk m L then L.tail.tail else L
theorem numberBehind_v (b g : Nat) (m : List UInt8) (other : Int) (L : List (List UInt8)) (w : World) (h : RDR b g w L) (hn : b ≠ g) (hw : ∀ x ∈ L, x.length ≤ 4294967280) : Calls Tryd.prog 53 #[.pointer (some ⟨b, 0, none⟩), tx m, .int .i64 other] w fun e w' => e = .returned (.int .i64 (nbV m other L)) ∧ RDR b g w' (nbR m L) ∧ w.grownBy w' (some b) := by
  have HT := Lib.hid (takes_v b g m L w h hn)
  have hw2 : ∀ x ∈ L.tail, x.length ≤ 4294967280 := fun x hx => hw x (List.mem_of_mem_tail hx)
  unfold nbV nbR
  cases ht : tk m L
  · rw [ht] at HT
    clear h hw hw2
    go_enter Tryd.func53, Tryd.ntmps53
    go_wp2_with fail
    with_reducible refine HT.out.mono ?_
    rintro e w1 ⟨rfl, hR, hg⟩
    have HR := Lib.hid hR
    have HG := Lib.hid hg
    clear hR hg HT
    go_wp2
    go_ret
    exact ⟨rfl, HR.out, HG.out⟩
  · rw [ht] at HT
    have HN := Lib.hid (fun w h => number_rd b g L.tail w h hn hw2)
    rw [if_pos rfl, if_pos rfl]
    generalize numV 400 (L.tail.headD []) = V at *
    clear h hw hw2
    go_enter Tryd.func53, Tryd.ntmps53
    go_wp2_with fail
    with_reducible refine HT.out.mono ?_
    rintro e w1 ⟨rfl, hR, hg⟩
    have HR := Lib.hid (show RDR b g w1 L.tail from hR)
    have HG := Lib.hid hg
    clear hR hg HT
    go_wp2_with fail
    with_reducible refine (HN.out _ HR.out).mono ?_
    rintro e w2 ⟨rfl, hR, hg⟩
    have HR2 := Lib.hid hR
    have HG2 := Lib.hid (gby_gby HG.out hg)
    clear hR hg HR HG
    go_wp2
    go_ret
    exact ⟨rfl, HR2.out, HG2.out⟩
end Go.Proofs.YtjfdmdmlgdgchaaDoor
end
section
namespace Go.Proofs.YtjfdmdmlgdgchaaDoor
open Go.RowKit
set_option linter.unusedVariables false
set_option linter.unusedSimpArgs false
set_option maxHeartbeats 2000000
attribute [local go_sem] growUpon_value growUpon_skip growUpon_enter
/-! The reader's item. -/
def sdB : List ByteArray := sideWds.map fun l => ByteArray.mk l.toArray
def sdI (x : List UInt8) : Int := Lib.idxOfS (sdB.take 4) ⟨x.toArray⟩
theorem index_v (g : Nat) (x : List UInt8) (w : World) (hS : SLs w g 0 sideWds) : Calls Tryd.prog 48 #[.slice (some ⟨g, 0, none⟩) 4 4, tx x] w fun e w' => e = .returned (.int .i64 (sdI x)) ∧ w' = w :=
  Tryd.slices_Index_string g 0 4 4 sdB ⟨x.toArray⟩ w (by simp [sdB, sideWds]) (by omega) (fun j hj => by
    have h4 : j = 0 ∨ j = 1 ∨ j = 2 ∨ j = 3 := by simp [sdB, sideWds] at hj; omega
    rcases h4 with rfl | rfl | rfl | rfl <;> exact hS.2 _ _ rfl)
theorem sideWords_g (w : World) : Calls Tryd.prog 49 #[] w fun e w' => (∃ g, e = .returned (.slice (some ⟨g, 0, none⟩) 4 4) ∧ w.heap.size ≤ g ∧ SLs w' g 0 sideWds) ∧ Below w.heap.size w w' := by
  go_enter Tryd.func49, Tryd.ntmps49
  go_wp2
  go_ret
  exact ⟨⟨w.heap.size, rfl, Nat.le_refl _, SLs.new w sideWds _⟩, balloc (Below.refl _ _)⟩
theorem SLs.other {w w' : World} {b g off : Nat} {L : List (List UInt8)} (h : SLs w g off L) (hg : w.grownBy w' (some b)) (hn : g ≠ b) : SLs w' g off L :=
  ⟨Nat.lt_of_lt_of_le h.1 hg.size, fun i x hx => (World.cell?_of_block (hg.block g h.1 (fun e => hn (Option.some.inj e)))).trans (h.2 i x hx)⟩
theorem hw_tail {K : Nat} {L : List (List UInt8)} (h : ∀ x ∈ L, x.length ≤ K) : ∀ x ∈ L.tail, x.length ≤ K := fun x hx => h x (List.mem_of_mem_tail hx)
theorem hw_rst {K : Nat} {t : Bool} {L : List (List UInt8)} (h : ∀ x ∈ L, x.length ≤ K) : ∀ x ∈ rst t L, x.length ≤ K := by cases t; exact h; exact hw_tail h
theorem hw_nbR {K : Nat} {m : List UInt8} {L : List (List UInt8)} (h : ∀ x ∈ L, x.length ≤ K) : ∀ x ∈ nbR m L, x.length ≤ K := by
  unfold nbR
  split
  · exact hw_tail (hw_tail h)
  · exact h
theorem RDR.put {b g : Nat} {w : World} {L : List (List UInt8)} (h : RDR b g w L) (p i : Nat) (v : Value) (h1 : p ≠ b) (h2 : p ≠ g) : RDR b g (w.setCell ⟨p, i, none⟩ v) L := by
  obtain ⟨off, c, k1, k2, k3⟩ := h
  exact ⟨off, c, (Below.heap_setCell w ⟨p, i, none⟩ v b (Ne.symm h1)).trans k1, k2.put p i v h2, k3⟩
theorem RDR.lt {b g : Nat} {w : World} {L : List (List UInt8)} (h : RDR b g w L) : b < w.heap.size ∧ g < w.heap.size := by
  obtain ⟨off, c, k1, k2, k3⟩ := h
  exact ⟨ltS k1, k2.1⟩
theorem g_put {w w' : World} {b p i : Nat} {v : Value} (h : w.grownBy w' (some b)) (hp : w.heap.size ≤ p) : w.grownBy (w'.setCell ⟨p, i, none⟩ v) (some b) :=
  ⟨h.os, h.tape, h.output, by simpa [World.setCell] using h.size, fun k hk hne => (Below.heap_setCell w' ⟨p, i, none⟩ v k (by show k ≠ p; omega)).trans (h.block k hk hne)⟩
theorem g_of {w w' : World} (b : Nat) (h : Below w.heap.size w w') : w.grownBy w' (some b) := ⟨h.os, h.tape, h.output, h.size, fun k hk _ => h.block k hk⟩
theorem wp_PK {P : Program} {c : Code} {Q : Exit → Act → World → Prop} {a : Act} {W : World} (F : World → Prop) (hF : F W) (h : ∀ W0, F W0 → c.wp P Q a W0) : c.wp P Q a W := h W hF
structure PKV where
  w0 : Int
  h0 : Int
  s : Int
  fx : Bool
  fy : Bool
  ex : Bool
  an : Int
  px : Int
  py : Int
/-- the item that words make -/
def pkP (L : List (List UInt8)) : PKV :=
  let L1 := L.tail; let L2 := L1.tail; let L3 := L2.tail
  let L4 := rst (tk FX L3) L3; let L5 := rst (tk FY L4) L4; let L6 := rst (tk EX L5) L5
  let L7 := nbR AN L6; let L8 := nbR PXW L7
  ⟨numV 400 (L1.headD []), numV 400 (L2.headD []), sdI (L.headD []), tk FX L3, tk FY L4, tk EX L5, nbV AN 4 L6, nbV PXW 0 L7, nbV PYW 0 L8⟩
theorem takes_FX (b g : Nat) (L : List (List UInt8)) (w : World) (h : RDR b g w L) (hn : b ≠ g) : Calls Tryd.prog 52 #[.pointer (some ⟨b, 0, none⟩), .string ⟨#[102, 105, 108, 108, 120]⟩] w fun e w' => e = .returned (.bool (tk FX L)) ∧ RDR b g w' (rst (tk FX L) L) ∧ w.grownBy w' (some b) := takes_v b g FX L w h hn
theorem takes_FY (b g : Nat) (L : List (List UInt8)) (w : World) (h : RDR b g w L) (hn : b ≠ g) : Calls Tryd.prog 52 #[.pointer (some ⟨b, 0, none⟩), .string ⟨#[102, 105, 108, 108, 121]⟩] w fun e w' => e = .returned (.bool (tk FY L)) ∧ RDR b g w' (rst (tk FY L) L) ∧ w.grownBy w' (some b) := takes_v b g FY L w h hn
theorem takes_EX (b g : Nat) (L : List (List UInt8)) (w : World) (h : RDR b g w L) (hn : b ≠ g) : Calls Tryd.prog 52 #[.pointer (some ⟨b, 0, none⟩), .string ⟨#[101, 120, 112, 97, 110, 100]⟩] w fun e w' => e = .returned (.bool (tk EX L)) ∧ RDR b g w' (rst (tk EX L) L) ∧ w.grownBy w' (some b) := takes_v b g EX L w h hn
theorem nbh_AN (b g : Nat) (L : List (List UInt8)) (w : World) (h : RDR b g w L) (hn : b ≠ g) (hw : ∀ x ∈ L, x.length ≤ 4294967280) : Calls Tryd.prog 53 #[.pointer (some ⟨b, 0, none⟩), .string ⟨#[97, 110, 99, 104, 111, 114]⟩, .int .i64 4] w fun e w' => e = .returned (.int .i64 (nbV AN 4 L)) ∧ RDR b g w' (nbR AN L) ∧ w.grownBy w' (some b) := numberBehind_v b g AN 4 L w h hn hw
theorem nbh_PXW (b g : Nat) (L : List (List UInt8)) (w : World) (h : RDR b g w L) (hn : b ≠ g) (hw : ∀ x ∈ L, x.length ≤ 4294967280) : Calls Tryd.prog 53 #[.pointer (some ⟨b, 0, none⟩), .string ⟨#[112, 97, 100, 120]⟩, .int .i64 0] w fun e w' => e = .returned (.int .i64 (nbV PXW 0 L)) ∧ RDR b g w' (nbR PXW L) ∧ w.grownBy w' (some b) := numberBehind_v b g PXW 0 L w h hn hw
theorem nbh_PYW (b g : Nat) (L : List (List UInt8)) (w : World) (h : RDR b g w L) (hn : b ≠ g) (hw : ∀ x ∈ L, x.length ≤ 4294967280) : Calls Tryd.prog 53 #[.pointer (some ⟨b, 0, none⟩), .string ⟨#[112, 97, 100, 121]⟩, .int .i64 0] w fun e w' => e = .returned (.int .i64 (nbV PYW 0 L)) ∧ RDR b g w' (nbR PYW L) ∧ w.grownBy w' (some b) := numberBehind_v b g PYW 0 L w h hn hw
set_option maxRecDepth 100000 in
theorem pack_v (b g : Nat) (L : List (List UInt8)) (w : World) (h : RDR b g w L) (hn : b ≠ g) (hw : ∀ x ∈ L, x.length ≤ 4294967280) :
    Calls Tryd.prog 26 #[.pointer (some ⟨b, 0, none⟩)] w fun e w' => e = .returned (.agg #[.int .i64 ((pkP L).w0), .int .i64 ((pkP L).h0), .int .i64 ((pkP L).s), .bool ((pkP L).fx), .bool ((pkP L).fy), .bool ((pkP L).ex), .int .i64 ((pkP L).an), .int .i64 ((pkP L).px), .int .i64 ((pkP L).py)]) ∧ w.grownBy w' (some b) := by
  obtain ⟨Q, hQ⟩ : ∃ Q, pkP L = Q := ⟨_, rfl⟩
  rw [hQ]
  have HQ := Lib.hid hQ
  clear hQ
  have hw1 : ∀ x ∈ L.tail, x.length ≤ 4294967280 := hw_tail hw
  obtain ⟨L1, e1⟩ : ∃ X, L.tail = X := ⟨_, rfl⟩
  rw [e1] at hw1
  have hw2 : ∀ x ∈ L1.tail, x.length ≤ 4294967280 := hw_tail hw1
  obtain ⟨L2, e2⟩ : ∃ X, L1.tail = X := ⟨_, rfl⟩
  rw [e2] at hw2
  have hw3 : ∀ x ∈ L2.tail, x.length ≤ 4294967280 := hw_tail hw2
  obtain ⟨L3, e3⟩ : ∃ X, L2.tail = X := ⟨_, rfl⟩
  rw [e3] at hw3
  have hw4 : ∀ x ∈ rst (tk FX L3) L3, x.length ≤ 4294967280 := hw_rst hw3
  obtain ⟨L4, e4⟩ : ∃ X, rst (tk FX L3) L3 = X := ⟨_, rfl⟩
  rw [e4] at hw4
  have hw5 : ∀ x ∈ rst (tk FY L4) L4, x.length ≤ 4294967280 := hw_rst hw4
  obtain ⟨L5, e5⟩ : ∃ X, rst (tk FY L4) L4 = X := ⟨_, rfl⟩
  rw [e5] at hw5
  have hw6 : ∀ x ∈ rst (tk EX L5) L5, x.length ≤ 4294967280 := hw_rst hw5
  obtain ⟨L6, e6⟩ : ∃ X, rst (tk EX L5) L5 = X := ⟨_, rfl⟩
  rw [e6] at hw6
  have hw7 : ∀ x ∈ nbR AN L6, x.length ≤ 4294967280 := hw_nbR hw6
  obtain ⟨L7, e7⟩ : ∃ X, nbR AN L6 = X := ⟨_, rfl⟩
  rw [e7] at hw7
  have hw8 : ∀ x ∈ nbR PXW L7, x.length ≤ 4294967280 := hw_nbR hw7
  obtain ⟨L8, e8⟩ : ∃ X, nbR PXW L7 = X := ⟨_, rfl⟩
  rw [e8] at hw8
  have HE := Lib.hid (⟨e1, e2, e3, e4, e5, e6, e7, e8⟩ : L.tail = L1 ∧ L1.tail = L2 ∧ L2.tail = L3 ∧ rst (tk FX L3) L3 = L4 ∧ rst (tk FY L4) L4 = L5 ∧ rst (tk EX L5) L5 = L6 ∧ nbR AN L6 = L7 ∧ nbR PXW L7 = L8)
  have H1 := Lib.hid (fun w h => next_v b g L w h hn)
  have H2 := Lib.hid (fun w h => number_rd b g L1 w h hn hw1)
  have H3 := Lib.hid (fun w h => number_rd b g L2 w h hn hw2)
  have H4 := Lib.hid (fun w h => takes_FX b g L3 w h hn)
  have H5 := Lib.hid (fun w h => takes_FY b g L4 w h hn)
  have H6 := Lib.hid (fun w h => takes_EX b g L5 w h hn)
  have H7 := Lib.hid (fun w h => nbh_AN b g L6 w h hn hw6)
  have H8 := Lib.hid (fun w h => nbh_PXW b g L7 w h hn hw7)
  have H9 := Lib.hid (fun w h => nbh_PYW b g L8 w h hn hw8)
  rw [e1] at H1
  rw [e2] at H2
  rw [e3] at H3
  rw [e4] at H4
  rw [e5] at H5
  rw [e6] at H6
  rw [e7] at H7
  rw [e8] at H8
  obtain ⟨X0, ex0⟩ : ∃ X, L.headD [] = X := ⟨_, rfl⟩
  obtain ⟨va, eva⟩ : ∃ X, numV 400 (L1.headD []) = X := ⟨_, rfl⟩
  obtain ⟨vb, evb⟩ : ∃ X, numV 400 (L2.headD []) = X := ⟨_, rfl⟩
  obtain ⟨vd, evd⟩ : ∃ X, tk FX L3 = X := ⟨_, rfl⟩
  obtain ⟨ve, eve⟩ : ∃ X, tk FY L4 = X := ⟨_, rfl⟩
  obtain ⟨vf, evf⟩ : ∃ X, tk EX L5 = X := ⟨_, rfl⟩
  obtain ⟨vg, evg⟩ : ∃ X, nbV AN 4 L6 = X := ⟨_, rfl⟩
  obtain ⟨vh, evh⟩ : ∃ X, nbV PXW 0 L7 = X := ⟨_, rfl⟩
  obtain ⟨vi, evi⟩ : ∃ X, nbV PYW 0 L8 = X := ⟨_, rfl⟩
  obtain ⟨LZ, eLZ⟩ : ∃ X, nbR PYW L8 = X := ⟨_, rfl⟩
  rw [ex0] at H1
  rw [eva] at H2
  rw [evb] at H3
  rw [evd] at H4
  rw [eve] at H5
  rw [evf] at H6
  rw [evg] at H7
  rw [evh] at H8
  rw [evi, eLZ] at H9
  have hfin : Q = ⟨va, vb, sdI X0, vd, ve, vf, vg, vh, vi⟩ := by rw [← HQ.out]; subst e1 e2 e3 e4 e5 e6 e7 e8 ex0 eva evb evd eve evf evg evh evi; rfl
  subst hfin
  obtain ⟨vc, evc⟩ : ∃ X, sdI X0 = X := ⟨_, rfl⟩
  rw [evc]
  have HVC := Lib.hid evc
  clear evc ex0 eva evb evd eve evf evg evh evi eLZ HQ HE
  clear e1 e2 e3 e4 e5 e6 e7 e8 hw1 hw2 hw3 hw4 hw5 hw6 hw7 hw8 hw
  obtain ⟨hbl, hgl⟩ := h.lt
  go_enter Tryd.func26, Tryd.ntmps26
  go_upto_region 2 with (fail)
  refine wp_PK (fun W => W.heap[w.heap.size]? = some (.cells #[.int .i64 0, .int .i64 0, .int .i64 0, .bool false, .bool false, .bool false, .int .i64 0, .int .i64 0, .int .i64 0] 23 (0, 0)) ∧ W.heap[w.heap.size + 1]? = some (.cells #[.int .i64 0, .int .i64 0, .int .i64 0, .bool false, .bool false, .bool false, .int .i64 0, .int .i64 0, .int .i64 0] 23 (0, 0)) ∧ RDR b g W L ∧ w.grownBy W (some b)) ⟨(Below.heap_alloc _ _ w.heap.size (by simp)).trans (newS w _), by simpa using newS (w.alloc (.cells #[.int .i64 0, .int .i64 0, .int .i64 0, .bool false, .bool false, .bool false, .int .i64 0, .int .i64 0, .int .i64 0] 23)) _, (h.keep (balloc (Below.refl _ _))).keep (balloc (Below.refl _ _)), g_of b (balloc (balloc (Below.refl _ _)))⟩ ?_
  clear h
  rintro W0 ⟨hz, hp, hr, hg⟩
  have HZ := Lib.hid hz
  have HP := Lib.hid hp
  have HR := Lib.hid hr
  have HG := Lib.hid hg
  clear hz hp hr hg
  go_wp2_with fail
  with_reducible refine (sideWords_g _).mono ?_
  rintro e w1 ⟨⟨gs, rfl, hgs, hS⟩, hb⟩
  replace HZ := Lib.hid ((hb.block _ (ltS HZ.out)).trans HZ.out)
  replace HP := Lib.hid ((hb.block _ (ltS HP.out)).trans HP.out)
  replace HR := Lib.hid (HR.out.keep hb)
  have hsz := HG.out.size
  replace HG := Lib.hid (gby_below HG.out hb)
  have HS := Lib.hid hS
  clear hb hS
  go_wp2_with fail
  with_reducible refine (H1.out _ HR.out).mono ?_
  rintro e w2 ⟨rfl, hr, hg⟩
  replace HZ := Lib.hid ((hg.block _ (ltS HZ.out) (fun e => absurd (Option.some.inj e) (by omega))).trans HZ.out)
  replace HP := Lib.hid ((hg.block _ (ltS HP.out) (fun e => absurd (Option.some.inj e) (by omega))).trans HP.out)
  replace HS := Lib.hid (HS.out.other hg (by omega))
  replace HR := Lib.hid hr
  replace HG := Lib.hid (gby_gby HG.out hg)
  clear hr hg
  go_wp2_with fail
  with_reducible refine (index_v gs X0 _ HS.out).mono ?_
  rintro e w3 ⟨rfl, hw3⟩
  subst hw3
  rw [HVC.out]
  clear HS
  have f0 := frozenS HP.out 0
  obtain ⟨p0, p1, p2, p3, p4, p5, p6, p7, p8⟩ := b9c HP.out
  have f2 := frozenS HP.out 2
  go_upto_region 3 with (fail)
  refine wp_PK (fun W => W.heap[w.heap.size]? = some (.cells #[.int .i64 0, .int .i64 0, .int .i64 0, .bool false, .bool false, .bool false, .int .i64 0, .int .i64 0, .int .i64 0] 23 (0, 0)) ∧ W.heap[w.heap.size + 1]? = some (.cells #[.int .i64 0, .int .i64 0, .int .i64 vc, .bool false, .bool false, .bool false, .int .i64 0, .int .i64 0, .int .i64 0] 23 (0, 0)) ∧ RDR b g W L1 ∧ w.grownBy W (some b)) ⟨(Below.heap_setCell _ ⟨w.heap.size + 1, 2, none⟩ _ w.heap.size (by show w.heap.size ≠ w.heap.size + 1; omega)).trans HZ.out, putS (i := 2) HP.out _, HR.out.put _ _ _ (by omega) (by omega), g_put HG.out (by omega)⟩ ?_
  clear p0 p1 p2 p3 p4 p5 p6 p7 p8 f2 HZ HP HR HG
  rintro V0 ⟨hz, hp, hr, hg⟩
  have HZ := Lib.hid hz
  have HP := Lib.hid hp
  have HR := Lib.hid hr
  have HG := Lib.hid hg
  clear hz hp hr hg
  go_wp2_with fail
  with_reducible refine (H2.out _ HR.out).mono ?_
  rintro e x0 ⟨rfl, hr, hg⟩
  replace HZ := Lib.hid ((hg.block _ (ltS HZ.out) (fun e => absurd (Option.some.inj e) (by omega))).trans HZ.out)
  replace HP := Lib.hid ((hg.block _ (ltS HP.out) (fun e => absurd (Option.some.inj e) (by omega))).trans HP.out)
  replace HR := Lib.hid hr
  replace HG := Lib.hid (gby_gby HG.out hg)
  clear hr hg
  obtain ⟨p0, p1, p2, p3, p4, p5, p6, p7, p8⟩ := b9c HP.out
  have f0 := frozenS HP.out 0
  go_upto_region 4 with (fail)
  refine wp_PK (fun W => W.heap[w.heap.size]? = some (.cells #[.int .i64 0, .int .i64 0, .int .i64 0, .bool false, .bool false, .bool false, .int .i64 0, .int .i64 0, .int .i64 0] 23 (0, 0)) ∧ W.heap[w.heap.size + 1]? = some (.cells #[.int .i64 va, .int .i64 0, .int .i64 vc, .bool false, .bool false, .bool false, .int .i64 0, .int .i64 0, .int .i64 0] 23 (0, 0)) ∧ RDR b g W L2 ∧ w.grownBy W (some b)) ⟨(Below.heap_setCell _ ⟨w.heap.size + 1, 0, none⟩ _ w.heap.size (by show w.heap.size ≠ w.heap.size + 1; omega)).trans HZ.out, putS (i := 0) HP.out _, HR.out.put _ _ _ (by omega) (by omega), g_put HG.out (by omega)⟩ ?_
  clear p0 p1 p2 p3 p4 p5 p6 p7 p8 f0 HZ HP HR HG
  rintro V1 ⟨hz, hp, hr, hg⟩
  have HZ := Lib.hid hz
  have HP := Lib.hid hp
  have HR := Lib.hid hr
  have HG := Lib.hid hg
  clear hz hp hr hg
  go_wp2_with fail
  with_reducible refine (H3.out _ HR.out).mono ?_
  rintro e x1 ⟨rfl, hr, hg⟩
  replace HZ := Lib.hid ((hg.block _ (ltS HZ.out) (fun e => absurd (Option.some.inj e) (by omega))).trans HZ.out)
  replace HP := Lib.hid ((hg.block _ (ltS HP.out) (fun e => absurd (Option.some.inj e) (by omega))).trans HP.out)
  replace HR := Lib.hid hr
  replace HG := Lib.hid (gby_gby HG.out hg)
  clear hr hg
  obtain ⟨p0, p1, p2, p3, p4, p5, p6, p7, p8⟩ := b9c HP.out
  have f1 := frozenS HP.out 1
  go_upto_region 5 with (fail)
  refine wp_PK (fun W => W.heap[w.heap.size]? = some (.cells #[.int .i64 0, .int .i64 0, .int .i64 0, .bool false, .bool false, .bool false, .int .i64 0, .int .i64 0, .int .i64 0] 23 (0, 0)) ∧ W.heap[w.heap.size + 1]? = some (.cells #[.int .i64 va, .int .i64 vb, .int .i64 vc, .bool false, .bool false, .bool false, .int .i64 0, .int .i64 0, .int .i64 0] 23 (0, 0)) ∧ RDR b g W L3 ∧ w.grownBy W (some b)) ⟨(Below.heap_setCell _ ⟨w.heap.size + 1, 1, none⟩ _ w.heap.size (by show w.heap.size ≠ w.heap.size + 1; omega)).trans HZ.out, putS (i := 1) HP.out _, HR.out.put _ _ _ (by omega) (by omega), g_put HG.out (by omega)⟩ ?_
  clear p0 p1 p2 p3 p4 p5 p6 p7 p8 f1 HZ HP HR HG
  rintro V2 ⟨hz, hp, hr, hg⟩
  have HZ := Lib.hid hz
  have HP := Lib.hid hp
  have HR := Lib.hid hr
  have HG := Lib.hid hg
  clear hz hp hr hg
  go_wp2_with fail
  with_reducible refine (H4.out _ HR.out).mono ?_
  rintro e x2 ⟨rfl, hr, hg⟩
  replace HZ := Lib.hid ((hg.block _ (ltS HZ.out) (fun e => absurd (Option.some.inj e) (by omega))).trans HZ.out)
  replace HP := Lib.hid ((hg.block _ (ltS HP.out) (fun e => absurd (Option.some.inj e) (by omega))).trans HP.out)
  replace HR := Lib.hid hr
  replace HG := Lib.hid (gby_gby HG.out hg)
  clear hr hg
  obtain ⟨p0, p1, p2, p3, p4, p5, p6, p7, p8⟩ := b9c HP.out
  have f3 := frozenS HP.out 3
  go_upto_region 6 with (fail)
  refine wp_PK (fun W => W.heap[w.heap.size]? = some (.cells #[.int .i64 0, .int .i64 0, .int .i64 0, .bool false, .bool false, .bool false, .int .i64 0, .int .i64 0, .int .i64 0] 23 (0, 0)) ∧ W.heap[w.heap.size + 1]? = some (.cells #[.int .i64 va, .int .i64 vb, .int .i64 vc, .bool vd, .bool false, .bool false, .int .i64 0, .int .i64 0, .int .i64 0] 23 (0, 0)) ∧ RDR b g W L4 ∧ w.grownBy W (some b)) ⟨(Below.heap_setCell _ ⟨w.heap.size + 1, 3, none⟩ _ w.heap.size (by show w.heap.size ≠ w.heap.size + 1; omega)).trans HZ.out, putS (i := 3) HP.out _, HR.out.put _ _ _ (by omega) (by omega), g_put HG.out (by omega)⟩ ?_
  clear p0 p1 p2 p3 p4 p5 p6 p7 p8 f3 HZ HP HR HG
  rintro V3 ⟨hz, hp, hr, hg⟩
  have HZ := Lib.hid hz
  have HP := Lib.hid hp
  have HR := Lib.hid hr
  have HG := Lib.hid hg
  clear hz hp hr hg
  go_wp2_with fail
  with_reducible refine (H5.out _ HR.out).mono ?_
  rintro e x3 ⟨rfl, hr, hg⟩
  replace HZ := Lib.hid ((hg.block _ (ltS HZ.out) (fun e => absurd (Option.some.inj e) (by omega))).trans HZ.out)
  replace HP := Lib.hid ((hg.block _ (ltS HP.out) (fun e => absurd (Option.some.inj e) (by omega))).trans HP.out)
  replace HR := Lib.hid hr
  replace HG := Lib.hid (gby_gby HG.out hg)
  clear hr hg
  obtain ⟨p0, p1, p2, p3, p4, p5, p6, p7, p8⟩ := b9c HP.out
  have f4 := frozenS HP.out 4
  go_upto_region 7 with (fail)
  refine wp_PK (fun W => W.heap[w.heap.size]? = some (.cells #[.int .i64 0, .int .i64 0, .int .i64 0, .bool false, .bool false, .bool false, .int .i64 0, .int .i64 0, .int .i64 0] 23 (0, 0)) ∧ W.heap[w.heap.size + 1]? = some (.cells #[.int .i64 va, .int .i64 vb, .int .i64 vc, .bool vd, .bool ve, .bool false, .int .i64 0, .int .i64 0, .int .i64 0] 23 (0, 0)) ∧ RDR b g W L5 ∧ w.grownBy W (some b)) ⟨(Below.heap_setCell _ ⟨w.heap.size + 1, 4, none⟩ _ w.heap.size (by show w.heap.size ≠ w.heap.size + 1; omega)).trans HZ.out, putS (i := 4) HP.out _, HR.out.put _ _ _ (by omega) (by omega), g_put HG.out (by omega)⟩ ?_
  clear p0 p1 p2 p3 p4 p5 p6 p7 p8 f4 HZ HP HR HG
  rintro V4 ⟨hz, hp, hr, hg⟩
  have HZ := Lib.hid hz
  have HP := Lib.hid hp
  have HR := Lib.hid hr
  have HG := Lib.hid hg
  clear hz hp hr hg
  go_wp2_with fail
  with_reducible refine (H6.out _ HR.out).mono ?_
  rintro e x4 ⟨rfl, hr, hg⟩
  replace HZ := Lib.hid ((hg.block _ (ltS HZ.out) (fun e => absurd (Option.some.inj e) (by omega))).trans HZ.out)
  replace HP := Lib.hid ((hg.block _ (ltS HP.out) (fun e => absurd (Option.some.inj e) (by omega))).trans HP.out)
  replace HR := Lib.hid hr
  replace HG := Lib.hid (gby_gby HG.out hg)
  clear hr hg
  obtain ⟨p0, p1, p2, p3, p4, p5, p6, p7, p8⟩ := b9c HP.out
  have f5 := frozenS HP.out 5
  go_upto_region 8 with (fail)
  refine wp_PK (fun W => W.heap[w.heap.size]? = some (.cells #[.int .i64 0, .int .i64 0, .int .i64 0, .bool false, .bool false, .bool false, .int .i64 0, .int .i64 0, .int .i64 0] 23 (0, 0)) ∧ W.heap[w.heap.size + 1]? = some (.cells #[.int .i64 va, .int .i64 vb, .int .i64 vc, .bool vd, .bool ve, .bool vf, .int .i64 0, .int .i64 0, .int .i64 0] 23 (0, 0)) ∧ RDR b g W L6 ∧ w.grownBy W (some b)) ⟨(Below.heap_setCell _ ⟨w.heap.size + 1, 5, none⟩ _ w.heap.size (by show w.heap.size ≠ w.heap.size + 1; omega)).trans HZ.out, putS (i := 5) HP.out _, HR.out.put _ _ _ (by omega) (by omega), g_put HG.out (by omega)⟩ ?_
  clear p0 p1 p2 p3 p4 p5 p6 p7 p8 f5 HZ HP HR HG
  rintro V5 ⟨hz, hp, hr, hg⟩
  have HZ := Lib.hid hz
  have HP := Lib.hid hp
  have HR := Lib.hid hr
  have HG := Lib.hid hg
  clear hz hp hr hg
  go_wp2_with fail
  with_reducible refine (H7.out _ HR.out).mono ?_
  rintro e x5 ⟨rfl, hr, hg⟩
  replace HZ := Lib.hid ((hg.block _ (ltS HZ.out) (fun e => absurd (Option.some.inj e) (by omega))).trans HZ.out)
  replace HP := Lib.hid ((hg.block _ (ltS HP.out) (fun e => absurd (Option.some.inj e) (by omega))).trans HP.out)
  replace HR := Lib.hid hr
  replace HG := Lib.hid (gby_gby HG.out hg)
  clear hr hg
  obtain ⟨p0, p1, p2, p3, p4, p5, p6, p7, p8⟩ := b9c HP.out
  have f6 := frozenS HP.out 6
  go_upto_region 9 with (fail)
  refine wp_PK (fun W => W.heap[w.heap.size]? = some (.cells #[.int .i64 0, .int .i64 0, .int .i64 0, .bool false, .bool false, .bool false, .int .i64 0, .int .i64 0, .int .i64 0] 23 (0, 0)) ∧ W.heap[w.heap.size + 1]? = some (.cells #[.int .i64 va, .int .i64 vb, .int .i64 vc, .bool vd, .bool ve, .bool vf, .int .i64 vg, .int .i64 0, .int .i64 0] 23 (0, 0)) ∧ RDR b g W L7 ∧ w.grownBy W (some b)) ⟨(Below.heap_setCell _ ⟨w.heap.size + 1, 6, none⟩ _ w.heap.size (by show w.heap.size ≠ w.heap.size + 1; omega)).trans HZ.out, putS (i := 6) HP.out _, HR.out.put _ _ _ (by omega) (by omega), g_put HG.out (by omega)⟩ ?_
  clear p0 p1 p2 p3 p4 p5 p6 p7 p8 f6 HZ HP HR HG
  rintro V6 ⟨hz, hp, hr, hg⟩
  have HZ := Lib.hid hz
  have HP := Lib.hid hp
  have HR := Lib.hid hr
  have HG := Lib.hid hg
  clear hz hp hr hg
  go_wp2_with fail
  with_reducible refine (H8.out _ HR.out).mono ?_
  rintro e x6 ⟨rfl, hr, hg⟩
  replace HZ := Lib.hid ((hg.block _ (ltS HZ.out) (fun e => absurd (Option.some.inj e) (by omega))).trans HZ.out)
  replace HP := Lib.hid ((hg.block _ (ltS HP.out) (fun e => absurd (Option.some.inj e) (by omega))).trans HP.out)
  replace HR := Lib.hid hr
  replace HG := Lib.hid (gby_gby HG.out hg)
  clear hr hg
  obtain ⟨p0, p1, p2, p3, p4, p5, p6, p7, p8⟩ := b9c HP.out
  have f7 := frozenS HP.out 7
  go_upto_region 10 with (fail)
  refine wp_PK (fun W => W.heap[w.heap.size]? = some (.cells #[.int .i64 0, .int .i64 0, .int .i64 0, .bool false, .bool false, .bool false, .int .i64 0, .int .i64 0, .int .i64 0] 23 (0, 0)) ∧ W.heap[w.heap.size + 1]? = some (.cells #[.int .i64 va, .int .i64 vb, .int .i64 vc, .bool vd, .bool ve, .bool vf, .int .i64 vg, .int .i64 vh, .int .i64 0] 23 (0, 0)) ∧ RDR b g W L8 ∧ w.grownBy W (some b)) ⟨(Below.heap_setCell _ ⟨w.heap.size + 1, 7, none⟩ _ w.heap.size (by show w.heap.size ≠ w.heap.size + 1; omega)).trans HZ.out, putS (i := 7) HP.out _, HR.out.put _ _ _ (by omega) (by omega), g_put HG.out (by omega)⟩ ?_
  clear p0 p1 p2 p3 p4 p5 p6 p7 p8 f7 HZ HP HR HG
  rintro V7 ⟨hz, hp, hr, hg⟩
  have HZ := Lib.hid hz
  have HP := Lib.hid hp
  have HR := Lib.hid hr
  have HG := Lib.hid hg
  clear hz hp hr hg
  go_wp2_with fail
  with_reducible refine (H9.out _ HR.out).mono ?_
  rintro e x7 ⟨rfl, hr, hg⟩
  replace HZ := Lib.hid ((hg.block _ (ltS HZ.out) (fun e => absurd (Option.some.inj e) (by omega))).trans HZ.out)
  replace HP := Lib.hid ((hg.block _ (ltS HP.out) (fun e => absurd (Option.some.inj e) (by omega))).trans HP.out)
  replace HR := Lib.hid hr
  replace HG := Lib.hid (gby_gby HG.out hg)
  clear hr hg
  obtain ⟨p0, p1, p2, p3, p4, p5, p6, p7, p8⟩ := b9c HP.out
  have f8 := frozenS HP.out 8
  go_upto_region 11 with (fail)
  refine wp_PK (fun W => W.heap[w.heap.size]? = some (.cells #[.int .i64 0, .int .i64 0, .int .i64 0, .bool false, .bool false, .bool false, .int .i64 0, .int .i64 0, .int .i64 0] 23 (0, 0)) ∧ W.heap[w.heap.size + 1]? = some (.cells #[.int .i64 va, .int .i64 vb, .int .i64 vc, .bool vd, .bool ve, .bool vf, .int .i64 vg, .int .i64 vh, .int .i64 vi] 23 (0, 0)) ∧ w.grownBy W (some b)) ⟨(Below.heap_setCell _ ⟨w.heap.size + 1, 8, none⟩ _ w.heap.size (by show w.heap.size ≠ w.heap.size + 1; omega)).trans HZ.out, putS (i := 8) HP.out _, g_put HG.out (by omega)⟩ ?_
  clear p0 p1 p2 p3 p4 p5 p6 p7 p8 f8 HZ HP HR HG
  rintro V8 ⟨hz, hp, hg⟩
  have HG := Lib.hid hg
  have HZ := Lib.hid hz
  obtain ⟨p0, p1, p2, p3, p4, p5, p6, p7, p8⟩ := b9c hp
  obtain ⟨q0, q1, q2, q3, q4, q5, q6, q7, q8⟩ := b9c hz
  have f0 := frozenS hz 0
  have f1 := frozenS hz 1
  have f2 := frozenS hz 2
  have f3 := frozenS hz 3
  have f4 := frozenS hz 4
  have f5 := frozenS hz 5
  have f6 := frozenS hz 6
  have f7 := frozenS hz 7
  have f8 := frozenS hz 8
  clear hz hp hg
  go_wp2
  exact bodyPost_ret (v := .agg #[.int .i64 va, .int .i64 vb, .int .i64 vc, .bool vd, .bool ve, .bool vf, .int .i64 vg, .int .i64 vh, .int .i64 vi]) (by simp only [results, Tryd.results26]; go_simp) rfl ⟨rfl, g_put (g_put (g_put (g_put (g_put (g_put (g_put (g_put (g_put HG.out (by show w.heap.size ≤ _; omega)) (by show w.heap.size ≤ _; omega)) (by show w.heap.size ≤ _; omega)) (by show w.heap.size ≤ _; omega)) (by show w.heap.size ≤ _; omega)) (by show w.heap.size ≤ _; omega)) (by show w.heap.size ≤ _; omega)) (by show w.heap.size ≤ _; omega)) (by show w.heap.size ≤ _; omega)⟩
end Go.Proofs.YtjfdmdmlgdgchaaDoor
end
section
namespace Go.Proofs.YtjfdmdmlgdgchaaDoor
open Go.Lib
set_option linter.unusedVariables false
set_option linter.unusedSimpArgs false
/-! A text cut at a byte. -/
def splitL (c : UInt8) : List UInt8 → List (List UInt8)
  | [] => [[]]
  | b :: l => if b = c then [] :: splitL c l else match splitL c l with
    | [] => [[b]]
    | x :: r => (b :: x) :: r
theorem splitL_ne (c : UInt8) : ∀ l, splitL c l ≠ []
  | [] => by simp [splitL]
  | b :: l => by
    unfold splitL
    split
    · simp
    · split <;> simp
theorem splitL_miss {c : UInt8} : ∀ {l : List UInt8}, c ∉ l → splitL c l = [l]
  | [], _ => rfl
  | b :: l, h => by
    have h1 : ¬ b = c := fun e => h (by rw [e]; exact List.mem_cons_self)
    unfold splitL
    rw [if_neg h1, splitL_miss (fun h' => h (List.mem_cons_of_mem _ h'))]
theorem splitL_hit {c : UInt8} {r : List UInt8} : ∀ {p : List UInt8}, c ∉ p → splitL c (p ++ c :: r) = p :: splitL c r
  | [], _ => by rw [List.nil_append, splitL, if_pos rfl]
  | b :: p, h => by
    have h1 : ¬ b = c := fun e => h (by rw [e]; exact List.mem_cons_self)
    rw [List.cons_append, splitL, if_neg h1, splitL_hit (fun h' => h (List.mem_cons_of_mem _ h'))]
theorem splitL_join {c : UInt8} : ∀ {W : List (List UInt8)}, W ≠ [] → (∀ x ∈ W, c ∉ x) → splitL c (Lib.join W [c]) = W
  | [], h, _ => absurd rfl h
  | [x], _, h => by rw [Lib.join_one]; exact splitL_miss (h x (by simp))
  | x :: y :: r, _, h => by
    have e : Lib.join (x :: y :: r) [c] = x ++ c :: Lib.join (y :: r) [c] := by
      rw [Lib.join_cons, Lib.join_cons]; unfold Go.Lib.joinTail; simp
    rw [e, splitL_hit (h x (by simp)), splitL_join (by simp) (fun z hz => h z (List.mem_cons_of_mem _ hz))]
theorem index_byte (c : UInt8) : ∀ l : List UInt8, (index l [c] = -1 ∧ c ∉ l) ∨ ∃ p r, l = p ++ c :: r ∧ c ∉ p ∧ index l [c] = (p.length : Int)
  | [] => .inl ⟨rfl, by simp⟩
  | b :: l => by
    by_cases h : c = b
    · subst h
      refine .inr ⟨[], l, rfl, by simp, ?_⟩
      unfold index
      simp
    · have hp : List.isPrefixOf [c] (b :: l) = false := by simp [List.isPrefixOf, h]
      rcases index_byte c l with ⟨h1, h2⟩ | ⟨p, r, rfl, h2, h3⟩
      · refine .inl ⟨?_, by simp [h, h2]⟩
        unfold index
        rw [hp, h1]; rfl
      · refine .inr ⟨b :: p, r, rfl, by simp [h, h2], ?_⟩
        unfold index
        rw [hp, h3]
        have : ((p.length : Int) == -1) = false := by rw [beq_eq_false_iff_ne]; omega
        simp [this]
theorem splitB_L (c : UInt8) : ∀ (k : Nat) (s : ByteArray), countB s ⟨#[c]⟩ = k → (splitB ⟨#[c]⟩ 0 k s).map (·.data.toList) = splitL c s.data.toList
  | k, s, hk => by
    have hb : indexB s ⟨#[c]⟩ = index s.data.toList [c] := rfl
    rcases index_byte c s.data.toList with ⟨h1, h2⟩ | ⟨p, r, e, h2, h3⟩
    · rw [splitB_miss _ _ _ _ (hb.trans h1), splitL_miss h2]; rfl
    · have hi : indexB s ⟨#[c]⟩ = (p.length : Int) := hb.trans h3
      have hc := countB_hit s ⟨#[c]⟩ p.length (show 1 ≤ 1 from Nat.le_refl 1) hi
      cases k with
      | zero => omega
      | succ k =>
        rw [splitB_hit _ _ _ _ _ hi, List.map_cons]
        have hs1 : (⟨#[c]⟩ : ByteArray).size = 1 := rfl
        rw [hs1] at hc ⊢
        rw [splitB_L c k _ (by omega), extract_to_end, Nat.add_zero, extract_from_zero, e, splitL_hit h2]
        congr 1
        · simp
        · congr 1
          simp [List.drop_append]
end Go.Proofs.YtjfdmdmlgdgchaaDoor
end
section
namespace Go.Proofs.YtjfdmdmlgdgchaaDoor
open Go.RowKit
set_option linter.unusedVariables false
set_option linter.unusedSimpArgs false
set_option maxHeartbeats 1000000
/-! An item's words, read. -/
def op (b : Bool) (M : List (List UInt8)) : List (List UInt8) := if b then M else []
theorem optL_op (b : Bool) (M L : List (List UInt8)) : optL b M L = L ++ op b M := by cases b <;> simp [optL, op]
theorem wds_eq (w0 h0 s : Int) (fx fy ex : Bool) (an px py : Int) : wds w0 h0 s fx fy ex an px py = sideB s :: Lib.itoa w0 :: Lib.itoa h0 :: (op fx [FX] ++ (op fy [FY] ++ (op ex [EX] ++ (op (an != 4) [AN, Lib.itoa an] ++ (op (px != 0) [PXW, Lib.itoa px] ++ (op (py != 0) [PYW, Lib.itoa py] ++ [])))))) := by
  unfold wds wd5 wd4 wd3 wd2 wd1 wd0
  simp only [optL_op, List.append_assoc, List.append_nil, List.cons_append, List.nil_append]
theorem hd_op {b : Bool} {x m : List UInt8} {M R : List (List UInt8)} (h1 : m ≠ x) (h2 : R.head? ≠ some x) : (op b (m :: M) ++ R).head? ≠ some x := by
  cases b
  · exact h2
  · simp [op, h1]
theorem tk_op {m : List UInt8} (b : Bool) {R : List (List UInt8)} (h : R.head? ≠ some m) : tk m (op b [m] ++ R) = b ∧ rst b (op b [m] ++ R) = R := by
  cases b
  · refine ⟨?_, rfl⟩
    show (R.head? == some m) = false
    simpa using h
  · simp [op, tk, rst]
theorem nb_op {m x : List UInt8} (b : Bool) (o : Int) {R : List (List UInt8)} (h : R.head? ≠ some m) : nbV m o (op b [m, x] ++ R) = (if b then numV 400 x else o) ∧ nbR m (op b [m, x] ++ R) = R := by
  cases b
  · have : tk m R = false := by simpa [tk] using h
    simp [op, nbV, nbR, this]
  · simp [op, tk, nbV, nbR]
theorem pkP_of (a b c : List UInt8) {L3 L4 L5 L6 L7 L8 L9 : List (List UInt8)} {fx fy ex : Bool} {v4 v5 v6 : Int} (h3 : tk FX L3 = fx ∧ rst fx L3 = L4) (h4 : tk FY L4 = fy ∧ rst fy L4 = L5) (h5 : tk EX L5 = ex ∧ rst ex L5 = L6) (h6 : nbV AN 4 L6 = v4 ∧ nbR AN L6 = L7) (h7 : nbV PXW 0 L7 = v5 ∧ nbR PXW L7 = L8) (h8 : nbV PYW 0 L8 = v6 ∧ nbR PYW L8 = L9) : pkP (a :: b :: c :: L3) = ⟨numV 400 b, numV 400 c, sdI a, fx, fy, ex, v4, v5, v6⟩ := by
  obtain ⟨rfl, rfl⟩ := h3
  obtain ⟨rfl, rfl⟩ := h4
  obtain ⟨rfl, rfl⟩ := h5
  obtain ⟨rfl, rfl⟩ := h6
  obtain ⟨rfl, rfl⟩ := h7
  obtain ⟨rfl, rfl⟩ := h8
  rfl
theorem itoa_nat {n : Int} (h : 0 ≤ n) : Lib.itoa n = Lib.decDigits n.toNat := by
  obtain ⟨k, rfl⟩ := Int.eq_ofNat_of_zero_le h
  rw [Lib.itoa_nonneg]; rfl
theorem numV_itoa' {most : Nat} {n : Int} (h : 0 ≤ n) (h1 : n ≤ most) : numV most (Lib.itoa n) = n := by
  rw [itoa_nat h, numV_yes (by omega)]; omega
theorem sdI0 : sdI (sideB 0) = 0 := by kernel_rfl
theorem sdI1 : sdI (sideB 1) = 1 := by kernel_rfl
theorem sdI2 : sdI (sideB 2) = 2 := by kernel_rfl
theorem sdI3 : sdI (sideB 3) = 3 := by kernel_rfl
theorem sdI_side {s : Int} (h0 : 0 ≤ s) (h3 : s ≤ 3) : sdI (sideB s) = s := by
  have : s = 0 ∨ s = 1 ∨ s = 2 ∨ s = 3 := by omega
  rcases this with rfl | rfl | rfl | rfl
  · exact sdI0
  · exact sdI1
  · exact sdI2
  · exact sdI3
theorem ite_num {b : Bool} {most : Nat} {n d : Int} (h : 0 ≤ n) (h1 : n ≤ most) (hb : b = (n != d)) : (if b then numV most (Lib.itoa n) else d) = n := by
  rw [numV_itoa' h h1]
  by_cases e : n = d
  · subst e; simp
  · have : (n != d) = true := by simpa using e
    rw [hb, this]; rfl
theorem hd_nil {x : List UInt8} : ([] : List (List UInt8)).head? ≠ some x := by simp
theorem pkP_wds {w0 h0 s : Int} {fx fy ex : Bool} {an px py : Int} (hv : vpB w0 h0 s an px py = true) : pkP (wds w0 h0 s fx fy ex an px py) = ⟨w0, h0, s, fx, fy, ex, an, px, py⟩ := by
  obtain ⟨⟨a1, a2⟩, ⟨a3, a4⟩, ⟨a5, a6⟩, ⟨a7, a8⟩, ⟨a9, a10⟩, ⟨a11, a12⟩⟩ := vpB_iff.1 hv
  rw [wds_eq, pkP_of _ _ _
    (tk_op fx (hd_op (by decide) (hd_op (by decide) (hd_op (by decide) (hd_op (by decide) (hd_op (by decide) hd_nil))))))
    (tk_op fy (hd_op (by decide) (hd_op (by decide) (hd_op (by decide) (hd_op (by decide) hd_nil)))))
    (tk_op ex (hd_op (by decide) (hd_op (by decide) (hd_op (by decide) hd_nil))))
    (nb_op _ 4 (hd_op (by decide) (hd_op (by decide) hd_nil)))
    (nb_op _ 0 (hd_op (by decide) hd_nil))
    (nb_op _ 0 hd_nil)]
  rw [numV_itoa' (by omega) (by omega), numV_itoa' (by omega) (by omega), sdI_side (by omega) (by omega), ite_num (by omega) (by omega) rfl, ite_num (by omega) (by omega) rfl, ite_num (by omega) (by omega) rfl]
theorem no32_itoa {n : Int} (h : 0 ≤ n) : (32 : UInt8) ∉ Lib.itoa n := fun hm => by
  rw [itoa_nat h] at hm
  have := (dec_ge _ _ hm).1
  simp at this
theorem mem_op {b : Bool} {x : List UInt8} {M R : List (List UInt8)} (h : x ∈ op b M ++ R) : x ∈ M ∨ x ∈ R := by
  cases b
  · exact .inr h
  · simpa [op] using h
theorem no32_wds {w0 h0 s : Int} {fx fy ex : Bool} {an px py : Int} (hv : vpB w0 h0 s an px py = true) : ∀ x ∈ wds w0 h0 s fx fy ex an px py, (32 : UInt8) ∉ x := by
  obtain ⟨⟨a1, a2⟩, ⟨a3, a4⟩, ⟨a5, a6⟩, ⟨a7, a8⟩, ⟨a9, a10⟩, ⟨a11, a12⟩⟩ := vpB_iff.1 hv
  intro x hx
  rw [wds_eq] at hx
  have hs : (32 : UInt8) ∉ sideB s := by
    have : s = 0 ∨ s = 1 ∨ s = 2 ∨ s = 3 := by omega
    rcases this with rfl | rfl | rfl | rfl <;> decide
  have i1 := no32_itoa (n := w0) (by omega)
  have i2 := no32_itoa (n := h0) (by omega)
  have i3 := no32_itoa (n := an) (by omega)
  have i4 := no32_itoa (n := px) (by omega)
  have i5 := no32_itoa (n := py) (by omega)
  rcases List.mem_cons.1 hx with rfl | hx
  · exact hs
  rcases List.mem_cons.1 hx with rfl | hx
  · exact i1
  rcases List.mem_cons.1 hx with rfl | hx
  · exact i2
  rcases mem_op hx with hx | hx
  · rw [List.mem_singleton.1 hx]; decide
  rcases mem_op hx with hx | hx
  · rw [List.mem_singleton.1 hx]; decide
  rcases mem_op hx with hx | hx
  · rw [List.mem_singleton.1 hx]; decide
  rcases mem_op hx with hx | hx
  · rcases List.mem_cons.1 hx with rfl | hx
    · decide
    · rw [List.mem_singleton.1 hx]; exact i3
  rcases mem_op hx with hx | hx
  · rcases List.mem_cons.1 hx with rfl | hx
    · decide
    · rw [List.mem_singleton.1 hx]; exact i4
  rcases mem_op hx with hx | hx
  · rcases List.mem_cons.1 hx with rfl | hx
    · decide
    · rw [List.mem_singleton.1 hx]; exact i5
  · cases hx
theorem wds_ne {w0 h0 s : Int} {fx fy ex : Bool} {an px py : Int} : wds w0 h0 s fx fy ex an px py ≠ [] := by rw [wds_eq]; simp
theorem split_pk {w0 h0 s : Int} {fx fy ex : Bool} {an px py : Int} (hv : vpB w0 h0 s an px py = true) : splitL 32 (pkT w0 h0 s fx fy ex an px py) = wds w0 h0 s fx fy ex an px py :=
  splitL_join wds_ne (no32_wds hv)
def PKV.ok (p : PKV) : Bool := vpB p.w0 p.h0 p.s p.an p.px p.py
def PKV.text (p : PKV) : List UInt8 := pkT p.w0 p.h0 p.s p.fx p.fy p.ex p.an p.px p.py
def PKV.txt (p : PKV) : List UInt8 := if p.ok then p.text else []
def PKV.words (p : PKV) : List (List UInt8) := wds p.w0 p.h0 p.s p.fx p.fy p.ex p.an p.px p.py
/-- the item whose text this is -/
def prs (l : List UInt8) : Option PKV := if l ≠ [] ∧ (pkP (splitL 32 l)).txt = l then some (pkP (splitL 32 l)) else none
theorem prs_split {p : PKV} (h : p.ok = true) : splitL 32 p.text = p.words := split_pk h
theorem prs_iff {l : List UInt8} {p : PKV} : prs l = some p ↔ p.ok = true ∧ p.text = l := by
  unfold prs
  constructor
  · intro h
    split at h
    · rename_i hc
      obtain ⟨h1, h2⟩ := hc
      cases h
      unfold PKV.txt at h2
      split at h2
      · rename_i hk
        exact ⟨hk, h2⟩
      · exact absurd h2.symm h1
    · cases h
  · rintro ⟨hk, rfl⟩
    have e : pkP (splitL 32 p.text) = p := by rw [prs_split hk]; exact pkP_wds hk
    have hne : p.text ≠ [] := fun h => by
      have h1 := prs_split hk
      rw [h] at h1
      have : p.words = _ := wds_eq _ _ _ _ _ _ _ _ _
      rw [this] at h1
      have h2 := congrArg List.length h1
      simp [splitL] at h2
    rw [e, if_pos ⟨hne, by unfold PKV.txt; rw [if_pos hk]⟩]
theorem splitL_len (c : UInt8) : ∀ l : List UInt8, (splitL c l).length ≤ l.length + 1
  | [] => by simp [splitL]
  | b :: l => by
    have := splitL_len c l
    unfold splitL
    split
    · simp; omega
    · split
      · simp
      · rename_i x r e
        rw [e] at this
        simp at this ⊢; omega
theorem splitL_mem (c : UInt8) : ∀ (l x : List UInt8), x ∈ splitL c l → x.length ≤ l.length
  | [], x, h => by simp [splitL] at h; simp [h]
  | b :: l, x, h => by
    have ih := splitL_mem c l
    unfold splitL at h
    split at h
    · rcases List.mem_cons.1 h with rfl | h
      · simp
      · have := ih x h; simp; omega
    · split at h
      · simp at h; simp [h]
      · rename_i y r e
        rcases List.mem_cons.1 h with rfl | h
        · have := ih y (by rw [e]; simp); simp; omega
        · have := ih x (by rw [e]; simp [h]); simp; omega
end Go.Proofs.YtjfdmdmlgdgchaaDoor
end
section
namespace Go.Proofs.YtjfdmdmlgdgchaaDoor
open Go.RowKit
set_option linter.unusedVariables false
set_option linter.unusedSimpArgs false
set_option maxHeartbeats 2000000
attribute [local go_sem] growUpon_value growUpon_skip growUpon_enter
attribute [local go_sem] givesUpon_value givesUpon_skip givesUpon_enter
/-! spec.splitAt. -/
theorem newT (w : World) (cs : Array Value) (T : TypeId) (x : List UInt8) (h : cs = #[tx x]) : ∀ (j : Nat) (u : Value), [tx x][j]? = some u → (w.alloc (.cells cs T)).cell? ((⟨w.heap.size, 0, none⟩ : Addr).add j) = some u := fun j u hu => by
  subst h
  rw [addT]
  cases j with
  | zero => simp at hu; subst hu; exact (cellS (newS w _) 0).trans rfl
  | succ j => simp at hu
theorem ext_tx (s : ByteArray) (a b : Nat) : Value.string (s.extract a b) = tx ((s.data.toList.drop a).take (b - a)) := by
  unfold tx
  congr 1
  apply ByteArray.ext
  apply Array.ext'
  rw [ByteArray.data_extract, Array.toList_extract]
theorem drop_at (s : ByteArray) (a p : Nat) (h : a ≤ p) (hp : p < s.size) : s.data.toList.drop a = (s.data.toList.drop a).take (p - a) ++ s[p]'hp :: s.data.toList.drop (p + 1) := by
  have hl : p < s.data.toList.length := by simpa using hp
  have e : s[p]'hp = s.data.toList[p] := by simp [ByteArray.getElem_eq_getElem_data]
  rw [e]
  conv => lhs; rw [← List.take_append_drop (p - a) (s.data.toList.drop a)]
  rw [List.drop_drop, show a + (p - a) = p by omega, List.drop_eq_getElem_cons hl]
theorem take_at (s : ByteArray) (a p : Nat) (h : a ≤ p) (hp : p < s.size) : (s.data.toList.drop a).take (p + 1 - a) = (s.data.toList.drop a).take (p - a) ++ [s[p]'hp] := by
  have hl : p < s.data.toList.length := by simpa using hp
  have e : s[p]'hp = s.data.toList[p] := by simp [ByteArray.getElem_eq_getElem_data]
  have h1 : p - a < (s.data.toList.drop a).length := by rw [List.length_drop]; omega
  rw [show p + 1 - a = (p - a) + 1 by omega, List.take_succ_eq_append_getElem h1, e]
  simp [show a + (p - a) = p by omega]
theorem grow_own {base : Nat} {L : List (List UInt8)} {x : List UInt8} {n : Nat} {w w5 : World} {v5 : Value} (hb : base ≤ w.heap.size) (h : w5.ownsRow base 9 1 v5 (L.length + 1) (tvals L ++ [tx x])) (hs : w.heap.size ≤ w5.heap.size) : OWN base (L ++ [x]) w5 v5 :=
  ⟨Nat.le_trans hb hs, by rw [show tvals L ++ [tx x] = tvals (L ++ [x]) from (tvals_app L [x])] at h; simpa using h⟩
set_option maxRecDepth 100000 in
theorem splitAt_v (s : ByteArray) (c : UInt8) (k : Int) (hk : (c.toNat : Int) = k) (hs : s.size ≤ 1048576) (w : World) : Calls Tryd.prog 43 #[.string s, .int .u8 k] w fun e w' => (∃ v, e = .returned v ∧ OWN w.heap.size (splitL c s.data.toList) w' v) ∧ Below w.heap.size w w' := by
  subst hk
  obtain ⟨ti, tz, ti1, ti2, ti3, ti4, ti5⟩ := str_info
  go_enter Tryd.func43, Tryd.ntmps43
  go_wp2_with fail
  have HO0 := Lib.hid (OWN.new w w.heap.size (Nat.le_refl _) [] (by simp))
  have HB0 := Lib.hid (balloc (o := .cells (tvals []).toArray 9) (Below.refl w.heap.size w))
  go_loopw [5, 6, 7] (fun v fr iv wr => ∃ (pos from' : Nat) (L : List (List UInt8)), iv = .int .i64 pos ∧ fr = .int .i64 from' ∧ pos ≤ s.size ∧ from' ≤ pos ∧ L.length ≤ pos ∧ splitL c s.data.toList = L ++ splitL c (s.data.toList.drop from') ∧ c ∉ (s.data.toList.drop from').take (pos - from') ∧ OWN w.heap.size L wr v ∧ Below w.heap.size w wr) (fun _ _ iv _ => s.size - (intOf iv).toNat)
  case atStart => exact ⟨0, 0, [], rfl, rfl, by omega, by omega, by simp, by simp, by simp, HO0.out, HB0.out⟩
  case round =>
    obtain ⟨pos, from', L, rfl, rfl, hpos, hfr, hL, hsp, hno, ho, hB⟩ := hrel
    have HSP := Lib.hid hsp
    have HNO := Lib.hid hno
    have HO := Lib.hid ho
    have HB := Lib.hid hB
    clear hsp hno hB HO0 HB0
    have ho1 := ho.1
    have hob := ho.2.lt
    clear ho
    by_cases hp : pos < s.size
    · have hd : decide ((pos : Int) < (s.size : Int)) = true := decide_eq_true (by omega)
      obtain ⟨b, hbb⟩ : ∃ b, s[pos]'hp = b := ⟨_, rfl⟩
      have wP : IntKind.i64.wrap ((pos : Int) + 1) = ((pos + 1 : Nat) : Int) := (IntWalk.i64_in _ (by omega)).trans (by omega)
      by_cases hc : b = c
      · subst hc
        have hq : ((b.toNat : Int) == (b.toNat : Int)) = true := by simp
        obtain ⟨x, hx⟩ : ∃ x, (s.data.toList.drop from').take (pos - from') = x := ⟨_, rfl⟩
        have HE : Hid (Value.string (s.extract from' pos) = tx x) := Lib.hid (by rw [ext_tx, hx])
        have HS2 : Hid (splitL b s.data.toList = (L ++ [x]) ++ splitL b (s.data.toList.drop (pos + 1))) := Lib.hid (by
          rw [HSP.out, List.append_assoc, List.singleton_append, ← splitL_hit (c := b) (r := s.data.toList.drop (pos + 1)) (show b ∉ x from hx ▸ HNO.out)]
          congr 2
          rw [← hx, ← hbb]
          exact drop_at s from' pos hfr hp)
        clear hx HNO HSP
        go_wp2_with (at_builtin; refine wpList_append_own _ rfl _ _ 39 rfl w.heap.size 9 ti tz 1 16 Tryd.underlying39 ti1 ti2 ti3 ti4 ti5 (by decide) _ _ _ rfl (HO.out.2.alloc _) ⟨wr.heap.size, 0, none⟩ 1 1 [tx x] rfl rfl (newT _ _ _ _ (by rw [HE.out])) (by simp [Value.oneCell', tx]) (by simp only [maxLen]; omega) (by omega) (by simp; omega) ?_)
        intro v5 w5 how5 hgr5 _
        have HO5 : Hid (OWN w.heap.size (L ++ [x]) w5 v5) := Lib.hid (grow_own (n := 0) (by simp; omega) how5 hgr5.size)
        have HB5 : Hid (Below w.heap.size w w5) := Lib.hid ((balloc (o := .cells #[Value.string (s.extract from' pos)] 9) HB.out).trans ⟨hgr5.os, hgr5.tape, hgr5.output, hgr5.size, fun k hk => hgr5.block k (Nat.lt_of_lt_of_le hk (by have := HB.out.size; simp; omega)) (fun e => by have := hob k e.symm; have := HB.out.size; omega)⟩)
        clear how5 hgr5 HO HB hob ho1
        go_wp2
        go_roundw
        · exact ⟨pos + 1, pos + 1, L ++ [x], rfl, rfl, by omega, Nat.le_refl _, by simp; omega, HS2.out, by simp, HO5.out, HB5.out⟩
        · simp [intOf]; omega
      · have hq : ((b.toNat : Int) == (c.toNat : Int)) = false := by
          rw [beq_eq_false_iff_ne]; intro e; exact hc (UInt8.toNat_inj.1 (by omega))
        have hq2 : ¬ (b.toNat : Int) = (c.toNat : Int) := by intro e; exact hc (UInt8.toNat_inj.1 (by omega))
        have HN2 : Hid (c ∉ (s.data.toList.drop from').take (pos + 1 - from')) := Lib.hid (by
          rw [take_at s from' pos hfr hp, hbb]
          simp only [List.mem_append, List.mem_singleton, not_or]
          exact ⟨HNO.out, fun e => hc e.symm⟩)
        clear HNO
        go_wp2
        go_roundw
        · exact ⟨pos + 1, from', L, rfl, rfl, by omega, by omega, by omega, HSP.out, HN2.out, HO.out, HB.out⟩
        · simp [intOf]; omega
    · have hd : decide ((pos : Int) < (s.size : Int)) = false := decide_eq_false (by omega)
      obtain ⟨x, hx⟩ : ∃ x, s.data.toList.drop from' = x := ⟨_, rfl⟩
      have hdl : (s.data.toList.drop from').take (pos - from') = s.data.toList.drop from' := List.take_of_length_le (by simp; omega)
      have HE : Hid (Value.string (s.extract from' s.size) = tx x) := Lib.hid (by rw [ext_tx, ← hx, List.take_of_length_le (by simp)])
      have HS2 : Hid (splitL c s.data.toList = L ++ [x]) := Lib.hid (by
        rw [HSP.out, splitL_miss (by have := HNO.out; rwa [hdl] at this), hx])
      clear hx HNO HSP hdl
      go_wp2_with (at_builtin; refine wpList_append_own _ rfl _ _ 39 rfl w.heap.size 9 ti tz 1 16 Tryd.underlying39 ti1 ti2 ti3 ti4 ti5 (by decide) _ _ _ rfl (HO.out.2.alloc _) ⟨wr.heap.size, 0, none⟩ 1 1 [tx x] rfl rfl (newT _ _ _ _ (by rw [HE.out])) (by simp [Value.oneCell', tx]) (by simp only [maxLen]; omega) (by omega) (by simp; omega) ?_)
      intro v5 w5 how5 hgr5 _
      have HO5 : Hid (OWN w.heap.size (L ++ [x]) w5 v5) := Lib.hid (grow_own (n := 0) (by simp; omega) how5 hgr5.size)
      have HB5 : Hid (Below w.heap.size w w5) := Lib.hid ((balloc (o := .cells #[Value.string (s.extract from' s.size)] 9) HB.out).trans ⟨hgr5.os, hgr5.tape, hgr5.output, hgr5.size, fun k hk => hgr5.block k (Nat.lt_of_lt_of_le hk (by have := HB.out.size; simp; omega)) (fun e => by have := hob k e.symm; have := HB.out.size; omega)⟩)
      clear how5 hgr5 HO HB hob ho1
      go_wp2
      go_ret
      exact ⟨⟨_, rfl, by rw [HS2.out]; exact HO5.out⟩, HB5.out⟩
end Go.Proofs.YtjfdmdmlgdgchaaDoor
end
