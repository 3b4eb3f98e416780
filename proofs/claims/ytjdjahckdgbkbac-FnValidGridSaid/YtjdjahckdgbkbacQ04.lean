import Derived.Test.YtjdjahckdgbkbacQ03
import Derived.LoopTactic
import Derived.OwnWalk
import Derived.Lib.SmallJoins
section
namespace Go.Proofs.Ytjdjahckdgbkbac
open Go.RowKit
set_option linter.unusedVariables false
set_option maxHeartbeats 1000000
/-- values written side by side -/
def wrAt (cs : Array Value) (o : Nat) : List Value → Array Value
  | [] => cs
  | v :: r => wrAt (cs.setIfInBounds o v) (o + 1) r
theorem wrAt_size : ∀ (vs : List Value) (cs : Array Value) (o : Nat), (wrAt cs o vs).size = cs.size
  | [], cs, o => rfl
  | v :: r, cs, o => by unfold wrAt; rw [wrAt_size r]; simp
theorem wrAt_lo : ∀ (vs : List Value) (cs : Array Value) (o i : Nat), i < o → (wrAt cs o vs)[i]? = cs[i]?
  | [], cs, o, i, _ => rfl
  | v :: r, cs, o, i, h => by unfold wrAt; rw [wrAt_lo r _ _ _ (by omega), Array.getElem?_setIfInBounds_ne (by omega)]
theorem wrAt_hi : ∀ (vs : List Value) (cs : Array Value) (o i : Nat), o + vs.length ≤ i → (wrAt cs o vs)[i]? = cs[i]?
  | [], cs, o, i, _ => rfl
  | v :: r, cs, o, i, h => by
    simp only [List.length_cons] at h
    unfold wrAt; rw [wrAt_hi r _ _ _ (by omega), Array.getElem?_setIfInBounds_ne (by omega)]
theorem wrAt_in : ∀ (vs : List Value) (cs : Array Value) (o j : Nat), o + vs.length ≤ cs.size → j < vs.length → (wrAt cs o vs)[o + j]? = vs[j]?
  | [], cs, o, j, _, h => by simp at h
  | v :: r, cs, o, 0, h, _ => by
    simp only [List.length_cons] at h
    unfold wrAt; rw [wrAt_lo r _ _ _ (by omega), Nat.add_zero, Array.getElem?_setIfInBounds_self_of_lt (by omega)]
    rfl
  | v :: r, cs, o, j + 1, h, hj => by
    simp only [List.length_cons] at h hj
    unfold wrAt
    rw [show o + (j + 1) = o + 1 + j from by omega, wrAt_in r _ _ _ (by simp; omega) (by omega)]
    simp
theorem putS {w : World} {b i : Nat} {cs : Array Value} {T : TypeId} {fz : Nat × Nat} (h : w.heap[b]? = some (.cells cs T fz)) (u : Value) : (w.setCell ⟨b, i, none⟩ u).heap[b]? = some (.cells (cs.setIfInBounds i u) T fz) := by
  simp [World.setCell, Array.getElem?_modify, h]
theorem cellS {w : World} {b : Nat} {cs : Array Value} {T : TypeId} {fz : Nat × Nat} (h : w.heap[b]? = some (.cells cs T fz)) (i : Nat) : w.cell? ⟨b, i, none⟩ = cs[i]? := by simp [World.cell?, h]
theorem frozenS {w : World} {b : Nat} {cs : Array Value} {T : TypeId} (h : w.heap[b]? = some (.cells cs T (0, 0))) (i : Nat) : w.frozen? ⟨b, i, none⟩ = false := by simp [World.frozen?, h]
theorem thereS {w : World} {b : Nat} {cs : Array Value} {T : TypeId} {fz : Nat × Nat} (h : w.heap[b]? = some (.cells cs T fz)) {i : Nat} (hi : i < cs.size) : ∃ v, w.cell? ⟨b, i, none⟩ = some v := ⟨cs[i], (cellS h i).trans (by simp [hi])⟩
theorem newS (w : World) (o : Obj) : (w.alloc o).heap[w.heap.size]? = some o := by
  show (w.heap.push _)[w.heap.size]? = _
  simp
theorem ltS {w : World} {g : Nat} {o : Obj} (h : w.heap[g]? = some o) : g < w.heap.size := (Array.getElem?_eq_some_iff.1 h).1
theorem gsetS {w w' : World} {g : Nat} (h : w.grownBy w' (some g)) (o : Nat) (v : Value) : w.grownBy (w'.setCell ⟨g, o, none⟩ v) (some g) :=
  ⟨h.os, h.tape, h.output, by simpa [World.setCell] using h.size, fun k hk hne => (Below.heap_setCell w' ⟨g, o, none⟩ v k (by rintro rfl; exact hne rfl)).trans (h.block k hk hne)⟩
theorem greflS (w : World) (g : Nat) : w.grownBy w (some g) := ⟨rfl, rfl, rfl, Nat.le_refl _, fun _ _ _ => rfl⟩
/-- the values lie in the cells from o on -/
def InS (cs : Array Value) (o : Nat) (l : List Value) : Prop := ∀ j u, l[j]? = some u → cs[o + j]? = some u
theorem InS.write {cs : Array Value} {o : Nat} {l : List Value} (h : o + l.length ≤ cs.size) : InS (wrAt cs o l) o l := fun j u hu => by
  have hj := (List.getElem?_eq_some_iff.1 hu).1
  rw [wrAt_in _ _ _ _ h hj, hu]
theorem InS.keepS {cs : Array Value} {o o' : Nat} {l m : List Value} (h : InS cs o' m) (hd : o' + m.length ≤ o ∨ o + l.length ≤ o') : InS (wrAt cs o l) o' m := fun j u hu => by
  have hj := (List.getElem?_eq_some_iff.1 hu).1
  rcases hd with hd | hd
  · rw [wrAt_lo _ _ _ _ (by omega)]; exact h j u hu
  · rw [wrAt_hi _ _ _ _ (by omega)]; exact h j u hu
end Go.Proofs.Ytjdjahckdgbkbac
end
section
namespace Go.Proofs.Ytjdjahckdgbkbac
open Go.RowKit
set_option linter.unusedVariables false
set_option maxHeartbeats 1000000
attribute [local go_sem] growUpon_value growUpon_skip growUpon_enter
structure Ln where
  wt : Int
  mi : Int
def valsLn (p : Ln) : List Value := [.int .i64 p.wt, .int .i64 p.mi]
/-- a slice that reads as this list -/
structure LnV (w : World) (A : Option Addr) (L : List Ln) : Prop where
  cells : 0 < L.length → ∃ b off, A = some ⟨b, off, none⟩ ∧ b < w.heap.size ∧ ∀ i p, L[i]? = some p → w.cell? ⟨b, off + i * 2, none⟩ = some (.int .i64 p.wt) ∧ w.cell? ⟨b, off + i * 2 + 1, none⟩ = some (.int .i64 p.mi)
theorem LnV.keep {w w' : World} {A : Option Addr} {L : List Ln} (h : LnV w A L) (hb : Below w.heap.size w w') : LnV w' A L :=
  ⟨fun h0 => let ⟨b, off, e, hl, hp⟩ := h.cells h0; ⟨b, off, e, Nat.lt_of_lt_of_le hl hb.size, fun i p hi => by
    obtain ⟨c0, c1⟩ := hp i p hi
    exact ⟨(hb.cell (p := ⟨b, off + i * 2, none⟩) hl).trans c0, (hb.cell (p := ⟨b, off + i * 2 + 1, none⟩) hl).trans c1⟩⟩⟩
theorem LnV.nil (w : World) (A : Option Addr) : LnV w A [] := ⟨fun h => absurd h (by simp)⟩
/-- what a new block holds -/
def LnB (w : World) (g : Nat) (L : List Ln) : Prop := ∃ cs : Array Value, w.heap[g]? = some (.cells cs 87 (0, 0)) ∧ cs.size = L.length * 2 ∧ ∀ i p, L[i]? = some p → InS cs (i * 2) (valsLn p)
theorem LnB.v {w : World} {g : Nat} {L : List Ln} (h : LnB w g L) : LnV w (some ⟨g, 0, none⟩) L := by
  obtain ⟨cs, hh, hs, hc⟩ := h
  refine ⟨fun _ => ⟨g, 0, rfl, ltS hh, fun i p hp => ?_⟩⟩
  have hi := hc i p hp
  simp only [Nat.zero_add]
  exact ⟨(cellS hh _).trans (hi 0 _ rfl), (cellS hh _).trans (hi 1 _ rfl)⟩
theorem LnB.lt {w : World} {g : Nat} {L : List Ln} (h : LnB w g L) : g < w.heap.size := by obtain ⟨cs, hh, _⟩ := h; exact ltS hh
theorem LnB.keep {w w' : World} {g : Nat} {L : List Ln} (h : LnB w g L) (hb : Below w.heap.size w w') : LnB w' g L := by
  obtain ⟨cs, hh, hs, hc⟩ := h
  exact ⟨cs, (hb.block g (ltS hh)).trans hh, hs, hc⟩
theorem LnB.but {w w' : World} {g h : Nat} {L : List Ln} (hi : LnB w h L) (hg : w.grownBy w' (some g)) (hne : h ≠ g) : LnB w' h L := by
  obtain ⟨cs, hh, hs, hc⟩ := hi
  exact ⟨cs, (hg.block h (ltS hh) (fun e => hne (Option.some.inj e))).trans hh, hs, hc⟩
theorem madeLn : ∃ f : Nat → Array Value, (∀ n, (f n).size = n * 2) ∧ ∀ (n : Nat) (w : World), n ≤ 1048576 → (Instr.makeSlice 42 (.int .i64 (n : Int)) (.int .i64 (n : Int))).run Try.prog w = .ok (.slice (some ⟨w.heap.size, 0, none⟩) n n) (w.alloc (.cells (f n) 87)) := by
  have hinfo : (Try.prog.info? 87).map (fun i => (i.zero, i.size, i.bytes)) = some (some (.agg #[.int .i64 0, .int .i64 0]), 2, 16) := by kernel_rfl
  obtain ⟨i, hi, h1, h2, h3⟩ := info_parts hinfo
  refine ⟨fun n => madeCells (Value.agg #[.int .i64 0, .int .i64 0]).cells (n * 2), fun n => size_madeCells _ _, fun n w hn => ?_⟩
  have hr := run_make (P := Try.prog) w 42 87 i _ Try.underlying42 hi h1 .i64 .i64 n n (by omega) (Int.le_refl _) (by rw [h3]; omega) (by omega)
  rw [h2] at hr
  simpa using hr
set_option maxRecDepth 100000 in
theorem toLn_v (p : Ln) (w : World) : Calls Try.prog 70 #[.agg #[.int .i64 p.wt, .int .i64 p.mi]] w fun e w' => e = .returned (.agg #[.int .i64 p.wt, .int .i64 p.mi]) ∧ Below w.heap.size w w' := by
  obtain ⟨x0, x1⟩ := p
  go_enter Try.func70, Try.ntmps70
  go_wp2
  exact bodyPost_ret (v := .agg #[.int .i64 x0, .int .i64 x1]) (by simp only [results, Try.results70]; go_simp) rfl ⟨rfl, (by repeat (first | with_reducible exact Below.refl _ _ | with_reducible assumption | with_reducible refine balloc ?_ | (with_reducible refine bset ?_ ?_; rotate_left; ((try dsimp only); omega)) | refine bkeep2 ?_ (by assumption) | with_reducible refine Below.drew ?_))⟩
theorem putLn {w : World} {b : Nat} {cs : Array Value} {T : TypeId} {fz : Nat × Nat} (h : w.heap[b]? = some (.cells cs T fz)) (o : Nat) (p : Ln) :
    (((w.setCell ⟨b, o, none⟩ (.int .i64 p.wt)).setCell ⟨b, o + 1, none⟩ (.int .i64 p.mi))).heap[b]? = some (.cells (wrAt cs o (valsLn p)) T fz) :=
  putS (putS h _) _
theorem putLnb {B b : Nat} {a w : World} (h : Below B a w) (hb : B ≤ b) (o : Nat) (p : Ln) : Below B a (((w.setCell ⟨b, o, none⟩ (.int .i64 p.wt)).setCell ⟨b, o + 1, none⟩ (.int .i64 p.mi))) :=
  ((h).setCell hb _).setCell hb _
set_option maxRecDepth 100000 in
theorem toLnS_any (A : Option Addr) (c : Nat) (L : List Ln) (w : World) (h : LnV w A L) (hL : L.length ≤ 1048576) :
    Calls Try.prog 49 #[.slice A L.length c] w fun e w' => e = .returned (.slice (some ⟨w.heap.size, 0, none⟩) L.length L.length) ∧ LnB w' w.heap.size L ∧ Below w.heap.size w w' := by
  obtain ⟨f, hf, hmk0⟩ := madeLn
  have hmk : ∀ w : World, (Instr.makeSlice 42 (.int .i64 (L.length : Int)) (.int .i64 (L.length : Int))).run Try.prog w = .ok (.slice (some ⟨w.heap.size, 0, none⟩) L.length L.length) (w.alloc (.cells (f L.length) 87)) := fun w => hmk0 L.length w hL
  go_enter Try.func49, Try.ntmps49
  go_wp2_with fail
  have HWW : Hid (∃ cs : Array Value, (w.alloc (.cells (f L.length) 87)).heap[w.heap.size]? = some (.cells cs 87 (0, 0)) ∧ cs.size = L.length * 2 ∧ ∀ i p, i < 0 → L[i]? = some p → InS cs (i * 2) (valsLn p)) := Lib.hid ⟨_, newS _ _, hf _, fun i p hi => absurd hi (by omega)⟩
  clear hmk hmk0 hf
  go_loopw [4] (fun i wr => ∃ k : Nat, k ≤ L.length ∧ i = .int .i64 k ∧ (∃ cs : Array Value, wr.heap[w.heap.size]? = some (.cells cs 87 (0, 0)) ∧ cs.size = L.length * 2 ∧ ∀ i p, i < k → L[i]? = some p → InS cs (i * 2) (valsLn p)) ∧ Below w.heap.size w wr) (fun i _ => L.length - (intOf i).toNat)
  case atStart => exact ⟨0, by omega, rfl, HWW.out, balloc (Below.refl _ _)⟩
  case round =>
    obtain ⟨k, hk, rfl, ⟨cs, hh, hs, hc⟩, hB⟩ := hrel
    clear HWW
    by_cases hlt : k < L.length
    · have hd : decide ((k : Int) < (L.length : Int)) = true := by simpa using hlt
      obtain ⟨b, off, rfl, hb, hp⟩ := (h.keep hB).cells (by omega)
      have hget : L[k]? = some L[k] := List.getElem?_eq_getElem hlt
      obtain ⟨c0, c1⟩ := hp k _ hget
      generalize hx : L[k] = p at *
      have HG := Lib.hid hget
      have HX := Lib.hid hx
      have HH := Lib.hid hh
      have HS := Lib.hid hs
      have HC := Lib.hid hc
      have HBB := Lib.hid hB
      have HP := Lib.hid hp
      clear hget hx hh hs hc hB hp
      go_wp2_with fail
      refine (toLn_v p _).mono ?_
      rintro e w1 ⟨rfl, hb1⟩
      have hlg : w.heap.size < wr.heap.size := ltS HH.out
      replace HH := Lib.hid ((hb1.block _ hlg).trans HH.out)
      replace HBB := Lib.hid (HBB.out.trans (hb1.mono HBB.out.size))
      clear hb1 c0 c1 hlg
      have hsz : k * 2 + 2 ≤ cs.size := by rw [HS.out]; omega
      obtain ⟨y0, d0⟩ := thereS HH.out (i := k * 2) (by omega)
      obtain ⟨y1, d1⟩ := thereS HH.out (i := k * 2 + 1) (by omega)
      have f0 := frozenS HH.out (k * 2)
      have f1 := frozenS HH.out (k * 2 + 1)
      have E1 := Lib.hid (putLn HH.out (k * 2) p)
      have E2 := Lib.hid (putLnb HBB.out (Nat.le_refl _) (k * 2) p)
      go_wp2
      go_roundw
      case rel => exact ⟨k + 1, by omega, by go_num, ⟨_, E1.out, (wrAt_size _ _ _).trans HS.out, fun i q hi hq => by
        by_cases e : i = k
        · subst e
          obtain rfl : p = q := by have := HG.out; rw [this] at hq; exact Option.some.inj hq
          exact InS.write (by simp only [valsLn, List.length_cons, List.length_nil]; omega)
        · exact (HC.out i q (by omega) hq).keepS (.inl (by simp only [valsLn, List.length_cons, List.length_nil]; omega))⟩, E2.out⟩
      case measure => simp [intOf]; omega
    · have hd : decide ((k : Int) < (L.length : Int)) = false := by simp; omega
      obtain rfl : k = L.length := by omega
      have HR := Lib.hid (show LnB wr w.heap.size L from ⟨cs, hh, hs, fun i p hp => hc i p (List.getElem?_eq_some_iff.1 hp).1 hp⟩)
      have HBB := Lib.hid hB
      clear hh hs hc hB
      go_wp2
      go_ret
      exact ⟨rfl, HR.out, HBB.out⟩
set_option maxRecDepth 100000 in
theorem eqLn_same (p : Ln) (w : World) : Calls Try.prog 75 #[.agg #[.int .i64 p.wt, .int .i64 p.mi], .agg #[.int .i64 p.wt, .int .i64 p.mi]] w fun e w' => e = .returned (.bool true) ∧ Below w.heap.size w w' := by
  go_enter Try.func75, Try.ntmps75
  go_wp2
  go_ret
  exact ⟨rfl, balloc (balloc (Below.refl _ _))⟩
set_option maxRecDepth 100000 in
theorem eqLnS_same (A B : Option Addr) (c c' : Nat) (L : List Ln) (w : World) (h : LnV w A L) (h' : LnV w B L) (hL : L.length ≤ 1048576) :
    Calls Try.prog 55 #[.slice A L.length c, .slice B L.length c'] w fun e w' => e = .returned (.bool true) ∧ Below w.heap.size w w' := by
  go_enter Try.func55, Try.ntmps55
  go_wp2_with fail
  go_loopw [5] (fun i wr => ∃ k : Nat, k ≤ L.length ∧ i = .int .i64 k ∧ Below w.heap.size w wr) (fun i _ => L.length - (intOf i).toNat)
  case atStart => exact ⟨0, by omega, rfl, Below.refl _ _⟩
  case round =>
    obtain ⟨k, hk, rfl, hB⟩ := hrel
    by_cases hlt : k < L.length
    · have hd : decide ((k : Int) < (L.length : Int)) = true := by simpa using hlt
      obtain ⟨b, off, rfl, hb, hp⟩ := (h.keep hB).cells (by omega)
      obtain ⟨b', off', rfl, hb', hp'⟩ := (h'.keep hB).cells (by omega)
      obtain ⟨c0, c1⟩ := hp k _ (List.getElem?_eq_getElem hlt)
      obtain ⟨d0, d1⟩ := hp' k _ (List.getElem?_eq_getElem hlt)
      generalize hx : L[k] = p at *
      have HX := Lib.hid hx
      have HBB := Lib.hid hB
      clear hx hp hp' hB
      go_wp2_with fail
      refine wp_region_grow 10 0 (· < 10) (by kernel_rfl) (by kernel_rfl) rfl ?_
      iterate 10 (refine wpG_step (fun K hK => ?_); first | (refine grow_skip rfl ?_; go_simp; refine hK _ ?_; clear hK K) | (apply Exists.intro; refine ⟨.inl ⟨rfl, fun w' hw' => ?_⟩, ?_⟩; (focus ((obtain ⟨hc, hf⟩ := bcell hw'.out); (have hcS := bcellS hw'.out); go_simp <;> first | rfl | (go_at_call 75; exact eqLn_same p _))); (go_simp; refine hK _ ?_; clear hK K)))
      refine wpG_nil ?_
      refine wpK_tail (by kernel_rfl) (fun w1 hg1 => ?_)
      have hb1 := bdrewn hg1.out
      refine wpAny_end (by kernel_rfl) ?_
      refine NoPan.thn ?_
      clear hg1
      replace HBB := Lib.hid (HBB.out.trans (hb1.mono HBB.out.size))
      clear hb1 c0 c1 d0 d1
      go_wp2
      go_roundw
      case rel => exact ⟨k + 1, by omega, by go_num, HBB.out⟩
      case measure => simp [intOf]; omega
    · have hd : decide ((k : Int) < (L.length : Int)) = false := by simp; omega
      have HBB := Lib.hid hB
      clear hB
      go_wp2
      go_ret
      exact ⟨rfl, HBB.out⟩
theorem szLnS_yes (A : Option Addr) (c n : Nat) (z : Int) (w : World) (h : (n : Int) ≤ z) (hz : z ≤ 1048576) : Calls Try.prog 46 #[.slice A n c, .int .i64 z] w fun e w' => e = .returned (.int .i64 (z - n)) ∧ w' = w := by
  have h1 : decide (z - (n : Int) < 0) = false := by simp; omega
  go_enter Try.func46, Try.ntmps46
  go_wp2
  go_ret
  exact ⟨rfl, rfl⟩
theorem szLnS_no (A : Option Addr) (c n : Nat) (z : Int) (w : World) (h : ¬ (n : Int) ≤ z) (h0 : 0 ≤ z) (hz : z ≤ 1048576) (hn : n ≤ maxLen) : Calls Try.prog 46 #[.slice A n c, .int .i64 z] w fun e w' => e = .returned (.int .i64 (-1)) ∧ w' = w := by
  unfold maxLen at hn
  have h1 : decide (z - (n : Int) < 0) = true := by simp; omega
  go_enter Try.func46, Try.ntmps46
  go_wp2
  go_ret
  exact ⟨rfl, rfl⟩
end Go.Proofs.Ytjdjahckdgbkbac
end
section
namespace Go.Proofs.Ytjdjahckdgbkbac
open Go.RowKit
set_option linter.unusedVariables false
set_option maxHeartbeats 1000000
attribute [local go_sem] growUpon_value growUpon_skip growUpon_enter
structure Sp where
  sa : Int
  many : Int
  need : Int
def valsSp (p : Sp) : List Value := [.int .i64 p.sa, .int .i64 p.many, .int .i64 p.need]
/-- a slice that reads as this list -/
structure SpV (w : World) (A : Option Addr) (L : List Sp) : Prop where
  cells : 0 < L.length → ∃ b off, A = some ⟨b, off, none⟩ ∧ b < w.heap.size ∧ ∀ i p, L[i]? = some p → w.cell? ⟨b, off + i * 3, none⟩ = some (.int .i64 p.sa) ∧ w.cell? ⟨b, off + i * 3 + 1, none⟩ = some (.int .i64 p.many) ∧ w.cell? ⟨b, off + i * 3 + 2, none⟩ = some (.int .i64 p.need)
theorem SpV.keep {w w' : World} {A : Option Addr} {L : List Sp} (h : SpV w A L) (hb : Below w.heap.size w w') : SpV w' A L :=
  ⟨fun h0 => let ⟨b, off, e, hl, hp⟩ := h.cells h0; ⟨b, off, e, Nat.lt_of_lt_of_le hl hb.size, fun i p hi => by
    obtain ⟨c0, c1, c2⟩ := hp i p hi
    exact ⟨(hb.cell (p := ⟨b, off + i * 3, none⟩) hl).trans c0, (hb.cell (p := ⟨b, off + i * 3 + 1, none⟩) hl).trans c1, (hb.cell (p := ⟨b, off + i * 3 + 2, none⟩) hl).trans c2⟩⟩⟩
theorem SpV.nil (w : World) (A : Option Addr) : SpV w A [] := ⟨fun h => absurd h (by simp)⟩
/-- what a new block holds -/
def SpB (w : World) (g : Nat) (L : List Sp) : Prop := ∃ cs : Array Value, w.heap[g]? = some (.cells cs 102 (0, 0)) ∧ cs.size = L.length * 3 ∧ ∀ i p, L[i]? = some p → InS cs (i * 3) (valsSp p)
theorem SpB.v {w : World} {g : Nat} {L : List Sp} (h : SpB w g L) : SpV w (some ⟨g, 0, none⟩) L := by
  obtain ⟨cs, hh, hs, hc⟩ := h
  refine ⟨fun _ => ⟨g, 0, rfl, ltS hh, fun i p hp => ?_⟩⟩
  have hi := hc i p hp
  simp only [Nat.zero_add]
  exact ⟨(cellS hh _).trans (hi 0 _ rfl), (cellS hh _).trans (hi 1 _ rfl), (cellS hh _).trans (hi 2 _ rfl)⟩
theorem SpB.lt {w : World} {g : Nat} {L : List Sp} (h : SpB w g L) : g < w.heap.size := by obtain ⟨cs, hh, _⟩ := h; exact ltS hh
theorem SpB.keep {w w' : World} {g : Nat} {L : List Sp} (h : SpB w g L) (hb : Below w.heap.size w w') : SpB w' g L := by
  obtain ⟨cs, hh, hs, hc⟩ := h
  exact ⟨cs, (hb.block g (ltS hh)).trans hh, hs, hc⟩
theorem SpB.but {w w' : World} {g h : Nat} {L : List Sp} (hi : SpB w h L) (hg : w.grownBy w' (some g)) (hne : h ≠ g) : SpB w' h L := by
  obtain ⟨cs, hh, hs, hc⟩ := hi
  exact ⟨cs, (hg.block h (ltS hh) (fun e => hne (Option.some.inj e))).trans hh, hs, hc⟩
theorem madeSp : ∃ f : Nat → Array Value, (∀ n, (f n).size = n * 3) ∧ ∀ (n : Nat) (w : World), n ≤ 1048576 → (Instr.makeSlice 99 (.int .i64 (n : Int)) (.int .i64 (n : Int))).run Try.prog w = .ok (.slice (some ⟨w.heap.size, 0, none⟩) n n) (w.alloc (.cells (f n) 102)) := by
  have hinfo : (Try.prog.info? 102).map (fun i => (i.zero, i.size, i.bytes)) = some (some (.agg #[.int .i64 0, .int .i64 0, .int .i64 0]), 3, 24) := by kernel_rfl
  obtain ⟨i, hi, h1, h2, h3⟩ := info_parts hinfo
  refine ⟨fun n => madeCells (Value.agg #[.int .i64 0, .int .i64 0, .int .i64 0]).cells (n * 3), fun n => size_madeCells _ _, fun n w hn => ?_⟩
  have hr := run_make (P := Try.prog) w 99 102 i _ Try.underlying99 hi h1 .i64 .i64 n n (by omega) (Int.le_refl _) (by rw [h3]; omega) (by omega)
  rw [h2] at hr
  simpa using hr
theorem putSp {w : World} {b : Nat} {cs : Array Value} {T : TypeId} {fz : Nat × Nat} (h : w.heap[b]? = some (.cells cs T fz)) (o : Nat) (p : Sp) :
    ((((w.setCell ⟨b, o, none⟩ (.int .i64 p.sa)).setCell ⟨b, o + 1, none⟩ (.int .i64 p.many)).setCell ⟨b, o + 2, none⟩ (.int .i64 p.need))).heap[b]? = some (.cells (wrAt cs o (valsSp p)) T fz) :=
  putS (putS (putS h _) _) _
theorem putSpb {B b : Nat} {a w : World} (h : Below B a w) (hb : B ≤ b) (o : Nat) (p : Sp) : Below B a ((((w.setCell ⟨b, o, none⟩ (.int .i64 p.sa)).setCell ⟨b, o + 1, none⟩ (.int .i64 p.many)).setCell ⟨b, o + 2, none⟩ (.int .i64 p.need))) :=
  (((h).setCell hb _).setCell hb _).setCell hb _
end Go.Proofs.Ytjdjahckdgbkbac
end
section
namespace Go.Proofs.Ytjdjahckdgbkbac
open Go.RowKit
set_option linter.unusedVariables false
set_option maxHeartbeats 1000000
attribute [local go_sem] growUpon_value growUpon_skip growUpon_enter
theorem pick_any2 {B rb : Nat} {A : Option Addr} {l c m : Nat} (n : Int) (w : World) (h : Rd B rb A l c m w) (hm : m ≤ 1000000) :
    Calls Try.prog 39 #[.pointer (some ⟨rb, 0, none⟩), .int .i64 n] w fun e w' => (∃ v, e = .returned (.int .i64 v) ∧ (1 ≤ n → 0 ≤ v ∧ v < n) ∧ (n < 1 → v = 0)) ∧ Rd B rb A l c (m + 1) w' ∧ Chg [rb] w w' := by
  by_cases hn : 1 ≤ n
  · exact (pick_any n w h hm).mono fun e w' ⟨⟨v, he, h3⟩, h1, h2⟩ => ⟨⟨v, he, h3, fun h => by omega⟩, h1, h2⟩
  · exact (pick_lo n w h hm (by omega)).mono fun e w' ⟨he, h1, h2⟩ => ⟨⟨0, he, fun h => absurd h hn, fun _ => rfl⟩, h1, h2⟩
def lnvals : List Ln → List Value
  | [] => []
  | r :: t => valsLn r ++ lnvals t
theorem lnvals_append (A B : List Ln) : lnvals (A ++ B) = lnvals A ++ lnvals B := by
  induction A with
  | nil => rfl
  | cons r t ih => simp [lnvals, ih]
theorem lnvals_snoc (L : List Ln) (r : Ln) : lnvals L ++ valsLn r = lnvals (L ++ [r]) := by rw [lnvals_append]; simp [lnvals]
theorem lnvals_get : ∀ {M : List Ln} {i : Nat} {r : Ln}, M[i]? = some r → ∀ j, j < 2 → (lnvals M)[i * 2 + j]? = (valsLn r)[j]?
  | [], i, r, h, _, _ => by simp at h
  | q :: t, 0, r, h, j, hj => by
    simp at h; subst h
    show (valsLn q ++ lnvals t)[0 * 2 + j]? = _
    rw [List.getElem?_append_left (by simp [valsLn]; omega)]; simp
  | q :: t, i + 1, r, h, j, hj => by
    show (valsLn q ++ lnvals t)[(i + 1) * 2 + j]? = _
    rw [List.getElem?_append_right (by simp [valsLn]; omega)]
    have := lnvals_get (M := t) (i := i) (r := r) (by simpa using h) j hj
    rw [← this]; congr 1; simp [valsLn]; omega
theorem ln_infoG : ∃ (i : TypeInfo) (z : Value), Try.prog.info? 87 = some i ∧ i.zero = some z ∧ i.size = 2 ∧ i.bytes = 16 ∧ z.cells.size = 2 := by
  have hinfo : (Try.prog.info? 87).map (fun i => (i.zero, i.size, i.bytes)) = some (some (.agg #[.int .i64 0, .int .i64 0]), 2, 16) := by kernel_rfl
  obtain ⟨i, hi, h1, h2, h3⟩ := info_parts hinfo
  exact ⟨i, _, hi, h1, h2, h3, rfl⟩
theorem ln_newG (W : World) (r : Ln) (T : TypeId) : ∀ (j : Nat) (u : Value), (valsLn r)[j]? = some u → (W.alloc (.cells #[.int .i64 r.wt, .int .i64 r.mi] T)).cell? ((⟨W.heap.size, 0, none⟩ : Addr).add j) = some u := fun j u h => by
  have hadd : (⟨W.heap.size, 0, none⟩ : Addr).add j = ⟨W.heap.size, j, none⟩ := by unfold Addr.add; split <;> simp_all
  rw [hadd]
  exact (cellS (newS W _) j).trans (by simpa [valsLn] using h)
theorem valsLn_oneG (r : Ln) : ∀ u ∈ valsLn r, u.oneCell' = true := by intro u hu; simp [valsLn] at hu; rcases hu with rfl | rfl <;> rfl
theorem ln_inG {w : World} {base n : Nat} {v : Value} {M : List Ln} {T : TypeId} (h : w.ownsRow base T 2 v n (lnvals M)) (hn : n = M.length) :
    (v = .slice none 0 0 ∧ M = []) ∨ ∃ g cap, ∃ cs : Array Value, v = .slice (some ⟨g, 0, none⟩) n cap ∧ base ≤ g ∧ n ≤ cap ∧ w.heap[g]? = some (.cells cs T (0, 0)) ∧ cs.size = cap * 2 ∧ ∀ (i : Nat) (x : Ln), M[i]? = some x → InS cs (i * 2) (valsLn x) := by
  rcases h.2 with ⟨rfl, h0⟩ | ⟨g, cap, cur, rfl, hb, hg, hc, _, hs, ht⟩
  · exact .inl ⟨rfl, List.length_eq_zero_iff.1 (by omega)⟩
  · refine .inr ⟨g, cap, cur, rfl, hb, hc, hg, hs, fun i r hr j u hu => ?_⟩
    have hj : j < 2 := by have := (List.getElem?_eq_some_iff.1 hu).1; simpa [valsLn] using this
    have e := (lnvals_get hr j hj).trans hu
    rw [← ht, List.getElem?_take] at e
    have : i < M.length := (List.getElem?_eq_some_iff.1 hr).1
    rw [if_pos (by omega)] at e
    simpa using e
theorem LnV.inG {w : World} {g : Nat} {cs : Array Value} {T : TypeId} {M : List Ln} (hh : w.heap[g]? = some (.cells cs T (0, 0))) (hc : ∀ (i : Nat) (x : Ln), M[i]? = some x → InS cs (i * 2) (valsLn x)) : LnV w (some ⟨g, 0, none⟩) M :=
  ⟨fun _ => ⟨g, 0, rfl, ltS hh, fun i r hr => by
    have e : ∀ j u, (valsLn r)[j]? = some u → w.cell? ⟨g, 0 + i * 2 + j, none⟩ = some u := fun j u hu => by rw [Nat.zero_add]; exact (cellS hh _).trans (hc i r hr j u hu)
    exact ⟨e 0 _ rfl, e 1 _ rfl⟩⟩⟩
theorem LnV.chgG {w w' : World} {A : Option Addr} {L : List Ln} {rb : Nat} (h : LnV w A L) (hc : Chg [rb] w w') (hne : ∀ a, A = some a → a.block ≠ rb) : LnV w' A L :=
  ⟨fun h0 => let ⟨b, off, e, hl, hp⟩ := h.cells h0; ⟨b, off, e, Nat.lt_of_lt_of_le hl hc.size, fun i x hx => by
    have k : ∀ j, w'.cell? ⟨b, j, none⟩ = w.cell? ⟨b, j, none⟩ := fun j => hc.cell (p := ⟨b, j, none⟩) hl (by simp; exact hne _ e)
    have := hp i x hx
    exact ⟨(k _).trans this.1, (k _).trans this.2⟩⟩⟩
/-- a list that was drawn, in memory from a block on -/
def LnO (base : Nat) (w : World) (v : Value) (L : List Ln) : Prop := ∃ A c, v = .slice A L.length c ∧ L.length ≤ c ∧ LnV w A L ∧ ∀ a : Addr, A = some a → base ≤ a.block
theorem LnO.chg {base rb : Nat} {w w' : World} {v : Value} {L : List Ln} (h : LnO base w v L) (hc : Chg [rb] w w') (hr : rb < base) : LnO base w' v L := by
  obtain ⟨A, c, e, h1, h2, h3⟩ := h
  exact ⟨A, c, e, h1, h2.chgG hc (fun a ha => by have := h3 a ha; omega), h3⟩
theorem LnO.of {base : Nat} {w : World} {v : Value} {L : List Ln} {T : TypeId} (h : w.ownsRow base T 2 v L.length (lnvals L)) : LnO base w v L := by
  rcases ln_inG h rfl with ⟨rfl, rfl⟩ | ⟨g, cap, cs, rfl, hg, hc, hh, hs, hin⟩
  · exact ⟨none, 0, rfl, Nat.le_refl _, LnV.nil _ _, fun a e => by cases e⟩
  · exact ⟨_, cap, rfl, hc, LnV.inG hh hin, fun a e => by cases e; exact hg⟩
def spvals : List Sp → List Value
  | [] => []
  | r :: t => valsSp r ++ spvals t
theorem spvals_append (A B : List Sp) : spvals (A ++ B) = spvals A ++ spvals B := by
  induction A with
  | nil => rfl
  | cons r t ih => simp [spvals, ih]
theorem spvals_snoc (L : List Sp) (r : Sp) : spvals L ++ valsSp r = spvals (L ++ [r]) := by rw [spvals_append]; simp [spvals]
theorem spvals_get : ∀ {M : List Sp} {i : Nat} {r : Sp}, M[i]? = some r → ∀ j, j < 3 → (spvals M)[i * 3 + j]? = (valsSp r)[j]?
  | [], i, r, h, _, _ => by simp at h
  | q :: t, 0, r, h, j, hj => by
    simp at h; subst h
    show (valsSp q ++ spvals t)[0 * 3 + j]? = _
    rw [List.getElem?_append_left (by simp [valsSp]; omega)]; simp
  | q :: t, i + 1, r, h, j, hj => by
    show (valsSp q ++ spvals t)[(i + 1) * 3 + j]? = _
    rw [List.getElem?_append_right (by simp [valsSp]; omega)]
    have := spvals_get (M := t) (i := i) (r := r) (by simpa using h) j hj
    rw [← this]; congr 1; simp [valsSp]; omega
theorem sp_infoG : ∃ (i : TypeInfo) (z : Value), Try.prog.info? 102 = some i ∧ i.zero = some z ∧ i.size = 3 ∧ i.bytes = 24 ∧ z.cells.size = 3 := by
  have hinfo : (Try.prog.info? 102).map (fun i => (i.zero, i.size, i.bytes)) = some (some (.agg #[.int .i64 0, .int .i64 0, .int .i64 0]), 3, 24) := by kernel_rfl
  obtain ⟨i, hi, h1, h2, h3⟩ := info_parts hinfo
  exact ⟨i, _, hi, h1, h2, h3, rfl⟩
theorem sp_newG (W : World) (r : Sp) (T : TypeId) : ∀ (j : Nat) (u : Value), (valsSp r)[j]? = some u → (W.alloc (.cells #[.int .i64 r.sa, .int .i64 r.many, .int .i64 r.need] T)).cell? ((⟨W.heap.size, 0, none⟩ : Addr).add j) = some u := fun j u h => by
  have hadd : (⟨W.heap.size, 0, none⟩ : Addr).add j = ⟨W.heap.size, j, none⟩ := by unfold Addr.add; split <;> simp_all
  rw [hadd]
  exact (cellS (newS W _) j).trans (by simpa [valsSp] using h)
theorem valsSp_oneG (r : Sp) : ∀ u ∈ valsSp r, u.oneCell' = true := by intro u hu; simp [valsSp] at hu; rcases hu with rfl | rfl | rfl <;> rfl
theorem sp_inG {w : World} {base n : Nat} {v : Value} {M : List Sp} {T : TypeId} (h : w.ownsRow base T 3 v n (spvals M)) (hn : n = M.length) :
    (v = .slice none 0 0 ∧ M = []) ∨ ∃ g cap, ∃ cs : Array Value, v = .slice (some ⟨g, 0, none⟩) n cap ∧ base ≤ g ∧ n ≤ cap ∧ w.heap[g]? = some (.cells cs T (0, 0)) ∧ cs.size = cap * 3 ∧ ∀ (i : Nat) (x : Sp), M[i]? = some x → InS cs (i * 3) (valsSp x) := by
  rcases h.2 with ⟨rfl, h0⟩ | ⟨g, cap, cur, rfl, hb, hg, hc, _, hs, ht⟩
  · exact .inl ⟨rfl, List.length_eq_zero_iff.1 (by omega)⟩
  · refine .inr ⟨g, cap, cur, rfl, hb, hc, hg, hs, fun i r hr j u hu => ?_⟩
    have hj : j < 3 := by have := (List.getElem?_eq_some_iff.1 hu).1; simpa [valsSp] using this
    have e := (spvals_get hr j hj).trans hu
    rw [← ht, List.getElem?_take] at e
    have : i < M.length := (List.getElem?_eq_some_iff.1 hr).1
    rw [if_pos (by omega)] at e
    simpa using e
theorem SpV.inG {w : World} {g : Nat} {cs : Array Value} {T : TypeId} {M : List Sp} (hh : w.heap[g]? = some (.cells cs T (0, 0))) (hc : ∀ (i : Nat) (x : Sp), M[i]? = some x → InS cs (i * 3) (valsSp x)) : SpV w (some ⟨g, 0, none⟩) M :=
  ⟨fun _ => ⟨g, 0, rfl, ltS hh, fun i r hr => by
    have e : ∀ j u, (valsSp r)[j]? = some u → w.cell? ⟨g, 0 + i * 3 + j, none⟩ = some u := fun j u hu => by rw [Nat.zero_add]; exact (cellS hh _).trans (hc i r hr j u hu)
    exact ⟨e 0 _ rfl, e 1 _ rfl, e 2 _ rfl⟩⟩⟩
theorem SpV.chgG {w w' : World} {A : Option Addr} {L : List Sp} {rb : Nat} (h : SpV w A L) (hc : Chg [rb] w w') (hne : ∀ a, A = some a → a.block ≠ rb) : SpV w' A L :=
  ⟨fun h0 => let ⟨b, off, e, hl, hp⟩ := h.cells h0; ⟨b, off, e, Nat.lt_of_lt_of_le hl hc.size, fun i x hx => by
    have k : ∀ j, w'.cell? ⟨b, j, none⟩ = w.cell? ⟨b, j, none⟩ := fun j => hc.cell (p := ⟨b, j, none⟩) hl (by simp; exact hne _ e)
    have := hp i x hx
    exact ⟨(k _).trans this.1, (k _).trans this.2.1, (k _).trans this.2.2⟩⟩⟩
/-- a list that was drawn, in memory from a block on -/
def SpO (base : Nat) (w : World) (v : Value) (L : List Sp) : Prop := ∃ A c, v = .slice A L.length c ∧ L.length ≤ c ∧ SpV w A L ∧ ∀ a : Addr, A = some a → base ≤ a.block
theorem SpO.chg {base rb : Nat} {w w' : World} {v : Value} {L : List Sp} (h : SpO base w v L) (hc : Chg [rb] w w') (hr : rb < base) : SpO base w' v L := by
  obtain ⟨A, c, e, h1, h2, h3⟩ := h
  exact ⟨A, c, e, h1, h2.chgG hc (fun a ha => by have := h3 a ha; omega), h3⟩
theorem SpO.of {base : Nat} {w : World} {v : Value} {L : List Sp} {T : TypeId} (h : w.ownsRow base T 3 v L.length (spvals L)) : SpO base w v L := by
  rcases sp_inG h rfl with ⟨rfl, rfl⟩ | ⟨g, cap, cs, rfl, hg, hc, hh, hs, hin⟩
  · exact ⟨none, 0, rfl, Nat.le_refl _, SpV.nil _ _, fun a e => by cases e⟩
  · exact ⟨_, cap, rfl, hc, SpV.inG hh hin, fun a e => by cases e; exact hg⟩
set_option maxRecDepth 100000 in
theorem goodLines_any {B rb : Nat} {A : Option Addr} {l c m : Nat} (w : World) (h : Rd B rb A l c m w) (hm : m ≤ 700000) :
    Calls Try.prog 77 #[.pointer (some ⟨rb, 0, none⟩)] w fun e w' => (∃ v, ∃ L : List Ln, e = .returned v ∧ w'.ownsRow w.heap.size 87 2 v L.length (lnvals L) ∧ 1 ≤ L.length ∧ L.length ≤ 5) ∧ Rd B rb A l c (m + 20) w' ∧ Chg [rb] w w' := by
  obtain ⟨ti, tz, ti1, ti2, ti3, ti4, ti5⟩ := ln_infoG
  go_enter Try.func77, Try.ntmps77
  go_wp2_with fail
  have hlt := h.lt
  obtain ⟨W0, hW0⟩ : ∃ W0, w.alloc (.cells #[] 87 (0, 0)) = W0 := ⟨_, rfl⟩
  have hs0 : w.heap.size + 1 = W0.heap.size := by rw [← hW0]; simp
  have hr0 : Rd B rb A l c m W0 := by rw [← hW0]; exact h.alloc _
  have ho0 : W0.ownsRow w.heap.size 87 2 (.slice (some ⟨w.heap.size, 0, none⟩) 0 0) 0 [] := by rw [← hW0]; exact World.ownsRow_lit (base := w.heap.size) (e := 87) (size := 2) w #[] 0 (Nat.le_refl _) (by decide) rfl
  have hc0 : Chg [rb] w W0 := by rw [← hW0]; exact (Chg.refl [rb] w).alloc _
  rw [hW0, hs0]
  clear hW0
  with_reducible refine (one_lit_in 1 5 W0 hr0 (by omega) (by simp) (by omega) (by omega) (by simp [isIn])).mono ?_
  rintro e w1 ⟨⟨z, rfl, z0, z1⟩, hr1, hc1⟩
  obtain ⟨n, rfl⟩ := Int.eq_ofNat_of_zero_le (show 0 ≤ z by omega)
  have ho1 := own_chgN ho0 hc1 hlt
  have HO1 := Lib.hid ho1
  have HR1 := Lib.hid hr1
  have HC1 := Lib.hid (hc0.trans hc1)
  clear ho1 hr1 hc1 ho0 hr0 hc0
  go_wp2_with fail
  go_loopw [3, 4] (fun out i wr => ∃ k : Nat, i = .int .i64 k ∧ ∃ L : List Ln, k + L.length = n ∧ wr.ownsRow w.heap.size 87 2 out L.length (lnvals L) ∧ Rd B rb A l c (m + 1 + 2 * L.length) wr ∧ Chg [rb] w wr) (fun _ i _ => (intOf i).toNat)
  case atStart => exact ⟨n, rfl, [], by simp, HO1.out, HR1.out, HC1.out⟩
  case round =>
    obtain ⟨k, rfl, L, hk, ho, hr, hc⟩ := hrel
    clear HO1 HR1 HC1
    rcases k with _ | k
    · have hd : decide (((0 : Nat) : Int) > 0) = false := by simp
      have HO := Lib.hid ho
      have HR := Lib.hid hr
      have HC := Lib.hid hc
      clear ho hr hc
      go_wp2
      go_ret
      exact ⟨⟨_, L, rfl, HO.out, by omega, by omega⟩, HR.out.mono (by omega), HC.out⟩
    · have hd : decide (((k + 1 : Nat) : Int) > 0) = true := by simp
      have hlt0 := h.lt
      go_wp2_with fail
      with_reducible refine (one_lit_in 0 5 _ hr (by omega) (by simp) (by omega) (by omega) (by simp [isIn])).mono ?_
      rintro e w2 ⟨⟨y1, rfl, y1a, y1b⟩, hr2, hc2⟩
      have ho2 := own_chgN ho hc2 hlt0
      have HO := Lib.hid ho2
      have HC := Lib.hid (hc.trans hc2)
      clear ho hr hc hc2 ho2
      go_wp2_with fail
      with_reducible refine (one_lit_in 0 10 _ hr2 (by omega) (by simp) (by omega) (by omega) (by simp [isIn])).mono ?_
      rintro e w3 ⟨⟨y2, rfl, y2a, y2b⟩, hr3, hc3⟩
      have ho3 := own_chgN HO.out hc3 hlt0
      have hw3 : w.heap.size ≤ w3.heap.size := Nat.le_trans HC.out.size hc3.size
      have hob := ho3.lt
      have HR := Lib.hid hr3
      replace HC := Lib.hid (HC.out.trans hc3)
      replace HO := Lib.hid ho3
      clear hr2 hr3 hc3 ho3
      go_wp2_with (at_builtin; refine wpList_append_own _ rfl _ _ 42 rfl w.heap.size 87 ti tz 2 16 Try.underlying42 ti1 ti2 ti3 ti4 ti5 (by decide) _ _ _ rfl (HO.out.alloc _) ⟨w3.heap.size, 0, none⟩ 1 1 (valsLn ⟨y1, y2⟩) rfl rfl (ln_newG _ ⟨y1, y2⟩ _) (valsLn_oneG _) (by simp only [maxLen]; omega) (by omega) (by simp; omega) ?_)
      intro v5 w5 how5 hgr5 _
      rw [lnvals_snoc] at how5
      replace HC := Lib.hid (chg_grownN HC.out hgr5 hob (Nat.le_refl _))
      replace HR := Lib.hid (rd_grownN HR.out hgr5 hob hlt0)
      replace HO := Lib.hid how5
      clear how5 hgr5 hob
      go_wp2
      go_roundw
      case rel => exact ⟨k, by go_num, L ++ [⟨y1, y2⟩], by simp; omega, by simpa using HO.out, HR.out.mono (by simp; omega), HC.out⟩
      case measure => simp [intOf]
theorem InS.putLn0 {cs : Array Value} {M : List Ln} {x : Ln} {T : List Ln} {z : Int} (hM : M = x :: T) (hs : 2 ≤ cs.size) (h : ∀ (i : Nat) (y : Ln), M[i]? = some y → InS cs (i * 2) (valsLn y)) :
    ∀ (i : Nat) (y : Ln), ((⟨z, x.mi⟩ : Ln) :: T)[i]? = some y → InS (cs.setIfInBounds 0 (.int .i64 z)) (i * 2) (valsLn y) := by
  subst hM
  intro i y hy j u hu
  have hj : j < 2 := by have := (List.getElem?_eq_some_iff.1 hu).1; simpa [valsLn] using this
  rw [Array.getElem?_setIfInBounds]
  rcases i with _ | i
  · simp only [List.getElem?_cons_zero, Option.some.injEq] at hy
    subst hy
    have h0 := h 0 x rfl j
    rcases j with _ | _ | j
    · rw [if_pos (by omega), if_pos (by omega)]; simpa [valsLn] using hu
    · rw [if_neg (by omega)]; exact h0 u (by simpa [valsLn] using hu)
    · omega
  · rw [if_neg (by omega)]
    exact h (i + 1) y (by simpa using hy) j u hu
theorem InS.putLn1 {cs : Array Value} {M : List Ln} {x : Ln} {T : List Ln} {z : Int} (hM : M = x :: T) (hs : 2 ≤ cs.size) (h : ∀ (i : Nat) (y : Ln), M[i]? = some y → InS cs (i * 2) (valsLn y)) :
    ∀ (i : Nat) (y : Ln), ((⟨x.wt, z⟩ : Ln) :: T)[i]? = some y → InS (cs.setIfInBounds 1 (.int .i64 z)) (i * 2) (valsLn y) := by
  subst hM
  intro i y hy j u hu
  have hj : j < 2 := by have := (List.getElem?_eq_some_iff.1 hu).1; simpa [valsLn] using this
  rw [Array.getElem?_setIfInBounds]
  rcases i with _ | i
  · simp only [List.getElem?_cons_zero, Option.some.injEq] at hy
    subst hy
    have h0 := h 0 x rfl j
    rcases j with _ | _ | j
    · rw [if_neg (by omega)]; exact h0 u (by simpa [valsLn] using hu)
    · rw [if_pos (by omega), if_pos (by omega)]; simpa [valsLn] using hu
    · omega
  · rw [if_neg (by omega)]
    exact h (i + 1) y (by simpa using hy) j u hu
set_option maxRecDepth 100000 in
theorem someLines_any {B rb : Nat} {A : Option Addr} {l c m : Nat} (w : World) (h : Rd B rb A l c m w) (hm : m ≤ 600000) :
    Calls Try.prog 79 #[.pointer (some ⟨rb, 0, none⟩)] w fun e w' => (∃ v, ∃ L : List Ln, e = .returned v ∧ LnO w.heap.size w' v L ∧ L.length ≤ 5) ∧ Rd B rb A l c (m + 30) w' ∧ Chg [rb] w w' := by
  have hlt0 := h.lt
  go_enter Try.func79, Try.ntmps79
  go_wp2_with fail
  with_reducible refine (goodLines_any w h (by omega)).mono ?_
  rintro e w1 ⟨⟨v, L, rfl, ho, hl1, hl5⟩, hr1, hc1⟩
  rcases ln_inG ho rfl with ⟨rfl, rfl⟩ | ⟨g, cap, cs, rfl, hg, hcap, hh, hs, hin⟩
  · simp at hl1
  have hB := h.base
  have HH := Lib.hid hh
  have HI := Lib.hid hin
  have HC := Lib.hid hc1
  clear ho hh hin hc1
  go_wp2_with fail
  with_reducible refine (pick_any 24 _ hr1 (by omega)).mono ?_
  rintro e w2 ⟨⟨v, rfl, -⟩, hr2, hc2⟩
  replace HH := Lib.hid ((hc2.block g (ltS HH.out) (by simp; omega)).trans HH.out)
  replace HC := Lib.hid (HC.out.trans hc2)
  have HR := Lib.hid hr2
  clear hr1 hr2 hc2
  obtain ⟨x, T, hM⟩ : ∃ x T, L = x :: T := by cases L with | nil => simp at hl1 | cons x T => exact ⟨x, T, rfl⟩
  have hT : T.length + 1 = L.length := by rw [hM]; rfl
  have hs2 : 2 ≤ cs.size := by rw [hs]; omega
  have HM := Lib.hid hM
  have HT := Lib.hid hT
  have HS := Lib.hid hs
  clear hM hT hs
  by_cases hv0 : v = 0
  · subst hv0
    have hl0 : decide ((0 : Int) < (L.length : Int)) = true := by simp; omega
    go_wp2_with fail
    with_reducible refine (one_lit_in (-1) 6 _ HR.out (by omega) (by simp) (by omega) (by omega) (by simp [isIn])).mono ?_
    rintro e w3 ⟨⟨z, rfl, -⟩, hr3, hc3⟩
    replace HH := Lib.hid ((hc3.block g (ltS HH.out) (by simp; omega)).trans HH.out)
    replace HC := Lib.hid (HC.out.trans hc3)
    replace HR := Lib.hid hr3
    obtain ⟨y0, d0⟩ := thereS HH.out (i := 0) (by omega)
    have f0 := frozenS HH.out 0
    have E1 := Lib.hid (putS (i := 0) HH.out (.int .i64 z))
    replace HC := Lib.hid (HC.out.setCell (p := ⟨g, 0, none⟩) (.inr hg) (.int .i64 z))
    replace HR := Lib.hid (HR.out.setCell (p := ⟨g, 0, none⟩) (by simp; omega) (by simp; omega) (.int .i64 z))
    have E2 := Lib.hid (InS.putLn0 (z := z) HM.out hs2 HI.out)
    clear hr3 hc3
    go_wp2
    go_ret
    exact ⟨⟨_, ⟨z, x.mi⟩ :: T, rfl, ⟨some ⟨g, 0, none⟩, cap, (by show _ = Value.slice _ (T.length + 1) cap; rw [HT.out]; rfl), by have := HT.out; simp only [List.length_cons]; omega, LnV.inG E1.out E2.out, fun a e => by cases e; exact hg⟩, by have := HT.out; simp; omega⟩, HR.out.mono (by omega), HC.out⟩
  · have e0 : (v == 0) = false := by simpa using hv0
    by_cases hv1 : v = 1
    · subst hv1
      have hl0 : decide ((0 : Int) < (L.length : Int)) = true := by simp; omega
      go_wp2_with fail
      with_reducible refine (one_lit_in (-1) 31 _ HR.out (by omega) (by simp) (by omega) (by omega) (by simp [isIn])).mono ?_
      rintro e w3 ⟨⟨z, rfl, -⟩, hr3, hc3⟩
      replace HH := Lib.hid ((hc3.block g (ltS HH.out) (by simp; omega)).trans HH.out)
      replace HC := Lib.hid (HC.out.trans hc3)
      replace HR := Lib.hid hr3
      obtain ⟨y0, d0⟩ := thereS HH.out (i := 1) (by omega)
      have f0 := frozenS HH.out 1
      have E1 := Lib.hid (putS (i := 1) HH.out (.int .i64 z))
      replace HC := Lib.hid (HC.out.setCell (p := ⟨g, 1, none⟩) (.inr hg) (.int .i64 z))
      replace HR := Lib.hid (HR.out.setCell (p := ⟨g, 1, none⟩) (by simp; omega) (by simp; omega) (.int .i64 z))
      have E2 := Lib.hid (InS.putLn1 (z := z) HM.out hs2 HI.out)
      clear hr3 hc3
      go_wp2
      go_ret
      exact ⟨⟨_, ⟨x.wt, z⟩ :: T, rfl, ⟨some ⟨g, 0, none⟩, cap, (by show _ = Value.slice _ (T.length + 1) cap; rw [HT.out]; rfl), by have := HT.out; simp only [List.length_cons]; omega, LnV.inG E1.out E2.out, fun a e => by cases e; exact hg⟩, by have := HT.out; simp; omega⟩, HR.out.mono (by omega), HC.out⟩
    · have e1 : (v == 1) = false := by simpa using hv1
      by_cases hv2 : v = 2
      · subst hv2
        have hsz := HC.out.size
        go_wp2
        go_ret
        exact ⟨⟨_, [], rfl, ⟨_, 0, rfl, Nat.le_refl _, LnV.nil _ _, fun a e => by cases e; exact hsz⟩, by simp⟩, (HR.out.alloc _).mono (by omega), HC.out.alloc _⟩
      · have e2 : (v == 2) = false := by simpa using hv2
        go_wp2
        go_ret
        exact ⟨⟨_, L, rfl, ⟨_, cap, rfl, hcap, LnV.inG HH.out HI.out, fun a e => by cases e; exact hg⟩, hl5⟩, HR.out.mono (by omega), HC.out⟩
end Go.Proofs.Ytjdjahckdgbkbac
end
section
namespace Go.Proofs.Ytjdjahckdgbkbac
open Go.RowKit
set_option linter.unusedVariables false
set_option maxHeartbeats 1000000
attribute [local go_sem] growUpon_value growUpon_skip growUpon_enter
structure Ce where
  co : Int
  ro : Int
  mc : Int
  mr : Int
  cw : Int
  ch : Int
  sk : Int
  px : Int
  py : Int
def valsCe (p : Ce) : List Value := [.int .i64 p.co, .int .i64 p.ro, .int .i64 p.mc, .int .i64 p.mr, .int .i64 p.cw, .int .i64 p.ch, .int .i64 p.sk, .int .i64 p.px, .int .i64 p.py]
/-- a slice that reads as this list -/
structure CeV (w : World) (A : Option Addr) (L : List Ce) : Prop where
  cells : 0 < L.length → ∃ b off, A = some ⟨b, off, none⟩ ∧ b < w.heap.size ∧ ∀ i p, L[i]? = some p → w.cell? ⟨b, off + i * 9, none⟩ = some (.int .i64 p.co) ∧ w.cell? ⟨b, off + i * 9 + 1, none⟩ = some (.int .i64 p.ro) ∧ w.cell? ⟨b, off + i * 9 + 2, none⟩ = some (.int .i64 p.mc) ∧ w.cell? ⟨b, off + i * 9 + 3, none⟩ = some (.int .i64 p.mr) ∧ w.cell? ⟨b, off + i * 9 + 4, none⟩ = some (.int .i64 p.cw) ∧ w.cell? ⟨b, off + i * 9 + 5, none⟩ = some (.int .i64 p.ch) ∧ w.cell? ⟨b, off + i * 9 + 6, none⟩ = some (.int .i64 p.sk) ∧ w.cell? ⟨b, off + i * 9 + 7, none⟩ = some (.int .i64 p.px) ∧ w.cell? ⟨b, off + i * 9 + 8, none⟩ = some (.int .i64 p.py)
theorem CeV.keep {w w' : World} {A : Option Addr} {L : List Ce} (h : CeV w A L) (hb : Below w.heap.size w w') : CeV w' A L :=
  ⟨fun h0 => let ⟨b, off, e, hl, hp⟩ := h.cells h0; ⟨b, off, e, Nat.lt_of_lt_of_le hl hb.size, fun i p hi => by
    obtain ⟨c0, c1, c2, c3, c4, c5, c6, c7, c8⟩ := hp i p hi
    exact ⟨(hb.cell (p := ⟨b, off + i * 9, none⟩) hl).trans c0, (hb.cell (p := ⟨b, off + i * 9 + 1, none⟩) hl).trans c1, (hb.cell (p := ⟨b, off + i * 9 + 2, none⟩) hl).trans c2, (hb.cell (p := ⟨b, off + i * 9 + 3, none⟩) hl).trans c3, (hb.cell (p := ⟨b, off + i * 9 + 4, none⟩) hl).trans c4, (hb.cell (p := ⟨b, off + i * 9 + 5, none⟩) hl).trans c5, (hb.cell (p := ⟨b, off + i * 9 + 6, none⟩) hl).trans c6, (hb.cell (p := ⟨b, off + i * 9 + 7, none⟩) hl).trans c7, (hb.cell (p := ⟨b, off + i * 9 + 8, none⟩) hl).trans c8⟩⟩⟩
theorem CeV.nil (w : World) (A : Option Addr) : CeV w A [] := ⟨fun h => absurd h (by simp)⟩
/-- what a new block holds -/
def CeB (w : World) (g : Nat) (L : List Ce) : Prop := ∃ cs : Array Value, w.heap[g]? = some (.cells cs 52 (0, 0)) ∧ cs.size = L.length * 9 ∧ ∀ i p, L[i]? = some p → InS cs (i * 9) (valsCe p)
theorem CeB.v {w : World} {g : Nat} {L : List Ce} (h : CeB w g L) : CeV w (some ⟨g, 0, none⟩) L := by
  obtain ⟨cs, hh, hs, hc⟩ := h
  refine ⟨fun _ => ⟨g, 0, rfl, ltS hh, fun i p hp => ?_⟩⟩
  have hi := hc i p hp
  simp only [Nat.zero_add]
  exact ⟨(cellS hh _).trans (hi 0 _ rfl), (cellS hh _).trans (hi 1 _ rfl), (cellS hh _).trans (hi 2 _ rfl), (cellS hh _).trans (hi 3 _ rfl), (cellS hh _).trans (hi 4 _ rfl), (cellS hh _).trans (hi 5 _ rfl), (cellS hh _).trans (hi 6 _ rfl), (cellS hh _).trans (hi 7 _ rfl), (cellS hh _).trans (hi 8 _ rfl)⟩
theorem CeB.lt {w : World} {g : Nat} {L : List Ce} (h : CeB w g L) : g < w.heap.size := by obtain ⟨cs, hh, _⟩ := h; exact ltS hh
theorem CeB.keep {w w' : World} {g : Nat} {L : List Ce} (h : CeB w g L) (hb : Below w.heap.size w w') : CeB w' g L := by
  obtain ⟨cs, hh, hs, hc⟩ := h
  exact ⟨cs, (hb.block g (ltS hh)).trans hh, hs, hc⟩
theorem CeB.but {w w' : World} {g h : Nat} {L : List Ce} (hi : CeB w h L) (hg : w.grownBy w' (some g)) (hne : h ≠ g) : CeB w' h L := by
  obtain ⟨cs, hh, hs, hc⟩ := hi
  exact ⟨cs, (hg.block h (ltS hh) (fun e => hne (Option.some.inj e))).trans hh, hs, hc⟩
theorem madeCe : ∃ f : Nat → Array Value, (∀ n, (f n).size = n * 9) ∧ ∀ (n : Nat) (w : World), n ≤ 1048576 → (Instr.makeSlice 43 (.int .i64 (n : Int)) (.int .i64 (n : Int))).run Try.prog w = .ok (.slice (some ⟨w.heap.size, 0, none⟩) n n) (w.alloc (.cells (f n) 52)) := by
  have hinfo : (Try.prog.info? 52).map (fun i => (i.zero, i.size, i.bytes)) = some (some (.agg #[.int .i64 0, .int .i64 0, .int .i64 0, .int .i64 0, .int .i64 0, .int .i64 0, .int .i64 0, .int .i64 0, .int .i64 0]), 9, 72) := by kernel_rfl
  obtain ⟨i, hi, h1, h2, h3⟩ := info_parts hinfo
  refine ⟨fun n => madeCells (Value.agg #[.int .i64 0, .int .i64 0, .int .i64 0, .int .i64 0, .int .i64 0, .int .i64 0, .int .i64 0, .int .i64 0, .int .i64 0]).cells (n * 9), fun n => size_madeCells _ _, fun n w hn => ?_⟩
  have hr := run_make (P := Try.prog) w 43 52 i _ Try.underlying43 hi h1 .i64 .i64 n n (by omega) (Int.le_refl _) (by rw [h3]; omega) (by omega)
  rw [h2] at hr
  simpa using hr
set_option maxRecDepth 100000 in
theorem toCe_v (p : Ce) (w : World) : Calls Try.prog 71 #[.agg #[.int .i64 p.co, .int .i64 p.ro, .int .i64 p.mc, .int .i64 p.mr, .int .i64 p.cw, .int .i64 p.ch, .int .i64 p.sk, .int .i64 p.px, .int .i64 p.py]] w fun e w' => e = .returned (.agg #[.int .i64 p.co, .int .i64 p.ro, .int .i64 p.mc, .int .i64 p.mr, .int .i64 p.cw, .int .i64 p.ch, .int .i64 p.sk, .int .i64 p.px, .int .i64 p.py]) ∧ Below w.heap.size w w' := by
  obtain ⟨x0, x1, x2, x3, x4, x5, x6, x7, x8⟩ := p
  go_enter Try.func71, Try.ntmps71
  go_wp2
  exact bodyPost_ret (v := .agg #[.int .i64 x0, .int .i64 x1, .int .i64 x2, .int .i64 x3, .int .i64 x4, .int .i64 x5, .int .i64 x6, .int .i64 x7, .int .i64 x8]) (by simp only [results, Try.results71]; go_simp) rfl ⟨rfl, (by repeat (first | with_reducible exact Below.refl _ _ | with_reducible assumption | with_reducible refine balloc ?_ | (with_reducible refine bset ?_ ?_; rotate_left; ((try dsimp only); omega)) | refine bkeep2 ?_ (by assumption) | with_reducible refine Below.drew ?_))⟩
theorem putCe {w : World} {b : Nat} {cs : Array Value} {T : TypeId} {fz : Nat × Nat} (h : w.heap[b]? = some (.cells cs T fz)) (o : Nat) (p : Ce) :
    ((((((((((w.setCell ⟨b, o, none⟩ (.int .i64 p.co)).setCell ⟨b, o + 1, none⟩ (.int .i64 p.ro)).setCell ⟨b, o + 2, none⟩ (.int .i64 p.mc)).setCell ⟨b, o + 3, none⟩ (.int .i64 p.mr)).setCell ⟨b, o + 4, none⟩ (.int .i64 p.cw)).setCell ⟨b, o + 5, none⟩ (.int .i64 p.ch)).setCell ⟨b, o + 6, none⟩ (.int .i64 p.sk)).setCell ⟨b, o + 7, none⟩ (.int .i64 p.px)).setCell ⟨b, o + 8, none⟩ (.int .i64 p.py))).heap[b]? = some (.cells (wrAt cs o (valsCe p)) T fz) :=
  putS (putS (putS (putS (putS (putS (putS (putS (putS h _) _) _) _) _) _) _) _) _
theorem putCeb {B b : Nat} {a w : World} (h : Below B a w) (hb : B ≤ b) (o : Nat) (p : Ce) : Below B a ((((((((((w.setCell ⟨b, o, none⟩ (.int .i64 p.co)).setCell ⟨b, o + 1, none⟩ (.int .i64 p.ro)).setCell ⟨b, o + 2, none⟩ (.int .i64 p.mc)).setCell ⟨b, o + 3, none⟩ (.int .i64 p.mr)).setCell ⟨b, o + 4, none⟩ (.int .i64 p.cw)).setCell ⟨b, o + 5, none⟩ (.int .i64 p.ch)).setCell ⟨b, o + 6, none⟩ (.int .i64 p.sk)).setCell ⟨b, o + 7, none⟩ (.int .i64 p.px)).setCell ⟨b, o + 8, none⟩ (.int .i64 p.py))) :=
  (((((((((h).setCell hb _).setCell hb _).setCell hb _).setCell hb _).setCell hb _).setCell hb _).setCell hb _).setCell hb _).setCell hb _
set_option maxRecDepth 100000 in
theorem toCeS_any (A : Option Addr) (c : Nat) (L : List Ce) (w : World) (h : CeV w A L) (hL : L.length ≤ 1048576) :
    Calls Try.prog 50 #[.slice A L.length c] w fun e w' => e = .returned (.slice (some ⟨w.heap.size, 0, none⟩) L.length L.length) ∧ CeB w' w.heap.size L ∧ Below w.heap.size w w' := by
  obtain ⟨f, hf, hmk0⟩ := madeCe
  have hmk : ∀ w : World, (Instr.makeSlice 43 (.int .i64 (L.length : Int)) (.int .i64 (L.length : Int))).run Try.prog w = .ok (.slice (some ⟨w.heap.size, 0, none⟩) L.length L.length) (w.alloc (.cells (f L.length) 52)) := fun w => hmk0 L.length w hL
  go_enter Try.func50, Try.ntmps50
  go_wp2_with fail
  have HWW : Hid (∃ cs : Array Value, (w.alloc (.cells (f L.length) 52)).heap[w.heap.size]? = some (.cells cs 52 (0, 0)) ∧ cs.size = L.length * 9 ∧ ∀ i p, i < 0 → L[i]? = some p → InS cs (i * 9) (valsCe p)) := Lib.hid ⟨_, newS _ _, hf _, fun i p hi => absurd hi (by omega)⟩
  clear hmk hmk0 hf
  go_loopw [4] (fun i wr => ∃ k : Nat, k ≤ L.length ∧ i = .int .i64 k ∧ (∃ cs : Array Value, wr.heap[w.heap.size]? = some (.cells cs 52 (0, 0)) ∧ cs.size = L.length * 9 ∧ ∀ i p, i < k → L[i]? = some p → InS cs (i * 9) (valsCe p)) ∧ Below w.heap.size w wr) (fun i _ => L.length - (intOf i).toNat)
  case atStart => exact ⟨0, by omega, rfl, HWW.out, balloc (Below.refl _ _)⟩
  case round =>
    obtain ⟨k, hk, rfl, ⟨cs, hh, hs, hc⟩, hB⟩ := hrel
    clear HWW
    by_cases hlt : k < L.length
    · have hd : decide ((k : Int) < (L.length : Int)) = true := by simpa using hlt
      obtain ⟨b, off, rfl, hb, hp⟩ := (h.keep hB).cells (by omega)
      have hget : L[k]? = some L[k] := List.getElem?_eq_getElem hlt
      obtain ⟨c0, c1, c2, c3, c4, c5, c6, c7, c8⟩ := hp k _ hget
      generalize hx : L[k] = p at *
      have HG := Lib.hid hget
      have HX := Lib.hid hx
      have HH := Lib.hid hh
      have HS := Lib.hid hs
      have HC := Lib.hid hc
      have HBB := Lib.hid hB
      have HP := Lib.hid hp
      clear hget hx hh hs hc hB hp
      go_wp2_with fail
      refine (toCe_v p _).mono ?_
      rintro e w1 ⟨rfl, hb1⟩
      have hlg : w.heap.size < wr.heap.size := ltS HH.out
      replace HH := Lib.hid ((hb1.block _ hlg).trans HH.out)
      replace HBB := Lib.hid (HBB.out.trans (hb1.mono HBB.out.size))
      clear hb1 c0 c1 c2 c3 c4 c5 c6 c7 c8 hlg
      have hsz : k * 9 + 9 ≤ cs.size := by rw [HS.out]; omega
      obtain ⟨y0, d0⟩ := thereS HH.out (i := k * 9) (by omega)
      obtain ⟨y1, d1⟩ := thereS HH.out (i := k * 9 + 1) (by omega)
      obtain ⟨y2, d2⟩ := thereS HH.out (i := k * 9 + 2) (by omega)
      obtain ⟨y3, d3⟩ := thereS HH.out (i := k * 9 + 3) (by omega)
      obtain ⟨y4, d4⟩ := thereS HH.out (i := k * 9 + 4) (by omega)
      obtain ⟨y5, d5⟩ := thereS HH.out (i := k * 9 + 5) (by omega)
      obtain ⟨y6, d6⟩ := thereS HH.out (i := k * 9 + 6) (by omega)
      obtain ⟨y7, d7⟩ := thereS HH.out (i := k * 9 + 7) (by omega)
      obtain ⟨y8, d8⟩ := thereS HH.out (i := k * 9 + 8) (by omega)
      have f0 := frozenS HH.out (k * 9)
      have f1 := frozenS HH.out (k * 9 + 1)
      have f2 := frozenS HH.out (k * 9 + 2)
      have f3 := frozenS HH.out (k * 9 + 3)
      have f4 := frozenS HH.out (k * 9 + 4)
      have f5 := frozenS HH.out (k * 9 + 5)
      have f6 := frozenS HH.out (k * 9 + 6)
      have f7 := frozenS HH.out (k * 9 + 7)
      have f8 := frozenS HH.out (k * 9 + 8)
      have E1 := Lib.hid (putCe HH.out (k * 9) p)
      have E2 := Lib.hid (putCeb HBB.out (Nat.le_refl _) (k * 9) p)
      go_wp2
      go_roundw
      case rel => exact ⟨k + 1, by omega, by go_num, ⟨_, E1.out, (wrAt_size _ _ _).trans HS.out, fun i q hi hq => by
        by_cases e : i = k
        · subst e
          obtain rfl : p = q := by have := HG.out; rw [this] at hq; exact Option.some.inj hq
          exact InS.write (by simp only [valsCe, List.length_cons, List.length_nil]; omega)
        · exact (HC.out i q (by omega) hq).keepS (.inl (by simp only [valsCe, List.length_cons, List.length_nil]; omega))⟩, E2.out⟩
      case measure => simp [intOf]; omega
    · have hd : decide ((k : Int) < (L.length : Int)) = false := by simp; omega
      obtain rfl : k = L.length := by omega
      have HR := Lib.hid (show CeB wr w.heap.size L from ⟨cs, hh, hs, fun i p hp => hc i p (List.getElem?_eq_some_iff.1 hp).1 hp⟩)
      have HBB := Lib.hid hB
      clear hh hs hc hB
      go_wp2
      go_ret
      exact ⟨rfl, HR.out, HBB.out⟩
set_option maxRecDepth 100000 in
theorem eqCe_same (p : Ce) (w : World) : Calls Try.prog 76 #[.agg #[.int .i64 p.co, .int .i64 p.ro, .int .i64 p.mc, .int .i64 p.mr, .int .i64 p.cw, .int .i64 p.ch, .int .i64 p.sk, .int .i64 p.px, .int .i64 p.py], .agg #[.int .i64 p.co, .int .i64 p.ro, .int .i64 p.mc, .int .i64 p.mr, .int .i64 p.cw, .int .i64 p.ch, .int .i64 p.sk, .int .i64 p.px, .int .i64 p.py]] w fun e w' => e = .returned (.bool true) ∧ Below w.heap.size w w' := by
  go_enter Try.func76, Try.ntmps76
  go_wp2
  go_ret
  exact ⟨rfl, balloc (balloc (Below.refl _ _))⟩
set_option maxRecDepth 100000 in
theorem eqCeS_same (A B : Option Addr) (c c' : Nat) (L : List Ce) (w : World) (h : CeV w A L) (h' : CeV w B L) (hL : L.length ≤ 1048576) :
    Calls Try.prog 56 #[.slice A L.length c, .slice B L.length c'] w fun e w' => e = .returned (.bool true) ∧ Below w.heap.size w w' := by
  go_enter Try.func56, Try.ntmps56
  go_wp2_with fail
  go_loopw [5] (fun i wr => ∃ k : Nat, k ≤ L.length ∧ i = .int .i64 k ∧ Below w.heap.size w wr) (fun i _ => L.length - (intOf i).toNat)
  case atStart => exact ⟨0, by omega, rfl, Below.refl _ _⟩
  case round =>
    obtain ⟨k, hk, rfl, hB⟩ := hrel
    by_cases hlt : k < L.length
    · have hd : decide ((k : Int) < (L.length : Int)) = true := by simpa using hlt
      obtain ⟨b, off, rfl, hb, hp⟩ := (h.keep hB).cells (by omega)
      obtain ⟨b', off', rfl, hb', hp'⟩ := (h'.keep hB).cells (by omega)
      obtain ⟨c0, c1, c2, c3, c4, c5, c6, c7, c8⟩ := hp k _ (List.getElem?_eq_getElem hlt)
      obtain ⟨d0, d1, d2, d3, d4, d5, d6, d7, d8⟩ := hp' k _ (List.getElem?_eq_getElem hlt)
      generalize hx : L[k] = p at *
      have HX := Lib.hid hx
      have HBB := Lib.hid hB
      clear hx hp hp' hB
      go_wp2_with fail
      refine wp_region_grow 10 0 (· < 10) (by kernel_rfl) (by kernel_rfl) rfl ?_
      iterate 10 (refine wpG_step (fun K hK => ?_); first | (refine grow_skip rfl ?_; go_simp; refine hK _ ?_; clear hK K) | (apply Exists.intro; refine ⟨.inl ⟨rfl, fun w' hw' => ?_⟩, ?_⟩; (focus ((obtain ⟨hc, hf⟩ := bcell hw'.out); (have hcS := bcellS hw'.out); go_simp <;> first | rfl | (go_at_call 76; exact eqCe_same p _))); (go_simp; refine hK _ ?_; clear hK K)))
      refine wpG_nil ?_
      refine wpK_tail (by kernel_rfl) (fun w1 hg1 => ?_)
      have hb1 := bdrewn hg1.out
      refine wpAny_end (by kernel_rfl) ?_
      refine NoPan.thn ?_
      clear hg1
      replace HBB := Lib.hid (HBB.out.trans (hb1.mono HBB.out.size))
      clear hb1 c0 c1 c2 c3 c4 c5 c6 c7 c8 d0 d1 d2 d3 d4 d5 d6 d7 d8
      go_wp2
      go_roundw
      case rel => exact ⟨k + 1, by omega, by go_num, HBB.out⟩
      case measure => simp [intOf]; omega
    · have hd : decide ((k : Int) < (L.length : Int)) = false := by simp; omega
      have HBB := Lib.hid hB
      clear hB
      go_wp2
      go_ret
      exact ⟨rfl, HBB.out⟩
theorem szCeS_yes (A : Option Addr) (c n : Nat) (z : Int) (w : World) (h : (n : Int) ≤ z) (hz : z ≤ 1048576) : Calls Try.prog 47 #[.slice A n c, .int .i64 z] w fun e w' => e = .returned (.int .i64 (z - n)) ∧ w' = w := by
  have h1 : decide (z - (n : Int) < 0) = false := by simp; omega
  go_enter Try.func47, Try.ntmps47
  go_wp2
  go_ret
  exact ⟨rfl, rfl⟩
theorem szCeS_no (A : Option Addr) (c n : Nat) (z : Int) (w : World) (h : ¬ (n : Int) ≤ z) (h0 : 0 ≤ z) (hz : z ≤ 1048576) (hn : n ≤ maxLen) : Calls Try.prog 47 #[.slice A n c, .int .i64 z] w fun e w' => e = .returned (.int .i64 (-1)) ∧ w' = w := by
  unfold maxLen at hn
  have h1 : decide (z - (n : Int) < 0) = true := by simp; omega
  go_enter Try.func47, Try.ntmps47
  go_wp2
  go_ret
  exact ⟨rfl, rfl⟩
end Go.Proofs.Ytjdjahckdgbkbac
end
