import Derived.Test.YtjdjahckdgbkbacQ01
import Derived.Deep.Slices
import Derived.Deep.Fields
import Derived.ChangeSame
section
namespace Go.Proofs.Ytjdjahckdgbkbac
open Go.RowKit
set_option linter.unusedVariables false
set_option maxHeartbeats 1000000
attribute [local go_sem] growUpon_value growUpon_skip growUpon_enter
structure Ln where
  wt : Int
  mi : Int
def valsLn (p : Ln) : List Value := [.int .i64 p.wt, .int .i64 p.mi]
/-- a slice that reads as this list -/
structure LnV (w : World) (A : Option Addr) (L : List Ln) : Prop where
  cells : 0 < L.length → ∃ b off, A = some ⟨b, off, none⟩ ∧ b < w.heap.size ∧ ∀ i p, L[i]? = some p → w.cell? ⟨b, off + i * 2, none⟩ = some (.int .i64 p.wt) ∧ w.cell? ⟨b, off + i * 2 + 1, none⟩ = some (.int .i64 p.mi)
theorem LnV.keep {w w' : World} {A : Option Addr} {L : List Ln} (h : LnV w A L) (hb : Below w.heap.size w w') : LnV w' A L :=
  ⟨fun h0 => let ⟨b, off, e, hl, hp⟩ := h.cells h0; ⟨b, off, e, Nat.lt_of_lt_of_le hl hb.size, fun i p hi => by
    obtain ⟨c0, c1⟩ := hp i p hi
    exact ⟨(hb.cell (p := ⟨b, off + i * 2, none⟩) hl).trans c0, (hb.cell (p := ⟨b, off + i * 2 + 1, none⟩) hl).trans c1⟩⟩⟩
theorem LnV.nil (w : World) (A : Option Addr) : LnV w A [] := ⟨fun h => absurd h (by simp)⟩
/-- what a new block holds -/
def LnB (w : World) (g : Nat) (L : List Ln) : Prop := ∃ cs : Array Value, w.heap[g]? = some (.cells cs 87 (0, 0)) ∧ cs.size = L.length * 2 ∧ ∀ i p, L[i]? = some p → InS cs (i * 2) (valsLn p)
theorem LnB.v {w : World} {g : Nat} {L : List Ln} (h : LnB w g L) : LnV w (some ⟨g, 0, none⟩) L := by
  obtain ⟨cs, hh, hs, hc⟩ := h
  refine ⟨fun _ => ⟨g, 0, rfl, ltS hh, fun i p hp => ?_⟩⟩
  have hi := hc i p hp
  simp only [Nat.zero_add]
  exact ⟨(cellS hh _).trans (hi 0 _ rfl), (cellS hh _).trans (hi 1 _ rfl)⟩
theorem LnB.lt {w : World} {g : Nat} {L : List Ln} (h : LnB w g L) : g < w.heap.size := by obtain ⟨cs, hh, _⟩ := h; exact ltS hh
theorem LnB.keep {w w' : World} {g : Nat} {L : List Ln} (h : LnB w g L) (hb : Below w.heap.size w w') : LnB w' g L := by
  obtain ⟨cs, hh, hs, hc⟩ := h
  exact ⟨cs, (hb.block g (ltS hh)).trans hh, hs, hc⟩
theorem LnB.but {w w' : World} {g h : Nat} {L : List Ln} (hi : LnB w h L) (hg : w.grownBy w' (some g)) (hne : h ≠ g) : LnB w' h L := by
  obtain ⟨cs, hh, hs, hc⟩ := hi
  exact ⟨cs, (hg.block h (ltS hh) (fun e => hne (Option.some.inj e))).trans hh, hs, hc⟩
theorem madeLn : ∃ f : Nat → Array Value, (∀ n, (f n).size = n * 2) ∧ ∀ (n : Nat) (w : World), n ≤ 1048576 → (Instr.makeSlice 42 (.int .i64 (n : Int)) (.int .i64 (n : Int))).run Try.prog w = .ok (.slice (some ⟨w.heap.size, 0, none⟩) n n) (w.alloc (.cells (f n) 87)) := by
  have hinfo : (Try.prog.info? 87).map (fun i => (i.zero, i.size, i.bytes)) = some (some (.agg #[.int .i64 0, .int .i64 0]), 2, 16) := by kernel_rfl
  obtain ⟨i, hi, h1, h2, h3⟩ := info_parts hinfo
  refine ⟨fun n => madeCells (Value.agg #[.int .i64 0, .int .i64 0]).cells (n * 2), fun n => size_madeCells _ _, fun n w hn => ?_⟩
  have hr := run_make (P := Try.prog) w 42 87 i _ Try.underlying42 hi h1 .i64 .i64 n n (by omega) (Int.le_refl _) (by rw [h3]; omega) (by omega)
  rw [h2] at hr
  simpa using hr
set_option maxRecDepth 100000 in
theorem toLn_v (p : Ln) (w : World) : Calls Try.prog 70 #[.agg #[.int .i64 p.wt, .int .i64 p.mi]] w fun e w' => e = .returned (.agg #[.int .i64 p.wt, .int .i64 p.mi]) ∧ Below w.heap.size w w' := by
  obtain ⟨x0, x1⟩ := p
  go_enter Try.func70, Try.ntmps70
  go_wp2
  exact bodyPost_ret (v := .agg #[.int .i64 x0, .int .i64 x1]) (by simp only [results, Try.results70]; go_simp) rfl ⟨rfl, (by repeat (first | with_reducible exact Below.refl _ _ | with_reducible assumption | with_reducible refine balloc ?_ | (with_reducible refine bset ?_ ?_; rotate_left; ((try dsimp only); omega)) | refine bkeep2 ?_ (by assumption) | with_reducible refine Below.drew ?_))⟩
theorem putLn {w : World} {b : Nat} {cs : Array Value} {T : TypeId} {fz : Nat × Nat} (h : w.heap[b]? = some (.cells cs T fz)) (o : Nat) (p : Ln) :
    (((w.setCell ⟨b, o, none⟩ (.int .i64 p.wt)).setCell ⟨b, o + 1, none⟩ (.int .i64 p.mi))).heap[b]? = some (.cells (wrAt cs o (valsLn p)) T fz) :=
  putS (putS h _) _
theorem putLnb {B b : Nat} {a w : World} (h : Below B a w) (hb : B ≤ b) (o : Nat) (p : Ln) : Below B a (((w.setCell ⟨b, o, none⟩ (.int .i64 p.wt)).setCell ⟨b, o + 1, none⟩ (.int .i64 p.mi))) :=
  ((h).setCell hb _).setCell hb _
set_option maxRecDepth 100000 in
theorem toLnS_any (A : Option Addr) (c : Nat) (L : List Ln) (w : World) (h : LnV w A L) (hL : L.length ≤ 1048576) :
    Calls Try.prog 49 #[.slice A L.length c] w fun e w' => e = .returned (.slice (some ⟨w.heap.size, 0, none⟩) L.length L.length) ∧ LnB w' w.heap.size L ∧ Below w.heap.size w w' := by
  obtain ⟨f, hf, hmk0⟩ := madeLn
  have hmk : ∀ w : World, (Instr.makeSlice 42 (.int .i64 (L.length : Int)) (.int .i64 (L.length : Int))).run Try.prog w = .ok (.slice (some ⟨w.heap.size, 0, none⟩) L.length L.length) (w.alloc (.cells (f L.length) 87)) := fun w => hmk0 L.length w hL
  go_enter Try.func49, Try.ntmps49
  go_wp2_with fail
  have HWW : Hid (∃ cs : Array Value, (w.alloc (.cells (f L.length) 87)).heap[w.heap.size]? = some (.cells cs 87 (0, 0)) ∧ cs.size = L.length * 2 ∧ ∀ i p, i < 0 → L[i]? = some p → InS cs (i * 2) (valsLn p)) := Lib.hid ⟨_, newS _ _, hf _, fun i p hi => absurd hi (by omega)⟩
  clear hmk hmk0 hf
  go_loopw [4] (fun i wr => ∃ k : Nat, k ≤ L.length ∧ i = .int .i64 k ∧ (∃ cs : Array Value, wr.heap[w.heap.size]? = some (.cells cs 87 (0, 0)) ∧ cs.size = L.length * 2 ∧ ∀ i p, i < k → L[i]? = some p → InS cs (i * 2) (valsLn p)) ∧ Below w.heap.size w wr) (fun i _ => L.length - (intOf i).toNat)
  case atStart => exact ⟨0, by omega, rfl, HWW.out, balloc (Below.refl _ _)⟩
  case round =>
    obtain ⟨k, hk, rfl, ⟨cs, hh, hs, hc⟩, hB⟩ := hrel
    clear HWW
    by_cases hlt : k < L.length
    · have hd : decide ((k : Int) < (L.length : Int)) = true := by simpa using hlt
      obtain ⟨b, off, rfl, hb, hp⟩ := (h.keep hB).cells (by omega)
      have hget : L[k]? = some L[k] := List.getElem?_eq_getElem hlt
      obtain ⟨c0, c1⟩ := hp k _ hget
      generalize hx : L[k] = p at *
      have HG := Lib.hid hget
      have HX := Lib.hid hx
      have HH := Lib.hid hh
      have HS := Lib.hid hs
      have HC := Lib.hid hc
      have HBB := Lib.hid hB
      have HP := Lib.hid hp
      clear hget hx hh hs hc hB hp
      go_wp2_with fail
      refine (toLn_v p _).mono ?_
      rintro e w1 ⟨rfl, hb1⟩
      have hlg : w.heap.size < wr.heap.size := ltS HH.out
      replace HH := Lib.hid ((hb1.block _ hlg).trans HH.out)
      replace HBB := Lib.hid (HBB.out.trans (hb1.mono HBB.out.size))
      clear hb1 c0 c1 hlg
      have hsz : k * 2 + 2 ≤ cs.size := by rw [HS.out]; omega
      obtain ⟨y0, d0⟩ := thereS HH.out (i := k * 2) (by omega)
      obtain ⟨y1, d1⟩ := thereS HH.out (i := k * 2 + 1) (by omega)
      have f0 := frozenS HH.out (k * 2)
      have f1 := frozenS HH.out (k * 2 + 1)
      have E1 := Lib.hid (putLn HH.out (k * 2) p)
      have E2 := Lib.hid (putLnb HBB.out (Nat.le_refl _) (k * 2) p)
      go_wp2
      go_roundw
      case rel => exact ⟨k + 1, by omega, by go_num, ⟨_, E1.out, (wrAt_size _ _ _).trans HS.out, fun i q hi hq => by
        by_cases e : i = k
        · subst e
          obtain rfl : p = q := by have := HG.out; rw [this] at hq; exact Option.some.inj hq
          exact InS.write (by simp only [valsLn, List.length_cons, List.length_nil]; omega)
        · exact (HC.out i q (by omega) hq).keepS (.inl (by simp only [valsLn, List.length_cons, List.length_nil]; omega))⟩, E2.out⟩
      case measure => simp [intOf]; omega
    · have hd : decide ((k : Int) < (L.length : Int)) = false := by simp; omega
      obtain rfl : k = L.length := by omega
      have HR := Lib.hid (show LnB wr w.heap.size L from ⟨cs, hh, hs, fun i p hp => hc i p (List.getElem?_eq_some_iff.1 hp).1 hp⟩)
      have HBB := Lib.hid hB
      clear hh hs hc hB
      go_wp2
      go_ret
      exact ⟨rfl, HR.out, HBB.out⟩
set_option maxRecDepth 100000 in
theorem eqLn_same (p : Ln) (w : World) : Calls Try.prog 75 #[.agg #[.int .i64 p.wt, .int .i64 p.mi], .agg #[.int .i64 p.wt, .int .i64 p.mi]] w fun e w' => e = .returned (.bool true) ∧ Below w.heap.size w w' := by
  go_enter Try.func75, Try.ntmps75
  go_wp2
  go_ret
  exact ⟨rfl, balloc (balloc (Below.refl _ _))⟩
set_option maxRecDepth 100000 in
theorem eqLnS_same (A B : Option Addr) (c c' : Nat) (L : List Ln) (w : World) (h : LnV w A L) (h' : LnV w B L) (hL : L.length ≤ 1048576) :
    Calls Try.prog 55 #[.slice A L.length c, .slice B L.length c'] w fun e w' => e = .returned (.bool true) ∧ Below w.heap.size w w' := by
  go_enter Try.func55, Try.ntmps55
  go_wp2_with fail
  go_loopw [5] (fun i wr => ∃ k : Nat, k ≤ L.length ∧ i = .int .i64 k ∧ Below w.heap.size w wr) (fun i _ => L.length - (intOf i).toNat)
  case atStart => exact ⟨0, by omega, rfl, Below.refl _ _⟩
  case round =>
    obtain ⟨k, hk, rfl, hB⟩ := hrel
    by_cases hlt : k < L.length
    · have hd : decide ((k : Int) < (L.length : Int)) = true := by simpa using hlt
      obtain ⟨b, off, rfl, hb, hp⟩ := (h.keep hB).cells (by omega)
      obtain ⟨b', off', rfl, hb', hp'⟩ := (h'.keep hB).cells (by omega)
      obtain ⟨c0, c1⟩ := hp k _ (List.getElem?_eq_getElem hlt)
      obtain ⟨d0, d1⟩ := hp' k _ (List.getElem?_eq_getElem hlt)
      generalize hx : L[k] = p at *
      have HX := Lib.hid hx
      have HBB := Lib.hid hB
      clear hx hp hp' hB
      go_wp2_with fail
      refine wp_region_grow 10 0 (· < 10) (by kernel_rfl) (by kernel_rfl) rfl ?_
      iterate 10 (refine wpG_step (fun K hK => ?_); first | (refine grow_skip rfl ?_; go_simp; refine hK _ ?_; clear hK K) | (apply Exists.intro; refine ⟨.inl ⟨rfl, fun w' hw' => ?_⟩, ?_⟩; (focus ((obtain ⟨hc, hf⟩ := bcell hw'.out); (have hcS := bcellS hw'.out); go_simp <;> first | rfl | (go_at_call 75; exact eqLn_same p _))); (go_simp; refine hK _ ?_; clear hK K)))
      refine wpG_nil ?_
      refine wpK_tail (by kernel_rfl) (fun w1 hg1 => ?_)
      have hb1 := bdrewn hg1.out
      refine wpAny_end (by kernel_rfl) ?_
      refine NoPan.thn ?_
      clear hg1
      replace HBB := Lib.hid (HBB.out.trans (hb1.mono HBB.out.size))
      clear hb1 c0 c1 d0 d1
      go_wp2
      go_roundw
      case rel => exact ⟨k + 1, by omega, by go_num, HBB.out⟩
      case measure => simp [intOf]; omega
    · have hd : decide ((k : Int) < (L.length : Int)) = false := by simp; omega
      have HBB := Lib.hid hB
      clear hB
      go_wp2
      go_ret
      exact ⟨rfl, HBB.out⟩
theorem szLnS_yes (A : Option Addr) (c n : Nat) (z : Int) (w : World) (h : (n : Int) ≤ z) (hz : z ≤ 1048576) : Calls Try.prog 46 #[.slice A n c, .int .i64 z] w fun e w' => e = .returned (.int .i64 (z - n)) ∧ w' = w := by
  have h1 : decide (z - (n : Int) < 0) = false := by simp; omega
  go_enter Try.func46, Try.ntmps46
  go_wp2
  go_ret
  exact ⟨rfl, rfl⟩
theorem szLnS_no (A : Option Addr) (c n : Nat) (z : Int) (w : World) (h : ¬ (n : Int) ≤ z) (h0 : 0 ≤ z) (hz : z ≤ 1048576) (hn : n ≤ maxLen) : Calls Try.prog 46 #[.slice A n c, .int .i64 z] w fun e w' => e = .returned (.int .i64 (-1)) ∧ w' = w := by
  unfold maxLen at hn
  have h1 : decide (z - (n : Int) < 0) = true := by simp; omega
  go_enter Try.func46, Try.ntmps46
  go_wp2
  go_ret
  exact ⟨rfl, rfl⟩
end Go.Proofs.Ytjdjahckdgbkbac
end
section
namespace Go.Proofs.Ytjdjahckdgbkbac
open Go.Joins Go.ChangeShapes Go.WideShapes Go.RowKit Go.Deep
set_option linter.unusedVariables false
set_option maxRecDepth 100000 in
theorem lines_of {H : Type} {enc : TypeId × Value → H} {W : World} {a : Option Addr} {len cap : Nat} {d : DataW H} {ps : List MemPlace}
    (h : DataW.Trod enc Try.prog W 0 (fun _ => true) true 36 (.slice a len cap) d ps) : ∃ L : List Ln, L.length = len ∧ LnV W a L ∧ len ≤ maxLen := by
  obtain ⟨fuel, hf⟩ := h
  have h9 : Try.prog.cellsOf 89 = 2 := by kernel_rfl
  rcases open_slice Try.underlying36 hf with ⟨hcs, _⟩ | ⟨x, l, c, m, fu, D, Pl, hcs, _, hl, hm, hmm, _, hi⟩
  · simp [Value.cells] at hcs
    obtain ⟨rfl, rfl, rfl⟩ := hcs
    exact ⟨[], rfl, LnV.nil _ _, by simp⟩
  · simp [Value.cells] at hcs
    obtain ⟨rfl, rfl, rfl⟩ := hcs
    have hlen : len ≤ m := by rw [hmm]; simp; exact hl
    have each : ∀ i, i < len → ∃ p : Ln, ∀ j, j < 2 → W.cell? (x.add (i * 2 + j)) = (valsLn p)[j]? := by
      intro i him
      obtain ⟨cs, hrow, hread⟩ := hi i (by omega)
      rw [h9] at hrow
      obtain ⟨_, hsz, hat⟩ := World.cells?_some hrow
      obtain ⟨ys, n, _, _, _, hyl, hg⟩ := DataW.trod_struct Try.underlying89 hread
      match cs, hsz, hat, hg with
      | [k0, k1], _, hat, hg =>
        match ys, hyl, hg with
        | [y0, y1], _, hg =>
          have t0 : DataW.trod enc Try.prog W 0 (fun _ => true) true n 3 [k0] = some y0 := by
            have g := hg 0 _ rfl
            have c : Try.prog.cellsOf 3 = 1 := by kernel_rfl
            simpa [c] using g
          have t1 : DataW.trod enc Try.prog W 0 (fun _ => true) true n 3 [k1] = some y1 := by
            have g := hg 1 _ rfl
            have c : Try.prog.cellsOf 3 = 1 := by kernel_rfl
            simpa [c] using g
          obtain ⟨z0, e0, _, _⟩ := DataW.trod_int Try.underlying3 t0
          obtain ⟨z1, e1, _, _⟩ := DataW.trod_int Try.underlying3 t1
          simp only [List.cons.injEq, and_true] at e0 e1
          subst e0 e1
          refine ⟨⟨z0, z1⟩, fun j hj => ?_⟩
          have hb : ∀ (a : Addr) (i j : Nat), (a.add i).add j = a.add (i + j) := fun a i j => by
            unfold Addr.add
            by_cases hi : i = 0 <;> by_cases hj : j = 0 <;> simp [hi, hj, Nat.add_assoc]
          have := hat j hj
          rw [hb] at this
          exact this
    have hch : ∃ f : Nat → Ln, ∀ i, i < len → ∀ j, j < 2 → W.cell? (x.add (i * 2 + j)) = (valsLn (f i))[j]? := by
      refine ⟨fun i => if h : i < len then Classical.choose (each i h) else ⟨0, 0⟩, fun i him => ?_⟩
      simp only [him, dif_pos]
      exact Classical.choose_spec (each i him)
    obtain ⟨f, hfc⟩ := hch
    refine ⟨(List.range len).map f, by simp, ⟨fun h0 => ?_⟩, by omega⟩
    have h0' : 0 < len := by simpa using h0
    obtain ⟨b, off, spot⟩ := x
    have hc := hfc 0 h0' 0 (by omega)
    have hc' : W.cell? ⟨b, off, spot⟩ = some (.int .i64 (f 0).wt) := by simpa [Addr.add, valsLn] using hc
    have hspot : spot = none := World.cell?_spot hc'
    subst hspot
    refine ⟨b, off, rfl, World.block_lt_of_cell? W _ hc', fun i p hp => ?_⟩
    have hil : i < len := by
      have := (List.getElem?_eq_some_iff.1 hp).1
      simpa using this
    have hpe : p = f i := by
      rw [List.getElem?_map, List.getElem?_range hil] at hp
      simpa using hp.symm
    subst hpe
    have hadd : ∀ n : Nat, (⟨b, off, none⟩ : Addr).add n = ⟨b, off + n, none⟩ := fun n => by
      unfold Addr.add
      split
      · rename_i h; subst h; rfl
      · rfl
    have hcell := hfc i hil
    simp only [hadd] at hcell
    have e : ∀ j, j < 2 → W.cell? ⟨b, off + i * 2 + j, none⟩ = (valsLn (f i))[j]? := fun j hj => by rw [Nat.add_assoc]; exact hcell j hj
    exact ⟨e 0 (by omega), e 1 (by omega)⟩
end Go.Proofs.Ytjdjahckdgbkbac
end
section
namespace Go.Proofs.Ytjdjahckdgbkbac
open Go.RowKit
set_option linter.unusedVariables false
set_option maxHeartbeats 1000000
attribute [local go_sem] growUpon_value growUpon_skip growUpon_enter
structure Ce where
  co : Int
  ro : Int
  mc : Int
  mr : Int
  cw : Int
  ch : Int
  sk : Int
  px : Int
  py : Int
def valsCe (p : Ce) : List Value := [.int .i64 p.co, .int .i64 p.ro, .int .i64 p.mc, .int .i64 p.mr, .int .i64 p.cw, .int .i64 p.ch, .int .i64 p.sk, .int .i64 p.px, .int .i64 p.py]
/-- a slice that reads as this list -/
structure CeV (w : World) (A : Option Addr) (L : List Ce) : Prop where
  cells : 0 < L.length → ∃ b off, A = some ⟨b, off, none⟩ ∧ b < w.heap.size ∧ ∀ i p, L[i]? = some p → w.cell? ⟨b, off + i * 9, none⟩ = some (.int .i64 p.co) ∧ w.cell? ⟨b, off + i * 9 + 1, none⟩ = some (.int .i64 p.ro) ∧ w.cell? ⟨b, off + i * 9 + 2, none⟩ = some (.int .i64 p.mc) ∧ w.cell? ⟨b, off + i * 9 + 3, none⟩ = some (.int .i64 p.mr) ∧ w.cell? ⟨b, off + i * 9 + 4, none⟩ = some (.int .i64 p.cw) ∧ w.cell? ⟨b, off + i * 9 + 5, none⟩ = some (.int .i64 p.ch) ∧ w.cell? ⟨b, off + i * 9 + 6, none⟩ = some (.int .i64 p.sk) ∧ w.cell? ⟨b, off + i * 9 + 7, none⟩ = some (.int .i64 p.px) ∧ w.cell? ⟨b, off + i * 9 + 8, none⟩ = some (.int .i64 p.py)
theorem CeV.keep {w w' : World} {A : Option Addr} {L : List Ce} (h : CeV w A L) (hb : Below w.heap.size w w') : CeV w' A L :=
  ⟨fun h0 => let ⟨b, off, e, hl, hp⟩ := h.cells h0; ⟨b, off, e, Nat.lt_of_lt_of_le hl hb.size, fun i p hi => by
    obtain ⟨c0, c1, c2, c3, c4, c5, c6, c7, c8⟩ := hp i p hi
    exact ⟨(hb.cell (p := ⟨b, off + i * 9, none⟩) hl).trans c0, (hb.cell (p := ⟨b, off + i * 9 + 1, none⟩) hl).trans c1, (hb.cell (p := ⟨b, off + i * 9 + 2, none⟩) hl).trans c2, (hb.cell (p := ⟨b, off + i * 9 + 3, none⟩) hl).trans c3, (hb.cell (p := ⟨b, off + i * 9 + 4, none⟩) hl).trans c4, (hb.cell (p := ⟨b, off + i * 9 + 5, none⟩) hl).trans c5, (hb.cell (p := ⟨b, off + i * 9 + 6, none⟩) hl).trans c6, (hb.cell (p := ⟨b, off + i * 9 + 7, none⟩) hl).trans c7, (hb.cell (p := ⟨b, off + i * 9 + 8, none⟩) hl).trans c8⟩⟩⟩
theorem CeV.nil (w : World) (A : Option Addr) : CeV w A [] := ⟨fun h => absurd h (by simp)⟩
/-- what a new block holds -/
def CeB (w : World) (g : Nat) (L : List Ce) : Prop := ∃ cs : Array Value, w.heap[g]? = some (.cells cs 52 (0, 0)) ∧ cs.size = L.length * 9 ∧ ∀ i p, L[i]? = some p → InS cs (i * 9) (valsCe p)
theorem CeB.v {w : World} {g : Nat} {L : List Ce} (h : CeB w g L) : CeV w (some ⟨g, 0, none⟩) L := by
  obtain ⟨cs, hh, hs, hc⟩ := h
  refine ⟨fun _ => ⟨g, 0, rfl, ltS hh, fun i p hp => ?_⟩⟩
  have hi := hc i p hp
  simp only [Nat.zero_add]
  exact ⟨(cellS hh _).trans (hi 0 _ rfl), (cellS hh _).trans (hi 1 _ rfl), (cellS hh _).trans (hi 2 _ rfl), (cellS hh _).trans (hi 3 _ rfl), (cellS hh _).trans (hi 4 _ rfl), (cellS hh _).trans (hi 5 _ rfl), (cellS hh _).trans (hi 6 _ rfl), (cellS hh _).trans (hi 7 _ rfl), (cellS hh _).trans (hi 8 _ rfl)⟩
theorem CeB.lt {w : World} {g : Nat} {L : List Ce} (h : CeB w g L) : g < w.heap.size := by obtain ⟨cs, hh, _⟩ := h; exact ltS hh
theorem CeB.keep {w w' : World} {g : Nat} {L : List Ce} (h : CeB w g L) (hb : Below w.heap.size w w') : CeB w' g L := by
  obtain ⟨cs, hh, hs, hc⟩ := h
  exact ⟨cs, (hb.block g (ltS hh)).trans hh, hs, hc⟩
theorem CeB.but {w w' : World} {g h : Nat} {L : List Ce} (hi : CeB w h L) (hg : w.grownBy w' (some g)) (hne : h ≠ g) : CeB w' h L := by
  obtain ⟨cs, hh, hs, hc⟩ := hi
  exact ⟨cs, (hg.block h (ltS hh) (fun e => hne (Option.some.inj e))).trans hh, hs, hc⟩
theorem madeCe : ∃ f : Nat → Array Value, (∀ n, (f n).size = n * 9) ∧ ∀ (n : Nat) (w : World), n ≤ 1048576 → (Instr.makeSlice 43 (.int .i64 (n : Int)) (.int .i64 (n : Int))).run Try.prog w = .ok (.slice (some ⟨w.heap.size, 0, none⟩) n n) (w.alloc (.cells (f n) 52)) := by
  have hinfo : (Try.prog.info? 52).map (fun i => (i.zero, i.size, i.bytes)) = some (some (.agg #[.int .i64 0, .int .i64 0, .int .i64 0, .int .i64 0, .int .i64 0, .int .i64 0, .int .i64 0, .int .i64 0, .int .i64 0]), 9, 72) := by kernel_rfl
  obtain ⟨i, hi, h1, h2, h3⟩ := info_parts hinfo
  refine ⟨fun n => madeCells (Value.agg #[.int .i64 0, .int .i64 0, .int .i64 0, .int .i64 0, .int .i64 0, .int .i64 0, .int .i64 0, .int .i64 0, .int .i64 0]).cells (n * 9), fun n => size_madeCells _ _, fun n w hn => ?_⟩
  have hr := run_make (P := Try.prog) w 43 52 i _ Try.underlying43 hi h1 .i64 .i64 n n (by omega) (Int.le_refl _) (by rw [h3]; omega) (by omega)
  rw [h2] at hr
  simpa using hr
set_option maxRecDepth 100000 in
theorem toCe_v (p : Ce) (w : World) : Calls Try.prog 71 #[.agg #[.int .i64 p.co, .int .i64 p.ro, .int .i64 p.mc, .int .i64 p.mr, .int .i64 p.cw, .int .i64 p.ch, .int .i64 p.sk, .int .i64 p.px, .int .i64 p.py]] w fun e w' => e = .returned (.agg #[.int .i64 p.co, .int .i64 p.ro, .int .i64 p.mc, .int .i64 p.mr, .int .i64 p.cw, .int .i64 p.ch, .int .i64 p.sk, .int .i64 p.px, .int .i64 p.py]) ∧ Below w.heap.size w w' := by
  obtain ⟨x0, x1, x2, x3, x4, x5, x6, x7, x8⟩ := p
  go_enter Try.func71, Try.ntmps71
  go_wp2
  exact bodyPost_ret (v := .agg #[.int .i64 x0, .int .i64 x1, .int .i64 x2, .int .i64 x3, .int .i64 x4, .int .i64 x5, .int .i64 x6, .int .i64 x7, .int .i64 x8]) (by simp only [results, Try.results71]; go_simp) rfl ⟨rfl, (by repeat (first | with_reducible exact Below.refl _ _ | with_reducible assumption | with_reducible refine balloc ?_ | (with_reducible refine bset ?_ ?_; rotate_left; ((try dsimp only); omega)) | refine bkeep2 ?_ (by assumption) | with_reducible refine Below.drew ?_))⟩
theorem putCe {w : World} {b : Nat} {cs : Array Value} {T : TypeId} {fz : Nat × Nat} (h : w.heap[b]? = some (.cells cs T fz)) (o : Nat) (p : Ce) :
    ((((((((((w.setCell ⟨b, o, none⟩ (.int .i64 p.co)).setCell ⟨b, o + 1, none⟩ (.int .i64 p.ro)).setCell ⟨b, o + 2, none⟩ (.int .i64 p.mc)).setCell ⟨b, o + 3, none⟩ (.int .i64 p.mr)).setCell ⟨b, o + 4, none⟩ (.int .i64 p.cw)).setCell ⟨b, o + 5, none⟩ (.int .i64 p.ch)).setCell ⟨b, o + 6, none⟩ (.int .i64 p.sk)).setCell ⟨b, o + 7, none⟩ (.int .i64 p.px)).setCell ⟨b, o + 8, none⟩ (.int .i64 p.py))).heap[b]? = some (.cells (wrAt cs o (valsCe p)) T fz) :=
  putS (putS (putS (putS (putS (putS (putS (putS (putS h _) _) _) _) _) _) _) _) _
theorem putCeb {B b : Nat} {a w : World} (h : Below B a w) (hb : B ≤ b) (o : Nat) (p : Ce) : Below B a ((((((((((w.setCell ⟨b, o, none⟩ (.int .i64 p.co)).setCell ⟨b, o + 1, none⟩ (.int .i64 p.ro)).setCell ⟨b, o + 2, none⟩ (.int .i64 p.mc)).setCell ⟨b, o + 3, none⟩ (.int .i64 p.mr)).setCell ⟨b, o + 4, none⟩ (.int .i64 p.cw)).setCell ⟨b, o + 5, none⟩ (.int .i64 p.ch)).setCell ⟨b, o + 6, none⟩ (.int .i64 p.sk)).setCell ⟨b, o + 7, none⟩ (.int .i64 p.px)).setCell ⟨b, o + 8, none⟩ (.int .i64 p.py))) :=
  (((((((((h).setCell hb _).setCell hb _).setCell hb _).setCell hb _).setCell hb _).setCell hb _).setCell hb _).setCell hb _).setCell hb _
set_option maxRecDepth 100000 in
theorem toCeS_any (A : Option Addr) (c : Nat) (L : List Ce) (w : World) (h : CeV w A L) (hL : L.length ≤ 1048576) :
    Calls Try.prog 50 #[.slice A L.length c] w fun e w' => e = .returned (.slice (some ⟨w.heap.size, 0, none⟩) L.length L.length) ∧ CeB w' w.heap.size L ∧ Below w.heap.size w w' := by
  obtain ⟨f, hf, hmk0⟩ := madeCe
  have hmk : ∀ w : World, (Instr.makeSlice 43 (.int .i64 (L.length : Int)) (.int .i64 (L.length : Int))).run Try.prog w = .ok (.slice (some ⟨w.heap.size, 0, none⟩) L.length L.length) (w.alloc (.cells (f L.length) 52)) := fun w => hmk0 L.length w hL
  go_enter Try.func50, Try.ntmps50
  go_wp2_with fail
  have HWW : Hid (∃ cs : Array Value, (w.alloc (.cells (f L.length) 52)).heap[w.heap.size]? = some (.cells cs 52 (0, 0)) ∧ cs.size = L.length * 9 ∧ ∀ i p, i < 0 → L[i]? = some p → InS cs (i * 9) (valsCe p)) := Lib.hid ⟨_, newS _ _, hf _, fun i p hi => absurd hi (by omega)⟩
  clear hmk hmk0 hf
  go_loopw [4] (fun i wr => ∃ k : Nat, k ≤ L.length ∧ i = .int .i64 k ∧ (∃ cs : Array Value, wr.heap[w.heap.size]? = some (.cells cs 52 (0, 0)) ∧ cs.size = L.length * 9 ∧ ∀ i p, i < k → L[i]? = some p → InS cs (i * 9) (valsCe p)) ∧ Below w.heap.size w wr) (fun i _ => L.length - (intOf i).toNat)
  case atStart => exact ⟨0, by omega, rfl, HWW.out, balloc (Below.refl _ _)⟩
  case round =>
    obtain ⟨k, hk, rfl, ⟨cs, hh, hs, hc⟩, hB⟩ := hrel
    clear HWW
    by_cases hlt : k < L.length
    · have hd : decide ((k : Int) < (L.length : Int)) = true := by simpa using hlt
      obtain ⟨b, off, rfl, hb, hp⟩ := (h.keep hB).cells (by omega)
      have hget : L[k]? = some L[k] := List.getElem?_eq_getElem hlt
      obtain ⟨c0, c1, c2, c3, c4, c5, c6, c7, c8⟩ := hp k _ hget
      generalize hx : L[k] = p at *
      have HG := Lib.hid hget
      have HX := Lib.hid hx
      have HH := Lib.hid hh
      have HS := Lib.hid hs
      have HC := Lib.hid hc
      have HBB := Lib.hid hB
      have HP := Lib.hid hp
      clear hget hx hh hs hc hB hp
      go_wp2_with fail
      refine (toCe_v p _).mono ?_
      rintro e w1 ⟨rfl, hb1⟩
      have hlg : w.heap.size < wr.heap.size := ltS HH.out
      replace HH := Lib.hid ((hb1.block _ hlg).trans HH.out)
      replace HBB := Lib.hid (HBB.out.trans (hb1.mono HBB.out.size))
      clear hb1 c0 c1 c2 c3 c4 c5 c6 c7 c8 hlg
      have hsz : k * 9 + 9 ≤ cs.size := by rw [HS.out]; omega
      obtain ⟨y0, d0⟩ := thereS HH.out (i := k * 9) (by omega)
      obtain ⟨y1, d1⟩ := thereS HH.out (i := k * 9 + 1) (by omega)
      obtain ⟨y2, d2⟩ := thereS HH.out (i := k * 9 + 2) (by omega)
      obtain ⟨y3, d3⟩ := thereS HH.out (i := k * 9 + 3) (by omega)
      obtain ⟨y4, d4⟩ := thereS HH.out (i := k * 9 + 4) (by omega)
      obtain ⟨y5, d5⟩ := thereS HH.out (i := k * 9 + 5) (by omega)
      obtain ⟨y6, d6⟩ := thereS HH.out (i := k * 9 + 6) (by omega)
      obtain ⟨y7, d7⟩ := thereS HH.out (i := k * 9 + 7) (by omega)
      obtain ⟨y8, d8⟩ := thereS HH.out (i := k * 9 + 8) (by omega)
      have f0 := frozenS HH.out (k * 9)
      have f1 := frozenS HH.out (k * 9 + 1)
      have f2 := frozenS HH.out (k * 9 + 2)
      have f3 := frozenS HH.out (k * 9 + 3)
      have f4 := frozenS HH.out (k * 9 + 4)
      have f5 := frozenS HH.out (k * 9 + 5)
      have f6 := frozenS HH.out (k * 9 + 6)
      have f7 := frozenS HH.out (k * 9 + 7)
      have f8 := frozenS HH.out (k * 9 + 8)
      have E1 := Lib.hid (putCe HH.out (k * 9) p)
      have E2 := Lib.hid (putCeb HBB.out (Nat.le_refl _) (k * 9) p)
      go_wp2
      go_roundw
      case rel => exact ⟨k + 1, by omega, by go_num, ⟨_, E1.out, (wrAt_size _ _ _).trans HS.out, fun i q hi hq => by
        by_cases e : i = k
        · subst e
          obtain rfl : p = q := by have := HG.out; rw [this] at hq; exact Option.some.inj hq
          exact InS.write (by simp only [valsCe, List.length_cons, List.length_nil]; omega)
        · exact (HC.out i q (by omega) hq).keepS (.inl (by simp only [valsCe, List.length_cons, List.length_nil]; omega))⟩, E2.out⟩
      case measure => simp [intOf]; omega
    · have hd : decide ((k : Int) < (L.length : Int)) = false := by simp; omega
      obtain rfl : k = L.length := by omega
      have HR := Lib.hid (show CeB wr w.heap.size L from ⟨cs, hh, hs, fun i p hp => hc i p (List.getElem?_eq_some_iff.1 hp).1 hp⟩)
      have HBB := Lib.hid hB
      clear hh hs hc hB
      go_wp2
      go_ret
      exact ⟨rfl, HR.out, HBB.out⟩
set_option maxRecDepth 100000 in
theorem eqCe_same (p : Ce) (w : World) : Calls Try.prog 76 #[.agg #[.int .i64 p.co, .int .i64 p.ro, .int .i64 p.mc, .int .i64 p.mr, .int .i64 p.cw, .int .i64 p.ch, .int .i64 p.sk, .int .i64 p.px, .int .i64 p.py], .agg #[.int .i64 p.co, .int .i64 p.ro, .int .i64 p.mc, .int .i64 p.mr, .int .i64 p.cw, .int .i64 p.ch, .int .i64 p.sk, .int .i64 p.px, .int .i64 p.py]] w fun e w' => e = .returned (.bool true) ∧ Below w.heap.size w w' := by
  go_enter Try.func76, Try.ntmps76
  go_wp2
  go_ret
  exact ⟨rfl, balloc (balloc (Below.refl _ _))⟩
set_option maxRecDepth 100000 in
theorem eqCeS_same (A B : Option Addr) (c c' : Nat) (L : List Ce) (w : World) (h : CeV w A L) (h' : CeV w B L) (hL : L.length ≤ 1048576) :
    Calls Try.prog 56 #[.slice A L.length c, .slice B L.length c'] w fun e w' => e = .returned (.bool true) ∧ Below w.heap.size w w' := by
  go_enter Try.func56, Try.ntmps56
  go_wp2_with fail
  go_loopw [5] (fun i wr => ∃ k : Nat, k ≤ L.length ∧ i = .int .i64 k ∧ Below w.heap.size w wr) (fun i _ => L.length - (intOf i).toNat)
  case atStart => exact ⟨0, by omega, rfl, Below.refl _ _⟩
  case round =>
    obtain ⟨k, hk, rfl, hB⟩ := hrel
    by_cases hlt : k < L.length
    · have hd : decide ((k : Int) < (L.length : Int)) = true := by simpa using hlt
      obtain ⟨b, off, rfl, hb, hp⟩ := (h.keep hB).cells (by omega)
      obtain ⟨b', off', rfl, hb', hp'⟩ := (h'.keep hB).cells (by omega)
      obtain ⟨c0, c1, c2, c3, c4, c5, c6, c7, c8⟩ := hp k _ (List.getElem?_eq_getElem hlt)
      obtain ⟨d0, d1, d2, d3, d4, d5, d6, d7, d8⟩ := hp' k _ (List.getElem?_eq_getElem hlt)
      generalize hx : L[k] = p at *
      have HX := Lib.hid hx
      have HBB := Lib.hid hB
      clear hx hp hp' hB
      go_wp2_with fail
      refine wp_region_grow 10 0 (· < 10) (by kernel_rfl) (by kernel_rfl) rfl ?_
      iterate 10 (refine wpG_step (fun K hK => ?_); first | (refine grow_skip rfl ?_; go_simp; refine hK _ ?_; clear hK K) | (apply Exists.intro; refine ⟨.inl ⟨rfl, fun w' hw' => ?_⟩, ?_⟩; (focus ((obtain ⟨hc, hf⟩ := bcell hw'.out); (have hcS := bcellS hw'.out); go_simp <;> first | rfl | (go_at_call 76; exact eqCe_same p _))); (go_simp; refine hK _ ?_; clear hK K)))
      refine wpG_nil ?_
      refine wpK_tail (by kernel_rfl) (fun w1 hg1 => ?_)
      have hb1 := bdrewn hg1.out
      refine wpAny_end (by kernel_rfl) ?_
      refine NoPan.thn ?_
      clear hg1
      replace HBB := Lib.hid (HBB.out.trans (hb1.mono HBB.out.size))
      clear hb1 c0 c1 c2 c3 c4 c5 c6 c7 c8 d0 d1 d2 d3 d4 d5 d6 d7 d8
      go_wp2
      go_roundw
      case rel => exact ⟨k + 1, by omega, by go_num, HBB.out⟩
      case measure => simp [intOf]; omega
    · have hd : decide ((k : Int) < (L.length : Int)) = false := by simp; omega
      have HBB := Lib.hid hB
      clear hB
      go_wp2
      go_ret
      exact ⟨rfl, HBB.out⟩
theorem szCeS_yes (A : Option Addr) (c n : Nat) (z : Int) (w : World) (h : (n : Int) ≤ z) (hz : z ≤ 1048576) : Calls Try.prog 47 #[.slice A n c, .int .i64 z] w fun e w' => e = .returned (.int .i64 (z - n)) ∧ w' = w := by
  have h1 : decide (z - (n : Int) < 0) = false := by simp; omega
  go_enter Try.func47, Try.ntmps47
  go_wp2
  go_ret
  exact ⟨rfl, rfl⟩
theorem szCeS_no (A : Option Addr) (c n : Nat) (z : Int) (w : World) (h : ¬ (n : Int) ≤ z) (h0 : 0 ≤ z) (hz : z ≤ 1048576) (hn : n ≤ maxLen) : Calls Try.prog 47 #[.slice A n c, .int .i64 z] w fun e w' => e = .returned (.int .i64 (-1)) ∧ w' = w := by
  unfold maxLen at hn
  have h1 : decide (z - (n : Int) < 0) = true := by simp; omega
  go_enter Try.func47, Try.ntmps47
  go_wp2
  go_ret
  exact ⟨rfl, rfl⟩
end Go.Proofs.Ytjdjahckdgbkbac
end
section
namespace Go.Proofs.Ytjdjahckdgbkbac
open Go.Joins Go.ChangeShapes Go.WideShapes Go.RowKit Go.Deep
set_option linter.unusedVariables false
set_option maxRecDepth 100000 in
theorem cells_of {H : Type} {enc : TypeId × Value → H} {W : World} {a : Option Addr} {len cap : Nat} {d : DataW H} {ps : List MemPlace}
    (h : DataW.Trod enc Try.prog W 0 (fun _ => true) true 37 (.slice a len cap) d ps) : ∃ L : List Ce, L.length = len ∧ CeV W a L ∧ len ≤ maxLen := by
  obtain ⟨fuel, hf⟩ := h
  have h9 : Try.prog.cellsOf 91 = 9 := by kernel_rfl
  rcases open_slice Try.underlying37 hf with ⟨hcs, _⟩ | ⟨x, l, c, m, fu, D, Pl, hcs, _, hl, hm, hmm, _, hi⟩
  · simp [Value.cells] at hcs
    obtain ⟨rfl, rfl, rfl⟩ := hcs
    exact ⟨[], rfl, CeV.nil _ _, by simp⟩
  · simp [Value.cells] at hcs
    obtain ⟨rfl, rfl, rfl⟩ := hcs
    have hlen : len ≤ m := by rw [hmm]; simp; exact hl
    have each : ∀ i, i < len → ∃ p : Ce, ∀ j, j < 9 → W.cell? (x.add (i * 9 + j)) = (valsCe p)[j]? := by
      intro i him
      obtain ⟨cs, hrow, hread⟩ := hi i (by omega)
      rw [h9] at hrow
      obtain ⟨_, hsz, hat⟩ := World.cells?_some hrow
      obtain ⟨ys, n, _, _, _, hyl, hg⟩ := DataW.trod_struct Try.underlying91 hread
      match cs, hsz, hat, hg with
      | [k0, k1, k2, k3, k4, k5, k6, k7, k8], _, hat, hg =>
        match ys, hyl, hg with
        | [y0, y1, y2, y3, y4, y5, y6, y7, y8], _, hg =>
          have t0 : DataW.trod enc Try.prog W 0 (fun _ => true) true n 3 [k0] = some y0 := by
            have g := hg 0 _ rfl
            have c : Try.prog.cellsOf 3 = 1 := by kernel_rfl
            simpa [c] using g
          have t1 : DataW.trod enc Try.prog W 0 (fun _ => true) true n 3 [k1] = some y1 := by
            have g := hg 1 _ rfl
            have c : Try.prog.cellsOf 3 = 1 := by kernel_rfl
            simpa [c] using g
          have t2 : DataW.trod enc Try.prog W 0 (fun _ => true) true n 3 [k2] = some y2 := by
            have g := hg 2 _ rfl
            have c : Try.prog.cellsOf 3 = 1 := by kernel_rfl
            simpa [c] using g
          have t3 : DataW.trod enc Try.prog W 0 (fun _ => true) true n 3 [k3] = some y3 := by
            have g := hg 3 _ rfl
            have c : Try.prog.cellsOf 3 = 1 := by kernel_rfl
            simpa [c] using g
          have t4 : DataW.trod enc Try.prog W 0 (fun _ => true) true n 3 [k4] = some y4 := by
            have g := hg 4 _ rfl
            have c : Try.prog.cellsOf 3 = 1 := by kernel_rfl
            simpa [c] using g
          have t5 : DataW.trod enc Try.prog W 0 (fun _ => true) true n 3 [k5] = some y5 := by
            have g := hg 5 _ rfl
            have c : Try.prog.cellsOf 3 = 1 := by kernel_rfl
            simpa [c] using g
          have t6 : DataW.trod enc Try.prog W 0 (fun _ => true) true n 3 [k6] = some y6 := by
            have g := hg 6 _ rfl
            have c : Try.prog.cellsOf 3 = 1 := by kernel_rfl
            simpa [c] using g
          have t7 : DataW.trod enc Try.prog W 0 (fun _ => true) true n 3 [k7] = some y7 := by
            have g := hg 7 _ rfl
            have c : Try.prog.cellsOf 3 = 1 := by kernel_rfl
            simpa [c] using g
          have t8 : DataW.trod enc Try.prog W 0 (fun _ => true) true n 3 [k8] = some y8 := by
            have g := hg 8 _ rfl
            have c : Try.prog.cellsOf 3 = 1 := by kernel_rfl
            simpa [c] using g
          obtain ⟨z0, e0, _, _⟩ := DataW.trod_int Try.underlying3 t0
          obtain ⟨z1, e1, _, _⟩ := DataW.trod_int Try.underlying3 t1
          obtain ⟨z2, e2, _, _⟩ := DataW.trod_int Try.underlying3 t2
          obtain ⟨z3, e3, _, _⟩ := DataW.trod_int Try.underlying3 t3
          obtain ⟨z4, e4, _, _⟩ := DataW.trod_int Try.underlying3 t4
          obtain ⟨z5, e5, _, _⟩ := DataW.trod_int Try.underlying3 t5
          obtain ⟨z6, e6, _, _⟩ := DataW.trod_int Try.underlying3 t6
          obtain ⟨z7, e7, _, _⟩ := DataW.trod_int Try.underlying3 t7
          obtain ⟨z8, e8, _, _⟩ := DataW.trod_int Try.underlying3 t8
          simp only [List.cons.injEq, and_true] at e0 e1 e2 e3 e4 e5 e6 e7 e8
          subst e0 e1 e2 e3 e4 e5 e6 e7 e8
          refine ⟨⟨z0, z1, z2, z3, z4, z5, z6, z7, z8⟩, fun j hj => ?_⟩
          have hb : ∀ (a : Addr) (i j : Nat), (a.add i).add j = a.add (i + j) := fun a i j => by
            unfold Addr.add
            by_cases hi : i = 0 <;> by_cases hj : j = 0 <;> simp [hi, hj, Nat.add_assoc]
          have := hat j hj
          rw [hb] at this
          exact this
    have hch : ∃ f : Nat → Ce, ∀ i, i < len → ∀ j, j < 9 → W.cell? (x.add (i * 9 + j)) = (valsCe (f i))[j]? := by
      refine ⟨fun i => if h : i < len then Classical.choose (each i h) else ⟨0, 0, 0, 0, 0, 0, 0, 0, 0⟩, fun i him => ?_⟩
      simp only [him, dif_pos]
      exact Classical.choose_spec (each i him)
    obtain ⟨f, hfc⟩ := hch
    refine ⟨(List.range len).map f, by simp, ⟨fun h0 => ?_⟩, by omega⟩
    have h0' : 0 < len := by simpa using h0
    obtain ⟨b, off, spot⟩ := x
    have hc := hfc 0 h0' 0 (by omega)
    have hc' : W.cell? ⟨b, off, spot⟩ = some (.int .i64 (f 0).co) := by simpa [Addr.add, valsCe] using hc
    have hspot : spot = none := World.cell?_spot hc'
    subst hspot
    refine ⟨b, off, rfl, World.block_lt_of_cell? W _ hc', fun i p hp => ?_⟩
    have hil : i < len := by
      have := (List.getElem?_eq_some_iff.1 hp).1
      simpa using this
    have hpe : p = f i := by
      rw [List.getElem?_map, List.getElem?_range hil] at hp
      simpa using hp.symm
    subst hpe
    have hadd : ∀ n : Nat, (⟨b, off, none⟩ : Addr).add n = ⟨b, off + n, none⟩ := fun n => by
      unfold Addr.add
      split
      · rename_i h; subst h; rfl
      · rfl
    have hcell := hfc i hil
    simp only [hadd] at hcell
    have e : ∀ j, j < 9 → W.cell? ⟨b, off + i * 9 + j, none⟩ = (valsCe (f i))[j]? := fun j hj => by rw [Nat.add_assoc]; exact hcell j hj
    exact ⟨e 0 (by omega), e 1 (by omega), e 2 (by omega), e 3 (by omega), e 4 (by omega), e 5 (by omega), e 6 (by omega), e 7 (by omega), e 8 (by omega)⟩
end Go.Proofs.Ytjdjahckdgbkbac
end
section
namespace Go.Proofs.Ytjdjahckdgbkbac
open Go.Joins Go.ChangeShapes Go.WideShapes Go.RowKit Go.Deep
set_option linter.unusedVariables false
set_option maxRecDepth 100000 in
theorem slLn_of {H : Type} {enc : TypeId × Value → H} {W : World} {n : Nat} {v0 : Value} {y : DataW H × List MemPlace}
    (h : DataW.trod enc Try.prog W 0 (fun _ => true) true n 36 [v0] = some y) : ∃ a c, ∃ L : List Ln, v0 = .slice a L.length c ∧ LnV W a L ∧ L.length ≤ maxLen := by
  obtain ⟨a, len, c, rfl⟩ : ∃ a len c, v0 = .slice a len c := by
    rcases open_slice Try.underlying36 h with ⟨hcs, _⟩ | ⟨x, l, c, m, fu, D, Pl, hcs, _⟩
    · exact ⟨none, 0, 0, by simpa using hcs⟩
    · exact ⟨some x, l, c, by simpa using hcs⟩
  obtain ⟨L, rfl, k, m⟩ := lines_of (enc := enc) (a := a) (len := len) (cap := c) (d := y.1) (ps := y.2) ⟨n, by simpa [Value.cells] using h⟩
  exact ⟨a, c, L, rfl, k, m⟩
set_option maxRecDepth 100000 in
theorem slCe_of {H : Type} {enc : TypeId × Value → H} {W : World} {n : Nat} {v0 : Value} {y : DataW H × List MemPlace}
    (h : DataW.trod enc Try.prog W 0 (fun _ => true) true n 37 [v0] = some y) : ∃ a c, ∃ L : List Ce, v0 = .slice a L.length c ∧ CeV W a L ∧ L.length ≤ maxLen := by
  obtain ⟨a, len, c, rfl⟩ : ∃ a len c, v0 = .slice a len c := by
    rcases open_slice Try.underlying37 h with ⟨hcs, _⟩ | ⟨x, l, c, m, fu, D, Pl, hcs, _⟩
    · exact ⟨none, 0, 0, by simpa using hcs⟩
    · exact ⟨some x, l, c, by simpa using hcs⟩
  obtain ⟨L, rfl, k, m⟩ := cells_of (enc := enc) (a := a) (len := len) (cap := c) (d := y.1) (ps := y.2) ⟨n, by simpa [Value.cells] using h⟩
  exact ⟨a, c, L, rfl, k, m⟩
set_option maxRecDepth 100000 in
theorem grid_of {H : Type} {enc : TypeId × Value → H} {W : World} {base : Nat} {v : Value} {d : DataW H} {ps : List MemPlace}
    (hv : Value.okWide Try.prog W .any base 39 v) (h : DataW.Trod enc Try.prog W 0 (fun _ => true) true 39 v d ps) :
    ∃ a1 c1, ∃ L1 : List Ln, ∃ a2 c2, ∃ L2 : List Ln, ∃ a3 c3, ∃ L3 : List Ce, v = .agg #[.slice a1 L1.length c1, .slice a2 L2.length c2, .slice a3 L3.length c3] ∧ (LnV W a1 L1 ∧ L1.length ≤ maxLen) ∧ (LnV W a2 L2 ∧ L2.length ≤ maxLen) ∧ (CeV W a3 L3 ∧ L3.length ≤ maxLen) := by
  obtain ⟨v0, v1, v2, y0, y1, y2, n, rfl, _, _, h0, h1, h2⟩ := open_agg3' Try.underlying39 (by kernel_rfl) (by kernel_rfl) hv h
  obtain ⟨a1, c1, L1, rfl, k1, m1⟩ := slLn_of h0
  obtain ⟨a2, c2, L2, rfl, k2, m2⟩ := slLn_of h1
  obtain ⟨a3, c3, L3, rfl, k3, m3⟩ := slCe_of h2
  exact ⟨a1, c1, L1, a2, c2, L2, a3, c3, L3, rfl, ⟨k1, m1⟩, ⟨k2, m2⟩, ⟨k3, m3⟩⟩
end Go.Proofs.Ytjdjahckdgbkbac
end
