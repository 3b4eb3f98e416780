import Derived.Test.YtignigcknfklkaaQ03
section
namespace Go.Proofs.Ytignigcknfklkaa
open Go.RowKit
set_option linter.unusedVariables false
set_option maxHeartbeats 1000000
attribute [local go_sem] growUpon_value growUpon_skip growUpon_enter
structure Ce where
  co : Int
  ro : Int
  mc : Int
  mr : Int
  cw : Int
  ch : Int
  sk : Int
  px : Int
  py : Int
def valsCe (p : Ce) : List Value := [.int .i64 p.co, .int .i64 p.ro, .int .i64 p.mc, .int .i64 p.mr, .int .i64 p.cw, .int .i64 p.ch, .int .i64 p.sk, .int .i64 p.px, .int .i64 p.py]
/-- a slice that reads as this list -/
structure CeV (w : World) (A : Option Addr) (L : List Ce) : Prop where
  cells : 0 < L.length → ∃ b off, A = some ⟨b, off, none⟩ ∧ b < w.heap.size ∧ ∀ i p, L[i]? = some p → w.cell? ⟨b, off + i * 9, none⟩ = some (.int .i64 p.co) ∧ w.cell? ⟨b, off + i * 9 + 1, none⟩ = some (.int .i64 p.ro) ∧ w.cell? ⟨b, off + i * 9 + 2, none⟩ = some (.int .i64 p.mc) ∧ w.cell? ⟨b, off + i * 9 + 3, none⟩ = some (.int .i64 p.mr) ∧ w.cell? ⟨b, off + i * 9 + 4, none⟩ = some (.int .i64 p.cw) ∧ w.cell? ⟨b, off + i * 9 + 5, none⟩ = some (.int .i64 p.ch) ∧ w.cell? ⟨b, off + i * 9 + 6, none⟩ = some (.int .i64 p.sk) ∧ w.cell? ⟨b, off + i * 9 + 7, none⟩ = some (.int .i64 p.px) ∧ w.cell? ⟨b, off + i * 9 + 8, none⟩ = some (.int .i64 p.py)
theorem CeV.keep {w w' : World} {A : Option Addr} {L : List Ce} (h : CeV w A L) (hb : Below w.heap.size w w') : CeV w' A L :=
  ⟨fun h0 => let ⟨b, off, e, hl, hp⟩ := h.cells h0; ⟨b, off, e, Nat.lt_of_lt_of_le hl hb.size, fun i p hi => by
    obtain ⟨c0, c1, c2, c3, c4, c5, c6, c7, c8⟩ := hp i p hi
    exact ⟨(hb.cell (p := ⟨b, off + i * 9, none⟩) hl).trans c0, (hb.cell (p := ⟨b, off + i * 9 + 1, none⟩) hl).trans c1, (hb.cell (p := ⟨b, off + i * 9 + 2, none⟩) hl).trans c2, (hb.cell (p := ⟨b, off + i * 9 + 3, none⟩) hl).trans c3, (hb.cell (p := ⟨b, off + i * 9 + 4, none⟩) hl).trans c4, (hb.cell (p := ⟨b, off + i * 9 + 5, none⟩) hl).trans c5, (hb.cell (p := ⟨b, off + i * 9 + 6, none⟩) hl).trans c6, (hb.cell (p := ⟨b, off + i * 9 + 7, none⟩) hl).trans c7, (hb.cell (p := ⟨b, off + i * 9 + 8, none⟩) hl).trans c8⟩⟩⟩
theorem CeV.nil (w : World) (A : Option Addr) : CeV w A [] := ⟨fun h => absurd h (by simp)⟩
/-- what a new block holds -/
def CeB (w : World) (g : Nat) (L : List Ce) : Prop := ∃ cs : Array Value, w.heap[g]? = some (.cells cs 47 (0, 0)) ∧ cs.size = L.length * 9 ∧ ∀ i p, L[i]? = some p → InS cs (i * 9) (valsCe p)
theorem CeB.v {w : World} {g : Nat} {L : List Ce} (h : CeB w g L) : CeV w (some ⟨g, 0, none⟩) L := by
  obtain ⟨cs, hh, hs, hc⟩ := h
  refine ⟨fun _ => ⟨g, 0, rfl, ltS hh, fun i p hp => ?_⟩⟩
  have hi := hc i p hp
  simp only [Nat.zero_add]
  exact ⟨(cellS hh _).trans (hi 0 _ rfl), (cellS hh _).trans (hi 1 _ rfl), (cellS hh _).trans (hi 2 _ rfl), (cellS hh _).trans (hi 3 _ rfl), (cellS hh _).trans (hi 4 _ rfl), (cellS hh _).trans (hi 5 _ rfl), (cellS hh _).trans (hi 6 _ rfl), (cellS hh _).trans (hi 7 _ rfl), (cellS hh _).trans (hi 8 _ rfl)⟩
theorem CeB.lt {w : World} {g : Nat} {L : List Ce} (h : CeB w g L) : g < w.heap.size := by obtain ⟨cs, hh, _⟩ := h; exact ltS hh
theorem CeB.keep {w w' : World} {g : Nat} {L : List Ce} (h : CeB w g L) (hb : Below w.heap.size w w') : CeB w' g L := by
  obtain ⟨cs, hh, hs, hc⟩ := h
  exact ⟨cs, (hb.block g (ltS hh)).trans hh, hs, hc⟩
theorem CeB.but {w w' : World} {g h : Nat} {L : List Ce} (hi : CeB w h L) (hg : w.grownBy w' (some g)) (hne : h ≠ g) : CeB w' h L := by
  obtain ⟨cs, hh, hs, hc⟩ := hi
  exact ⟨cs, (hg.block h (ltS hh) (fun e => hne (Option.some.inj e))).trans hh, hs, hc⟩
theorem madeCe : ∃ f : Nat → Array Value, (∀ n, (f n).size = n * 9) ∧ ∀ (n : Nat) (w : World), n ≤ 1048576 → (Instr.makeSlice 30 (.int .i64 (n : Int)) (.int .i64 (n : Int))).run Try.prog w = .ok (.slice (some ⟨w.heap.size, 0, none⟩) n n) (w.alloc (.cells (f n) 47)) := by
  have hinfo : (Try.prog.info? 47).map (fun i => (i.zero, i.size, i.bytes)) = some (some (.agg #[.int .i64 0, .int .i64 0, .int .i64 0, .int .i64 0, .int .i64 0, .int .i64 0, .int .i64 0, .int .i64 0, .int .i64 0]), 9, 72) := by kernel_rfl
  obtain ⟨i, hi, h1, h2, h3⟩ := info_parts hinfo
  refine ⟨fun n => madeCells (Value.agg #[.int .i64 0, .int .i64 0, .int .i64 0, .int .i64 0, .int .i64 0, .int .i64 0, .int .i64 0, .int .i64 0, .int .i64 0]).cells (n * 9), fun n => size_madeCells _ _, fun n w hn => ?_⟩
  have hr := run_make (P := Try.prog) w 30 47 i _ Try.underlying30 hi h1 .i64 .i64 n n (by omega) (Int.le_refl _) (by rw [h3]; omega) (by omega)
  rw [h2] at hr
  simpa using hr
set_option maxRecDepth 100000 in
theorem toCe_v (p : Ce) (w : World) : Calls Try.prog 63 #[.agg #[.int .i64 p.co, .int .i64 p.ro, .int .i64 p.mc, .int .i64 p.mr, .int .i64 p.cw, .int .i64 p.ch, .int .i64 p.sk, .int .i64 p.px, .int .i64 p.py]] w fun e w' => e = .returned (.agg #[.int .i64 p.co, .int .i64 p.ro, .int .i64 p.mc, .int .i64 p.mr, .int .i64 p.cw, .int .i64 p.ch, .int .i64 p.sk, .int .i64 p.px, .int .i64 p.py]) ∧ Below w.heap.size w w' := by
  obtain ⟨x0, x1, x2, x3, x4, x5, x6, x7, x8⟩ := p
  go_enter Try.func63, Try.ntmps63
  go_wp2
  exact bodyPost_ret (v := .agg #[.int .i64 x0, .int .i64 x1, .int .i64 x2, .int .i64 x3, .int .i64 x4, .int .i64 x5, .int .i64 x6, .int .i64 x7, .int .i64 x8]) (by simp only [results, Try.results63]; go_simp) rfl ⟨rfl, (by repeat (first | with_reducible exact Below.refl _ _ | with_reducible assumption | with_reducible refine balloc ?_ | (with_reducible refine bset ?_ ?_; rotate_left; ((try dsimp only); omega)) | refine bkeep2 ?_ (by assumption) | with_reducible refine Below.drew ?_))⟩
theorem putCe {w : World} {b : Nat} {cs : Array Value} {T : TypeId} {fz : Nat × Nat} (h : w.heap[b]? = some (.cells cs T fz)) (o : Nat) (p : Ce) :
    ((((((((((w.setCell ⟨b, o, none⟩ (.int .i64 p.co)).setCell ⟨b, o + 1, none⟩ (.int .i64 p.ro)).setCell ⟨b, o + 2, none⟩ (.int .i64 p.mc)).setCell ⟨b, o + 3, none⟩ (.int .i64 p.mr)).setCell ⟨b, o + 4, none⟩ (.int .i64 p.cw)).setCell ⟨b, o + 5, none⟩ (.int .i64 p.ch)).setCell ⟨b, o + 6, none⟩ (.int .i64 p.sk)).setCell ⟨b, o + 7, none⟩ (.int .i64 p.px)).setCell ⟨b, o + 8, none⟩ (.int .i64 p.py))).heap[b]? = some (.cells (wrAt cs o (valsCe p)) T fz) :=
  putS (putS (putS (putS (putS (putS (putS (putS (putS h _) _) _) _) _) _) _) _) _
theorem putCeb {B b : Nat} {a w : World} (h : Below B a w) (hb : B ≤ b) (o : Nat) (p : Ce) : Below B a ((((((((((w.setCell ⟨b, o, none⟩ (.int .i64 p.co)).setCell ⟨b, o + 1, none⟩ (.int .i64 p.ro)).setCell ⟨b, o + 2, none⟩ (.int .i64 p.mc)).setCell ⟨b, o + 3, none⟩ (.int .i64 p.mr)).setCell ⟨b, o + 4, none⟩ (.int .i64 p.cw)).setCell ⟨b, o + 5, none⟩ (.int .i64 p.ch)).setCell ⟨b, o + 6, none⟩ (.int .i64 p.sk)).setCell ⟨b, o + 7, none⟩ (.int .i64 p.px)).setCell ⟨b, o + 8, none⟩ (.int .i64 p.py))) :=
  (((((((((h).setCell hb _).setCell hb _).setCell hb _).setCell hb _).setCell hb _).setCell hb _).setCell hb _).setCell hb _).setCell hb _
set_option maxRecDepth 100000 in
theorem toCeS_any (A : Option Addr) (c : Nat) (L : List Ce) (w : World) (h : CeV w A L) (hL : L.length ≤ 1048576) :
    Calls Try.prog 33 #[.slice A L.length c] w fun e w' => e = .returned (.slice (some ⟨w.heap.size, 0, none⟩) L.length L.length) ∧ CeB w' w.heap.size L ∧ Below w.heap.size w w' := by
  obtain ⟨f, hf, hmk0⟩ := madeCe
  have hmk : ∀ w : World, (Instr.makeSlice 30 (.int .i64 (L.length : Int)) (.int .i64 (L.length : Int))).run Try.prog w = .ok (.slice (some ⟨w.heap.size, 0, none⟩) L.length L.length) (w.alloc (.cells (f L.length) 47)) := fun w => hmk0 L.length w hL
  go_enter Try.func33, Try.ntmps33
  go_wp2_with fail
  have HWW : Hid (∃ cs : Array Value, (w.alloc (.cells (f L.length) 47)).heap[w.heap.size]? = some (.cells cs 47 (0, 0)) ∧ cs.size = L.length * 9 ∧ ∀ i p, i < 0 → L[i]? = some p → InS cs (i * 9) (valsCe p)) := Lib.hid ⟨_, newS _ _, hf _, fun i p hi => absurd hi (by omega)⟩
  clear hmk hmk0 hf
  go_loopw [4] (fun i wr => ∃ k : Nat, k ≤ L.length ∧ i = .int .i64 k ∧ (∃ cs : Array Value, wr.heap[w.heap.size]? = some (.cells cs 47 (0, 0)) ∧ cs.size = L.length * 9 ∧ ∀ i p, i < k → L[i]? = some p → InS cs (i * 9) (valsCe p)) ∧ Below w.heap.size w wr) (fun i _ => L.length - (intOf i).toNat)
  case atStart => exact ⟨0, by omega, rfl, HWW.out, balloc (Below.refl _ _)⟩
  case round =>
    obtain ⟨k, hk, rfl, ⟨cs, hh, hs, hc⟩, hB⟩ := hrel
    clear HWW
    by_cases hlt : k < L.length
    · have hd : decide ((k : Int) < (L.length : Int)) = true := by simpa using hlt
      obtain ⟨b, off, rfl, hb, hp⟩ := (h.keep hB).cells (by omega)
      have hget : L[k]? = some L[k] := List.getElem?_eq_getElem hlt
      obtain ⟨c0, c1, c2, c3, c4, c5, c6, c7, c8⟩ := hp k _ hget
      generalize hx : L[k] = p at *
      have HG := Lib.hid hget
      have HX := Lib.hid hx
      have HH := Lib.hid hh
      have HS := Lib.hid hs
      have HC := Lib.hid hc
      have HBB := Lib.hid hB
      have HP := Lib.hid hp
      clear hget hx hh hs hc hB hp
      go_wp2_with fail
      refine (toCe_v p _).mono ?_
      rintro e w1 ⟨rfl, hb1⟩
      have hlg : w.heap.size < wr.heap.size := ltS HH.out
      replace HH := Lib.hid ((hb1.block _ hlg).trans HH.out)
      replace HBB := Lib.hid (HBB.out.trans (hb1.mono HBB.out.size))
      clear hb1 c0 c1 c2 c3 c4 c5 c6 c7 c8 hlg
      have hsz : k * 9 + 9 ≤ cs.size := by rw [HS.out]; omega
      obtain ⟨y0, d0⟩ := thereS HH.out (i := k * 9) (by omega)
      obtain ⟨y1, d1⟩ := thereS HH.out (i := k * 9 + 1) (by omega)
      obtain ⟨y2, d2⟩ := thereS HH.out (i := k * 9 + 2) (by omega)
      obtain ⟨y3, d3⟩ := thereS HH.out (i := k * 9 + 3) (by omega)
      obtain ⟨y4, d4⟩ := thereS HH.out (i := k * 9 + 4) (by omega)
      obtain ⟨y5, d5⟩ := thereS HH.out (i := k * 9 + 5) (by omega)
      obtain ⟨y6, d6⟩ := thereS HH.out (i := k * 9 + 6) (by omega)
      obtain ⟨y7, d7⟩ := thereS HH.out (i := k * 9 + 7) (by omega)
      obtain ⟨y8, d8⟩ := thereS HH.out (i := k * 9 + 8) (by omega)
      have f0 := frozenS HH.out (k * 9)
      have f1 := frozenS HH.out (k * 9 + 1)
      have f2 := frozenS HH.out (k * 9 + 2)
      have f3 := frozenS HH.out (k * 9 + 3)
      have f4 := frozenS HH.out (k * 9 + 4)
      have f5 := frozenS HH.out (k * 9 + 5)
      have f6 := frozenS HH.out (k * 9 + 6)
      have f7 := frozenS HH.out (k * 9 + 7)
      have f8 := frozenS HH.out (k * 9 + 8)
      have E1 := Lib.hid (putCe HH.out (k * 9) p)
      have E2 := Lib.hid (putCeb HBB.out (Nat.le_refl _) (k * 9) p)
      go_wp2
      go_roundw
      case rel => exact ⟨k + 1, by omega, by go_num, ⟨_, E1.out, (wrAt_size _ _ _).trans HS.out, fun i q hi hq => by
        by_cases e : i = k
        · subst e
          obtain rfl : p = q := by have := HG.out; rw [this] at hq; exact Option.some.inj hq
          exact InS.write (by simp only [valsCe, List.length_cons, List.length_nil]; omega)
        · exact (HC.out i q (by omega) hq).keepS (.inl (by simp only [valsCe, List.length_cons, List.length_nil]; omega))⟩, E2.out⟩
      case measure => simp [intOf]; omega
    · have hd : decide ((k : Int) < (L.length : Int)) = false := by simp; omega
      obtain rfl : k = L.length := by omega
      have HR := Lib.hid (show CeB wr w.heap.size L from ⟨cs, hh, hs, fun i p hp => hc i p (List.getElem?_eq_some_iff.1 hp).1 hp⟩)
      have HBB := Lib.hid hB
      clear hh hs hc hB
      go_wp2
      go_ret
      exact ⟨rfl, HR.out, HBB.out⟩
set_option maxRecDepth 100000 in
theorem eqCe_same (p : Ce) (w : World) : Calls Try.prog 70 #[.agg #[.int .i64 p.co, .int .i64 p.ro, .int .i64 p.mc, .int .i64 p.mr, .int .i64 p.cw, .int .i64 p.ch, .int .i64 p.sk, .int .i64 p.px, .int .i64 p.py], .agg #[.int .i64 p.co, .int .i64 p.ro, .int .i64 p.mc, .int .i64 p.mr, .int .i64 p.cw, .int .i64 p.ch, .int .i64 p.sk, .int .i64 p.px, .int .i64 p.py]] w fun e w' => e = .returned (.bool true) ∧ Below w.heap.size w w' := by
  go_enter Try.func70, Try.ntmps70
  go_wp2
  go_ret
  exact ⟨rfl, balloc (balloc (Below.refl _ _))⟩
set_option maxRecDepth 100000 in
theorem eqCeS_same (A B : Option Addr) (c c' : Nat) (L : List Ce) (w : World) (h : CeV w A L) (h' : CeV w B L) (hL : L.length ≤ 1048576) :
    Calls Try.prog 36 #[.slice A L.length c, .slice B L.length c'] w fun e w' => e = .returned (.bool true) ∧ Below w.heap.size w w' := by
  go_enter Try.func36, Try.ntmps36
  go_wp2_with fail
  go_loopw [5] (fun i wr => ∃ k : Nat, k ≤ L.length ∧ i = .int .i64 k ∧ Below w.heap.size w wr) (fun i _ => L.length - (intOf i).toNat)
  case atStart => exact ⟨0, by omega, rfl, Below.refl _ _⟩
  case round =>
    obtain ⟨k, hk, rfl, hB⟩ := hrel
    by_cases hlt : k < L.length
    · have hd : decide ((k : Int) < (L.length : Int)) = true := by simpa using hlt
      obtain ⟨b, off, rfl, hb, hp⟩ := (h.keep hB).cells (by omega)
      obtain ⟨b', off', rfl, hb', hp'⟩ := (h'.keep hB).cells (by omega)
      obtain ⟨c0, c1, c2, c3, c4, c5, c6, c7, c8⟩ := hp k _ (List.getElem?_eq_getElem hlt)
      obtain ⟨d0, d1, d2, d3, d4, d5, d6, d7, d8⟩ := hp' k _ (List.getElem?_eq_getElem hlt)
      generalize hx : L[k] = p at *
      have HX := Lib.hid hx
      have HBB := Lib.hid hB
      clear hx hp hp' hB
      go_wp2_with fail
      refine wp_region_grow 10 0 (· < 10) (by kernel_rfl) (by kernel_rfl) rfl ?_
      iterate 10 (refine wpG_step (fun K hK => ?_); first | (refine grow_skip rfl ?_; go_simp; refine hK _ ?_; clear hK K) | (apply Exists.intro; refine ⟨.inl ⟨rfl, fun w' hw' => ?_⟩, ?_⟩; (focus ((obtain ⟨hc, hf⟩ := bcell hw'.out); (have hcS := bcellS hw'.out); go_simp <;> first | rfl | (go_at_call 70; exact eqCe_same p _))); (go_simp; refine hK _ ?_; clear hK K)))
      refine wpG_nil ?_
      refine wpK_tail (by kernel_rfl) (fun w1 hg1 => ?_)
      have hb1 := bdrewn hg1.out
      refine wpAny_end (by kernel_rfl) ?_
      refine NoPan.thn ?_
      clear hg1
      replace HBB := Lib.hid (HBB.out.trans (hb1.mono HBB.out.size))
      clear hb1 c0 c1 c2 c3 c4 c5 c6 c7 c8 d0 d1 d2 d3 d4 d5 d6 d7 d8
      go_wp2
      go_roundw
      case rel => exact ⟨k + 1, by omega, by go_num, HBB.out⟩
      case measure => simp [intOf]; omega
    · have hd : decide ((k : Int) < (L.length : Int)) = false := by simp; omega
      have HBB := Lib.hid hB
      clear hB
      go_wp2
      go_ret
      exact ⟨rfl, HBB.out⟩
theorem szCeS_yes (A : Option Addr) (c n : Nat) (z : Int) (w : World) (h : (n : Int) ≤ z) (hz : z ≤ 1048576) : Calls Try.prog 29 #[.slice A n c, .int .i64 z] w fun e w' => e = .returned (.int .i64 (z - n)) ∧ w' = w := by
  have h1 : decide (z - (n : Int) < 0) = false := by simp; omega
  go_enter Try.func29, Try.ntmps29
  go_wp2
  go_ret
  exact ⟨rfl, rfl⟩
theorem szCeS_no (A : Option Addr) (c n : Nat) (z : Int) (w : World) (h : ¬ (n : Int) ≤ z) (h0 : 0 ≤ z) (hz : z ≤ 1048576) (hn : n ≤ maxLen) : Calls Try.prog 29 #[.slice A n c, .int .i64 z] w fun e w' => e = .returned (.int .i64 (-1)) ∧ w' = w := by
  unfold maxLen at hn
  have h1 : decide (z - (n : Int) < 0) = true := by simp; omega
  go_enter Try.func29, Try.ntmps29
  go_wp2
  go_ret
  exact ⟨rfl, rfl⟩
set_option maxRecDepth 100000 in
theorem markCeS_v (g n : Nat) (z : Int) (L : List Ce) (w : World) (h : CeB w g L) (hn : n = L.length) (hL : L.length ≤ 1048576) (h0 : 1 ≤ z) (hz : z ≤ 1000000000) :
    Calls Try.prog 50 #[.slice (some ⟨g, 0, none⟩) n n, .int .i64 z] w fun e w' => e = .returned (.int .i64 ((L.length : Int) * 9 + z)) ∧ w.grownBy w' (some g) := by
  subst hn
  obtain ⟨cs0, hh0, hs0, _⟩ := h
  have H0 := Lib.hid (And.intro hh0 hs0)
  clear hh0 hs0
  go_enter Try.func50, Try.ntmps50
  go_wp2_with fail
  go_loopw [1, 5] (fun kk i wr => ∃ k : Nat, k ≤ L.length ∧ i = .int .i64 k ∧ kk = .int .i64 ((k : Int) * 9 + z) ∧ (∃ cs : Array Value, wr.heap[g]? = some (.cells cs 47 (0, 0)) ∧ cs.size = L.length * 9) ∧ w.grownBy wr (some g)) (fun _ i _ => L.length - (intOf i).toNat)
  case atStart => exact ⟨0, by omega, rfl, by simp, ⟨_, H0.out.1, H0.out.2⟩, greflS _ _⟩
  case round =>
    obtain ⟨k, hk, rfl, rfl, ⟨cs, hh, hs⟩, hB⟩ := hrel
    clear H0
    by_cases hlt : k < L.length
    · have hd : decide ((k : Int) < (L.length : Int)) = true := by simpa using hlt
      obtain ⟨y0, d0⟩ := thereS hh (i := k * 9) (by omega)
      obtain ⟨y1, d1⟩ := thereS hh (i := k * 9 + 1) (by omega)
      obtain ⟨y2, d2⟩ := thereS hh (i := k * 9 + 2) (by omega)
      obtain ⟨y3, d3⟩ := thereS hh (i := k * 9 + 3) (by omega)
      obtain ⟨y4, d4⟩ := thereS hh (i := k * 9 + 4) (by omega)
      obtain ⟨y5, d5⟩ := thereS hh (i := k * 9 + 5) (by omega)
      obtain ⟨y6, d6⟩ := thereS hh (i := k * 9 + 6) (by omega)
      obtain ⟨y7, d7⟩ := thereS hh (i := k * 9 + 7) (by omega)
      obtain ⟨y8, d8⟩ := thereS hh (i := k * 9 + 8) (by omega)
      have f0 := frozenS hh (k * 9)
      have f1 := frozenS hh (k * 9 + 1)
      have f2 := frozenS hh (k * 9 + 2)
      have f3 := frozenS hh (k * 9 + 3)
      have f4 := frozenS hh (k * 9 + 4)
      have f5 := frozenS hh (k * 9 + 5)
      have f6 := frozenS hh (k * 9 + 6)
      have f7 := frozenS hh (k * 9 + 7)
      have f8 := frozenS hh (k * 9 + 8)
      have HH := Lib.hid hh
      have HS := Lib.hid hs
      have HB := Lib.hid hB
      clear hh hs hB
      go_wp2_with fail
      go_roundw
      case rel =>
        refine ⟨k + 1, by omega, by go_num, by go_num, ⟨_, putS (putS (putS (putS (putS (putS (putS (putS (putS (HH.out) _) _) _) _) _) _) _) _) _, by simpa using HS.out⟩, ?_⟩
        exact gsetS (gsetS (gsetS (gsetS (gsetS (gsetS (gsetS (gsetS (gsetS (HB.out) _ _) _ _) _ _) _ _) _ _) _ _) _ _) _ _) _ _
      case measure => simp [intOf]; omega
    · have hd : decide ((k : Int) < (L.length : Int)) = false := by simp; omega
      obtain rfl : k = L.length := by omega
      have HB := Lib.hid hB
      clear hh hs hB
      go_wp2
      go_ret
      exact ⟨rfl, HB.out⟩
end Go.Proofs.Ytignigcknfklkaa
end
section
namespace Go.Proofs.Ytignigcknfklkaa
open Go.RowKit
set_option linter.unusedVariables false
set_option maxHeartbeats 1000000
attribute [local go_sem] growUpon_value growUpon_skip growUpon_enter
theorem wp_genGC {P : Program} {c : Code} {Q : Exit → Act → World → Prop} {a : Act} {W : World} (F : World → Prop) (hF : F W) (h : ∀ W0, F W0 → c.wp P Q a W0) : c.wp P Q a W := h W hF
theorem bp_genGC {P : Program} {f : Func} {R : Ending → World → Prop} {e : Exit} {a : Act} {W : World} (F : World → Prop) (hF : F W) (h : ∀ W0, F W0 → bodyPost P f R e a W0) : bodyPost P f R e a W := h W hF
theorem put9gc {w : World} {b : Nat} {a0 a1 a2 a3 a4 a5 a6 a7 a8 : Value} {T : TypeId} {fz : Nat × Nat} (h : w.heap[b]? = some (.cells #[a0, a1, a2, a3, a4, a5, a6, a7, a8] T fz)) (x0 x1 x2 x3 x4 x5 x6 x7 x8 : Value) :
    (((((((((w.setCell ⟨b, 0, none⟩ x0).setCell ⟨b, 1, none⟩ x1).setCell ⟨b, 2, none⟩ x2).setCell ⟨b, 3, none⟩ x3).setCell ⟨b, 4, none⟩ x4).setCell ⟨b, 5, none⟩ x5).setCell ⟨b, 6, none⟩ x6).setCell ⟨b, 7, none⟩ x7).setCell ⟨b, 8, none⟩ x8).heap[b]? = some (.cells #[x0, x1, x2, x3, x4, x5, x6, x7, x8] T fz) := by
  replace h := putS (i := 0) h x0
  simp only [List.setIfInBounds_toArray, List.set_cons_succ, List.set_cons_zero] at h
  replace h := putS (i := 1) h x1
  simp only [List.setIfInBounds_toArray, List.set_cons_succ, List.set_cons_zero] at h
  replace h := putS (i := 2) h x2
  simp only [List.setIfInBounds_toArray, List.set_cons_succ, List.set_cons_zero] at h
  replace h := putS (i := 3) h x3
  simp only [List.setIfInBounds_toArray, List.set_cons_succ, List.set_cons_zero] at h
  replace h := putS (i := 4) h x4
  simp only [List.setIfInBounds_toArray, List.set_cons_succ, List.set_cons_zero] at h
  replace h := putS (i := 5) h x5
  simp only [List.setIfInBounds_toArray, List.set_cons_succ, List.set_cons_zero] at h
  replace h := putS (i := 6) h x6
  simp only [List.setIfInBounds_toArray, List.set_cons_succ, List.set_cons_zero] at h
  replace h := putS (i := 7) h x7
  simp only [List.setIfInBounds_toArray, List.set_cons_succ, List.set_cons_zero] at h
  replace h := putS (i := 8) h x8
  simp only [List.setIfInBounds_toArray, List.set_cons_succ, List.set_cons_zero] at h
  exact h
theorem put9g2 {w : World} {b : Nat} {a0 a1 a2 a3 a4 a5 a6 a7 a8 : Value} {T : TypeId} {fz : Nat × Nat} (h : w.heap[b]? = some (.cells #[a0, a1, a2, a3, a4, a5, a6, a7, a8] T fz)) (u : Value) : (w.setCell ⟨b, 2, none⟩ u).heap[b]? = some (.cells #[a0, a1, u, a3, a4, a5, a6, a7, a8] T fz) := by
  replace h := putS (i := 2) h u
  simpa only [List.setIfInBounds_toArray, List.set_cons_succ, List.set_cons_zero] using h
theorem put9g3 {w : World} {b : Nat} {a0 a1 a2 a3 a4 a5 a6 a7 a8 : Value} {T : TypeId} {fz : Nat × Nat} (h : w.heap[b]? = some (.cells #[a0, a1, a2, a3, a4, a5, a6, a7, a8] T fz)) (u : Value) : (w.setCell ⟨b, 3, none⟩ u).heap[b]? = some (.cells #[a0, a1, a2, u, a4, a5, a6, a7, a8] T fz) := by
  replace h := putS (i := 3) h u
  simpa only [List.setIfInBounds_toArray, List.set_cons_succ, List.set_cons_zero] using h
theorem put9g7 {w : World} {b : Nat} {a0 a1 a2 a3 a4 a5 a6 a7 a8 : Value} {T : TypeId} {fz : Nat × Nat} (h : w.heap[b]? = some (.cells #[a0, a1, a2, a3, a4, a5, a6, a7, a8] T fz)) (u : Value) : (w.setCell ⟨b, 7, none⟩ u).heap[b]? = some (.cells #[a0, a1, a2, a3, a4, a5, a6, u, a8] T fz) := by
  replace h := putS (i := 7) h u
  simpa only [List.setIfInBounds_toArray, List.set_cons_succ, List.set_cons_zero] using h
theorem put9g8 {w : World} {b : Nat} {a0 a1 a2 a3 a4 a5 a6 a7 a8 : Value} {T : TypeId} {fz : Nat × Nat} (h : w.heap[b]? = some (.cells #[a0, a1, a2, a3, a4, a5, a6, a7, a8] T fz)) (u : Value) : (w.setCell ⟨b, 8, none⟩ u).heap[b]? = some (.cells #[a0, a1, a2, a3, a4, a5, a6, a7, u] T fz) := by
  replace h := putS (i := 8) h u
  simpa only [List.setIfInBounds_toArray, List.set_cons_succ, List.set_cons_zero] using h
theorem chg9g {S : List Nat} {a w : World} {b : Nat} (h : Chg S a w) (hb : a.heap.size ≤ b) (x0 x1 x2 x3 x4 x5 x6 x7 x8 : Value) : Chg S a (((((((((w.setCell ⟨b, 0, none⟩ x0).setCell ⟨b, 1, none⟩ x1).setCell ⟨b, 2, none⟩ x2).setCell ⟨b, 3, none⟩ x3).setCell ⟨b, 4, none⟩ x4).setCell ⟨b, 5, none⟩ x5).setCell ⟨b, 6, none⟩ x6).setCell ⟨b, 7, none⟩ x7).setCell ⟨b, 8, none⟩ x8) := (((((((((h.setCell (p := ⟨b, 0, none⟩) (.inr hb) x0).setCell (p := ⟨b, 1, none⟩) (.inr hb) x1).setCell (p := ⟨b, 2, none⟩) (.inr hb) x2).setCell (p := ⟨b, 3, none⟩) (.inr hb) x3).setCell (p := ⟨b, 4, none⟩) (.inr hb) x4).setCell (p := ⟨b, 5, none⟩) (.inr hb) x5).setCell (p := ⟨b, 6, none⟩) (.inr hb) x6).setCell (p := ⟨b, 7, none⟩) (.inr hb) x7).setCell (p := ⟨b, 8, none⟩) (.inr hb) x8)
theorem rd9g {B rb b : Nat} {A : Option Addr} {n c m : Nat} {w : World} (h : Rd B rb A n c m w) (hB : B ≤ b) (hb : b ≠ rb) (x0 x1 x2 x3 x4 x5 x6 x7 x8 : Value) : Rd B rb A n c m (((((((((w.setCell ⟨b, 0, none⟩ x0).setCell ⟨b, 1, none⟩ x1).setCell ⟨b, 2, none⟩ x2).setCell ⟨b, 3, none⟩ x3).setCell ⟨b, 4, none⟩ x4).setCell ⟨b, 5, none⟩ x5).setCell ⟨b, 6, none⟩ x6).setCell ⟨b, 7, none⟩ x7).setCell ⟨b, 8, none⟩ x8) := (((((((((h.setCell (p := ⟨b, 0, none⟩) hB hb x0).setCell (p := ⟨b, 1, none⟩) hB hb x1).setCell (p := ⟨b, 2, none⟩) hB hb x2).setCell (p := ⟨b, 3, none⟩) hB hb x3).setCell (p := ⟨b, 4, none⟩) hB hb x4).setCell (p := ⟨b, 5, none⟩) hB hb x5).setCell (p := ⟨b, 6, none⟩) hB hb x6).setCell (p := ⟨b, 7, none⟩) hB hb x7).setCell (p := ⟨b, 8, none⟩) hB hb x8)
set_option maxRecDepth 100000 in
theorem goodCell_any {B rb : Nat} {A : Option Addr} {l c m : Nat} (n1 n2 : Nat) (w : World) (h : Rd B rb A l c m w) (hm : m ≤ 600000) (h1 : 1 ≤ n1) (h15 : n1 ≤ 5) (h2 : 1 ≤ n2) (h25 : n2 ≤ 5) :
    Calls Try.prog 85 #[.pointer (some ⟨rb, 0, none⟩), .int .i64 (n1 : Int), .int .i64 (n2 : Int)] w fun e w' => (∃ p : Ce, e = .returned (.agg #[.int .i64 p.co, .int .i64 p.ro, .int .i64 p.mc, .int .i64 p.mr, .int .i64 p.cw, .int .i64 p.ch, .int .i64 p.sk, .int .i64 p.px, .int .i64 p.py])) ∧ Rd B rb A l c (m + 20) w' ∧ Chg [rb] w w' := by
  have hlt := h.lt
  have hBrb := h.base
  go_enter Try.func85, Try.ntmps85
  go_upto_region 1 with (fail)
  refine wp_genGC (fun W => W.heap[w.heap.size]? = some (.cells #[.int .i64 0, .int .i64 0, .int .i64 0, .int .i64 0, .int .i64 0, .int .i64 0, .int .i64 0, .int .i64 0, .int .i64 0] 47 (0, 0)) ∧ Rd B rb A l c m W ∧ Chg [rb] w W ∧ w.heap.size < W.heap.size) ⟨newS _ _, h.alloc _, (Chg.refl _ _).alloc _, by simp⟩ (fun W0 h0 => ?_)
  obtain ⟨hz, hr0, hc0, hs0⟩ := h0
  have HZ := Lib.hid hz
  have HC := Lib.hid hc0
  clear hz hc0

  go_wp2_with fail
  with_reducible refine (pick_any (n1 : Int) _ hr0 (by omega)).mono ?_
  rintro e w1 ⟨⟨v1, rfl, hp⟩, hr1, hc1⟩
  obtain ⟨v1a, v1b⟩ := hp (by omega)
  replace HZ := Lib.hid ((hc1.block _ (ltS HZ.out) (by simp; omega)).trans HZ.out)
  have hs1 := hc1.size
  replace HC := Lib.hid (HC.out.trans hc1)
  clear hc1
  clear hp
  go_wp2_with fail
  with_reducible refine (pick_any (n2 : Int) _ hr1 (by omega)).mono ?_
  rintro e w2 ⟨⟨v2, rfl, hp⟩, hr2, hc2⟩
  obtain ⟨v2a, v2b⟩ := hp (by omega)
  replace HZ := Lib.hid ((hc2.block _ (ltS HZ.out) (by simp; omega)).trans HZ.out)
  have hs2 := hc2.size
  replace HC := Lib.hid (HC.out.trans hc2)
  clear hc2
  clear hp
  go_wp2_with fail
  with_reducible refine (one_lit_in (0) 30 _ hr2 (by omega) (by simp) (by omega) (by omega) (by simp [isIn])).mono ?_
  rintro e w3 ⟨⟨z3, rfl, z3a, z3b⟩, hr3, hc3⟩
  replace HZ := Lib.hid ((hc3.block _ (ltS HZ.out) (by simp; omega)).trans HZ.out)
  have hs3 := hc3.size
  replace HC := Lib.hid (HC.out.trans hc3)
  clear hc3
  go_wp2_with fail
  with_reducible refine (one_lit_in (0) 30 _ hr3 (by omega) (by simp) (by omega) (by omega) (by simp [isIn])).mono ?_
  rintro e w4 ⟨⟨z4, rfl, z4a, z4b⟩, hr4, hc4⟩
  replace HZ := Lib.hid ((hc4.block _ (ltS HZ.out) (by simp; omega)).trans HZ.out)
  have hs4 := hc4.size
  replace HC := Lib.hid (HC.out.trans hc4)
  clear hc4
  go_wp2_with fail
  with_reducible refine (pick_any 16 _ hr4 (by omega)).mono ?_
  rintro e w5 ⟨⟨v5, rfl, hp⟩, hr5, hc5⟩
  obtain ⟨v5a, v5b⟩ := hp (by omega)
  replace HZ := Lib.hid ((hc5.block _ (ltS HZ.out) (by simp; omega)).trans HZ.out)
  have hs5 := hc5.size
  replace HC := Lib.hid (HC.out.trans hc5)
  clear hc5
  clear hp
  go_wp2_with fail
  with_reducible refine (one_lit_in (0) 15 _ hr5 (by omega) (by simp) (by omega) (by omega) (by simp [isIn]; omega)).mono ?_
  rintro e w6 ⟨⟨z6, rfl, z6a, z6b⟩, hr6, hc6⟩
  replace HZ := Lib.hid ((hc6.block _ (ltS HZ.out) (by simp; omega)).trans HZ.out)
  have hs6 := hc6.size
  replace HC := Lib.hid (HC.out.trans hc6)
  clear hc6
  have HR := Lib.hid hr6
  clear hr0 hr1 hr2 hr3 hr4 hr5 hr6
  have hB6 : B ≤ w6.heap.size := by omega
  have hn6 : w6.heap.size ≠ rb := by omega
  have hn60 : w.heap.size ≠ w6.heap.size := by omega
  go_upto_region 2 with (fail)
  refine wp_genGC (fun W => W.heap[w6.heap.size]? = some (.cells #[.int .i64 v1, .int .i64 v2, .int .i64 0, .int .i64 0, .int .i64 z3, .int .i64 z4, .int .i64 z6, .int .i64 0, .int .i64 0] 47 (0, 0)) ∧ W.heap[w.heap.size]? = some (.cells #[.int .i64 0, .int .i64 0, .int .i64 0, .int .i64 0, .int .i64 0, .int .i64 0, .int .i64 0, .int .i64 0, .int .i64 0] 47 (0, 0)) ∧ Rd B rb A l c (m + 6) W ∧ Chg [rb] w W) ⟨newS _ _, (Below.heap_alloc _ _ _ (ltS HZ.out)).trans HZ.out, HR.out.alloc _, HC.out.alloc _⟩ (fun W1 h1 => ?_)
  clear HZ HR HC
  obtain ⟨hx, hz, hr, hc⟩ := h1
  have HX := Lib.hid hx
  have HZ := Lib.hid hz
  have HR := Lib.hid hr
  have HC := Lib.hid hc
  clear hx hz hr hc
  have hsw := HC.out.size
  have x2 := cellS HX.out 2
  have f2 := frozenS HX.out 2
  replace HX := Lib.hid (put9g2 HX.out (.int .i64 1))
  replace HZ := Lib.hid ((Below.heap_setCell _ ⟨w6.heap.size, 2, none⟩ (.int .i64 1) w.heap.size (by simp; omega)).trans HZ.out)
  replace HR := Lib.hid (HR.out.setCell (p := ⟨w6.heap.size, 2, none⟩) (by simp; omega) (by simp; omega) (.int .i64 1))
  replace HC := Lib.hid (HC.out.setCell (p := ⟨w6.heap.size, 2, none⟩) (.inr (by simp; omega)) (.int .i64 1))
  have x3 := cellS HX.out 3
  have f3 := frozenS HX.out 3
  replace HX := Lib.hid (put9g3 HX.out (.int .i64 1))
  replace HZ := Lib.hid ((Below.heap_setCell _ ⟨w6.heap.size, 3, none⟩ (.int .i64 1) w.heap.size (by simp; omega)).trans HZ.out)
  replace HR := Lib.hid (HR.out.setCell (p := ⟨w6.heap.size, 3, none⟩) (by simp; omega) (by simp; omega) (.int .i64 1))
  replace HC := Lib.hid (HC.out.setCell (p := ⟨w6.heap.size, 3, none⟩) (.inr (by simp; omega)) (.int .i64 1))
  go_upto_region 4 with (fail)
  refine wp_genGC (fun W => W.heap[w6.heap.size]? = some (.cells #[.int .i64 v1, .int .i64 v2, .int .i64 1, .int .i64 1, .int .i64 z3, .int .i64 z4, .int .i64 z6, .int .i64 0, .int .i64 0] 47 (0, 0)) ∧ W.heap[w.heap.size]? = some (.cells #[.int .i64 0, .int .i64 0, .int .i64 0, .int .i64 0, .int .i64 0, .int .i64 0, .int .i64 0, .int .i64 0, .int .i64 0] 47 (0, 0)) ∧ Rd B rb A l c (m + 6) W ∧ Chg [rb] w W) ⟨HX.out, HZ.out, HR.out, HC.out⟩ (fun W2 h2' => ?_)
  clear HX HZ HR HC x2 x3 f2 f3
  obtain ⟨hx, hz, hr, hc⟩ := h2'
  have HX := Lib.hid hx
  have HZ := Lib.hid hz
  have HR := Lib.hid hr
  have HC := Lib.hid hc
  clear hx hz hr hc
  go_wp2_with fail
  with_reducible refine (pick_any 3 _ HR.out (by omega)).mono ?_
  rintro e w7 ⟨⟨v7, rfl, -⟩, hr7, hc7⟩
  replace HX := Lib.hid ((hc7.block _ (ltS HX.out) (by simp; omega)).trans HX.out)
  replace HZ := Lib.hid ((hc7.block _ (ltS HZ.out) (by simp; omega)).trans HZ.out)
  replace HC := Lib.hid (HC.out.trans hc7)
  replace HR := Lib.hid hr7
  clear hr7 hc7
  by_cases hv7 : v7 = 0
  · subst hv7
    have y0 := cellS HX.out 0
    have hdn : 0 ≤ (n1 : Int) - v1 ∧ (n1 : Int) - v1 ≤ 5 := by omega
    obtain ⟨hdn0, hdn1⟩ := hdn
    go_wp2_with fail
    with_reducible refine (pick_any2 ((n1 : Int) - v1) _ HR.out (by omega)).mono ?_
    rintro e w12 ⟨⟨v12, rfl, hp, hq⟩, hr12, hc12⟩
    have hv12 : 0 ≤ v12 ∧ v12 ≤ 5 := by
      by_cases hh : 1 ≤ (n1 : Int) - v1
      · have := hp hh; omega
      · have := hq (by omega); omega
    obtain ⟨hv12a, hv12b⟩ := hv12
    replace HX := Lib.hid ((hc12.block _ (ltS HX.out) (by simp; omega)).trans HX.out)
    replace HZ := Lib.hid ((hc12.block _ (ltS HZ.out) (by simp; omega)).trans HZ.out)
    replace HC := Lib.hid (HC.out.trans hc12)
    replace HR := Lib.hid hr12
    clear hr12 hc12 hp hq y0 hdn0 hdn1
    have x2 := cellS HX.out 2
    have f2 := frozenS HX.out 2
    replace HX := Lib.hid (put9g2 HX.out (.int .i64 (1 + v12)))
    replace HZ := Lib.hid ((Below.heap_setCell _ ⟨w6.heap.size, 2, none⟩ (.int .i64 (1 + v12)) w.heap.size (by simp; omega)).trans HZ.out)
    replace HR := Lib.hid (HR.out.setCell (p := ⟨w6.heap.size, 2, none⟩) (by simp; omega) (by simp; omega) (.int .i64 (1 + v12)))
    replace HC := Lib.hid (HC.out.setCell (p := ⟨w6.heap.size, 2, none⟩) (.inr (by simp; omega)) (.int .i64 (1 + v12)))
    go_upto_region 6 with (fail)
    refine wp_genGC (fun W => W.heap[w6.heap.size]? = some (.cells #[.int .i64 v1, .int .i64 v2, .int .i64 (1 + v12), .int .i64 1, .int .i64 z3, .int .i64 z4, .int .i64 z6, .int .i64 0, .int .i64 0] 47 (0, 0)) ∧ W.heap[w.heap.size]? = some (.cells #[.int .i64 0, .int .i64 0, .int .i64 0, .int .i64 0, .int .i64 0, .int .i64 0, .int .i64 0, .int .i64 0, .int .i64 0] 47 (0, 0)) ∧ Rd B rb A l c (m + 8) W ∧ Chg [rb] w W) ⟨HX.out, HZ.out, HR.out.mono (by omega), HC.out⟩ (fun W12 h9 => ?_)
    clear HX HZ HR HC x2 f2
    obtain ⟨hx, hz, hr, hc⟩ := h9
    have HX := Lib.hid hx
    have HZ := Lib.hid hz
    have HR := Lib.hid hr
    have HC := Lib.hid hc
    clear hx hz hr hc
    have y1 := cellS HX.out 1
    have hdn : 0 ≤ (n2 : Int) - v2 ∧ (n2 : Int) - v2 ≤ 5 := by omega
    obtain ⟨hdn0, hdn1⟩ := hdn
    go_wp2_with fail
    with_reducible refine (pick_any2 ((n2 : Int) - v2) _ HR.out (by omega)).mono ?_
    rintro e w13 ⟨⟨v13, rfl, hp, hq⟩, hr13, hc13⟩
    have hv13 : 0 ≤ v13 ∧ v13 ≤ 5 := by
      by_cases hh : 1 ≤ (n2 : Int) - v2
      · have := hp hh; omega
      · have := hq (by omega); omega
    obtain ⟨hv13a, hv13b⟩ := hv13
    replace HX := Lib.hid ((hc13.block _ (ltS HX.out) (by simp; omega)).trans HX.out)
    replace HZ := Lib.hid ((hc13.block _ (ltS HZ.out) (by simp; omega)).trans HZ.out)
    replace HC := Lib.hid (HC.out.trans hc13)
    replace HR := Lib.hid hr13
    clear hr13 hc13 hp hq y1 hdn0 hdn1
    have x3 := cellS HX.out 3
    have f3 := frozenS HX.out 3
    replace HX := Lib.hid (put9g3 HX.out (.int .i64 (1 + v13)))
    replace HZ := Lib.hid ((Below.heap_setCell _ ⟨w6.heap.size, 3, none⟩ (.int .i64 (1 + v13)) w.heap.size (by simp; omega)).trans HZ.out)
    replace HR := Lib.hid (HR.out.setCell (p := ⟨w6.heap.size, 3, none⟩) (by simp; omega) (by simp; omega) (.int .i64 (1 + v13)))
    replace HC := Lib.hid (HC.out.setCell (p := ⟨w6.heap.size, 3, none⟩) (.inr (by simp; omega)) (.int .i64 (1 + v13)))
    go_upto_region 7 with (fail)
    refine wp_genGC (fun W => W.heap[w6.heap.size]? = some (.cells #[.int .i64 v1, .int .i64 v2, .int .i64 (1 + v12), .int .i64 (1 + v13), .int .i64 z3, .int .i64 z4, .int .i64 z6, .int .i64 0, .int .i64 0] 47 (0, 0)) ∧ W.heap[w.heap.size]? = some (.cells #[.int .i64 0, .int .i64 0, .int .i64 0, .int .i64 0, .int .i64 0, .int .i64 0, .int .i64 0, .int .i64 0, .int .i64 0] 47 (0, 0)) ∧ Rd B rb A l c (m + 9) W ∧ Chg [rb] w W) ⟨HX.out, HZ.out, HR.out.mono (by omega), HC.out⟩ (fun W13 h9 => ?_)
    clear HX HZ HR HC x3 f3
    obtain ⟨hx, hz, hr, hc⟩ := h9
    have HX := Lib.hid hx
    have HZ := Lib.hid hz
    have HR := Lib.hid hr
    have HC := Lib.hid hc
    clear hx hz hr hc
    go_wp2_with fail
    with_reducible refine (pick_any 3 _ HR.out (by omega)).mono ?_
    rintro e w8 ⟨⟨v8, rfl, -⟩, hr8, hc8⟩
    replace HX := Lib.hid ((hc8.block _ (ltS HX.out) (by simp; omega)).trans HX.out)
    replace HZ := Lib.hid ((hc8.block _ (ltS HZ.out) (by simp; omega)).trans HZ.out)
    replace HC := Lib.hid (HC.out.trans hc8)
    replace HR := Lib.hid hr8
    clear hr8 hc8
    by_cases hv8 : v8 = 0
    · subst hv8
      go_wp2_with fail
      with_reducible refine (pick_any 4 _ HR.out (by omega)).mono ?_
      rintro e w10 ⟨⟨v10, rfl, -⟩, hr10, hc10⟩
      replace HX := Lib.hid ((hc10.block _ (ltS HX.out) (by simp; omega)).trans HX.out)
      replace HZ := Lib.hid ((hc10.block _ (ltS HZ.out) (by simp; omega)).trans HZ.out)
      replace HC := Lib.hid (HC.out.trans hc10)
      replace HR := Lib.hid hr10
      clear hr10 hc10
      have x7 := cellS HX.out 7
      have f7 := frozenS HX.out 7
      replace HX := Lib.hid (put9g7 HX.out (.int .i64 v10))
      replace HZ := Lib.hid ((Below.heap_setCell _ ⟨w6.heap.size, 7, none⟩ (.int .i64 v10) w.heap.size (by simp; omega)).trans HZ.out)
      replace HR := Lib.hid (HR.out.setCell (p := ⟨w6.heap.size, 7, none⟩) (by simp; omega) (by simp; omega) (.int .i64 v10))
      replace HC := Lib.hid (HC.out.setCell (p := ⟨w6.heap.size, 7, none⟩) (.inr (by simp; omega)) (.int .i64 v10))
      go_upto_region 9 with (fail)
      refine wp_genGC (fun W => W.heap[w6.heap.size]? = some (.cells #[.int .i64 v1, .int .i64 v2, .int .i64 (1 + v12), .int .i64 (1 + v13), .int .i64 z3, .int .i64 z4, .int .i64 z6, .int .i64 v10, .int .i64 0] 47 (0, 0)) ∧ W.heap[w.heap.size]? = some (.cells #[.int .i64 0, .int .i64 0, .int .i64 0, .int .i64 0, .int .i64 0, .int .i64 0, .int .i64 0, .int .i64 0, .int .i64 0] 47 (0, 0)) ∧ Rd B rb A l c (m + 12) W ∧ Chg [rb] w W) ⟨HX.out, HZ.out, HR.out.mono (by omega), HC.out⟩ (fun W10 h9 => ?_)
      clear HX HZ HR HC x7 f7
      obtain ⟨hx, hz, hr, hc⟩ := h9
      have HX := Lib.hid hx
      have HZ := Lib.hid hz
      have HR := Lib.hid hr
      have HC := Lib.hid hc
      clear hx hz hr hc
      go_wp2_with fail
      with_reducible refine (pick_any 4 _ HR.out (by omega)).mono ?_
      rintro e w11 ⟨⟨v11, rfl, -⟩, hr11, hc11⟩
      replace HX := Lib.hid ((hc11.block _ (ltS HX.out) (by simp; omega)).trans HX.out)
      replace HZ := Lib.hid ((hc11.block _ (ltS HZ.out) (by simp; omega)).trans HZ.out)
      replace HC := Lib.hid (HC.out.trans hc11)
      replace HR := Lib.hid hr11
      clear hr11 hc11
      have x8 := cellS HX.out 8
      have f8 := frozenS HX.out 8
      replace HX := Lib.hid (put9g8 HX.out (.int .i64 v11))
      replace HZ := Lib.hid ((Below.heap_setCell _ ⟨w6.heap.size, 8, none⟩ (.int .i64 v11) w.heap.size (by simp; omega)).trans HZ.out)
      replace HR := Lib.hid (HR.out.setCell (p := ⟨w6.heap.size, 8, none⟩) (by simp; omega) (by simp; omega) (.int .i64 v11))
      replace HC := Lib.hid (HC.out.setCell (p := ⟨w6.heap.size, 8, none⟩) (.inr (by simp; omega)) (.int .i64 v11))
      go_upto_region 10 with (fail)
      refine wp_genGC (fun W => W.heap[w6.heap.size]? = some (.cells #[.int .i64 v1, .int .i64 v2, .int .i64 (1 + v12), .int .i64 (1 + v13), .int .i64 z3, .int .i64 z4, .int .i64 z6, .int .i64 v10, .int .i64 v11] 47 (0, 0)) ∧ W.heap[w.heap.size]? = some (.cells #[.int .i64 0, .int .i64 0, .int .i64 0, .int .i64 0, .int .i64 0, .int .i64 0, .int .i64 0, .int .i64 0, .int .i64 0] 47 (0, 0)) ∧ Rd B rb A l c (m + 13) W ∧ Chg [rb] w W) ⟨HX.out, HZ.out, HR.out.mono (by omega), HC.out⟩ (fun W11 h9 => ?_)
      clear HX HZ HR HC x8 f8
      obtain ⟨hx, hz, hr, hc⟩ := h9
      have HX := Lib.hid hx
      have HZ := Lib.hid hz
      have HR := Lib.hid hr
      have HC := Lib.hid hc
      clear hx hz hr hc
      have y0 := cellS HX.out 0
      have y1 := cellS HX.out 1
      have y2 := cellS HX.out 2
      have y3 := cellS HX.out 3
      have y4 := cellS HX.out 4
      have y5 := cellS HX.out 5
      have y6 := cellS HX.out 6
      have y7 := cellS HX.out 7
      have y8 := cellS HX.out 8
      have u0 := cellS HZ.out 0
      have u1 := cellS HZ.out 1
      have u2 := cellS HZ.out 2
      have u3 := cellS HZ.out 3
      have u4 := cellS HZ.out 4
      have u5 := cellS HZ.out 5
      have u6 := cellS HZ.out 6
      have u7 := cellS HZ.out 7
      have u8 := cellS HZ.out 8
      have g0 := frozenS HZ.out 0
      have g1 := frozenS HZ.out 1
      have g2 := frozenS HZ.out 2
      have g3 := frozenS HZ.out 3
      have g4 := frozenS HZ.out 4
      have g5 := frozenS HZ.out 5
      have g6 := frozenS HZ.out 6
      have g7 := frozenS HZ.out 7
      have g8 := frozenS HZ.out 8
      have hzl := ltS HZ.out
      have E1 := Lib.hid (put9gc HZ.out (.int .i64 v1) (.int .i64 v2) (.int .i64 (1 + v12)) (.int .i64 (1 + v13)) (.int .i64 z3) (.int .i64 z4) (.int .i64 z6) (.int .i64 v10) (.int .i64 v11))
      go_wp2
      refine bp_genGC (fun W => W.heap[w.heap.size]? = some (.cells #[.int .i64 v1, .int .i64 v2, .int .i64 (1 + v12), .int .i64 (1 + v13), .int .i64 z3, .int .i64 z4, .int .i64 z6, .int .i64 v10, .int .i64 v11] 47 (0, 0)) ∧ Rd B rb A l c (m + 20) W ∧ Chg [rb] w W) ⟨E1.out, rd9g (HR.out.mono (by omega)) (by omega) (by omega) _ _ _ _ _ _ _ _ _, chg9g HC.out (Nat.le_refl _) _ _ _ _ _ _ _ _ _⟩ ?_
      clear HX HZ HR HC E1 y0 y1 y2 y3 y4 y5 y6 y7 y8 u0 u1 u2 u3 u4 u5 u6 u7 u8 g0 g1 g2 g3 g4 g5 g6 g7 g8
      rintro W ⟨hp, hrW, hcW⟩
      have q0 := cellS hp 0
      have q1 := cellS hp 1
      have q2 := cellS hp 2
      have q3 := cellS hp 3
      have q4 := cellS hp 4
      have q5 := cellS hp 5
      have q6 := cellS hp 6
      have q7 := cellS hp 7
      have q8 := cellS hp 8
      exact bodyPost_ret (v := .agg #[.int .i64 v1, .int .i64 v2, .int .i64 (1 + v12), .int .i64 (1 + v13), .int .i64 z3, .int .i64 z4, .int .i64 z6, .int .i64 v10, .int .i64 v11]) (by simp only [results, Try.results85]; go_simp) rfl ⟨⟨⟨v1, v2, 1 + v12, 1 + v13, z3, z4, z6, v10, v11⟩, rfl⟩, hrW, hcW⟩
    · have e8 : (v8 == 0) = false := by simpa using hv8
      have y0 := cellS HX.out 0
      have y1 := cellS HX.out 1
      have y2 := cellS HX.out 2
      have y3 := cellS HX.out 3
      have y4 := cellS HX.out 4
      have y5 := cellS HX.out 5
      have y6 := cellS HX.out 6
      have y7 := cellS HX.out 7
      have y8 := cellS HX.out 8
      have u0 := cellS HZ.out 0
      have u1 := cellS HZ.out 1
      have u2 := cellS HZ.out 2
      have u3 := cellS HZ.out 3
      have u4 := cellS HZ.out 4
      have u5 := cellS HZ.out 5
      have u6 := cellS HZ.out 6
      have u7 := cellS HZ.out 7
      have u8 := cellS HZ.out 8
      have g0 := frozenS HZ.out 0
      have g1 := frozenS HZ.out 1
      have g2 := frozenS HZ.out 2
      have g3 := frozenS HZ.out 3
      have g4 := frozenS HZ.out 4
      have g5 := frozenS HZ.out 5
      have g6 := frozenS HZ.out 6
      have g7 := frozenS HZ.out 7
      have g8 := frozenS HZ.out 8
      have hzl := ltS HZ.out
      have E1 := Lib.hid (put9gc HZ.out (.int .i64 v1) (.int .i64 v2) (.int .i64 (1 + v12)) (.int .i64 (1 + v13)) (.int .i64 z3) (.int .i64 z4) (.int .i64 z6) (.int .i64 0) (.int .i64 0))
      go_wp2
      refine bp_genGC (fun W => W.heap[w.heap.size]? = some (.cells #[.int .i64 v1, .int .i64 v2, .int .i64 (1 + v12), .int .i64 (1 + v13), .int .i64 z3, .int .i64 z4, .int .i64 z6, .int .i64 0, .int .i64 0] 47 (0, 0)) ∧ Rd B rb A l c (m + 20) W ∧ Chg [rb] w W) ⟨E1.out, rd9g (HR.out.mono (by omega)) (by omega) (by omega) _ _ _ _ _ _ _ _ _, chg9g HC.out (Nat.le_refl _) _ _ _ _ _ _ _ _ _⟩ ?_
      clear HX HZ HR HC E1 y0 y1 y2 y3 y4 y5 y6 y7 y8 u0 u1 u2 u3 u4 u5 u6 u7 u8 g0 g1 g2 g3 g4 g5 g6 g7 g8
      rintro W ⟨hp, hrW, hcW⟩
      have q0 := cellS hp 0
      have q1 := cellS hp 1
      have q2 := cellS hp 2
      have q3 := cellS hp 3
      have q4 := cellS hp 4
      have q5 := cellS hp 5
      have q6 := cellS hp 6
      have q7 := cellS hp 7
      have q8 := cellS hp 8
      exact bodyPost_ret (v := .agg #[.int .i64 v1, .int .i64 v2, .int .i64 (1 + v12), .int .i64 (1 + v13), .int .i64 z3, .int .i64 z4, .int .i64 z6, .int .i64 0, .int .i64 0]) (by simp only [results, Try.results85]; go_simp) rfl ⟨⟨⟨v1, v2, 1 + v12, 1 + v13, z3, z4, z6, 0, 0⟩, rfl⟩, hrW, hcW⟩
  · have e7 : (v7 == 0) = false := by simpa using hv7
    go_wp2_with fail
    with_reducible refine (pick_any 3 _ HR.out (by omega)).mono ?_
    rintro e w8 ⟨⟨v8, rfl, -⟩, hr8, hc8⟩
    replace HX := Lib.hid ((hc8.block _ (ltS HX.out) (by simp; omega)).trans HX.out)
    replace HZ := Lib.hid ((hc8.block _ (ltS HZ.out) (by simp; omega)).trans HZ.out)
    replace HC := Lib.hid (HC.out.trans hc8)
    replace HR := Lib.hid hr8
    clear hr8 hc8
    by_cases hv8 : v8 = 0
    · subst hv8
      go_wp2_with fail
      with_reducible refine (pick_any 4 _ HR.out (by omega)).mono ?_
      rintro e w10 ⟨⟨v10, rfl, -⟩, hr10, hc10⟩
      replace HX := Lib.hid ((hc10.block _ (ltS HX.out) (by simp; omega)).trans HX.out)
      replace HZ := Lib.hid ((hc10.block _ (ltS HZ.out) (by simp; omega)).trans HZ.out)
      replace HC := Lib.hid (HC.out.trans hc10)
      replace HR := Lib.hid hr10
      clear hr10 hc10
      have x7 := cellS HX.out 7
      have f7 := frozenS HX.out 7
      replace HX := Lib.hid (put9g7 HX.out (.int .i64 v10))
      replace HZ := Lib.hid ((Below.heap_setCell _ ⟨w6.heap.size, 7, none⟩ (.int .i64 v10) w.heap.size (by simp; omega)).trans HZ.out)
      replace HR := Lib.hid (HR.out.setCell (p := ⟨w6.heap.size, 7, none⟩) (by simp; omega) (by simp; omega) (.int .i64 v10))
      replace HC := Lib.hid (HC.out.setCell (p := ⟨w6.heap.size, 7, none⟩) (.inr (by simp; omega)) (.int .i64 v10))
      go_upto_region 9 with (fail)
      refine wp_genGC (fun W => W.heap[w6.heap.size]? = some (.cells #[.int .i64 v1, .int .i64 v2, .int .i64 1, .int .i64 1, .int .i64 z3, .int .i64 z4, .int .i64 z6, .int .i64 v10, .int .i64 0] 47 (0, 0)) ∧ W.heap[w.heap.size]? = some (.cells #[.int .i64 0, .int .i64 0, .int .i64 0, .int .i64 0, .int .i64 0, .int .i64 0, .int .i64 0, .int .i64 0, .int .i64 0] 47 (0, 0)) ∧ Rd B rb A l c (m + 10) W ∧ Chg [rb] w W) ⟨HX.out, HZ.out, HR.out.mono (by omega), HC.out⟩ (fun W10 h9 => ?_)
      clear HX HZ HR HC x7 f7
      obtain ⟨hx, hz, hr, hc⟩ := h9
      have HX := Lib.hid hx
      have HZ := Lib.hid hz
      have HR := Lib.hid hr
      have HC := Lib.hid hc
      clear hx hz hr hc
      go_wp2_with fail
      with_reducible refine (pick_any 4 _ HR.out (by omega)).mono ?_
      rintro e w11 ⟨⟨v11, rfl, -⟩, hr11, hc11⟩
      replace HX := Lib.hid ((hc11.block _ (ltS HX.out) (by simp; omega)).trans HX.out)
      replace HZ := Lib.hid ((hc11.block _ (ltS HZ.out) (by simp; omega)).trans HZ.out)
      replace HC := Lib.hid (HC.out.trans hc11)
      replace HR := Lib.hid hr11
      clear hr11 hc11
      have x8 := cellS HX.out 8
      have f8 := frozenS HX.out 8
      replace HX := Lib.hid (put9g8 HX.out (.int .i64 v11))
      replace HZ := Lib.hid ((Below.heap_setCell _ ⟨w6.heap.size, 8, none⟩ (.int .i64 v11) w.heap.size (by simp; omega)).trans HZ.out)
      replace HR := Lib.hid (HR.out.setCell (p := ⟨w6.heap.size, 8, none⟩) (by simp; omega) (by simp; omega) (.int .i64 v11))
      replace HC := Lib.hid (HC.out.setCell (p := ⟨w6.heap.size, 8, none⟩) (.inr (by simp; omega)) (.int .i64 v11))
      go_upto_region 10 with (fail)
      refine wp_genGC (fun W => W.heap[w6.heap.size]? = some (.cells #[.int .i64 v1, .int .i64 v2, .int .i64 1, .int .i64 1, .int .i64 z3, .int .i64 z4, .int .i64 z6, .int .i64 v10, .int .i64 v11] 47 (0, 0)) ∧ W.heap[w.heap.size]? = some (.cells #[.int .i64 0, .int .i64 0, .int .i64 0, .int .i64 0, .int .i64 0, .int .i64 0, .int .i64 0, .int .i64 0, .int .i64 0] 47 (0, 0)) ∧ Rd B rb A l c (m + 11) W ∧ Chg [rb] w W) ⟨HX.out, HZ.out, HR.out.mono (by omega), HC.out⟩ (fun W11 h9 => ?_)
      clear HX HZ HR HC x8 f8
      obtain ⟨hx, hz, hr, hc⟩ := h9
      have HX := Lib.hid hx
      have HZ := Lib.hid hz
      have HR := Lib.hid hr
      have HC := Lib.hid hc
      clear hx hz hr hc
      have y0 := cellS HX.out 0
      have y1 := cellS HX.out 1
      have y2 := cellS HX.out 2
      have y3 := cellS HX.out 3
      have y4 := cellS HX.out 4
      have y5 := cellS HX.out 5
      have y6 := cellS HX.out 6
      have y7 := cellS HX.out 7
      have y8 := cellS HX.out 8
      have u0 := cellS HZ.out 0
      have u1 := cellS HZ.out 1
      have u2 := cellS HZ.out 2
      have u3 := cellS HZ.out 3
      have u4 := cellS HZ.out 4
      have u5 := cellS HZ.out 5
      have u6 := cellS HZ.out 6
      have u7 := cellS HZ.out 7
      have u8 := cellS HZ.out 8
      have g0 := frozenS HZ.out 0
      have g1 := frozenS HZ.out 1
      have g2 := frozenS HZ.out 2
      have g3 := frozenS HZ.out 3
      have g4 := frozenS HZ.out 4
      have g5 := frozenS HZ.out 5
      have g6 := frozenS HZ.out 6
      have g7 := frozenS HZ.out 7
      have g8 := frozenS HZ.out 8
      have hzl := ltS HZ.out
      have E1 := Lib.hid (put9gc HZ.out (.int .i64 v1) (.int .i64 v2) (.int .i64 1) (.int .i64 1) (.int .i64 z3) (.int .i64 z4) (.int .i64 z6) (.int .i64 v10) (.int .i64 v11))
      go_wp2
      refine bp_genGC (fun W => W.heap[w.heap.size]? = some (.cells #[.int .i64 v1, .int .i64 v2, .int .i64 1, .int .i64 1, .int .i64 z3, .int .i64 z4, .int .i64 z6, .int .i64 v10, .int .i64 v11] 47 (0, 0)) ∧ Rd B rb A l c (m + 20) W ∧ Chg [rb] w W) ⟨E1.out, rd9g (HR.out.mono (by omega)) (by omega) (by omega) _ _ _ _ _ _ _ _ _, chg9g HC.out (Nat.le_refl _) _ _ _ _ _ _ _ _ _⟩ ?_
      clear HX HZ HR HC E1 y0 y1 y2 y3 y4 y5 y6 y7 y8 u0 u1 u2 u3 u4 u5 u6 u7 u8 g0 g1 g2 g3 g4 g5 g6 g7 g8
      rintro W ⟨hp, hrW, hcW⟩
      have q0 := cellS hp 0
      have q1 := cellS hp 1
      have q2 := cellS hp 2
      have q3 := cellS hp 3
      have q4 := cellS hp 4
      have q5 := cellS hp 5
      have q6 := cellS hp 6
      have q7 := cellS hp 7
      have q8 := cellS hp 8
      exact bodyPost_ret (v := .agg #[.int .i64 v1, .int .i64 v2, .int .i64 1, .int .i64 1, .int .i64 z3, .int .i64 z4, .int .i64 z6, .int .i64 v10, .int .i64 v11]) (by simp only [results, Try.results85]; go_simp) rfl ⟨⟨⟨v1, v2, 1, 1, z3, z4, z6, v10, v11⟩, rfl⟩, hrW, hcW⟩
    · have e8 : (v8 == 0) = false := by simpa using hv8
      have y0 := cellS HX.out 0
      have y1 := cellS HX.out 1
      have y2 := cellS HX.out 2
      have y3 := cellS HX.out 3
      have y4 := cellS HX.out 4
      have y5 := cellS HX.out 5
      have y6 := cellS HX.out 6
      have y7 := cellS HX.out 7
      have y8 := cellS HX.out 8
      have u0 := cellS HZ.out 0
      have u1 := cellS HZ.out 1
      have u2 := cellS HZ.out 2
      have u3 := cellS HZ.out 3
      have u4 := cellS HZ.out 4
      have u5 := cellS HZ.out 5
      have u6 := cellS HZ.out 6
      have u7 := cellS HZ.out 7
      have u8 := cellS HZ.out 8
      have g0 := frozenS HZ.out 0
      have g1 := frozenS HZ.out 1
      have g2 := frozenS HZ.out 2
      have g3 := frozenS HZ.out 3
      have g4 := frozenS HZ.out 4
      have g5 := frozenS HZ.out 5
      have g6 := frozenS HZ.out 6
      have g7 := frozenS HZ.out 7
      have g8 := frozenS HZ.out 8
      have hzl := ltS HZ.out
      have E1 := Lib.hid (put9gc HZ.out (.int .i64 v1) (.int .i64 v2) (.int .i64 1) (.int .i64 1) (.int .i64 z3) (.int .i64 z4) (.int .i64 z6) (.int .i64 0) (.int .i64 0))
      go_wp2
      refine bp_genGC (fun W => W.heap[w.heap.size]? = some (.cells #[.int .i64 v1, .int .i64 v2, .int .i64 1, .int .i64 1, .int .i64 z3, .int .i64 z4, .int .i64 z6, .int .i64 0, .int .i64 0] 47 (0, 0)) ∧ Rd B rb A l c (m + 20) W ∧ Chg [rb] w W) ⟨E1.out, rd9g (HR.out.mono (by omega)) (by omega) (by omega) _ _ _ _ _ _ _ _ _, chg9g HC.out (Nat.le_refl _) _ _ _ _ _ _ _ _ _⟩ ?_
      clear HX HZ HR HC E1 y0 y1 y2 y3 y4 y5 y6 y7 y8 u0 u1 u2 u3 u4 u5 u6 u7 u8 g0 g1 g2 g3 g4 g5 g6 g7 g8
      rintro W ⟨hp, hrW, hcW⟩
      have q0 := cellS hp 0
      have q1 := cellS hp 1
      have q2 := cellS hp 2
      have q3 := cellS hp 3
      have q4 := cellS hp 4
      have q5 := cellS hp 5
      have q6 := cellS hp 6
      have q7 := cellS hp 7
      have q8 := cellS hp 8
      exact bodyPost_ret (v := .agg #[.int .i64 v1, .int .i64 v2, .int .i64 1, .int .i64 1, .int .i64 z3, .int .i64 z4, .int .i64 z6, .int .i64 0, .int .i64 0]) (by simp only [results, Try.results85]; go_simp) rfl ⟨⟨⟨v1, v2, 1, 1, z3, z4, z6, 0, 0⟩, rfl⟩, hrW, hcW⟩
end Go.Proofs.Ytignigcknfklkaa
end
