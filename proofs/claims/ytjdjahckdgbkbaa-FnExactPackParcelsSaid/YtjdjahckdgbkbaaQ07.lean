import Derived.Test.YtjdjahckdgbkbaaQ06
section
namespace Go.Proofs.Ytjdjahckdgbkbaa
open Go.RowKit
set_option linter.unusedVariables false
set_option maxHeartbeats 1000000
theorem gset {w w' : World} {g : Nat} (h : w.grownBy w' (some g)) (o : Nat) (v : Value) : w.grownBy (w'.setCell ⟨g, o, none⟩ v) (some g) :=
  ⟨h.os, h.tape, h.output, by simpa using h.size, fun k hk hne => (Below.heap_setCell _ _ _ _ (fun e => hne (by rw [e]))).trans (h.block k hk hne)⟩
theorem grefl (w : World) (g : Nat) : w.grownBy w (some g) := ⟨rfl, rfl, rfl, Nat.le_refl _, fun _ _ _ => rfl⟩
set_option maxRecDepth 100000 in
theorem markPackS_v (g : Nat) (L : List Pk) (w : World) (h : Blk9 w g L) (hL : L.length ≤ 1048576) :
    Calls Try.prog 22 #[.slice (some ⟨g, 0, none⟩) L.length L.length, .int .i64 1] w fun e w' => (∃ k : Int, e = .returned (.int .i64 k) ∧ 0 ≤ k) ∧ w.grownBy w' (some g) := by
  obtain ⟨cs0, hh0, hs0, _⟩ := h
  have H0 := Lib.hid (And.intro hh0 hs0)
  clear hh0 hs0
  go_enter Try.func22, Try.ntmps22
  go_wp2_with fail
  go_loopw [1, 5] (fun kk i wr => ∃ k : Nat, k ≤ L.length ∧ i = .int .i64 k ∧ kk = .int .i64 ((k : Int) * 9 + 1) ∧ (∃ cs : Array Value, wr.heap[g]? = some (.cells cs 25 (0, 0)) ∧ cs.size = L.length * 9) ∧ w.grownBy wr (some g)) (fun _ i _ => L.length - (intOf i).toNat)
  case atStart => exact ⟨0, by omega, rfl, rfl, ⟨_, H0.out.1, H0.out.2⟩, grefl _ _⟩
  case round =>
    obtain ⟨k, hk, rfl, rfl, ⟨cs, hh, hs⟩, hB⟩ := hrel
    clear H0
    by_cases hlt : k < L.length
    · have hd : decide ((k : Int) < (L.length : Int)) = true := by simpa using hlt
      obtain ⟨y0, d0⟩ := there hh (i := k * 9) (by omega)
      obtain ⟨y1, d1⟩ := there hh (i := k * 9 + 1) (by omega)
      obtain ⟨y2, d2⟩ := there hh (i := k * 9 + 2) (by omega)
      obtain ⟨y3, d3⟩ := there hh (i := k * 9 + 3) (by omega)
      obtain ⟨y4, d4⟩ := there hh (i := k * 9 + 4) (by omega)
      obtain ⟨y5, d5⟩ := there hh (i := k * 9 + 5) (by omega)
      obtain ⟨y6, d6⟩ := there hh (i := k * 9 + 6) (by omega)
      obtain ⟨y7, d7⟩ := there hh (i := k * 9 + 7) (by omega)
      obtain ⟨y8, d8⟩ := there hh (i := k * 9 + 8) (by omega)
      have f0 := frozenH hh (k * 9)
      have f1 := frozenH hh (k * 9 + 1)
      have f2 := frozenH hh (k * 9 + 2)
      have f3 := frozenH hh (k * 9 + 3)
      have f4 := frozenH hh (k * 9 + 4)
      have f5 := frozenH hh (k * 9 + 5)
      have f6 := frozenH hh (k * 9 + 6)
      have f7 := frozenH hh (k * 9 + 7)
      have f8 := frozenH hh (k * 9 + 8)
      have HH := Lib.hid hh
      have HS := Lib.hid hs
      have HB := Lib.hid hB
      clear hh hs hB
      go_wp2_with fail
      go_roundw
      case rel =>
        refine ⟨k + 1, by omega, by go_num, by go_num, ⟨_, pput1 (pput1 (pput1 (pput1 (pput1 (pput1 (pput1 (pput1 (pput1 HH.out _) _) _) _) _) _) _) _) _, by simpa using HS.out⟩, ?_⟩
        exact gset (gset (gset (gset (gset (gset (gset (gset (gset HB.out _ _) _ _) _ _) _ _) _ _) _ _) _ _) _ _) _ _
      case measure => simp [intOf]; omega
    · have hd : decide ((k : Int) < (L.length : Int)) = false := by simp; omega
      have HB := Lib.hid hB
      clear hh hs hB
      go_wp2
      go_ret
      exact ⟨⟨_, rfl, by omega⟩, HB.out⟩
end Go.Proofs.Ytjdjahckdgbkbaa
end
section
namespace Go.Proofs.Ytjdjahckdgbkbaa
open Go.RowKit
set_option linter.unusedVariables false
set_option maxHeartbeats 1000000
attribute [local go_sem] growUpon_value growUpon_skip growUpon_enter
theorem rvals_get : ∀ {M : List Rc} {i : Nat} {r : Rc}, M[i]? = some r → ∀ j, j < 4 → (rvals M)[i * 4 + j]? = (vals4 r)[j]?
  | [], i, r, h, _, _ => by simp at h
  | q :: t, 0, r, h, j, hj => by
    simp at h; subst h
    show (vals4 q ++ rvals t)[0 * 4 + j]? = _
    rw [List.getElem?_append_left (by simp [vals4]; omega)]; simp
  | q :: t, i + 1, r, h, j, hj => by
    show (vals4 q ++ rvals t)[(i + 1) * 4 + j]? = _
    rw [List.getElem?_append_right (by simp [vals4]; omega)]
    have := rvals_get (M := t) (i := i) (r := r) (by simpa using h) j hj
    rw [← this]; congr 1; simp [vals4]; omega
/-- the value reads as the list -/
def RV (w : World) (v : Value) (M : List Rc) : Prop := ∃ A c, v = .slice A M.length c ∧ (0 < M.length → ∃ b, A = some ⟨b, 0, none⟩ ∧ b < w.heap.size ∧ ∀ i r, M[i]? = some r → Cells4 w b (i * 4) r)
theorem Cells4.at {w w' : World} {b o : Nat} {r : Rc} (h : Cells4 w b o r) (hb : w'.heap[b]? = w.heap[b]?) : Cells4 w' b o r := by
  have e : ∀ i, w'.cell? ⟨b, i, none⟩ = w.cell? ⟨b, i, none⟩ := fun i => World.cell?_of_block hb
  obtain ⟨h0, h1, h2, h3⟩ := h
  exact ⟨(e _).trans h0, (e _).trans h1, (e _).trans h2, (e _).trans h3⟩
theorem RV.keep {w w' : World} {v : Value} {M : List Rc} (h : RV w v M) (hb : Below w.heap.size w w') : RV w' v M := by
  obtain ⟨A, c, e, h⟩ := h
  exact ⟨A, c, e, fun h0 => let ⟨b, e1, h1, h2⟩ := h h0; ⟨b, e1, Nat.lt_of_lt_of_le h1 hb.size, fun i r hr => (h2 i r hr).at (hb.block b h1)⟩⟩
theorem RV.nil (w : World) : RV w (.slice none 0 0) [] := ⟨none, 0, rfl, fun h => absurd h (by simp)⟩
theorem RV.own {w : World} {base n : Nat} {v : Value} {M : List Rc} {T : TypeId} (h : w.ownsRow base T 4 v n (rvals M)) (hn : n = M.length) : RV w v M := by
  subst hn
  have hl := h.lt
  have hc := fun g hg => h.cells (g := g) hg
  rcases h.2 with ⟨rfl, h0⟩ | ⟨g, cap, cur, rfl, _⟩
  · exact ⟨none, 0, by rw [h0], fun h => absurd h (by omega)⟩
  · refine ⟨_, cap, rfl, fun _ => ⟨g, rfl, (hl g rfl).2, fun i r hr => ?_⟩⟩
    have e : ∀ j, j < 4 → ∀ u, (vals4 r)[j]? = some u → w.cell? ⟨g, i * 4 + j, none⟩ = some u := fun j hj u hu => by
      have h1 := hc g rfl (i * 4 + j) u ((rvals_get hr j hj).trans hu)
      have hadd : (⟨g, 0, none⟩ : Addr).add (i * 4 + j) = ⟨g, i * 4 + j, none⟩ := by unfold Addr.add; split <;> simp_all
      rwa [hadd] at h1
    exact ⟨e 0 (by omega) _ rfl, e 1 (by omega) _ rfl, e 2 (by omega) _ rfl, e 3 (by omega) _ rfl⟩
theorem RV.blk {w : World} {g n : Nat} {M : List Rc} (h : Blk4 w g M) (hn : n = M.length) (m : Nat) : RV w (.slice (some ⟨g, 0, none⟩) n m) M := by
  subst hn
  obtain ⟨cs, hh, hs, hc⟩ := h
  exact ⟨_, m, rfl, fun _ => ⟨g, rfl, (Array.getElem?_eq_some_iff.1 hh).1, fun i r hr => (hc i r hr).cells hh⟩⟩
set_option maxRecDepth 100000 in
theorem eqRect_sameP (r : Rc) (w : World) : Calls Try.prog 27 #[.agg #[.int .i64 (r.x), .int .i64 (r.y), .int .i64 (r.u), .int .i64 (r.v)], .agg #[.int .i64 (r.x), .int .i64 (r.y), .int .i64 (r.u), .int .i64 (r.v)]] w fun e w' => e = .returned (.bool true) ∧ Below w.heap.size w w' := by
  go_enter Try.func27, Try.ntmps27
  go_wp2
  go_ret
  exact ⟨rfl, balloc (balloc (Below.refl _ _))⟩
set_option maxRecDepth 100000 in
theorem eqRectS_same (v v' : Value) (M : List Rc) (w : World) (h : RV w v M) (h' : RV w v' M) (hM : M.length ≤ 7) :
    Calls Try.prog 21 #[v, v'] w fun e w' => e = .returned (.bool true) ∧ Below w.heap.size w w' := by
  obtain ⟨A, c, rfl, h⟩ := h
  obtain ⟨B, c', rfl, h'⟩ := h'
  go_enter Try.func21, Try.ntmps21
  go_wp2_with fail
  go_loopw [5] (fun i wr => ∃ k : Nat, k ≤ M.length ∧ i = .int .i64 k ∧ Below w.heap.size w wr) (fun i _ => M.length - (intOf i).toNat)
  case atStart => exact ⟨0, by omega, rfl, Below.refl _ _⟩
  case round =>
    obtain ⟨k, hk, rfl, hB⟩ := hrel
    by_cases hlt : k < M.length
    · have hd : decide ((k : Int) < (M.length : Int)) = true := by simpa using hlt
      obtain ⟨b, rfl, hb, hp⟩ := h (by omega)
      obtain ⟨b', rfl, hb', hp'⟩ := h' (by omega)
      obtain ⟨c0, c1, c2, c3⟩ := (hp k _ (List.getElem?_eq_getElem hlt)).at (hB.block b hb)
      obtain ⟨d0, d1, d2, d3⟩ := (hp' k _ (List.getElem?_eq_getElem hlt)).at (hB.block b' hb')
      generalize hx : M[k] = r at *
      have HX := Lib.hid hx
      have HP := Lib.hid hp
      have HP' := Lib.hid hp'
      have HBB := Lib.hid hB
      have HH := Lib.hid h
      have HH' := Lib.hid h'
      clear hx hp hp' hB h h'
      go_wp2_with fail
      refine wp_region_grow 10 0 (· < 10) (by kernel_rfl) (by kernel_rfl) rfl ?_
      iterate 10 (refine wpG_step (fun K hK => ?_); apply Exists.intro; refine ⟨.inl ⟨rfl, fun w' hw' => ?_⟩, ?_⟩; (focus ((obtain ⟨hc, hf⟩ := bcell hw'.out); (have hcS := bcellS hw'.out); go_simp <;> first | rfl | (go_at_call 27; exact eqRect_sameP r _))); (go_simp; refine hK _ ?_; clear hK K))
      refine wpG_nil ?_
      refine wpK_tail (by kernel_rfl) (fun w1 hg1 => ?_)
      refine wpAny_end (by kernel_rfl) ?_
      refine NoPan.thn ?_
      have hb1 := hg1.out
      replace HBB := Lib.hid (HBB.out.trans ((Below.refl wr.heap.size wr).drew.trans hb1 |>.mono HBB.out.size))
      clear hb1 hg1 c0 c1 c2 c3 d0 d1 d2 d3
      go_wp2
      go_roundw
      case rel => exact ⟨k + 1, by omega, by go_num, HBB.out⟩
      case measure => simp [intOf]; omega
    · have hd : decide ((k : Int) < (M.length : Int)) = false := by simp; omega
      have HBB := Lib.hid hB
      clear hB
      go_wp2
      go_ret
      exact ⟨rfl, HBB.out⟩
end Go.Proofs.Ytjdjahckdgbkbaa
end
section
namespace Go.Proofs.Ytjdjahckdgbkbaa
open Go.RowKit
set_option linter.unusedVariables false
set_option maxHeartbeats 1000000
def mk4 (k : Nat) : Rc := ⟨(k : Int) * 4 + 1, (k : Int) * 4 + 1 + 1, (k : Int) * 4 + 1 + 1 + 1, (k : Int) * 4 + 1 + 1 + 1 + 1⟩
def MK (n : Nat) : List Rc := (List.range n).map mk4
theorem MK_len (n : Nat) : (MK n).length = n := by simp [MK]
theorem MK_get {n k : Nat} (h : k < n) : (MK n)[k]? = some (mk4 k) := by simp [MK, h]
theorem MK_eq {n k : Nat} {r : Rc} (h : (MK n)[k]? = some r) : r = mk4 k := by
  have : k < n := by have := (List.getElem?_eq_some_iff.1 h).1; rwa [MK_len] at this
  rw [MK_get this] at h
  exact (Option.some.inj h).symm
set_option maxRecDepth 100000 in
theorem markRectS_v (g : Nat) (M : List Rc) (n : Nat) (w : World) (h : Blk4 w g M) (hn : n = M.length) (hL : n ≤ 7) :
    Calls Try.prog 23 #[.slice (some ⟨g, 0, none⟩) n n, .int .i64 1] w fun e w' => e = .returned (.int .i64 ((n : Int) * 4 + 1)) ∧ Blk4 w' g (MK n) ∧ w.grownBy w' (some g) := by
  obtain ⟨cs0, hh0, hs0, _⟩ := h
  rw [← hn] at hs0
  clear hn
  have H0 := Lib.hid (And.intro hh0 hs0)
  clear hh0 hs0
  go_enter Try.func23, Try.ntmps23
  go_wp2_with fail
  go_loopw [1, 5] (fun kk i wr => ∃ k : Nat, k ≤ n ∧ i = .int .i64 k ∧ kk = .int .i64 ((k : Int) * 4 + 1) ∧ (∃ cs : Array Value, wr.heap[g]? = some (.cells cs 45 (0, 0)) ∧ cs.size = n * 4 ∧ ∀ i, i < k → In4 cs (i * 4) (mk4 i)) ∧ w.grownBy wr (some g)) (fun _ i _ => n - (intOf i).toNat)
  case atStart => exact ⟨0, by omega, rfl, rfl, ⟨_, H0.out.1, H0.out.2, fun i hi => absurd hi (by omega)⟩, grefl _ _⟩
  case round =>
    obtain ⟨k, hk, rfl, rfl, ⟨cs, hh, hs, hc⟩, hB⟩ := hrel
    clear H0
    by_cases hlt : k < n
    · have hd : decide ((k : Int) < (n : Int)) = true := by simpa using hlt
      have hsz : k * 4 + 4 ≤ cs.size := by rw [hs]; omega
      obtain ⟨y0, d0⟩ := there hh (i := k * 4) (by omega)
      obtain ⟨y1, d1⟩ := there hh (i := k * 4 + 1) (by omega)
      obtain ⟨y2, d2⟩ := there hh (i := k * 4 + 2) (by omega)
      obtain ⟨y3, d3⟩ := there hh (i := k * 4 + 3) (by omega)
      have f0 := frozenH hh (k * 4)
      have f1 := frozenH hh (k * 4 + 1)
      have f2 := frozenH hh (k * 4 + 2)
      have f3 := frozenH hh (k * 4 + 3)
      have HH := Lib.hid hh
      have HS := Lib.hid hs
      have HC := Lib.hid hc
      have HB := Lib.hid hB
      have E1 := Lib.hid (pput4 hh (k * 4) (mk4 k))
      clear hh hs hc hB
      go_wp2_with fail
      go_roundw
      case rel =>
        refine ⟨k + 1, by omega, by go_num, by go_num, ⟨_, E1.out, (writeAt_size _ _ _).trans HS.out, fun i hi => ?_⟩, ?_⟩
        · by_cases e : i = k
          · subst e; exact In4.write _ hsz
          · exact (HC.out i (by omega)).keep (.inl (by omega))
        · exact gset (gset (gset (gset HB.out _ _) _ _) _ _) _ _
      case measure => simp [intOf]; omega
    · have hd : decide ((k : Int) < (n : Int)) = false := by simp; omega
      obtain rfl : k = n := by omega
      have HK := Lib.hid (show Blk4 wr g (MK k) from ⟨cs, hh, by rw [hs, MK_len], fun i r hr => by
        have h1 : i < k := by have := (List.getElem?_eq_some_iff.1 hr).1; rwa [MK_len] at this
        rw [MK_eq hr]; exact hc i h1⟩)
      have HB := Lib.hid hB
      clear hh hs hB hc
      go_wp2
      go_ret
      exact ⟨rfl, HK.out, HB.out⟩
set_option maxRecDepth 100000 in
theorem heldRectS_v (g : Nat) (n : Nat) (w : World) (h : Blk4 w g (MK n)) (hL : n ≤ 7) :
    Calls Try.prog 24 #[.slice (some ⟨g, 0, none⟩) n n, .int .i64 1] w fun e w' => e = .returned (.int .i64 ((n : Int) * 4 + 1)) ∧ Below w.heap.size w w' := by
  have hg : g < w.heap.size := by obtain ⟨cs, hh, _⟩ := h; exact (Array.getElem?_eq_some_iff.1 hh).1
  have H := Lib.hid h
  clear h
  go_enter Try.func24, Try.ntmps24
  go_wp2_with fail
  go_loopw [1, 5] (fun kk i wr => ∃ k : Nat, k ≤ n ∧ i = .int .i64 k ∧ kk = .int .i64 ((k : Int) * 4 + 1) ∧ Below w.heap.size w wr) (fun _ i _ => n - (intOf i).toNat)
  case atStart => exact ⟨0, by omega, rfl, rfl, Below.refl _ _⟩
  case round =>
    obtain ⟨k, hk, rfl, rfl, hB⟩ := hrel
    by_cases hlt : k < n
    · have hd : decide ((k : Int) < (n : Int)) = true := by simpa using hlt
      obtain ⟨cs, hh, hs, hc⟩ := H.out.keep hB
      obtain ⟨c0, c1, c2, c3⟩ := (hc k _ (MK_get hlt)).cells hh
      dsimp only [mk4] at c0 c1 c2 c3
      have HB := Lib.hid hB
      clear hh hs hB hc
      go_wp2_with fail
      go_roundw
      case rel => exact ⟨k + 1, by omega, by go_num, by go_num, HB.out⟩
      case measure => simp [intOf]; omega
    · have hd : decide ((k : Int) < (n : Int)) = false := by simp; omega
      obtain rfl : k = n := by omega
      have HB := Lib.hid hB
      clear hB
      go_wp2
      go_ret
      exact ⟨rfl, HB.out⟩
set_option maxRecDepth 100000 in
theorem markRectS_nil (w : World) : Calls Try.prog 23 #[.slice none 0 0, .int .i64 1] w fun e w' => e = .returned (.int .i64 1) ∧ w' = w := by
  go_enter Try.func23, Try.ntmps23
  go_wp2_with fail
  go_loopw [1, 5] (fun kk i wr => i = .int .i64 0 ∧ kk = .int .i64 1 ∧ wr = w) (fun _ i _ => 0)
  case atStart => exact ⟨rfl, rfl, rfl⟩
  case round =>
    obtain ⟨rfl, rfl, rfl⟩ := hrel
    go_wp2
    go_ret
    exact ⟨rfl, rfl⟩
set_option maxRecDepth 100000 in
theorem heldRectS_nil (w : World) : Calls Try.prog 24 #[.slice none 0 0, .int .i64 1] w fun e w' => e = .returned (.int .i64 1) ∧ w' = w := by
  go_enter Try.func24, Try.ntmps24
  go_wp2_with fail
  go_loopw [1, 5] (fun kk i wr => i = .int .i64 0 ∧ kk = .int .i64 1 ∧ wr = w) (fun _ i _ => 0)
  case atStart => exact ⟨rfl, rfl, rfl⟩
  case round =>
    obtain ⟨rfl, rfl, rfl⟩ := hrel
    go_wp2
    go_ret
    exact ⟨rfl, rfl⟩
end Go.Proofs.Ytjdjahckdgbkbaa
end
