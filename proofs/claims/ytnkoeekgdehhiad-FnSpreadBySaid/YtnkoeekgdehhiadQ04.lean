import Derived.Test.YtnkoeekgdehhiadQ03
section
namespace Go.Proofs.Ytnkoeekgdehhiad
open Go.RowKit
set_option linter.unusedVariables false
set_option maxHeartbeats 1000000
def isIn (lo hi : Int) : Value → Bool | .int .i64 z => decide (lo ≤ z ∧ z ≤ hi) | _ => false
theorem isIn_ex {lo hi : Int} {v : Value} (h : isIn lo hi v = true) : ∃ z, v = .int .i64 z ∧ lo ≤ z ∧ z ≤ hi := by
  unfold isIn at h
  split at h
  · exact ⟨_, rfl, by simpa using h⟩
  · cases h
/-- one of a literal's numbers, with their bounds -/
theorem one_lit_in (lo hi : Int) {B rb : Nat} {A : Option Addr} {l c m k : Nat} {cs : Array Value} {T : TypeId} (w : World) (h : Rd B rb A l c m w) (hm : m ≤ 1000000) (hk : cs.size = k) (h1 : 1 ≤ k) (h2 : k ≤ 100) (ha : cs.toList.all (isIn lo hi) = true) :
    Calls Try.prog 43 #[.pointer (some ⟨rb, 0, none⟩), .slice (some ⟨w.heap.size, 0, none⟩) k k] (w.alloc (.cells cs T)) fun e w' => (∃ z, e = .returned (.int .i64 z) ∧ lo ≤ z ∧ z ≤ hi) ∧ Rd B rb A l c (m + 1) w' ∧ Chg [rb] w w' := by
  have hlt := h.lt
  have hg4 : ∀ j, j < k → ∃ z, (w.alloc (.cells cs T)).cell? ⟨w.heap.size, j, none⟩ = some (.int .i64 z) ∧ lo ≤ z ∧ z ≤ hi := fun j hj => by
    have hc : cs[j]? = some cs[j] := by simp [hk, hj]
    obtain ⟨z, hz, hb⟩ := isIn_ex (List.all_eq_true.1 ha cs[j] (by simp))
    refine ⟨z, ?_, hb⟩
    rw [← hz, ← hc]
    exact cell_of_heap (heap_alloc_new w (.cells cs T)) j
  go_enter Try.func43, Try.ntmps43
  go_wp2_with fail
  refine (pick_any _ _ (h.alloc _) hm).mono ?_
  rintro e w1 ⟨⟨v, rfl, hv⟩, hr, hc⟩
  obtain ⟨v0, v1⟩ := hv (by omega)
  obtain ⟨j, rfl⟩ := Int.eq_ofNat_of_zero_le v0
  obtain ⟨z, hz, hb⟩ := hg4 j (by omega)
  have hz' := (hc.cell (p := ⟨w.heap.size, j, none⟩) (by simp) (by simp; omega)).trans hz
  have hjk : j < k := by omega
  have Hr := Lib.hid hr
  have Hc := Lib.hid (((Chg.refl [rb] w).alloc (.cells cs T)).trans hc)
  clear hr hc hv hz hg4 h
  go_wp2
  go_ret
  exact ⟨⟨_, rfl, hb⟩, Hr.out, Hc.out⟩
end Go.Proofs.Ytnkoeekgdehhiad
end
section
namespace Go.Proofs.Ytnkoeekgdehhiad
open Go.RowKit
set_option linter.unusedVariables false
set_option maxHeartbeats 1000000
def nvals (L : List Int) : List Value := L.map (Value.int .i64)
theorem nvals_snoc (L : List Int) (x : Int) : nvals L ++ [.int .i64 x] = nvals (L ++ [x]) := by simp [nvals]
theorem own_chgN {w w' : World} {base rb : Nat} {e : TypeId} {size : Nat} {v : Value} {n : Nat} {xs : List Value} (h : w.ownsRow base e size v n xs) (hc : Chg [rb] w w') (hr : rb < base) : w'.ownsRow base e size v n xs :=
  h.kept (row := some rb) ⟨hc.os, hc.tape, hc.output, hc.size, fun k hk hne => hc.block k hk (by simp; exact fun e => hne (by rw [e]))⟩ (by
    cases hv : v.ownBlock with
    | none => exact .inl rfl
    | some g => exact .inr (fun e => by have := h.lt g hv; cases e; omega))
theorem chg_grownN {S : List Nat} {a W w5 : World} {v : Value} {o : Obj} {lo hi : Nat} (h : Chg S a W) (hg : (W.alloc o).grownBy w5 v.ownBlock) (hob : ∀ k, v.ownBlock = some k → lo ≤ k ∧ k < hi) (hlo : a.heap.size ≤ lo) : Chg S a w5 :=
  ⟨hg.os.trans (h.alloc o).os, hg.tape.trans (h.alloc o).tape, hg.output.trans (h.alloc o).output, Nat.le_trans (h.alloc o).size hg.size, fun k hk hs => (hg.block k (Nat.lt_of_lt_of_le hk (h.alloc o).size) (fun e => by have := hob k e.symm; omega)).trans ((h.alloc o).block k hk hs)⟩
theorem rd_grownN {B rb : Nat} {A : Option Addr} {n c m : Nat} {W w5 : World} {v : Value} {o : Obj} {lo hi : Nat} (h : Rd B rb A n c m W) (hg : (W.alloc o).grownBy w5 v.ownBlock) (hob : ∀ k, v.ownBlock = some k → lo ≤ k ∧ k < hi) (hlo : rb < lo) : Rd B rb A n c m w5 := by
  have hb := h.base
  cases hv : v.ownBlock with
  | none =>
    rw [hv] at hg
    exact h.keep (S := []) ⟨hg.os, hg.tape, hg.output, Nat.le_trans (by simp) hg.size, fun k hk _ => (hg.block k (by simp; omega) (fun e => by cases e)).trans (Below.heap_alloc _ _ _ hk)⟩ (by simp)
  | some g =>
    have := hob g hv
    rw [hv] at hg
    exact h.keep (S := [g]) (Chg.of_grown ((Chg.refl [g] W).alloc o) hg (.inl (by simp))) (by simp; omega)
theorem own_in1 {w : World} {base n : Nat} {v : Value} {M : List Int} {T : TypeId} (h : w.ownsRow base T 1 v n (nvals M)) (hn : n = M.length) :
    (v = .slice none 0 0 ∧ M = []) ∨ ∃ g cap, ∃ cs : Array Value, v = .slice (some ⟨g, 0, none⟩) n cap ∧ base ≤ g ∧ n ≤ cap ∧ w.heap[g]? = some (.cells cs T (0, 0)) ∧ cs.size = cap * 1 ∧ ∀ (i : Nat) (x : Int), M[i]? = some x → cs[i]? = some (Value.int .i64 x) := by
  rcases h.2 with ⟨rfl, h0⟩ | ⟨g, cap, cur, rfl, hb, hg, hc, _, hs, ht⟩
  · exact .inl ⟨rfl, List.length_eq_zero_iff.1 (by omega)⟩
  · refine .inr ⟨g, cap, cur, rfl, hb, hc, hg, hs, fun i x hx => ?_⟩
    have e : (nvals M)[i]? = some (Value.int .i64 x) := by simp [nvals, hx]
    have hi := (List.getElem?_eq_some_iff.1 hx).1
    rw [← ht, List.getElem?_take] at e
    rw [if_pos (by omega)] at e
    simpa using e
theorem nv_of {w : World} {g : Nat} {cs : Array Value} {T : TypeId} {M : List Int} (hh : w.heap[g]? = some (.cells cs T (0, 0))) (hc : ∀ (i : Nat) (x : Int), M[i]? = some x → cs[i]? = some (Value.int .i64 x)) : NV w (some ⟨g, 0, none⟩) M :=
  ⟨fun _ => ⟨g, 0, rfl, (Array.getElem?_eq_some_iff.1 hh).1, fun i x hx => by rw [Nat.zero_add]; exact (cell_of_heap hh i).trans (hc i x hx)⟩⟩
theorem NV.chg {w w' : World} {A : Option Addr} {L : List Int} {rb : Nat} (h : NV w A L) (hc : Chg [rb] w w') (hne : ∀ a, A = some a → a.block ≠ rb) : NV w' A L :=
  ⟨fun h0 => let ⟨b, off, e, hl, hp⟩ := h.cells h0; ⟨b, off, e, Nat.lt_of_lt_of_le hl hc.size, fun i x hx => (hc.cell (p := ⟨b, off + i, none⟩) hl (by simp; exact hne _ e)).trans (hp i x hx)⟩⟩
theorem int_info : ∃ (i : TypeInfo) (z : Value), Try.prog.info? 3 = some i ∧ i.zero = some z ∧ i.size = 1 ∧ i.bytes = 8 ∧ z.cells.size = 1 := by
  have hinfo : (Try.prog.info? 3).map (fun i => (i.zero, i.size, i.bytes)) = some (some (.int .i64 0), 1, 8) := by kernel_rfl
  obtain ⟨i, hi, h1, h2, h3⟩ := info_parts hinfo
  exact ⟨i, _, hi, h1, h2, h3, rfl⟩
theorem new1 (W : World) (x : Int) (T : TypeId) : ∀ (j : Nat) (u : Value), [Value.int .i64 x][j]? = some u → (W.alloc (.cells #[.int .i64 x] T)).cell? ((⟨W.heap.size, 0, none⟩ : Addr).add j) = some u := fun j u h => by
  have hadd : (⟨W.heap.size, 0, none⟩ : Addr).add j = ⟨W.heap.size, j, none⟩ := by unfold Addr.add; split <;> simp_all
  rw [hadd]
  exact (cell_of_heap (heap_alloc_new W _) j).trans (by simpa using h)
set_option maxRecDepth 100000 in
theorem DrawSpreadBy_any (A : Option Addr) (n c : Nat) (w : World) (h : Bts w A n) (hn : n ≤ c) (hc : c ≤ maxLen) :
    Calls Try.prog 14 #[.slice A n c] w fun e w' => (∃ (A' : Option Addr) (c' : Nat) (L : List Int) (r : Int), e = .returned (.tuple #[.int .i64 r, .slice A' L.length c']) ∧ L.length ≤ 8 ∧ NV w' A' L) ∧ Below w.heap.size w w' := by
  obtain ⟨ti, tz, ti1, ti2, ti3, ti4, ti5⟩ := int_info
  go_enter Try.func14, Try.ntmps14
  go_wp2_with fail
  with_reducible refine (newReader_any A n c _ h hn hc).mono ?_
  rintro e w1 ⟨n', rfl, hr1, hc1⟩
  have hlt1 := hr1.lt
  go_wp2_with fail
  obtain ⟨W0, hW0⟩ : ∃ W0, w1.alloc (.cells #[] 3 (0, 0)) = W0 := ⟨_, rfl⟩
  have hs0 : w1.heap.size + 1 = W0.heap.size := by rw [← hW0]; simp
  have hr0 : Rd w.heap.size w.heap.size A n' c 0 W0 := by rw [← hW0]; exact hr1.alloc _
  have ho0 : W0.ownsRow w1.heap.size 3 1 (.slice (some ⟨w1.heap.size, 0, none⟩) 0 0) 0 (nvals []) := by rw [← hW0]; exact World.ownsRow_lit (base := w1.heap.size) (e := 3) (size := 1) w1 #[] 0 (Nat.le_refl _) (by decide) rfl
  have hc0 : Chg [w.heap.size] w1 W0 := by rw [← hW0]; exact (Chg.refl [w.heap.size] w1).alloc _
  rw [hW0, hs0]
  clear hW0
  with_reducible refine (one_lit_in 0 6 W0 hr0 (by omega) (by simp) (by omega) (by omega) (by simp [isIn])).mono ?_
  rintro e w2 ⟨⟨z, rfl, z0, z1⟩, hr2, hc2⟩
  obtain ⟨k0, rfl⟩ := Int.eq_ofNat_of_zero_le z0
  have HO := Lib.hid (own_chgN ho0 hc2 hlt1)
  have HR := Lib.hid hr2
  have HC := Lib.hid (hc0.trans hc2)
  have HC1 := Lib.hid hc1
  clear hr1 ho0 hr0 hc0 hr2 hc2 hc1
  go_wp2_with fail
  go_loopw [5, 6] (fun out i wr => ∃ k : Nat, i = .int .i64 k ∧ ∃ L : List Int, k + L.length ≤ 6 ∧ wr.ownsRow w1.heap.size 3 1 out L.length (nvals L) ∧ Rd w.heap.size w.heap.size A n' c (1 + L.length) wr ∧ Chg [w.heap.size] w1 wr) (fun _ i _ => (intOf i).toNat)
  case atStart => exact ⟨k0, rfl, [], by simp; omega, HO.out, HR.out, HC.out⟩
  case round =>
    obtain ⟨k, rfl, L, hk, ho, hr, hcc⟩ := hrel
    clear HO HR HC
    rcases k with _ | k
    · have hd : decide (((0 : Nat) : Int) > 0) = false := by simp
      have HR := Lib.hid hr
      have HC := Lib.hid hcc
      rcases own_in1 ho rfl with ⟨rfl, rfl⟩ | ⟨g, cap, cs, rfl, hg, hcap, hh, hs, hin⟩
      · clear ho hr hcc
        go_wp2_with fail
        with_reducible refine (pick_any _ _ HR.out (by simp)).mono ?_
        rintro e w3 ⟨⟨v, rfl, hv⟩, hr3, hc3⟩
        obtain ⟨v0, v1⟩ := hv (by omega)
        go_wp2_with fail
        with_reducible refine (one_lit_in (-1) 401 _ hr3 (by simp) (by simp) (by omega) (by omega) (by simp [isIn]; omega)).mono ?_
        rintro e w4 ⟨⟨z1, rfl, z1a, z1b⟩, hr4, hc4⟩
        have HB := Lib.hid (Chg.below (((HC1.out.mono (S' := [w.heap.size]) (by simp)).trans HC.out).trans (hc3.trans hc4)) (Nat.le_refl _) (by simp))
        clear hr3 hr4 hc3 hc4 HC HR HC1
        go_wp2
        exact bodyPost_ret (v := .tuple #[.int .i64 z1, .slice none 0 0]) (by simp only [results, Try.results14]; go_simp) rfl ⟨⟨none, 0, [], z1, rfl, by simp, NV.nil _ _⟩, HB.out⟩
      · have hgr : ∀ a : Addr, (some (⟨g, 0, none⟩ : Addr)) = some a → a.block ≠ w.heap.size := fun a e => by cases e; simp; omega
        have hL8 : L.length ≤ 8 := by omega
        have HN := Lib.hid (nv_of hh hin)
        have HH := Lib.hid hh
        have HIN := Lib.hid hin
        clear ho hr hcc hh hin
        by_cases hl0 : 0 < L.length
        · have hd2 : decide ((L.length : Int) > 0) = true := by simpa using hl0
          have hd3 : decide ((0 : Int) < (L.length : Int)) = true := by simpa using hl0
          go_wp2_with fail
          with_reducible refine (pick_any _ _ HR.out (by omega)).mono ?_
          rintro e w3 ⟨⟨v, rfl, hv⟩, hr3, hc3⟩
          replace HN := Lib.hid (HN.out.chg hc3 hgr)
          replace HH := Lib.hid ((hc3.block g (lt_of_heap HH.out) (by simp; omega)).trans HH.out)
          replace HC := Lib.hid (HC.out.trans hc3)
          clear HR hc3 hv
          by_cases hv0 : v = 0
          · subst hv0
            go_wp2_with fail
            with_reducible refine (one_lit_in (-1) 6 _ hr3 (by omega) (by simp) (by omega) (by omega) (by simp [isIn])).mono ?_
            rintro e w4 ⟨⟨z1, rfl, z1a, z1b⟩, hr4, hc4⟩
            replace HH := Lib.hid ((hc4.block g (lt_of_heap HH.out) (by simp; omega)).trans HH.out)
            replace HC := Lib.hid (HC.out.trans hc4)
            have hc0s : 0 < cs.size := by omega
            obtain ⟨y0, e0⟩ : ∃ y, w4.cell? ⟨g, 0, none⟩ = some y := ⟨cs[0], (cell_of_heap HH.out 0).trans (by simp [hc0s])⟩
            have f0 := frozen_of_heap HH.out 0
            have HH2 := Lib.hid (put1h (i := 0) HH.out (.int .i64 z1))
            replace HC := Lib.hid (HC.out.setCell (p := ⟨g, 0, none⟩) (.inr (by simp; omega)) (.int .i64 z1))
            have hr5 := hr4.setCell (p := ⟨g, 0, none⟩) (by simp; omega) (by simp; omega) (.int .i64 z1)
            have HR5 := Lib.hid hr5
            have HIN2 := Lib.hid (show ∀ (i : Nat) (x : Int), (L.set 0 z1)[i]? = some x → (cs.setIfInBounds 0 (Value.int .i64 z1))[i]? = some (Value.int .i64 x) from fun i x hx => by
              rw [List.getElem?_set] at hx
              rw [Array.getElem?_setIfInBounds]
              by_cases hi0 : i = 0
              · subst hi0; rw [if_pos rfl, if_pos hl0] at hx; rw [if_pos rfl, if_pos hc0s]; cases hx; rfl
              · rw [if_neg (by omega)] at hx; rw [if_neg (by omega)]; exact HIN.out i x hx)
            clear hr3 hr4 hc4 hr5
            go_wp2_with fail
            obtain ⟨W5, hW5⟩ : ∃ W, w4.setCell ⟨g, 0, none⟩ (.int .i64 z1) = W := ⟨_, rfl⟩
            rw [hW5] at HH2 HC HR5 ⊢
            clear hW5 e0 f0
            with_reducible refine (pick_any _ _ HR5.out (by omega)).mono ?_
            rintro e w6 ⟨⟨v, rfl, hv⟩, hr6, hc6⟩
            obtain ⟨v0, v1⟩ := hv (by omega)
            go_wp2_with fail
            with_reducible refine (one_lit_in (-1) 401 _ hr6 (by omega) (by simp) (by omega) (by omega) (by simp [isIn]; omega)).mono ?_
            rintro e w7 ⟨⟨z2, rfl, z2a, z2b⟩, hr7, hc7⟩
            have HNN := Lib.hid ((nv_of HH2.out HIN2.out).chg (hc6.trans hc7) hgr)
            have HB := Lib.hid (Chg.below (((HC1.out.mono (S' := [w.heap.size]) (by simp)).trans HC.out).trans (hc6.trans hc7)) (Nat.le_refl _) (by simp))
            clear hr6 hr7 hc6 hc7 HC HC1
            go_wp2
            exact bodyPost_ret (v := .tuple #[.int .i64 z2, .slice (some ⟨g, 0, none⟩) L.length cap]) (by simp only [results, Try.results14]; go_simp) rfl ⟨⟨_, cap, L.set 0 z1, z2, by rw [List.length_set], by rw [List.length_set]; exact hL8, HNN.out⟩, HB.out⟩
          · have hv' : (v == 0) = false := by simpa using hv0
            go_wp2_with fail
            with_reducible refine (pick_any _ _ hr3 (by omega)).mono ?_
            rintro e w6 ⟨⟨v, rfl, hv⟩, hr6, hc6⟩
            obtain ⟨v0, v1⟩ := hv (by omega)
            go_wp2_with fail
            with_reducible refine (one_lit_in (-1) 401 _ hr6 (by omega) (by simp) (by omega) (by omega) (by simp [isIn]; omega)).mono ?_
            rintro e w7 ⟨⟨z2, rfl, z2a, z2b⟩, hr7, hc7⟩
            have HNN := Lib.hid (HN.out.chg (hc6.trans hc7) hgr)
            have HB := Lib.hid (Chg.below (((HC1.out.mono (S' := [w.heap.size]) (by simp)).trans HC.out).trans (hc6.trans hc7)) (Nat.le_refl _) (by simp))
            clear hr3 hr6 hr7 hc6 hc7 HC HC1
            go_wp2
            exact bodyPost_ret (v := .tuple #[.int .i64 z2, .slice (some ⟨g, 0, none⟩) L.length cap]) (by simp only [results, Try.results14]; go_simp) rfl ⟨⟨_, cap, L, z2, rfl, hL8, HNN.out⟩, HB.out⟩
        · have hd2 : decide ((L.length : Int) > 0) = false := decide_eq_false (by omega)
          have hd3 : decide ((0 : Int) < (L.length : Int)) = false := decide_eq_false (by omega)
          go_wp2_with fail
          with_reducible refine (pick_any _ _ HR.out (by omega)).mono ?_
          rintro e w6 ⟨⟨v, rfl, hv⟩, hr6, hc6⟩
          obtain ⟨v0, v1⟩ := hv (by omega)
          go_wp2_with fail
          with_reducible refine (one_lit_in (-1) 401 _ hr6 (by omega) (by simp) (by omega) (by omega) (by simp [isIn]; omega)).mono ?_
          rintro e w7 ⟨⟨z2, rfl, z2a, z2b⟩, hr7, hc7⟩
          have HNN := Lib.hid (HN.out.chg (hc6.trans hc7) hgr)
          have HB := Lib.hid (Chg.below (((HC1.out.mono (S' := [w.heap.size]) (by simp)).trans HC.out).trans (hc6.trans hc7)) (Nat.le_refl _) (by simp))
          clear HR hr6 hr7 hc6 hc7 HC HC1
          go_wp2
          exact bodyPost_ret (v := .tuple #[.int .i64 z2, .slice (some ⟨g, 0, none⟩) L.length cap]) (by simp only [results, Try.results14]; go_simp) rfl ⟨⟨_, cap, L, z2, rfl, hL8, HNN.out⟩, HB.out⟩
    · have hd : decide (((k + 1 : Nat) : Int) > 0) = true := by simp
      go_wp2_with fail
      with_reducible refine (one_lit_in 0 5 _ hr (by omega) (by simp) (by omega) (by omega) (by simp [isIn])).mono ?_
      rintro e w3 ⟨⟨z, rfl, za, zb⟩, hr3, hc3⟩
      have hw3 : w1.heap.size ≤ w3.heap.size := Nat.le_trans hcc.size hc3.size
      have ho3 := own_chgN ho hc3 hlt1
      have hob := ho3.lt
      have HR := Lib.hid hr3
      have HC := Lib.hid (hcc.trans hc3)
      have HO := Lib.hid ho3
      clear hr3 hc3 ho3 hr hcc ho
      go_wp2_with (at_builtin; refine wpList_append_own _ rfl _ _ 37 rfl w1.heap.size 3 ti tz 1 8 Try.underlying37 ti1 ti2 ti3 ti4 ti5 (by decide) _ _ _ rfl (HO.out.alloc _) ⟨w3.heap.size, 0, none⟩ 1 1 [.int .i64 z] rfl rfl (new1 _ _ _) (by simp [Value.oneCell']) (by simp only [maxLen]; omega) (by omega) (by simp; omega) ?_)
      intro v5 w5 how5 hgr5 _
      rw [nvals_snoc] at how5
      replace HC := Lib.hid (chg_grownN HC.out hgr5 hob (Nat.le_refl _))
      replace HR := Lib.hid (rd_grownN HR.out hgr5 hob hlt1)
      replace HO := Lib.hid how5
      clear how5 hgr5 hob
      go_wp2
      go_roundw
      case rel => exact ⟨k, by go_num, L ++ [z], by simp; omega, by simpa using HO.out, HR.out.mono (by simp; omega), HC.out⟩
      case measure => simp [intOf]
end Go.Proofs.Ytnkoeekgdehhiad
end
section
namespace Go.Proofs.Ytnkoeekgdehhiad
open Go.RowKit
set_option linter.unusedVariables false
theorem IsRow.bts {w : World} {A : Option Addr} {n c : Nat} {z : List Int} (h : IsRow .u8 w A n c z) : Bts w A n ∧ n ≤ c ∧ c ≤ maxLen := by
  rcases h with ⟨rfl, rfl, rfl, rfl⟩ | ⟨x, rfl, h1, h2, h3, h4, h5⟩
  · exact ⟨fun h => absurd h (by omega), Nat.le_refl _, by unfold maxLen; omega⟩
  · refine ⟨fun hn => ⟨x, rfl, ?_, fun i hi => ?_⟩, h1, h2⟩
    · have := h4 0 (by omega)
      have h6 := World.block_lt_of_cell? w _ this
      rwa [block_add] at h6
    · have hc := h4 i (by omega)
      refine ⟨z.getD i 0, ?_, ?_, hc⟩
      all_goals
        have hm : z.getD i 0 ∈ z := by
          rw [List.getD_eq_getElem?_getD, List.getElem?_eq_getElem (by omega)]
          exact List.getElem_mem _
        have h6 := h5 _ hm
        have g1 : IntKind.u8.min = 0 := by decide
        have g2 : IntKind.u8.max = 255 := by decide
        generalize z.getD i 0 = y at *
        simp [Lit.wf, g1, g2] at h6
        omega
end Go.Proofs.Ytnkoeekgdehhiad
end
section
namespace Go.Proofs.Ytnkoeekgdehhiad
open Go.RowKit
set_option linter.unusedVariables false
set_option maxHeartbeats 1000000
attribute [local go_sem] growUpon_value growUpon_skip growUpon_enter
set_option maxRecDepth 100000 in
theorem equalInts_z (v v' : Value) (L : List Int) (w : World) (h : NR w v L) (h' : NR w v' L) (hL : L.length ≤ 1048576) :
    Calls Try.prog 16 #[v, v'] w fun e w' => e = .returned (.bool true) ∧ Below w.heap.size w w' := by
  obtain ⟨A, c, rfl, h⟩ := h
  obtain ⟨B, c', rfl, h'⟩ := h'
  go_enter Try.func16, Try.ntmps16
  go_wp2_with fail
  go_loopw [5] (fun i wr => ∃ k : Nat, k ≤ L.length ∧ i = .int .i64 k ∧ Below w.heap.size w wr) (fun i _ => L.length - (intOf i).toNat)
  case atStart => exact ⟨0, by omega, rfl, Below.refl _ _⟩
  case round =>
    obtain ⟨k, hk, rfl, hB⟩ := hrel
    by_cases hlt : k < L.length
    · have hd : decide ((k : Int) < (L.length : Int)) = true := by simpa using hlt
      obtain ⟨b, off, rfl, hb, hp⟩ := (h.keep hB).cells (by omega)
      obtain ⟨b', off', rfl, hb', hp'⟩ := (h'.keep hB).cells (by omega)
      have hget : L[k]? = some L[k] := List.getElem?_eq_getElem hlt
      have c0 := hp k _ hget
      have d0 := hp' k _ hget
      generalize hx : L[k] = x at *
      have HB := Lib.hid hB
      clear hget hx hp hp' hB
      go_wp2_with fail
      refine wp_region_grow 9 0 (· < 9) (by kernel_rfl) (by kernel_rfl) rfl ?_
      iterate 9 (refine wpG_step (fun K hK => ?_); first | (refine grow_skip rfl ?_; go_simp; refine hK _ ?_; clear hK K) | (apply Exists.intro; refine ⟨.inl ⟨rfl, fun w' hw' => ?_⟩, ?_⟩; (focus ((obtain ⟨hc, hf⟩ := bcell hw'.out); (have hcS := bcellS hw'.out); go_simp <;> first | rfl | (fail))); (go_simp; refine hK _ ?_; clear hK K)))
      refine wpG_nil ?_
      refine wpK_tail (by kernel_rfl) (fun w1 hg1 => ?_)
      have hb1 := bdrewn hg1.out
      refine wpAny_end (by kernel_rfl) ?_
      refine NoPan.thn ?_
      clear hg1
      replace HB := Lib.hid (HB.out.trans (hb1.mono HB.out.size))
      clear hb1 c0 d0
      go_wp2
      go_roundw
      case rel => exact ⟨k + 1, by omega, by go_num, HB.out⟩
      case measure => simp [intOf]; omega
    · have hd : decide ((k : Int) < (L.length : Int)) = false := by simp; omega
      have HB := Lib.hid hB
      clear hB
      go_wp2
      go_ret
      exact ⟨rfl, HB.out⟩
set_option maxRecDepth 100000 in
theorem ltotal_v (A : Option Addr) (c : Nat) (L : List Int) (w : World) (h : NV w A L) (hL : L.length ≤ 1048576) (hM : Smal 1000000000 L) :
    Calls Try.prog 18 #[.slice A L.length c] w fun e w' => e = .returned (.int .i64 (sumI L)) ∧ w = w' := by
  have HM := Lib.hid hM
  clear hM
  go_enter Try.func18, Try.ntmps18
  go_wp2_with fail
  go_loop [3, 4] (fun s i => ∃ k : Nat, k ≤ L.length ∧ i = .int .i64 k ∧ s = .int .i64 (sumI (L.take k))) (fun _ i => L.length - (intOf i).toNat)
  case atStart => exact ⟨0, by omega, rfl, rfl⟩
  case round =>
    obtain ⟨k, hk, rfl, rfl⟩ := hrel
    by_cases hlt : k < L.length
    · have hd : decide ((k : Int) < (L.length : Int)) = true := by simpa using hlt
      obtain ⟨b, off, rfl, hb, hp⟩ := h.cells (by omega)
      have hget : L[k]? = some L[k] := List.getElem?_eq_getElem hlt
      have c0 := hp k _ hget
      generalize hx : L[k] = x at *
      have hs := sumI_snoc hget
      have b1 := HM.out k
      have b2 := HM.out (k + 1)
      rw [hs] at b2
      obtain ⟨S, hS⟩ : ∃ S, sumI (L.take k) = S := ⟨_, rfl⟩
      rw [hS] at b1 b2 hs
      rw [hS]
      have HS := Lib.hid hs
      clear hs hS hget hx hp
      go_wp2
      go_round
      case rel => exact ⟨k + 1, by omega, by go_num, by rw [HS.out]⟩
      case measure => simp [intOf]; omega
    · have hd : decide ((k : Int) < (L.length : Int)) = false := by simp; omega
      have he : L.take k = L := List.take_of_length_le (by omega)
      rw [he]
      clear he
      go_wp2
      go_ret
      exact ⟨rfl, rfl⟩
theorem ltotal_n (A : Option Addr) (c n : Nat) (L : List Int) (w : World) (h : NV w A L) (hn : n = L.length) (hL : n ≤ 1048576) (hM : Smal 1000000000 L) :
    Calls Try.prog 18 #[.slice A n c] w fun e w' => e = .returned (.int .i64 (sumI L)) ∧ w = w' := by subst hn; exact ltotal_v A c L w h hL hM
def sbL (n : Int) (L : List Int) : List Int := if sbB n L then spreadM n L else []
theorem sbL_len {n : Int} {L : List Int} : (sbL n L).length ≤ 5 := by
  unfold sbL
  split
  · rename_i h; rw [spreadM_len]; exact (sbB_yes h).1.2.2
  · simp
theorem SpreadBy_c (A : Option Addr) (c : Nat) (n : Int) (L M : List Int) (w : World) (h : NV w A L) (hL : L.length ≤ 1048576) (hM : sbL n L = M) :
    Calls Try.prog 15 #[.int .i64 n, .slice A L.length c] w fun e w' => (∃ B, e = .returned (.slice B M.length M.length) ∧ NV w' B M) ∧ Below w.heap.size w w' := by
  subst hM
  unfold sbL
  cases hv : sbB n L
  · refine (SpreadBy_no A c n L w h hL hv).mono ?_
    rintro e w' ⟨rfl, hb⟩
    exact ⟨⟨_, rfl, NV.nil _ _⟩, hb⟩
  · refine (SpreadBy_yes A c n L w h hv).mono ?_
    rintro e w' ⟨⟨g, rfl, hg, hi⟩, hb⟩
    refine ⟨⟨_, ?_, hi.nv⟩, hb⟩
    rw [if_pos rfl, spreadM_len]
theorem sSpreadBy_c (A : Option Addr) (c : Nat) (n : Int) (L M : List Int) (w : World) (h : NV w A L) (hL : L.length ≤ 1048576) (hM : sbL n L = M) :
    Calls Try.prog 17 #[.int .i64 n, .slice A L.length c] w fun e w' => (∃ x, e = .returned x ∧ NR w' x M) ∧ Below w.heap.size w w' := by
  subst hM
  unfold sbL
  refine (sSpreadBy_any A c n L w h hL).mono ?_
  rintro e w' ⟨⟨h0, rfl⟩ | ⟨h0, g, rfl, hg, hi⟩, hb⟩
  · rw [h0]; exact ⟨⟨_, rfl, none, 0, rfl, NV.nil _ _⟩, hb⟩
  · rw [h0]; exact ⟨⟨_, rfl, hi.nr spreadM_len.symm _⟩, hb⟩
end Go.Proofs.Ytnkoeekgdehhiad
end
