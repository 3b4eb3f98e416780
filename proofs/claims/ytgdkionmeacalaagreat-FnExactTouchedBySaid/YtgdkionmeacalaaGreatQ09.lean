import Derived.Test.YtgdkionmeacalaaGreatQ08
import Derived.OwnWalk
section
namespace Go.Proofs.YtgdkionmeacalaaGreat
open Go.RowKit
set_option linter.unusedVariables false
set_option maxHeartbeats 1000000
attribute [local go_sem 5000] run_mx run_mn
attribute [local go_sem] growUpon_value growUpon_skip growUpon_enter
theorem cellI {w : World} {b : Nat} {cs : Array Value} {T : TypeId} {fz : Nat × Nat} (h : w.heap[b]? = some (.cells cs T fz)) (i : Nat) : w.cell? ⟨b, i, none⟩ = cs[i]? := by simp [World.cell?, h]
theorem nopan_normal9 {Q : Exit → Act → World → Prop} {a : Act} {w : World} (h : Q .normal a w) : NoPan Q .normal a w := h
theorem below_grown {w w2 w' : World} {g n : Nat} (hb : Below n w w2) (hg : w2.grownBy w' (some g)) (hle : n ≤ g) (hn : n ≤ w2.heap.size) : Below n w w' :=
  ⟨hg.os.trans hb.os, hg.tape.trans hb.tape, hg.output.trans hb.output, Nat.le_trans hb.size hg.size, fun k hk => (hg.block k (Nat.lt_of_lt_of_le hk hn) (fun e => by have := Option.some.inj e; omega)).trans (hb.block k hk)⟩
theorem sum_b (A : Option Addr) (c n : Nat) (L : List Int) (w : World) (h : NV w A L) (hn : n = L.length) (hL : n ≤ 1048576) (hM : Smal 1000000000000000 L) :
    Calls Tryz.prog 173 #[.slice A n c] w fun e w' => e = .returned (.int .i64 (sumI L)) ∧ Below w.heap.size w w' := by
  refine (sum_n A c n L w h hn hL hM).mono ?_
  rintro e w1 ⟨rfl, rfl⟩
  exact ⟨rfl, Below.refl _ _⟩
theorem linesB_len {L : List Ln} (h : linesB L = true) : 1 ≤ L.length ∧ L.length ≤ 5 := by
  simp only [linesB, Bool.and_eq_true, rng_iff] at h
  omega
theorem seg_sum {O : List Int} {a m : Nat} (h : ∀ x ∈ O, 0 ≤ x ∧ x ≤ 100000000000000) (ham : a + m ≤ O.length) (h5 : O.length ≤ 5) : 0 ≤ sumI (segI O a m) ∧ sumI (segI O a m) ≤ 500000000000000 ∧ Smal 1000000000000000 (segI O a m) := by
  have hs : ∀ x ∈ segI O a m, 0 ≤ x ∧ x ≤ 100000000000000 := fun x hx => h x (segI_mem hx)
  have h1 := sumI_bd hs
  have h2 := segI_len ham
  rw [h2] at h1
  refine ⟨by omega, by omega, smal_of (b := 100000000000000) (fun x hx => by have := hs x hx; omega) (by omega) (by rw [h2]; omega)⟩
theorem IB.seg {w : World} {g : Nat} {L : List Int} (h : IB w g L) (a m : Nat) : NV w (some ⟨g, a, none⟩) (segI L a m) := by
  have := NV.sub (off := 0) h.lt (fun i x hx => by rw [Nat.zero_add]; exact h.cell hx) a m
  rwa [Nat.zero_add] at this
theorem needOf_bd {S : List Sp} {n : Nat} (hs : ∀ s ∈ S, spanW n s) (m : Int) : needOf S m ≤ 1000000000020 * S.length := by
  induction S with
  | nil => simp [needOf, sumI]
  | cons s t ih =>
    obtain ⟨a, q, e1, e2, h1, h2, h3, h4⟩ := hs s List.mem_cons_self
    have := ih (fun q hq => hs q (List.mem_cons_of_mem _ hq))
    simp only [needOf, List.map_cons, sumI, List.length_cons] at this ⊢
    split <;> omega
theorem at_bd {L : List Ln} {S : List Sp} {k j : Nat} (hL : linesB L = true) (hS : spansW L.length S) (hk : k ≤ L.length) (hj : j ≤ S.length) :
    (roundM (L.map Ln.wt) ((k : Int) + 1) (S.take j) (reqN (L.map Ln.wt) S (L.map Ln.mi) k)).length = L.length ∧ ∀ x ∈ roundM (L.map Ln.wt) ((k : Int) + 1) (S.take j) (reqN (L.map Ln.wt) S (L.map Ln.mi) k), 0 ≤ x ∧ x ≤ 100000000000000 := by
  obtain ⟨hO, hW⟩ := min_bd hL
  obtain ⟨h8, hs⟩ := hS
  have hl := (linesB_len hL).2
  have h1 := req_bdW (S := S) hW (by simp) hs hO k
  have h2 := round_bdW (m := (k : Int) + 1) hW (by simp) hs j hj h1
  have b1 := needTo_bd hs k
  have b2 := needs_bd (B := 1000000000020) (n := L.length) (by omega) (fun s h => by obtain ⟨a, m, e1, e2, h1, h2, h3, h4⟩ := hs s h; exact h4)
  have b3 := needOf_bd (S := S.take j) (fun s h => hs s (List.mem_of_mem_take h)) ((k : Int) + 1)
  have b4 : (S.take j).length ≤ 10 := by rw [List.length_take]; omega
  exact ⟨h2.1, h2.eachW (by omega)⟩
set_option maxRecDepth 100000 in
theorem lineRequests_w (A : Option Addr) (c : Nat) (L : List Ln) (A' : Option Addr) (c' : Nat) (S : List Sp) (w : World) (h : LnV w A L) (hL : linesB L = true) (h' : SpV w A' S) (hS : spansW L.length S) :
    Calls Tryz.prog 172 #[.slice A L.length c, .slice A' S.length c'] w fun e w' => e = .returned (.slice (some ⟨w.heap.size, 0, none⟩) L.length L.length) ∧ IB w' w.heap.size (wishM L S) ∧ Below w.heap.size w w' := by
  obtain ⟨hl1, hl5⟩ := linesB_len hL
  obtain ⟨hs8, hsa⟩ := id hS
  have hww := (min_bd hL).2
  have HL := Lib.hid hL
  have HS := Lib.hid hS
  have HSA := Lib.hid hsa
  have HWW := Lib.hid hww
  clear hL hS hsa hww
  go_enter Tryz.func172, Tryz.ntmps172
  go_wp2_with fail
  with_reducible refine (each_least A c L _ h (by omega)).mono ?_
  rintro e w1 ⟨rfl, hI1, hb1⟩
  have HLV := Lib.hid (h.keep hb1)
  go_wp2_with fail
  with_reducible refine (each_weight A c L _ HLV.out (by omega)).mono ?_
  rintro e w2 ⟨rfl, hI2, hb2⟩
  have HI := Lib.hid (hI1.keep hb2)
  have HB := Lib.hid (bkeep2 hb1 hb2)
  have hg : w.heap.size < w1.heap.size := hI1.lt
  clear HLV hb1 hb2 hI1
  generalize w1.heap.size = g2 at hI2 hg ⊢
  have HW := Lib.hid hI2
  clear hI2
  go_wp2_with fail
  go_loopw [18] (fun i wr => ∃ k : Nat, k ≤ L.length ∧ i = .int .i64 k ∧ IB wr w.heap.size (reqN (L.map Ln.wt) S (L.map Ln.mi) k) ∧ IB wr g2 (L.map Ln.wt) ∧ Below w.heap.size w wr) (fun i _ => L.length - (intOf i).toNat)
  case atStart => exact ⟨0, by omega, rfl, HI.out, HW.out, HB.out⟩
  case round =>
    obtain ⟨k, hk, rfl, hI, hWr, hBr⟩ := hrel
    clear HI HW HB
    by_cases hlt : k < L.length
    · have hd : decide ((k : Int) < (L.length : Int)) = true := by simpa using hlt
      have HI := Lib.hid hI
      have HW := Lib.hid hWr
      have HB := Lib.hid hBr
      clear hI hWr hBr
      go_wp2_with fail
      go_loopw [23] (fun i wr => ∃ j : Nat, j ≤ S.length ∧ i = .int .i64 j ∧ IB wr w.heap.size (roundM (L.map Ln.wt) ((k : Int) + 1) (S.take j) (reqN (L.map Ln.wt) S (L.map Ln.mi) k)) ∧ IB wr g2 (L.map Ln.wt) ∧ Below w.heap.size w wr) (fun i _ => S.length - (intOf i).toNat)
      case atStart => exact ⟨0, by omega, rfl, HI.out, HW.out, HB.out⟩
      case round =>
        obtain ⟨j, hj, rfl, hI, hWr, hBr⟩ := hrel
        clear HI HW HB
        by_cases hjl : j < S.length
        · have hd2 : decide ((j : Int) < (S.length : Int)) = true := by simpa using hjl
          obtain ⟨b', off, rfl, hb', hp⟩ := (h'.keep hBr).cells (by omega)
          have hget : S[j]? = some S[j] := List.getElem?_eq_getElem hjl
          obtain ⟨c0, c1, c2⟩ := hp j _ hget
          have hsp := HSA.out _ (List.mem_of_getElem? hget)
          have hro := roundM_snoc (ws := L.map Ln.wt) (m := (k : Int) + 1) (O := reqN (L.map Ln.wt) S (L.map Ln.mi) k) hget
          obtain ⟨a, m, e1, e2, hm1, ham, hn0, hn50⟩ := hsp
          obtain ⟨hol, hob⟩ := at_bd HL.out HS.out hk hj
          generalize S[j] = s at *
          obtain ⟨sa, many, need⟩ := s
          dsimp only at e1 e2 hn0 hn50 c0 c1 c2
          subst e1 e2
          generalize roundM (L.map Ln.wt) ((k : Int) + 1) (S.take j) (reqN (L.map Ln.wt) S (L.map Ln.mi) k) = O at *
          have HI := Lib.hid hI
          have HW := Lib.hid hWr
          have HB := Lib.hid hBr
          have HOB := Lib.hid hob
          have HOL := Lib.hid hol
          clear hI hWr hBr hp hget hob hol
          by_cases hmk : (m : Int) = (k : Int) + 1
          · have hz : ((m : Int) == (k : Int) + 1) = true := by simpa using hmk
            have hmn : m = k + 1 := by omega
            subst hmn
            have HRO := Lib.hid hro
            clear hro
            have hal : ¬ L.length = a := by omega
            have hq1 : 0 ≤ (a : Int) + ((k : Int) + 1) := by omega
            have hq2 : (a : Int) + ((k : Int) + 1) ≤ (L.length : Int) := by omega
            have hq3 : ((a : Int) + ((k : Int) + 1)).toNat = a + (k + 1) := by omega
            have hq4 : a ≤ a + (k + 1) := by omega
            have hq5 : a + (k + 1) - a = k + 1 := by omega
            obtain ⟨hm0, hm5, hsm⟩ := seg_sum HOB.out (a := a) (m := k + 1) (by rw [HOL.out]; exact ham) (by rw [HOL.out]; exact hl5)
            have HSM := Lib.hid hsm
            have HSL := Lib.hid (segI_len (O := O) (a := a) (m := k + 1) (by rw [HOL.out]; exact ham)).symm
            clear hz hsm
            have hz : (((k + 1 : Nat) : Int) == (k : Int) + 1) = true := by simp
            go_wp2_with fail
            refine wp_region_grow 9 1 (· < 9) (by kernel_rfl) (by kernel_rfl) rfl ?_
            iterate 9 (refine wpG_step (fun K hK => ?_); first | (refine grow_skip rfl ?_; go_simp; refine hK _ ?_; clear hK K) | (apply Exists.intro; refine ⟨.inl ⟨rfl, fun w' hw' => ?_⟩, ?_⟩; (focus ((obtain ⟨hc, hf⟩ := bcell hw'.out); (have hcS := bcellS hw'.out); go_simp <;> first | rfl | (go_at_call 173; exact sum_b _ _ (k + 1) (segI O a (k + 1)) _ ((HI.out.keep (bkeep2 (balloc (Below.refl _ _)) (bdrewn hw'.out))).seg a (k + 1)) HSL.out (by omega) HSM.out))); (go_simp; refine hK _ ?_; clear hK K)))
            refine wpG_nil ?_
            refine wpK_tail (by kernel_rfl) (fun w3 hg3 => ?_)
            have hb3 := bdrewn hg3.out
            obtain ⟨hc3, hf3⟩ := bcell hb3
            refine wpAny_one (i := 9) (by kernel_rfl) rfl rfl ?_
            go_simp
            refine wpAny_end (by kernel_rfl) ?_
            refine NoPan.thn ?_
            clear hc3 hf3
            clear hg3
            have hx : w3.heap[wr.heap.size]? = some (.cells #[.int .i64 (a : Int), .int .i64 ((k : Int) + 1), .int .i64 need] 161 (0, 0)) := (hb3.block _ (by simp)).trans (heap_alloc_new _ _)
            have HI3 := Lib.hid (HI.out.keep (bkeep2 (balloc (Below.refl _ _)) hb3))
            have HW3 := Lib.hid (HW.out.keep (bkeep2 (balloc (Below.refl _ _)) hb3))
            have HB3 := Lib.hid (bkeep2 (balloc HB.out) hb3)
            have hxl := (Array.getElem?_eq_some_iff.1 hx).1
            obtain ⟨x0, x1, x2⟩ : w3.cell? ⟨wr.heap.size, 0, none⟩ = some (.int .i64 (a : Int)) ∧ w3.cell? ⟨wr.heap.size, 1, none⟩ = some (.int .i64 ((k : Int) + 1)) ∧ w3.cell? ⟨wr.heap.size, 2, none⟩ = some (.int .i64 need) := ⟨cellI hx 0, cellI hx 1, cellI hx 2⟩
            obtain ⟨q, hqe⟩ : ∃ q, sumI (segI O a (k + 1)) = q := ⟨_, rfl⟩
            rw [hqe] at hm0 hm5
            rw [hqe]
            have HQ := Lib.hid hqe
            have mx1 := mx_spec (need - q) 0
            have hmx0 : 0 ≤ mx (need - q) 0 := by omega
            have hmx1 : mx (need - q) 0 ≤ 100000000000000 := by omega
            have hqw : IntKind.i64.wrap (need - q) = need - q := IntWalk.i64_in _ (by omega)
            clear HI HW HB hb3 hx hqe c0 c1 c2 mx1
            generalize wr.heap.size = bx at *
            go_wp2_with fail
            refine wp_region_grow 12 1 (· < 12) (by kernel_rfl) (by kernel_rfl) rfl ?_
            iterate 12 (refine wpG_step (fun K hK => ?_); first | (refine grow_skip rfl ?_; go_simp; refine hK _ ?_; clear hK K) | (apply Exists.intro; refine ⟨.inl ⟨rfl, fun w' hw' => ?_⟩, ?_⟩; (focus ((obtain ⟨hc, hf⟩ := bcell hw'.out); (have hcS := bcellS hw'.out); go_simp <;> rfl)); (go_simp; refine hK _ ?_; clear hK K)))
            refine wpG_nil ?_
            refine wpK_tail (by kernel_rfl) (fun w4 hg4 => ?_)
            have hb4 := bdrewn hg4.out
            refine wpAny_one (i := 12) (by kernel_rfl) rfl rfl ?_
            go_simp
            have HI4 := Lib.hid (HI3.out.keep hb4)
            have HW4 := Lib.hid (HW3.out.keep hb4)
            have HB4 := Lib.hid (bkeep2 HB3.out hb4)
            clear HI3 HW3 HB3 hb4 hg4 x0 x1 x2
            have hsl : k + 1 = (segI (L.map Ln.wt) a (k + 1)).length := (segI_len (by rw [List.length_map]; exact ham)).symm
            refine (enlarge_v w.heap.size a (k + 1) _ _ _ O (segI (L.map Ln.wt) a (k + 1)) _ _ HI4.out hsl (by rw [HOL.out]; exact ham) HOB.out (HW4.out.seg a (k + 1)) (seg_ok HWW.out (by omega) (by rw [List.length_map]; exact ham)) hmx0 hmx1).mono ?_
            rintro e w5 ⟨⟨v, rfl⟩, hi5, hg5⟩
            have HW5 := Lib.hid (HW4.out.but hg5 (by omega))
            have HB5 := Lib.hid (below_grown HB4.out hg5 (Nat.le_refl _) HB4.out.size)
            have hst : stepM (L.map Ln.wt) O ⟨(a : Int), ((k + 1 : Nat) : Int), need⟩ = addAt O a (spreadM (mx (need - q) 0) (segI (L.map Ln.wt) a (k + 1))) := by
              unfold stepM
              rw [← HQ.out]
              rfl
            rw [← hst] at hi5
            have HI5 := Lib.hid hi5
            clear hi5 hst hg5 HI4 HW4 HB4
            dsimp only
            refine wpAny_end (by kernel_rfl) ?_
            refine nopan_normal9 ?_
            go_wp2
            go_roundw
            case rel => exact ⟨j + 1, by omega, by go_num, by rw [HRO.out, if_pos (by simp)]; exact HI5.out, HW5.out, HB5.out⟩
            case measure => simp [intOf]; omega
          · have hz : ((m : Int) == (k : Int) + 1) = false := by simpa using hmk
            rw [if_neg hmk] at hro
            have HRO := Lib.hid hro
            have HB := Lib.hid (balloc (o := (.cells #[.int .i64 (a : Int), .int .i64 (m : Int), .int .i64 need] 161 (0, 0))) HB.out)
            have HI := Lib.hid (HI.out.keep (balloc (o := (.cells #[.int .i64 (a : Int), .int .i64 (m : Int), .int .i64 need] 161 (0, 0))) (Below.refl _ _)))
            have HW := Lib.hid (HW.out.keep (balloc (o := (.cells #[.int .i64 (a : Int), .int .i64 (m : Int), .int .i64 need] 161 (0, 0))) (Below.refl _ _)))
            clear hro
            go_wp2
            go_roundw
            case rel => exact ⟨j + 1, by omega, by go_num, by rw [HRO.out]; exact HI.out, HW.out, HB.out⟩
            case measure => simp [intOf]; omega
        · have hd2 : decide ((j : Int) < (S.length : Int)) = false := decide_eq_false (by omega)
          have he : S.take j = S := List.take_of_length_le (by omega)
          rw [he] at hI
          have HI := Lib.hid hI
          have HW := Lib.hid hWr
          have HB := Lib.hid hBr
          clear hI hWr hBr he
          go_wp2
          go_roundw
          case rel => exact ⟨k + 1, by omega, by go_num, HI.out, HW.out, HB.out⟩
          case measure => simp [intOf]; omega
    · have hd : decide ((k : Int) < (L.length : Int)) = false := decide_eq_false (by omega)
      obtain rfl : k = L.length := by omega
      have HI := Lib.hid hI
      have HB := Lib.hid hBr
      clear hI hBr hWr
      go_wp2
      go_ret
      exact ⟨rfl, HI.out, HB.out⟩
theorem wish_bdW {L : List Ln} {S : List Sp} (hL : linesB L = true) (hS : spansW L.length S) : Bd L.length (150 + (S.map fun s => s.need).foldr (· + ·) 0) (wishM L S) := by
  obtain ⟨hO, hW⟩ := min_bd hL
  have h1 := req_bdW (S := S) hW (by simp) hS.2 hO L.length
  have b1 := needTo_bd hS.2 L.length
  exact ⟨h1.1, h1.2.1, by have := h1.2.2; show sumI (reqN _ _ _ _) ≤ _; omega⟩
theorem wish_smalW {L : List Ln} {S : List Sp} (hL : linesB L = true) (hS : spansW L.length S) : Smal 1000000000000000 (wishM L S) ∧ (wishM L S).length = L.length := by
  have h := wish_bdW hL hS
  have hl := (linesB_len hL).2
  have b2 := needs_bd (n := L.length) (S := S) (B := 1000000000020) (by omega) (fun s h => by obtain ⟨a, m, e1, e2, h1, h2, h3, h4⟩ := hS.2 s h; exact h4)
  have hS8 := hS.1
  have hx := h.eachW (by omega)
  exact ⟨smal_of (b := 100000000000000) (fun x hx' => by have := hx x hx'; omega) (by omega) (by rw [h.1]; omega), h.1⟩
end Go.Proofs.YtgdkionmeacalaaGreat
end
section
namespace Go.Proofs.YtgdkionmeacalaaGreat
open Go.RowKit
set_option linter.unusedVariables false
set_option maxHeartbeats 1000000
def nvalsW (L : List Int) : List Value := L.map (Value.int .i64)
theorem nvalsW_snoc (L : List Int) (x : Int) : nvalsW L ++ [.int .i64 x] = nvalsW (L ++ [x]) := by simp [nvalsW]
/-- a block with room: what it holds ahead -/
def OB (w : World) (g cap : Nat) (L : List Int) : Prop := L.length ≤ cap ∧ ∃ cs : Array Value, w.heap[g]? = some (.cells cs 3 (0, 0)) ∧ cs.size = cap ∧ ∀ (i : Nat) (x : Int), L[i]? = some x → cs[i]? = some (Value.int .i64 x)
theorem OB.lt {w : World} {g cap : Nat} {L : List Int} (h : OB w g cap L) : g < w.heap.size := by obtain ⟨_, cs, hh, _⟩ := h; exact ltS hh
theorem OB.keep {w w' : World} {g cap : Nat} {L : List Int} (h : OB w g cap L) (hb : Below w.heap.size w w') : OB w' g cap L := by
  obtain ⟨hl, cs, hh, hs, hc⟩ := h
  exact ⟨hl, cs, (hb.block g (ltS hh)).trans hh, hs, hc⟩
theorem OB.cell {w : World} {g cap i : Nat} {L : List Int} {x : Int} (h : OB w g cap L) (hx : L[i]? = some x) : w.cell? ⟨g, i, none⟩ = some (.int .i64 x) := by
  obtain ⟨hl, cs, hh, hs, hc⟩ := h
  exact (cellS hh i).trans (hc i x hx)
theorem OB.frozen {w : World} {g cap : Nat} {L : List Int} (h : OB w g cap L) (i : Nat) : w.frozen? ⟨g, i, none⟩ = false := by
  obtain ⟨hl, cs, hh, hs, hc⟩ := h
  exact frozenS hh i
theorem OB.set {w : World} {g cap : Nat} {L : List Int} (h : OB w g cap L) (i : Nat) (y : Int) (hi : i < L.length) : OB (w.setCell ⟨g, i, none⟩ (.int .i64 y)) g cap (L.set i y) := by
  obtain ⟨hl, cs, hh, hs, hc⟩ := h
  refine ⟨by rw [List.length_set]; exact hl, _, putS hh _, by simp [hs], fun k x hk => ?_⟩
  by_cases e : i = k
  · subst e
    rw [List.getElem?_set_self hi] at hk
    obtain rfl := Option.some.inj hk
    rw [Array.getElem?_setIfInBounds_self_of_lt (by omega)]
  · rw [List.getElem?_set_ne e] at hk
    rw [Array.getElem?_setIfInBounds_ne e]
    exact hc k x hk
theorem OB.nv {w : World} {g cap : Nat} {L : List Int} (h : OB w g cap L) : NV w (some ⟨g, 0, none⟩) L :=
  ⟨fun _ => ⟨g, 0, rfl, h.lt, fun i x hx => by rw [Nat.zero_add]; exact h.cell hx⟩⟩
theorem own_inW {w : World} {base n : Nat} {v : Value} {M : List Int} (h : w.ownsRow base 3 1 v n (nvalsW M)) (hn : n = M.length) :
    (v = .slice none 0 0 ∧ M = []) ∨ ∃ g cap, v = .slice (some ⟨g, 0, none⟩) n cap ∧ base ≤ g ∧ OB w g cap M := by
  rcases h.2 with ⟨rfl, h0⟩ | ⟨g, cap, cur, rfl, hb, hg, hc, _, hs, ht⟩
  · exact .inl ⟨rfl, List.length_eq_zero_iff.1 (by omega)⟩
  · refine .inr ⟨g, cap, rfl, hb, by omega, cur, hg, by omega, fun i x hx => ?_⟩
    have e : (nvalsW M)[i]? = some (Value.int .i64 x) := by simp [nvalsW, hx]
    have hi := (List.getElem?_eq_some_iff.1 hx).1
    rw [← ht, List.getElem?_take] at e
    rw [if_pos (by omega)] at e
    simpa using e
theorem int_infoW : ∃ (i : TypeInfo) (z : Value), Tryz.prog.info? 3 = some i ∧ i.zero = some z ∧ i.size = 1 ∧ i.bytes = 8 ∧ z.cells.size = 1 := by
  have hinfo : (Tryz.prog.info? 3).map (fun i => (i.zero, i.size, i.bytes)) = some (some (.int .i64 0), 1, 8) := by kernel_rfl
  obtain ⟨i, hi, h1, h2, h3⟩ := info_parts hinfo
  exact ⟨i, _, hi, h1, h2, h3, rfl⟩
theorem newW (W : World) (x : Int) (T : TypeId) : ∀ (j : Nat) (u : Value), [Value.int .i64 x][j]? = some u → (W.alloc (.cells #[.int .i64 x] T)).cell? ((⟨W.heap.size, 0, none⟩ : Addr).add j) = some u := fun j u h => by
  have hadd : (⟨W.heap.size, 0, none⟩ : Addr).add j = ⟨W.heap.size, j, none⟩ := by unfold Addr.add; split <;> simp_all
  rw [hadd]
  exact (cellS (newS W _) j).trans (by simpa using h)
theorem below_own {n : Nat} {a W w5 : World} {v : Value} {o : Obj} {lo hi : Nat} (h : Below n a W) (hg : (W.alloc o).grownBy w5 v.ownBlock) (hob : ∀ k, v.ownBlock = some k → lo ≤ k ∧ k < hi) (hlo : n ≤ lo) (hn : n ≤ a.heap.size) : Below n a w5 :=
  have h' : Below n a (W.alloc o) := h.alloc (Nat.le_trans hn h.size) o
  ⟨hg.os.trans h'.os, hg.tape.trans h'.tape, hg.output.trans h'.output, Nat.le_trans h'.size hg.size, fun k hk => (hg.block k (Nat.lt_of_lt_of_le (Nat.lt_of_lt_of_le hk hn) h'.size) (fun e => by have := hob k e.symm; omega)).trans (h'.block k hk)⟩
end Go.Proofs.YtgdkionmeacalaaGreat
end
section
namespace Go.Proofs.YtgdkionmeacalaaGreat
open Go.RowKit
set_option linter.unusedVariables false
set_option maxHeartbeats 1000000
attribute [local go_sem 5000] run_mx run_mn
attribute [local go_sem] growUpon_value growUpon_skip growUpon_enter
theorem OB.seg {w : World} {g cap : Nat} {L : List Int} (h : OB w g cap L) (a m : Nat) : NV w (some ⟨g, a, none⟩) (segI L a m) := by
  have := NV.sub (off := 0) h.lt (fun i x hx => by rw [Nat.zero_add]; exact h.cell hx) a m
  rwa [Nat.zero_add] at this
theorem LnV.sub {w : World} {b off : Nat} {L : List Ln} (hb : b < w.heap.size) (h : ∀ i p, L[i]? = some p → w.cell? ⟨b, off + i * 2, none⟩ = some (.int .i64 p.wt) ∧ w.cell? ⟨b, off + i * 2 + 1, none⟩ = some (.int .i64 p.mi)) (i j : Nat) : LnV w (some ⟨b, off + i * 2, none⟩) ((L.drop i).take j) :=
  ⟨fun _ => ⟨b, off + i * 2, rfl, hb, fun k x hx => by
    rw [List.getElem?_take] at hx
    split at hx
    · rw [List.getElem?_drop] at hx
      have := h (i + k) x hx
      rwa [show off + (i + k) * 2 = off + i * 2 + k * 2 from by omega] at this
    · cases hx⟩⟩
theorem take_snocF {α : Type} {f : α → Int} {L : List α} {k : Nat} {x : α} (h : L[k]? = some x) : (L.map f).take (k + 1) = (L.map f).take k ++ [f x] := by
  obtain ⟨hk, e⟩ := List.getElem?_eq_some_iff.1 h
  rw [List.take_succ_eq_append_getElem (by simpa using hk)]
  simp [e]
set_option maxRecDepth 100000 in
theorem weightsOf_v (A : Option Addr) (c n : Nat) (L : List Ln) (w : World) (h : LnV w A L) (hn : n = L.length) (hL : L.length ≤ 8) :
    Calls Tryz.prog 109 #[.slice A n c] w fun e w' => (∃ A' c', e = .returned (.slice A' n c') ∧ NV w' A' (L.map Ln.wt)) ∧ Below w.heap.size w w' := by
  subst hn
  obtain ⟨ti, tz, ti1, ti2, ti3, ti4, ti5⟩ := int_infoW
  go_enter Tryz.func109, Tryz.ntmps109
  go_wp2_with fail
  have ho0 : (w.alloc (.cells #[] 3 (0, 0))).ownsRow w.heap.size 3 1 (.slice (some ⟨w.heap.size, 0, none⟩) 0 0) 0 (nvalsW []) := World.ownsRow_lit (base := w.heap.size) (e := 3) (size := 1) w #[] 0 (Nat.le_refl _) (by decide) rfl
  have HO := Lib.hid ho0
  have HB := Lib.hid (balloc (o := (.cells #[] 3 (0, 0))) (Below.refl w.heap.size w))
  clear ho0
  go_loopw [3, 4] (fun out i wr => ∃ k : Nat, k ≤ L.length ∧ i = .int .i64 k ∧ wr.ownsRow w.heap.size 3 1 out k (nvalsW ((L.map Ln.wt).take k)) ∧ Below w.heap.size w wr) (fun _ i _ => L.length - (intOf i).toNat)
  case atStart => exact ⟨0, by omega, rfl, HO.out, HB.out⟩
  case round =>
    obtain ⟨k, hk, rfl, ho, hB⟩ := hrel
    clear HO HB
    by_cases hlt : k < L.length
    · have hd : decide ((k : Int) < (L.length : Int)) = true := by simpa using hlt
      obtain ⟨b, off, rfl, hb, hp⟩ := (h.keep hB).cells (by omega)
      have hget : L[k]? = some L[k] := List.getElem?_eq_getElem hlt
      obtain ⟨c0, c1⟩ := hp k _ hget
      have hts := take_snocF (f := Ln.wt) hget
      generalize L[k] = x at *
      have hob := ho.lt
      have hw3 : w.heap.size ≤ wr.heap.size := hB.size
      have HO := Lib.hid ho
      have HB := Lib.hid hB
      have HTS := Lib.hid hts
      clear ho hB hts hp hget
      go_wp2_with (at_builtin; refine wpList_append_own _ rfl _ _ 34 rfl w.heap.size 3 ti tz 1 8 Tryz.underlying34 ti1 ti2 ti3 ti4 ti5 (by decide) _ _ _ rfl (HO.out.alloc _) ⟨wr.heap.size, 0, none⟩ 1 1 [.int .i64 x.wt] rfl rfl (newW _ _ _) (by simp [Value.oneCell']) (by simp only [maxLen]; omega) (by omega) (by simp; omega) ?_)
      intro v5 w5 how5 hgr5 _
      rw [nvalsW_snoc, ← HTS.out] at how5
      replace HB := Lib.hid (below_own HB.out hgr5 hob (Nat.le_refl _) (Nat.le_refl _))
      replace HO := Lib.hid how5
      clear how5 hgr5 hob c0 c1
      go_wp2
      go_roundw
      case rel => exact ⟨k + 1, by omega, by go_num, by simpa using HO.out, HB.out⟩
      case measure => simp [intOf]; omega
    · have hd : decide ((k : Int) < (L.length : Int)) = false := decide_eq_false (by omega)
      obtain rfl : k = L.length := by omega
      have he : (L.map Ln.wt).take L.length = L.map Ln.wt := List.take_of_length_le (by simp)
      rw [he] at ho
      have HB := Lib.hid hB
      rcases own_inW ho (by simp) with ⟨rfl, hM⟩ | ⟨g, cap, rfl, hbg, hO⟩
      · have hL0 : L.length = 0 := by simpa using congrArg List.length hM
        have HM := Lib.hid hM
        have HL0 := Lib.hid hL0
        clear ho hB hM hL0 he
        go_wp2
        go_ret
        exact ⟨⟨none, 0, by rw [HL0.out]; rfl, ⟨fun h0 => absurd h0 (by rw [HM.out]; simp)⟩⟩, HB.out⟩
      · have HO := Lib.hid hO.nv
        clear ho hB hO he
        go_wp2
        go_ret
        exact ⟨⟨_, cap, rfl, HO.out⟩, HB.out⟩
end Go.Proofs.YtgdkionmeacalaaGreat
end
section
namespace Go.Proofs.YtgdkionmeacalaaGreat
open Go.RowKit
set_option linter.unusedVariables false
set_option linter.unusedSimpArgs false
set_option maxHeartbeats 4000000

theorem own_bw {w w' : World} {base : Nat} {e : TypeId} {size : Nat} {v : Value} {n : Nat} {xs : List Value} (h : w.ownsRow base e size v n xs) (hb : Below w.heap.size w w') : w'.ownsRow base e size v n xs :=
  h.kept (row := none) ⟨hb.os, hb.tape, hb.output, hb.size, fun k hk _ => hb.block k hk⟩ (by cases v.ownBlock <;> simp)
/-- the indices below a number for which something holds -/
def idsN (f : Nat → Bool) (n : Nat) : List Nat := (List.range n).filter f
def idsM (f : Nat → Bool) (n : Nat) : List Int := (idsN f n).map (fun (k : Nat) => (k : Int))
theorem idsM_yes {f : Nat → Bool} {k : Nat} (h : f k = true) : idsM f (k + 1) = idsM f k ++ [(k : Int)] := by simp [idsM, idsN, List.range_succ, List.filter_append, h]
theorem idsM_no {f : Nat → Bool} {k : Nat} (h : f k = false) : idsM f (k + 1) = idsM f k := by simp [idsM, idsN, List.range_succ, List.filter_append, h]
theorem idsM_len (f : Nat → Bool) (k : Nat) : (idsM f k).length ≤ k := by
  unfold idsM idsN
  rw [List.length_map]
  exact Nat.le_trans (List.length_filter_le _ _) (by simp)
/-- a value that is a slice that reads as this list -/
def KdV (w : World) (v : Value) (L : List Int) : Prop := ∃ A c, v = .slice A L.length c ∧ NV w A L ∧ L.length ≤ c
theorem KdV.keep {w w' : World} {v : Value} {L : List Int} (h : KdV w v L) (hb : Below w.heap.size w w') : KdV w' v L := let ⟨A, c, e, q, hc⟩ := h; ⟨A, c, e, q.keep hb, hc⟩
theorem KdV.of {w : World} {base : Nat} {v : Value} {L : List Int} (h : w.ownsRow base 3 1 v L.length (nvalsW L)) : KdV w v L := by
  rcases own_inW h rfl with ⟨rfl, hM⟩ | ⟨g, cap, rfl, hbg, hO⟩
  · exact ⟨none, 0, by rw [hM]; rfl, ⟨fun h0 => absurd h0 (by rw [hM]; simp)⟩, by rw [hM]; simp⟩
  · exact ⟨_, cap, rfl, hO.nv, hO.1⟩
end Go.Proofs.YtgdkionmeacalaaGreat
end
section
namespace Go.Proofs.YtgdkionmeacalaaGreat
open Go.RowKit
set_option linter.unusedVariables false
set_option linter.unusedSimpArgs false
set_option maxHeartbeats 4000000
attribute [local go_sem] growUpon_value growUpon_skip growUpon_enter

def isKid (R : List Nr) (i : Int) (k : Nat) : Bool := match R[k]? with
  | some p => p.n.pa == i
  | none => false
def kidsN (R : List Nr) (i : Int) : List Nat := idsN (isKid R i) R.length
def kidsM (R : List Nr) (i : Int) : List Int := idsM (isKid R i) R.length
theorem isKid_at {R : List Nr} {i : Int} {k : Nat} {p : Nr} (h : R[k]? = some p) : isKid R i k = (p.n.pa == i) := by unfold isKid; rw [h]
set_option maxRecDepth 100000 in
theorem kid1_v (A : Option Addr) (c : Nat) (R : List Nr) (i : Int) (k bt bi : Nat) (w : World) (h : NrV w A R) (hk : k < R.length) (ht : w.cell? ⟨bt, 0, none⟩ = some (.slice A R.length c)) (hi : w.cell? ⟨bi, 0, none⟩ = some (.int .i64 i)) (lt : bt < w.heap.size) (li : bi < w.heap.size) (hL : R.length ≤ 1048576) :
    Calls Tryz.prog 119 #[.int .i64 (k : Int), .pointer (some ⟨bt, 0, none⟩), .pointer (some ⟨bi, 0, none⟩)] w fun e w' => e = .returned (.bool (isKid R i k)) ∧ Below w.heap.size w w' := by
  have hget : R[k]? = some R[k] := List.getElem?_eq_getElem hk
  obtain ⟨b, off, rfl, hb, hp⟩ := h.cells (by omega)
  have x0 : w.cell? ⟨b, off + k * 34, none⟩ = some (.int .i64 R[k].n.pa) := hp k _ hget 0 _ rfl
  rw [isKid_at hget]
  generalize R[k] = p at *
  have hd1 : (k : Int) < (R.length : Int) := by omega
  clear hget hp h
  go_enter Tryz.func119, Tryz.ntmps119
  go_wp2_with fail
  refine wp_region_grow 8 1 (· < 8) (by kernel_rfl) (by kernel_rfl) rfl ?_
  iterate 8 (refine wpG_step (fun K hK => ?_); first | (refine grow_skip rfl ?_; go_simp; refine hK _ ?_; clear hK K) | (apply Exists.intro; refine ⟨.inl ⟨rfl, fun w' hw' => ?_⟩, ?_⟩; (focus ((obtain ⟨hc, hf⟩ := bcell hw'.out); (have hcS := bcellS hw'.out); go_simp <;> first | rfl)); (go_simp; refine hK _ ?_; clear hK K)))
  refine wpG_nil ?_
  refine wpK_tail (by kernel_rfl) (fun wa hga => ?_)
  have hba := bdrewn hga.out
  obtain ⟨hca, hfa⟩ := bcell hba
  refine wpAny_one (i := 8) (by kernel_rfl) rfl rfl ?_
  go_simp
  refine wpAny_end (by kernel_rfl) ?_
  refine NoPan.thn ?_
  clear hca hfa
  clear hga
  go_wp2
  go_ret
  exact ⟨rfl, hba⟩
end Go.Proofs.YtgdkionmeacalaaGreat
end
section
namespace Go.Proofs.YtgdkionmeacalaaGreat
open Go.RowKit
set_option linter.unusedVariables false
set_option linter.unusedSimpArgs false
set_option maxHeartbeats 4000000
set_option maxRecDepth 100000 in
theorem each_wc (A : Option Addr) (c : Nat) (R : List (List Value)) (U : List Value → List Value) (w : World) (h : RvK 37 w A R) (hl : ∀ vs ∈ R, vs.length = 37 ∧ one vs) (hL : R.length ≤ 1048576) (hU : ∀ vs ∈ R, (U vs).length = 9 ∧ one (U vs))
    (hf : ∀ vs ∈ R, ∀ W, Below w.heap.size w W → Calls Tryz.prog 103 #[.agg vs.toArray] W fun e W' => e = .returned (.agg (U vs).toArray) ∧ Below W.heap.size W W') :
    Calls Tryz.prog 102 #[.slice A R.length c, .func (.func 103) #[] #[]] w fun e w' => e = .returned (.slice (some ⟨w.heap.size, 0, none⟩) R.length R.length) ∧ RbK 9 w' w.heap.size 81 (R.map U) ∧ Below w.heap.size w w' := by
  obtain ⟨fm, hfm, hmk0⟩ := made_Cell
  have HR := Lib.hid (show ∀ vs ∈ R.map U, vs.length = 9 from fun vs hv => by obtain ⟨us, hu, rfl⟩ := List.mem_map.1 hv; exact (hU us hu).1)
  have HU := Lib.hid hU
  have HF := Lib.hid hf
  have HH := Lib.hid h
  have HL := Lib.hid hl
  have HFM := Lib.hid hfm
  clear hU hf h hfm hl
  refine calls_abs Tryz.func102 rfl 26 (by simp only [Tryz.ntmps102]) (by simp) (fun t hsz hargs => ?_)
  have q0 : t[0]? = some (.slice A R.length c) := get_of (by omega) (hargs 0 _ rfl)
  have q1 : t[1]? = some (.func (.func 103) #[] #[]) := get_of (by omega) (hargs 1 _ rfl)
  clear hargs
  obtain ⟨l0, e0⟩ := Array.getElem?_eq_some_iff.1 q0
  obtain ⟨l1, e1⟩ := Array.getElem?_eq_some_iff.1 q1
  refine wp_seq_h fun K hK => ?_
  apply wp_region_lit
  repeat (first | go_step)
  refine hK.out _ _ ?_
  clear hK K
  refine wp_abw (fun t' W' => t'.size = 26 ∧ t'[0]? = some (.slice A R.length c) ∧ t'[1]? = some (.func (.func 103) #[] #[]) ∧ w = W') ⟨by simp [hsz], by simp [q0], by simp [q1], rfl⟩ ?_
  clear hsz q0 l0 e0 q1 l1 e1 t 
  rintro t _ ⟨hsz, q0, q1, rfl⟩
  have hmk := hmk0 R.length w hL
  clear hmk0
  obtain ⟨l0, e0⟩ := Array.getElem?_eq_some_iff.1 q0
  obtain ⟨l1, e1⟩ := Array.getElem?_eq_some_iff.1 q1
  refine wp_seq_h fun K hK => ?_
  apply wp_region_lit
  repeat (first | go_step)
  refine hK.out _ _ ?_
  clear hK K
  refine wp_abw (fun t' W' => t'.size = 26 ∧ t'[0]? = some (.slice A R.length c) ∧ t'[1]? = some (.func (.func 103) #[] #[]) ∧ t'[5]? = some (.slice (some ⟨w.heap.size, 0, none⟩) R.length R.length) ∧ RpK 9 W' w.heap.size 81 R.length 0 (R.map U) ∧ Below w.heap.size w W') ⟨by simp [hsz], by simp [q0], by simp [q1], by simp [hsz], ⟨RpK.new _ (HFM.out _), balloc (Below.refl _ _)⟩⟩ ?_
  clear hsz q0 l0 e0 q1 l1 e1 t hmk
  rintro t W0 ⟨hsz, q0, q1, q5, hP, hB⟩
  refine wp_seq_h fun KE hKE => ?_
  obtain ⟨l0, e0⟩ := Array.getElem?_eq_some_iff.1 q0
  obtain ⟨l1, e1⟩ := Array.getElem?_eq_some_iff.1 q1
  obtain ⟨l5, e5⟩ := Array.getElem?_eq_some_iff.1 q5
  refine wp_seq_h fun K hK => ?_
  apply wp_region_lit
  repeat (first | go_step)
  refine hK.out _ _ ?_
  clear hK K
  refine wp_abw (fun t' W' => t'.size = 26 ∧ t'[1]? = some (.func (.func 103) #[] #[]) ∧ t'[5]? = some (.slice (some ⟨w.heap.size, 0, none⟩) R.length R.length) ∧ t'[11]? = some (.slice A R.length c) ∧ t'[12]? = some (.int .i64 (R.length : Int)) ∧ t'[13]? = some (.int .i64 ((0 : Nat) : Int)) ∧ W0 = W') ⟨by simp [hsz], by simp [q1], by simp [q5], by simp [hsz], by simp [hsz], by simp [hsz], rfl⟩ ?_
  clear hsz q0 l0 e0 q1 l1 e1 q5 l5 e5 t 
  rintro t _ ⟨hsz, q1, q5, q11, q12, q13, rfl⟩
  apply wp_block
  refine wp_loop (fun a W => ∃ (t : Array Value) (k : Nat), a = ⟨t, []⟩ ∧ k ≤ R.length ∧ t.size = 26 ∧ t[1]? = some (.func (.func 103) #[] #[]) ∧ t[5]? = some (.slice (some ⟨w.heap.size, 0, none⟩) R.length R.length) ∧ t[11]? = some (.slice A R.length c) ∧ t[12]? = some (.int .i64 (R.length : Int)) ∧ t[13]? = some (.int .i64 (k : Int)) ∧ RpK 9 W w.heap.size 81 R.length k (R.map U) ∧ Below w.heap.size w W) (fun a _ => R.length - (intOf (a.tmps.getD 13 undef)).toNat) ⟨t, 0, rfl, by omega, hsz, q1, q5, q11, q12, q13, hP, hB⟩ ?_
  clear t hsz q1 q5 q11 q12 q13 hP hB W0
  rintro a W ⟨t, k, rfl, hk, hsz, q1, q5, q11, q12, q13, hP, hB⟩
  have hmu : intOf (t.getD 13 undef) = (k : Int) := by rw [Array.getD_eq_getD_getElem?, q13]; rfl
  dsimp only
  rw [hmu]
  clear hmu
  have HP := Lib.hid hP
  have HB := Lib.hid hB
  clear hP hB
  by_cases hlt : k < R.length
  · have hd : decide ((k : Int) < (R.length : Int)) = true := by simpa using hlt
    obtain ⟨l1, e1⟩ := Array.getElem?_eq_some_iff.1 q1
    obtain ⟨l5, e5⟩ := Array.getElem?_eq_some_iff.1 q5
    obtain ⟨l11, e11⟩ := Array.getElem?_eq_some_iff.1 q11
    obtain ⟨l12, e12⟩ := Array.getElem?_eq_some_iff.1 q12
    obtain ⟨l13, e13⟩ := Array.getElem?_eq_some_iff.1 q13
    refine wp_seq_h fun K hK => ?_
    apply wp_region_lit
    repeat (first | go_step)
    refine hK.out _ _ ?_
    clear hK K
    refine wp_abw (fun t' W' => t'.size = 26 ∧ t'[1]? = some (.func (.func 103) #[] #[]) ∧ t'[5]? = some (.slice (some ⟨w.heap.size, 0, none⟩) R.length R.length) ∧ t'[11]? = some (.slice A R.length c) ∧ t'[12]? = some (.int .i64 (R.length : Int)) ∧ t'[13]? = some (.int .i64 (k : Int)) ∧ t'[14]? = some (.bool true) ∧ W = W') ⟨by simp [hsz], by simp [q1], by simp [q5], by simp [q11], by simp [q12], by simp [q13], by simp [hsz, hd], rfl⟩ ?_
    clear hsz q1 l1 e1 q5 l5 e5 q11 l11 e11 q12 l12 e12 q13 l13 e13 t 
    rintro t _ ⟨hsz, q1, q5, q11, q12, q13, q14, rfl⟩
    clear hd
    refine wp_seq_h fun K1 hK1 => ?_
    refine wp_cond_true (by simp [Act.eval, q14]) ?_
    apply wp_skip
    simp only [Exit.then]
    refine hK1.out _ _ ?_
    clear hK1 K1 q14
    refine wp_seq_h fun KB hKB => ?_
    apply wp_block
    have hget : R[k]? = some R[k] := List.getElem?_eq_getElem hlt
    obtain ⟨b, off, rfl, hb, hps⟩ := (HH.out.keep HB.out) (by omega)
    have hc := hps k _ hget
    have hll := HL.out _ (List.mem_of_getElem? hget)
    obtain ⟨hlv, hov⟩ := hll
    have hUv := HU.out _ (List.mem_of_getElem? hget)
    obtain ⟨hul, huo⟩ := hUv
    have hfv := HF.out _ (List.mem_of_getElem? hget)
    have hmv : (R.map U)[k]? = some (U R[k]) := by rw [List.getElem?_map, hget]; rfl
    obtain ⟨x, hx⟩ : ∃ x, R[k] = x := ⟨_, rfl⟩
    rw [hx] at hc hlv hov hul huo hfv hmv
    have HC := Lib.hid hc
    have HLV := Lib.hid hlv
    have HOV := Lib.hid hov
    have HUL := Lib.hid hul
    have HUO := Lib.hid huo
    have HFV := Lib.hid hfv
    have HMV := Lib.hid hmv
    clear hget hps hc hlv hov hul huo hfv hmv hx
    have hd1 : (k : Int) < (R.length : Int) := by omega
    obtain ⟨l1, e1⟩ := Array.getElem?_eq_some_iff.1 q1
    obtain ⟨l5, e5⟩ := Array.getElem?_eq_some_iff.1 q5
    obtain ⟨l11, e11⟩ := Array.getElem?_eq_some_iff.1 q11
    obtain ⟨l12, e12⟩ := Array.getElem?_eq_some_iff.1 q12
    obtain ⟨l13, e13⟩ := Array.getElem?_eq_some_iff.1 q13
    refine wp_seq_h fun K hK => ?_
    apply wp_region_lit
    repeat (first | ((with_reducible show wpList _ _ _ _ _ _); refine ldK 98 _ x b (off + k * 37) rfl rfl HC.out Tryz.underlying98 rfl (by rw [HLV.out]; exact inf_widget) (by simp [Act.eval, hsz]) ?_) | ((with_reducible show wpList _ _ _ _ _ _); refine allocK 98 37 rfl rfl infz_widget (fun z hz => ?_)) | ((with_reducible show wpList _ _ _ _ _ _); refine stK 98 (.tmp 7) _ x W.heap.size 0 rfl rfl (thereB (newS _ _) (by rw [HLV.out, hz]; omega)) (by rw [HLV.out]; exact inf_widget) HOV.out (by simp [Act.eval, hsz]) (by simp [Act.eval, hsz]) ?_) | go_step)
    refine hK.out _ _ ?_
    clear hK K
    refine wp_abw (fun t' W' => t'.size = 26 ∧ t'[1]? = some (.func (.func 103) #[] #[]) ∧ t'[5]? = some (.slice (some ⟨w.heap.size, 0, none⟩) R.length R.length) ∧ t'[6]? = some (.int .i64 (k : Int)) ∧ t'[7]? = some (.pointer (some ⟨W.heap.size, 0, none⟩)) ∧ t'[11]? = some (.slice (some ⟨b, off, none⟩) R.length c) ∧ t'[12]? = some (.int .i64 (R.length : Int)) ∧ t'[13]? = some (.int .i64 (k : Int)) ∧ W'.rangeAt W.heap.size 0 x ∧ Below W.heap.size W W') ⟨by simp [hsz], by simp [q1], by simp [q5], by simp [hsz], by simp [hsz], by simp [q11], by simp [q12], by simp [q13], ⟨World.rangeAt_setCells_same _ _ _ _ (thereB (newS _ _) (by rw [HLV.out, hz]; omega)), below_setCells (Nat.le_refl _) _ _ _ (balloc (Below.refl _ _))⟩⟩ ?_
    clear hsz q1 l1 e1 q5 l5 e5 q11 l11 e11 q12 l12 e12 q13 l13 e13 t hd1 z hz
    rintro t W1 ⟨hsz, q1, q5, q6, q7, q11, q12, q13, hx1, hb1⟩
    have HX1 := Lib.hid hx1
    have hwg := HP.out.lt
    replace HP := Lib.hid (HP.out.keep hb1)
    replace HB := Lib.hid (bkeep2 HB.out hb1)
    clear hx1 hb1 HC
    have hd1 : (k : Int) < (R.length : Int) := by omega
    obtain ⟨l1, e1⟩ := Array.getElem?_eq_some_iff.1 q1
    obtain ⟨l5, e5⟩ := Array.getElem?_eq_some_iff.1 q5
    obtain ⟨l6, e6⟩ := Array.getElem?_eq_some_iff.1 q6
    obtain ⟨l7, e7⟩ := Array.getElem?_eq_some_iff.1 q7
    obtain ⟨l11, e11⟩ := Array.getElem?_eq_some_iff.1 q11
    obtain ⟨l12, e12⟩ := Array.getElem?_eq_some_iff.1 q12
    obtain ⟨l13, e13⟩ := Array.getElem?_eq_some_iff.1 q13
    apply wp_region_lit
    repeat (first | ((with_reducible show wpList _ _ _ _ _ _); refine ldK 98 _ x W.heap.size 0 rfl rfl HX1.out Tryz.underlying98 rfl (by rw [HLV.out]; exact inf_widget) (by simp [Act.eval, hsz, e7]) ?_) | go_step)
    refine (HFV.out _ HB.out).mono ?_
    rintro e W2 ⟨rfl, hb2⟩
    dsimp only
    have hth : W2.there w.heap.size (k * 9) (U x).length := by rw [HUL.out]; exact (HP.out.keep hb2).there hlt
    repeat (first | ((with_reducible show wpList _ _ _ _ _ _); refine stK 81 _ _ (U x) w.heap.size (k * 9) rfl rfl hth (by rw [HUL.out]; exact inf_Cell) HUO.out (by simp [Act.eval, hsz, hd1]) (by simp [Act.eval, hsz]) ?_) | go_step)
    try simp only [Exit.inBlock]
    refine hKB.out _ _ ?_
    clear hKB KB
    refine wp_abw (fun t' W' => t'.size = 26 ∧ t'[1]? = some (.func (.func 103) #[] #[]) ∧ t'[5]? = some (.slice (some ⟨w.heap.size, 0, none⟩) R.length R.length) ∧ t'[11]? = some (.slice (some ⟨b, off, none⟩) R.length c) ∧ t'[12]? = some (.int .i64 (R.length : Int)) ∧ t'[13]? = some (.int .i64 (k : Int)) ∧ RpK 9 W' w.heap.size 81 R.length (k + 1) (R.map U) ∧ Below w.heap.size w W') ⟨by simp [hsz], by simp [q1], by simp [q5], by simp [q11], by simp [q12], by simp [q13], ⟨(HP.out.keep hb2).step HR.out HMV.out hlt, below_setCells (Nat.le_refl _) _ _ _ (bkeep2 HB.out hb2)⟩⟩ ?_
    clear hsz q1 l1 e1 q5 l5 e5 q6 l6 e6 q7 l7 e7 q11 l11 e11 q12 l12 e12 q13 l13 e13 t hth hb2 HP HB hd1
    rintro t W3 ⟨hsz, q1, q5, q11, q12, q13, hP, hB⟩
    obtain ⟨l1, e1⟩ := Array.getElem?_eq_some_iff.1 q1
    obtain ⟨l5, e5⟩ := Array.getElem?_eq_some_iff.1 q5
    obtain ⟨l11, e11⟩ := Array.getElem?_eq_some_iff.1 q11
    obtain ⟨l12, e12⟩ := Array.getElem?_eq_some_iff.1 q12
    obtain ⟨l13, e13⟩ := Array.getElem?_eq_some_iff.1 q13
    apply wp_region_lit
    repeat go_step
    try simp only [Exit.then]
    refine ⟨⟨_, k + 1, rfl, by omega, by simp [hsz], by simp [q1], by simp [q5], by simp [q11], by simp [q12], by simp [hsz], hP, hB⟩, ?_⟩
    · simp [hsz, intOf]
      omega
  · have hd : decide ((k : Int) < (R.length : Int)) = false := decide_eq_false (by omega)
    obtain ⟨l1, e1⟩ := Array.getElem?_eq_some_iff.1 q1
    obtain ⟨l5, e5⟩ := Array.getElem?_eq_some_iff.1 q5
    obtain ⟨l11, e11⟩ := Array.getElem?_eq_some_iff.1 q11
    obtain ⟨l12, e12⟩ := Array.getElem?_eq_some_iff.1 q12
    obtain ⟨l13, e13⟩ := Array.getElem?_eq_some_iff.1 q13
    refine wp_seq_h fun K hK => ?_
    apply wp_region_lit
    repeat (first | go_step)
    refine hK.out _ _ ?_
    clear hK K
    refine wp_abw (fun t' W' => t'.size = 26 ∧ t'[1]? = some (.func (.func 103) #[] #[]) ∧ t'[5]? = some (.slice (some ⟨w.heap.size, 0, none⟩) R.length R.length) ∧ t'[11]? = some (.slice A R.length c) ∧ t'[12]? = some (.int .i64 (R.length : Int)) ∧ t'[13]? = some (.int .i64 (k : Int)) ∧ t'[14]? = some (.bool false) ∧ W = W') ⟨by simp [hsz], by simp [q1], by simp [q5], by simp [q11], by simp [q12], by simp [q13], by simp [hsz, hd], rfl⟩ ?_
    clear hsz q1 l1 e1 q5 l5 e5 q11 l11 e11 q12 l12 e12 q13 l13 e13 t 
    rintro t _ ⟨hsz, q1, q5, q11, q12, q13, q14, rfl⟩
    refine wp_seq_h fun K1 hK1 => ?_
    refine wp_cond_false (by simp [Act.eval, q14]) ?_
    apply wp_exit
    simp only [Exit.then, Exit.inBlock, if_true]
    refine hKE.out _ _ ?_
    clear hd
    obtain ⟨l1, e1⟩ := Array.getElem?_eq_some_iff.1 q1
    obtain ⟨l5, e5⟩ := Array.getElem?_eq_some_iff.1 q5
    obtain ⟨l11, e11⟩ := Array.getElem?_eq_some_iff.1 q11
    obtain ⟨l12, e12⟩ := Array.getElem?_eq_some_iff.1 q12
    obtain ⟨l13, e13⟩ := Array.getElem?_eq_some_iff.1 q13
    obtain ⟨l14, e14⟩ := Array.getElem?_eq_some_iff.1 q14
    repeat go_step
    refine bodyPost_ret (results_tmp rfl _ _ _) rfl ?_
    exact ⟨by simp [hsz], HP.out.whole (by simp) (by omega), HB.out⟩
end Go.Proofs.YtgdkionmeacalaaGreat
end
section
namespace Go.Proofs.YtgdkionmeacalaaGreat
open Go.RowKit
set_option linter.unusedVariables false
set_option linter.unusedSimpArgs false
set_option maxHeartbeats 4000000
set_option maxRecDepth 100000 in
theorem each_wl (A : Option Addr) (c : Nat) (R : List (List Value)) (U : List Value → List Value) (w : World) (h : RvK 37 w A R) (hl : ∀ vs ∈ R, vs.length = 37 ∧ one vs) (hL : R.length ≤ 1048576) (hU : ∀ vs ∈ R, (U vs).length = 9 ∧ one (U vs))
    (hf : ∀ vs ∈ R, ∀ W, Below w.heap.size w W → Calls Tryz.prog 105 #[.agg vs.toArray] W fun e W' => e = .returned (.agg (U vs).toArray) ∧ Below W.heap.size W W') :
    Calls Tryz.prog 104 #[.slice A R.length c, .func (.func 105) #[] #[]] w fun e w' => e = .returned (.slice (some ⟨w.heap.size, 0, none⟩) R.length R.length) ∧ RbK 9 w' w.heap.size 82 (R.map U) ∧ Below w.heap.size w w' := by
  obtain ⟨fm, hfm, hmk0⟩ := made_Place
  have HR := Lib.hid (show ∀ vs ∈ R.map U, vs.length = 9 from fun vs hv => by obtain ⟨us, hu, rfl⟩ := List.mem_map.1 hv; exact (hU us hu).1)
  have HU := Lib.hid hU
  have HF := Lib.hid hf
  have HH := Lib.hid h
  have HL := Lib.hid hl
  have HFM := Lib.hid hfm
  clear hU hf h hfm hl
  refine calls_abs Tryz.func104 rfl 26 (by simp only [Tryz.ntmps104]) (by simp) (fun t hsz hargs => ?_)
  have q0 : t[0]? = some (.slice A R.length c) := get_of (by omega) (hargs 0 _ rfl)
  have q1 : t[1]? = some (.func (.func 105) #[] #[]) := get_of (by omega) (hargs 1 _ rfl)
  clear hargs
  obtain ⟨l0, e0⟩ := Array.getElem?_eq_some_iff.1 q0
  obtain ⟨l1, e1⟩ := Array.getElem?_eq_some_iff.1 q1
  refine wp_seq_h fun K hK => ?_
  apply wp_region_lit
  repeat (first | go_step)
  refine hK.out _ _ ?_
  clear hK K
  refine wp_abw (fun t' W' => t'.size = 26 ∧ t'[0]? = some (.slice A R.length c) ∧ t'[1]? = some (.func (.func 105) #[] #[]) ∧ w = W') ⟨by simp [hsz], by simp [q0], by simp [q1], rfl⟩ ?_
  clear hsz q0 l0 e0 q1 l1 e1 t 
  rintro t _ ⟨hsz, q0, q1, rfl⟩
  have hmk := hmk0 R.length w hL
  clear hmk0
  obtain ⟨l0, e0⟩ := Array.getElem?_eq_some_iff.1 q0
  obtain ⟨l1, e1⟩ := Array.getElem?_eq_some_iff.1 q1
  refine wp_seq_h fun K hK => ?_
  apply wp_region_lit
  repeat (first | go_step)
  refine hK.out _ _ ?_
  clear hK K
  refine wp_abw (fun t' W' => t'.size = 26 ∧ t'[0]? = some (.slice A R.length c) ∧ t'[1]? = some (.func (.func 105) #[] #[]) ∧ t'[5]? = some (.slice (some ⟨w.heap.size, 0, none⟩) R.length R.length) ∧ RpK 9 W' w.heap.size 82 R.length 0 (R.map U) ∧ Below w.heap.size w W') ⟨by simp [hsz], by simp [q0], by simp [q1], by simp [hsz], ⟨RpK.new _ (HFM.out _), balloc (Below.refl _ _)⟩⟩ ?_
  clear hsz q0 l0 e0 q1 l1 e1 t hmk
  rintro t W0 ⟨hsz, q0, q1, q5, hP, hB⟩
  refine wp_seq_h fun KE hKE => ?_
  obtain ⟨l0, e0⟩ := Array.getElem?_eq_some_iff.1 q0
  obtain ⟨l1, e1⟩ := Array.getElem?_eq_some_iff.1 q1
  obtain ⟨l5, e5⟩ := Array.getElem?_eq_some_iff.1 q5
  refine wp_seq_h fun K hK => ?_
  apply wp_region_lit
  repeat (first | go_step)
  refine hK.out _ _ ?_
  clear hK K
  refine wp_abw (fun t' W' => t'.size = 26 ∧ t'[1]? = some (.func (.func 105) #[] #[]) ∧ t'[5]? = some (.slice (some ⟨w.heap.size, 0, none⟩) R.length R.length) ∧ t'[11]? = some (.slice A R.length c) ∧ t'[12]? = some (.int .i64 (R.length : Int)) ∧ t'[13]? = some (.int .i64 ((0 : Nat) : Int)) ∧ W0 = W') ⟨by simp [hsz], by simp [q1], by simp [q5], by simp [hsz], by simp [hsz], by simp [hsz], rfl⟩ ?_
  clear hsz q0 l0 e0 q1 l1 e1 q5 l5 e5 t 
  rintro t _ ⟨hsz, q1, q5, q11, q12, q13, rfl⟩
  apply wp_block
  refine wp_loop (fun a W => ∃ (t : Array Value) (k : Nat), a = ⟨t, []⟩ ∧ k ≤ R.length ∧ t.size = 26 ∧ t[1]? = some (.func (.func 105) #[] #[]) ∧ t[5]? = some (.slice (some ⟨w.heap.size, 0, none⟩) R.length R.length) ∧ t[11]? = some (.slice A R.length c) ∧ t[12]? = some (.int .i64 (R.length : Int)) ∧ t[13]? = some (.int .i64 (k : Int)) ∧ RpK 9 W w.heap.size 82 R.length k (R.map U) ∧ Below w.heap.size w W) (fun a _ => R.length - (intOf (a.tmps.getD 13 undef)).toNat) ⟨t, 0, rfl, by omega, hsz, q1, q5, q11, q12, q13, hP, hB⟩ ?_
  clear t hsz q1 q5 q11 q12 q13 hP hB W0
  rintro a W ⟨t, k, rfl, hk, hsz, q1, q5, q11, q12, q13, hP, hB⟩
  have hmu : intOf (t.getD 13 undef) = (k : Int) := by rw [Array.getD_eq_getD_getElem?, q13]; rfl
  dsimp only
  rw [hmu]
  clear hmu
  have HP := Lib.hid hP
  have HB := Lib.hid hB
  clear hP hB
  by_cases hlt : k < R.length
  · have hd : decide ((k : Int) < (R.length : Int)) = true := by simpa using hlt
    obtain ⟨l1, e1⟩ := Array.getElem?_eq_some_iff.1 q1
    obtain ⟨l5, e5⟩ := Array.getElem?_eq_some_iff.1 q5
    obtain ⟨l11, e11⟩ := Array.getElem?_eq_some_iff.1 q11
    obtain ⟨l12, e12⟩ := Array.getElem?_eq_some_iff.1 q12
    obtain ⟨l13, e13⟩ := Array.getElem?_eq_some_iff.1 q13
    refine wp_seq_h fun K hK => ?_
    apply wp_region_lit
    repeat (first | go_step)
    refine hK.out _ _ ?_
    clear hK K
    refine wp_abw (fun t' W' => t'.size = 26 ∧ t'[1]? = some (.func (.func 105) #[] #[]) ∧ t'[5]? = some (.slice (some ⟨w.heap.size, 0, none⟩) R.length R.length) ∧ t'[11]? = some (.slice A R.length c) ∧ t'[12]? = some (.int .i64 (R.length : Int)) ∧ t'[13]? = some (.int .i64 (k : Int)) ∧ t'[14]? = some (.bool true) ∧ W = W') ⟨by simp [hsz], by simp [q1], by simp [q5], by simp [q11], by simp [q12], by simp [q13], by simp [hsz, hd], rfl⟩ ?_
    clear hsz q1 l1 e1 q5 l5 e5 q11 l11 e11 q12 l12 e12 q13 l13 e13 t 
    rintro t _ ⟨hsz, q1, q5, q11, q12, q13, q14, rfl⟩
    clear hd
    refine wp_seq_h fun K1 hK1 => ?_
    refine wp_cond_true (by simp [Act.eval, q14]) ?_
    apply wp_skip
    simp only [Exit.then]
    refine hK1.out _ _ ?_
    clear hK1 K1 q14
    refine wp_seq_h fun KB hKB => ?_
    apply wp_block
    have hget : R[k]? = some R[k] := List.getElem?_eq_getElem hlt
    obtain ⟨b, off, rfl, hb, hps⟩ := (HH.out.keep HB.out) (by omega)
    have hc := hps k _ hget
    have hll := HL.out _ (List.mem_of_getElem? hget)
    obtain ⟨hlv, hov⟩ := hll
    have hUv := HU.out _ (List.mem_of_getElem? hget)
    obtain ⟨hul, huo⟩ := hUv
    have hfv := HF.out _ (List.mem_of_getElem? hget)
    have hmv : (R.map U)[k]? = some (U R[k]) := by rw [List.getElem?_map, hget]; rfl
    obtain ⟨x, hx⟩ : ∃ x, R[k] = x := ⟨_, rfl⟩
    rw [hx] at hc hlv hov hul huo hfv hmv
    have HC := Lib.hid hc
    have HLV := Lib.hid hlv
    have HOV := Lib.hid hov
    have HUL := Lib.hid hul
    have HUO := Lib.hid huo
    have HFV := Lib.hid hfv
    have HMV := Lib.hid hmv
    clear hget hps hc hlv hov hul huo hfv hmv hx
    have hd1 : (k : Int) < (R.length : Int) := by omega
    obtain ⟨l1, e1⟩ := Array.getElem?_eq_some_iff.1 q1
    obtain ⟨l5, e5⟩ := Array.getElem?_eq_some_iff.1 q5
    obtain ⟨l11, e11⟩ := Array.getElem?_eq_some_iff.1 q11
    obtain ⟨l12, e12⟩ := Array.getElem?_eq_some_iff.1 q12
    obtain ⟨l13, e13⟩ := Array.getElem?_eq_some_iff.1 q13
    refine wp_seq_h fun K hK => ?_
    apply wp_region_lit
    repeat (first | ((with_reducible show wpList _ _ _ _ _ _); refine ldK 98 _ x b (off + k * 37) rfl rfl HC.out Tryz.underlying98 rfl (by rw [HLV.out]; exact inf_widget) (by simp [Act.eval, hsz]) ?_) | ((with_reducible show wpList _ _ _ _ _ _); refine allocK 98 37 rfl rfl infz_widget (fun z hz => ?_)) | ((with_reducible show wpList _ _ _ _ _ _); refine stK 98 (.tmp 7) _ x W.heap.size 0 rfl rfl (thereB (newS _ _) (by rw [HLV.out, hz]; omega)) (by rw [HLV.out]; exact inf_widget) HOV.out (by simp [Act.eval, hsz]) (by simp [Act.eval, hsz]) ?_) | go_step)
    refine hK.out _ _ ?_
    clear hK K
    refine wp_abw (fun t' W' => t'.size = 26 ∧ t'[1]? = some (.func (.func 105) #[] #[]) ∧ t'[5]? = some (.slice (some ⟨w.heap.size, 0, none⟩) R.length R.length) ∧ t'[6]? = some (.int .i64 (k : Int)) ∧ t'[7]? = some (.pointer (some ⟨W.heap.size, 0, none⟩)) ∧ t'[11]? = some (.slice (some ⟨b, off, none⟩) R.length c) ∧ t'[12]? = some (.int .i64 (R.length : Int)) ∧ t'[13]? = some (.int .i64 (k : Int)) ∧ W'.rangeAt W.heap.size 0 x ∧ Below W.heap.size W W') ⟨by simp [hsz], by simp [q1], by simp [q5], by simp [hsz], by simp [hsz], by simp [q11], by simp [q12], by simp [q13], ⟨World.rangeAt_setCells_same _ _ _ _ (thereB (newS _ _) (by rw [HLV.out, hz]; omega)), below_setCells (Nat.le_refl _) _ _ _ (balloc (Below.refl _ _))⟩⟩ ?_
    clear hsz q1 l1 e1 q5 l5 e5 q11 l11 e11 q12 l12 e12 q13 l13 e13 t hd1 z hz
    rintro t W1 ⟨hsz, q1, q5, q6, q7, q11, q12, q13, hx1, hb1⟩
    have HX1 := Lib.hid hx1
    have hwg := HP.out.lt
    replace HP := Lib.hid (HP.out.keep hb1)
    replace HB := Lib.hid (bkeep2 HB.out hb1)
    clear hx1 hb1 HC
    have hd1 : (k : Int) < (R.length : Int) := by omega
    obtain ⟨l1, e1⟩ := Array.getElem?_eq_some_iff.1 q1
    obtain ⟨l5, e5⟩ := Array.getElem?_eq_some_iff.1 q5
    obtain ⟨l6, e6⟩ := Array.getElem?_eq_some_iff.1 q6
    obtain ⟨l7, e7⟩ := Array.getElem?_eq_some_iff.1 q7
    obtain ⟨l11, e11⟩ := Array.getElem?_eq_some_iff.1 q11
    obtain ⟨l12, e12⟩ := Array.getElem?_eq_some_iff.1 q12
    obtain ⟨l13, e13⟩ := Array.getElem?_eq_some_iff.1 q13
    apply wp_region_lit
    repeat (first | ((with_reducible show wpList _ _ _ _ _ _); refine ldK 98 _ x W.heap.size 0 rfl rfl HX1.out Tryz.underlying98 rfl (by rw [HLV.out]; exact inf_widget) (by simp [Act.eval, hsz, e7]) ?_) | go_step)
    refine (HFV.out _ HB.out).mono ?_
    rintro e W2 ⟨rfl, hb2⟩
    dsimp only
    have hth : W2.there w.heap.size (k * 9) (U x).length := by rw [HUL.out]; exact (HP.out.keep hb2).there hlt
    repeat (first | ((with_reducible show wpList _ _ _ _ _ _); refine stK 82 _ _ (U x) w.heap.size (k * 9) rfl rfl hth (by rw [HUL.out]; exact inf_Place) HUO.out (by simp [Act.eval, hsz, hd1]) (by simp [Act.eval, hsz]) ?_) | go_step)
    try simp only [Exit.inBlock]
    refine hKB.out _ _ ?_
    clear hKB KB
    refine wp_abw (fun t' W' => t'.size = 26 ∧ t'[1]? = some (.func (.func 105) #[] #[]) ∧ t'[5]? = some (.slice (some ⟨w.heap.size, 0, none⟩) R.length R.length) ∧ t'[11]? = some (.slice (some ⟨b, off, none⟩) R.length c) ∧ t'[12]? = some (.int .i64 (R.length : Int)) ∧ t'[13]? = some (.int .i64 (k : Int)) ∧ RpK 9 W' w.heap.size 82 R.length (k + 1) (R.map U) ∧ Below w.heap.size w W') ⟨by simp [hsz], by simp [q1], by simp [q5], by simp [q11], by simp [q12], by simp [q13], ⟨(HP.out.keep hb2).step HR.out HMV.out hlt, below_setCells (Nat.le_refl _) _ _ _ (bkeep2 HB.out hb2)⟩⟩ ?_
    clear hsz q1 l1 e1 q5 l5 e5 q6 l6 e6 q7 l7 e7 q11 l11 e11 q12 l12 e12 q13 l13 e13 t hth hb2 HP HB hd1
    rintro t W3 ⟨hsz, q1, q5, q11, q12, q13, hP, hB⟩
    obtain ⟨l1, e1⟩ := Array.getElem?_eq_some_iff.1 q1
    obtain ⟨l5, e5⟩ := Array.getElem?_eq_some_iff.1 q5
    obtain ⟨l11, e11⟩ := Array.getElem?_eq_some_iff.1 q11
    obtain ⟨l12, e12⟩ := Array.getElem?_eq_some_iff.1 q12
    obtain ⟨l13, e13⟩ := Array.getElem?_eq_some_iff.1 q13
    apply wp_region_lit
    repeat go_step
    try simp only [Exit.then]
    refine ⟨⟨_, k + 1, rfl, by omega, by simp [hsz], by simp [q1], by simp [q5], by simp [q11], by simp [q12], by simp [hsz], hP, hB⟩, ?_⟩
    · simp [hsz, intOf]
      omega
  · have hd : decide ((k : Int) < (R.length : Int)) = false := decide_eq_false (by omega)
    obtain ⟨l1, e1⟩ := Array.getElem?_eq_some_iff.1 q1
    obtain ⟨l5, e5⟩ := Array.getElem?_eq_some_iff.1 q5
    obtain ⟨l11, e11⟩ := Array.getElem?_eq_some_iff.1 q11
    obtain ⟨l12, e12⟩ := Array.getElem?_eq_some_iff.1 q12
    obtain ⟨l13, e13⟩ := Array.getElem?_eq_some_iff.1 q13
    refine wp_seq_h fun K hK => ?_
    apply wp_region_lit
    repeat (first | go_step)
    refine hK.out _ _ ?_
    clear hK K
    refine wp_abw (fun t' W' => t'.size = 26 ∧ t'[1]? = some (.func (.func 105) #[] #[]) ∧ t'[5]? = some (.slice (some ⟨w.heap.size, 0, none⟩) R.length R.length) ∧ t'[11]? = some (.slice A R.length c) ∧ t'[12]? = some (.int .i64 (R.length : Int)) ∧ t'[13]? = some (.int .i64 (k : Int)) ∧ t'[14]? = some (.bool false) ∧ W = W') ⟨by simp [hsz], by simp [q1], by simp [q5], by simp [q11], by simp [q12], by simp [q13], by simp [hsz, hd], rfl⟩ ?_
    clear hsz q1 l1 e1 q5 l5 e5 q11 l11 e11 q12 l12 e12 q13 l13 e13 t 
    rintro t _ ⟨hsz, q1, q5, q11, q12, q13, q14, rfl⟩
    refine wp_seq_h fun K1 hK1 => ?_
    refine wp_cond_false (by simp [Act.eval, q14]) ?_
    apply wp_exit
    simp only [Exit.then, Exit.inBlock, if_true]
    refine hKE.out _ _ ?_
    clear hd
    obtain ⟨l1, e1⟩ := Array.getElem?_eq_some_iff.1 q1
    obtain ⟨l5, e5⟩ := Array.getElem?_eq_some_iff.1 q5
    obtain ⟨l11, e11⟩ := Array.getElem?_eq_some_iff.1 q11
    obtain ⟨l12, e12⟩ := Array.getElem?_eq_some_iff.1 q12
    obtain ⟨l13, e13⟩ := Array.getElem?_eq_some_iff.1 q13
    obtain ⟨l14, e14⟩ := Array.getElem?_eq_some_iff.1 q14
    repeat go_step
    refine bodyPost_ret (results_tmp rfl _ _ _) rfl ?_
    exact ⟨by simp [hsz], HP.out.whole (by simp) (by omega), HB.out⟩
end Go.Proofs.YtgdkionmeacalaaGreat
end
