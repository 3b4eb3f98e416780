import Derived.Test.YtgdkionmeacalabQ11
import Derived.RangeFuncBox
import Derived.RangeFuncNested
import Derived.RangeFuncBound
import Derived.RangeFuncCalls
import Derived.RangeFuncLeaves
import Derived.Shelf.Abstract
import Derived.Shelf.RegionOpen
import Derived.WalkKit
import Derived.OwnWalkIn
import Derived.TacticsInMore
import Derived.LoopNIn
import Derived.LoopIn
import Derived.Maps.AppendAt
section
namespace Go.Proofs.Ytgdkionmeacalab
open Go.RowKit
set_option linter.unusedVariables false
set_option maxHeartbeats 4000000
attribute [local go_sem] growUpon_value growUpon_skip growUpon_enter
def upB (i : Nat) (n : Nd) : Bool := if i = 0 then decide (n.pa = -1) else rng n.pa 0 ((i : Int) - 1)
def clB (L : List Nd) (i : Nat) (n : Nd) : Bool := if i = 0 then true else match L[n.pa.toNat]? with
  | some u => decide (u.ki ≠ 1) || cellB u.cs.length u.rs.length n.ce
  | none => true
def nokB (L : List Nd) (i : Nat) : Bool := match L[i]? with
  | some n => ndB n && (upB i n && clB L i n)
  | none => true
def treeB (L : List Nd) : Bool := rng L.length 1 10 && (List.range L.length).all (nokB L)
theorem nokB_at {L : List Nd} {i : Nat} {n : Nd} (h : L[i]? = some n) : nokB L i = (ndB n && (upB i n && clB L i n)) := by unfold nokB; rw [h]
theorem range_all {f : Nat → Bool} {n k : Nat} (hk : k ≤ n) (h : (List.range n).all f = true) : (List.range k).all f = true := by
  rw [List.all_eq_true] at h ⊢
  intro x hx
  exact h x (List.mem_range.2 (Nat.lt_of_lt_of_le (List.mem_range.1 hx) hk))
theorem range_all_succ {f : Nat → Bool} {k : Nat} : (List.range (k + 1)).all f = ((List.range k).all f && f k) := by
  rw [List.range_succ, List.all_append]; simp
theorem own_lines {n : Nd} (h : ndB n = true) (hk : n.ki = 1) : linesB n.cs = true ∧ linesB n.rs = true := by
  simp only [ndB, Bool.and_eq_true] at h
  have := h.2.2.1
  unfold ownB at this
  rw [if_pos hk] at this
  simpa [Bool.and_eq_true] using this
set_option maxRecDepth 100000 in
theorem hasParentAhead_v (A : Option Addr) (c : Nat) (R : List Nr) (i : Nat) (p : Nr) (b : Bool) (w : World) (h : NrV w A R) (hp : R[i]? = some p) (hL : R.length ≤ 10) (hb : upB i p.n = b) :
    Calls Try.prog 30 #[.agg #[.slice A R.length c], .int .i64 i] w fun e w' => e = .returned (.bool b) ∧ Below w.heap.size w w' := by
  have hi : i < R.length := (List.getElem?_eq_some_iff.1 hp).1
  obtain ⟨bl, off, rfl, hbl, hc⟩ := h.cells (by omega)
  have x0 : w.cell? ⟨bl, off + i * 34, none⟩ = some (.int .i64 p.n.pa) := hc i p hp 0 _ rfl
  have hii : (i : Int) < (R.length : Int) := by omega
  have hne : ¬ bl = w.heap.size := by omega
  unfold upB at hb
  clear hc h hp
  by_cases h0 : i = 0
  · subst h0
    rw [if_pos rfl] at hb
    simp only [Nat.zero_mul, Nat.add_zero] at x0
    have hlr : (0 : Int) < (R.length : Int) := by omega
    clear hii
    have e1 : (p.n.pa == -1) = b := by rw [← hb]; rfl
    have HE := Lib.hid e1
    clear hb e1
    go_enter Try.func30, Try.ntmps30
    go_wp2
    go_ret
    exact ⟨ret_bool HE.out, balloc (Below.refl _ _)⟩
  · rw [if_neg h0] at hb
    have e0 : ((i : Int) == 0) = false := by rw [beq_eq_false_iff_ne]; omega
    have e0' : decide ((i : Int) = 0) = false := decide_eq_false (by omega)
    go_enter Try.func30, Try.ntmps30
    go_wp2_with fail
    with_reducible refine (within_w p.n.pa 0 ((i : Int) - 1) b _ hb).mono ?_
    rintro e w' ⟨rfl, rfl⟩
    go_wp2
    go_ret
    exact ⟨rfl, balloc (Below.refl _ _)⟩
set_option maxRecDepth 100000 in
theorem hasValidCell_0 (A : Option Addr) (c n : Nat) (w : World) :
    Calls Try.prog 31 #[.agg #[.slice A n c], .int .i64 0] w fun e w' => e = .returned (.bool true) ∧ Below w.heap.size w w' := by
  go_enter Try.func31, Try.ntmps31
  go_wp2
  go_ret
  exact ⟨rfl, balloc (Below.refl _ _)⟩
set_option maxRecDepth 100000 in
theorem hasValidCell_s (A : Option Addr) (c : Nat) (R : List Nr) (i m : Nat) (p u : Nr) (b : Bool) (w : World) (h : NrV w A R) (hp : R[i]? = some p) (hL : R.length ≤ 10) (h0 : i ≠ 0) (hpa : p.n.pa = m) (hm : m < i) (hu : R[m]? = some u)
    (hl : u.n.ki = 1 → (1 ≤ u.n.cs.length ∧ u.n.cs.length ≤ 5) ∧ (1 ≤ u.n.rs.length ∧ u.n.rs.length ≤ 5)) (hb : (decide (u.n.ki ≠ 1) || cellB u.n.cs.length u.n.rs.length p.n.ce) = b) :
    Calls Try.prog 31 #[.agg #[.slice A R.length c], .int .i64 i] w fun e w' => e = .returned (.bool b) ∧ Below w.heap.size w w' := by
  have hi : i < R.length := (List.getElem?_eq_some_iff.1 hp).1
  obtain ⟨bl, off, rfl, hbl, hc⟩ := h.cells (by omega)
  have hB0 : Below w.heap.size w (w.alloc (.cells #[.slice (some ⟨bl, off, none⟩) R.length c] 25 (0, 0))) := balloc (Below.refl _ _)
  have HX := Lib.hid (newS w (.cells #[.slice (some ⟨bl, off, none⟩) R.length c] 25 (0, 0)))
  have HP := Lib.hid (rangeB (hc i p hp) (hB0.block bl hbl))
  have HU := Lib.hid (rangeB (hc m u hu) (hB0.block bl hbl))
  have HB := Lib.hid hB0
  have hii : (i : Int) < (R.length : Int) := by omega
  have hmm : (m : Int) < (R.length : Int) := by omega
  have e0 : ((i : Int) == 0) = false := by rw [beq_eq_false_iff_ne]; omega
  have e0' : decide ((i : Int) = 0) = false := decide_eq_false (by omega)
  have HPA := Lib.hid hpa
  have HBB := Lib.hid hb
  have HLL := Lib.hid hl
  clear hc h hp hu hpa hb hl hB0
  go_enter Try.func31, Try.ntmps31
  go_upto_region 3 with (fail)
  refine wp_genGG (fun W => W.heap[w.heap.size]? = some (.cells #[.slice (some ⟨bl, off, none⟩) R.length c] 25 (0, 0)) ∧ W.rangeAt bl (off + i * 34) (valsNr p) ∧ W.rangeAt bl (off + m * 34) (valsNr u) ∧ Below w.heap.size w W ∧ bl < W.heap.size) ⟨HX.out, HP.out, HU.out, HB.out, by simp; omega⟩ (fun W h0 => ?_)
  clear HX HP HU HB
  obtain ⟨hx, hp, hu, hb, hbw⟩ := h0
  have x0 := cellS hx 0
  have q0 : W.cell? ⟨bl, off + i * 34, none⟩ = some (.int .i64 (m : Int)) := by rw [← HPA.out]; exact hp 0 _ rfl
  have lx := ltS hx
  have HX := Lib.hid hx
  have HP := Lib.hid hp
  have HU := Lib.hid hu
  have HB := Lib.hid hb
  clear hx hp hu hb
  refine wp_region_grow 10 2 (· < 11) (by kernel_rfl) (by kernel_rfl) rfl ?_
  iterate 10 (refine wpG_step (fun K hK => ?_); first | (refine grow_ldN _ u bl (off + m * 34) rfl rfl rfl hbw (rangeB HU.out rfl) ?_; refine hK _ ?_; clear hK K) | (apply Exists.intro; refine ⟨.inl ⟨rfl, fun w' hw' => ?_⟩, ?_⟩; (focus ((obtain ⟨hc, hf⟩ := bcell hw'.out); (have hcS := bcellS hw'.out); go_simp <;> rfl)); (go_simp; refine hK _ ?_; clear hK K)))
  refine wpG_nil ?_
  refine wpK_one (i := 10) (by kernel_rfl) rfl rfl (by kernel_rfl) (fun w5 h5 => ?_)
  go_simp
  refine ⟨Gr.alloc _ _, ?_⟩
  refine wpK_tail (by kernel_rfl) (fun w9 h9 => ?_)
  refine wpAny_one (i := 11) (by kernel_rfl) rfl rfl ?_
  have hnew := (h9.out.block w5.heap.size (by simp)).trans (newS w5 _)
  refine wp_store_mid 39 (.tmp 5) (.tmp 17) rfl w5.heap.size 0 (valsNr u).toArray rfl rfl (thereB hnew (by show (0 + 34 : Nat) ≤ 34; omega)) (by kernel_rfl) (valsNr_all u) ?_
  refine wpAny_end (by kernel_rfl) ?_
  have hfull : (w9.setCells w5.heap.size 0 (valsNr u)).heap[w5.heap.size]? = some (.cells (valsNr u).toArray 39 (0, 0)) := by
    rw [heap_setCells (valsNr u) 0 w9 _ hnew, wrAt_all (by rfl)]
  have hlow : W.heap.size ≤ w5.heap.size := h5.out.size
  have hbel : Below W.heap.size W (w9.setCells w5.heap.size 0 (valsNr u)) :=
    below_setCells hlow _ _ _ (bgrow (balloc (bgrow (Below.refl _ _).drew h5)) h9)
  refine NoPan.gen (fun wf => W.heap.size ≤ w5.heap.size ∧ wf.heap[w5.heap.size]? = some (.cells (valsNr u).toArray 39 (0, 0)) ∧ Below W.heap.size W wf) ⟨hlow, hfull, hbel⟩ (fun wf hwf => ?_)
  clear hnew hfull hlow hbel h9
  obtain ⟨b5, hb5⟩ : ∃ b5, w5.heap.size = b5 := ⟨_, rfl⟩
  simp only [hb5] at hwf ⊢
  clear hb5 h5 w5 w9
  obtain ⟨hlow, hh5, hB⟩ := hwf
  replace HX := Lib.hid ((hB.block _ lx).trans HX.out)
  replace HP := Lib.hid (rangeB HP.out (hB.block _ hbw))
  replace HB := Lib.hid (bkeep2 HB.out hB)
  have hbw2 : bl < wf.heap.size := Nat.lt_of_lt_of_le hbw hB.size
  have H5 := Lib.hid hh5
  clear x0 q0 HU hh5 hB hbw
  have x0 := cellS HX.out 0
  have lx2 := ltS HX.out
  have k4 : wf.cell? ⟨b5, 4, none⟩ = some (.int .i64 u.n.ki) := cellS H5.out 4
  have k5 : wf.cell? ⟨b5, 5, none⟩ = some (.slice u.ca u.n.cs.length u.cc) := cellS H5.out 5
  have k6 : wf.cell? ⟨b5, 6, none⟩ = some (.slice u.ra u.n.rs.length u.rc) := cellS H5.out 6
  have l5 := ltS H5.out
  by_cases hk : u.n.ki = 1
  · have hb' : cellB u.n.cs.length u.n.rs.length p.n.ce = b := by rw [← HBB.out]; simp [hk]
    obtain ⟨⟨l1, l2⟩, l3, l4⟩ := HLL.out hk
    rw [hk] at k4
    have hce := node_ce HP.out
    have HCE := Lib.hid hce
    have HBR := Lib.hid hb'
    clear hk hce hb' HBB HLL
    go_upto_region 4 with (fail)
    refine wp_region_grow 18 1 (· < 18) (by kernel_rfl) (by kernel_rfl) rfl ?_
    iterate 18 (refine wpG_step (fun K hK => ?_); first | (refine grow_loadM 35 _ [.int .i64 p.n.ce.co, .int .i64 p.n.ce.ro, .int .i64 p.n.ce.mc, .int .i64 p.n.ce.mr, .int .i64 p.n.ce.cw, .int .i64 p.n.ce.ch, .int .i64 p.n.ce.sk, .int .i64 p.n.ce.px, .int .i64 p.n.ce.py] bl (off + i * 34 + 16) rfl rfl rfl Try.underlying35 rfl (by kernel_rfl) (fun w' hw' => rangeB HCE.out (hw'.out.block bl hbw2)) ?_; refine hK _ ?_; clear hK K) | (refine grow_skip rfl ?_; go_simp; refine hK _ ?_; clear hK K) | (apply Exists.intro; refine ⟨.inl ⟨rfl, fun w' hw' => ?_⟩, ?_⟩; (focus ((obtain ⟨hc, hf⟩ := bcell hw'.out); (have hcS := bcellS hw'.out); go_simp <;> first | rfl | (go_at_call 49; exact validCell_v p.n.ce u.n.cs.length u.n.rs.length b _ (by omega) (by omega) (by omega) (by omega) HBR.out))); (go_simp; refine hK _ ?_; clear hK K)))
    refine wpG_nil ?_
    refine wpK_tail (by kernel_rfl) (fun w9 hg9 => ?_)
    have hb9 := bdrewn hg9.out
    obtain ⟨hc9, hf9⟩ := bcell hb9
    refine wpAny_one (i := 18) (by kernel_rfl) rfl rfl ?_
    go_simp
    refine wpAny_end (by kernel_rfl) ?_
    refine NoPan.thn ?_
    clear hc9 hf9
    clear hg9
    replace HB := Lib.hid (bkeep2 HB.out hb9)
    clear hb9
    go_wp2
    go_ret
    exact ⟨rfl, HB.out⟩
  · have hb' : true = b := by rw [← HBB.out]; simp [hk]
    subst hb'
    have f1 : (u.n.ki == 1) = false := by rw [beq_eq_false_iff_ne]; exact hk
    have f2 : (u.n.ki != 1) = true := by simp [bne, f1]
    have f3 : decide (u.n.ki = 1) = false := decide_eq_false hk
    have HK := Lib.hid hk
    clear hk HBB HLL
    go_upto_region 4 with (fail)
    refine wp_region_grow 18 1 (· < 18) (by kernel_rfl) (by kernel_rfl) rfl ?_
    iterate 18 (refine wpG_step (fun K hK => ?_); first | (refine grow_skip rfl ?_; go_simp; refine hK _ ?_; clear hK K) | (apply Exists.intro; refine ⟨.inl ⟨rfl, fun w' hw' => ?_⟩, ?_⟩; (focus ((obtain ⟨hc, hf⟩ := bcell hw'.out); (have hcS := bcellS hw'.out); go_simp <;> first | rfl | (fail))); (go_simp; refine hK _ ?_; clear hK K)))
    refine wpG_nil ?_
    refine wpK_tail (by kernel_rfl) (fun w8 hg8 => ?_)
    have hb8 := bdrewn hg8.out
    obtain ⟨hc8, hf8⟩ := bcell hb8
    refine wpAny_one (i := 18) (by kernel_rfl) rfl rfl ?_
    go_simp
    refine wpAny_end (by kernel_rfl) ?_
    refine NoPan.thn ?_
    clear hc8 hf8
    clear hg8
    replace HB := Lib.hid (bkeep2 HB.out hb8)
    clear hb8
    go_wp2
    go_ret
    exact ⟨rfl, HB.out⟩
end Go.Proofs.Ytgdkionmeacalab
end
section
namespace Go.Proofs.Ytgdkionmeacalab
open Go.RowKit
set_option linter.unusedVariables false
set_option maxHeartbeats 4000000
attribute [local go_sem] Oper.semAt_some
/-! The way up. -/
def IsUp (L : List Nd) : Int → List Int → Prop
  | p, [] => p = -1
  | p, x :: xs => x = p ∧ 0 ≤ p ∧ ∃ n : Nd, L[p.toNat]? = some n ∧ n.pa < p ∧ -1 ≤ n.pa ∧ IsUp L n.pa xs
theorem IsUp.cons {L : List Nd} {p : Int} {xs : List Int} {n : Nd} (h0 : 0 ≤ p) (hn : L[p.toNat]? = some n) (h1 : n.pa < p) (h2 : -1 ≤ n.pa) (h : IsUp L n.pa xs) : IsUp L p (p :: xs) := by
  unfold IsUp; exact ⟨rfl, h0, n, hn, h1, h2, h⟩
theorem IsUp.nil {L : List Nd} : IsUp L (-1) [] := by unfold IsUp; rfl
theorem tree_nok {L : List Nd} (h : treeB L = true) {k : Nat} {n : Nd} (hn : L[k]? = some n) : ndB n = true ∧ upB k n = true ∧ clB L k n = true := by
  unfold treeB at h
  rw [Bool.and_eq_true] at h
  have hk : k < L.length := (List.getElem?_eq_some_iff.1 hn).1
  have := List.all_eq_true.1 h.2 k (List.mem_range.2 hk)
  rw [nokB_at hn, Bool.and_eq_true, Bool.and_eq_true] at this
  exact this
theorem tree_len {L : List Nd} (h : treeB L = true) : 1 ≤ L.length ∧ L.length ≤ 10 := by
  unfold treeB at h
  rw [Bool.and_eq_true, rng_iff] at h
  omega
theorem up_ex {L : List Nd} (ht : treeB L = true) (k : Nat) : k < L.length → ∃ xs, IsUp L (k : Int) xs ∧ xs.length ≤ k + 1 := by
  induction k using Nat.strongRecOn with
  | ind k ih =>
    intro hk
    obtain ⟨n, hn⟩ : ∃ n, L[k]? = some n := ⟨_, List.getElem?_eq_getElem hk⟩
    obtain ⟨-, hup, -⟩ := tree_nok ht hn
    by_cases h0 : k = 0
    · subst h0
      rw [upB, if_pos rfl] at hup
      have hp := of_decide_eq_true hup
      exact ⟨[((0 : Nat) : Int)], IsUp.cons (by omega) (by simpa using hn) (by omega) (by omega) (by rw [hp]; exact IsUp.nil), by simp⟩
    · rw [upB, if_neg h0, rng_iff] at hup
      obtain ⟨m, hm⟩ := Int.eq_ofNat_of_zero_le hup.1
      obtain ⟨xs, h1, h2⟩ := ih m (by omega) (by omega)
      exact ⟨(k : Int) :: xs, IsUp.cons (by omega) (by simpa using hn) (by omega) (by omega) (by rw [hm]; exact h1), by simp; omega⟩
/-- what a round must keep: the two variables of the iterator, and the nodes -/
def KU (Bi Bt b : Nat) (X Y : World) : Prop := Y.heap[Bi]? = X.heap[Bi]? ∧ Y.heap[Bt]? = X.heap[Bt]? ∧ Y.heap[b]? = X.heap[b]?
theorem KU.trans {Bi Bt b : Nat} {A B C : World} (h : KU Bi Bt b A B) (k : KU Bi Bt b B C) : KU Bi Bt b A C := ⟨k.1.trans h.1, k.2.1.trans h.2.1, k.2.2.trans h.2.2⟩
theorem KU.of {Bi Bt b n0 : Nat} {A B : World} (h : Below n0 A B) (h1 : Bi < n0) (h2 : Bt < n0) (h3 : b < n0) : KU Bi Bt b A B := ⟨h.block _ h1, h.block _ h2, h.block _ h3⟩
/-- the iterator's variables and the nodes -/
structure UpAt (W : World) (Bi Bt b off len c : Nat) (i : Int) (R : List Nr) : Prop where
  hi : W.cell? ⟨Bi, 0, none⟩ = some (.int .i64 i)
  ht : W.cell? ⟨Bt, 0, none⟩ = some (.slice (some ⟨b, off, none⟩) len c)
  hn : ∀ (k : Nat) (p : Nr), R[k]? = some p → W.rangeAt b (off + k * 34) (valsNr p)
theorem UpAt.keep {W W' : World} {Bi Bt b off len c : Nat} {i : Int} {R : List Nr} (h : UpAt W Bi Bt b off len c i R) (hk : KU Bi Bt b W W') : UpAt W' Bi Bt b off len c i R :=
  ⟨(World.cell?_of_block (a := ⟨Bi, 0, none⟩) hk.1).trans h.hi, (World.cell?_of_block (a := ⟨Bt, 0, none⟩) hk.2.1).trans h.ht, fun k p hp => rangeB (h.hn k p hp) hk.2.2⟩
set_option maxRecDepth 100000 in
theorem up1_in (F : Fence) (n : Nat) (hF : F.fn 51) (hro : F.round = none) (hn : 1 ≤ n) (l Bi Bt b off len c : Nat) (R : List Nr) (i : Int) (xs : List Int) (hlen : len = R.length) (hL : R.length ≤ 1048576) (hup : IsUp (R.map Nr.n) i xs) (J Jx : List Int → World → Prop)
    (hY : ∀ pre x W, J pre W → pre.length < xs.length → YieldAt F (n - 1) Try.prog l #[.int .i64 x] W fun e W' =>
      (e = .returned (.bool true) ∧ J (pre ++ [x]) W' ∧ KU Bi Bt b W W') ∨ (e = .returned (.bool false) ∧ Jx (pre ++ [x]) W'))
    (W : World) (hu : UpAt W Bi Bt b off len c i R) (h0 : J [] W) :
    CallsIn F n Try.prog 51 #[.func (.yield l) #[] #[], .pointer (some ⟨Bi, 0, none⟩), .pointer (some ⟨Bt, 0, none⟩)] W fun e W' => (∃ v, e = .returned v) ∧
      ((∃ ys, ys = xs ∧ J ys W') ∨ (∃ pre, True ∧ Jx pre W')) := by
  have hci := hu.hi
  have HU := Lib.hid hu
  have HUP := Lib.hid hup
  clear hu hup
  refine callsIn_of_wp Try.func51 rfl hF ?_ hro
  simp only [Try.ntmps51, List.size_toArray, List.length_cons, List.length_nil, Nat.reduceAdd, Nat.reduceSub, Array.replicate_succ, Array.replicate_zero, List.push_toArray, List.append_toArray, List.nil_append, List.cons_append]
  gi_wp2
  clear hci
  gi_loopw [4] (fun p wr => ∃ (pre rest : List Int) (q : Int), p = .int .i64 q ∧ xs = pre ++ rest ∧ IsUp (R.map Nr.n) q rest ∧ KU Bi Bt b W wr ∧ J pre wr) (fun p _ => (intOf p + 1).toNat)
  case atStart => exact ⟨[], xs, i, rfl, rfl, HUP.out, ⟨rfl, rfl, rfl⟩, h0⟩
  case round =>
    obtain ⟨pre, rest, q, rfl, hx, hl, hK, hJs⟩ := hrel
    cases rest with
    | nil =>
      obtain rfl : q = -1 := hl
      have HXX := Lib.hid hx
      clear hx
      gi_wp2
      go_end0
      exact ⟨⟨_, rfl⟩, .inl ⟨pre, by have := HXX.out; simp at this; exact this.symm, hJs⟩⟩
    | cons x rest =>
      obtain ⟨rfl, h0q, nd, hnd, hlt, hge, hr⟩ := hl
      obtain ⟨k, rfl⟩ := Int.eq_ofNat_of_zero_le h0q
      rw [Int.toNat_natCast, List.getElem?_map] at hnd
      obtain ⟨p, hp, rfl⟩ := Option.map_eq_some_iff.1 hnd
      have hkl : k < R.length := (List.getElem?_eq_some_iff.1 hp).1
      have hkl' : (k : Int) < (len : Int) := by omega
      have hne : (((k : Nat) : Int) != -1) = true := by rw [bne_iff_ne]; omega
      have hlx : pre.length < xs.length := by rw [hx]; simp
      obtain ⟨fn, tmps, assign, body, hy, hR⟩ := hY pre (k : Int) wr hJs hlx
      have HXX := Lib.hid hx
      have HP := Lib.hid hp
      have HK := Lib.hid hK
      have HRR := Lib.hid hr
      obtain ⟨z, hz⟩ : ∃ z, p.n.pa = z := ⟨_, rfl⟩
      have HZ := Lib.hid hz
      rw [hz] at hlt hge
      clear hx hp hK hr hnd hz
      gi_wp2
      refine hR.mono ?_
      rintro e W3 (⟨rfl, hJ3, hk3⟩ | ⟨rfl, hJx3⟩)
      · have hu3 := (HU.out.keep HK.out).keep hk3
        have ct := hu3.ht
        have cp : W3.cell? ⟨b, off + k * 34, none⟩ = some (.int .i64 p.n.pa) := hu3.hn k p HP.out 0 _ rfl
        rw [HZ.out] at cp
        have HK3 := Lib.hid (KU.trans HK.out hk3)
        clear hu3 hk3
        gi_wp2
        go_roundw
        case rel => exact ⟨pre ++ [(k : Int)], rest, z, rfl, by rw [HXX.out]; simp, by have := HRR.out; rwa [HZ.out] at this, HK3.out, hJ3⟩
        case measure => simp [intOf]; omega
      · gi_wp2
        refine bodyPost_ret (results_none rfl _ _ _) rfl ?_
        exact ⟨⟨_, rfl⟩, .inr ⟨_, trivial, hJx3⟩⟩
theorem up_stops (F : Fence) (n : Nat) (hF : F.fn 51) (hro : F.round = none) (hn : 1 ≤ n) (Bi Bt b off len c : Nat) (R : List Nr) (i : Int) (xs : List Int) (hlen : len = R.length) (hL : R.length ≤ 1048576) (hup : IsUp (R.map Nr.n) i xs) (w : World) (hBi : Bi < w.heap.size) (hBt : Bt < w.heap.size) (hb : b < w.heap.size) (hu : UpAt w Bi Bt b off len c i R) :
    SeqStopsK F n Try.prog 51 #[.pointer (some ⟨Bi, 0, none⟩), .pointer (some ⟨Bt, 0, none⟩)] (fun x : Int => #[Value.int .i64 x]) (KU Bi Bt b) (fun ys => ys = xs) (fun _ => True) xs.length w := fun l J Jx W hW _ _ hY h0 =>
  up1_in F n hF hro hn l Bi Bt b off len c R i xs hlen hL hup J Jx hY W (hu.keep (KU.of hW hBi hBt hb)) h0
set_option maxRecDepth 100000 in
theorem upFrom_v (A : Option Addr) (m c : Nat) (i : Int) (w : World) :
    Calls Try.prog 33 #[.agg #[.slice A m c], .int .i64 i] w fun e w' => e = .returned (.func (.func 51) #[] #[.pointer (some ⟨w.heap.size + 1, 0, none⟩), .pointer (some ⟨w.heap.size, 0, none⟩)]) ∧ w' = (w.alloc (.cells #[.slice A m c] 25)).alloc (.cells #[.int .i64 i] 3) := by
  go_enter Try.func33, Try.ntmps33
  go_wp2
  go_ret
  exact ⟨rfl, rfl⟩
set_option maxRecDepth 100000 in
theorem appendSeq_up (Bi Bt b off len c : Nat) (R : List Nr) (i : Int) (xs : List Int) (hlen : len = R.length) (hL : R.length ≤ 1048576) (hup : IsUp (R.map Nr.n) i xs) (hxl : xs.length ≤ 20) (w : World) (hBi : Bi < w.heap.size) (hBt : Bt < w.heap.size) (hb : b < w.heap.size) (hu : UpAt w Bi Bt b off len c i R) :
    Calls Try.prog 50 #[.slice none 0 0, .func (.func 51) #[] #[.pointer (some ⟨Bi, 0, none⟩), .pointer (some ⟨Bt, 0, none⟩)]] w fun e W' => (∃ v, e = .returned v ∧ W'.ownsRow w.heap.size 3 1 v xs.length (nvalsW xs)) ∧ Below w.heap.size w W' := by
  obtain ⟨ti, tz, ti1, ti2, ti3, ti4, ti5⟩ := int_infoW
  refine (callsIn_wide (n := 6)).1 ?_
  refine callsIn_of_wp_marks Try.func50 rfl trivial ?_ rfl
  simp only [Try.ntmps50, List.size_toArray, List.length_cons, List.length_nil, Nat.reduceAdd, Nat.reduceSub, Array.replicate_succ, Array.replicate_zero, List.push_toArray, List.append_toArray, List.nil_append, List.cons_append]
  have HU := Lib.hid hu
  clear hu
  gi_wp2
  have bO := Boxed.new w 46 (.slice none 0 0)
  have hB0 : Below w.heap.size w (w.alloc (.cells #[.slice none 0 0] 46)) := (Below.refl _ w).alloc (Nat.le_refl _) _
  have hsz : (w.alloc (.cells #[.slice none 0 0] 46)).heap.size = w.heap.size + 1 := by simp
  obtain ⟨W0, hW0⟩ : ∃ W0, w.alloc (.cells #[.slice none 0 0] 46) = W0 := ⟨_, rfl⟩
  rw [hW0] at bO hB0 hsz ⊢
  clear hW0
  refine wpIn_rangeFunc_ownG rfl (by omega) (gf := 51) (lb := #[.pointer (some ⟨Bi, 0, none⟩), .pointer (some ⟨Bt, 0, none⟩)]) rfl trivial (enters_of Try.func51 (by kernel_rfl) rfl)
    (up_stops Fence.wide _ trivial rfl (by omega) Bi Bt b off len c R i xs hlen hL hup W0 (by omega) (by omega) (by omega) (HU.out.keep (KU.of hB0 hBi hBt hb))) KU.trans
    (fun W l o o' hl ho hc hw => ⟨World.putObj_heap_other (by omega), World.putObj_heap_other (by omega), World.putObj_heap_other (by omega)⟩) (Below.refl _ _) (fun _ => rfl)
    (fun pre W => (∃ v, Boxed W w.heap.size 46 v ∧ W.ownsRow w.heap.size 3 1 v pre.length (nvalsW pre) ∧ True) ∧ Below w.heap.size w W)
    (fun _ _ _ => False)
    (OwnFrom.and (Own.from (holdsRow_own w.heap.size w.heap.size 46 3 1 (fun pre : List Int => pre.length) (fun pre => nvalsW pre) (fun _ _ => True)) _) (ownFrom_below (Nat.le_refl _) (by omega)))
    (fun _ _ _ _ _ hs _ _ => hs)
    ⟨⟨_, bO, World.ownsRow_nil _ _ _ _, trivial⟩, hB0⟩
    (fun x => { tmps := #[.slice none 0 0, .func (.func 51) #[] #[.pointer (some ⟨Bi, 0, none⟩), .pointer (some ⟨Bt, 0, none⟩)], .pointer (some ⟨w.heap.size, 0, none⟩), undef, .slice none 0 0, .int .i64 x, .func (.func 51) #[] #[.pointer (some ⟨Bi, 0, none⟩), .pointer (some ⟨Bt, 0, none⟩)], .int .i64 x, undef, undef, undef, undef, undef], defers := [] }) ?assign ?body ?done ?stop
  case assign =>
    intro l x W K hK
    gi_wp2
    exact hK
  case body =>
    rintro l pre x W ⟨⟨v, hv, hrow, -⟩, hB⟩ hlt
    have hc := hv.cell
    have hws := hB.size
    gi_wp2_with (gi_at_builtin; refine wpListIn_append_own _ rfl _ _ 46 rfl w.heap.size 3 ti tz 1 8 Try.underlying46 ti1 ti2 ti3 ti4 ti5 (by decide) _ _ _ rfl (hrow.alloc _) ⟨W.heap.size, 0, none⟩ 1 1 [.int .i64 x] rfl rfl (newW _ _ _) (by simp [Value.oneCell']) (by simp only [maxLen]; omega) (by omega) (by simp; omega) ?_; intro v' w1 hown' hgrow _; obtain ⟨g', cap', rfl⟩ := ownsRow_succ hown'; obtain ⟨hv1, hv2, hr2, hk2, hb2⟩ := hv.appended (by decide) hrow hB.size (Nat.le_refl _) hown' hgrow; have hc1 := hv1.cell; have hf1 := hv1.frozen)
    refine ⟨hk2.from _, KU.of hb2 hBi hBt hb, ⟨_, hv2, by rw [← nvalsW_snoc]; simpa using hr2, trivial⟩, hB.trans hb2⟩
  case done =>
    rintro D ys W hD rfl ⟨⟨v, hv, hrow, -⟩, hB⟩ hK
    have hc := hv.cell
    gi_wp2
    refine ⟨by simp, .inl ⟨_, _, rfl, run_takeDeferred hK, ?_⟩⟩
    exact ⟨_, results_tmp rfl _ _ _, ⟨v, rfl, ownsRow_putObj hrow _ hK rfl⟩, hB.trans (belowK_b (w := w) (Nat.le_refl _) W D _ _ (by omega) hK rfl rfl)⟩
  case stop =>
    rintro D c pre W _ _ h _
    exact h.elim
set_option maxRecDepth 100000 in
theorem collect_up (Bi Bt b off len c : Nat) (R : List Nr) (i : Int) (xs : List Int) (hlen : len = R.length) (hL : R.length ≤ 1048576) (hup : IsUp (R.map Nr.n) i xs) (hxl : xs.length ≤ 20) (w : World) (hBi : Bi < w.heap.size) (hBt : Bt < w.heap.size) (hb : b < w.heap.size) (hu : UpAt w Bi Bt b off len c i R) :
    Calls Try.prog 32 #[.func (.func 51) #[] #[.pointer (some ⟨Bi, 0, none⟩), .pointer (some ⟨Bt, 0, none⟩)]] w fun e W' => (∃ v, e = .returned v ∧ W'.ownsRow w.heap.size 3 1 v xs.length (nvalsW xs)) ∧ Below w.heap.size w W' := by
  have HU := Lib.hid hu
  clear hu
  go_enter Try.func32, Try.ntmps32
  go_wp2_with fail
  with_reducible refine (appendSeq_up Bi Bt b off len c R i xs hlen hL hup hxl _ hBi hBt hb HU.out).mono ?_
  rintro e w1 ⟨⟨v, rfl, ho⟩, hb1⟩
  go_wp2
  go_ret
  exact ⟨⟨_, rfl, ho⟩, hb1⟩
end Go.Proofs.Ytgdkionmeacalab
end
section
namespace Go.Proofs.Ytgdkionmeacalab
open Go.RowKit
set_option linter.unusedVariables false
set_option maxHeartbeats 8000000
/-- a marked widget -/
def mkB (z : Int) : Bool := z % 3 == 0
def mkN (z : Int) (p : Nr) : Nr :=
  let y := z + 5 + 2 * p.n.cs.length + 2 * p.n.rs.length
  ⟨⟨z, z + 1, z + 2, mkB (z + 3), z + 4, p.n.cs, p.n.rs, ⟨y, y + 1, y + 2, mkB (y + 3), mkB (y + 4), mkB (y + 5), y + 6, y + 7, y + 8⟩, ⟨y + 9, y + 10, y + 11, y + 12, y + 13, y + 14, y + 15, y + 16, y + 17⟩, ⟨y + 18, y + 19, y + 20, y + 21, y + 22, y + 23, y + 24, y + 25, y + 26⟩⟩, p.ca, p.cc, p.ra, p.rc⟩
def mkW (p : Nr) : Int := 32 + 2 * p.n.cs.length + 2 * p.n.rs.length
def mkS : List Nr → Int
  | [] => 0
  | p :: t => mkW p + mkS t
theorem mkS_nn : ∀ R, 0 ≤ mkS R
  | [] => Int.le_refl _
  | p :: t => by have := mkS_nn t; simp only [mkS, mkW]; omega
theorem mkS_take : ∀ {R : List Nr} {k : Nat} {p : Nr}, R[k]? = some p → mkS (R.take (k + 1)) = mkS (R.take k) + mkW p
  | q :: t, 0, p, h => by simp at h; subst h; simp [mkS]
  | q :: t, k + 1, p, h => by
    simp only [List.getElem?_cons_succ] at h
    simp only [List.take_succ_cons, mkS, mkS_take h]
    omega
  | [], k, p, h => by simp at h
theorem mkS_le : ∀ (R : List Nr) (k : Nat), mkS (R.take k) ≤ mkS R
  | [], k => by simp [mkS]
  | q :: t, 0 => by have := mkS_nn (q :: t); simpa [mkS] using this
  | q :: t, k + 1 => by have := mkS_le t k; simp only [List.take_succ_cons, mkS]; omega
/-- a world that has changed in the blocks from lo up to hi alone -/
structure Wi (lo hi : Nat) (w w' : World) : Prop where
  os : w'.os = w.os
  tape : w'.tape = w.tape
  output : w'.output = w.output
  size : w.heap.size ≤ w'.heap.size
  block : ∀ k, k < w.heap.size → ¬ (lo ≤ k ∧ k < hi) → w'.heap[k]? = w.heap[k]?
theorem Wi.refl (lo hi : Nat) (w : World) : Wi lo hi w w := ⟨rfl, rfl, rfl, Nat.le_refl _, fun _ _ _ => rfl⟩
theorem Wi.grown {lo hi g : Nat} {a w w' : World} (h : Wi lo hi a w) (hg : w.grownBy w' (some g)) (hb : (lo ≤ g ∧ g < hi) ∨ a.heap.size ≤ g) : Wi lo hi a w' :=
  ⟨hg.os.trans h.os, hg.tape.trans h.tape, hg.output.trans h.output, Nat.le_trans h.size hg.size, fun k hk hn => by
    have hne : k ≠ g := by rintro rfl; rcases hb with hb | hb <;> omega
    exact (hg.block k (Nat.lt_of_lt_of_le hk h.size) (fun e => hne (Option.some.inj e))).trans (h.block k hk hn)⟩
theorem Wi.set {lo hi g o : Nat} {a w : World} (h : Wi lo hi a w) (hb : lo ≤ g ∧ g < hi) (v : Value) : Wi lo hi a (w.setCell ⟨g, o, none⟩ v) := h.grown (gsetS (greflS w g) o v) (.inl hb)
theorem Wi.below {lo hi : Nat} {a w w' : World} (h : Wi lo hi a w) (hb : Below w.heap.size w w') : Wi lo hi a w' :=
  ⟨hb.os.trans h.os, hb.tape.trans h.tape, hb.output.trans h.output, Nat.le_trans h.size hb.size, fun k hk hn => (hb.block k (Nat.lt_of_lt_of_le hk h.size)).trans (h.block k hk hn)⟩
theorem Wi.toBelow {lo hi : Nat} {a w : World} (h : Wi lo hi a w) {B : Nat} (hB : B ≤ lo) (hs : B ≤ a.heap.size) : Below B a w :=
  ⟨h.os, h.tape, h.output, h.size, fun k hk => h.block k (by omega) (by omega)⟩
/-- the state in the midst of marking the widget k: l are its first cells -/
def MidN (w : World) (g n k : Nat) (cs0 : Array Value) (l : List Value) (s5 s6 : Value) : Prop :=
  ∃ cs : Array Value, w.heap[g]? = some (.cells cs 39 (0, 0)) ∧ cs.size = n * 34 ∧ (∀ i, i < k * 34 ∨ (k + 1) * 34 ≤ i → cs[i]? = cs0[i]?) ∧ InS cs (k * 34) l ∧ cs[k * 34 + 5]? = some s5 ∧ cs[k * 34 + 6]? = some s6
theorem MidN.put {w : World} {g n k : Nat} {cs0 : Array Value} {l : List Value} {s5 s6 : Value} (h : MidN w g n k cs0 l s5 s6) (hk : k < n) (j : Nat) (hj : j = l.length) (hj34 : j < 34) (h5 : j ≠ 5) (h6 : j ≠ 6) (v : Value) : MidN (w.setCell ⟨g, k * 34 + j, none⟩ v) g n k cs0 (l ++ [v]) s5 s6 := by
  subst hj
  obtain ⟨cs, hh, hs, ho, hl, e5, e6⟩ := h
  have hsz : k * 34 + l.length < cs.size := by omega
  refine ⟨_, putS hh v, by simpa using hs, fun i hi => ?_, fun j u hu => ?_, ?_, ?_⟩
  · rw [Array.getElem?_setIfInBounds_ne (by omega)]; exact ho i hi
  · by_cases hj : j < l.length
    · rw [List.getElem?_append_left hj] at hu
      rw [Array.getElem?_setIfInBounds_ne (by omega)]; exact hl j u hu
    · rw [List.getElem?_append_right (by omega)] at hu
      have hj1 := (List.getElem?_eq_some_iff.1 hu).1
      simp at hj1
      obtain rfl : j = l.length := by omega
      simp at hu
      subst hu
      rw [Array.getElem?_setIfInBounds_self_of_lt hsz]
  · rw [Array.getElem?_setIfInBounds_ne (by omega)]; exact e5
  · rw [Array.getElem?_setIfInBounds_ne (by omega)]; exact e6
theorem MidN.two {w : World} {g n k : Nat} {cs0 : Array Value} {l : List Value} {s5 s6 : Value} (h : MidN w g n k cs0 l s5 s6) (hl : l.length = 5) : MidN w g n k cs0 (l ++ [s5, s6]) s5 s6 := by
  obtain ⟨cs, hh, hs, ho, hi, e5, e6⟩ := h
  refine ⟨cs, hh, hs, ho, fun j u hu => ?_, e5, e6⟩
  by_cases hj : j < l.length
  · rw [List.getElem?_append_left hj] at hu; exact hi j u hu
  · rw [List.getElem?_append_right (by omega), hl] at hu
    have hj1 := (List.getElem?_eq_some_iff.1 hu).1
    simp at hj1
    have hj2 : j = 5 ∨ j = 6 := by omega
    rcases hj2 with rfl | rfl
    · simp at hu; subst hu; exact e5
    · simp at hu; subst hu; exact e6
theorem MidN.keep {w w' : World} {g n k : Nat} {cs0 : Array Value} {l : List Value} {s5 s6 : Value} (h : MidN w g n k cs0 l s5 s6) (hb : w'.heap[g]? = w.heap[g]?) : MidN w' g n k cs0 l s5 s6 := by
  obtain ⟨cs, hh, r⟩ := h
  exact ⟨cs, hb.trans hh, r⟩
theorem MidN.cell {w : World} {g n k : Nat} {cs0 : Array Value} {l : List Value} {s5 s6 : Value} (h : MidN w g n k cs0 l s5 s6) (hk : k < n) {j : Nat} (hj : j < 34) : ∃ v, w.cell? ⟨g, k * 34 + j, none⟩ = some v := by
  obtain ⟨cs, hh, hs, _⟩ := h
  exact thereS hh (by omega)
theorem MidN.cell0 {w : World} {g n k : Nat} {cs0 : Array Value} {l : List Value} {s5 s6 : Value} (h : MidN w g n k cs0 l s5 s6) (hk : k < n) : ∃ v, w.cell? ⟨g, k * 34, none⟩ = some v := h.cell hk (j := 0) (by omega)
theorem MidN.frz {w : World} {g n k : Nat} {cs0 : Array Value} {l : List Value} {s5 s6 : Value} (h : MidN w g n k cs0 l s5 s6) (i : Nat) : w.frozen? ⟨g, i, none⟩ = false := by
  obtain ⟨cs, hh, _⟩ := h
  exact frozenS hh i
theorem MidN.c5 {w : World} {g n k : Nat} {cs0 : Array Value} {l : List Value} {s5 s6 : Value} (h : MidN w g n k cs0 l s5 s6) : w.cell? ⟨g, k * 34 + 5, none⟩ = some s5 ∧ w.cell? ⟨g, k * 34 + 6, none⟩ = some s6 := by
  obtain ⟨cs, hh, _, _, _, e5, e6⟩ := h
  exact ⟨(cellS hh _).trans e5, (cellS hh _).trans e6⟩
theorem MidN.lt {w : World} {g n k : Nat} {cs0 : Array Value} {l : List Value} {s5 s6 : Value} (h : MidN w g n k cs0 l s5 s6) : g < w.heap.size := by
  obtain ⟨cs, hh, _⟩ := h
  exact ltS hh
theorem MidN.start {w : World} {g n k : Nat} {cs : Array Value} {p : Nr} (hh : w.heap[g]? = some (.cells cs 39 (0, 0))) (hs : cs.size = n * 34) (hi : InS cs (k * 34) (valsNr p)) : MidN w g n k cs [] (.slice p.ca p.n.cs.length p.cc) (.slice p.ra p.n.rs.length p.rc) :=
  ⟨cs, hh, hs, fun _ _ => rfl, fun j u hu => by simp at hu, hi 5 _ rfl, hi 6 _ rfl⟩
end Go.Proofs.Ytgdkionmeacalab
end
section
namespace Go.Proofs.Ytgdkionmeacalab
open Go.RowKit
set_option linter.unusedVariables false
theorem gd_ne {tm : Array Value} {i j : Nat} {v d : Value} (h : i ≠ j) : (tm.setIfInBounds i v).getD j d = tm.getD j d := by
  simp [Array.getD_eq_getD_getElem?, Array.getElem?_setIfInBounds_ne h]
theorem gd_eq {tm : Array Value} {i : Nat} {v d : Value} (h : i < tm.size) : (tm.setIfInBounds i v).getD i d = v := by
  simp [Array.getD_eq_getD_getElem?, Array.getElem?_setIfInBounds_self_of_lt h]
theorem gd_if {tm : Array Value} {i j : Nat} {v d : Value} (h : i < tm.size) : (tm.setIfInBounds i v).getD j d = if i = j then v else tm.getD j d := by
  split
  · rename_i e; subst e; exact gd_eq h
  · rename_i e; exact gd_ne e
/-- a call, over a frame of which the arguments and the size alone are known -/
theorem calls_abs {P : Program} {f : FuncId} {fn : Func} {c : Code} {args : Array Value} {w : World} {R : Ending → World → Prop} (hf : P.funcs[f]? = some fn) (hb : fn.body = some c) (N : Nat) (hN : fn.ntmps = N) (hle : args.size ≤ N)
    (h : ∀ tm : Array Value, tm.size = N → (∀ i v, args[i]? = some v → tm.getD i undef = v) → c.wp P (bodyPost P fn R) ⟨tm, []⟩ w) : Calls P f args w R := by
  refine calls_of_wp hf hb (h _ ?_ ?_)
  · simp [hN]; omega
  · intro i v hi
    have hlt := (Array.getElem?_eq_some_iff.1 hi).1
    rw [Array.getD_eq_getD_getElem?, Array.getElem?_append_left hlt, hi]
    rfl
theorem get_of {tm : Array Value} {i : Nat} {v d : Value} (h : i < tm.size) (e : tm.getD i d = v) : tm[i]? = some v := by
  rw [Array.getD_eq_getD_getElem?, Array.getElem?_eq_getElem h] at e
  rw [Array.getElem?_eq_getElem h]; simpa using e
theorem wp_seq_h {P : Program} {Q : Exit → Act → World → Prop} {a : Act} {w : World} {x y : Code} (h : ∀ K : Act → World → Prop, Hid (∀ a w, y.wp P Q a w → K a w) → x.wp P (Exit.then K Q) a w) : (Code.seq x y).wp P Q a w := wp_seq_k fun K hK => h K (Lib.hid hK)
theorem wp_abw {P : Program} {Q : Exit → Act → World → Prop} {tm : Array Value} {w : World} {c : Code} (F : Array Value → World → Prop) (hF : F tm w) (h : ∀ t W, F t W → c.wp P Q ⟨t, []⟩ W) : c.wp P Q ⟨tm, []⟩ w := h tm w hF
end Go.Proofs.Ytgdkionmeacalab
end
section
namespace Go.Proofs.Ytgdkionmeacalab
open Go.RowKit
set_option linter.unusedVariables false
set_option maxHeartbeats 16000000
/-- a block of widgets whose slices stand -/
def NodS (w : World) (g : Nat) (S : List Nr) : Prop := ∃ cs : Array Value, w.heap[g]? = some (.cells cs 39 (0, 0)) ∧ cs.size = S.length * 34 ∧ ∀ i q, S[i]? = some q → cs[i * 34 + 5]? = some (.slice q.ca q.n.cs.length q.cc) ∧ cs[i * 34 + 6]? = some (.slice q.ra q.n.rs.length q.rc)
theorem NodS.of {w : World} {g : Nat} {S : List Nr} (h : NrB w g S) : NodS w g S := by
  obtain ⟨cs, hh, hs, hc⟩ := h
  exact ⟨cs, hh, hs, fun i q hq => ⟨hc i q hq 5 _ rfl, hc i q hq 6 _ rfl⟩⟩
theorem NodS.lt {w : World} {g : Nat} {S : List Nr} (h : NodS w g S) : g < w.heap.size := by obtain ⟨cs, hh, _⟩ := h; exact ltS hh
theorem NodS.keep {w w' : World} {g : Nat} {S : List Nr} (h : NodS w g S) (hb : w'.heap[g]? = w.heap[g]?) : NodS w' g S := by
  obtain ⟨cs, hh, r⟩ := h
  exact ⟨cs, hb.trans hh, r⟩
theorem NodS.put {w : World} {g : Nat} {S : List Nr} (h : NodS w g S) (k j : Nat) (hj : j < 34) (h5 : j ≠ 5) (h6 : j ≠ 6) (v : Value) : NodS (w.setCell ⟨g, k * 34 + j, none⟩ v) g S := by
  obtain ⟨cs, hh, hs, hc⟩ := h
  refine ⟨_, putS hh v, by simpa using hs, fun i q hq => ?_⟩
  obtain ⟨e5, e6⟩ := hc i q hq
  rw [Array.getElem?_setIfInBounds_ne (by omega), Array.getElem?_setIfInBounds_ne (by omega)]
  exact ⟨e5, e6⟩
theorem NodS.put0 {w : World} {g : Nat} {S : List Nr} (h : NodS w g S) (k : Nat) (v : Value) : NodS (w.setCell ⟨g, k * 34, none⟩ v) g S := by
  have := h.put k 0 (by omega) (by omega) (by omega) v
  simpa only [Nat.add_zero] using this
theorem NodS.cell {w : World} {g : Nat} {S : List Nr} (h : NodS w g S) {k j : Nat} (hk : k < S.length) (hj : j < 34) : ∃ v, w.cell? ⟨g, k * 34 + j, none⟩ = some v := by
  obtain ⟨cs, hh, hs, _⟩ := h
  exact thereS hh (by omega)
theorem NodS.cell0 {w : World} {g : Nat} {S : List Nr} (h : NodS w g S) {k : Nat} (hk : k < S.length) : ∃ v, w.cell? ⟨g, k * 34, none⟩ = some v := by
  have := h.cell hk (j := 0) (by omega)
  simpa only [Nat.add_zero] using this
theorem NodS.frz {w : World} {g : Nat} {S : List Nr} (h : NodS w g S) (i : Nat) : w.frozen? ⟨g, i, none⟩ = false := by
  obtain ⟨cs, hh, _⟩ := h
  exact frozenS hh i
theorem NodS.sl {w : World} {g : Nat} {S : List Nr} (h : NodS w g S) {k : Nat} {q : Nr} (hq : S[k]? = some q) : w.cell? ⟨g, k * 34 + 5, none⟩ = some (.slice q.ca q.n.cs.length q.cc) ∧ w.cell? ⟨g, k * 34 + 6, none⟩ = some (.slice q.ra q.n.rs.length q.rc) := by
  obtain ⟨cs, hh, _, hc⟩ := h
  exact ⟨(cellS hh _).trans (hc k q hq).1, (cellS hh _).trans (hc k q hq).2⟩
/-- the lines of the widgets from k on stand in blocks of their own -/
def LnsS (w : World) (g hi k : Nat) (S : List Nr) : Prop := ∀ i q, k ≤ i → S[i]? = some q → ∃ g1 g2, q.ca = some ⟨g1, 0, none⟩ ∧ q.cc = q.n.cs.length ∧ q.ra = some ⟨g2, 0, none⟩ ∧ q.rc = q.n.rs.length ∧ g < g1 ∧ g1 < g2 ∧ g2 < hi ∧ LnB w g1 q.n.cs ∧ LnB w g2 q.n.rs
def ApS (S : List Nr) : Prop := ∀ (i j : Nat) (q r : Nr), i < j → S[i]? = some q → S[j]? = some r → ∀ a b : Addr, (q.ca = some a ∨ q.ra = some a) → (r.ca = some b ∨ r.ra = some b) → a.block < b.block
theorem LnsS.of {g hi : Nat} {w : World} {R S : List Nr} (h : CpR (g + 1) w R S) (hs : w.heap.size ≤ hi) : LnsS w g hi 0 S := fun i q _ hq => by
  have hi' := (List.getElem?_eq_some_iff.1 hq).1
  rw [h.len] at hi'
  obtain ⟨g1, g2, rfl, h1, h2, h3, h4⟩ := h.each i _ q (List.getElem?_eq_getElem hi') hq
  have l4 := h4.lt
  exact ⟨g1, g2, rfl, rfl, rfl, rfl, by omega, h2, by omega, h3, h4⟩
theorem LnsS.put {w : World} {g hi k : Nat} {S : List Nr} (h : LnsS w g hi k S) (o : Nat) (v : Value) : LnsS (w.setCell ⟨g, o, none⟩ v) g hi k S := fun i q hk hq => by
  obtain ⟨g1, g2, e1, e2, e3, e4, h1, h2, h3, h4, h5⟩ := h i q hk hq
  exact ⟨g1, g2, e1, e2, e3, e4, h1, h2, h3, h4.but (gsetS (greflS w g) o v) (by omega), h5.but (gsetS (greflS w g) o v) (by omega)⟩
theorem LnsS.mark {w w' : World} {g hi k : Nat} {S : List Nr} {q : Nr} {a : Addr} (h : LnsS w g hi k S) (ha : ApS S) (hq : S[k]? = some q) (hqa : q.ca = some a ∨ q.ra = some a) (hg : w.grownBy w' (some a.block)) : LnsS w' g hi (k + 1) S := fun i r hk hr => by
  obtain ⟨g1, g2, e1, e2, e3, e4, h1, h2, h3, h4, h5⟩ := h i r (by omega) hr
  have b1 := ha k i q r (by omega) hq hr a _ hqa (.inl e1)
  have b2 := ha k i q r (by omega) hq hr a _ hqa (.inr e3)
  dsimp only at b1 b2
  exact ⟨g1, g2, e1, e2, e3, e4, h1, h2, h3, h4.but hg (by omega), h5.but hg (by omega)⟩
theorem mkS_bd (R : List Nr) : mkS R ≤ 32 * R.length + 2 * szL R := by
  induction R with
  | nil => simp [mkS, szL]
  | cons p t ih => simp only [mkS, mkW, szL, List.length_cons]; omega
/-- the frame: the slots that are read again -/
structure FmN (t : Array Value) (g n c k : Nat) (z : Int) : Prop where
  size : t.size = 286
  t0 : t[0]? = some (.slice (some ⟨g, 0, none⟩) n c)
  t1 : t[1]? = some (.int .i64 z)
  t5 : t[5]? = some (.int .i64 k)
/-- the state within a round -/
structure StN (w W : World) (g hi k j : Nat) (S : List Nr) (q : Nr) (g1 g2 : Nat) (b1 b2 : Bool) : Prop where
  s : NodS W g S
  l : LnsS W g hi j S
  i : Wi g hi w W
  c : b1 = true → LnB W g1 q.n.cs
  r : b2 = true → LnB W g2 q.n.rs
theorem StN.put {w W : World} {g hi k j' : Nat} {S : List Nr} {q : Nr} {g1 g2 : Nat} {b1 b2 : Bool} (h : StN w W g hi k j' S q g1 g2 b1 b2) (hg : g < g1 ∧ g1 < g2 ∧ g2 < hi) (j : Nat) (hj : j < 34) (h5 : j ≠ 5) (h6 : j ≠ 6) (v : Value) : StN w (W.setCell ⟨g, k * 34 + j, none⟩ v) g hi k j' S q g1 g2 b1 b2 :=
  ⟨h.s.put k j hj h5 h6 v, h.l.put _ _, h.i.set ⟨Nat.le_refl _, by omega⟩ _, fun e => (h.c e).but (gsetS (greflS _ g) _ _) (by omega), fun e => (h.r e).but (gsetS (greflS _ g) _ _) (by omega)⟩
theorem StN.put0 {w W : World} {g hi k j' : Nat} {S : List Nr} {q : Nr} {g1 g2 : Nat} {b1 b2 : Bool} (h : StN w W g hi k j' S q g1 g2 b1 b2) (hg : g < g1 ∧ g1 < g2 ∧ g2 < hi) (v : Value) : StN w (W.setCell ⟨g, k * 34, none⟩ v) g hi k j' S q g1 g2 b1 b2 := by
  have := h.put hg 0 (by omega) (by omega) (by omega) v
  simpa only [Nat.add_zero] using this
end Go.Proofs.Ytgdkionmeacalab
end
section
namespace Go.Proofs.Ytgdkionmeacalab
open Go.RowKit
set_option linter.unusedVariables false
set_option maxHeartbeats 1000000
attribute [local go_sem] growUpon_value growUpon_skip growUpon_enter
theorem IB.ob {w : World} {g n : Nat} {L : List Int} (h : IB w g L) (hn : n = L.length) : OB w g n L := by
  have h' : w.heap[g]? = some (.cells (ivals L) 3 (0, 0)) := h
  exact ⟨by omega, ivals L, h', by simp [ivals, hn], fun i x hx => by simp [ivals, hx]⟩
theorem OB.sameL {w w' : World} {g cap : Nat} {L : List Int} (h : OB w g cap L) (e : w'.heap[g]? = w.heap[g]?) : OB w' g cap L := by
  obtain ⟨hl, cs, hh, hs, hc⟩ := h
  exact ⟨hl, cs, e.trans hh, hs, hc⟩
theorem OB.nr {w : World} {g cap n : Nat} {L : List Int} (h : OB w g cap L) (hn : n = L.length) (m : Nat) : NR w (.slice (some ⟨g, 0, none⟩) n m) L := ⟨_, m, by rw [hn], h.nv⟩
/-- the marks from k on -/
def MKo (k : Int) (n : Nat) : List Int := (List.range n).map (fun i : Nat => (i : Int) + k)
theorem MKo_len (k : Int) (n : Nat) : (MKo k n).length = n := by simp [MKo]
theorem MKo_get {k : Int} {n i : Nat} (h : i < n) : (MKo k n)[i]? = some ((i : Int) + k) := by simp [MKo, h]
theorem drop_consO {L : List Int} {k : Nat} {x : Int} (h : L[k]? = some x) : L.drop k = x :: L.drop (k + 1) := by
  obtain ⟨hk, e⟩ := List.getElem?_eq_some_iff.1 h
  rw [List.drop_eq_getElem_cons hk, e]
theorem set_hereO {A B : List Int} {n : Nat} {y x : Int} (h : A.length = n) : (A ++ y :: B).set n x = A ++ x :: B := by
  subst h; simp
end Go.Proofs.Ytgdkionmeacalab
end
section
namespace Go.Proofs.Ytgdkionmeacalab
open Go.RowKit
set_option linter.unusedVariables false
set_option maxHeartbeats 1000000
/-! A tree that is marked. -/
structure TM (g hi : Nat) (S : List Nr) (w : World) : Prop where
  s : NodS w g S
  l : LnsS w g hi 0 S
  a : ApS S
  lt : g < hi
theorem TM.of {g : Nat} {w : World} {R S : List Nr} (h : NrB w g S) (hc : CpR (g + 1) w R S) : TM g w.heap.size S w := ⟨NodS.of h, LnsS.of hc (Nat.le_refl _), hc.apart, h.lt⟩
theorem TM.keep {g hi : Nat} {S : List Nr} {w w' : World} (h : TM g hi S w) (hb : Below w.heap.size w w') : TM g hi S w' :=
  ⟨h.s.keep (hb.block g h.s.lt), fun i q hk hq => by
    obtain ⟨g1, g2, e1, e2, e3, e4, l1, l2, l3, b1, b2⟩ := h.l i q hk hq
    exact ⟨g1, g2, e1, e2, e3, e4, l1, l2, l3, b1.keep hb, b2.keep hb⟩, h.a, h.lt⟩
theorem Wi.pre {lo hi : Nat} {w w' : World} {o : Obj} (h : Wi lo hi (w.alloc o) w') : Wi lo hi w w' :=
  ⟨h.os.trans rfl, h.tape.trans rfl, h.output.trans rfl, by have := h.size; rw [World.size_alloc] at this; omega, fun k hk hn => (h.block k (by rw [World.size_alloc]; omega) hn).trans (Below.heap_alloc _ _ _ hk)⟩
def GO (lo : Nat) (w : World) (v : Value) (M : List Int) : Prop := (v = .slice none 0 0 ∧ M = []) ∨ ∃ g cap n, v = .slice (some ⟨g, 0, none⟩) n cap ∧ n = M.length ∧ lo ≤ g ∧ OB w g cap M
theorem GO.of {lo n : Nat} {w : World} {v : Value} {M : List Int} (h : w.ownsRow lo 3 1 v n (nvalsW M)) (hn : n = M.length) : GO lo w v M :=
  (own_inW h hn).imp id fun ⟨g, cap, h1, h2, h3⟩ => ⟨g, cap, n, h1, hn, h2, h3⟩
theorem GO.nr {lo : Nat} {w : World} {v : Value} {L : List Int} (h : GO lo w v L) : NR w v L := by
  rcases h with ⟨rfl, rfl⟩ | ⟨g, cap, n, rfl, hn, _, hk⟩
  · exact ⟨none, 0, rfl, NV.nil _ _⟩
  · exact hk.nr hn cap
theorem GO.keep {lo : Nat} {w w' : World} {v : Value} {L : List Int} (h : GO lo w v L) (hb : Below w.heap.size w w') : GO lo w' v L := h.imp id fun ⟨g, cap, n, h1, h2, h3, hk⟩ => ⟨g, cap, n, h1, h2, h3, hk.keep hb⟩
theorem GO.wi {lo a b : Nat} {w w' : World} {v : Value} {L : List Int} (h : GO lo w v L) (hw : Wi a b w w') (hl : b ≤ lo) : GO lo w' v L := h.imp id fun ⟨g, cap, n, h1, h2, h3, hk⟩ => ⟨g, cap, n, h1, h2, h3, hk.sameL (hw.block g hk.lt (by omega))⟩
theorem GO.mono {lo lo' : Nat} {w : World} {v : Value} {L : List Int} (h : GO lo w v L) (hl : lo' ≤ lo) : GO lo' w v L := h.imp id fun ⟨g, cap, n, h1, h2, h3, hk⟩ => ⟨g, cap, n, h1, h2, Nat.le_trans hl h3, hk⟩
def GOM (w : World) (v : Value) (n : Nat) : Prop := (v = .slice none 0 0 ∧ n = 0) ∨ ∃ g cap, v = .slice (some ⟨g, 0, none⟩) n cap ∧ OB w g cap (MKo 1 n)
theorem GOM.keep {w w' : World} {v : Value} {n : Nat} (h : GOM w v n) (hb : Below w.heap.size w w') : GOM w' v n := h.imp id fun ⟨g, cap, h1, hk⟩ => ⟨g, cap, h1, hk.keep hb⟩
end Go.Proofs.Ytgdkionmeacalab
end
section
namespace Go.Proofs.Ytgdkionmeacalab
open Go.RowKit
set_option linter.unusedVariables false
set_option maxHeartbeats 4000000
theorem new_full {w : World} {o : Obj} {cs : Array Value} {T : TypeId} (p : Nr) (ho : o = .cells cs T (0, 0)) (hs : cs.size = 34) : ((w.alloc o).setCells w.heap.size 0 (valsNr p)).heap[w.heap.size]? = some (.cells (valsNr p).toArray T (0, 0)) := by
  subst ho
  rw [heap_setCells (valsNr p) 0 _ _ (newS w _), wrAt_all (by rw [hs]; rfl)]
theorem nok_kids {R : List Nr} {k : Nat} {p : Nr} (hall : (List.range k).all (nokB (R.map Nr.n)) = true) (hp : R[k]? = some p) (hup : upB k p.n = true) (h0 : k ≠ 0) :
    ∃ (m : Nat) (u : Nr), p.n.pa = m ∧ m < k ∧ R[m]? = some u ∧ (u.n.ki = 1 → (1 ≤ u.n.cs.length ∧ u.n.cs.length ≤ 5) ∧ (1 ≤ u.n.rs.length ∧ u.n.rs.length ≤ 5)) ∧ clB (R.map Nr.n) k p.n = (decide (u.n.ki ≠ 1) || cellB u.n.cs.length u.n.rs.length p.n.ce) := by
  unfold upB at hup
  rw [if_neg h0, rng_iff] at hup
  obtain ⟨m, hm⟩ := Int.eq_ofNat_of_zero_le hup.1
  have hmk : m < k := by omega
  have hkl := (List.getElem?_eq_some_iff.1 hp).1
  have hml : m < R.length := by omega
  have hu : R[m]? = some R[m] := List.getElem?_eq_getElem hml
  refine ⟨m, R[m], hm, hmk, hu, fun hk => ?_, ?_⟩
  · have h1 := List.all_eq_true.1 hall m (List.mem_range.2 hmk)
    rw [nokB_at (n := (R[m]).n) (by rw [List.getElem?_map, hu]; rfl)] at h1
    simp only [Bool.and_eq_true] at h1
    obtain ⟨l1, l2⟩ := own_lines h1.1 hk
    exact ⟨linesB_len' l1, linesB_len' l2⟩
  · unfold clB
    rw [if_neg h0, hm]
    simp only [Int.toNat_natCast]
    rw [List.getElem?_map, hu]
    rfl
set_option maxRecDepth 100000 in
theorem ValidTree_v (A : Option Addr) (c : Nat) (R : List Nr) (b : Bool) (w : World) (h : NrV w A R) (hr : RdR w R) (hL : R.length ≤ 1048576) (hm : ∀ p ∈ R, p.n.cs.length ≤ 1048576 ∧ p.n.rs.length ≤ 1048576) (hb : treeB (R.map Nr.n) = b) :
    Calls Try.prog 11 #[.agg #[.slice A R.length c]] w fun e w' => e = .returned (.bool b) ∧ Below w.heap.size w w' := by
  have hB0 : Below w.heap.size w (w.alloc (.cells #[.slice A R.length c] 25 (0, 0))) := balloc (Below.refl _ _)
  have HX := Lib.hid (newS w (.cells #[.slice A R.length c] 25 (0, 0)))
  have HB := Lib.hid hB0
  have HV := Lib.hid (h.keep hB0)
  have HR := Lib.hid (hr.keep hB0)
  have HM := Lib.hid hm
  have x0 := cellS HX.out 0
  have lx := ltS HX.out
  clear hB0 h hr hm
  cases hl : rng R.length 1 10
  · obtain rfl : false = b := by rw [← hb]; unfold treeB; rw [List.length_map, hl]; rfl
    go_enter Try.func11, Try.ntmps11
    go_wp2_with fail
    with_reducible refine (within_w _ 1 10 false _ hl).mono ?_
    rintro e w' ⟨rfl, rfl⟩
    go_wp2
    go_ret
    exact ⟨rfl, HB.out⟩
  · have hl2 : 1 ≤ R.length ∧ R.length ≤ 10 := by rw [rng_iff] at hl; omega
    have hb2 : (List.range R.length).all (nokB (R.map Nr.n)) = b := by rw [← hb]; unfold treeB; rw [List.length_map, hl]; rfl
    have HBB := Lib.hid hb2
    clear hb hb2
    obtain ⟨hl3, hl4⟩ := hl2
    go_enter Try.func11, Try.ntmps11
    go_wp2_with fail
    with_reducible refine (within_w _ 1 10 true _ hl).mono ?_
    rintro e w' ⟨rfl, rfl⟩
    go_wp2_with fail
    go_loopw [13] (fun i wr => ∃ k : Nat, k ≤ R.length ∧ i = .int .i64 k ∧ (List.range k).all (nokB (R.map Nr.n)) = true ∧ wr.heap[w.heap.size]? = some (.cells #[.slice A R.length c] 25 (0, 0)) ∧ NrV wr A R ∧ RdR wr R ∧ Below w.heap.size w wr) (fun i _ => R.length - (intOf i).toNat)
    case atStart => exact ⟨0, by omega, rfl, rfl, HX.out, HV.out, HR.out, HB.out⟩
    case round =>
      obtain ⟨k, hk, rfl, hall, hx, hv, hr, hB⟩ := hrel
      clear HX HV HR HB x0 lx
      by_cases hlt : k < R.length
      · have hd : decide ((k : Int) < (R.length : Int)) = true := by simpa using hlt
        have hget : R[k]? = some R[k] := List.getElem?_eq_getElem hlt
        obtain ⟨bl, off, rfl, hbl, hp⟩ := hv.cells (by omega)
        have hLR := hp k _ hget
        have hrd := hr _ (List.mem_of_getElem? hget)
        have hmm := HM.out _ (List.mem_of_getElem? hget)
        generalize R[k] = p at *
        obtain ⟨m1, m2⟩ := hmm
        have hnb : nokB (R.map Nr.n) k = (ndB p.n && (upB k p.n && clB (R.map Nr.n) k p.n)) := nokB_at (by rw [List.getElem?_map, hget]; rfl)
        have HNB := Lib.hid hnb
        have HLR := Lib.hid hLR
        have HG := Lib.hid hget
        have HALL := Lib.hid hall
        have HX := Lib.hid hx
        have HV := Lib.hid hv
        have HR := Lib.hid hr
        have HD := Lib.hid hrd
        have HB := Lib.hid hB
        have lx := ltS hx
        clear hget hp hLR hrd hall hx hv hr hB hnb
        go_upto_region 6 with (first | (refine ldN _ p bl (off + k * 34) rfl rfl rfl HLR.out ?_) | (refine stN (.tmp 4) (.tmp 17) p wr.heap.size 0 rfl rfl rfl rfl (newS _ _) (by show (0 + 34 : Nat) ≤ 34; omega) ?_))
        refine wp_genGG (fun W => W.heap[wr.heap.size]? = some (.cells (valsNr p).toArray 39 (0, 0)) ∧ Below wr.heap.size wr W) ⟨new_full p rfl rfl, below_setCells (Nat.le_refl _) _ _ _ (balloc (Below.refl _ _))⟩ (fun W h0 => ?_)
        obtain ⟨hn, hb⟩ := h0
        replace HX := Lib.hid ((hb.block _ lx).trans HX.out)
        replace HV := Lib.hid (HV.out.keep hb)
        replace HR := Lib.hid (HR.out.keep hb)
        replace HD := Lib.hid (HD.out.keep hb)
        replace HB := Lib.hid (bkeep2 HB.out hb)
        have HN := Lib.hid hn
        clear hn hb lx HLR
        cases h1 : ndB p.n
        · go_wp2_with (refine ldN _ p wr.heap.size 0 rfl rfl rfl (nodeAt HN.out) ?_)
          with_reducible refine (validNode_v p false _ HD.out m1 m2 h1).mono ?_
          rintro e w1 ⟨rfl, hb⟩
          replace HB := Lib.hid (bkeep2 HB.out hb)
          clear hb
          go_wp2
          go_ret
          exact ⟨ret_bool (by rw [← HBB.out]; exact (all_falseG (k := k) (p := k) (by rw [List.getElem?_range (by omega)]) (by rw [HNB.out, h1]; rfl)).symm), HB.out⟩
        · have hx0 := cellS HX.out 0
          go_wp2_with (refine ldN _ p wr.heap.size 0 rfl rfl rfl (nodeAt HN.out) ?_)
          with_reducible refine (validNode_v p true _ HD.out m1 m2 h1).mono ?_
          rintro e w1 ⟨rfl, hb⟩
          clear hx0
          replace HX := Lib.hid ((hb.block _ (Array.getElem?_eq_some_iff.1 HX.out).1).trans HX.out)
          replace HV := Lib.hid (HV.out.keep hb)
          replace HR := Lib.hid (HR.out.keep hb)
          replace HB := Lib.hid (bkeep2 HB.out hb)
          clear hb
          have hx0 := cellS HX.out 0
          cases h2 : upB k p.n
          · go_wp2_with fail
            with_reducible refine (hasParentAhead_v _ c R k p false _ HV.out HG.out hl4 h2).mono ?_
            rintro e w2 ⟨rfl, hb⟩
            clear hx0
            replace HB := Lib.hid (bkeep2 HB.out hb)
            clear hb
            go_wp2
            go_ret
            exact ⟨ret_bool (by rw [← HBB.out]; exact (all_falseG (k := k) (p := k) (by rw [List.getElem?_range (by omega)]) (by rw [HNB.out, h1, h2]; rfl)).symm), HB.out⟩
          · go_wp2_with fail
            with_reducible refine (hasParentAhead_v _ c R k p true _ HV.out HG.out hl4 h2).mono ?_
            rintro e w2 ⟨rfl, hb⟩
            clear hx0
            replace HX := Lib.hid ((hb.block _ (Array.getElem?_eq_some_iff.1 HX.out).1).trans HX.out)
            replace HV := Lib.hid (HV.out.keep hb)
            replace HR := Lib.hid (HR.out.keep hb)
            replace HB := Lib.hid (bkeep2 HB.out hb)
            clear hb
            have hx0 := cellS HX.out 0
            have hcv : ∀ cb, clB (R.map Nr.n) k p.n = cb → Calls Try.prog 31 #[.agg #[.slice (some ⟨bl, off, none⟩) R.length c], .int .i64 k] w2 fun e w' => e = .returned (.bool cb) ∧ Below w2.heap.size w2 w' := by
              intro cb hcb
              by_cases hz : k = 0
              · subst hz
                obtain rfl : true = cb := by rw [← hcb]; rfl
                exact hasValidCell_0 _ _ _ _
              · obtain ⟨m, u, e1, e2, e3, e4, e5⟩ := nok_kids HALL.out HG.out h2 hz
                exact hasValidCell_s _ c R k m p u cb _ HV.out HG.out hl4 hz e1 e2 e3 e4 (by rw [← e5]; exact hcb)
            cases h3 : clB (R.map Nr.n) k p.n
            · have HC := Lib.hid (hcv false h3)
              clear hcv
              go_wp2_with fail
              with_reducible refine (HC.out).mono ?_
              rintro e w3 ⟨rfl, hb⟩
              clear hx0 HC
              replace HB := Lib.hid (bkeep2 HB.out hb)
              clear hb
              go_wp2
              go_ret
              exact ⟨ret_bool (by rw [← HBB.out]; exact (all_falseG (k := k) (p := k) (by rw [List.getElem?_range (by omega)]) (by rw [HNB.out, h1, h2, h3]; rfl)).symm), HB.out⟩
            · have HC := Lib.hid (hcv true h3)
              clear hcv
              go_wp2_with fail
              with_reducible refine (HC.out).mono ?_
              rintro e w3 ⟨rfl, hb⟩
              clear hx0 HC
              replace HX := Lib.hid ((hb.block _ (Array.getElem?_eq_some_iff.1 HX.out).1).trans HX.out)
              replace HV := Lib.hid (HV.out.keep hb)
              replace HR := Lib.hid (HR.out.keep hb)
              replace HB := Lib.hid (bkeep2 HB.out hb)
              clear hb
              go_wp2
              go_roundw
              case rel => exact ⟨k + 1, by omega, by go_num, by rw [range_all_succ, HALL.out, HNB.out, h1, h2, h3]; rfl, HX.out, HV.out, HR.out, HB.out⟩
              case measure => simp [intOf]; omega
      · have hd : decide ((k : Int) < (R.length : Int)) = false := decide_eq_false (by omega)
        obtain rfl : k = R.length := by omega
        have HB := Lib.hid hB
        have HALL := Lib.hid hall
        clear hx hv hr hB hall
        go_wp2
        go_ret
        exact ⟨ret_bool (by rw [← HBB.out, HALL.out]), HB.out⟩
end Go.Proofs.Ytgdkionmeacalab
end
