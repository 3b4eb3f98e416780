import Derived.Test.YtgdkionmeacalabGreatQ23
import Derived.RangeFuncBox
import Derived.RangeFuncNested
import Derived.RangeFuncBound
import Derived.RangeFuncCalls
import Derived.RangeFuncLeaves
import Derived.Shelf.Abstract
import Derived.Shelf.RegionOpen
import Derived.WalkKit
import Derived.OwnWalkIn
import Derived.TacticsInMore
import Derived.LoopNIn
import Derived.LoopIn
import Derived.Maps.AppendAt
section
namespace Go.Proofs.YtgdkionmeacalabGreat
open Go.RowKit
set_option linter.unusedVariables false
set_option maxHeartbeats 4000000
attribute [local go_sem] growUpon_value growUpon_skip growUpon_enter
def upB (i : Nat) (n : Nd) : Bool := if i = 0 then decide (n.pa = -1) else rng n.pa 0 ((i : Int) - 1)
def clB (L : List Nd) (i : Nat) (n : Nd) : Bool := if i = 0 then true else match L[n.pa.toNat]? with
  | some u => decide (u.ki ≠ 1) || cellB u.cs.length u.rs.length n.ce
  | none => true
def nokB (L : List Nd) (i : Nat) : Bool := match L[i]? with
  | some n => ndB n && (upB i n && clB L i n)
  | none => true
def treeB (L : List Nd) : Bool := rng L.length 1 10 && (List.range L.length).all (nokB L)
theorem nokB_at {L : List Nd} {i : Nat} {n : Nd} (h : L[i]? = some n) : nokB L i = (ndB n && (upB i n && clB L i n)) := by unfold nokB; rw [h]
theorem range_all_succ {f : Nat → Bool} {k : Nat} : (List.range (k + 1)).all f = ((List.range k).all f && f k) := by
  rw [List.range_succ, List.all_append]; simp
theorem own_lines {n : Nd} (h : ndB n = true) (hk : n.ki = 1) : linesB n.cs = true ∧ linesB n.rs = true := by
  simp only [ndB, Bool.and_eq_true] at h
  have := h.2.2.1
  unfold ownB at this
  rw [if_pos hk] at this
  simpa [Bool.and_eq_true] using this
set_option maxRecDepth 100000 in
theorem hasParentAhead_v (A : Option Addr) (c : Nat) (R : List Nr) (i : Nat) (p : Nr) (b : Bool) (w : World) (h : NrV w A R) (hp : R[i]? = some p) (hL : R.length ≤ 10) (hb : upB i p.n = b) :
    Calls Tryz.prog 47 #[.agg #[.slice A R.length c], .int .i64 i] w fun e w' => e = .returned (.bool b) ∧ Below w.heap.size w w' := by
  have hi : i < R.length := (List.getElem?_eq_some_iff.1 hp).1
  obtain ⟨bl, off, rfl, hbl, hc⟩ := h.cells (by omega)
  have x0 : w.cell? ⟨bl, off + i * 34, none⟩ = some (.int .i64 p.n.pa) := hc i p hp 0 _ rfl
  have hii : (i : Int) < (R.length : Int) := by omega
  have hne : ¬ bl = w.heap.size := by omega
  unfold upB at hb
  clear hc h hp
  by_cases h0 : i = 0
  · subst h0
    rw [if_pos rfl] at hb
    simp only [Nat.zero_mul, Nat.add_zero] at x0
    have hlr : (0 : Int) < (R.length : Int) := by omega
    clear hii
    have e1 : (p.n.pa == -1) = b := by rw [← hb]; rfl
    have HE := Lib.hid e1
    clear hb e1
    go_enter Tryz.func47, Tryz.ntmps47
    go_wp2
    go_ret
    exact ⟨ret_bool HE.out, balloc (Below.refl _ _)⟩
  · rw [if_neg h0] at hb
    have e0 : ((i : Int) == 0) = false := by rw [beq_eq_false_iff_ne]; omega
    have e0' : decide ((i : Int) = 0) = false := decide_eq_false (by omega)
    go_enter Tryz.func47, Tryz.ntmps47
    go_wp2_with fail
    with_reducible refine (within_w p.n.pa 0 ((i : Int) - 1) b _ hb).mono ?_
    rintro e w' ⟨rfl, rfl⟩
    go_wp2
    go_ret
    exact ⟨rfl, balloc (Below.refl _ _)⟩
set_option maxRecDepth 100000 in
theorem hasValidCell_0 (A : Option Addr) (c n : Nat) (w : World) :
    Calls Tryz.prog 48 #[.agg #[.slice A n c], .int .i64 0] w fun e w' => e = .returned (.bool true) ∧ Below w.heap.size w w' := by
  go_enter Tryz.func48, Tryz.ntmps48
  go_wp2
  go_ret
  exact ⟨rfl, balloc (Below.refl _ _)⟩
set_option maxRecDepth 100000 in
theorem hasValidCell_s (A : Option Addr) (c : Nat) (R : List Nr) (i m : Nat) (p u : Nr) (b : Bool) (w : World) (h : NrV w A R) (hp : R[i]? = some p) (hL : R.length ≤ 10) (h0 : i ≠ 0) (hpa : p.n.pa = m) (hm : m < i) (hu : R[m]? = some u)
    (hl : u.n.ki = 1 → (1 ≤ u.n.cs.length ∧ u.n.cs.length ≤ 5) ∧ (1 ≤ u.n.rs.length ∧ u.n.rs.length ≤ 5)) (hb : (decide (u.n.ki ≠ 1) || cellB u.n.cs.length u.n.rs.length p.n.ce) = b) :
    Calls Tryz.prog 48 #[.agg #[.slice A R.length c], .int .i64 i] w fun e w' => e = .returned (.bool b) ∧ Below w.heap.size w w' := by
  have hi : i < R.length := (List.getElem?_eq_some_iff.1 hp).1
  obtain ⟨bl, off, rfl, hbl, hc⟩ := h.cells (by omega)
  have hB0 : Below w.heap.size w (w.alloc (.cells #[.slice (some ⟨bl, off, none⟩) R.length c] 25 (0, 0))) := balloc (Below.refl _ _)
  have HX := Lib.hid (newS w (.cells #[.slice (some ⟨bl, off, none⟩) R.length c] 25 (0, 0)))
  have HP := Lib.hid (rangeB (hc i p hp) (hB0.block bl hbl))
  have HU := Lib.hid (rangeB (hc m u hu) (hB0.block bl hbl))
  have HB := Lib.hid hB0
  have hii : (i : Int) < (R.length : Int) := by omega
  have hmm : (m : Int) < (R.length : Int) := by omega
  have e0 : ((i : Int) == 0) = false := by rw [beq_eq_false_iff_ne]; omega
  have e0' : decide ((i : Int) = 0) = false := decide_eq_false (by omega)
  have HPA := Lib.hid hpa
  have HBB := Lib.hid hb
  have HLL := Lib.hid hl
  clear hc h hp hu hpa hb hl hB0
  go_enter Tryz.func48, Tryz.ntmps48
  go_upto_region 3 with (fail)
  refine wp_genGG (fun W => W.heap[w.heap.size]? = some (.cells #[.slice (some ⟨bl, off, none⟩) R.length c] 25 (0, 0)) ∧ W.rangeAt bl (off + i * 34) (valsNr p) ∧ W.rangeAt bl (off + m * 34) (valsNr u) ∧ Below w.heap.size w W ∧ bl < W.heap.size) ⟨HX.out, HP.out, HU.out, HB.out, by simp; omega⟩ (fun W h0 => ?_)
  clear HX HP HU HB
  obtain ⟨hx, hp, hu, hb, hbw⟩ := h0
  have x0 := cellS hx 0
  have q0 : W.cell? ⟨bl, off + i * 34, none⟩ = some (.int .i64 (m : Int)) := by rw [← HPA.out]; exact hp 0 _ rfl
  have lx := ltS hx
  have HX := Lib.hid hx
  have HP := Lib.hid hp
  have HU := Lib.hid hu
  have HB := Lib.hid hb
  clear hx hp hu hb
  refine wp_region_grow 10 2 (· < 11) (by kernel_rfl) (by kernel_rfl) rfl ?_
  iterate 10 (refine wpG_step (fun K hK => ?_); first | (refine grow_ldN _ u bl (off + m * 34) rfl rfl rfl hbw (rangeB HU.out rfl) ?_; refine hK _ ?_; clear hK K) | (apply Exists.intro; refine ⟨.inl ⟨rfl, fun w' hw' => ?_⟩, ?_⟩; (focus ((obtain ⟨hc, hf⟩ := bcell hw'.out); (have hcS := bcellS hw'.out); go_simp <;> rfl)); (go_simp; refine hK _ ?_; clear hK K)))
  refine wpG_nil ?_
  refine wpK_one (i := 10) (by kernel_rfl) rfl rfl (by kernel_rfl) (fun w5 h5 => ?_)
  go_simp
  refine ⟨Gr.alloc _ _, ?_⟩
  refine wpK_tail (by kernel_rfl) (fun w9 h9 => ?_)
  refine wpAny_one (i := 11) (by kernel_rfl) rfl rfl ?_
  have hnew := (h9.out.block w5.heap.size (by simp)).trans (newS w5 _)
  refine wp_store_mid 38 (.tmp 5) (.tmp 17) rfl w5.heap.size 0 (valsNr u).toArray rfl rfl (thereB hnew (by show (0 + 34 : Nat) ≤ 34; omega)) (by kernel_rfl) (valsNr_all u) ?_
  refine wpAny_end (by kernel_rfl) ?_
  have hfull : (w9.setCells w5.heap.size 0 (valsNr u)).heap[w5.heap.size]? = some (.cells (valsNr u).toArray 38 (0, 0)) := by
    rw [heap_setCells (valsNr u) 0 w9 _ hnew, wrAt_all (by rfl)]
  have hlow : W.heap.size ≤ w5.heap.size := h5.out.size
  have hbel : Below W.heap.size W (w9.setCells w5.heap.size 0 (valsNr u)) :=
    below_setCells hlow _ _ _ (bgrow (balloc (bgrow (Below.refl _ _).drew h5)) h9)
  refine NoPan.gen (fun wf => W.heap.size ≤ w5.heap.size ∧ wf.heap[w5.heap.size]? = some (.cells (valsNr u).toArray 38 (0, 0)) ∧ Below W.heap.size W wf) ⟨hlow, hfull, hbel⟩ (fun wf hwf => ?_)
  clear hnew hfull hlow hbel h9
  obtain ⟨b5, hb5⟩ : ∃ b5, w5.heap.size = b5 := ⟨_, rfl⟩
  simp only [hb5] at hwf ⊢
  clear hb5 h5 w5 w9
  obtain ⟨hlow, hh5, hB⟩ := hwf
  replace HX := Lib.hid ((hB.block _ lx).trans HX.out)
  replace HP := Lib.hid (rangeB HP.out (hB.block _ hbw))
  replace HB := Lib.hid (bkeep2 HB.out hB)
  have hbw2 : bl < wf.heap.size := Nat.lt_of_lt_of_le hbw hB.size
  have H5 := Lib.hid hh5
  clear x0 q0 HU hh5 hB hbw
  have x0 := cellS HX.out 0
  have lx2 := ltS HX.out
  have k4 : wf.cell? ⟨b5, 4, none⟩ = some (.int .i64 u.n.ki) := cellS H5.out 4
  have k5 : wf.cell? ⟨b5, 5, none⟩ = some (.slice u.ca u.n.cs.length u.cc) := cellS H5.out 5
  have k6 : wf.cell? ⟨b5, 6, none⟩ = some (.slice u.ra u.n.rs.length u.rc) := cellS H5.out 6
  have l5 := ltS H5.out
  by_cases hk : u.n.ki = 1
  · have hb' : cellB u.n.cs.length u.n.rs.length p.n.ce = b := by rw [← HBB.out]; simp [hk]
    obtain ⟨⟨l1, l2⟩, l3, l4⟩ := HLL.out hk
    rw [hk] at k4
    have hce := node_ce HP.out
    have HCE := Lib.hid hce
    have HBR := Lib.hid hb'
    clear hk hce hb' HBB HLL
    go_upto_region 4 with (fail)
    refine wp_region_grow 18 1 (· < 18) (by kernel_rfl) (by kernel_rfl) rfl ?_
    iterate 18 (refine wpG_step (fun K hK => ?_); first | (refine grow_loadM 34 _ [.int .i64 p.n.ce.co, .int .i64 p.n.ce.ro, .int .i64 p.n.ce.mc, .int .i64 p.n.ce.mr, .int .i64 p.n.ce.cw, .int .i64 p.n.ce.ch, .int .i64 p.n.ce.sk, .int .i64 p.n.ce.px, .int .i64 p.n.ce.py] bl (off + i * 34 + 16) rfl rfl rfl Tryz.underlying34 rfl (by kernel_rfl) (fun w' hw' => rangeB HCE.out (hw'.out.block bl hbw2)) ?_; refine hK _ ?_; clear hK K) | (refine grow_skip rfl ?_; go_simp; refine hK _ ?_; clear hK K) | (apply Exists.intro; refine ⟨.inl ⟨rfl, fun w' hw' => ?_⟩, ?_⟩; (focus ((obtain ⟨hc, hf⟩ := bcell hw'.out); (have hcS := bcellS hw'.out); go_simp <;> first | rfl | (go_at_call 72; exact validCell_v p.n.ce u.n.cs.length u.n.rs.length b _ (by omega) (by omega) (by omega) (by omega) HBR.out))); (go_simp; refine hK _ ?_; clear hK K)))
    refine wpG_nil ?_
    refine wpK_tail (by kernel_rfl) (fun w9 hg9 => ?_)
    have hb9 := bdrewn hg9.out
    obtain ⟨hc9, hf9⟩ := bcell hb9
    refine wpAny_one (i := 18) (by kernel_rfl) rfl rfl ?_
    go_simp
    refine wpAny_end (by kernel_rfl) ?_
    refine NoPan.thn ?_
    clear hc9 hf9
    clear hg9
    replace HB := Lib.hid (bkeep2 HB.out hb9)
    clear hb9
    go_wp2
    go_ret
    exact ⟨rfl, HB.out⟩
  · have hb' : true = b := by rw [← HBB.out]; simp [hk]
    subst hb'
    have f1 : (u.n.ki == 1) = false := by rw [beq_eq_false_iff_ne]; exact hk
    have f2 : (u.n.ki != 1) = true := by simp [bne, f1]
    have f3 : decide (u.n.ki = 1) = false := decide_eq_false hk
    have HK := Lib.hid hk
    clear hk HBB HLL
    go_upto_region 4 with (fail)
    refine wp_region_grow 18 1 (· < 18) (by kernel_rfl) (by kernel_rfl) rfl ?_
    iterate 18 (refine wpG_step (fun K hK => ?_); first | (refine grow_skip rfl ?_; go_simp; refine hK _ ?_; clear hK K) | (apply Exists.intro; refine ⟨.inl ⟨rfl, fun w' hw' => ?_⟩, ?_⟩; (focus ((obtain ⟨hc, hf⟩ := bcell hw'.out); (have hcS := bcellS hw'.out); go_simp <;> first | rfl | (fail))); (go_simp; refine hK _ ?_; clear hK K)))
    refine wpG_nil ?_
    refine wpK_tail (by kernel_rfl) (fun w8 hg8 => ?_)
    have hb8 := bdrewn hg8.out
    obtain ⟨hc8, hf8⟩ := bcell hb8
    refine wpAny_one (i := 18) (by kernel_rfl) rfl rfl ?_
    go_simp
    refine wpAny_end (by kernel_rfl) ?_
    refine NoPan.thn ?_
    clear hc8 hf8
    clear hg8
    replace HB := Lib.hid (bkeep2 HB.out hb8)
    clear hb8
    go_wp2
    go_ret
    exact ⟨rfl, HB.out⟩
end Go.Proofs.YtgdkionmeacalabGreat
end
section
namespace Go.Proofs.YtgdkionmeacalabGreat
open Go.RowKit
set_option linter.unusedVariables false
set_option maxHeartbeats 4000000
attribute [local go_sem] Oper.semAt_some
/-! The way up. -/
def IsUp (L : List Nd) : Int → List Int → Prop
  | p, [] => p = -1
  | p, x :: xs => x = p ∧ 0 ≤ p ∧ ∃ n : Nd, L[p.toNat]? = some n ∧ n.pa < p ∧ -1 ≤ n.pa ∧ IsUp L n.pa xs
theorem IsUp.cons {L : List Nd} {p : Int} {xs : List Int} {n : Nd} (h0 : 0 ≤ p) (hn : L[p.toNat]? = some n) (h1 : n.pa < p) (h2 : -1 ≤ n.pa) (h : IsUp L n.pa xs) : IsUp L p (p :: xs) := by
  unfold IsUp; exact ⟨rfl, h0, n, hn, h1, h2, h⟩
theorem IsUp.nil {L : List Nd} : IsUp L (-1) [] := by unfold IsUp; rfl
theorem tree_nok {L : List Nd} (h : treeB L = true) {k : Nat} {n : Nd} (hn : L[k]? = some n) : ndB n = true ∧ upB k n = true ∧ clB L k n = true := by
  unfold treeB at h
  rw [Bool.and_eq_true] at h
  have hk : k < L.length := (List.getElem?_eq_some_iff.1 hn).1
  have := List.all_eq_true.1 h.2 k (List.mem_range.2 hk)
  rw [nokB_at hn, Bool.and_eq_true, Bool.and_eq_true] at this
  exact this
theorem tree_len {L : List Nd} (h : treeB L = true) : 1 ≤ L.length ∧ L.length ≤ 10 := by
  unfold treeB at h
  rw [Bool.and_eq_true, rng_iff] at h
  omega
theorem up_ex {L : List Nd} (ht : treeB L = true) (k : Nat) : k < L.length → ∃ xs, IsUp L (k : Int) xs ∧ xs.length ≤ k + 1 := by
  induction k using Nat.strongRecOn with
  | ind k ih =>
    intro hk
    obtain ⟨n, hn⟩ : ∃ n, L[k]? = some n := ⟨_, List.getElem?_eq_getElem hk⟩
    obtain ⟨-, hup, -⟩ := tree_nok ht hn
    by_cases h0 : k = 0
    · subst h0
      rw [upB, if_pos rfl] at hup
      have hp := of_decide_eq_true hup
      exact ⟨[((0 : Nat) : Int)], IsUp.cons (by omega) (by simpa using hn) (by omega) (by omega) (by rw [hp]; exact IsUp.nil), by simp⟩
    · rw [upB, if_neg h0, rng_iff] at hup
      obtain ⟨m, hm⟩ := Int.eq_ofNat_of_zero_le hup.1
      obtain ⟨xs, h1, h2⟩ := ih m (by omega) (by omega)
      exact ⟨(k : Int) :: xs, IsUp.cons (by omega) (by simpa using hn) (by omega) (by omega) (by rw [hm]; exact h1), by simp; omega⟩
/-- what a round must keep: the two variables of the iterator, and the nodes -/
def KU (Bi Bt b : Nat) (X Y : World) : Prop := Y.heap[Bi]? = X.heap[Bi]? ∧ Y.heap[Bt]? = X.heap[Bt]? ∧ Y.heap[b]? = X.heap[b]?
theorem KU.trans {Bi Bt b : Nat} {A B C : World} (h : KU Bi Bt b A B) (k : KU Bi Bt b B C) : KU Bi Bt b A C := ⟨k.1.trans h.1, k.2.1.trans h.2.1, k.2.2.trans h.2.2⟩
theorem KU.of {Bi Bt b n0 : Nat} {A B : World} (h : Below n0 A B) (h1 : Bi < n0) (h2 : Bt < n0) (h3 : b < n0) : KU Bi Bt b A B := ⟨h.block _ h1, h.block _ h2, h.block _ h3⟩
/-- the iterator's variables and the nodes -/
structure UpAt (W : World) (Bi Bt b off len c : Nat) (i : Int) (R : List Nr) : Prop where
  hi : W.cell? ⟨Bi, 0, none⟩ = some (.int .i64 i)
  ht : W.cell? ⟨Bt, 0, none⟩ = some (.slice (some ⟨b, off, none⟩) len c)
  hn : ∀ (k : Nat) (p : Nr), R[k]? = some p → W.rangeAt b (off + k * 34) (valsNr p)
theorem UpAt.keep {W W' : World} {Bi Bt b off len c : Nat} {i : Int} {R : List Nr} (h : UpAt W Bi Bt b off len c i R) (hk : KU Bi Bt b W W') : UpAt W' Bi Bt b off len c i R :=
  ⟨(World.cell?_of_block (a := ⟨Bi, 0, none⟩) hk.1).trans h.hi, (World.cell?_of_block (a := ⟨Bt, 0, none⟩) hk.2.1).trans h.ht, fun k p hp => rangeB (h.hn k p hp) hk.2.2⟩
set_option maxRecDepth 100000 in
theorem up1_in (F : Fence) (n : Nat) (hF : F.fn 63) (hro : F.round = none) (hn : 1 ≤ n) (l Bi Bt b off len c : Nat) (R : List Nr) (i : Int) (xs : List Int) (hlen : len = R.length) (hL : R.length ≤ 1048576) (hup : IsUp (R.map Nr.n) i xs) (J Jx : List Int → World → Prop)
    (hY : ∀ pre x W, J pre W → pre.length < xs.length → YieldAt F (n - 1) Tryz.prog l #[.int .i64 x] W fun e W' =>
      (e = .returned (.bool true) ∧ J (pre ++ [x]) W' ∧ KU Bi Bt b W W') ∨ (e = .returned (.bool false) ∧ Jx (pre ++ [x]) W'))
    (W : World) (hu : UpAt W Bi Bt b off len c i R) (h0 : J [] W) :
    CallsIn F n Tryz.prog 63 #[.func (.yield l) #[] #[], .pointer (some ⟨Bi, 0, none⟩), .pointer (some ⟨Bt, 0, none⟩)] W fun e W' => (∃ v, e = .returned v) ∧
      ((∃ ys, ys = xs ∧ J ys W') ∨ (∃ pre, True ∧ Jx pre W')) := by
  have hci := hu.hi
  have HU := Lib.hid hu
  have HUP := Lib.hid hup
  clear hu hup
  refine callsIn_of_wp Tryz.func63 rfl hF ?_ hro
  simp only [Tryz.ntmps63, List.size_toArray, List.length_cons, List.length_nil, Nat.reduceAdd, Nat.reduceSub, Array.replicate_succ, Array.replicate_zero, List.push_toArray, List.append_toArray, List.nil_append, List.cons_append]
  gi_wp2
  clear hci
  gi_loopw [4] (fun p wr => ∃ (pre rest : List Int) (q : Int), p = .int .i64 q ∧ xs = pre ++ rest ∧ IsUp (R.map Nr.n) q rest ∧ KU Bi Bt b W wr ∧ J pre wr) (fun p _ => (intOf p + 1).toNat)
  case atStart => exact ⟨[], xs, i, rfl, rfl, HUP.out, ⟨rfl, rfl, rfl⟩, h0⟩
  case round =>
    obtain ⟨pre, rest, q, rfl, hx, hl, hK, hJs⟩ := hrel
    cases rest with
    | nil =>
      obtain rfl : q = -1 := hl
      have HXX := Lib.hid hx
      clear hx
      gi_wp2
      go_end0
      exact ⟨⟨_, rfl⟩, .inl ⟨pre, by have := HXX.out; simp at this; exact this.symm, hJs⟩⟩
    | cons x rest =>
      obtain ⟨rfl, h0q, nd, hnd, hlt, hge, hr⟩ := hl
      obtain ⟨k, rfl⟩ := Int.eq_ofNat_of_zero_le h0q
      rw [Int.toNat_natCast, List.getElem?_map] at hnd
      obtain ⟨p, hp, rfl⟩ := Option.map_eq_some_iff.1 hnd
      have hkl : k < R.length := (List.getElem?_eq_some_iff.1 hp).1
      have hkl' : (k : Int) < (len : Int) := by omega
      have hne : (((k : Nat) : Int) != -1) = true := by rw [bne_iff_ne]; omega
      have hlx : pre.length < xs.length := by rw [hx]; simp
      obtain ⟨fn, tmps, assign, body, hy, hR⟩ := hY pre (k : Int) wr hJs hlx
      have HXX := Lib.hid hx
      have HP := Lib.hid hp
      have HK := Lib.hid hK
      have HRR := Lib.hid hr
      obtain ⟨z, hz⟩ : ∃ z, p.n.pa = z := ⟨_, rfl⟩
      have HZ := Lib.hid hz
      rw [hz] at hlt hge
      clear hx hp hK hr hnd hz
      gi_wp2
      refine hR.mono ?_
      rintro e W3 (⟨rfl, hJ3, hk3⟩ | ⟨rfl, hJx3⟩)
      · have hu3 := (HU.out.keep HK.out).keep hk3
        have ct := hu3.ht
        have cp : W3.cell? ⟨b, off + k * 34, none⟩ = some (.int .i64 p.n.pa) := hu3.hn k p HP.out 0 _ rfl
        rw [HZ.out] at cp
        have HK3 := Lib.hid (KU.trans HK.out hk3)
        clear hu3 hk3
        gi_wp2
        go_roundw
        case rel => exact ⟨pre ++ [(k : Int)], rest, z, rfl, by rw [HXX.out]; simp, by have := HRR.out; rwa [HZ.out] at this, HK3.out, hJ3⟩
        case measure => simp [intOf]; omega
      · gi_wp2
        refine bodyPost_ret (results_none rfl _ _ _) rfl ?_
        exact ⟨⟨_, rfl⟩, .inr ⟨_, trivial, hJx3⟩⟩
theorem up_stops (F : Fence) (n : Nat) (hF : F.fn 63) (hro : F.round = none) (hn : 1 ≤ n) (Bi Bt b off len c : Nat) (R : List Nr) (i : Int) (xs : List Int) (hlen : len = R.length) (hL : R.length ≤ 1048576) (hup : IsUp (R.map Nr.n) i xs) (w : World) (hBi : Bi < w.heap.size) (hBt : Bt < w.heap.size) (hb : b < w.heap.size) (hu : UpAt w Bi Bt b off len c i R) :
    SeqStopsK F n Tryz.prog 63 #[.pointer (some ⟨Bi, 0, none⟩), .pointer (some ⟨Bt, 0, none⟩)] (fun x : Int => #[Value.int .i64 x]) (KU Bi Bt b) (fun ys => ys = xs) (fun _ => True) xs.length w := fun l J Jx W hW _ _ hY h0 =>
  up1_in F n hF hro hn l Bi Bt b off len c R i xs hlen hL hup J Jx hY W (hu.keep (KU.of hW hBi hBt hb)) h0
set_option maxRecDepth 100000 in
theorem upFrom_v (A : Option Addr) (m c : Nat) (i : Int) (w : World) :
    Calls Tryz.prog 35 #[.agg #[.slice A m c], .int .i64 i] w fun e w' => e = .returned (.func (.func 63) #[] #[.pointer (some ⟨w.heap.size + 1, 0, none⟩), .pointer (some ⟨w.heap.size, 0, none⟩)]) ∧ w' = (w.alloc (.cells #[.slice A m c] 25)).alloc (.cells #[.int .i64 i] 3) := by
  go_enter Tryz.func35, Tryz.ntmps35
  go_wp2
  go_ret
  exact ⟨rfl, rfl⟩
set_option maxRecDepth 100000 in
theorem appendSeq_up (Bi Bt b off len c : Nat) (R : List Nr) (i : Int) (xs : List Int) (hlen : len = R.length) (hL : R.length ≤ 1048576) (hup : IsUp (R.map Nr.n) i xs) (hxl : xs.length ≤ 20) (w : World) (hBi : Bi < w.heap.size) (hBt : Bt < w.heap.size) (hb : b < w.heap.size) (hu : UpAt w Bi Bt b off len c i R) :
    Calls Tryz.prog 62 #[.slice none 0 0, .func (.func 63) #[] #[.pointer (some ⟨Bi, 0, none⟩), .pointer (some ⟨Bt, 0, none⟩)]] w fun e W' => (∃ v, e = .returned v ∧ W'.ownsRow w.heap.size 3 1 v xs.length (nvalsW xs)) ∧ Below w.heap.size w W' := by
  obtain ⟨ti, tz, ti1, ti2, ti3, ti4, ti5⟩ := int_infoW
  refine (callsIn_wide (n := 6)).1 ?_
  refine callsIn_of_wp_marks Tryz.func62 rfl trivial ?_ rfl
  simp only [Tryz.ntmps62, List.size_toArray, List.length_cons, List.length_nil, Nat.reduceAdd, Nat.reduceSub, Array.replicate_succ, Array.replicate_zero, List.push_toArray, List.append_toArray, List.nil_append, List.cons_append]
  have HU := Lib.hid hu
  clear hu
  gi_wp2
  have bO := Boxed.new w 42 (.slice none 0 0)
  have hB0 : Below w.heap.size w (w.alloc (.cells #[.slice none 0 0] 42)) := (Below.refl _ w).alloc (Nat.le_refl _) _
  have hsz : (w.alloc (.cells #[.slice none 0 0] 42)).heap.size = w.heap.size + 1 := by simp
  obtain ⟨W0, hW0⟩ : ∃ W0, w.alloc (.cells #[.slice none 0 0] 42) = W0 := ⟨_, rfl⟩
  rw [hW0] at bO hB0 hsz ⊢
  clear hW0
  refine wpIn_rangeFunc_ownG rfl (by omega) (gf := 63) (lb := #[.pointer (some ⟨Bi, 0, none⟩), .pointer (some ⟨Bt, 0, none⟩)]) rfl trivial (enters_of Tryz.func63 (by kernel_rfl) rfl)
    (up_stops Fence.wide _ trivial rfl (by omega) Bi Bt b off len c R i xs hlen hL hup W0 (by omega) (by omega) (by omega) (HU.out.keep (KU.of hB0 hBi hBt hb))) KU.trans
    (fun W l o o' hl ho hc hw => ⟨World.putObj_heap_other (by omega), World.putObj_heap_other (by omega), World.putObj_heap_other (by omega)⟩) (Below.refl _ _) (fun _ => rfl)
    (fun pre W => (∃ v, Boxed W w.heap.size 42 v ∧ W.ownsRow w.heap.size 3 1 v pre.length (nvalsW pre) ∧ True) ∧ Below w.heap.size w W)
    (fun _ _ _ => False)
    (OwnFrom.and (Own.from (holdsRow_own w.heap.size w.heap.size 42 3 1 (fun pre : List Int => pre.length) (fun pre => nvalsW pre) (fun _ _ => True)) _) (ownFrom_below (Nat.le_refl _) (by omega)))
    (fun _ _ _ _ _ hs _ _ => hs)
    ⟨⟨_, bO, World.ownsRow_nil _ _ _ _, trivial⟩, hB0⟩
    (fun x => { tmps := #[.slice none 0 0, .func (.func 63) #[] #[.pointer (some ⟨Bi, 0, none⟩), .pointer (some ⟨Bt, 0, none⟩)], .pointer (some ⟨w.heap.size, 0, none⟩), undef, .slice none 0 0, .int .i64 x, .func (.func 63) #[] #[.pointer (some ⟨Bi, 0, none⟩), .pointer (some ⟨Bt, 0, none⟩)], .int .i64 x, undef, undef, undef, undef, undef], defers := [] }) ?assign ?body ?done ?stop
  case assign =>
    intro l x W K hK
    gi_wp2
    exact hK
  case body =>
    rintro l pre x W ⟨⟨v, hv, hrow, -⟩, hB⟩ hlt
    have hc := hv.cell
    have hws := hB.size
    gi_wp2_with (gi_at_builtin; refine wpListIn_append_own _ rfl _ _ 42 rfl w.heap.size 3 ti tz 1 8 Tryz.underlying42 ti1 ti2 ti3 ti4 ti5 (by decide) _ _ _ rfl (hrow.alloc _) ⟨W.heap.size, 0, none⟩ 1 1 [.int .i64 x] rfl rfl (newW _ _ _) (by simp [Value.oneCell']) (by simp only [maxLen]; omega) (by omega) (by simp; omega) ?_; intro v' w1 hown' hgrow _; obtain ⟨g', cap', rfl⟩ := ownsRow_succ hown'; obtain ⟨hv1, hv2, hr2, hk2, hb2⟩ := hv.appended (by decide) hrow hB.size (Nat.le_refl _) hown' hgrow; have hc1 := hv1.cell; have hf1 := hv1.frozen)
    refine ⟨hk2.from _, KU.of hb2 hBi hBt hb, ⟨_, hv2, by rw [← nvalsW_snoc]; simpa using hr2, trivial⟩, hB.trans hb2⟩
  case done =>
    rintro D ys W hD rfl ⟨⟨v, hv, hrow, -⟩, hB⟩ hK
    have hc := hv.cell
    gi_wp2
    refine ⟨by simp, .inl ⟨_, _, rfl, run_takeDeferred hK, ?_⟩⟩
    exact ⟨_, results_tmp rfl _ _ _, ⟨v, rfl, ownsRow_putObj hrow _ hK rfl⟩, hB.trans (belowK_b (w := w) (Nat.le_refl _) W D _ _ (by omega) hK rfl rfl)⟩
  case stop =>
    rintro D c pre W _ _ h _
    exact h.elim
set_option maxRecDepth 100000 in
theorem collect_up (Bi Bt b off len c : Nat) (R : List Nr) (i : Int) (xs : List Int) (hlen : len = R.length) (hL : R.length ≤ 1048576) (hup : IsUp (R.map Nr.n) i xs) (hxl : xs.length ≤ 20) (w : World) (hBi : Bi < w.heap.size) (hBt : Bt < w.heap.size) (hb : b < w.heap.size) (hu : UpAt w Bi Bt b off len c i R) :
    Calls Tryz.prog 34 #[.func (.func 63) #[] #[.pointer (some ⟨Bi, 0, none⟩), .pointer (some ⟨Bt, 0, none⟩)]] w fun e W' => (∃ v, e = .returned v ∧ W'.ownsRow w.heap.size 3 1 v xs.length (nvalsW xs)) ∧ Below w.heap.size w W' := by
  have HU := Lib.hid hu
  clear hu
  go_enter Tryz.func34, Tryz.ntmps34
  go_wp2_with fail
  with_reducible refine (appendSeq_up Bi Bt b off len c R i xs hlen hL hup hxl _ hBi hBt hb HU.out).mono ?_
  rintro e w1 ⟨⟨v, rfl, ho⟩, hb1⟩
  go_wp2
  go_ret
  exact ⟨⟨_, rfl, ho⟩, hb1⟩
end Go.Proofs.YtgdkionmeacalabGreat
end
section
namespace Go.Proofs.YtgdkionmeacalabGreat
open Go.RowKit
set_option linter.unusedVariables false
set_option maxHeartbeats 4000000
theorem new_full {w : World} {o : Obj} {cs : Array Value} {T : TypeId} (p : Nr) (ho : o = .cells cs T (0, 0)) (hs : cs.size = 34) : ((w.alloc o).setCells w.heap.size 0 (valsNr p)).heap[w.heap.size]? = some (.cells (valsNr p).toArray T (0, 0)) := by
  subst ho
  rw [heap_setCells (valsNr p) 0 _ _ (newS w _), wrAt_all (by rw [hs]; rfl)]
theorem nok_kids {R : List Nr} {k : Nat} {p : Nr} (hall : (List.range k).all (nokB (R.map Nr.n)) = true) (hp : R[k]? = some p) (hup : upB k p.n = true) (h0 : k ≠ 0) :
    ∃ (m : Nat) (u : Nr), p.n.pa = m ∧ m < k ∧ R[m]? = some u ∧ (u.n.ki = 1 → (1 ≤ u.n.cs.length ∧ u.n.cs.length ≤ 5) ∧ (1 ≤ u.n.rs.length ∧ u.n.rs.length ≤ 5)) ∧ clB (R.map Nr.n) k p.n = (decide (u.n.ki ≠ 1) || cellB u.n.cs.length u.n.rs.length p.n.ce) := by
  unfold upB at hup
  rw [if_neg h0, rng_iff] at hup
  obtain ⟨m, hm⟩ := Int.eq_ofNat_of_zero_le hup.1
  have hmk : m < k := by omega
  have hkl := (List.getElem?_eq_some_iff.1 hp).1
  have hml : m < R.length := by omega
  have hu : R[m]? = some R[m] := List.getElem?_eq_getElem hml
  refine ⟨m, R[m], hm, hmk, hu, fun hk => ?_, ?_⟩
  · have h1 := List.all_eq_true.1 hall m (List.mem_range.2 hmk)
    rw [nokB_at (n := (R[m]).n) (by rw [List.getElem?_map, hu]; rfl)] at h1
    simp only [Bool.and_eq_true] at h1
    obtain ⟨l1, l2⟩ := own_lines h1.1 hk
    exact ⟨linesB_len' l1, linesB_len' l2⟩
  · unfold clB
    rw [if_neg h0, hm]
    simp only [Int.toNat_natCast]
    rw [List.getElem?_map, hu]
    rfl
set_option maxRecDepth 100000 in
theorem ValidTree_v (A : Option Addr) (c : Nat) (R : List Nr) (b : Bool) (w : World) (h : NrV w A R) (hr : RdR w R) (hL : R.length ≤ 1048576) (hm : ∀ p ∈ R, p.n.cs.length ≤ 1048576 ∧ p.n.rs.length ≤ 1048576) (hb : treeB (R.map Nr.n) = b) :
    Calls Tryz.prog 23 #[.agg #[.slice A R.length c]] w fun e w' => e = .returned (.bool b) ∧ Below w.heap.size w w' := by
  have hB0 : Below w.heap.size w (w.alloc (.cells #[.slice A R.length c] 25 (0, 0))) := balloc (Below.refl _ _)
  have HX := Lib.hid (newS w (.cells #[.slice A R.length c] 25 (0, 0)))
  have HB := Lib.hid hB0
  have HV := Lib.hid (h.keep hB0)
  have HR := Lib.hid (hr.keep hB0)
  have HM := Lib.hid hm
  have x0 := cellS HX.out 0
  have lx := ltS HX.out
  clear hB0 h hr hm
  cases hl : rng R.length 1 10
  · obtain rfl : false = b := by rw [← hb]; unfold treeB; rw [List.length_map, hl]; rfl
    go_enter Tryz.func23, Tryz.ntmps23
    go_wp2_with fail
    with_reducible refine (within_w _ 1 10 false _ hl).mono ?_
    rintro e w' ⟨rfl, rfl⟩
    go_wp2
    go_ret
    exact ⟨rfl, HB.out⟩
  · have hl2 : 1 ≤ R.length ∧ R.length ≤ 10 := by rw [rng_iff] at hl; omega
    have hb2 : (List.range R.length).all (nokB (R.map Nr.n)) = b := by rw [← hb]; unfold treeB; rw [List.length_map, hl]; rfl
    have HBB := Lib.hid hb2
    clear hb hb2
    obtain ⟨hl3, hl4⟩ := hl2
    go_enter Tryz.func23, Tryz.ntmps23
    go_wp2_with fail
    with_reducible refine (within_w _ 1 10 true _ hl).mono ?_
    rintro e w' ⟨rfl, rfl⟩
    go_wp2_with fail
    go_loopw [13] (fun i wr => ∃ k : Nat, k ≤ R.length ∧ i = .int .i64 k ∧ (List.range k).all (nokB (R.map Nr.n)) = true ∧ wr.heap[w.heap.size]? = some (.cells #[.slice A R.length c] 25 (0, 0)) ∧ NrV wr A R ∧ RdR wr R ∧ Below w.heap.size w wr) (fun i _ => R.length - (intOf i).toNat)
    case atStart => exact ⟨0, by omega, rfl, rfl, HX.out, HV.out, HR.out, HB.out⟩
    case round =>
      obtain ⟨k, hk, rfl, hall, hx, hv, hr, hB⟩ := hrel
      clear HX HV HR HB x0 lx
      by_cases hlt : k < R.length
      · have hd : decide ((k : Int) < (R.length : Int)) = true := by simpa using hlt
        have hget : R[k]? = some R[k] := List.getElem?_eq_getElem hlt
        obtain ⟨bl, off, rfl, hbl, hp⟩ := hv.cells (by omega)
        have hLR := hp k _ hget
        have hrd := hr _ (List.mem_of_getElem? hget)
        have hmm := HM.out _ (List.mem_of_getElem? hget)
        generalize R[k] = p at *
        obtain ⟨m1, m2⟩ := hmm
        have hnb : nokB (R.map Nr.n) k = (ndB p.n && (upB k p.n && clB (R.map Nr.n) k p.n)) := nokB_at (by rw [List.getElem?_map, hget]; rfl)
        have HNB := Lib.hid hnb
        have HLR := Lib.hid hLR
        have HG := Lib.hid hget
        have HALL := Lib.hid hall
        have HX := Lib.hid hx
        have HV := Lib.hid hv
        have HR := Lib.hid hr
        have HD := Lib.hid hrd
        have HB := Lib.hid hB
        have lx := ltS hx
        clear hget hp hLR hrd hall hx hv hr hB hnb
        go_upto_region 6 with (first | (refine ldN _ p bl (off + k * 34) rfl rfl rfl HLR.out ?_) | (refine stN (.tmp 4) (.tmp 17) p wr.heap.size 0 rfl rfl rfl rfl (newS _ _) (by show (0 + 34 : Nat) ≤ 34; omega) ?_))
        refine wp_genGG (fun W => W.heap[wr.heap.size]? = some (.cells (valsNr p).toArray 38 (0, 0)) ∧ Below wr.heap.size wr W) ⟨new_full p rfl rfl, below_setCells (Nat.le_refl _) _ _ _ (balloc (Below.refl _ _))⟩ (fun W h0 => ?_)
        obtain ⟨hn, hb⟩ := h0
        replace HX := Lib.hid ((hb.block _ lx).trans HX.out)
        replace HV := Lib.hid (HV.out.keep hb)
        replace HR := Lib.hid (HR.out.keep hb)
        replace HD := Lib.hid (HD.out.keep hb)
        replace HB := Lib.hid (bkeep2 HB.out hb)
        have HN := Lib.hid hn
        clear hn hb lx HLR
        cases h1 : ndB p.n
        · go_wp2_with (refine ldN _ p wr.heap.size 0 rfl rfl rfl (nodeAt HN.out) ?_)
          with_reducible refine (validNode_v p false _ HD.out m1 m2 h1).mono ?_
          rintro e w1 ⟨rfl, hb⟩
          replace HB := Lib.hid (bkeep2 HB.out hb)
          clear hb
          go_wp2
          go_ret
          exact ⟨ret_bool (by rw [← HBB.out]; exact (all_falseG (k := k) (p := k) (by rw [List.getElem?_range (by omega)]) (by rw [HNB.out, h1]; rfl)).symm), HB.out⟩
        · have hx0 := cellS HX.out 0
          go_wp2_with (refine ldN _ p wr.heap.size 0 rfl rfl rfl (nodeAt HN.out) ?_)
          with_reducible refine (validNode_v p true _ HD.out m1 m2 h1).mono ?_
          rintro e w1 ⟨rfl, hb⟩
          clear hx0
          replace HX := Lib.hid ((hb.block _ (Array.getElem?_eq_some_iff.1 HX.out).1).trans HX.out)
          replace HV := Lib.hid (HV.out.keep hb)
          replace HR := Lib.hid (HR.out.keep hb)
          replace HB := Lib.hid (bkeep2 HB.out hb)
          clear hb
          have hx0 := cellS HX.out 0
          cases h2 : upB k p.n
          · go_wp2_with fail
            with_reducible refine (hasParentAhead_v _ c R k p false _ HV.out HG.out hl4 h2).mono ?_
            rintro e w2 ⟨rfl, hb⟩
            clear hx0
            replace HB := Lib.hid (bkeep2 HB.out hb)
            clear hb
            go_wp2
            go_ret
            exact ⟨ret_bool (by rw [← HBB.out]; exact (all_falseG (k := k) (p := k) (by rw [List.getElem?_range (by omega)]) (by rw [HNB.out, h1, h2]; rfl)).symm), HB.out⟩
          · go_wp2_with fail
            with_reducible refine (hasParentAhead_v _ c R k p true _ HV.out HG.out hl4 h2).mono ?_
            rintro e w2 ⟨rfl, hb⟩
            clear hx0
            replace HX := Lib.hid ((hb.block _ (Array.getElem?_eq_some_iff.1 HX.out).1).trans HX.out)
            replace HV := Lib.hid (HV.out.keep hb)
            replace HR := Lib.hid (HR.out.keep hb)
            replace HB := Lib.hid (bkeep2 HB.out hb)
            clear hb
            have hx0 := cellS HX.out 0
            have hcv : ∀ cb, clB (R.map Nr.n) k p.n = cb → Calls Tryz.prog 48 #[.agg #[.slice (some ⟨bl, off, none⟩) R.length c], .int .i64 k] w2 fun e w' => e = .returned (.bool cb) ∧ Below w2.heap.size w2 w' := by
              intro cb hcb
              by_cases hz : k = 0
              · subst hz
                obtain rfl : true = cb := by rw [← hcb]; rfl
                exact hasValidCell_0 _ _ _ _
              · obtain ⟨m, u, e1, e2, e3, e4, e5⟩ := nok_kids HALL.out HG.out h2 hz
                exact hasValidCell_s _ c R k m p u cb _ HV.out HG.out hl4 hz e1 e2 e3 e4 (by rw [← e5]; exact hcb)
            cases h3 : clB (R.map Nr.n) k p.n
            · have HC := Lib.hid (hcv false h3)
              clear hcv
              go_wp2_with fail
              with_reducible refine (HC.out).mono ?_
              rintro e w3 ⟨rfl, hb⟩
              clear hx0 HC
              replace HB := Lib.hid (bkeep2 HB.out hb)
              clear hb
              go_wp2
              go_ret
              exact ⟨ret_bool (by rw [← HBB.out]; exact (all_falseG (k := k) (p := k) (by rw [List.getElem?_range (by omega)]) (by rw [HNB.out, h1, h2, h3]; rfl)).symm), HB.out⟩
            · have HC := Lib.hid (hcv true h3)
              clear hcv
              go_wp2_with fail
              with_reducible refine (HC.out).mono ?_
              rintro e w3 ⟨rfl, hb⟩
              clear hx0 HC
              replace HX := Lib.hid ((hb.block _ (Array.getElem?_eq_some_iff.1 HX.out).1).trans HX.out)
              replace HV := Lib.hid (HV.out.keep hb)
              replace HR := Lib.hid (HR.out.keep hb)
              replace HB := Lib.hid (bkeep2 HB.out hb)
              clear hb
              go_wp2
              go_roundw
              case rel => exact ⟨k + 1, by omega, by go_num, by rw [range_all_succ, HALL.out, HNB.out, h1, h2, h3]; rfl, HX.out, HV.out, HR.out, HB.out⟩
              case measure => simp [intOf]; omega
      · have hd : decide ((k : Int) < (R.length : Int)) = false := decide_eq_false (by omega)
        obtain rfl : k = R.length := by omega
        have HB := Lib.hid hB
        have HALL := Lib.hid hall
        clear hx hv hr hB hall
        go_wp2
        go_ret
        exact ⟨ret_bool (by rw [← HBB.out, HALL.out]), HB.out⟩
end Go.Proofs.YtgdkionmeacalabGreat
end
