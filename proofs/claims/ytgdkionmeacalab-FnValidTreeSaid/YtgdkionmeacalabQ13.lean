import Derived.Test.YtgdkionmeacalabQ12
import Derived.OwnWalk
import Derived.RangeFuncBox
import Derived.RangeFuncNested
import Derived.RangeFuncBound
import Derived.RangeFuncCalls
import Derived.RangeFuncLeaves
import Derived.Shelf.Abstract
import Derived.Shelf.RegionOpen
import Derived.WalkKit
import Derived.OwnWalkIn
import Derived.TacticsInMore
import Derived.LoopNIn
import Derived.LoopIn
import Derived.Maps.AppendAt
section
namespace Go.Proofs.Ytgdkionmeacalab
open Go.RowKit
theorem ValidTree_n (A : Option Addr) (c k : Nat) (R : List Nr) (b : Bool) (w : World) (hk : k = R.length) (h : NrV w A R) (hr : RdR w R) (hL : R.length ≤ 1048576) (hm : ∀ p ∈ R, p.n.cs.length ≤ 1048576 ∧ p.n.rs.length ≤ 1048576) (hb : treeB (R.map Nr.n) = b) :
    Calls Try.prog 11 #[.agg #[.slice A k c]] w fun e w' => e = .returned (.bool b) ∧ Below w.heap.size w w' := by
  subst hk; exact ValidTree_v A c R b w h hr hL hm hb
theorem sValidTree_n (A : Option Addr) (c k : Nat) (R : List Nr) (b : Bool) (w : World) (hk : k = R.length) (h : NrV w A R) (hr : RdR w R) (hL : R.length ≤ 1048576) (hm : ∀ p ∈ R, p.n.cs.length ≤ 1048576 ∧ p.n.rs.length ≤ 1048576) (hb : treeB (R.map Nr.n) = b) :
    Calls Try.prog 17 #[.agg #[.slice A k c]] w fun e w' => e = .returned (.bool b) ∧ Below w.heap.size w w' := by
  subst hk; exact sValidTree_v A c R b w h hr hL hm hb
theorem svalidTree_n (A : Option Addr) (c k : Nat) (R : List Nr) (b : Bool) (w : World) (hk : k = R.length) (h : NrV w A R) (hr : RdR w R) (hL : R.length ≤ 1048576) (hm : ∀ p ∈ R, p.n.cs.length ≤ 1048576 ∧ p.n.rs.length ≤ 1048576) (hb : treeB (R.map Nr.n) = b) :
    Calls Try.prog 37 #[.agg #[.slice A k c]] w fun e w' => e = .returned (.bool b) ∧ Below w.heap.size w w' := by
  subst hk; exact svalidTree_v A c R b w h hr hL hm hb
end Go.Proofs.Ytgdkionmeacalab
end
section
namespace Go.Proofs.Ytgdkionmeacalab
open Go.RowKit
set_option linter.unusedVariables false
set_option maxHeartbeats 1000000
def nvalsW (L : List Int) : List Value := L.map (Value.int .i64)
theorem nvalsW_snoc (L : List Int) (x : Int) : nvalsW L ++ [.int .i64 x] = nvalsW (L ++ [x]) := by simp [nvalsW]
/-- a block with room: what it holds ahead -/
def OB (w : World) (g cap : Nat) (L : List Int) : Prop := L.length ≤ cap ∧ ∃ cs : Array Value, w.heap[g]? = some (.cells cs 3 (0, 0)) ∧ cs.size = cap ∧ ∀ (i : Nat) (x : Int), L[i]? = some x → cs[i]? = some (Value.int .i64 x)
theorem OB.lt {w : World} {g cap : Nat} {L : List Int} (h : OB w g cap L) : g < w.heap.size := by obtain ⟨_, cs, hh, _⟩ := h; exact ltS hh
theorem OB.keep {w w' : World} {g cap : Nat} {L : List Int} (h : OB w g cap L) (hb : Below w.heap.size w w') : OB w' g cap L := by
  obtain ⟨hl, cs, hh, hs, hc⟩ := h
  exact ⟨hl, cs, (hb.block g (ltS hh)).trans hh, hs, hc⟩
theorem OB.cell {w : World} {g cap i : Nat} {L : List Int} {x : Int} (h : OB w g cap L) (hx : L[i]? = some x) : w.cell? ⟨g, i, none⟩ = some (.int .i64 x) := by
  obtain ⟨hl, cs, hh, hs, hc⟩ := h
  exact (cellS hh i).trans (hc i x hx)
theorem OB.frozen {w : World} {g cap : Nat} {L : List Int} (h : OB w g cap L) (i : Nat) : w.frozen? ⟨g, i, none⟩ = false := by
  obtain ⟨hl, cs, hh, hs, hc⟩ := h
  exact frozenS hh i
theorem OB.set {w : World} {g cap : Nat} {L : List Int} (h : OB w g cap L) (i : Nat) (y : Int) (hi : i < L.length) : OB (w.setCell ⟨g, i, none⟩ (.int .i64 y)) g cap (L.set i y) := by
  obtain ⟨hl, cs, hh, hs, hc⟩ := h
  refine ⟨by rw [List.length_set]; exact hl, _, putS hh _, by simp [hs], fun k x hk => ?_⟩
  by_cases e : i = k
  · subst e
    rw [List.getElem?_set_self hi] at hk
    obtain rfl := Option.some.inj hk
    rw [Array.getElem?_setIfInBounds_self_of_lt (by omega)]
  · rw [List.getElem?_set_ne e] at hk
    rw [Array.getElem?_setIfInBounds_ne e]
    exact hc k x hk
theorem OB.nv {w : World} {g cap : Nat} {L : List Int} (h : OB w g cap L) : NV w (some ⟨g, 0, none⟩) L :=
  ⟨fun _ => ⟨g, 0, rfl, h.lt, fun i x hx => by rw [Nat.zero_add]; exact h.cell hx⟩⟩
theorem own_inW {w : World} {base n : Nat} {v : Value} {M : List Int} (h : w.ownsRow base 3 1 v n (nvalsW M)) (hn : n = M.length) :
    (v = .slice none 0 0 ∧ M = []) ∨ ∃ g cap, v = .slice (some ⟨g, 0, none⟩) n cap ∧ base ≤ g ∧ OB w g cap M := by
  rcases h.2 with ⟨rfl, h0⟩ | ⟨g, cap, cur, rfl, hb, hg, hc, _, hs, ht⟩
  · exact .inl ⟨rfl, List.length_eq_zero_iff.1 (by omega)⟩
  · refine .inr ⟨g, cap, rfl, hb, by omega, cur, hg, by omega, fun i x hx => ?_⟩
    have e : (nvalsW M)[i]? = some (Value.int .i64 x) := by simp [nvalsW, hx]
    have hi := (List.getElem?_eq_some_iff.1 hx).1
    rw [← ht, List.getElem?_take] at e
    rw [if_pos (by omega)] at e
    simpa using e
theorem int_infoW : ∃ (i : TypeInfo) (z : Value), Try.prog.info? 3 = some i ∧ i.zero = some z ∧ i.size = 1 ∧ i.bytes = 8 ∧ z.cells.size = 1 := by
  have hinfo : (Try.prog.info? 3).map (fun i => (i.zero, i.size, i.bytes)) = some (some (.int .i64 0), 1, 8) := by kernel_rfl
  obtain ⟨i, hi, h1, h2, h3⟩ := info_parts hinfo
  exact ⟨i, _, hi, h1, h2, h3, rfl⟩
theorem newW (W : World) (x : Int) (T : TypeId) : ∀ (j : Nat) (u : Value), [Value.int .i64 x][j]? = some u → (W.alloc (.cells #[.int .i64 x] T)).cell? ((⟨W.heap.size, 0, none⟩ : Addr).add j) = some u := fun j u h => by
  have hadd : (⟨W.heap.size, 0, none⟩ : Addr).add j = ⟨W.heap.size, j, none⟩ := by unfold Addr.add; split <;> simp_all
  rw [hadd]
  exact (cellS (newS W _) j).trans (by simpa using h)
theorem below_own {n : Nat} {a W w5 : World} {v : Value} {o : Obj} {lo hi : Nat} (h : Below n a W) (hg : (W.alloc o).grownBy w5 v.ownBlock) (hob : ∀ k, v.ownBlock = some k → lo ≤ k ∧ k < hi) (hlo : n ≤ lo) (hn : n ≤ a.heap.size) : Below n a w5 :=
  have h' : Below n a (W.alloc o) := h.alloc (Nat.le_trans hn h.size) o
  ⟨hg.os.trans h'.os, hg.tape.trans h'.tape, hg.output.trans h'.output, Nat.le_trans h'.size hg.size, fun k hk => (hg.block k (Nat.lt_of_lt_of_le (Nat.lt_of_lt_of_le hk hn) h'.size) (fun e => by have := hob k e.symm; omega)).trans (h'.block k hk)⟩
end Go.Proofs.Ytgdkionmeacalab
end
section
namespace Go.Proofs.Ytgdkionmeacalab
open Go.RowKit
set_option linter.unusedVariables false
set_option maxHeartbeats 4000000
attribute [local go_sem] Oper.semAt_some
/-! The way up. -/
def IsUp (L : List Nd) : Int → List Int → Prop
  | p, [] => p = -1
  | p, x :: xs => x = p ∧ 0 ≤ p ∧ ∃ n : Nd, L[p.toNat]? = some n ∧ n.pa < p ∧ -1 ≤ n.pa ∧ IsUp L n.pa xs
theorem IsUp.cons {L : List Nd} {p : Int} {xs : List Int} {n : Nd} (h0 : 0 ≤ p) (hn : L[p.toNat]? = some n) (h1 : n.pa < p) (h2 : -1 ≤ n.pa) (h : IsUp L n.pa xs) : IsUp L p (p :: xs) := by
  unfold IsUp; exact ⟨rfl, h0, n, hn, h1, h2, h⟩
theorem IsUp.nil {L : List Nd} : IsUp L (-1) [] := by unfold IsUp; rfl
theorem tree_nok {L : List Nd} (h : treeB L = true) {k : Nat} {n : Nd} (hn : L[k]? = some n) : ndB n = true ∧ upB k n = true ∧ clB L k n = true := by
  unfold treeB at h
  rw [Bool.and_eq_true] at h
  have hk : k < L.length := (List.getElem?_eq_some_iff.1 hn).1
  have := List.all_eq_true.1 h.2 k (List.mem_range.2 hk)
  rw [nokB_at hn, Bool.and_eq_true, Bool.and_eq_true] at this
  exact this
theorem tree_len {L : List Nd} (h : treeB L = true) : 1 ≤ L.length ∧ L.length ≤ 10 := by
  unfold treeB at h
  rw [Bool.and_eq_true, rng_iff] at h
  omega
theorem up_ex {L : List Nd} (ht : treeB L = true) (k : Nat) : k < L.length → ∃ xs, IsUp L (k : Int) xs ∧ xs.length ≤ k + 1 := by
  induction k using Nat.strongRecOn with
  | ind k ih =>
    intro hk
    obtain ⟨n, hn⟩ : ∃ n, L[k]? = some n := ⟨_, List.getElem?_eq_getElem hk⟩
    obtain ⟨-, hup, -⟩ := tree_nok ht hn
    by_cases h0 : k = 0
    · subst h0
      rw [upB, if_pos rfl] at hup
      have hp := of_decide_eq_true hup
      exact ⟨[((0 : Nat) : Int)], IsUp.cons (by omega) (by simpa using hn) (by omega) (by omega) (by rw [hp]; exact IsUp.nil), by simp⟩
    · rw [upB, if_neg h0, rng_iff] at hup
      obtain ⟨m, hm⟩ := Int.eq_ofNat_of_zero_le hup.1
      obtain ⟨xs, h1, h2⟩ := ih m (by omega) (by omega)
      exact ⟨(k : Int) :: xs, IsUp.cons (by omega) (by simpa using hn) (by omega) (by omega) (by rw [hm]; exact h1), by simp; omega⟩
/-- what a round must keep: the two variables of the iterator, and the nodes -/
def KU (Bi Bt b : Nat) (X Y : World) : Prop := Y.heap[Bi]? = X.heap[Bi]? ∧ Y.heap[Bt]? = X.heap[Bt]? ∧ Y.heap[b]? = X.heap[b]?
theorem KU.trans {Bi Bt b : Nat} {A B C : World} (h : KU Bi Bt b A B) (k : KU Bi Bt b B C) : KU Bi Bt b A C := ⟨k.1.trans h.1, k.2.1.trans h.2.1, k.2.2.trans h.2.2⟩
theorem KU.of {Bi Bt b n0 : Nat} {A B : World} (h : Below n0 A B) (h1 : Bi < n0) (h2 : Bt < n0) (h3 : b < n0) : KU Bi Bt b A B := ⟨h.block _ h1, h.block _ h2, h.block _ h3⟩
/-- the iterator's variables and the nodes -/
structure UpAt (W : World) (Bi Bt b off len c : Nat) (i : Int) (R : List Nr) : Prop where
  hi : W.cell? ⟨Bi, 0, none⟩ = some (.int .i64 i)
  ht : W.cell? ⟨Bt, 0, none⟩ = some (.slice (some ⟨b, off, none⟩) len c)
  hn : ∀ (k : Nat) (p : Nr), R[k]? = some p → W.rangeAt b (off + k * 34) (valsNr p)
theorem UpAt.keep {W W' : World} {Bi Bt b off len c : Nat} {i : Int} {R : List Nr} (h : UpAt W Bi Bt b off len c i R) (hk : KU Bi Bt b W W') : UpAt W' Bi Bt b off len c i R :=
  ⟨(World.cell?_of_block (a := ⟨Bi, 0, none⟩) hk.1).trans h.hi, (World.cell?_of_block (a := ⟨Bt, 0, none⟩) hk.2.1).trans h.ht, fun k p hp => rangeB (h.hn k p hp) hk.2.2⟩
set_option maxRecDepth 100000 in
theorem up1_in (F : Fence) (n : Nat) (hF : F.fn 51) (hro : F.round = none) (hn : 1 ≤ n) (l Bi Bt b off len c : Nat) (R : List Nr) (i : Int) (xs : List Int) (hlen : len = R.length) (hL : R.length ≤ 1048576) (hup : IsUp (R.map Nr.n) i xs) (J Jx : List Int → World → Prop)
    (hY : ∀ pre x W, J pre W → pre.length < xs.length → YieldAt F (n - 1) Try.prog l #[.int .i64 x] W fun e W' =>
      (e = .returned (.bool true) ∧ J (pre ++ [x]) W' ∧ KU Bi Bt b W W') ∨ (e = .returned (.bool false) ∧ Jx (pre ++ [x]) W'))
    (W : World) (hu : UpAt W Bi Bt b off len c i R) (h0 : J [] W) :
    CallsIn F n Try.prog 51 #[.func (.yield l) #[] #[], .pointer (some ⟨Bi, 0, none⟩), .pointer (some ⟨Bt, 0, none⟩)] W fun e W' => (∃ v, e = .returned v) ∧
      ((∃ ys, ys = xs ∧ J ys W') ∨ (∃ pre, True ∧ Jx pre W')) := by
  have hci := hu.hi
  have HU := Lib.hid hu
  have HUP := Lib.hid hup
  clear hu hup
  refine callsIn_of_wp Try.func51 rfl hF ?_ hro
  simp only [Try.ntmps51, List.size_toArray, List.length_cons, List.length_nil, Nat.reduceAdd, Nat.reduceSub, Array.replicate_succ, Array.replicate_zero, List.push_toArray, List.append_toArray, List.nil_append, List.cons_append]
  gi_wp2
  clear hci
  gi_loopw [4] (fun p wr => ∃ (pre rest : List Int) (q : Int), p = .int .i64 q ∧ xs = pre ++ rest ∧ IsUp (R.map Nr.n) q rest ∧ KU Bi Bt b W wr ∧ J pre wr) (fun p _ => (intOf p + 1).toNat)
  case atStart => exact ⟨[], xs, i, rfl, rfl, HUP.out, ⟨rfl, rfl, rfl⟩, h0⟩
  case round =>
    obtain ⟨pre, rest, q, rfl, hx, hl, hK, hJs⟩ := hrel
    cases rest with
    | nil =>
      obtain rfl : q = -1 := hl
      have HXX := Lib.hid hx
      clear hx
      gi_wp2
      go_end0
      exact ⟨⟨_, rfl⟩, .inl ⟨pre, by have := HXX.out; simp at this; exact this.symm, hJs⟩⟩
    | cons x rest =>
      obtain ⟨rfl, h0q, nd, hnd, hlt, hge, hr⟩ := hl
      obtain ⟨k, rfl⟩ := Int.eq_ofNat_of_zero_le h0q
      rw [Int.toNat_natCast, List.getElem?_map] at hnd
      obtain ⟨p, hp, rfl⟩ := Option.map_eq_some_iff.1 hnd
      have hkl : k < R.length := (List.getElem?_eq_some_iff.1 hp).1
      have hkl' : (k : Int) < (len : Int) := by omega
      have hne : (((k : Nat) : Int) != -1) = true := by rw [bne_iff_ne]; omega
      have hlx : pre.length < xs.length := by rw [hx]; simp
      obtain ⟨fn, tmps, assign, body, hy, hR⟩ := hY pre (k : Int) wr hJs hlx
      have HXX := Lib.hid hx
      have HP := Lib.hid hp
      have HK := Lib.hid hK
      have HRR := Lib.hid hr
      obtain ⟨z, hz⟩ : ∃ z, p.n.pa = z := ⟨_, rfl⟩
      have HZ := Lib.hid hz
      rw [hz] at hlt hge
      clear hx hp hK hr hnd hz
      gi_wp2
      refine hR.mono ?_
      rintro e W3 (⟨rfl, hJ3, hk3⟩ | ⟨rfl, hJx3⟩)
      · have hu3 := (HU.out.keep HK.out).keep hk3
        have ct := hu3.ht
        have cp : W3.cell? ⟨b, off + k * 34, none⟩ = some (.int .i64 p.n.pa) := hu3.hn k p HP.out 0 _ rfl
        rw [HZ.out] at cp
        have HK3 := Lib.hid (KU.trans HK.out hk3)
        clear hu3 hk3
        gi_wp2
        go_roundw
        case rel => exact ⟨pre ++ [(k : Int)], rest, z, rfl, by rw [HXX.out]; simp, by have := HRR.out; rwa [HZ.out] at this, HK3.out, hJ3⟩
        case measure => simp [intOf]; omega
      · gi_wp2
        refine bodyPost_ret (results_none rfl _ _ _) rfl ?_
        exact ⟨⟨_, rfl⟩, .inr ⟨_, trivial, hJx3⟩⟩
theorem up_stops (F : Fence) (n : Nat) (hF : F.fn 51) (hro : F.round = none) (hn : 1 ≤ n) (Bi Bt b off len c : Nat) (R : List Nr) (i : Int) (xs : List Int) (hlen : len = R.length) (hL : R.length ≤ 1048576) (hup : IsUp (R.map Nr.n) i xs) (w : World) (hBi : Bi < w.heap.size) (hBt : Bt < w.heap.size) (hb : b < w.heap.size) (hu : UpAt w Bi Bt b off len c i R) :
    SeqStopsK F n Try.prog 51 #[.pointer (some ⟨Bi, 0, none⟩), .pointer (some ⟨Bt, 0, none⟩)] (fun x : Int => #[Value.int .i64 x]) (KU Bi Bt b) (fun ys => ys = xs) (fun _ => True) xs.length w := fun l J Jx W hW _ _ hY h0 =>
  up1_in F n hF hro hn l Bi Bt b off len c R i xs hlen hL hup J Jx hY W (hu.keep (KU.of hW hBi hBt hb)) h0
set_option maxRecDepth 100000 in
theorem upFrom_v (A : Option Addr) (m c : Nat) (i : Int) (w : World) :
    Calls Try.prog 33 #[.agg #[.slice A m c], .int .i64 i] w fun e w' => e = .returned (.func (.func 51) #[] #[.pointer (some ⟨w.heap.size + 1, 0, none⟩), .pointer (some ⟨w.heap.size, 0, none⟩)]) ∧ w' = (w.alloc (.cells #[.slice A m c] 25)).alloc (.cells #[.int .i64 i] 3) := by
  go_enter Try.func33, Try.ntmps33
  go_wp2
  go_ret
  exact ⟨rfl, rfl⟩
set_option maxRecDepth 100000 in
theorem appendSeq_up (Bi Bt b off len c : Nat) (R : List Nr) (i : Int) (xs : List Int) (hlen : len = R.length) (hL : R.length ≤ 1048576) (hup : IsUp (R.map Nr.n) i xs) (hxl : xs.length ≤ 20) (w : World) (hBi : Bi < w.heap.size) (hBt : Bt < w.heap.size) (hb : b < w.heap.size) (hu : UpAt w Bi Bt b off len c i R) :
    Calls Try.prog 50 #[.slice none 0 0, .func (.func 51) #[] #[.pointer (some ⟨Bi, 0, none⟩), .pointer (some ⟨Bt, 0, none⟩)]] w fun e W' => (∃ v, e = .returned v ∧ W'.ownsRow w.heap.size 3 1 v xs.length (nvalsW xs)) ∧ Below w.heap.size w W' := by
  obtain ⟨ti, tz, ti1, ti2, ti3, ti4, ti5⟩ := int_infoW
  refine (callsIn_wide (n := 6)).1 ?_
  refine callsIn_of_wp_marks Try.func50 rfl trivial ?_ rfl
  simp only [Try.ntmps50, List.size_toArray, List.length_cons, List.length_nil, Nat.reduceAdd, Nat.reduceSub, Array.replicate_succ, Array.replicate_zero, List.push_toArray, List.append_toArray, List.nil_append, List.cons_append]
  have HU := Lib.hid hu
  clear hu
  gi_wp2
  have bO := Boxed.new w 46 (.slice none 0 0)
  have hB0 : Below w.heap.size w (w.alloc (.cells #[.slice none 0 0] 46)) := (Below.refl _ w).alloc (Nat.le_refl _) _
  have hsz : (w.alloc (.cells #[.slice none 0 0] 46)).heap.size = w.heap.size + 1 := by simp
  obtain ⟨W0, hW0⟩ : ∃ W0, w.alloc (.cells #[.slice none 0 0] 46) = W0 := ⟨_, rfl⟩
  rw [hW0] at bO hB0 hsz ⊢
  clear hW0
  refine wpIn_rangeFunc_ownG rfl (by omega) (gf := 51) (lb := #[.pointer (some ⟨Bi, 0, none⟩), .pointer (some ⟨Bt, 0, none⟩)]) rfl trivial (enters_of Try.func51 (by kernel_rfl) rfl)
    (up_stops Fence.wide _ trivial rfl (by omega) Bi Bt b off len c R i xs hlen hL hup W0 (by omega) (by omega) (by omega) (HU.out.keep (KU.of hB0 hBi hBt hb))) KU.trans
    (fun W l o o' hl ho hc hw => ⟨World.putObj_heap_other (by omega), World.putObj_heap_other (by omega), World.putObj_heap_other (by omega)⟩) (Below.refl _ _) (fun _ => rfl)
    (fun pre W => (∃ v, Boxed W w.heap.size 46 v ∧ W.ownsRow w.heap.size 3 1 v pre.length (nvalsW pre) ∧ True) ∧ Below w.heap.size w W)
    (fun _ _ _ => False)
    (OwnFrom.and (Own.from (holdsRow_own w.heap.size w.heap.size 46 3 1 (fun pre : List Int => pre.length) (fun pre => nvalsW pre) (fun _ _ => True)) _) (ownFrom_below (Nat.le_refl _) (by omega)))
    (fun _ _ _ _ _ hs _ _ => hs)
    ⟨⟨_, bO, World.ownsRow_nil _ _ _ _, trivial⟩, hB0⟩
    (fun x => { tmps := #[.slice none 0 0, .func (.func 51) #[] #[.pointer (some ⟨Bi, 0, none⟩), .pointer (some ⟨Bt, 0, none⟩)], .pointer (some ⟨w.heap.size, 0, none⟩), undef, .slice none 0 0, .int .i64 x, .func (.func 51) #[] #[.pointer (some ⟨Bi, 0, none⟩), .pointer (some ⟨Bt, 0, none⟩)], .int .i64 x, undef, undef, undef, undef, undef], defers := [] }) ?assign ?body ?done ?stop
  case assign =>
    intro l x W K hK
    gi_wp2
    exact hK
  case body =>
    rintro l pre x W ⟨⟨v, hv, hrow, -⟩, hB⟩ hlt
    have hc := hv.cell
    have hws := hB.size
    gi_wp2_with (gi_at_builtin; refine wpListIn_append_own _ rfl _ _ 46 rfl w.heap.size 3 ti tz 1 8 Try.underlying46 ti1 ti2 ti3 ti4 ti5 (by decide) _ _ _ rfl (hrow.alloc _) ⟨W.heap.size, 0, none⟩ 1 1 [.int .i64 x] rfl rfl (newW _ _ _) (by simp [Value.oneCell']) (by simp only [maxLen]; omega) (by omega) (by simp; omega) ?_; intro v' w1 hown' hgrow _; obtain ⟨g', cap', rfl⟩ := ownsRow_succ hown'; obtain ⟨hv1, hv2, hr2, hk2, hb2⟩ := hv.appended (by decide) hrow hB.size (Nat.le_refl _) hown' hgrow; have hc1 := hv1.cell; have hf1 := hv1.frozen)
    refine ⟨hk2.from _, KU.of hb2 hBi hBt hb, ⟨_, hv2, by rw [← nvalsW_snoc]; simpa using hr2, trivial⟩, hB.trans hb2⟩
  case done =>
    rintro D ys W hD rfl ⟨⟨v, hv, hrow, -⟩, hB⟩ hK
    have hc := hv.cell
    gi_wp2
    refine ⟨by simp, .inl ⟨_, _, rfl, run_takeDeferred hK, ?_⟩⟩
    exact ⟨_, results_tmp rfl _ _ _, ⟨v, rfl, ownsRow_putObj hrow _ hK rfl⟩, hB.trans (belowK_b (w := w) (Nat.le_refl _) W D _ _ (by omega) hK rfl rfl)⟩
  case stop =>
    rintro D c pre W _ _ h _
    exact h.elim
set_option maxRecDepth 100000 in
theorem collect_up (Bi Bt b off len c : Nat) (R : List Nr) (i : Int) (xs : List Int) (hlen : len = R.length) (hL : R.length ≤ 1048576) (hup : IsUp (R.map Nr.n) i xs) (hxl : xs.length ≤ 20) (w : World) (hBi : Bi < w.heap.size) (hBt : Bt < w.heap.size) (hb : b < w.heap.size) (hu : UpAt w Bi Bt b off len c i R) :
    Calls Try.prog 32 #[.func (.func 51) #[] #[.pointer (some ⟨Bi, 0, none⟩), .pointer (some ⟨Bt, 0, none⟩)]] w fun e W' => (∃ v, e = .returned v ∧ W'.ownsRow w.heap.size 3 1 v xs.length (nvalsW xs)) ∧ Below w.heap.size w W' := by
  have HU := Lib.hid hu
  clear hu
  go_enter Try.func32, Try.ntmps32
  go_wp2_with fail
  with_reducible refine (appendSeq_up Bi Bt b off len c R i xs hlen hL hup hxl _ hBi hBt hb HU.out).mono ?_
  rintro e w1 ⟨⟨v, rfl, ho⟩, hb1⟩
  go_wp2
  go_ret
  exact ⟨⟨_, rfl, ho⟩, hb1⟩
end Go.Proofs.Ytgdkionmeacalab
end
