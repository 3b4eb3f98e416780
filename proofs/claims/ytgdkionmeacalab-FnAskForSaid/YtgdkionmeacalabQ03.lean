import Derived.Test.YtgdkionmeacalabQ02
import Derived.Deep.MidRow
import Derived.BigFrame
import Derived.LoopTactic
import Derived.OwnWalk
import Derived.Lib.SmallJoins
import Derived.Deep.Cut
section
namespace Go.Proofs.Ytgdkionmeacalab
open Go.RowKit
set_option linter.unusedVariables false
set_option maxHeartbeats 1000000
/-- a widget -/
structure Nd where
  pa : Int
  ww : Int
  hh : Int
  ke : Bool
  ki : Int
  cs : List Ln
  rs : List Ln
  pk : Pk
  ce : Ce
  pl : Plc
/-- a widget and where its lines lie -/
structure Nr where
  n : Nd
  ca : Option Addr
  cc : Nat
  ra : Option Addr
  rc : Nat
def valsNr (p : Nr) : List Value := [.int .i64 p.n.pa, .int .i64 p.n.ww, .int .i64 p.n.hh, .bool p.n.ke, .int .i64 p.n.ki, .slice p.ca p.n.cs.length p.cc, .slice p.ra p.n.rs.length p.rc, .int .i64 p.n.pk.w, .int .i64 p.n.pk.h, .int .i64 p.n.pk.s, .bool p.n.pk.fx, .bool p.n.pk.fy, .bool p.n.pk.ex, .int .i64 p.n.pk.an, .int .i64 p.n.pk.px, .int .i64 p.n.pk.py, .int .i64 p.n.ce.co, .int .i64 p.n.ce.ro, .int .i64 p.n.ce.mc, .int .i64 p.n.ce.mr, .int .i64 p.n.ce.cw, .int .i64 p.n.ce.ch, .int .i64 p.n.ce.sk, .int .i64 p.n.ce.px, .int .i64 p.n.ce.py, .int .i64 p.n.pl.x, .int .i64 p.n.pl.y, .int .i64 p.n.pl.rx, .int .i64 p.n.pl.ry, .int .i64 p.n.pl.ww, .int .i64 p.n.pl.hh, .int .i64 p.n.pl.qw, .int .i64 p.n.pl.qh, .int .i64 p.n.pl.an]
theorem valsNr_len (p : Nr) : (valsNr p).length = 34 := rfl
theorem valsNr_one (p : Nr) : ∀ v ∈ valsNr p, v.oneCell' = true := by
  intro v hv
  simp only [valsNr, List.mem_cons, List.not_mem_nil, or_false] at hv
  rcases hv with rfl | rfl | rfl | rfl | rfl | rfl | rfl | rfl | rfl | rfl | rfl | rfl | rfl | rfl | rfl | rfl | rfl | rfl | rfl | rfl | rfl | rfl | rfl | rfl | rfl | rfl | rfl | rfl | rfl | rfl | rfl | rfl | rfl | rfl <;> rfl
theorem valsNr_all (p : Nr) : (valsNr p).toArray.all (·.oneCell') = true := all_oneCell_toArray (valsNr_one p)
/-- a slice whose elements are these widgets -/
structure NrV (w : World) (A : Option Addr) (R : List Nr) : Prop where
  cells : 0 < R.length → ∃ b off, A = some ⟨b, off, none⟩ ∧ b < w.heap.size ∧ ∀ i p, R[i]? = some p → w.rangeAt b (off + i * 34) (valsNr p)
theorem rangeB {w w' : World} {b o : Nat} {cs : List Value} (h : w.rangeAt b o cs) (hb : w'.heap[b]? = w.heap[b]?) : w'.rangeAt b o cs := fun j v hj => (World.cell?_of_block (a := ⟨b, o + j, none⟩) hb).trans (h j v hj)
theorem NrV.keep {w w' : World} {A : Option Addr} {R : List Nr} (h : NrV w A R) (hb : Below w.heap.size w w') : NrV w' A R :=
  ⟨fun h0 => let ⟨b, off, e, hl, hp⟩ := h.cells h0; ⟨b, off, e, Nat.lt_of_lt_of_le hl hb.size, fun i p hi => rangeB (hp i p hi) (hb.block b hl)⟩⟩
theorem NrV.nil (w : World) (A : Option Addr) : NrV w A [] := ⟨fun h => absurd h (by simp)⟩
theorem NrV.take {w : World} {A : Option Addr} {R : List Nr} (h : NrV w A R) (k : Nat) : NrV w A (R.take k) :=
  ⟨fun h0 => let ⟨b, off, e, hl, hp⟩ := h.cells (by simp at h0; omega); ⟨b, off, e, hl, fun i p hi => hp i p (by rw [List.getElem?_take] at hi; split at hi <;> first | exact hi | cases hi)⟩⟩
/-- the lines of a widget lie where it says -/
structure RdN (w : World) (p : Nr) : Prop where
  c : LnV w p.ca p.n.cs
  cl : p.n.cs.length ≤ p.cc
  r : LnV w p.ra p.n.rs
  rl : p.n.rs.length ≤ p.rc
theorem RdN.keep {w w' : World} {p : Nr} (h : RdN w p) (hb : Below w.heap.size w w') : RdN w' p := ⟨h.c.keep hb, h.cl, h.r.keep hb, h.rl⟩
def RdR (w : World) (R : List Nr) : Prop := ∀ p ∈ R, RdN w p
theorem RdR.keep {w w' : World} {R : List Nr} (h : RdR w R) (hb : Below w.heap.size w w') : RdR w' R := fun p hp => (h p hp).keep hb
theorem RdR.take {w : World} {R : List Nr} (h : RdR w R) (k : Nat) : RdR w (R.take k) := fun p hp => h p (List.mem_of_mem_take hp)
/-- what a new block of widgets holds -/
def NrB (w : World) (g : Nat) (R : List Nr) : Prop := ∃ cs : Array Value, w.heap[g]? = some (.cells cs 39 (0, 0)) ∧ cs.size = R.length * 34 ∧ ∀ i p, R[i]? = some p → InS cs (i * 34) (valsNr p)
theorem NrB.lt {w : World} {g : Nat} {R : List Nr} (h : NrB w g R) : g < w.heap.size := by obtain ⟨cs, hh, _⟩ := h; exact ltS hh
theorem NrB.keep {w w' : World} {g : Nat} {R : List Nr} (h : NrB w g R) (hb : Below w.heap.size w w') : NrB w' g R := by
  obtain ⟨cs, hh, hs, hc⟩ := h
  exact ⟨cs, (hb.block g (ltS hh)).trans hh, hs, hc⟩
theorem NrB.but {w w' : World} {g h : Nat} {R : List Nr} (hi : NrB w h R) (hg : w.grownBy w' (some g)) (hne : h ≠ g) : NrB w' h R := by
  obtain ⟨cs, hh, hs, hc⟩ := hi
  exact ⟨cs, (hg.block h (ltS hh) (fun e => hne (Option.some.inj e))).trans hh, hs, hc⟩
theorem NrB.v {w : World} {g : Nat} {R : List Nr} (h : NrB w g R) : NrV w (some ⟨g, 0, none⟩) R := by
  obtain ⟨cs, hh, hs, hc⟩ := h
  refine ⟨fun _ => ⟨g, 0, rfl, ltS hh, fun i p hp j v hj => ?_⟩⟩
  simp only [Nat.zero_add]
  exact (cellS hh _).trans (hc i p hp j v hj)
/-- a variable that holds a widget -/
theorem nodeAt {w : World} {b : Nat} {p : Nr} {T : TypeId} {fz : Nat × Nat} (h : w.heap[b]? = some (.cells (valsNr p).toArray T fz)) : w.rangeAt b 0 (valsNr p) := fun j v hj => by
  rw [Nat.zero_add]
  exact (cellS h j).trans (by simpa using hj)
theorem heap_setCells {g : Nat} {T : TypeId} {fz : Nat × Nat} : ∀ (vs : List Value) (o : Nat) (w : World) (cs : Array Value), w.heap[g]? = some (.cells cs T fz) → (w.setCells g o vs).heap[g]? = some (.cells (wrAt cs o vs) T fz)
  | [], o, w, cs, h => h
  | v :: r, o, w, cs, h => heap_setCells r (o + 1) (w.setCell ⟨g, o, none⟩ v) (cs.setIfInBounds o v) (putS h v)
theorem heap_setCells_ne {g k : Nat} (hk : k ≠ g) : ∀ (vs : List Value) (o : Nat) (w : World), (w.setCells g o vs).heap[k]? = w.heap[k]?
  | [], o, w => rfl
  | v :: r, o, w => (heap_setCells_ne hk r (o + 1) (w.setCell ⟨g, o, none⟩ v)).trans (Below.heap_setCell w ⟨g, o, none⟩ v k hk)
theorem below_setCells {B g : Nat} {a : World} (hg : B ≤ g) : ∀ (vs : List Value) (o : Nat) (w : World), Below B a w → Below B a (w.setCells g o vs)
  | [], o, w, h => h
  | v :: r, o, w, h => below_setCells hg r (o + 1) _ (h.setCell (p := ⟨g, o, none⟩) hg v)
theorem size_setCellsT (g : Nat) : ∀ (vs : List Value) (o : Nat) (w : World), (w.setCells g o vs).heap.size = w.heap.size
  | [], o, w => rfl
  | v :: r, o, w => (size_setCellsT g r (o + 1) _).trans (by simp [World.setCell])
theorem grown_setCells {g : Nat} {a : World} : ∀ (vs : List Value) (o : Nat) (w : World), a.grownBy w (some g) → a.grownBy (w.setCells g o vs) (some g)
  | [], o, w, h => h
  | v :: r, o, w, h => grown_setCells r (o + 1) _ (gsetS h o v)
theorem thereB {w : World} {b : Nat} {cs : Array Value} {T : TypeId} (h : w.heap[b]? = some (.cells cs T (0, 0))) {o n : Nat} (hn : o + n ≤ cs.size) : w.there b o n := fun j hj => by
  refine ⟨?_, frozenS h _⟩
  rw [cellS h]
  simp; omega
theorem ldN {ops : Array Oper} {rest : List Oper} {op : Oper} {a : Act} {w : World} {Q : Exit → Act → World → Prop} (x : Operand) (p : Nr) (b o : Nat) (hgd : op.guard = none) (ho : op.op = .load 39 x) (hx : a.eval x = .pointer (some ⟨b, o, none⟩)) (hc : w.rangeAt b o (valsNr p))
    (h : wpList Try.prog ops Q rest (a.put op.dst (.agg (valsNr p).toArray)) w) : wpList Try.prog ops Q (op :: rest) a w :=
  wpList_load_mid hgd _ x ho b o hx _ _ hc Try.underlying39 rfl (by kernel_rfl) h
theorem stN {ops : Array Oper} {rest : List Oper} {op : Oper} {a : Act} {w : World} {Q : Exit → Act → World → Prop} {cs : Array Value} {T : TypeId} (x y : Operand) (p : Nr) (b o : Nat) (hgd : op.guard = none) (ho : op.op = .store 39 x y) (hx : a.eval x = .pointer (some ⟨b, o, none⟩)) (hy : a.eval y = .agg (valsNr p).toArray) (hb : w.heap[b]? = some (.cells cs T (0, 0))) (hn : o + 34 ≤ cs.size)
    (h : wpList Try.prog ops Q rest (a.put op.dst undef) (w.setCells b o (valsNr p))) : wpList Try.prog ops Q (op :: rest) a w :=
  wpList_store_mid hgd _ x y ho b o _ hx hy (thereB hb hn) (by kernel_rfl) (valsNr_all p) h
theorem ldW {P : Program} {ops : Array Oper} {rest : List Oper} {op : Oper} {a : Act} {w : World} {Q : Exit → Act → World → Prop} (T : TypeId) (x : Operand) (cs : List Value) (b o : Nat) {d : TypeDesc} (ho : op.op = .load T x) (hw : Region.wanted op (yielded ops a.tmps) = true) (hx : a.eval x = .pointer (some ⟨b, o, none⟩))
    (hu : P.underlying T = some d) (hd : d.isRow = true) (hi : (P.info? T).map (·.size) = some cs.length) (hc : w.rangeAt b o cs) (h : wpList P ops Q rest (a.put op.dst (.agg cs.toArray)) w) : wpList P ops Q (op :: rest) a w :=
  BigFrame.wpList_want hw fun K hK => wp_load_mid T x ho b o hx cs d hc hu hd hi (hK _ _ h)
theorem grow_loadM {P : Program} {ops : Array Oper} {o : Oper} {a : Act} {w : World} {K : Act → Prop} (T : TypeId) (x : Operand) (cs : List Value) (b off : Nat) {d : TypeDesc} (ho : o.op = .load T x) (hw : Region.wanted o (yielded ops a.tmps) = true) (hx : a.eval x = .pointer (some ⟨b, off, none⟩))
    (hu : P.underlying T = some d) (hd : d.isRow = true) (hi : (P.info? T).map (·.size) = some cs.length) (hc : ∀ w', Gr w w' → w'.rangeAt b off cs) (hK : K (a.put o.dst (.agg cs.toArray))) : ∃ v, GrowIn P ops o v a w ∧ K (a.put o.dst v) :=
  grow_run _ hw (fun w' hw' => by
    unfold execOp
    simp only [ho, hx, Instr.loadAt, Instr.sureAddr, Sem.run_bind, Sem.run_pure, Result.andThen_ok, run_loadVar_mid w' b off T cs d (hc w' hw') hu hd hi]
    exact ⟨rfl, rfl⟩) hK
theorem grow_ldN {ops : Array Oper} {o : Oper} {a : Act} {w : World} {K : Act → Prop} (x : Operand) (p : Nr) (b off : Nat) (ho : o.op = .load 39 x) (hw : Region.wanted o (yielded ops a.tmps) = true) (hx : a.eval x = .pointer (some ⟨b, off, none⟩))
    (hl : b < w.heap.size) (hc : w.rangeAt b off (valsNr p)) (hK : K (a.put o.dst (.agg (valsNr p).toArray))) : ∃ v, GrowIn Try.prog ops o v a w ∧ K (a.put o.dst v) :=
  grow_loadM 39 x (valsNr p) b off ho hw hx Try.underlying39 rfl (by kernel_rfl) (fun w' hw' => rangeB hc (hw'.out.block b hl)) hK
end Go.Proofs.Ytgdkionmeacalab
end
section
namespace Go.Proofs.Ytgdkionmeacalab
open Go.RowKit
set_option linter.unusedVariables false
set_option maxHeartbeats 1000000
attribute [local go_sem] growUpon_value growUpon_skip growUpon_enter
def szL : List Nr → Nat
  | [] => 0
  | p :: t => p.n.cs.length + p.n.rs.length + szL t
end Go.Proofs.Ytgdkionmeacalab
end
section
namespace Go.Proofs.Ytgdkionmeacalab
open Go.RowKit
set_option linter.unusedVariables false
set_option maxHeartbeats 1000000
theorem pvalidSide_any (k : Int) (w : World) : Calls Try.prog 59 #[.int .i64 k] w fun e w' => e = .returned (.bool (rng k 0 3)) ∧ w = w' := by
  go_enter Try.func59, Try.ntmps59
  go_wp2_with (go_at_call 28; refine (within_any _ _ _ _).mono ?_; rintro e w' ⟨rfl, rfl⟩)
  go_ret
  exact ⟨ret_bool rfl, rfl⟩
theorem pvalidAnchor_any (k : Int) (w : World) : Calls Try.prog 60 #[.int .i64 k] w fun e w' => e = .returned (.bool (rng k 0 8)) ∧ w = w' := by
  go_enter Try.func60, Try.ntmps60
  go_wp2_with (go_at_call 28; refine (within_any _ _ _ _).mono ?_; rintro e w' ⟨rfl, rfl⟩)
  go_ret
  exact ⟨ret_bool rfl, rfl⟩
theorem psvalidSide_any (k : Int) (w : World) : Calls Try.prog 86 #[.int .i64 k] w fun e w' => e = .returned (.bool (rng k 0 3)) ∧ w = w' := by
  go_enter Try.func86, Try.ntmps86
  go_wp2_with (go_at_call 41; refine (inRange_any _ _ _ _).mono ?_; rintro e w' ⟨rfl, rfl⟩)
  go_ret
  exact ⟨ret_bool rfl, rfl⟩
theorem psvalidAnchor_any (k : Int) (w : World) : Calls Try.prog 87 #[.int .i64 k] w fun e w' => e = .returned (.bool (rng k 0 8)) ∧ w = w' := by
  go_enter Try.func87, Try.ntmps87
  go_wp2_with (go_at_call 41; refine (inRange_any _ _ _ _).mono ?_; rintro e w' ⟨rfl, rfl⟩)
  go_ret
  exact ⟨ret_bool rfl, rfl⟩
theorem vp_n12 {w h s an px py : Int} (h1 : (rng w 0 30 && rng h 0 30) = false) : vpB w h s an px py = false := by
  cases a : rng w 0 30 <;> cases b : rng h 0 30 <;> simp [vpB, a, b] at h1 ⊢
set_option maxRecDepth 100000 in
theorem validPack_any (w0 h0 s : Int) (fx fy ex : Bool) (an px py : Int) (w : World) : Calls Try.prog 47 #[.agg #[.int .i64 w0, .int .i64 h0, .int .i64 s, .bool fx, .bool fy, .bool ex, .int .i64 an, .int .i64 px, .int .i64 py]] w fun e w' => e = .returned (.bool (vpB w0 h0 s an px py)) ∧ Below w.heap.size w w' := by
  cases hw : (rng w0 0 30 && rng h0 0 30)
  · go_enter Try.func47, Try.ntmps47
    go_wp2_with (first | (go_at_call 22; refine (validWish_w _ _ _ _ hw).mono ?_; rintro e w' ⟨rfl, rfl⟩) | (go_at_call 28; refine (within_any _ _ _ _).mono ?_; rintro e w' ⟨rfl, rfl⟩) | (go_at_call 59; refine (pvalidSide_any _ _).mono ?_; rintro e w' ⟨rfl, rfl⟩) | (go_at_call 60; refine (pvalidAnchor_any _ _).mono ?_; rintro e w' ⟨rfl, rfl⟩))
    go_ret
    exact ⟨ret_bool (by rw [vp_n12 hw]), (Below.refl _ _).alloc (Nat.le_refl _) _⟩
  have h1 : rng w0 0 30 = true := (Bool.and_eq_true _ _ ▸ hw).1
  have h2 : rng h0 0 30 = true := (Bool.and_eq_true _ _ ▸ hw).2
  cases h3 : rng s 0 3
  · go_enter Try.func47, Try.ntmps47
    go_wp2_with (first | (go_at_call 22; refine (validWish_w _ _ _ _ hw).mono ?_; rintro e w' ⟨rfl, rfl⟩) | (go_at_call 28; refine (within_any _ _ _ _).mono ?_; rintro e w' ⟨rfl, rfl⟩) | (go_at_call 59; refine (pvalidSide_any _ _).mono ?_; rintro e w' ⟨rfl, rfl⟩) | (go_at_call 60; refine (pvalidAnchor_any _ _).mono ?_; rintro e w' ⟨rfl, rfl⟩))
    go_ret
    exact ⟨ret_bool (by rw [vp_n3 h3]), (Below.refl _ _).alloc (Nat.le_refl _) _⟩
  cases h4 : rng an 0 8
  · go_enter Try.func47, Try.ntmps47
    go_wp2_with (first | (go_at_call 22; refine (validWish_w _ _ _ _ hw).mono ?_; rintro e w' ⟨rfl, rfl⟩) | (go_at_call 28; refine (within_any _ _ _ _).mono ?_; rintro e w' ⟨rfl, rfl⟩) | (go_at_call 59; refine (pvalidSide_any _ _).mono ?_; rintro e w' ⟨rfl, rfl⟩) | (go_at_call 60; refine (pvalidAnchor_any _ _).mono ?_; rintro e w' ⟨rfl, rfl⟩))
    go_ret
    exact ⟨ret_bool (by rw [vp_n4 h4]), (Below.refl _ _).alloc (Nat.le_refl _) _⟩
  cases h5 : rng px 0 10
  · go_enter Try.func47, Try.ntmps47
    go_wp2_with (first | (go_at_call 22; refine (validWish_w _ _ _ _ hw).mono ?_; rintro e w' ⟨rfl, rfl⟩) | (go_at_call 28; refine (within_any _ _ _ _).mono ?_; rintro e w' ⟨rfl, rfl⟩) | (go_at_call 59; refine (pvalidSide_any _ _).mono ?_; rintro e w' ⟨rfl, rfl⟩) | (go_at_call 60; refine (pvalidAnchor_any _ _).mono ?_; rintro e w' ⟨rfl, rfl⟩))
    go_ret
    exact ⟨ret_bool (by rw [vp_n5 h5]), (Below.refl _ _).alloc (Nat.le_refl _) _⟩
  go_enter Try.func47, Try.ntmps47
  go_wp2_with (first | (go_at_call 22; refine (validWish_w _ _ _ _ hw).mono ?_; rintro e w' ⟨rfl, rfl⟩) | (go_at_call 28; refine (within_any _ _ _ _).mono ?_; rintro e w' ⟨rfl, rfl⟩) | (go_at_call 59; refine (pvalidSide_any _ _).mono ?_; rintro e w' ⟨rfl, rfl⟩) | (go_at_call 60; refine (pvalidAnchor_any _ _).mono ?_; rintro e w' ⟨rfl, rfl⟩))
  go_ret
  exact ⟨ret_bool (by rw [vp_n6 h1 h2 h3 h4 h5]), (Below.refl _ _).alloc (Nat.le_refl _) _⟩
set_option maxRecDepth 100000 in
theorem specValidPack_any (w0 h0 s : Int) (fx fy ex : Bool) (an px py : Int) (w : World) : Calls Try.prog 69 #[.agg #[.int .i64 w0, .int .i64 h0, .int .i64 s, .bool fx, .bool fy, .bool ex, .int .i64 an, .int .i64 px, .int .i64 py]] w fun e w' => e = .returned (.bool (vpB w0 h0 s an px py)) ∧ Below w.heap.size w w' := by
  cases h1 : rng w0 0 30
  · go_enter Try.func69, Try.ntmps69
    go_wp2_with (first | (go_at_call 41; refine (inRange_any _ _ _ _).mono ?_; rintro e w' ⟨rfl, rfl⟩) | (go_at_call 86; refine (psvalidSide_any _ _).mono ?_; rintro e w' ⟨rfl, rfl⟩) | (go_at_call 87; refine (psvalidAnchor_any _ _).mono ?_; rintro e w' ⟨rfl, rfl⟩))
    go_ret
    exact ⟨ret_bool (by rw [vp_n1 h1]), (Below.refl _ _).alloc (Nat.le_refl _) _⟩
  cases h2 : rng h0 0 30
  · go_enter Try.func69, Try.ntmps69
    go_wp2_with (first | (go_at_call 41; refine (inRange_any _ _ _ _).mono ?_; rintro e w' ⟨rfl, rfl⟩) | (go_at_call 86; refine (psvalidSide_any _ _).mono ?_; rintro e w' ⟨rfl, rfl⟩) | (go_at_call 87; refine (psvalidAnchor_any _ _).mono ?_; rintro e w' ⟨rfl, rfl⟩))
    go_ret
    exact ⟨ret_bool (by rw [vp_n2 h2]), (Below.refl _ _).alloc (Nat.le_refl _) _⟩
  cases h3 : rng s 0 3
  · go_enter Try.func69, Try.ntmps69
    go_wp2_with (first | (go_at_call 41; refine (inRange_any _ _ _ _).mono ?_; rintro e w' ⟨rfl, rfl⟩) | (go_at_call 86; refine (psvalidSide_any _ _).mono ?_; rintro e w' ⟨rfl, rfl⟩) | (go_at_call 87; refine (psvalidAnchor_any _ _).mono ?_; rintro e w' ⟨rfl, rfl⟩))
    go_ret
    exact ⟨ret_bool (by rw [vp_n3 h3]), (Below.refl _ _).alloc (Nat.le_refl _) _⟩
  cases h4 : rng an 0 8
  · go_enter Try.func69, Try.ntmps69
    go_wp2_with (first | (go_at_call 41; refine (inRange_any _ _ _ _).mono ?_; rintro e w' ⟨rfl, rfl⟩) | (go_at_call 86; refine (psvalidSide_any _ _).mono ?_; rintro e w' ⟨rfl, rfl⟩) | (go_at_call 87; refine (psvalidAnchor_any _ _).mono ?_; rintro e w' ⟨rfl, rfl⟩))
    go_ret
    exact ⟨ret_bool (by rw [vp_n4 h4]), (Below.refl _ _).alloc (Nat.le_refl _) _⟩
  cases h5 : rng px 0 10
  · go_enter Try.func69, Try.ntmps69
    go_wp2_with (first | (go_at_call 41; refine (inRange_any _ _ _ _).mono ?_; rintro e w' ⟨rfl, rfl⟩) | (go_at_call 86; refine (psvalidSide_any _ _).mono ?_; rintro e w' ⟨rfl, rfl⟩) | (go_at_call 87; refine (psvalidAnchor_any _ _).mono ?_; rintro e w' ⟨rfl, rfl⟩))
    go_ret
    exact ⟨ret_bool (by rw [vp_n5 h5]), (Below.refl _ _).alloc (Nat.le_refl _) _⟩
  go_enter Try.func69, Try.ntmps69
  go_wp2_with (first | (go_at_call 41; refine (inRange_any _ _ _ _).mono ?_; rintro e w' ⟨rfl, rfl⟩) | (go_at_call 86; refine (psvalidSide_any _ _).mono ?_; rintro e w' ⟨rfl, rfl⟩) | (go_at_call 87; refine (psvalidAnchor_any _ _).mono ?_; rintro e w' ⟨rfl, rfl⟩))
  go_ret
  exact ⟨ret_bool (by rw [vp_n6 h1 h2 h3 h4 h5]), (Below.refl _ _).alloc (Nat.le_refl _) _⟩
end Go.Proofs.Ytgdkionmeacalab
end
section
namespace Go.Proofs.Ytgdkionmeacalab
open Go.RowKit
set_option linter.unusedVariables false
set_option maxHeartbeats 1000000
theorem cellH {w : World} {b : Nat} {cs : Array Value} {T : TypeId} {fz : Nat × Nat} (h : w.heap[b]? = some (.cells cs T fz)) (i : Nat) : w.cell? ⟨b, i, none⟩ = cs[i]? := by simp [World.cell?, h]
theorem heap_new (w : World) (o : Obj) : (w.alloc o).heap[w.heap.size]? = some o := by
  show (w.heap.push o)[w.heap.size]? = some o
  simp
theorem b9c {w : World} {b : Nat} {a0 a1 a2 a3 a4 a5 a6 a7 a8 : Value} {T : TypeId} {fz : Nat × Nat} (h : w.heap[b]? = some (.cells #[a0, a1, a2, a3, a4, a5, a6, a7, a8] T fz)) :
    w.cell? ⟨b, 0, none⟩ = some a0 ∧ w.cell? ⟨b, 1, none⟩ = some a1 ∧ w.cell? ⟨b, 2, none⟩ = some a2 ∧ w.cell? ⟨b, 3, none⟩ = some a3 ∧ w.cell? ⟨b, 4, none⟩ = some a4 ∧ w.cell? ⟨b, 5, none⟩ = some a5 ∧ w.cell? ⟨b, 6, none⟩ = some a6 ∧ w.cell? ⟨b, 7, none⟩ = some a7 ∧ w.cell? ⟨b, 8, none⟩ = some a8 :=
  ⟨cellH h 0, cellH h 1, cellH h 2, cellH h 3, cellH h 4, cellH h 5, cellH h 6, cellH h 7, cellH h 8⟩
end Go.Proofs.Ytgdkionmeacalab
end
section
namespace Go.Proofs.Ytgdkionmeacalab
open Go.RowKit
set_option linter.unusedVariables false
set_option maxHeartbeats 1000000
/-- the sum of a list -/
def sumI : List Int → Int
  | [] => 0
  | x :: t => x + sumI t
theorem sumI_append : ∀ (A B : List Int), sumI (A ++ B) = sumI A + sumI B
  | [], B => by simp [sumI]
  | x :: t, B => by simp [sumI, sumI_append t B]; omega
theorem sumI_snoc {L : List Int} {k : Nat} {x : Int} (h : L[k]? = some x) : sumI (L.take (k + 1)) = sumI (L.take k) + x := by
  obtain ⟨hk, e⟩ := List.getElem?_eq_some_iff.1 h
  rw [List.take_succ_eq_append_getElem hk, sumI_append, e]
  simp [sumI]
theorem sumI_bd {lo hi : Int} : ∀ {L : List Int}, (∀ x ∈ L, lo ≤ x ∧ x ≤ hi) → lo * L.length ≤ sumI L ∧ sumI L ≤ hi * L.length
  | [], _ => by simp [sumI]
  | x :: t, h => by
    have h1 := sumI_bd (L := t) (fun q hq => h q (List.mem_cons_of_mem _ hq))
    have h2 := h x List.mem_cons_self
    simp only [sumI, List.length_cons]
    have e1 : lo * ((t.length + 1 : Nat) : Int) = lo * t.length + lo := by rw [Int.natCast_succ, Int.mul_add, Int.mul_one]
    have e2 : hi * ((t.length + 1 : Nat) : Int) = hi * t.length + hi := by rw [Int.natCast_succ, Int.mul_add, Int.mul_one]
    rw [e1, e2]; omega
/-- all numbers are small -/
def Smal (M : Int) (L : List Int) : Prop := ∀ k, -M ≤ sumI (L.take k) ∧ sumI (L.take k) ≤ M
theorem smal_of {b M : Int} {L : List Int} (h : ∀ x ∈ L, -b ≤ x ∧ x ≤ b) (hb : 0 ≤ b) (hl : b * L.length ≤ M) : Smal M L := fun k => by
  have := sumI_bd (L := L.take k) (fun x hx => h x (List.mem_of_mem_take hx))
  have hk : ((L.take k).length : Int) ≤ L.length := by rw [List.length_take]; omega
  have h1 : b * ((L.take k).length : Int) ≤ b * L.length := Int.mul_le_mul_of_nonneg_left hk hb
  have h2 : -b * ((L.take k).length : Int) = -(b * ((L.take k).length : Int)) := by rw [Int.neg_mul]
  rw [h2] at this
  omega
/-- a slice that reads as this list of numbers -/
structure NV (w : World) (A : Option Addr) (L : List Int) : Prop where
  cells : 0 < L.length → ∃ b off, A = some ⟨b, off, none⟩ ∧ b < w.heap.size ∧ ∀ i x, L[i]? = some x → w.cell? ⟨b, off + i, none⟩ = some (.int .i64 x)
theorem NV.keep {w w' : World} {A : Option Addr} {L : List Int} (h : NV w A L) (hb : Below w.heap.size w w') : NV w' A L :=
  ⟨fun h0 => let ⟨b, off, e, hl, hp⟩ := h.cells h0; ⟨b, off, e, Nat.lt_of_lt_of_le hl hb.size, fun i x hx => (hb.cell (p := ⟨b, off + i, none⟩) hl).trans (hp i x hx)⟩⟩
theorem NV.nil (w : World) (A : Option Addr) : NV w A [] := ⟨fun h => absurd h (by simp)⟩
/-- a part of it, from one index up to another -/
theorem NV.sub {w : World} {b off : Nat} {L : List Int} (hb : b < w.heap.size) (h : ∀ i x, L[i]? = some x → w.cell? ⟨b, off + i, none⟩ = some (.int .i64 x)) (i j : Nat) : NV w (some ⟨b, off + i, none⟩) ((L.drop i).take j) :=
  ⟨fun _ => ⟨b, off + i, rfl, hb, fun k x hx => by
    rw [List.getElem?_take] at hx
    split at hx
    · rw [List.getElem?_drop] at hx
      have := h (i + k) x hx
      rwa [← Nat.add_assoc] at this
    · cases hx⟩⟩
def ivals (L : List Int) : Array Value := (L.map (Value.int .i64)).toArray
/-- a block of numbers -/
def IB (w : World) (g : Nat) (L : List Int) : Prop := w.heap[g]? = some (.cells (ivals L) 3 (0, 0))
theorem IB.lt {w : World} {g : Nat} {L : List Int} (h : IB w g L) : g < w.heap.size := (Array.getElem?_eq_some_iff.1 h).1
theorem IB.cell {w : World} {g i : Nat} {L : List Int} {x : Int} (h : IB w g L) (hx : L[i]? = some x) : w.cell? ⟨g, i, none⟩ = some (.int .i64 x) := by
  have h' : w.heap[g]? = some (.cells (ivals L) 3 (0, 0)) := h
  simp [World.cell?, h', ivals, hx]
theorem IB.frozen {w : World} {g : Nat} {L : List Int} (h : IB w g L) (i : Nat) : w.frozen? ⟨g, i, none⟩ = false := by
  have h' : w.heap[g]? = some (.cells (ivals L) 3 (0, 0)) := h
  simp [World.frozen?, h']
theorem IB.keep {w w' : World} {g : Nat} {L : List Int} (h : IB w g L) (hb : Below w.heap.size w w') : IB w' g L := (hb.block g h.lt).trans h
theorem IB.set {w : World} {g : Nat} {L : List Int} (h : IB w g L) (i : Nat) (x : Int) : IB (w.setCell ⟨g, i, none⟩ (.int .i64 x)) g (L.set i x) := by
  have h' : w.heap[g]? = some (.cells (ivals L) 3 (0, 0)) := h
  show _ = _
  simp [World.setCell, Array.getElem?_modify, h', ivals, List.map_set]
theorem IB.nv {w : World} {g : Nat} {L : List Int} (h : IB w g L) : NV w (some ⟨g, 0, none⟩) L :=
  ⟨fun _ => ⟨g, 0, rfl, h.lt, fun i x hx => by rw [Nat.zero_add]; exact h.cell hx⟩⟩
theorem madeI : ∀ (n : Nat) (w : World), n ≤ 1048576 → (Instr.makeSlice 46 (.int .i64 (n : Int)) (.int .i64 (n : Int))).run Try.prog w = .ok (.slice (some ⟨w.heap.size, 0, none⟩) n n) (w.alloc (.cells (ivals (List.replicate n 0)) 3)) := by
  intro n w hn
  have hinfo : (Try.prog.info? 3).map (fun i => (i.zero, i.size, i.bytes)) = some (some (.int .i64 0), 1, 8) := by kernel_rfl
  obtain ⟨i, hi, h1, h2, h3⟩ := info_parts hinfo
  have hr := run_make (P := Try.prog) w 46 3 i _ Try.underlying46 hi h1 .i64 .i64 n n (by omega) (Int.le_refl _) (by rw [h3]; omega) (by omega)
  rw [h2] at hr
  have e : madeCells (Value.int .i64 0).cells (n * 1) = ivals (List.replicate n 0) := by
    apply Array.ext
    · rw [size_madeCells]; simp [ivals]
    · intro i h1 h2
      simp [madeCells, ivals, Value.cells, Nat.mod_one]
  rw [Int.toNat_natCast, e] at hr
  simpa using hr
theorem makeI_b (n : Nat) (w : World) : IB (w.alloc (.cells (ivals (List.replicate n 0)) 3)) w.heap.size (List.replicate n 0) := by
  show (w.heap.push _)[w.heap.size]? = _
  simp
set_option maxRecDepth 100000 in
theorem sum_v (A : Option Addr) (c : Nat) (L : List Int) (w : World) (h : NV w A L) (hL : L.length ≤ 1048576) (hM : Smal 1000000000000000 L) :
    Calls Try.prog 116 #[.slice A L.length c] w fun e w' => e = .returned (.int .i64 (sumI L)) ∧ w = w' := by
  have HM := Lib.hid hM
  clear hM
  go_enter Try.func116, Try.ntmps116
  go_wp2_with fail
  go_loop [3, 8] (fun s i => ∃ k : Nat, k ≤ L.length ∧ i = .int .i64 k ∧ s = .int .i64 (sumI (L.take k))) (fun _ i => L.length - (intOf i).toNat)
  case atStart => exact ⟨0, by omega, rfl, rfl⟩
  case round =>
    obtain ⟨k, hk, rfl, rfl⟩ := hrel
    by_cases hlt : k < L.length
    · have hd : decide ((k : Int) < (L.length : Int)) = true := by simpa using hlt
      obtain ⟨b, off, rfl, hb, hp⟩ := h.cells (by omega)
      have hget : L[k]? = some L[k] := List.getElem?_eq_getElem hlt
      have c0 := hp k _ hget
      generalize hx : L[k] = x at *
      have hs := sumI_snoc hget
      have b1 := HM.out k
      have b2 := HM.out (k + 1)
      rw [hs] at b2
      obtain ⟨S, hS⟩ : ∃ S, sumI (L.take k) = S := ⟨_, rfl⟩
      rw [hS] at b1 b2 hs
      rw [hS]
      have HS := Lib.hid hs
      clear hs hS hget hx hp
      go_wp2
      go_round
      case rel => exact ⟨k + 1, by omega, by go_num, by rw [HS.out]⟩
      case measure => simp [intOf]; omega
    · have hd : decide ((k : Int) < (L.length : Int)) = false := by simp; omega
      have he : L.take k = L := List.take_of_length_le (by omega)
      rw [he]
      clear he
      go_wp2
      go_ret
      exact ⟨rfl, rfl⟩
end Go.Proofs.Ytgdkionmeacalab
end
section
namespace Go.Proofs.Ytgdkionmeacalab
open Go.RowKit
set_option linter.unusedVariables false
set_option maxHeartbeats 1000000
theorem inRange_q (n a b : Int) (t : Bool) (w : World) (h : rng n a b = t) : Calls Try.prog 41 #[.int .i64 n, .int .i64 a, .int .i64 b] w fun e w' => e = .returned (.bool t) ∧ w = w' := by rw [← h]; exact inRange_any n a b w
theorem within_q (n a b : Int) (t : Bool) (w : World) (h : rng n a b = t) : Calls Try.prog 28 #[.int .i64 n, .int .i64 a, .int .i64 b] w fun e w' => e = .returned (.bool t) ∧ w = w' := by rw [← h]; exact within_any n a b w
theorem shift_t (n : Int) (t : Bool) (w : World) (h : shB n = t) : Calls Try.prog 62 #[.int .i64 n] w fun e w' => e = .returned (.bool t) ∧ w = w' := by
  go_enter Try.func62, Try.ntmps62
  go_wp2_with (go_at_call 28; refine (within_q _ _ _ t _ h).mono ?_; rintro e w' ⟨rfl, rfl⟩)
  go_ret
  exact ⟨rfl, rfl⟩
theorem rel_t (n : Int) (t : Bool) (w : World) (h : reB n = t) : Calls Try.prog 63 #[.int .i64 n] w fun e w' => e = .returned (.bool t) ∧ w = w' := by
  go_enter Try.func63, Try.ntmps63
  go_wp2_with (go_at_call 28; refine (within_q _ _ _ t _ h).mono ?_; rintro e w' ⟨rfl, rfl⟩)
  go_ret
  exact ⟨rfl, rfl⟩
theorem anch_t (k : Int) (t : Bool) (w : World) (h : rng k 0 8 = t) : Calls Try.prog 60 #[.int .i64 k] w fun e w' => e = .returned (.bool t) ∧ w = w' := by
  go_enter Try.func60, Try.ntmps60
  go_wp2_with (go_at_call 28; refine (within_q _ _ _ t _ h).mono ?_; rintro e w' ⟨rfl, rfl⟩)
  go_ret
  exact ⟨rfl, rfl⟩
theorem sanch_t (k : Int) (t : Bool) (w : World) (h : rng k 0 8 = t) : Calls Try.prog 87 #[.int .i64 k] w fun e w' => e = .returned (.bool t) ∧ w = w' := by
  go_enter Try.func87, Try.ntmps87
  go_wp2_with (go_at_call 41; refine (inRange_q _ _ _ t _ h).mono ?_; rintro e w' ⟨rfl, rfl⟩)
  go_ret
  exact ⟨rfl, rfl⟩
theorem all_snocQ {f : Int → Bool} {L : List Int} {k : Nat} {p : Int} (h : L[k]? = some p) : (L.take (k + 1)).all f = ((L.take k).all f && f p) := by
  have hk : k < L.length := (List.getElem?_eq_some_iff.1 h).1
  have e : L[k] = p := (List.getElem?_eq_some_iff.1 h).2
  rw [List.take_succ_eq_append_getElem hk, e]
  simp
theorem new_q (w : World) (o : Obj) : (w.alloc o).heap[w.heap.size]? = some o := by
  show (w.heap.push o)[w.heap.size]? = some o
  simp
theorem newq1 (w : World) (o o' : Obj) : ((w.alloc o).alloc o').heap[w.heap.size + 1]? = some o' := by
  have := new_q (w.alloc o) o'; rwa [World.size_alloc] at this
theorem newq2 (w : World) (o o' o2 : Obj) : (((w.alloc o).alloc o').alloc o2).heap[w.heap.size + 1 + 1]? = some o2 := by
  have := newq1 (w.alloc o) o' o2; rwa [World.size_alloc] at this
theorem cl_q {w : World} {b : Nat} {cs : Array Value} {T : TypeId} {fz : Nat × Nat} (h : w.heap[b]? = some (.cells cs T fz)) (i : Nat) : w.cell? ⟨b, i, none⟩ = cs[i]? := by simp [World.cell?, h]
theorem nv4 {w : World} {g : Nat} {a b c d : Int} {T : TypeId} {fz : Nat × Nat} (h : w.heap[g]? = some (.cells #[.int .i64 a, .int .i64 b, .int .i64 c, .int .i64 d] T fz)) : NV w (some ⟨g, 0, none⟩) [a, b, c, d] :=
  ⟨fun _ => ⟨g, 0, rfl, (Array.getElem?_eq_some_iff.1 h).1, fun i x hx => by
    rw [Nat.zero_add, cl_q h]
    match i, hx with
    | 0, hx => simpa using hx
    | 1, hx => simpa using hx
    | 2, hx => simpa using hx
    | 3, hx => simpa using hx
    | i + 4, hx => simp at hx⟩⟩
set_option maxRecDepth 100000 in
theorem allSh (A : Option Addr) (c : Nat) (L : List Int) (t : Bool) (w : World) (h : NV w A L) (hL : L.length ≤ 1048576) (ht : L.all shB = t) :
    Calls Try.prog 61 #[.slice A L.length c, .func (.func 62) #[] #[]] w fun e w' => e = .returned (.bool t) ∧ w = w' := by
  subst ht
  go_enter Try.func61, Try.ntmps61
  go_wp2_with fail
  go_loop [9] (fun i => ∃ k : Nat, k ≤ L.length ∧ i = .int .i64 k ∧ (L.take k).all shB = true) (fun i => L.length - (intOf i).toNat)
  case atStart => exact ⟨0, by omega, rfl, rfl⟩
  case round =>
    obtain ⟨k, hk, rfl, hok⟩ := hrel
    by_cases hlt : k < L.length
    · have hd : decide ((k : Int) < (L.length : Int)) = true := by simpa using hlt
      obtain ⟨b, off, rfl, hb, hp⟩ := h.cells (by omega)
      have hget : L[k]? = some L[k] := List.getElem?_eq_getElem hlt
      have c0 := hp k _ hget
      generalize hx : L[k] = p at *
      have HG := Lib.hid hget
      have HX := Lib.hid hx
      have HO := Lib.hid hok
      have HP := Lib.hid hp
      clear hget hx hok hp
      cases hv : shB p
      all_goals
        have Hv := Lib.hid hv
        clear hv
        go_wp2_with fail
        first | (with_reducible refine (shift_t p false _ Hv.out).mono ?_) | (with_reducible refine (shift_t p true _ Hv.out).mono ?_)
        rintro e w1 ⟨rfl, rfl⟩
        go_wp2
      · go_ret
        exact ⟨ret_bool (by
          symm
          rw [Bool.eq_false_iff]
          intro hh
          have h1 := List.all_eq_true.1 hh p (List.mem_of_getElem? HG.out)
          rw [Hv.out] at h1
          cases h1), rfl⟩
      · go_round
        case rel => exact ⟨k + 1, by omega, by go_num, by rw [all_snocQ HG.out, HO.out, Hv.out]; rfl⟩
        case measure => simp [intOf]; omega
    · have hd : decide ((k : Int) < (L.length : Int)) = false := by simp; omega
      have he : L.take k = L := List.take_of_length_le (by omega)
      rw [he] at hok
      have HO := Lib.hid hok
      clear hok he
      go_wp2
      go_ret
      exact ⟨ret_bool HO.out.symm, rfl⟩
set_option maxRecDepth 100000 in
theorem allRe (A : Option Addr) (c : Nat) (L : List Int) (t : Bool) (w : World) (h : NV w A L) (hL : L.length ≤ 1048576) (ht : L.all reB = t) :
    Calls Try.prog 61 #[.slice A L.length c, .func (.func 63) #[] #[]] w fun e w' => e = .returned (.bool t) ∧ w = w' := by
  subst ht
  go_enter Try.func61, Try.ntmps61
  go_wp2_with fail
  go_loop [9] (fun i => ∃ k : Nat, k ≤ L.length ∧ i = .int .i64 k ∧ (L.take k).all reB = true) (fun i => L.length - (intOf i).toNat)
  case atStart => exact ⟨0, by omega, rfl, rfl⟩
  case round =>
    obtain ⟨k, hk, rfl, hok⟩ := hrel
    by_cases hlt : k < L.length
    · have hd : decide ((k : Int) < (L.length : Int)) = true := by simpa using hlt
      obtain ⟨b, off, rfl, hb, hp⟩ := h.cells (by omega)
      have hget : L[k]? = some L[k] := List.getElem?_eq_getElem hlt
      have c0 := hp k _ hget
      generalize hx : L[k] = p at *
      have HG := Lib.hid hget
      have HX := Lib.hid hx
      have HO := Lib.hid hok
      have HP := Lib.hid hp
      clear hget hx hok hp
      cases hv : reB p
      all_goals
        have Hv := Lib.hid hv
        clear hv
        go_wp2_with fail
        first | (with_reducible refine (rel_t p false _ Hv.out).mono ?_) | (with_reducible refine (rel_t p true _ Hv.out).mono ?_)
        rintro e w1 ⟨rfl, rfl⟩
        go_wp2
      · go_ret
        exact ⟨ret_bool (by
          symm
          rw [Bool.eq_false_iff]
          intro hh
          have h1 := List.all_eq_true.1 hh p (List.mem_of_getElem? HG.out)
          rw [Hv.out] at h1
          cases h1), rfl⟩
      · go_round
        case rel => exact ⟨k + 1, by omega, by go_num, by rw [all_snocQ HG.out, HO.out, Hv.out]; rfl⟩
        case measure => simp [intOf]; omega
    · have hd : decide ((k : Int) < (L.length : Int)) = false := by simp; omega
      have he : L.take k = L := List.take_of_length_le (by omega)
      rw [he] at hok
      have HO := Lib.hid hok
      clear hok he
      go_wp2
      go_ret
      exact ⟨ret_bool HO.out.symm, rfl⟩
theorem allSh4 {g : Nat} {x y z u : Int} {T : TypeId} {fz : Nat × Nat} (t : Bool) (w : World) (h : w.heap[g]? = some (.cells #[.int .i64 x, .int .i64 y, .int .i64 z, .int .i64 u] T fz)) (ht : [x, y, z, u].all shB = t) :
    Calls Try.prog 61 #[.slice (some ⟨g, 0, none⟩) 4 4, .func (.func 62) #[] #[]] w fun e w' => e = .returned (.bool t) ∧ w = w' := allSh _ 4 [x, y, z, u] t w (nv4 h) (by simp) ht
theorem allRe4 {g : Nat} {x y z u : Int} {T : TypeId} {fz : Nat × Nat} (t : Bool) (w : World) (h : w.heap[g]? = some (.cells #[.int .i64 x, .int .i64 y, .int .i64 z, .int .i64 u] T fz)) (ht : [x, y, z, u].all reB = t) :
    Calls Try.prog 61 #[.slice (some ⟨g, 0, none⟩) 4 4, .func (.func 63) #[] #[]] w fun e w' => e = .returned (.bool t) ∧ w = w' := allRe _ 4 [x, y, z, u] t w (nv4 h) (by simp) ht
end Go.Proofs.Ytgdkionmeacalab
end
section
namespace Go.Proofs.Ytgdkionmeacalab
open Go.RowKit
set_option linter.unusedVariables false
set_option maxHeartbeats 1000000
set_option maxRecDepth 100000 in
theorem svalidPlace_t (p : Plc) (t : Bool) (w : World) (h : plB p = t) : Calls Try.prog 70 #[.agg #[.int .i64 p.x, .int .i64 p.y, .int .i64 p.rx, .int .i64 p.ry, .int .i64 p.ww, .int .i64 p.hh, .int .i64 p.qw, .int .i64 p.qh, .int .i64 p.an]] w fun e w' => e = .returned (.bool t) ∧ Below w.heap.size w w' := by
  cases h1 : rng p.x (-300) 300
  · have ht : false = t := by rw [← h]; simp [plB, shB, reB, h1]
    subst ht
    go_enter Try.func70, Try.ntmps70
    go_wp2_with fail
    with_reducible refine (inRange_q _ _ _ false _ h1).mono ?_
    rintro e w1 ⟨rfl, rfl⟩
    go_wp2
    go_ret
    exact ⟨rfl, (by repeat (first | with_reducible exact Below.refl _ _ | with_reducible assumption | with_reducible refine balloc ?_ | (with_reducible refine bset ?_ ?_; rotate_left; ((try dsimp only); omega)) | refine bkeep2 ?_ (by assumption) | with_reducible refine Below.drew ?_))⟩
  cases h2 : rng p.y (-300) 300
  · have ht : false = t := by rw [← h]; simp [plB, shB, reB, h2]
    subst ht
    go_enter Try.func70, Try.ntmps70
    go_wp2_with fail
    with_reducible refine (inRange_q _ _ _ true _ h1).mono ?_
    rintro e w1 ⟨rfl, rfl⟩
    go_wp2_with fail
    with_reducible refine (inRange_q _ _ _ false _ h2).mono ?_
    rintro e w1 ⟨rfl, rfl⟩
    go_wp2
    go_ret
    exact ⟨rfl, (by repeat (first | with_reducible exact Below.refl _ _ | with_reducible assumption | with_reducible refine balloc ?_ | (with_reducible refine bset ?_ ?_; rotate_left; ((try dsimp only); omega)) | refine bkeep2 ?_ (by assumption) | with_reducible refine Below.drew ?_))⟩
  cases h3 : rng p.rx 0 1000
  · have ht : false = t := by rw [← h]; simp [plB, shB, reB, h3]
    subst ht
    go_enter Try.func70, Try.ntmps70
    go_wp2_with fail
    with_reducible refine (inRange_q _ _ _ true _ h1).mono ?_
    rintro e w1 ⟨rfl, rfl⟩
    go_wp2_with fail
    with_reducible refine (inRange_q _ _ _ true _ h2).mono ?_
    rintro e w1 ⟨rfl, rfl⟩
    go_wp2_with fail
    with_reducible refine (inRange_q _ _ _ false _ h3).mono ?_
    rintro e w1 ⟨rfl, rfl⟩
    go_wp2
    go_ret
    exact ⟨rfl, (by repeat (first | with_reducible exact Below.refl _ _ | with_reducible assumption | with_reducible refine balloc ?_ | (with_reducible refine bset ?_ ?_; rotate_left; ((try dsimp only); omega)) | refine bkeep2 ?_ (by assumption) | with_reducible refine Below.drew ?_))⟩
  cases h4 : rng p.ry 0 1000
  · have ht : false = t := by rw [← h]; simp [plB, shB, reB, h4]
    subst ht
    go_enter Try.func70, Try.ntmps70
    go_wp2_with fail
    with_reducible refine (inRange_q _ _ _ true _ h1).mono ?_
    rintro e w1 ⟨rfl, rfl⟩
    go_wp2_with fail
    with_reducible refine (inRange_q _ _ _ true _ h2).mono ?_
    rintro e w1 ⟨rfl, rfl⟩
    go_wp2_with fail
    with_reducible refine (inRange_q _ _ _ true _ h3).mono ?_
    rintro e w1 ⟨rfl, rfl⟩
    go_wp2_with fail
    with_reducible refine (inRange_q _ _ _ false _ h4).mono ?_
    rintro e w1 ⟨rfl, rfl⟩
    go_wp2
    go_ret
    exact ⟨rfl, (by repeat (first | with_reducible exact Below.refl _ _ | with_reducible assumption | with_reducible refine balloc ?_ | (with_reducible refine bset ?_ ?_; rotate_left; ((try dsimp only); omega)) | refine bkeep2 ?_ (by assumption) | with_reducible refine Below.drew ?_))⟩
  cases h5 : rng p.ww (-300) 300
  · have ht : false = t := by rw [← h]; simp [plB, shB, reB, h5]
    subst ht
    go_enter Try.func70, Try.ntmps70
    go_wp2_with fail
    with_reducible refine (inRange_q _ _ _ true _ h1).mono ?_
    rintro e w1 ⟨rfl, rfl⟩
    go_wp2_with fail
    with_reducible refine (inRange_q _ _ _ true _ h2).mono ?_
    rintro e w1 ⟨rfl, rfl⟩
    go_wp2_with fail
    with_reducible refine (inRange_q _ _ _ true _ h3).mono ?_
    rintro e w1 ⟨rfl, rfl⟩
    go_wp2_with fail
    with_reducible refine (inRange_q _ _ _ true _ h4).mono ?_
    rintro e w1 ⟨rfl, rfl⟩
    go_wp2_with fail
    with_reducible refine (inRange_q _ _ _ false _ h5).mono ?_
    rintro e w1 ⟨rfl, rfl⟩
    go_wp2
    go_ret
    exact ⟨rfl, (by repeat (first | with_reducible exact Below.refl _ _ | with_reducible assumption | with_reducible refine balloc ?_ | (with_reducible refine bset ?_ ?_; rotate_left; ((try dsimp only); omega)) | refine bkeep2 ?_ (by assumption) | with_reducible refine Below.drew ?_))⟩
  cases h6 : rng p.hh (-300) 300
  · have ht : false = t := by rw [← h]; simp [plB, shB, reB, h6]
    subst ht
    go_enter Try.func70, Try.ntmps70
    go_wp2_with fail
    with_reducible refine (inRange_q _ _ _ true _ h1).mono ?_
    rintro e w1 ⟨rfl, rfl⟩
    go_wp2_with fail
    with_reducible refine (inRange_q _ _ _ true _ h2).mono ?_
    rintro e w1 ⟨rfl, rfl⟩
    go_wp2_with fail
    with_reducible refine (inRange_q _ _ _ true _ h3).mono ?_
    rintro e w1 ⟨rfl, rfl⟩
    go_wp2_with fail
    with_reducible refine (inRange_q _ _ _ true _ h4).mono ?_
    rintro e w1 ⟨rfl, rfl⟩
    go_wp2_with fail
    with_reducible refine (inRange_q _ _ _ true _ h5).mono ?_
    rintro e w1 ⟨rfl, rfl⟩
    go_wp2_with fail
    with_reducible refine (inRange_q _ _ _ false _ h6).mono ?_
    rintro e w1 ⟨rfl, rfl⟩
    go_wp2
    go_ret
    exact ⟨rfl, (by repeat (first | with_reducible exact Below.refl _ _ | with_reducible assumption | with_reducible refine balloc ?_ | (with_reducible refine bset ?_ ?_; rotate_left; ((try dsimp only); omega)) | refine bkeep2 ?_ (by assumption) | with_reducible refine Below.drew ?_))⟩
  cases h7 : rng p.qw 0 1000
  · have ht : false = t := by rw [← h]; simp [plB, shB, reB, h7]
    subst ht
    go_enter Try.func70, Try.ntmps70
    go_wp2_with fail
    with_reducible refine (inRange_q _ _ _ true _ h1).mono ?_
    rintro e w1 ⟨rfl, rfl⟩
    go_wp2_with fail
    with_reducible refine (inRange_q _ _ _ true _ h2).mono ?_
    rintro e w1 ⟨rfl, rfl⟩
    go_wp2_with fail
    with_reducible refine (inRange_q _ _ _ true _ h3).mono ?_
    rintro e w1 ⟨rfl, rfl⟩
    go_wp2_with fail
    with_reducible refine (inRange_q _ _ _ true _ h4).mono ?_
    rintro e w1 ⟨rfl, rfl⟩
    go_wp2_with fail
    with_reducible refine (inRange_q _ _ _ true _ h5).mono ?_
    rintro e w1 ⟨rfl, rfl⟩
    go_wp2_with fail
    with_reducible refine (inRange_q _ _ _ true _ h6).mono ?_
    rintro e w1 ⟨rfl, rfl⟩
    go_wp2_with fail
    with_reducible refine (inRange_q _ _ _ false _ h7).mono ?_
    rintro e w1 ⟨rfl, rfl⟩
    go_wp2
    go_ret
    exact ⟨rfl, (by repeat (first | with_reducible exact Below.refl _ _ | with_reducible assumption | with_reducible refine balloc ?_ | (with_reducible refine bset ?_ ?_; rotate_left; ((try dsimp only); omega)) | refine bkeep2 ?_ (by assumption) | with_reducible refine Below.drew ?_))⟩
  cases h8 : rng p.qh 0 1000
  · have ht : false = t := by rw [← h]; simp [plB, shB, reB, h8]
    subst ht
    go_enter Try.func70, Try.ntmps70
    go_wp2_with fail
    with_reducible refine (inRange_q _ _ _ true _ h1).mono ?_
    rintro e w1 ⟨rfl, rfl⟩
    go_wp2_with fail
    with_reducible refine (inRange_q _ _ _ true _ h2).mono ?_
    rintro e w1 ⟨rfl, rfl⟩
    go_wp2_with fail
    with_reducible refine (inRange_q _ _ _ true _ h3).mono ?_
    rintro e w1 ⟨rfl, rfl⟩
    go_wp2_with fail
    with_reducible refine (inRange_q _ _ _ true _ h4).mono ?_
    rintro e w1 ⟨rfl, rfl⟩
    go_wp2_with fail
    with_reducible refine (inRange_q _ _ _ true _ h5).mono ?_
    rintro e w1 ⟨rfl, rfl⟩
    go_wp2_with fail
    with_reducible refine (inRange_q _ _ _ true _ h6).mono ?_
    rintro e w1 ⟨rfl, rfl⟩
    go_wp2_with fail
    with_reducible refine (inRange_q _ _ _ true _ h7).mono ?_
    rintro e w1 ⟨rfl, rfl⟩
    go_wp2_with fail
    with_reducible refine (inRange_q _ _ _ false _ h8).mono ?_
    rintro e w1 ⟨rfl, rfl⟩
    go_wp2
    go_ret
    exact ⟨rfl, (by repeat (first | with_reducible exact Below.refl _ _ | with_reducible assumption | with_reducible refine balloc ?_ | (with_reducible refine bset ?_ ?_; rotate_left; ((try dsimp only); omega)) | refine bkeep2 ?_ (by assumption) | with_reducible refine Below.drew ?_))⟩
  have h9 : rng p.an 0 8 = t := by rw [← h]; simp [plB, shB, reB, h1, h2, h3, h4, h5, h6, h7, h8]
  go_enter Try.func70, Try.ntmps70
  go_wp2_with fail
  with_reducible refine (inRange_q _ _ _ true _ h1).mono ?_
  rintro e w1 ⟨rfl, rfl⟩
  go_wp2_with fail
  with_reducible refine (inRange_q _ _ _ true _ h2).mono ?_
  rintro e w1 ⟨rfl, rfl⟩
  go_wp2_with fail
  with_reducible refine (inRange_q _ _ _ true _ h3).mono ?_
  rintro e w1 ⟨rfl, rfl⟩
  go_wp2_with fail
  with_reducible refine (inRange_q _ _ _ true _ h4).mono ?_
  rintro e w1 ⟨rfl, rfl⟩
  go_wp2_with fail
  with_reducible refine (inRange_q _ _ _ true _ h5).mono ?_
  rintro e w1 ⟨rfl, rfl⟩
  go_wp2_with fail
  with_reducible refine (inRange_q _ _ _ true _ h6).mono ?_
  rintro e w1 ⟨rfl, rfl⟩
  go_wp2_with fail
  with_reducible refine (inRange_q _ _ _ true _ h7).mono ?_
  rintro e w1 ⟨rfl, rfl⟩
  go_wp2_with fail
  with_reducible refine (inRange_q _ _ _ true _ h8).mono ?_
  rintro e w1 ⟨rfl, rfl⟩
  go_wp2_with fail
  with_reducible refine (sanch_t _ t _ h9).mono ?_
  rintro e w1 ⟨rfl, rfl⟩
  go_wp2
  go_ret
  exact ⟨rfl, (by repeat (first | with_reducible exact Below.refl _ _ | with_reducible assumption | with_reducible refine balloc ?_ | (with_reducible refine bset ?_ ?_; rotate_left; ((try dsimp only); omega)) | refine bkeep2 ?_ (by assumption) | with_reducible refine Below.drew ?_))⟩
end Go.Proofs.Ytgdkionmeacalab
end
section
namespace Go.Proofs.Ytgdkionmeacalab
open Go.RowKit
set_option linter.unusedVariables false
set_option maxHeartbeats 1000000
attribute [local go_sem] growUpon_value growUpon_skip growUpon_enter
theorem wp_genGG {P : Program} {c : Code} {Q : Exit → Act → World → Prop} {a : Act} {W : World} (F : World → Prop) (hF : F W) (h : ∀ W0, F W0 → c.wp P Q a W0) : c.wp P Q a W := h W hF
def GB (lo : Nat) (w : World) (v : Value) (L1 L2 : List Ln) (L3 : List Ce) : Prop :=
  ∃ g1 g2 g3 : Nat, v = .agg #[.slice (some ⟨g1, 0, none⟩) L1.length L1.length, .slice (some ⟨g2, 0, none⟩) L2.length L2.length, .slice (some ⟨g3, 0, none⟩) L3.length L3.length] ∧ lo ≤ g1 ∧ g1 < g2 ∧ g2 < g3 ∧ LnB w g1 L1 ∧ LnB w g2 L2 ∧ CeB w g3 L3
theorem GB.any {lo : Nat} {w : World} {v : Value} {L1 L2 : List Ln} {L3 : List Ce} (h : GB lo w v L1 L2 L3) : GB 0 w v L1 L2 L3 := by
  obtain ⟨g1, g2, g3, e, a, b, c, k1, k2, k3⟩ := h
  exact ⟨g1, g2, g3, e, by omega, b, c, k1, k2, k3⟩
theorem GB.keep {lo : Nat} {w w' : World} {v : Value} {L1 L2 : List Ln} {L3 : List Ce} (h : GB lo w v L1 L2 L3) (hb : Below w.heap.size w w') : GB lo w' v L1 L2 L3 := by
  obtain ⟨g1, g2, g3, e, a, b, c, k1, k2, k3⟩ := h
  exact ⟨g1, g2, g3, e, a, b, c, k1.keep hb, k2.keep hb, k3.keep hb⟩
end Go.Proofs.Ytgdkionmeacalab
end
section
namespace Go.Proofs.Ytgdkionmeacalab
open Go.RowKit
set_option linter.unusedVariables false
set_option maxHeartbeats 2000000
/-- a variable of which the first cells are known -/
def PreN (w : World) (z : Nat) (l : List Value) : Prop := ∃ cs : Array Value, w.heap[z]? = some (.cells cs 39 (0, 0)) ∧ cs.size = 34 ∧ InS cs 0 l
theorem PreN.nil {w : World} {z : Nat} {cs : Array Value} (h : w.heap[z]? = some (.cells cs 39 (0, 0))) (hs : cs.size = 34) : PreN w z [] := ⟨cs, h, hs, fun j u hu => by simp at hu⟩
theorem PreN.lt {w : World} {z : Nat} {l : List Value} (h : PreN w z l) : z < w.heap.size := by obtain ⟨cs, hh, _⟩ := h; exact ltS hh
theorem PreN.there {w : World} {z : Nat} {l : List Value} (h : PreN w z l) {o n : Nat} (hn : o + n ≤ 34) : w.there z o n := by
  obtain ⟨cs, hh, hs, _⟩ := h
  exact thereB hh (by omega)
theorem PreN.cell {w : World} {z : Nat} {l : List Value} (h : PreN w z l) {i : Nat} (hi : i < 34) : ∃ v, w.cell? ⟨z, i, none⟩ = some v := by
  obtain ⟨cs, hh, hs, _⟩ := h
  exact thereS hh (by omega)
theorem PreN.frz {w : World} {z : Nat} {l : List Value} (h : PreN w z l) (i : Nat) : w.frozen? ⟨z, i, none⟩ = false := by
  obtain ⟨cs, hh, hs, _⟩ := h
  exact frozenS hh i
theorem PreN.keep {w w' : World} {z : Nat} {l : List Value} (h : PreN w z l) (hb : w'.heap[z]? = w.heap[z]?) : PreN w' z l := by
  obtain ⟨cs, hh, hs, hi⟩ := h
  exact ⟨cs, hb.trans hh, hs, hi⟩
theorem InS_app {cs : Array Value} {l vs : List Value} (h : InS cs 0 l) (hs : l.length + vs.length ≤ cs.size) : InS (wrAt cs l.length vs) 0 (l ++ vs) := fun j u hu => by
  rw [Nat.zero_add]
  by_cases hj : j < l.length
  · rw [List.getElem?_append_left hj] at hu
    rw [wrAt_lo _ _ _ _ hj]
    have := h j u hu
    rwa [Nat.zero_add] at this
  · rw [List.getElem?_append_right (by omega)] at hu
    have hl := (List.getElem?_eq_some_iff.1 hu).1
    have := wrAt_in vs cs l.length (j - l.length) hs hl
    rw [show l.length + (j - l.length) = j by omega] at this
    rw [this, hu]
theorem PreN.more {w : World} {z : Nat} {l vs : List Value} (h : PreN w z l) (hn : l.length + vs.length ≤ 34) : PreN (w.setCells z l.length vs) z (l ++ vs) := by
  obtain ⟨cs, hh, hs, hi⟩ := h
  exact ⟨_, heap_setCells vs l.length w cs hh, by rw [wrAt_size]; exact hs, InS_app hi (by omega)⟩
theorem PreN.one {w : World} {z : Nat} {l : List Value} (h : PreN w z l) (k : Nat) (hk : k = l.length) (v : Value) (hn : k < 34) : PreN (w.setCell ⟨z, k, none⟩ v) z (l ++ [v]) := by
  subst hk; exact h.more (vs := [v]) (by simp; omega)
theorem range_sub {w : World} {b o : Nat} {cs : List Value} (h : w.rangeAt b o cs) (A B C : List Value) (e : cs = A ++ (B ++ C)) (k : Nat) (hk : k = A.length) : w.rangeAt b (o + k) B := fun j v hj => by
  subst hk
  have hl := (List.getElem?_eq_some_iff.1 hj).1
  rw [Nat.add_assoc]
  exact h (A.length + j) v (by rw [e, List.getElem?_append_right (by omega), List.getElem?_append_left (by omega)]; rw [show A.length + j - A.length = j by omega]; exact hj)
theorem node_pk {w : World} {b o : Nat} {p : Nr} (h : w.rangeAt b o (valsNr p)) : w.rangeAt b (o + 7) [.int .i64 p.n.pk.w, .int .i64 p.n.pk.h, .int .i64 p.n.pk.s, .bool p.n.pk.fx, .bool p.n.pk.fy, .bool p.n.pk.ex, .int .i64 p.n.pk.an, .int .i64 p.n.pk.px, .int .i64 p.n.pk.py] := range_sub h ((valsNr p).take 7) _ ((valsNr p).drop 16) rfl 7 rfl
theorem node_ce {w : World} {b o : Nat} {p : Nr} (h : w.rangeAt b o (valsNr p)) : w.rangeAt b (o + 16) [.int .i64 p.n.ce.co, .int .i64 p.n.ce.ro, .int .i64 p.n.ce.mc, .int .i64 p.n.ce.mr, .int .i64 p.n.ce.cw, .int .i64 p.n.ce.ch, .int .i64 p.n.ce.sk, .int .i64 p.n.ce.px, .int .i64 p.n.ce.py] := range_sub h ((valsNr p).take 16) _ ((valsNr p).drop 25) rfl 16 rfl
theorem node_pl {w : World} {b o : Nat} {p : Nr} (h : w.rangeAt b o (valsNr p)) : w.rangeAt b (o + 25) [.int .i64 p.n.pl.x, .int .i64 p.n.pl.y, .int .i64 p.n.pl.rx, .int .i64 p.n.pl.ry, .int .i64 p.n.pl.ww, .int .i64 p.n.pl.hh, .int .i64 p.n.pl.qw, .int .i64 p.n.pl.qh, .int .i64 p.n.pl.an] := range_sub h ((valsNr p).take 25) _ ((valsNr p).drop 34) rfl 25 rfl
theorem newS1T (w : World) (o o' : Obj) : ((w.alloc o).alloc o').heap[w.heap.size + 1]? = some o' := by have := newS (w.alloc o) o'; rwa [World.size_alloc] at this
theorem wrAt_all {cs : Array Value} {l : List Value} (h : cs.size = l.length) : wrAt cs 0 l = l.toArray := by
  apply Array.ext
  · rw [wrAt_size]; simp [h]
  · intro i h1 h2
    have hi : i < l.length := by simpa using h2
    have := wrAt_in l cs 0 i (by omega) hi
    rw [Nat.zero_add, Array.getElem?_eq_getElem h1, List.getElem?_eq_getElem hi] at this
    simpa using this
/-- a widget that was copied -/
def cpN (p : Nr) (g1 g2 : Nat) : Nr := ⟨p.n, some ⟨g1, 0, none⟩, p.n.cs.length, some ⟨g2, 0, none⟩, p.n.rs.length⟩
def CpN (lo : Nat) (w : World) (p q : Nr) : Prop := ∃ g1 g2, q = cpN p g1 g2 ∧ lo ≤ g1 ∧ g1 < g2 ∧ LnB w g1 p.n.cs ∧ LnB w g2 p.n.rs
theorem CpN.keep {lo : Nat} {w w' : World} {p q : Nr} (h : CpN lo w p q) (hb : Below w.heap.size w w') : CpN lo w' p q := by
  obtain ⟨g1, g2, e, h1, h2, h3, h4⟩ := h
  exact ⟨g1, g2, e, h1, h2, h3.keep hb, h4.keep hb⟩
theorem CpN.but {lo z : Nat} {w w' : World} {p q : Nr} (h : CpN lo w p q) (hg : w.grownBy w' (some z)) (hz : z < lo) : CpN lo w' p q := by
  obtain ⟨g1, g2, e, h1, h2, h3, h4⟩ := h
  exact ⟨g1, g2, e, h1, h2, h3.but hg (by omega), h4.but hg (by omega)⟩
theorem CpN.n {lo : Nat} {w : World} {p q : Nr} (h : CpN lo w p q) : q.n = p.n := by obtain ⟨g1, g2, rfl, _⟩ := h; rfl
theorem CpN.rd {lo : Nat} {w : World} {p q : Nr} (h : CpN lo w p q) : RdN w q := by
  obtain ⟨g1, g2, rfl, h1, h2, h3, h4⟩ := h
  exact ⟨h3.v, Nat.le_refl _, h4.v, Nat.le_refl _⟩
end Go.Proofs.Ytgdkionmeacalab
end
section
namespace Go.Proofs.Ytgdkionmeacalab
open Go.RowKit
set_option linter.unusedVariables false
set_option maxHeartbeats 2000000
/-- widgets that were copied, each with lines of its own -/
structure CpR (lo : Nat) (w : World) (R S : List Nr) : Prop where
  len : S.length = R.length
  each : ∀ (i : Nat) (p q : Nr), R[i]? = some p → S[i]? = some q → CpN lo w p q
  apart : ∀ (i j : Nat) (q r : Nr), i < j → S[i]? = some q → S[j]? = some r → ∀ a b : Addr, (q.ca = some a ∨ q.ra = some a) → (r.ca = some b ∨ r.ra = some b) → a.block < b.block
theorem CpR.keep {lo : Nat} {w w' : World} {R S : List Nr} (h : CpR lo w R S) (hb : Below w.heap.size w w') : CpR lo w' R S := ⟨h.len, fun i p q hp hq => (h.each i p q hp hq).keep hb, h.apart⟩
theorem CpR.but {lo z : Nat} {w w' : World} {R S : List Nr} (h : CpR lo w R S) (hg : w.grownBy w' (some z)) (hz : z < lo) : CpR lo w' R S := ⟨h.len, fun i p q hp hq => (h.each i p q hp hq).but hg hz, h.apart⟩
theorem CpR.nil (lo : Nat) (w : World) : CpR lo w [] [] := ⟨rfl, fun i p q hp _ => by simp at hp, fun i j q r _ hq _ => by simp at hq⟩
theorem CpN.blk {lo : Nat} {w : World} {p q : Nr} (h : CpN lo w p q) {a : Addr} (ha : q.ca = some a ∨ q.ra = some a) : lo ≤ a.block ∧ a.block < w.heap.size := by
  obtain ⟨g1, g2, rfl, h1, h2, h3, h4⟩ := h
  have l3 := h3.lt
  have l4 := h4.lt
  rcases ha with ha | ha
  · have e : (⟨g1, 0, none⟩ : Addr) = a := Option.some.inj ha
    subst e; exact ⟨h1, l3⟩
  · have e : (⟨g2, 0, none⟩ : Addr) = a := Option.some.inj ha
    subst e; exact ⟨Nat.le_trans h1 (Nat.le_of_lt h2), l4⟩
theorem CpN.lo' {lo lo' : Nat} {w : World} {p q : Nr} (h : CpN lo' w p q) (hl : lo ≤ lo') : CpN lo w p q := by
  obtain ⟨g1, g2, e, h1, h2, h3, h4⟩ := h
  exact ⟨g1, g2, e, Nat.le_trans hl h1, h2, h3, h4⟩
theorem CpR.snoc {lo : Nat} {w w' : World} {R S : List Nr} {k : Nat} {p q : Nr} (h : CpR lo w (R.take k) S) (hp : R[k]? = some p) (hb : Below w.heap.size w w') (hq : CpN w.heap.size w' p q) (hl : lo ≤ w.heap.size) : CpR lo w' (R.take (k + 1)) (S ++ [q]) := by
  have hk : k < R.length := (List.getElem?_eq_some_iff.1 hp).1
  have hls : S.length = k := by rw [h.len, List.length_take]; omega
  refine ⟨by rw [List.length_append, hls, List.length_take]; simp; omega, fun i p' q' h1 h2 => ?_, fun i j q1 r1 hij h1 h2 a b ha hb' => ?_⟩
  · rw [List.getElem?_take] at h1
    split at h1
    · rename_i hi
      by_cases e : i = k
      · subst e
        rw [hp] at h1
        rw [List.getElem?_append_right (by omega), hls] at h2
        simp at h1 h2
        subst h1 h2
        exact hq.lo' hl
      · rw [List.getElem?_append_left (by omega)] at h2
        exact (h.each i p' q' (by rw [List.getElem?_take, if_pos (by omega)]; exact h1) h2).keep hb
    · cases h1
  · have hj := (List.getElem?_eq_some_iff.1 h2).1
    simp at hj
    by_cases e : j = k
    · subst e
      rw [List.getElem?_append_right (by omega), hls] at h2
      simp at h2
      subst h2
      rw [List.getElem?_append_left (by omega)] at h1
      obtain ⟨p', hp'⟩ : ∃ p', (R.take j)[i]? = some p' := ⟨_, List.getElem?_eq_getElem (by rw [← h.len]; omega)⟩
      have b1 := (h.each i p' q1 hp' h1).blk ha
      have b2 := hq.blk hb'
      omega
    · rw [List.getElem?_append_left (by omega)] at h2
      rw [List.getElem?_append_left (by omega)] at h1
      exact h.apart i j q1 r1 hij h1 h2 a b ha hb'
theorem CpR.rd {lo : Nat} {w : World} {R S : List Nr} (h : CpR lo w R S) : RdR w S := fun q hq => by
  obtain ⟨i, hi, hq⟩ := List.getElem_of_mem hq
  have h2 : S[i]? = some q := by rw [List.getElem?_eq_getElem hi, hq]
  have hi' : i < R.length := by rw [← h.len]; exact hi
  exact (h.each i _ q (List.getElem?_eq_getElem hi') h2).rd
theorem CpR.map {lo : Nat} {w : World} {R S : List Nr} (h : CpR lo w R S) : S.map Nr.n = R.map Nr.n := by
  apply List.ext_getElem?
  intro i
  rw [List.getElem?_map, List.getElem?_map]
  cases hp : R[i]? with
  | none =>
    have := List.getElem?_eq_none_iff.1 hp
    rw [List.getElem?_eq_none (by rw [h.len]; exact this)]
  | some p =>
    have hi := (List.getElem?_eq_some_iff.1 hp).1
    have hi' : i < S.length := by rw [h.len]; exact hi
    have hs : S[i]? = some S[i] := List.getElem?_eq_getElem hi'
    rw [hs]
    simp only [Option.map_some]
    rw [(h.each i p _ hp hs).n]
def TB (lo : Nat) (w : World) (v : Value) (R S : List Nr) : Prop := ∃ g : Nat, v = .agg #[.slice (some ⟨g, 0, none⟩) R.length R.length] ∧ lo ≤ g ∧ NrB w g S ∧ CpR (g + 1) w R S
theorem TB.keep {lo : Nat} {w w' : World} {v : Value} {R S : List Nr} (h : TB lo w v R S) (hb : Below w.heap.size w w') : TB lo w' v R S := by
  obtain ⟨g, e, h1, h2, h3⟩ := h
  exact ⟨g, e, h1, h2.keep hb, h3.keep hb⟩
def TA (lo : Nat) (w : World) (v : Value) (R : List Nr) : Prop := ∃ S, TB lo w v R S
theorem TA.keep {lo : Nat} {w w' : World} {v : Value} {R : List Nr} (h : TA lo w v R) (hb : Below w.heap.size w w') : TA lo w' v R := let ⟨S, hs⟩ := h; ⟨S, hs.keep hb⟩
theorem TA.any {lo : Nat} {w : World} {v : Value} {R : List Nr} (h : TA lo w v R) : TA 0 w v R := by
  obtain ⟨S, g, e, h1, h2, h3⟩ := h
  exact ⟨S, g, e, Nat.zero_le _, h2, h3⟩
/-- what a copied tree is good for -/
theorem TA.open {lo : Nat} {w : World} {v : Value} {R : List Nr} (h : TA lo w v R) : ∃ (g : Nat) (S : List Nr), v = .agg #[.slice (some ⟨g, 0, none⟩) R.length R.length] ∧ lo ≤ g ∧ g < w.heap.size ∧ S.length = R.length ∧ NrV w (some ⟨g, 0, none⟩) S ∧ RdR w S ∧ S.map Nr.n = R.map Nr.n ∧ NrB w g S ∧ CpR (g + 1) w R S := by
  obtain ⟨S, g, e, h1, h2, h3⟩ := h
  exact ⟨g, S, e, h1, h2.lt, h3.len, h2.v, h3.rd, h3.map, h2, h3⟩
end Go.Proofs.Ytgdkionmeacalab
end
