import Derived.Test.YtgdkionmeacalaaGreatQ06
section
namespace Go.Proofs.YtgdkionmeacalaaGreat
open Go.RowKit
set_option linter.unusedVariables false
set_option maxHeartbeats 1000000
/-- a slice whose elements are these records of k cells -/
def RvK (k : Nat) (w : World) (A : Option Addr) (R : List (List Value)) : Prop := 0 < R.length → ∃ b off, A = some ⟨b, off, none⟩ ∧ b < w.heap.size ∧ ∀ i vs, R[i]? = some vs → w.rangeAt b (off + i * k) vs
theorem RvK.keep {k : Nat} {w w' : World} {A : Option Addr} {R : List (List Value)} (h : RvK k w A R) (hb : Below w.heap.size w w') : RvK k w' A R := fun h0 =>
  let ⟨b, off, e, hl, hp⟩ := h h0; ⟨b, off, e, Nat.lt_of_lt_of_le hl hb.size, fun i vs hi => rangeB (hp i vs hi) (hb.block b hl)⟩
theorem RvK.nil (k : Nat) (w : World) (A : Option Addr) : RvK k w A [] := fun h => absurd h (by simp)
/-- what a new block of records holds, as far as the first j of n -/
def RpK (k : Nat) (w : World) (g : Nat) (T : TypeId) (n j : Nat) (R : List (List Value)) : Prop := ∃ cs : Array Value, w.heap[g]? = some (.cells cs T (0, 0)) ∧ cs.size = n * k ∧ ∀ i vs, i < j → R[i]? = some vs → InS cs (i * k) vs
theorem RpK.lt {k : Nat} {w : World} {g : Nat} {T : TypeId} {n j : Nat} {R : List (List Value)} (h : RpK k w g T n j R) : g < w.heap.size := by obtain ⟨cs, hh, _⟩ := h; exact ltS hh
theorem RpK.keep' {k : Nat} {w w' : World} {g : Nat} {T : TypeId} {n j : Nat} {R : List (List Value)} (h : RpK k w g T n j R) (hb : w'.heap[g]? = w.heap[g]?) : RpK k w' g T n j R := by
  obtain ⟨cs, hh, r⟩ := h
  exact ⟨cs, hb.trans hh, r⟩
theorem RpK.keep {k : Nat} {w w' : World} {g : Nat} {T : TypeId} {n j : Nat} {R : List (List Value)} (h : RpK k w g T n j R) (hb : Below w.heap.size w w') : RpK k w' g T n j R := h.keep' (hb.block g h.lt)
theorem RpK.there {k : Nat} {w : World} {g : Nat} {T : TypeId} {n j : Nat} {R : List (List Value)} (h : RpK k w g T n j R) {i : Nat} (hi : i < n) : w.there g (i * k) k := by
  obtain ⟨cs, hh, hs, _⟩ := h
  refine thereB hh ?_
  rw [hs]
  calc i * k + k = (i + 1) * k := by rw [Nat.add_mul, Nat.one_mul]
    _ ≤ n * k := Nat.mul_le_mul_right k hi
theorem RpK.step {k : Nat} {w : World} {g : Nat} {T : TypeId} {n j : Nat} {R : List (List Value)} (h : RpK k w g T n j R) (hR : ∀ vs ∈ R, vs.length = k) {vs : List Value} (hv : R[j]? = some vs) (hj : j < n) : RpK k (w.setCells g (j * k) vs) g T n (j + 1) R := by
  obtain ⟨cs, hh, hs, hc⟩ := h
  have hl := hR vs (List.mem_of_getElem? hv)
  have e : (j + 1) * k ≤ n * k := Nat.mul_le_mul_right k hj
  rw [Nat.add_mul, Nat.one_mul] at e
  refine ⟨_, heap_setCells vs (j * k) _ _ hh, (wrAt_size _ _ _).trans hs, fun i us hi hu => ?_⟩
  by_cases ei : i = j
  · subst ei
    rw [hv] at hu
    obtain rfl := Option.some.inj hu
    exact InS.write (by rw [hl, hs]; omega)
  · have e2 : (i + 1) * k ≤ j * k := Nat.mul_le_mul_right k (by omega)
    rw [Nat.add_mul, Nat.one_mul] at e2
    exact (hc i us (by omega) hu).keepS (.inl (by rw [hR us (List.mem_of_getElem? hu)]; omega))
theorem RpK.new {k : Nat} {w : World} {f : Array Value} {T : TypeId} {n : Nat} (R : List (List Value)) (hf : f.size = n * k) : RpK k (w.alloc (.cells f T)) w.heap.size T n 0 R := ⟨f, newS _ _, hf, fun i vs hi => absurd hi (by omega)⟩
/-- what a new block of records holds -/
def RbK (k : Nat) (w : World) (g : Nat) (T : TypeId) (R : List (List Value)) : Prop := RpK k w g T R.length R.length R
theorem RbK.v {k : Nat} {w : World} {g : Nat} {T : TypeId} {R : List (List Value)} (h : RbK k w g T R) : RvK k w (some ⟨g, 0, none⟩) R := fun _ => by
  obtain ⟨cs, hh, hs, hc⟩ := h
  refine ⟨g, 0, rfl, ltS hh, fun i vs hv j v hj => ?_⟩
  rw [Nat.zero_add]
  exact (cellS hh _).trans (hc i vs (List.getElem?_eq_some_iff.1 hv).1 hv j v hj)
theorem RpK.whole {k : Nat} {w : World} {g : Nat} {T : TypeId} {n j : Nat} {R : List (List Value)} (h : RpK k w g T n j R) (hn : n = R.length) (hj : n ≤ j) : RbK k w g T R := by
  subst hn
  obtain ⟨cs, hh, hs, hc⟩ := h
  exact ⟨cs, hh, hs, fun i vs hi hv => hc i vs (by omega) hv⟩
def one (vs : List Value) : Prop := ∀ v ∈ vs, v.oneCell' = true
theorem ldK {P : Program} {ops : Array Oper} {rest : List Oper} {op : Oper} {a : Act} {w : World} {Q : Exit → Act → World → Prop} (T : TypeId) (x : Operand) (vs : List Value) (b o : Nat) {d : TypeDesc} (hgd : op.guard = none) (ho : op.op = .load T x)
    (hc : w.rangeAt b o vs) (hu : P.underlying T = some d) (hd : d.isRow = true) (hi : (P.info? T).map (·.size) = some vs.length) (hx : a.eval x = .pointer (some ⟨b, o, none⟩))
    (h : wpList P ops Q rest (a.put op.dst (.agg vs.toArray)) w) : wpList P ops Q (op :: rest) a w :=
  wpList_load_mid hgd T x ho b o hx vs d hc hu hd hi h
theorem stK {P : Program} {ops : Array Oper} {rest : List Oper} {op : Oper} {a : Act} {w : World} {Q : Exit → Act → World → Prop} (T : TypeId) (x y : Operand) (vs : List Value) (b o : Nat) (hgd : op.guard = none) (ho : op.op = .store T x y)
    (ht : w.there b o vs.length) (hi : (P.info? T).map (·.size) = some vs.length) (h1 : one vs) (hx : a.eval x = .pointer (some ⟨b, o, none⟩)) (hy : a.eval y = .agg vs.toArray)
    (h : wpList P ops Q rest (a.put op.dst undef) (w.setCells b o vs)) : wpList P ops Q (op :: rest) a w := by
  refine wpList_store_mid hgd T x y ho b o vs.toArray hx hy (by simpa using ht) (by simpa using hi) (all_oneCell_toArray h1) ?_
  simpa using h
theorem allocK {P : Program} {ops : Array Oper} {rest : List Oper} {op : Oper} {a : Act} {w : World} {Q : Exit → Act → World → Prop} (T : TypeId) (k : Nat) (hgd : op.guard = none) (ho : op.op = .alloc T) (hi : ∃ i z, P.info? T = some i ∧ i.zero = some z ∧ z.cells.size = k)
    (h : ∀ f : Array Value, f.size = k → wpList P ops Q rest (a.put op.dst (.pointer (some ⟨w.heap.size, 0, none⟩))) (w.alloc (.cells f T))) : wpList P ops Q (op :: rest) a w := by
  obtain ⟨i, z, h1, h2, h3⟩ := hi
  refine wpList_plain hgd fun K hK => ?_
  have := hK _ _ (h z.cells h3)
  unfold Oper.wp execOp
  simp only [ho]
  simpa [Instr.alloc, zeroValue, typeInfo, h1, h2, newVar, go_sem] using this
theorem info_z {P : Program} {T : TypeId} {k : Nat} (h : (P.info? T).map (fun i => i.zero.map (fun z => z.cells.size)) = some (some k)) : ∃ i z, P.info? T = some i ∧ i.zero = some z ∧ z.cells.size = k := by
  cases hq : P.info? T with
  | none => rw [hq] at h; cases h
  | some i =>
    rw [hq] at h
    simp only [Option.map_some, Option.some.injEq] at h
    cases hz : i.zero with
    | none => rw [hz] at h; cases h
    | some z => rw [hz] at h; simp only [Option.map_some, Option.some.injEq] at h; exact ⟨i, z, rfl, hz, h⟩
theorem madeK (S T : TypeId) (k : Nat) (hk : k ≤ 64) (hu : Tryz.prog.underlying S = some (.slice T)) (hinfo : (Tryz.prog.info? T).map (fun i => (i.size, decide (i.bytes ≤ 512), i.zero.isSome)) = some (k, true, true)) : ∃ f : Nat → Array Value, (∀ n, (f n).size = n * k) ∧ ∀ (n : Nat) (w : World), n ≤ 1048576 → (Instr.makeSlice S (.int .i64 (n : Int)) (.int .i64 (n : Int))).run Tryz.prog w = .ok (.slice (some ⟨w.heap.size, 0, none⟩) n n) (w.alloc (.cells (f n) T)) := by
  obtain ⟨i, z, hi, h1, h2, h3⟩ : ∃ (i : TypeInfo) (z : Value), Tryz.prog.info? T = some i ∧ i.zero = some z ∧ i.size = k ∧ i.bytes ≤ 512 := by
    cases hq : Tryz.prog.info? T with
    | none => rw [hq] at hinfo; cases hinfo
    | some i =>
      rw [hq] at hinfo
      simp only [Option.map_some, Option.some.injEq, Prod.mk.injEq] at hinfo
      obtain ⟨e1, e2, e3⟩ := hinfo
      obtain ⟨z, hz⟩ := Option.isSome_iff_exists.1 e3
      exact ⟨i, z, rfl, hz, e1, by simpa using e2⟩
  refine ⟨fun n => madeCells z.cells (n * k), fun n => size_madeCells _ _, fun n w hn => ?_⟩
  have e : ((i.bytes * n : Nat) : Int) ≤ ((512 * 1048576 : Nat) : Int) := Int.ofNat_le.2 (Nat.mul_le_mul h3 hn)
  rw [Int.natCast_mul] at e
  have hr := run_make (P := Tryz.prog) w S T i _ hu hi h1 .i64 .i64 n n (by omega) (Int.le_refl _) (Int.le_trans e (by decide)) (by omega)
  rw [h2] at hr
  simpa using hr
end Go.Proofs.YtgdkionmeacalaaGreat
end
section
namespace Go.Proofs.YtgdkionmeacalaaGreat
open Go.RowKit
set_option linter.unusedVariables false
set_option linter.unusedSimpArgs false
set_option maxHeartbeats 4000000
theorem inf_widget : (Tryz.prog.info? 98).map (·.size) = some 37 := by kernel_rfl
theorem infz_widget : ∃ i z, Tryz.prog.info? 98 = some i ∧ i.zero = some z ∧ z.cells.size = 37 := info_z (by kernel_rfl)
theorem made_widget : ∃ f : Nat → Array Value, (∀ n, (f n).size = n * 37) ∧ ∀ (n : Nat) (w : World), n ≤ 1048576 → (Instr.makeSlice 99 (.int .i64 (n : Int)) (.int .i64 (n : Int))).run Tryz.prog w = .ok (.slice (some ⟨w.heap.size, 0, none⟩) n n) (w.alloc (.cells (f n) 98)) := madeK _ _ 37 (by omega) Tryz.underlying99 (by kernel_rfl)
theorem inf_Cell : (Tryz.prog.info? 81).map (·.size) = some 9 := by kernel_rfl
theorem infz_Cell : ∃ i z, Tryz.prog.info? 81 = some i ∧ i.zero = some z ∧ z.cells.size = 9 := info_z (by kernel_rfl)
theorem made_Cell : ∃ f : Nat → Array Value, (∀ n, (f n).size = n * 9) ∧ ∀ (n : Nat) (w : World), n ≤ 1048576 → (Instr.makeSlice 90 (.int .i64 (n : Int)) (.int .i64 (n : Int))).run Tryz.prog w = .ok (.slice (some ⟨w.heap.size, 0, none⟩) n n) (w.alloc (.cells (f n) 81)) := madeK _ _ 9 (by omega) Tryz.underlying90 (by kernel_rfl)
theorem inf_Place : (Tryz.prog.info? 82).map (·.size) = some 9 := by kernel_rfl
theorem infz_Place : ∃ i z, Tryz.prog.info? 82 = some i ∧ i.zero = some z ∧ z.cells.size = 9 := info_z (by kernel_rfl)
theorem made_Place : ∃ f : Nat → Array Value, (∀ n, (f n).size = n * 9) ∧ ∀ (n : Nat) (w : World), n ≤ 1048576 → (Instr.makeSlice 151 (.int .i64 (n : Int)) (.int .i64 (n : Int))).run Tryz.prog w = .ok (.slice (some ⟨w.heap.size, 0, none⟩) n n) (w.alloc (.cells (f n) 82)) := madeK _ _ 9 (by omega) Tryz.underlying151 (by kernel_rfl)
theorem inf_Pack : (Tryz.prog.info? 80).map (·.size) = some 9 := by kernel_rfl
theorem infz_Pack : ∃ i z, Tryz.prog.info? 80 = some i ∧ i.zero = some z ∧ z.cells.size = 9 := info_z (by kernel_rfl)
theorem made_Pack : ∃ f : Nat → Array Value, (∀ n, (f n).size = n * 9) ∧ ∀ (n : Nat) (w : World), n ≤ 1048576 → (Instr.makeSlice 87 (.int .i64 (n : Int)) (.int .i64 (n : Int))).run Tryz.prog w = .ok (.slice (some ⟨w.heap.size, 0, none⟩) n n) (w.alloc (.cells (f n) 80)) := madeK _ _ 9 (by omega) Tryz.underlying87 (by kernel_rfl)
theorem inf_wish : (Tryz.prog.info? 53).map (·.size) = some 2 := by kernel_rfl
theorem infz_wish : ∃ i z, Tryz.prog.info? 53 = some i ∧ i.zero = some z ∧ z.cells.size = 2 := info_z (by kernel_rfl)
theorem made_wish : ∃ f : Nat → Array Value, (∀ n, (f n).size = n * 2) ∧ ∀ (n : Nat) (w : World), n ≤ 1048576 → (Instr.makeSlice 54 (.int .i64 (n : Int)) (.int .i64 (n : Int))).run Tryz.prog w = .ok (.slice (some ⟨w.heap.size, 0, none⟩) n n) (w.alloc (.cells (f n) 53)) := madeK _ _ 2 (by omega) Tryz.underlying54 (by kernel_rfl)
end Go.Proofs.YtgdkionmeacalaaGreat
end
section
namespace Go.Proofs.YtgdkionmeacalaaGreat
open Go.RowKit
set_option linter.unusedVariables false
set_option linter.unusedSimpArgs false
set_option maxHeartbeats 4000000
/-- a widget with what it asks for and its kids, as it lies in memory -/
structure Wd where
  p : Nr
  sw : Int
  sh : Int
  ka : Option Addr
  kn : Nat
  kc : Nat
def valsWd (x : Wd) : List Value := valsNr x.p ++ [.int .i64 x.sw, .int .i64 x.sh, .slice x.ka x.kn x.kc]
theorem valsWd_len (x : Wd) : (valsWd x).length = 37 := rfl
theorem valsWd_one (x : Wd) : one (valsWd x) := by
  intro v hv
  rcases List.mem_append.1 hv with h | h
  · exact valsNr_one _ v h
  · simp only [List.mem_cons, List.not_mem_nil, or_false] at h
    rcases h with rfl | rfl | rfl <;> rfl
def ceW (x : Wd) : Ce := { x.p.n.ce with cw := x.sw, ch := x.sh }
def pkW (x : Wd) : Pk := { x.p.n.pk with w := x.sw, h := x.sh }
def valsPk (p : Pk) : List Value := [.int .i64 p.w, .int .i64 p.h, .int .i64 p.s, .bool p.fx, .bool p.fy, .bool p.ex, .int .i64 p.an, .int .i64 p.px, .int .i64 p.py]
def valsPl (p : Plc) : List Value := [.int .i64 p.x, .int .i64 p.y, .int .i64 p.rx, .int .i64 p.ry, .int .i64 p.ww, .int .i64 p.hh, .int .i64 p.qw, .int .i64 p.qh, .int .i64 p.an]
def valsWi (q : Int × Int) : List Value := [.int .i64 q.1, .int .i64 q.2]
def gd (vs : List Value) (i : Nat) : Value := vs.getD i undef
def uCe (vs : List Value) : List Value := [gd vs 16, gd vs 17, gd vs 18, gd vs 19, gd vs 34, gd vs 35, gd vs 22, gd vs 23, gd vs 24]
def uPk (vs : List Value) : List Value := [gd vs 34, gd vs 35, gd vs 9, gd vs 10, gd vs 11, gd vs 12, gd vs 13, gd vs 14, gd vs 15]
def uPl (vs : List Value) : List Value := [gd vs 25, gd vs 26, gd vs 27, gd vs 28, gd vs 29, gd vs 30, gd vs 31, gd vs 32, gd vs 33]
def uWi (vs : List Value) : List Value := [gd vs 34, gd vs 35]
theorem uCe_eq (x : Wd) : uCe (valsWd x) = valsCe (ceW x) := rfl
theorem uPk_eq (x : Wd) : uPk (valsWd x) = valsPk (pkW x) := rfl
theorem uPl_eq (x : Wd) : uPl (valsWd x) = valsPl x.p.n.pl := rfl
theorem uWi_eq (x : Wd) : uWi (valsWd x) = valsWi (x.sw, x.sh) := rfl
theorem valsCe_one (p : Ce) : one (valsCe p) := by
  intro v hv
  simp only [valsCe, List.mem_cons, List.not_mem_nil, or_false] at hv
  rcases hv with rfl | rfl | rfl | rfl | rfl | rfl | rfl | rfl | rfl <;> rfl
theorem valsPk_one (p : Pk) : one (valsPk p) := by
  intro v hv
  simp only [valsPk, List.mem_cons, List.not_mem_nil, or_false] at hv
  rcases hv with rfl | rfl | rfl | rfl | rfl | rfl | rfl | rfl | rfl <;> rfl
theorem valsPl_one (p : Plc) : one (valsPl p) := by
  intro v hv
  simp only [valsPl, List.mem_cons, List.not_mem_nil, or_false] at hv
  rcases hv with rfl | rfl | rfl | rfl | rfl | rfl | rfl | rfl | rfl <;> rfl
theorem valsWi_one (p : Int × Int) : one (valsWi p) := by
  intro v hv
  simp only [valsWi, List.mem_cons, List.not_mem_nil, or_false] at hv
  rcases hv with rfl | rfl <;> rfl
theorem bp_retcell {P : Program} {fn : Func} {R : Ending → World → Prop} {a : Act} {w : World} (t : Nat) (T : TypeId) (g : Nat) (vs : List Value) {d : TypeDesc} (hr : fn.results = #[.cell t T]) (ht : a.tmps.getD t undef = .pointer (some ⟨g, 0, none⟩)) (hc : w.rangeAt g 0 vs) (hu : P.underlying T = some d) (hd : d.isRow = true) (hi : (P.info? T).map (·.size) = some vs.length) (h0 : a.defers = []) (hR : R (.returned (.agg vs.toArray)) w) : bodyPost P fn R .ret a w := by
  refine bodyPost_ret (v := .agg vs.toArray) ?_ h0 hR
  have ht' : a.tmps[t]?.getD undef = .pointer (some ⟨g, 0, none⟩) := by rw [← Array.getD_eq_getD_getElem?]; exact ht
  simp [results, hr, ht', asAddr, run_loadVar_mid w g 0 T vs d hc hu hd hi]
set_option maxRecDepth 100000 in
theorem asCell_v (x : Wd) (w : World) : Calls Tryz.prog 103 #[.agg (valsWd x).toArray] w fun e w' => e = .returned (.agg (valsCe (ceW x)).toArray) ∧ Below w.heap.size w w' := by
  refine calls_abs Tryz.func103 rfl 18 (by simp only [Tryz.ntmps103]) (by simp) (fun t hsz hargs => ?_)
  have q0 : t[0]? = some (.agg (valsWd x).toArray) := get_of (by omega) (hargs 0 _ rfl)
  clear hargs
  obtain ⟨l0, e0⟩ := Array.getElem?_eq_some_iff.1 q0
  refine wp_seq_h fun K hK => ?_
  apply wp_region_lit
  repeat (first | ((with_reducible show wpList _ _ _ _ _ _); refine allocK 81 9 rfl rfl infz_Cell (fun z hz => ?_)) | go_step)
  refine hK.out _ _ ?_
  clear hK K
  refine wp_abw (fun t' W' => t'.size = 18 ∧ t'[1]? = some (.pointer (some ⟨w.heap.size, 0, none⟩)) ∧ t'[2]? = some (.pointer (some ⟨w.heap.size + 1, 0, none⟩)) ∧ W'.heap[w.heap.size]? = some (.cells (valsWd x).toArray 98 (0, 0)) ∧ (∃ z : Array Value, W'.heap[w.heap.size + 1]? = some (.cells z 81 (0, 0)) ∧ z.size = 9) ∧ Below w.heap.size w W') ⟨by simp [hsz], by simp [hsz], by simp [hsz], ⟨(Below.heap_alloc _ _ _ (by simp)).trans (newS _ _), ⟨z, by have := newS (w.alloc (.cells (valsWd x).toArray 98)) (.cells z 81); simpa using this, hz⟩, (balloc (Below.refl _ _)).trans ((balloc (Below.refl _ _)).mono (by simp))⟩⟩ ?_
  clear hsz q0 l0 e0 t z hz
  rintro t W1 ⟨hsz, q1, q2, H1, ⟨z, H2, hz⟩, hB⟩
  have x34 := cellS H1 34
  have x35 := cellS H1 35
  have f1 := frozenS H1 20
  have f2 := frozenS H1 21
  obtain ⟨y1, z1⟩ := thereS H1 (i := 20) (by show 20 < 37; omega)
  obtain ⟨y2, z2⟩ := thereS H1 (i := 21) (by show 21 < 37; omega)
  have hlx := ltS H1
  rw [show (valsWd x).toArray[34]? = some (.int .i64 x.sw) from rfl] at x34
  rw [show (valsWd x).toArray[35]? = some (.int .i64 x.sh) from rfl] at x35
  obtain ⟨l1, e1⟩ := Array.getElem?_eq_some_iff.1 q1
  obtain ⟨l2, e2⟩ := Array.getElem?_eq_some_iff.1 q2
  refine wp_seq_h fun K hK => ?_
  apply wp_region_lit
  repeat (first | go_step)
  refine hK.out _ _ ?_
  clear hK K
  refine wp_abw (fun t' W' => t'.size = 18 ∧ t'[1]? = some (.pointer (some ⟨w.heap.size, 0, none⟩)) ∧ t'[2]? = some (.pointer (some ⟨w.heap.size + 1, 0, none⟩)) ∧ W'.rangeAt w.heap.size 16 (valsCe (ceW x)) ∧ (∃ z : Array Value, W'.heap[w.heap.size + 1]? = some (.cells z 81 (0, 0)) ∧ z.size = 9) ∧ Below w.heap.size w W') ⟨by simp [hsz], by simp [q1], by simp [q2], ⟨fun j v hj => (cellS (putS (putS H1 _) _) _).trans (by (iterate 9 (rcases j with _ | j; first | exact hj | skip)); simp [valsCe] at hj), ⟨z, (Below.heap_setCell _ ⟨w.heap.size, _, none⟩ _ _ (by simp)).trans ((Below.heap_setCell _ ⟨w.heap.size, _, none⟩ _ _ (by simp)).trans H2), hz⟩, (hB.setCell (p := ⟨w.heap.size, _, none⟩) (by simp) _).setCell (p := ⟨w.heap.size, _, none⟩) (by simp) _⟩⟩ ?_
  clear hsz q1 l1 e1 q2 l2 e2 t x34 x35 f1 f2 z1 z2 y1 y2 H1 H2 hB hlx W1 z hz
  rintro t W2 ⟨hsz, q1, q2, hr, ⟨z, H2, hz⟩, hB⟩
  have HR := Lib.hid hr
  have hth : W2.there (w.heap.size + 1) 0 (valsCe (ceW x)).length := thereB H2 (by rw [hz]; show 0 + 9 ≤ 9; omega)
  have HTH := Lib.hid hth
  clear hr hth
  obtain ⟨l1, e1⟩ := Array.getElem?_eq_some_iff.1 q1
  obtain ⟨l2, e2⟩ := Array.getElem?_eq_some_iff.1 q2
  refine wp_seq_h fun K hK => ?_
  apply wp_region_lit
  repeat (first | ((with_reducible show wpList _ _ _ _ _ _); refine ldK 81 _ (valsCe (ceW x)) w.heap.size 16 rfl rfl HR.out Tryz.underlying81 rfl inf_Cell (by simp [Act.eval, Act.put, hsz]) ?_) | ((with_reducible show wpList _ _ _ _ _ _); refine stK 81 _ _ (valsCe (ceW x)) (w.heap.size + 1) 0 rfl rfl HTH.out inf_Cell (valsCe_one _) (by simp [Act.eval, Act.put, hsz, e2]) (by simp [Act.eval, Act.put, hsz]) ?_) | go_step)
  refine hK.out _ _ ?_
  clear hK K
  apply wp_ret
  refine bp_retcell 2 81 (w.heap.size + 1) (valsCe (ceW x)) Tryz.results103 ?_ (World.rangeAt_setCells_same _ _ _ _ HTH.out) Tryz.underlying81 rfl inf_Cell rfl ⟨rfl, below_setCells (by omega) _ _ _ hB⟩
  simp [Act.put, hsz, e2]
set_option maxRecDepth 100000 in
theorem asPack_v (x : Wd) (w : World) : Calls Tryz.prog 107 #[.agg (valsWd x).toArray] w fun e w' => e = .returned (.agg (valsPk (pkW x)).toArray) ∧ Below w.heap.size w w' := by
  refine calls_abs Tryz.func107 rfl 18 (by simp only [Tryz.ntmps107]) (by simp) (fun t hsz hargs => ?_)
  have q0 : t[0]? = some (.agg (valsWd x).toArray) := get_of (by omega) (hargs 0 _ rfl)
  clear hargs
  obtain ⟨l0, e0⟩ := Array.getElem?_eq_some_iff.1 q0
  refine wp_seq_h fun K hK => ?_
  apply wp_region_lit
  repeat (first | ((with_reducible show wpList _ _ _ _ _ _); refine allocK 80 9 rfl rfl infz_Pack (fun z hz => ?_)) | go_step)
  refine hK.out _ _ ?_
  clear hK K
  refine wp_abw (fun t' W' => t'.size = 18 ∧ t'[1]? = some (.pointer (some ⟨w.heap.size, 0, none⟩)) ∧ t'[2]? = some (.pointer (some ⟨w.heap.size + 1, 0, none⟩)) ∧ W'.heap[w.heap.size]? = some (.cells (valsWd x).toArray 98 (0, 0)) ∧ (∃ z : Array Value, W'.heap[w.heap.size + 1]? = some (.cells z 80 (0, 0)) ∧ z.size = 9) ∧ Below w.heap.size w W') ⟨by simp [hsz], by simp [hsz], by simp [hsz], ⟨(Below.heap_alloc _ _ _ (by simp)).trans (newS _ _), ⟨z, by have := newS (w.alloc (.cells (valsWd x).toArray 98)) (.cells z 80); simpa using this, hz⟩, (balloc (Below.refl _ _)).trans ((balloc (Below.refl _ _)).mono (by simp))⟩⟩ ?_
  clear hsz q0 l0 e0 t z hz
  rintro t W1 ⟨hsz, q1, q2, H1, ⟨z, H2, hz⟩, hB⟩
  have x34 := cellS H1 34
  have x35 := cellS H1 35
  have f1 := frozenS H1 7
  have f2 := frozenS H1 8
  obtain ⟨y1, z1⟩ := thereS H1 (i := 7) (by show 7 < 37; omega)
  obtain ⟨y2, z2⟩ := thereS H1 (i := 8) (by show 8 < 37; omega)
  have hlx := ltS H1
  rw [show (valsWd x).toArray[34]? = some (.int .i64 x.sw) from rfl] at x34
  rw [show (valsWd x).toArray[35]? = some (.int .i64 x.sh) from rfl] at x35
  obtain ⟨l1, e1⟩ := Array.getElem?_eq_some_iff.1 q1
  obtain ⟨l2, e2⟩ := Array.getElem?_eq_some_iff.1 q2
  refine wp_seq_h fun K hK => ?_
  apply wp_region_lit
  repeat (first | go_step)
  refine hK.out _ _ ?_
  clear hK K
  refine wp_abw (fun t' W' => t'.size = 18 ∧ t'[1]? = some (.pointer (some ⟨w.heap.size, 0, none⟩)) ∧ t'[2]? = some (.pointer (some ⟨w.heap.size + 1, 0, none⟩)) ∧ W'.rangeAt w.heap.size 7 (valsPk (pkW x)) ∧ (∃ z : Array Value, W'.heap[w.heap.size + 1]? = some (.cells z 80 (0, 0)) ∧ z.size = 9) ∧ Below w.heap.size w W') ⟨by simp [hsz], by simp [q1], by simp [q2], ⟨fun j v hj => (cellS (putS (putS H1 _) _) _).trans (by (iterate 9 (rcases j with _ | j; first | exact hj | skip)); simp [valsPk] at hj), ⟨z, (Below.heap_setCell _ ⟨w.heap.size, _, none⟩ _ _ (by simp)).trans ((Below.heap_setCell _ ⟨w.heap.size, _, none⟩ _ _ (by simp)).trans H2), hz⟩, (hB.setCell (p := ⟨w.heap.size, _, none⟩) (by simp) _).setCell (p := ⟨w.heap.size, _, none⟩) (by simp) _⟩⟩ ?_
  clear hsz q1 l1 e1 q2 l2 e2 t x34 x35 f1 f2 z1 z2 y1 y2 H1 H2 hB hlx W1 z hz
  rintro t W2 ⟨hsz, q1, q2, hr, ⟨z, H2, hz⟩, hB⟩
  have HR := Lib.hid hr
  have hth : W2.there (w.heap.size + 1) 0 (valsPk (pkW x)).length := thereB H2 (by rw [hz]; show 0 + 9 ≤ 9; omega)
  have HTH := Lib.hid hth
  clear hr hth
  obtain ⟨l1, e1⟩ := Array.getElem?_eq_some_iff.1 q1
  obtain ⟨l2, e2⟩ := Array.getElem?_eq_some_iff.1 q2
  refine wp_seq_h fun K hK => ?_
  apply wp_region_lit
  repeat (first | ((with_reducible show wpList _ _ _ _ _ _); refine ldK 80 _ (valsPk (pkW x)) w.heap.size 7 rfl rfl HR.out Tryz.underlying80 rfl inf_Pack (by simp [Act.eval, Act.put, hsz]) ?_) | ((with_reducible show wpList _ _ _ _ _ _); refine stK 80 _ _ (valsPk (pkW x)) (w.heap.size + 1) 0 rfl rfl HTH.out inf_Pack (valsPk_one _) (by simp [Act.eval, Act.put, hsz, e2]) (by simp [Act.eval, Act.put, hsz]) ?_) | go_step)
  refine hK.out _ _ ?_
  clear hK K
  apply wp_ret
  refine bp_retcell 2 80 (w.heap.size + 1) (valsPk (pkW x)) Tryz.results107 ?_ (World.rangeAt_setCells_same _ _ _ _ HTH.out) Tryz.underlying80 rfl inf_Pack rfl ⟨rfl, below_setCells (by omega) _ _ _ hB⟩
  simp [Act.put, hsz, e2]
set_option maxRecDepth 100000 in
theorem asPlace_v (x : Wd) (w : World) : Calls Tryz.prog 105 #[.agg (valsWd x).toArray] w fun e w' => e = .returned (.agg (valsPl x.p.n.pl).toArray) ∧ Below w.heap.size w w' := by
  refine calls_abs Tryz.func105 rfl 6 (by simp only [Tryz.ntmps105]) (by simp) (fun t hsz hargs => ?_)
  have q0 : t[0]? = some (.agg (valsWd x).toArray) := get_of (by omega) (hargs 0 _ rfl)
  clear hargs
  obtain ⟨l0, e0⟩ := Array.getElem?_eq_some_iff.1 q0
  refine wp_seq_h fun K hK => ?_
  apply wp_region_lit
  repeat (first | ((with_reducible show wpList _ _ _ _ _ _); refine allocK 82 9 rfl rfl infz_Place (fun z hz => ?_)) | go_step)
  refine hK.out _ _ ?_
  clear hK K
  refine wp_abw (fun t' W' => t'.size = 6 ∧ t'[1]? = some (.pointer (some ⟨w.heap.size, 0, none⟩)) ∧ t'[2]? = some (.pointer (some ⟨w.heap.size + 1, 0, none⟩)) ∧ W'.heap[w.heap.size]? = some (.cells (valsWd x).toArray 98 (0, 0)) ∧ (∃ z : Array Value, W'.heap[w.heap.size + 1]? = some (.cells z 82 (0, 0)) ∧ z.size = 9) ∧ Below w.heap.size w W') ⟨by simp [hsz], by simp [hsz], by simp [hsz], ⟨(Below.heap_alloc _ _ _ (by simp)).trans (newS _ _), ⟨z, by have := newS (w.alloc (.cells (valsWd x).toArray 98)) (.cells z 82); simpa using this, hz⟩, (balloc (Below.refl _ _)).trans ((balloc (Below.refl _ _)).mono (by simp))⟩⟩ ?_
  clear hsz q0 l0 e0 t z hz
  rintro t W1 ⟨hsz, q1, q2, H1, ⟨z, H2, hz⟩, hB⟩
  have hr : W1.rangeAt w.heap.size 25 (valsPl x.p.n.pl) := fun j v hj => (cellS H1 _).trans (by (iterate 9 (rcases j with _ | j; first | exact hj | skip)); simp [valsPl] at hj)
  clear H1
  have HR := Lib.hid hr
  have hth : W1.there (w.heap.size + 1) 0 (valsPl x.p.n.pl).length := thereB H2 (by rw [hz]; show 0 + 9 ≤ 9; omega)
  have HTH := Lib.hid hth
  clear hr hth
  obtain ⟨l1, e1⟩ := Array.getElem?_eq_some_iff.1 q1
  obtain ⟨l2, e2⟩ := Array.getElem?_eq_some_iff.1 q2
  refine wp_seq_h fun K hK => ?_
  apply wp_region_lit
  repeat (first | ((with_reducible show wpList _ _ _ _ _ _); refine ldK 82 _ (valsPl x.p.n.pl) w.heap.size 25 rfl rfl HR.out Tryz.underlying82 rfl inf_Place (by simp [Act.eval, Act.put, hsz]) ?_) | ((with_reducible show wpList _ _ _ _ _ _); refine stK 82 _ _ (valsPl x.p.n.pl) (w.heap.size + 1) 0 rfl rfl HTH.out inf_Place (valsPl_one _) (by simp [Act.eval, Act.put, hsz, e2]) (by simp [Act.eval, Act.put, hsz]) ?_) | go_step)
  refine hK.out _ _ ?_
  clear hK K
  apply wp_ret
  refine bp_retcell 2 82 (w.heap.size + 1) (valsPl x.p.n.pl) Tryz.results105 ?_ (World.rangeAt_setCells_same _ _ _ _ HTH.out) Tryz.underlying82 rfl inf_Place rfl ⟨rfl, below_setCells (by omega) _ _ _ hB⟩
  simp [Act.put, hsz, e2]
set_option maxRecDepth 100000 in
theorem asked_v (x : Wd) (w : World) : Calls Tryz.prog 59 #[.agg (valsWd x).toArray] w fun e w' => e = .returned (.agg (valsWi (x.sw, x.sh)).toArray) ∧ Below w.heap.size w w' := by
  refine calls_abs Tryz.func59 rfl 5 (by simp only [Tryz.ntmps59]) (by simp) (fun t hsz hargs => ?_)
  have q0 : t[0]? = some (.agg (valsWd x).toArray) := get_of (by omega) (hargs 0 _ rfl)
  clear hargs
  obtain ⟨l0, e0⟩ := Array.getElem?_eq_some_iff.1 q0
  refine wp_seq_h fun K hK => ?_
  apply wp_region_lit
  repeat (first | ((with_reducible show wpList _ _ _ _ _ _); refine allocK 53 2 rfl rfl infz_wish (fun z hz => ?_)) | go_step)
  refine hK.out _ _ ?_
  clear hK K
  refine wp_abw (fun t' W' => t'.size = 5 ∧ t'[1]? = some (.pointer (some ⟨w.heap.size, 0, none⟩)) ∧ t'[2]? = some (.pointer (some ⟨w.heap.size + 1, 0, none⟩)) ∧ W'.heap[w.heap.size]? = some (.cells (valsWd x).toArray 98 (0, 0)) ∧ (∃ z : Array Value, W'.heap[w.heap.size + 1]? = some (.cells z 53 (0, 0)) ∧ z.size = 2) ∧ Below w.heap.size w W') ⟨by simp [hsz], by simp [hsz], by simp [hsz], ⟨(Below.heap_alloc _ _ _ (by simp)).trans (newS _ _), ⟨z, by have := newS (w.alloc (.cells (valsWd x).toArray 98)) (.cells z 53); simpa using this, hz⟩, (balloc (Below.refl _ _)).trans ((balloc (Below.refl _ _)).mono (by simp))⟩⟩ ?_
  clear hsz q0 l0 e0 t z hz
  rintro t W1 ⟨hsz, q1, q2, H1, ⟨z, H2, hz⟩, hB⟩
  have hr : W1.rangeAt w.heap.size 34 (valsWi (x.sw, x.sh)) := fun j v hj => (cellS H1 _).trans (by (iterate 2 (rcases j with _ | j; first | exact hj | skip)); simp [valsWi] at hj)
  clear H1
  have HR := Lib.hid hr
  have hth : W1.there (w.heap.size + 1) 0 (valsWi (x.sw, x.sh)).length := thereB H2 (by rw [hz]; show 0 + 2 ≤ 2; omega)
  have HTH := Lib.hid hth
  clear hr hth
  obtain ⟨l1, e1⟩ := Array.getElem?_eq_some_iff.1 q1
  obtain ⟨l2, e2⟩ := Array.getElem?_eq_some_iff.1 q2
  refine wp_seq_h fun K hK => ?_
  apply wp_region_lit
  repeat (first | ((with_reducible show wpList _ _ _ _ _ _); refine ldK 53 _ (valsWi (x.sw, x.sh)) w.heap.size 34 rfl rfl HR.out Tryz.underlying53 rfl inf_wish (by simp [Act.eval, Act.put, hsz]) ?_) | ((with_reducible show wpList _ _ _ _ _ _); refine stK 53 _ _ (valsWi (x.sw, x.sh)) (w.heap.size + 1) 0 rfl rfl HTH.out inf_wish (valsWi_one _) (by simp [Act.eval, Act.put, hsz, e2]) (by simp [Act.eval, Act.put, hsz]) ?_) | go_step)
  refine hK.out _ _ ?_
  clear hK K
  apply wp_ret
  refine bp_retcell 2 53 (w.heap.size + 1) (valsWi (x.sw, x.sh)) Tryz.results59 ?_ (World.rangeAt_setCells_same _ _ _ _ HTH.out) Tryz.underlying53 rfl inf_wish rfl ⟨rfl, below_setCells (by omega) _ _ _ hB⟩
  simp [Act.put, hsz, e2]
end Go.Proofs.YtgdkionmeacalaaGreat
end
section
namespace Go.Proofs.YtgdkionmeacalaaGreat
open Go.RowKit
set_option linter.unusedVariables false
set_option maxHeartbeats 1000000
attribute [local go_sem] growUpon_value growUpon_skip growUpon_enter
structure Sp where
  sa : Int
  many : Int
  need : Int
def valsSp (p : Sp) : List Value := [.int .i64 p.sa, .int .i64 p.many, .int .i64 p.need]
/-- a slice that reads as this list -/
structure SpV (w : World) (A : Option Addr) (L : List Sp) : Prop where
  cells : 0 < L.length → ∃ b off, A = some ⟨b, off, none⟩ ∧ b < w.heap.size ∧ ∀ i p, L[i]? = some p → w.cell? ⟨b, off + i * 3, none⟩ = some (.int .i64 p.sa) ∧ w.cell? ⟨b, off + i * 3 + 1, none⟩ = some (.int .i64 p.many) ∧ w.cell? ⟨b, off + i * 3 + 2, none⟩ = some (.int .i64 p.need)
theorem SpV.keep {w w' : World} {A : Option Addr} {L : List Sp} (h : SpV w A L) (hb : Below w.heap.size w w') : SpV w' A L :=
  ⟨fun h0 => let ⟨b, off, e, hl, hp⟩ := h.cells h0; ⟨b, off, e, Nat.lt_of_lt_of_le hl hb.size, fun i p hi => by
    obtain ⟨c0, c1, c2⟩ := hp i p hi
    exact ⟨(hb.cell (p := ⟨b, off + i * 3, none⟩) hl).trans c0, (hb.cell (p := ⟨b, off + i * 3 + 1, none⟩) hl).trans c1, (hb.cell (p := ⟨b, off + i * 3 + 2, none⟩) hl).trans c2⟩⟩⟩
theorem SpV.nil (w : World) (A : Option Addr) : SpV w A [] := ⟨fun h => absurd h (by simp)⟩
/-- what a new block holds -/
def SpB (w : World) (g : Nat) (L : List Sp) : Prop := ∃ cs : Array Value, w.heap[g]? = some (.cells cs 161 (0, 0)) ∧ cs.size = L.length * 3 ∧ ∀ i p, L[i]? = some p → InS cs (i * 3) (valsSp p)
theorem SpB.v {w : World} {g : Nat} {L : List Sp} (h : SpB w g L) : SpV w (some ⟨g, 0, none⟩) L := by
  obtain ⟨cs, hh, hs, hc⟩ := h
  refine ⟨fun _ => ⟨g, 0, rfl, ltS hh, fun i p hp => ?_⟩⟩
  have hi := hc i p hp
  simp only [Nat.zero_add]
  exact ⟨(cellS hh _).trans (hi 0 _ rfl), (cellS hh _).trans (hi 1 _ rfl), (cellS hh _).trans (hi 2 _ rfl)⟩
theorem SpB.lt {w : World} {g : Nat} {L : List Sp} (h : SpB w g L) : g < w.heap.size := by obtain ⟨cs, hh, _⟩ := h; exact ltS hh
theorem SpB.keep {w w' : World} {g : Nat} {L : List Sp} (h : SpB w g L) (hb : Below w.heap.size w w') : SpB w' g L := by
  obtain ⟨cs, hh, hs, hc⟩ := h
  exact ⟨cs, (hb.block g (ltS hh)).trans hh, hs, hc⟩
theorem SpB.but {w w' : World} {g h : Nat} {L : List Sp} (hi : SpB w h L) (hg : w.grownBy w' (some g)) (hne : h ≠ g) : SpB w' h L := by
  obtain ⟨cs, hh, hs, hc⟩ := hi
  exact ⟨cs, (hg.block h (ltS hh) (fun e => hne (Option.some.inj e))).trans hh, hs, hc⟩
theorem madeSp : ∃ f : Nat → Array Value, (∀ n, (f n).size = n * 3) ∧ ∀ (n : Nat) (w : World), n ≤ 1048576 → (Instr.makeSlice 117 (.int .i64 (n : Int)) (.int .i64 (n : Int))).run Tryz.prog w = .ok (.slice (some ⟨w.heap.size, 0, none⟩) n n) (w.alloc (.cells (f n) 161)) := by
  have hinfo : (Tryz.prog.info? 161).map (fun i => (i.zero, i.size, i.bytes)) = some (some (.agg #[.int .i64 0, .int .i64 0, .int .i64 0]), 3, 24) := by kernel_rfl
  obtain ⟨i, hi, h1, h2, h3⟩ := info_parts hinfo
  refine ⟨fun n => madeCells (Value.agg #[.int .i64 0, .int .i64 0, .int .i64 0]).cells (n * 3), fun n => size_madeCells _ _, fun n w hn => ?_⟩
  have hr := run_make (P := Tryz.prog) w 117 161 i _ Tryz.underlying117 hi h1 .i64 .i64 n n (by omega) (Int.le_refl _) (by rw [h3]; omega) (by omega)
  rw [h2] at hr
  simpa using hr
theorem putSp {w : World} {b : Nat} {cs : Array Value} {T : TypeId} {fz : Nat × Nat} (h : w.heap[b]? = some (.cells cs T fz)) (o : Nat) (p : Sp) :
    ((((w.setCell ⟨b, o, none⟩ (.int .i64 p.sa)).setCell ⟨b, o + 1, none⟩ (.int .i64 p.many)).setCell ⟨b, o + 2, none⟩ (.int .i64 p.need))).heap[b]? = some (.cells (wrAt cs o (valsSp p)) T fz) :=
  putS (putS (putS h _) _) _
theorem putSpb {B b : Nat} {a w : World} (h : Below B a w) (hb : B ≤ b) (o : Nat) (p : Sp) : Below B a ((((w.setCell ⟨b, o, none⟩ (.int .i64 p.sa)).setCell ⟨b, o + 1, none⟩ (.int .i64 p.many)).setCell ⟨b, o + 2, none⟩ (.int .i64 p.need))) :=
  (((h).setCell hb _).setCell hb _).setCell hb _
end Go.Proofs.YtgdkionmeacalaaGreat
end
section
namespace Go.Proofs.YtgdkionmeacalaaGreat
set_option linter.unusedVariables false
/-- each part, without a rest -/
def baseM (n S : Int) (ws : List Int) : List Int := ws.map (fun x => n * x / S)
/-- the first ones that have a weight get 1 more, as many as are missing -/
def onesM : Int → List Int → List Int → List Int
  | m, x :: ws, b :: bs => if 0 < x ∧ 0 < m then (b + 1) :: onesM (m - 1) ws bs else b :: onesM m ws bs
  | _, _, bs => bs
def spreadM (n : Int) (ws : List Int) : List Int :=
  if sumI ws = 0 then (List.replicate ws.length 0).set (ws.length - 1) n
  else onesM (n - sumI (baseM n (sumI ws) ws)) ws (baseM n (sumI ws) ws)
theorem baseM_len (n S : Int) (ws : List Int) : (baseM n S ws).length = ws.length := by simp [baseM]
theorem onesM_len : ∀ {m : Int} {ws bs : List Int}, (onesM m ws bs).length = bs.length
  | m, [], bs => by simp [onesM]
  | m, x :: ws, [] => by simp [onesM]
  | m, x :: ws, b :: bs => by
    unfold onesM
    split <;> simp [onesM_len]
theorem spreadM_len {n : Int} {ws : List Int} : (spreadM n ws).length = ws.length := by
  unfold spreadM
  split
  · simp
  · rw [onesM_len, baseM_len]
theorem onesM_zero : ∀ {m : Int} {ws bs : List Int}, m ≤ 0 → onesM m ws bs = bs
  | m, [], bs, h => by simp [onesM]
  | m, x :: ws, [], h => by simp [onesM]
  | m, x :: ws, b :: bs, h => by
    unfold onesM
    rw [if_neg (by omega), onesM_zero h]
/-- how many have a weight -/
def cntP : List Int → Int
  | [] => 0
  | x :: t => (if 0 < x then 1 else 0) + cntP t
theorem cntP_bd : ∀ ws : List Int, 0 ≤ cntP ws ∧ cntP ws ≤ ws.length
  | [] => by simp [cntP]
  | x :: t => by
    have := cntP_bd t
    simp only [cntP, List.length_cons]
    split <;> omega
theorem sumI_nonneg {L : List Int} (h : ∀ x ∈ L, 0 ≤ x) : 0 ≤ sumI L := by
  induction L with
  | nil => exact Int.le_refl _
  | cons x t ih =>
    have h1 := h x List.mem_cons_self
    have h2 := ih (fun q hq => h q (List.mem_cons_of_mem _ hq))
    simp only [sumI]; omega
/-- what the parts without a rest leave: at least 0, and less than the positive weights are many, or 0 -/
theorem left_bd {n S : Int} (hn : 0 ≤ n) (hS : 0 < S) : ∀ {ws : List Int}, (∀ x ∈ ws, 0 ≤ x) → 0 ≤ n * sumI ws - S * sumI (baseM n S ws) ∧ n * sumI ws - S * sumI (baseM n S ws) ≤ (S - 1) * cntP ws
  | [], _ => by simp [sumI, baseM, cntP]
  | x :: t, h => by
    have ih := left_bd hn hS (ws := t) (fun q hq => h q (List.mem_cons_of_mem _ hq))
    have hx := h x List.mem_cons_self
    have e := Int.mul_ediv_add_emod (n * x) S
    have r0 := Int.emod_nonneg (n * x) (show S ≠ 0 by omega)
    have r1 := Int.emod_lt_of_pos (n * x) hS
    have eb : sumI (baseM n S (x :: t)) = n * x / S + sumI (baseM n S t) := rfl
    rw [eb]
    simp only [sumI, cntP, Int.mul_add]
    generalize n * x / S = q at *
    generalize (n * x) % S = r at *
    generalize n * sumI t = u at *
    generalize S * sumI (baseM n S t) = v at *
    generalize (S - 1) * cntP t = z at *
    by_cases hp : 0 < x
    · simp only [if_pos hp, Int.mul_one]
      omega
    · have hx0 : x = 0 := by omega
      subst hx0
      simp only [Int.mul_zero] at e ⊢
      simp only [Int.lt_irrefl, if_false, Int.mul_zero]
      have hsq : S * q = 0 ∨ S * q ≠ 0 := by omega
      have hr : r = 0 := by
        have : S * q + r = 0 := e
        rcases Int.lt_or_le q 0 with hq | hq
        · have : S * q ≤ S * (-1) := Int.mul_le_mul_of_nonneg_left (by omega) (by omega)
          omega
        · have : 0 ≤ S * q := Int.mul_nonneg (by omega) hq
          omega
      omega
theorem miss_bd {n : Int} {ws : List Int} (hn : 0 ≤ n) (h : ∀ x ∈ ws, 0 ≤ x) (hS : sumI ws ≠ 0) : 0 ≤ n - sumI (baseM n (sumI ws) ws) ∧ n - sumI (baseM n (sumI ws) ws) ≤ cntP ws := by
  have h0 := sumI_nonneg h
  have hS' : 0 < sumI ws := by omega
  obtain ⟨a1, a2⟩ := left_bd hn hS' h
  have hc := (cntP_bd ws).1
  generalize sumI (baseM n (sumI ws) ws) = B at *
  generalize hs : sumI ws = S at *
  have e : n * S - S * B = S * (n - B) := by rw [Int.mul_sub, Int.mul_comm n S]
  rw [e] at a1 a2
  have e2 : (S - 1) * cntP ws = S * cntP ws - cntP ws := by rw [Int.sub_mul, Int.one_mul]
  rw [e2] at a2
  generalize cntP ws = C at *
  constructor
  · rcases Int.lt_or_le (n - B) 0 with hq | hq
    · have : S * (n - B) ≤ S * (-1) := Int.mul_le_mul_of_nonneg_left (by omega) (by omega)
      omega
    · exact hq
  · rcases Int.lt_or_le C (n - B) with hq | hq
    · have : S * (C + 1) ≤ S * (n - B) := Int.mul_le_mul_of_nonneg_left (by omega) (by omega)
      rw [Int.mul_add, Int.mul_one] at this
      omega
    · exact hq
theorem base_bd {n S x : Int} (hn : 0 ≤ n) (hS : 0 < S) (h0 : 0 ≤ x) (hx : x ≤ S) : 0 ≤ n * x / S ∧ n * x / S ≤ n := by
  refine ⟨Int.ediv_nonneg (Int.mul_nonneg hn h0) (by omega), ?_⟩
  have h1 : n * x ≤ n * S := Int.mul_le_mul_of_nonneg_left hx hn
  have h2 := Int.ediv_le_ediv hS h1
  rwa [Int.mul_ediv_cancel _ (by omega)] at h2
theorem mem_le_sum : ∀ {ws : List Int}, (∀ x ∈ ws, 0 ≤ x) → ∀ x ∈ ws, x ≤ sumI ws
  | [], _, x, hx => by cases hx
  | y :: t, h, x, hx => by
    have h1 := h y List.mem_cons_self
    have h2 := sumI_nonneg (L := t) (fun q hq => h q (List.mem_cons_of_mem _ hq))
    simp only [sumI]
    rcases List.mem_cons.1 hx with rfl | hx
    · omega
    · have := mem_le_sum (ws := t) (fun q hq => h q (List.mem_cons_of_mem _ hq)) x hx
      omega
end Go.Proofs.YtgdkionmeacalaaGreat
end
section
namespace Go.Proofs.YtgdkionmeacalaaGreat
open Go.RowKit
set_option linter.unusedVariables false
set_option maxHeartbeats 1000000
/-- weights of lines -/
def wsOK (ws : List Int) : Prop := (∀ x ∈ ws, 0 ≤ x ∧ x ≤ 5) ∧ 1 ≤ ws.length ∧ ws.length ≤ 5
theorem wsOK.sum {ws : List Int} (h : wsOK ws) : 0 ≤ sumI ws ∧ sumI ws ≤ 25 := by
  have := sumI_bd h.1
  have := h.2.2
  omega
theorem wsOK.smal {ws : List Int} (h : wsOK ws) : Smal 1000000000000000 ws := smal_of (b := 5) (fun x hx => by have := h.1 x hx; omega) (by omega) (by have := h.2.2; omega)
theorem wsOK.nn {ws : List Int} (h : wsOK ws) : ∀ x ∈ ws, 0 ≤ x := fun x hx => (h.1 x hx).1
theorem base_get {n S : Int} {ws : List Int} {k : Nat} {x : Int} (h : ws[k]? = some x) : (baseM n S ws)[k]? = some (n * x / S) := by
  simp [baseM, h]
/-- so far, and 0 -/
def mixM (B : List Int) (k : Nat) : List Int := B.take k ++ List.replicate (B.length - k) 0
theorem mixM_zero (B : List Int) : mixM B 0 = List.replicate B.length 0 := by simp [mixM]
theorem mixM_all (B : List Int) : mixM B B.length = B := by simp [mixM]
theorem mixM_set {B : List Int} {k : Nat} {b : Int} (h : B[k]? = some b) : (mixM B k).set k b = mixM B (k + 1) := by
  obtain ⟨hk, e⟩ := List.getElem?_eq_some_iff.1 h
  unfold mixM
  rw [List.set_append_right _ _ (by rw [List.length_take]; omega)]
  have h1 : B.length - k = (B.length - (k + 1)) + 1 := by omega
  rw [h1, List.replicate_succ]
  have h2 : k - (B.take k).length = 0 := by rw [List.length_take]; omega
  rw [h2, List.set_cons_zero, List.take_succ_eq_append_getElem hk, e]
  simp
theorem mixM_get {B : List Int} {k : Nat} (hk : k < B.length) : ∃ x, (mixM B k)[k]? = some x := by
  unfold mixM
  rw [List.getElem?_append_right (by rw [List.length_take]; omega)]
  have : k - (B.take k).length = 0 := by rw [List.length_take]; omega
  rw [this]
  exact ⟨0, by rw [List.getElem?_replicate, if_pos (by omega)]⟩
theorem mixM_get' {B : List Int} {k : Nat} {b : Int} (h : B[k]? = some b) : (mixM B (k + 1))[k]? = some b := by
  obtain ⟨hk, e⟩ := List.getElem?_eq_some_iff.1 h
  unfold mixM
  rw [List.getElem?_append_left (by rw [List.length_take]; omega), List.getElem?_take, if_pos (by omega), h]
theorem smal_base {n : Int} {ws : List Int} (hn : 0 ≤ n) (hn2 : n ≤ 100000000000000) (h : wsOK ws) (hS : sumI ws ≠ 0) : Smal 1000000000000000 (baseM n (sumI ws) ws) := by
  refine smal_of (b := 100000000000000) (fun x hx => ?_) (by omega) (by rw [baseM_len]; have := h.2.2; omega)
  obtain ⟨y, hy, rfl⟩ := List.mem_map.1 hx
  have h0 := h.sum
  have := base_bd (n := n) (S := sumI ws) (x := y) hn (by omega) (h.nn y hy) (mem_le_sum h.nn y hy)
  omega
theorem last_set {n : Int} {ws : List Int} {j : Nat} (hj : ws.length = j + 1) (h0 : sumI ws = 0) : (List.replicate ws.length (0 : Int)).set j n = spreadM n ws := by
  unfold spreadM
  rw [if_pos h0]
  congr 1
  omega
theorem wadd_mul {n x : Int} (hn : 0 ≤ n) (hn2 : n ≤ 100000000000000) (h0 : 0 ≤ x) (h5 : x ≤ 5) : 0 ≤ n * x ∧ n * x ≤ 500000000000000 :=
  ⟨Int.mul_nonneg hn h0, Int.le_trans (Int.mul_le_mul hn2 h5 h0 (by omega)) (by omega)⟩
theorem drop_consI {L : List Int} {k : Nat} {p : Int} (h : L[k]? = some p) : L.drop k = p :: L.drop (k + 1) := by
  have hk := (List.getElem?_eq_some_iff.1 h).1
  have e := (List.getElem?_eq_some_iff.1 h).2
  rw [List.drop_eq_getElem_cons hk, e]
theorem set_here {P R : List Int} {k : Nat} {y z : Int} (h : P.length = k) : (P ++ y :: R).set k z = P ++ z :: R := by
  rw [List.set_append_right _ _ (by omega)]
  have : k - P.length = 0 := by omega
  rw [this, List.set_cons_zero]
theorem onesM_nil (m : Int) (ws : List Int) : onesM m ws [] = [] := by cases ws <;> simp [onesM]
theorem sum_n (A : Option Addr) (c n : Nat) (L : List Int) (w : World) (h : NV w A L) (hn : n = L.length) (hL : n ≤ 1048576) (hM : Smal 1000000000000000 L) :
    Calls Tryz.prog 173 #[.slice A n c] w fun e w' => e = .returned (.int .i64 (sumI L)) ∧ w = w' := by subst hn; exact sum_v A c L w h hL hM
theorem total_n (A : Option Addr) (c n : Nat) (L : List Int) (w : World) (h : NV w A L) (hn : n = L.length) (hL : n ≤ 1048576) (hM : Smal 1000000000000000 L) :
    Calls Tryz.prog 73 #[.slice A n c] w fun e w' => e = .returned (.int .i64 (sumI L)) ∧ w = w' := by subst hn; exact total_v A c L w h hL hM
set_option maxRecDepth 100000 in
theorem spread_v (A : Option Addr) (c : Nat) (n : Int) (ws : List Int) (w : World) (h : NV w A ws) (hw : wsOK ws) (hn : 0 ≤ n) (hn2 : n ≤ 100000000000000) :
    Calls Tryz.prog 181 #[.int .i64 n, .slice A ws.length c] w fun e w' => e = .returned (.slice (some ⟨w.heap.size, 0, none⟩) ws.length ws.length) ∧ IB w' w.heap.size (spreadM n ws) ∧ Below w.heap.size w w' := by
  obtain ⟨hw1, hw2, hw3⟩ := id hw
  obtain ⟨hs0, hs1⟩ := hw.sum
  have hmk : ∀ w : World, (Instr.makeSlice 34 (.int .i64 (ws.length : Int)) (.int .i64 (ws.length : Int))).run Tryz.prog w = .ok (.slice (some ⟨w.heap.size, 0, none⟩) ws.length ws.length) (w.alloc (.cells (ivals (List.replicate ws.length 0)) 3)) := fun w => madeI ws.length w (by omega)
  have HW := Lib.hid hw
  have HW1 := Lib.hid hw1
  obtain ⟨j, hj⟩ : ∃ j, ws.length = j + 1 := ⟨ws.length - 1, by omega⟩
  have HJ := Lib.hid hj
  clear hw1 hw hj
  go_enter Tryz.func181, Tryz.ntmps181
  go_wp2_with fail
  have hI0 := makeI_b ws.length w
  have hB0 : Below w.heap.size w (w.alloc (.cells (ivals (List.replicate ws.length 0)) 3)) := balloc (Below.refl _ _)
  obtain ⟨W, hWe⟩ : ∃ W, w.alloc (.cells (ivals (List.replicate ws.length 0)) 3) = W := ⟨_, rfl⟩
  rw [hWe] at hI0 hB0 ⊢
  have HI := Lib.hid hI0
  have HB := Lib.hid hB0
  have HNW := Lib.hid (h.keep hB0)
  clear hWe hI0 hB0 hmk
  with_reducible refine (sum_v A c ws _ HNW.out (by omega) HW.out.smal).mono ?_
  rintro e w1 ⟨rfl, rfl⟩
  by_cases hS : sumI ws = 0
  · have hz : (sumI ws == 0) = true := by simpa using hS
    have hsp := last_set (n := n) (by rw [HJ.out] : ws.length = j + 1) hS
    have e1 : (ws.length : Int) - 1 = (j : Int) := by have := HJ.out; omega
    have e2 : IntKind.i64.wrap ((ws.length : Int) - 1) = (j : Int) := by rw [e1]; exact IntWalk.i64_in _ (by omega)
    have hjl : j < ws.length := by have := HJ.out; omega
    have c0 := HI.out.cell (i := j) (x := 0) (by simp [hjl])
    have f0 := HI.out.frozen j
    have HF := Lib.hid (show IB (W.setCell ⟨w.heap.size, j, none⟩ (.int .i64 n)) w.heap.size (spreadM n ws) by have := HI.out.set j n; rwa [hsp] at this)
    have HB2 := Lib.hid (HB.out.setCell (p := ⟨w.heap.size, j, none⟩) (Nat.le_refl _) (.int .i64 n))
    clear hS hsp HI HB
    go_wp2
    go_ret
    exact ⟨rfl, HF.out, HB2.out⟩
  · have hz : (sumI ws == 0) = false := by simpa using hS
    obtain ⟨S, hSe⟩ : ∃ S, sumI ws = S := ⟨_, rfl⟩
    have hS1 : 0 < S := by omega
    have hS2 : S ≤ 25 := by omega
    have hbl := baseM_len n S ws
    have hmb := miss_bd hn HW.out.nn hS
    have hsm := smal_base hn hn2 HW.out hS
    have hsp : spreadM n ws = onesM (n - sumI (baseM n S ws)) ws (baseM n S ws) := by unfold spreadM; rw [if_neg hS, hSe]
    rw [hSe] at hz hmb hsm
    have hcb := cntP_bd ws
    have HSP := Lib.hid hsp
    have HMB := Lib.hid hmb
    have HSM := Lib.hid hsm
    have HSE := Lib.hid hSe
    have HBL := Lib.hid hbl
    rw [hSe]
    have hI0 : IB W w.heap.size (mixM (baseM n S ws) 0) := by rw [mixM_zero, hbl]; exact HI.out
    have HI0 := Lib.hid hI0
    have hcb2 : cntP ws ≤ 5 := by omega
    have hcb1 : 0 ≤ cntP ws := by omega
    clear hS hsp hmb hsm hbl hSe HI hI0 hs0 hs1 hcb
    go_wp2_with fail
    go_loopw [26] (fun i wr => ∃ k : Nat, k ≤ ws.length ∧ i = .int .i64 k ∧ IB wr w.heap.size (mixM (baseM n S ws) k) ∧ Below w.heap.size w wr) (fun i _ => ws.length - (intOf i).toNat)
    case atStart => exact ⟨0, by omega, rfl, HI0.out, HB.out⟩
    case round =>
      obtain ⟨k, hk, rfl, hI, hBr⟩ := hrel
      clear HI0
      by_cases hlt : k < ws.length
      · have hd : decide ((k : Int) < (ws.length : Int)) = true := by simpa using hlt
        obtain ⟨b, off, rfl, hb, hp⟩ := (h.keep hBr).cells (by omega)
        have hget : ws[k]? = some ws[k] := List.getElem?_eq_getElem hlt
        have c0 := hp k _ hget
        have hx01 := HW1.out _ (List.getElem_mem hlt)
        generalize hx : ws[k] = x at *
        obtain ⟨hx0, hx1⟩ := hx01
        obtain ⟨hm0, hm1⟩ := wadd_mul hn hn2 hx0 hx1
        have hbk := base_get (n := n) (S := S) hget
        obtain ⟨y, hy⟩ := mixM_get (B := baseM n S ws) (k := k) (by rw [HBL.out]; exact hlt)
        have d0 := hI.cell hy
        have f0 := hI.frozen k
        have hI2 := hI.set k (n * x / S)
        rw [mixM_set hbk] at hI2
        have HI2 := Lib.hid hI2
        have HB2 := Lib.hid (hBr.setCell (p := ⟨w.heap.size, k, none⟩) (Nat.le_refl _) (.int .i64 (n * x / S)))
        clear hI hI2 hBr hp hget hx hy hbk
        go_wp2
        go_roundw
        case rel => exact ⟨k + 1, by omega, by go_num, HI2.out, HB2.out⟩
        case measure => simp [intOf]; omega
      · have hd : decide ((k : Int) < (ws.length : Int)) = false := by simp; omega
        obtain rfl : k = ws.length := by omega
        rw [← HBL.out, mixM_all] at hI
        have HIB := Lib.hid hI
        have HBR := Lib.hid hBr
        clear hI hBr
        go_wp2_with fail
        with_reducible refine (sum_n _ ws.length ws.length (baseM n S ws) _ HIB.out.nv HBL.out.symm (by omega) HSM.out).mono ?_
        rintro e w2 ⟨rfl, rfl⟩
        obtain ⟨m, hm⟩ : ∃ m, n - sumI (baseM n S ws) = m := ⟨_, rfl⟩
        have hmb := HMB.out
        rw [hm] at hmb
        obtain ⟨hm0, hm1⟩ := hmb
        have hmw : IntKind.i64.wrap (n - sumI (baseM n S ws)) = m := by rw [hm]; exact IntWalk.i64_in _ (by omega)
        have hsp := HSP.out
        rw [hm] at hsp
        have HSP2 := Lib.hid hsp
        have hcc : m ≤ 5 := by omega
        clear HSP hsp HMB hm
        go_wp2_with fail
        go_loopw [8, 47] (fun mv i wr => ∃ (k : Nat) (m' : Int) (P : List Int), k ≤ ws.length ∧ i = .int .i64 k ∧ mv = .int .i64 m' ∧ P.length = k ∧ m' ≤ 5 ∧ IB wr w.heap.size (P ++ (baseM n S ws).drop k) ∧ P ++ onesM m' (ws.drop k) ((baseM n S ws).drop k) = spreadM n ws ∧ Below w.heap.size w wr) (fun _ i _ => ws.length - (intOf i).toNat)
        case atStart => exact ⟨0, m, [], by omega, rfl, rfl, rfl, hcc, by simpa using HIB.out, by simpa using HSP2.out.symm, HBR.out⟩
        case round =>
          obtain ⟨k, m', P, hk, rfl, rfl, hP, hm5, hI, hf, hBr⟩ := hrel
          clear HIB HBR HSP2 hmw hm0 hm1 hcc
          by_cases hlt : k < ws.length
          · have hd : decide ((k : Int) < (ws.length : Int)) = true := by simpa using hlt
            obtain ⟨b, off, rfl, hb, hp⟩ := (h.keep hBr).cells (by omega)
            have hget : ws[k]? = some ws[k] := List.getElem?_eq_getElem hlt
            have c0 := hp k _ hget
            have hx01 := HW1.out _ (List.getElem_mem hlt)
            have hbk := base_get (n := n) (S := S) hget
            have hdw := drop_consI hget
            generalize hx : ws[k] = x at *
            have hdb := drop_consI hbk
            obtain ⟨hx0, hx1⟩ := hx01
            have hbb : 0 ≤ n * x / S ∧ n * x / S ≤ 500000000000000 := by
              obtain ⟨q0, q1⟩ := wadd_mul hn hn2 hx0 hx1
              exact ⟨Int.ediv_nonneg q0 (by omega), Int.le_trans (Int.ediv_le_self S q0) q1⟩
            generalize n * x / S = y at *
            obtain ⟨hb0, hb1⟩ := hbb
            rw [hdb] at hI hf
            rw [hdw] at hf
            have d0 := hI.cell (i := k) (x := y) (by rw [List.getElem?_append_right (by omega), hP, Nat.sub_self]; rfl)
            have f0 := hI.frozen k
            have HDW := Lib.hid hdw
            by_cases hxp : 0 < x
            · have e1 : decide (x > 0) = true := by simpa using hxp
              have e1' : decide (0 < x) = true := by simpa using hxp
              by_cases hmp : 0 < m'
              · have e2 : decide (m' > 0) = true := by simpa using hmp
                have e2' : decide (0 < m') = true := by simpa using hmp
                rw [onesM, if_pos ⟨hxp, hmp⟩] at hf
                have hI2 := hI.set k (y + 1)
                rw [set_here hP] at hI2
                have HI2 := Lib.hid hI2
                have HF2 := Lib.hid hf
                have HP := Lib.hid hP
                have HB2 := Lib.hid (hBr.setCell (p := ⟨w.heap.size, k, none⟩) (Nat.le_refl _) (.int .i64 (y + 1)))
                have HXP := Lib.hid hxp
                have HMP := Lib.hid hmp
                clear hI hI2 hBr hp hget hx hbk hdb hdw hf hP hxp
                go_wp2
                go_roundw
                case rel => exact ⟨k + 1, m' - 1, P ++ [y + 1], by omega, by go_num, rfl, by simp [HP.out], by omega, by simpa using HI2.out, by simpa using HF2.out, HB2.out⟩
                case measure => simp [intOf]; omega
              · have e2 : decide (m' > 0) = false := by simpa using hmp
                have e2' : decide (0 < m') = false := by simpa using hmp
                rw [onesM, if_neg (by omega)] at hf
                have HI2 := Lib.hid hI
                have HF2 := Lib.hid hf
                have HP := Lib.hid hP
                have HB2 := Lib.hid hBr
                have HXP := Lib.hid hxp
                have HMP := Lib.hid hmp
                clear hI hBr hp hget hx hbk hdb hdw hf hP hxp hmp
                go_wp2
                go_roundw
                case rel => exact ⟨k + 1, m', P ++ [y], by omega, by go_num, rfl, by simp [HP.out], by omega, by simpa using HI2.out, by simpa using HF2.out, HB2.out⟩
                case measure => simp [intOf]; omega
            · have e1 : decide (x > 0) = false := by simpa using hxp
              have e1' : decide (0 < x) = false := by simpa using hxp
              rw [onesM, if_neg (by omega)] at hf
              have HI2 := Lib.hid hI
              have HF2 := Lib.hid hf
              have HP := Lib.hid hP
              have HB2 := Lib.hid hBr
              have HXP := Lib.hid hxp
              clear hI hBr hp hget hx hbk hdb hdw hf hP hxp
              go_wp2
              go_roundw
              case rel => exact ⟨k + 1, m', P ++ [y], by omega, by go_num, rfl, by simp [HP.out], by omega, by simpa using HI2.out, by simpa using HF2.out, HB2.out⟩
              case measure => simp [intOf]; omega
          · have hd : decide ((k : Int) < (ws.length : Int)) = false := by simp; omega
            have hk' : k = ws.length := by omega
            have hdb : (baseM n S ws).drop k = [] := List.drop_eq_nil_of_le (by rw [HBL.out]; omega)
            rw [hdb, onesM_nil, List.append_nil] at hf
            rw [hdb, List.append_nil, hf] at hI
            have HI2 := Lib.hid hI
            have HB2 := Lib.hid hBr
            clear hI hBr hf hdb hP
            go_wp2
            go_ret
            exact ⟨rfl, HI2.out, HB2.out⟩
end Go.Proofs.YtgdkionmeacalaaGreat
end
