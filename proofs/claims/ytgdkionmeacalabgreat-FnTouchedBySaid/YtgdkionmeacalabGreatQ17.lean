import Derived.Test.YtgdkionmeacalabGreatQ16
import Derived.RangeFuncNested
import Derived.RangeFuncBound
import Derived.RangeFuncCalls
import Derived.RangeFuncLeaves
import Derived.Shelf.Abstract
import Derived.Shelf.RegionOpen
import Derived.WalkKit
import Derived.OwnWalkIn
import Derived.TacticsInMore
import Derived.LoopNIn
import Derived.LoopIn
section
namespace Go.Proofs.YtgdkionmeacalabGreat
open Go.RowKit
set_option linter.unusedVariables false
set_option linter.unusedSimpArgs false
set_option maxHeartbeats 4000000
theorem pv_of {w : World} {A : Option Addr} {L : List Pk} (h : RvK 9 w A (L.map valsPk)) : PV w A L := ⟨fun h0 => by
  obtain ⟨b, off, e, hb, hp⟩ := h (by simpa using h0)
  refine ⟨b, off, e, hb, fun i p hi => ?_⟩
  have hr := hp i (valsPk p) (by rw [List.getElem?_map, hi]; rfl)
  exact ⟨hr 0 _ rfl, hr 1 _ rfl, hr 2 _ rfl, hr 3 _ rfl, hr 4 _ rfl, hr 5 _ rfl, hr 6 _ rfl, hr 7 _ rfl, hr 8 _ rfl⟩⟩
theorem cev_of {w : World} {A : Option Addr} {L : List Ce} (h : RvK 9 w A (L.map valsCe)) : CeV w A L := ⟨fun h0 => by
  obtain ⟨b, off, e, hb, hp⟩ := h (by simpa using h0)
  refine ⟨b, off, e, hb, fun i p hi => ?_⟩
  have hr := hp i (valsCe p) (by rw [List.getElem?_map, hi]; rfl)
  exact ⟨hr 0 _ rfl, hr 1 _ rfl, hr 2 _ rfl, hr 3 _ rfl, hr 4 _ rfl, hr 5 _ rfl, hr 6 _ rfl, hr 7 _ rfl, hr 8 _ rfl⟩⟩
set_option maxRecDepth 100000 in
theorem packReq_v (A : Option Addr) (c n : Nat) (L : List Pk) (ow oh : Int) (w : World) (h : PV w A L) (hn : n = L.length) (hok : ∀ p ∈ L, p.big) (h7 : L.length ≤ 10) :
    Calls Tryz.prog 183 #[.slice A n c, .agg (valsWi (ow, oh)).toArray] w fun e w' => e = .returned (.agg (valsWi (reqM L)).toArray) ∧ Below w.heap.size w w' := by
  subst hn
  have HV := Lib.hid h
  have HOK := Lib.hid hok
  clear h hok
  refine calls_abs Tryz.func183 rfl 10 (by simp only [Tryz.ntmps183]) (by simp) (fun t hsz hargs => ?_)
  have q0 : t[0]? = some (.slice A L.length c) := get_of (by omega) (hargs 0 _ rfl)
  have q1 : t[1]? = some (.agg (valsWi (ow, oh)).toArray) := get_of (by omega) (hargs 1 _ rfl)
  clear hargs
  obtain ⟨l0, e0⟩ := Array.getElem?_eq_some_iff.1 q0
  obtain ⟨l1, e1⟩ := Array.getElem?_eq_some_iff.1 q1
  refine wp_seq_h fun K hK => ?_
  apply wp_region_lit
  repeat (first | ((with_reducible show wpList _ _ _ _ _ _); refine allocK 62 2 rfl rfl infz_wish (fun z hz => ?_)) | go_step)
  refine hK.out _ _ ?_
  clear hK K
  refine wp_abw (fun t' W' => t'.size = 10 ∧ t'[0]? = some (.slice A L.length c) ∧ t'[4]? = some (.pointer (some ⟨w.heap.size + 1, 0, none⟩)) ∧ (∃ z : Array Value, W'.heap[w.heap.size + 1]? = some (.cells z 62 (0, 0)) ∧ z.size = 2) ∧ Below w.heap.size w W') ⟨by simp [Act.put, hsz], by simp [Act.put, q0], by simp [Act.put, hsz], ⟨⟨z, by have := newS (w.alloc (.cells (valsWi (ow, oh)).toArray 62)) (.cells z 62); simpa using this, hz⟩, (balloc (Below.refl _ _)).trans ((balloc (Below.refl _ _)).mono (by simp))⟩⟩ ?_
  clear hsz q0 l0 e0 q1 l1 e1 t z hz
  rintro t W1 ⟨hsz, q0, q4, ⟨z, H2, hz⟩, hB⟩
  have HB := Lib.hid hB
  replace HV := Lib.hid (HV.out.keep hB)
  have HX := Lib.hid H2
  clear hB H2
  obtain ⟨l0, e0⟩ := Array.getElem?_eq_some_iff.1 q0
  obtain ⟨l4, e4⟩ := Array.getElem?_eq_some_iff.1 q4
  refine wp_seq_h fun K hK => ?_
  apply wp_region_lit
  repeat go_step
  refine (packRequest_w A c L false _ HV.out HOK.out h7).mono ?_
  rintro e W2 ⟨rfl, hb2⟩
  dsimp only
  have HV2 := Lib.hid (HV.out.keep hb2)
  have HB2 := Lib.hid (bkeep2 HB.out hb2)
  have HX2 := Lib.hid ((hb2.block _ (ltS HX.out)).trans HX.out)
  clear hb2 HB HV HX
  repeat go_step
  refine (packRequest_w A c L true _ HV2.out HOK.out h7).mono ?_
  rintro e W3 ⟨rfl, hb3⟩
  dsimp only
  have HB := Lib.hid (bkeep2 HB2.out hb3)
  have HX := Lib.hid ((hb3.block _ (ltS HX2.out)).trans HX2.out)
  clear hb3 HB2 HV2 HX2
  have HTH := Lib.hid (show W3.there (w.heap.size + 1) 0 (valsWi (reqM L)).length from thereB HX.out (by rw [hz]; show 0 + 2 ≤ 2; omega))
  repeat (first | ((with_reducible show wpList _ _ _ _ _ _); refine stK 62 _ _ (valsWi (reqM L)) (w.heap.size + 1) 0 rfl rfl HTH.out inf_wish (valsWi_one _) (by simp [Act.eval, Act.put, hsz, e4]) (by simp [Act.eval, Act.put, hsz, valsWi, reqD]) ?_) | go_step)
  refine hK.out _ _ ?_
  clear hK K
  apply wp_ret
  refine bp_retcell 4 62 (w.heap.size + 1) (valsWi (reqM L)) Tryz.results183 ?_ (World.rangeAt_setCells_same _ _ _ _ HTH.out) Tryz.underlying62 rfl inf_wish rfl ⟨rfl, below_setCells (by omega) _ _ _ HB.out⟩
  simp [Act.put, hsz, e4]
set_option maxRecDepth 100000 in
theorem placeReq_v (v : Value) (ow oh : Int) (w : World) :
    Calls Tryz.prog 175 #[v, .agg (valsWi (ow, oh)).toArray] w fun e w' => e = .returned (.agg (valsWi (ow, oh)).toArray) ∧ Below w.heap.size w w' := by
  refine calls_abs Tryz.func175 rfl 6 (by simp only [Tryz.ntmps175]) (by simp) (fun t hsz hargs => ?_)
  have q1 : t[1]? = some (.agg (valsWi (ow, oh)).toArray) := get_of (by omega) (hargs 1 _ rfl)
  clear hargs
  obtain ⟨l1, e1⟩ := Array.getElem?_eq_some_iff.1 q1
  refine wp_seq_h fun K hK => ?_
  apply wp_region_lit
  repeat (first | ((with_reducible show wpList _ _ _ _ _ _); refine allocK 62 2 rfl rfl infz_wish (fun z hz => ?_)) | go_step)
  refine hK.out _ _ ?_
  clear hK K
  refine wp_abw (fun t' W' => t'.size = 6 ∧ t'[3]? = some (.pointer (some ⟨w.heap.size, 0, none⟩)) ∧ t'[4]? = some (.pointer (some ⟨w.heap.size + 1, 0, none⟩)) ∧ W'.heap[w.heap.size]? = some (.cells (valsWi (ow, oh)).toArray 62 (0, 0)) ∧ (∃ z : Array Value, W'.heap[w.heap.size + 1]? = some (.cells z 62 (0, 0)) ∧ z.size = 2) ∧ Below w.heap.size w W') ⟨by simp [Act.put, hsz], by simp [Act.put, hsz], by simp [Act.put, hsz], ⟨(Below.heap_alloc _ _ _ (by simp)).trans (newS _ _), ⟨z, by have := newS (w.alloc (.cells (valsWi (ow, oh)).toArray 62)) (.cells z 62); simpa using this, hz⟩, (balloc (Below.refl _ _)).trans ((balloc (Below.refl _ _)).mono (by simp))⟩⟩ ?_
  clear hsz q1 l1 e1 t z hz
  rintro t W1 ⟨hsz, q3, q4, H1, ⟨z, H2, hz⟩, hB⟩
  have HR := Lib.hid (show W1.rangeAt w.heap.size 0 (valsWi (ow, oh)) from fun j v hj => by rw [Nat.zero_add]; exact (cellS H1 j).trans (by simpa using hj))
  have HTH := Lib.hid (show W1.there (w.heap.size + 1) 0 (valsWi (ow, oh)).length from thereB H2 (by rw [hz]; show 0 + 2 ≤ 2; omega))
  have HB := Lib.hid hB
  clear H1 H2 hB
  obtain ⟨l3, e3⟩ := Array.getElem?_eq_some_iff.1 q3
  obtain ⟨l4, e4⟩ := Array.getElem?_eq_some_iff.1 q4
  refine wp_seq_h fun K hK => ?_
  apply wp_region_lit
  repeat (first | ((with_reducible show wpList _ _ _ _ _ _); refine ldK 62 _ (valsWi (ow, oh)) w.heap.size 0 rfl rfl HR.out Tryz.underlying62 rfl inf_wish (by simp [Act.eval, Act.put, hsz, e3]) ?_) | ((with_reducible show wpList _ _ _ _ _ _); refine stK 62 _ _ (valsWi (ow, oh)) (w.heap.size + 1) 0 rfl rfl HTH.out inf_wish (valsWi_one _) (by simp [Act.eval, Act.put, hsz, e4]) (by simp [Act.eval, Act.put, hsz]) ?_) | go_step)
  refine hK.out _ _ ?_
  clear hK K
  apply wp_ret
  refine bp_retcell 4 62 (w.heap.size + 1) (valsWi (ow, oh)) Tryz.results175 ?_ (World.rangeAt_setCells_same _ _ _ _ HTH.out) Tryz.underlying62 rfl inf_wish rfl ⟨rfl, below_setCells (by omega) _ _ _ HB.out⟩
  simp [Act.put, hsz, e4]
def gridM (L1 L2 : List Ln) (L3 : List Ce) : Int × Int := (sumI (wishM L1 (L3.map acM)), sumI (wishM L2 (L3.map dnM)))
set_option maxRecDepth 100000 in
theorem gridReq_v (A1 : Option Addr) (c1 : Nat) (L1 : List Ln) (A2 : Option Addr) (c2 : Nat) (L2 : List Ln) (A3 : Option Addr) (c3 n3 : Nat) (L3 : List Ce) (ow oh : Int) (w : World) (h1 : LnV w A1 L1) (h2 : LnV w A2 L2) (h3 : CeV w A3 L3) (hn : n3 = L3.length) (v1 : linesB L1 = true) (v2 : linesB L2 = true) (hl8 : L3.length ≤ 10) (hsm : ∀ p ∈ L3, smW p) (hs1 : spansW L1.length (L3.map acM)) (hs2 : spansW L2.length (L3.map dnM)) :
    Calls Tryz.prog 152 #[.agg #[.slice A1 L1.length c1, .slice A2 L2.length c2, .slice A3 n3 c3], .agg (valsWi (ow, oh)).toArray] w fun e w' => e = .returned (.agg (valsWi (gridM L1 L2 L3)).toArray) ∧ Below w.heap.size w w' := by
  subst hn
  have HG := Lib.hid (fun W hb => gridRequest_w A1 c1 L1 A2 c2 L2 A3 c3 L3 W (h1.keep hb) (h2.keep hb) (h3.keep hb) v1 v2 hl8 hsm hs1 hs2)
  clear h1 h2 h3 v1 v2 hl8 hsm hs1 hs2
  refine calls_abs Tryz.func152 rfl 15 (by simp only [Tryz.ntmps152]) (by simp) (fun t hsz hargs => ?_)
  have q0 : t[0]? = some (.agg #[.slice A1 L1.length c1, .slice A2 L2.length c2, .slice A3 L3.length c3]) := get_of (by omega) (hargs 0 _ rfl)
  have q1 : t[1]? = some (.agg (valsWi (ow, oh)).toArray) := get_of (by omega) (hargs 1 _ rfl)
  clear hargs
  obtain ⟨l0, e0⟩ := Array.getElem?_eq_some_iff.1 q0
  obtain ⟨l1, e1⟩ := Array.getElem?_eq_some_iff.1 q1
  refine wp_seq_h fun K hK => ?_
  apply wp_region_lit
  repeat (first | ((with_reducible show wpList _ _ _ _ _ _); refine allocK 62 2 rfl rfl infz_wish (fun z hz => ?_)) | go_step)
  refine hK.out _ _ ?_
  clear hK K
  refine wp_abw (fun t' W' => t'.size = 15 ∧ t'[2]? = some (.pointer (some ⟨w.heap.size, 0, none⟩)) ∧ t'[4]? = some (.pointer (some ⟨w.heap.size + 2, 0, none⟩)) ∧ W'.heap[w.heap.size]? = some (.cells #[.slice A1 L1.length c1, .slice A2 L2.length c2, .slice A3 L3.length c3] 128 (0, 0)) ∧ (∃ z : Array Value, W'.heap[w.heap.size + 2]? = some (.cells z 62 (0, 0)) ∧ z.size = 2) ∧ Below w.heap.size w W') ⟨by simp [Act.put, hsz], by simp [Act.put, hsz], by simp [Act.put, hsz], ⟨(Below.heap_alloc _ _ _ (by simp; omega)).trans ((Below.heap_alloc _ _ _ (by simp)).trans (newS _ _)), ⟨z, by have := newS ((w.alloc (.cells #[.slice A1 L1.length c1, .slice A2 L2.length c2, .slice A3 L3.length c3] 128)).alloc (.cells (valsWi (ow, oh)).toArray 62)) (.cells z 62); simpa using this, hz⟩, (((Below.refl _ w).alloc (Nat.le_refl _) _).alloc (by simp) _).alloc (by simp; omega) _⟩⟩ ?_
  clear hsz q0 l0 e0 q1 l1 e1 t z hz
  rintro t W1 ⟨hsz, q2, q4, H1, ⟨z, H2, hz⟩, hB⟩
  have HB := Lib.hid hB
  have HX := Lib.hid H2
  have HR := Lib.hid (show W1.rangeAt w.heap.size 0 [.slice A1 L1.length c1, .slice A2 L2.length c2, .slice A3 L3.length c3] from fun j v hj => by rw [Nat.zero_add]; exact (cellS H1 j).trans (by simpa using hj))
  clear hB H2 H1
  obtain ⟨l2, e2⟩ := Array.getElem?_eq_some_iff.1 q2
  obtain ⟨l4, e4⟩ := Array.getElem?_eq_some_iff.1 q4
  refine wp_seq_h fun K hK => ?_
  apply wp_region_lit
  repeat (first | ((with_reducible show wpList _ _ _ _ _ _); refine ldK 128 _ [.slice A1 L1.length c1, .slice A2 L2.length c2, .slice A3 L3.length c3] w.heap.size 0 rfl rfl HR.out Tryz.underlying128 rfl (by kernel_rfl) (by simp [Act.eval, Act.put, hsz, e2]) ?_) | go_step)
  refine (HG.out _ HB.out).mono ?_
  rintro e W2 ⟨rfl, hb2⟩
  dsimp only
  replace HB := Lib.hid (bkeep2 HB.out hb2)
  replace HX := Lib.hid ((hb2.block _ (ltS HX.out)).trans HX.out)
  clear hb2 HR
  repeat go_step
  refine hK.out _ _ ?_
  clear hK K
  refine wp_abw (fun t' W' => t'.size = 15 ∧ t'[4]? = some (.pointer (some ⟨w.heap.size + 2, 0, none⟩)) ∧ t'[5]? = some (.int .i64 (gridM L1 L2 L3).1) ∧ t'[6]? = some (.int .i64 (gridM L1 L2 L3).2) ∧ W2 = W') ⟨by simp [Act.put, hsz], by simp [Act.put, q4], by simp [Act.put, hsz, gridM], by simp [Act.put, hsz, gridM], rfl⟩ ?_
  clear hsz q2 l2 e2 q4 l4 e4 t 
  rintro t _ ⟨hsz, q4, q5, q6, rfl⟩
  have HTH := Lib.hid (show W2.there (w.heap.size + 2) 0 (valsWi (gridM L1 L2 L3)).length from thereB HX.out (by rw [hz]; show 0 + 2 ≤ 2; omega))
  obtain ⟨l4, e4⟩ := Array.getElem?_eq_some_iff.1 q4
  obtain ⟨l5, e5⟩ := Array.getElem?_eq_some_iff.1 q5
  obtain ⟨l6, e6⟩ := Array.getElem?_eq_some_iff.1 q6
  refine wp_seq_h fun K hK => ?_
  apply wp_region_lit
  repeat (first | ((with_reducible show wpList _ _ _ _ _ _); refine stK 62 _ _ (valsWi (gridM L1 L2 L3)) (w.heap.size + 2) 0 rfl rfl HTH.out inf_wish (valsWi_one _) (by simp [Act.eval, Act.put, hsz, e4]) (by simp [Act.eval, Act.put, hsz, valsWi]) ?_) | go_step)
  refine hK.out _ _ ?_
  clear hK K
  apply wp_ret
  refine bp_retcell 4 62 (w.heap.size + 2) (valsWi (gridM L1 L2 L3)) Tryz.results152 ?_ (World.rangeAt_setCells_same _ _ _ _ HTH.out) Tryz.underlying62 rfl inf_wish rfl ⟨rfl, below_setCells (by omega) _ _ _ HB.out⟩
  simp [Act.put, hsz, e4]
end Go.Proofs.YtgdkionmeacalabGreat
end
section
namespace Go.Proofs.YtgdkionmeacalabGreat
open Go.RowKit
set_option linter.unusedVariables false
set_option maxHeartbeats 4000000
attribute [local go_sem 5000] run_mx run_mn
attribute [local go_sem] Oper.semAt_some
theorem ldNI {F : Fence} {n : Nat} {P : Program} {ops : Array Oper} {rest : List Oper} {op : Oper} {a : Act} {w : World} {Q : Exit → Act → World → Prop} (T : TypeId) (x : Operand) (vs : List Value) (b o : Nat) {d : TypeDesc} (hgd : op.guard = none) (ho : op.op = .load T x) (hx : a.eval x = .pointer (some ⟨b, o, none⟩))
    (hc : w.rangeAt b o vs) (hu : P.underlying T = some d) (hd : d.isRow = true) (hi : (P.info? T).map (·.size) = some vs.length)
    (h : wpListIn F n P ops Q rest (a.put op.dst (.agg vs.toArray)) w) : wpListIn F n P ops Q (op :: rest) a w := by
  refine wpListIn_plain hgd fun K hK => ⟨fun f hf => ?_, ?_⟩
  · simp [Oper.about, ho] at hf
  · rw [Oper.semAt_eq _ _ _ (fun c e => by rw [ho] at e; cases e)]
    unfold execOp
    simp only [ho, hx, Instr.loadAt, Instr.sureAddr, Sem.run_bind, Sem.run_pure, Result.andThen_ok, run_loadVar_mid w b o T vs d hc hu hd hi]
    exact hK _ _ h
/-- what comes: an index, and a node -/
structure BkN where
  i : Nat
  p : Nr
def encN (x : BkN) : Array Value := #[.int .i64 (x.i : Int), .agg (valsNr x.p).toArray]
def NrVn (n0 : Nat) (W : World) (A : Option Addr) (R : List Nr) : Prop := 0 < R.length → ∃ b off, A = some ⟨b, off, none⟩ ∧ b < n0 ∧ ∀ i p, R[i]? = some p → W.rangeAt b (off + i * 34) (valsNr p)
theorem NrVn.below {n0 : Nat} {W W' : World} {A : Option Addr} {R : List Nr} (h : NrVn n0 W A R) (hb : Below n0 W W') : NrVn n0 W' A R := fun h0 =>
  let ⟨b, off, e, hl, hp⟩ := h h0; ⟨b, off, e, hl, fun i p hi => rangeB (hp i p hi) (hb.block b hl)⟩
/-- what has come are the last ones, the last one first -/
def BkS (R : List Nr) (k : Nat) (ys : List BkN) : Prop := ys.length = R.length - k ∧ ∀ (m : Nat) (y : BkN), ys[m]? = some y → y.i = R.length - 1 - m ∧ R[y.i]? = some y.p
theorem BkS.snoc {R : List Nr} {j : Nat} {ys : List BkN} {p : Nr} (h : BkS R (j + 1) ys) (hp : R[j]? = some p) : BkS R j (ys ++ [⟨j, p⟩]) := by
  have hj := (List.getElem?_eq_some_iff.1 hp).1
  refine ⟨by rw [List.length_append, h.1]; simp; omega, fun m y hy => ?_⟩
  by_cases e : m < ys.length
  · rw [List.getElem?_append_left e] at hy
    exact h.2 m y hy
  · rw [List.getElem?_append_right (by omega)] at hy
    have hm := (List.getElem?_eq_some_iff.1 hy).1
    simp at hm
    have : m = ys.length := by omega
    subst this
    simp at hy
    subst hy
    exact ⟨by rw [h.1]; dsimp only; omega, hp⟩
set_option maxRecDepth 100000 in
theorem backwardN_in (F : Fence) (n : Nat) (hF : F.fn 73) (hro : F.round = none) (a : Option Addr) (len cap : Nat) (w : World) :
    CallsIn F n Tryz.prog 73 #[.slice a len cap] w fun e w' => e = .returned (.func (.func 109) #[] #[.pointer (some ⟨w.heap.size, 0, none⟩)]) ∧ w' = w.alloc (.cells #[.slice a len cap] 23) := by
  refine callsIn_of_wp Tryz.func73 rfl hF ?_ hro
  simp only [Tryz.ntmps73, List.size_toArray, List.length_cons, List.length_nil, Nat.reduceAdd, Nat.reduceSub, Array.replicate_succ, Array.replicate_zero, List.push_toArray, List.append_toArray, List.nil_append, List.cons_append]
  gi_wp2
  go_ret
  exact ⟨rfl, rfl⟩
end Go.Proofs.YtgdkionmeacalabGreat
end
section
namespace Go.Proofs.YtgdkionmeacalabGreat
open Go Go.RowKit
set_option linter.unusedVariables false
/-- below B all stands, and every block of cells stands -/
def KeepsC (B : Nat) (W W' : World) : Prop := Below B W W' ∧ ∀ (k : Nat) (o : Obj), W.heap[k]? = some o → o.isCells = true → W'.heap[k]? = some o
theorem keepsC_alloc {B : Nat} {W : World} (o : Obj) (h : B ≤ W.heap.size) : KeepsC B W (W.alloc o) :=
  ⟨(Below.refl _ _).alloc h o, fun k o' hk _ => (Below.heap_alloc _ _ _ (Array.getElem?_eq_some_iff.1 hk).1).trans hk⟩
theorem keepsC_put {w W : World} {l : Nat} {o o' : Obj} (hl : w.heap.size ≤ l) (h : W.heap[l]? = some o) (hc : o.isCells = false) (hw : o.isWalk = false) : KeepsC w.heap.size W (W.putObj l o') :=
  ⟨belowK_b (w := w) (Nat.le_refl _) W l o o' hl h hc hw, fun k o2 hk h2 => by
    by_cases e : k = l
    · subst e
      rw [h] at hk
      obtain rfl := Option.some.inj hk
      rw [hc] at h2
      cases h2
    · exact (World.putObj_heap_other e).trans hk⟩
theorem KeepsC.trans {B : Nat} {W1 W2 W3 : World} (h : KeepsC B W1 W2) (k : KeepsC B W2 W3) : KeepsC B W1 W3 := ⟨h.1.trans k.1, fun i o hi hc => k.2 i o (h.2 i o hi hc) hc⟩
theorem KeepsC.cells {B k : Nat} {W W' : World} {cs : Array Value} {T : TypeId} {fz : Nat × Nat} (h : KeepsC B W W') (hk : W.heap[k]? = some (.cells cs T fz)) : W'.heap[k]? = some (.cells cs T fz) := h.2 k _ hk rfl
theorem KeepsC.block {B k : Nat} {W W' : World} {cs : Array Value} {T : TypeId} {fz : Nat × Nat} (h : KeepsC B W W') (hk : W.heap[k]? = some (.cells cs T fz)) : W'.heap[k]? = W.heap[k]? := (h.cells hk).trans hk.symm
/-- an iterator that yields enc 0, enc 1, .. up to N of them, where the world is as Nd says -/
def SeqCnt (F : Fence) (n : Nat) (P : Program) (g : Nat) (lb : Array Value) (enc : Nat → Array Value) (Nd : World → Prop) (N : Nat) : Prop :=
  ∀ (l : Nat) (J : Nat → World → Prop) (W : World),
    (∀ k W1, k < N → J k W1 → YieldAt F (n - 1) P l (enc k) W1 fun e W' => e = .returned (.bool true) ∧ J (k + 1) W') →
    (∀ k W1, J k W1 → Nd W1) → J 0 W → CallsIn F n P g (#[.func (.yield l) #[] #[]] ++ lb) W fun e W' => (∃ v, e = .returned v) ∧ J N W'
/-- a range over such an iterator whose body always goes on: the invariant is told by the count of rounds -/
theorem wpIn_rangeFunc_cnt {F : Fence} {n : Nat} {P : Program} {g : Operand} {ps : Array Tmp} {assign body : Code} {Q : Exit → Act → World → Prop} {a : Act} {w : World}
    (hro : F.round = none) (h1 : 1 ≤ n) {gf : Nat} {lb : Array Value} (hg : a.eval g = .func (.func gf) #[] lb) (hFg : F.fn gf) (eg : ∀ args w, (callFunc gf args).run P w = .ok (.enter gf args) w)
    {enc : Nat → Array Value} {Nd : World → Prop} {N : Nat} (hseq : SeqCnt F (n - 1) P gf lb enc Nd N) (hps : ∀ k, (enc k).size = ps.size)
    (I : Nat → World → Prop) (hI : ∀ k W W', I k W → KeepsC w.heap.size W W' → I k W') (hN : ∀ k W, I k W → Nd W) (h0 : I 0 w)
    (Ax : Nat → Act → World → Prop) (hAx : ∀ k a' W W', Ax k a' W → KeepsC w.heap.size W W' → Ax k a' W')
    (hassign : ∀ (l k : Nat) (W : World) (K : Act → World → Prop), k < N → I k W → (∀ a' W', KeepsFrom w.heap.size W W' → I k W' → Ax k a' W' → K a' W') →
      assign.wpIn (F.inRound l) (n - 1 - 1) P (Exit.then K (fun _ _ _ => False)) { tmps := (ps.zip (enc k)).foldl (fun t (p, v) => t.setIfInBounds p v) a.tmps, defers := [] } W)
    (hbody : ∀ (l k : Nat) (a' : Act) (W : World), k < N → I k W → Ax k a' W → body.wpIn (F.inRound l) (n - 1 - 1) P (fun e _ W' => e = .normal ∧ KeepsFrom w.heap.size W W' ∧ I (k + 1) W') a' W)
    (hdone : ∀ (D : Nat) (W : World), w.heap.size ≤ D → I N W → W.heap[D]? = some (.deferred (some [])) → Q .normal { a with defers := { target := .collected D, args := #[] } :: a.defers } W) :
    (Code.rangeFunc g ps assign body).wpIn F n P Q a w := by
  refine wpIn_rangeFunc fun fn hfn => ?_
  rw [hro]
  obtain ⟨mk, hmk⟩ : ∃ mk : LoopState → Loop, ∀ st, mk st = { state := st, pending := none, fn, tmps := a.tmps, params := ps, assign, body, defers := w.heap.size } := ⟨_, fun _ => rfl⟩
  obtain ⟨Bk, hBk⟩ : ∃ Bk : LoopState → World → Prop, ∀ st W, Bk st W ↔ W.heap[w.heap.size + 1]? = some (.loop (mk st)) ∧ W.heap[w.heap.size]? = some (.deferred (some [])) := ⟨_, fun _ _ => Iff.rfl⟩
  have keep : ∀ st W W', Bk st W → KeepsFrom w.heap.size W W' → Bk st W' := fun st W W' hb hk => by
    rw [hBk] at hb ⊢
    exact ⟨hk.same _ _ (by omega) hb.1 rfl, hk.same _ _ (Nat.le_refl _) hb.2 rfl⟩
  have turn : ∀ st st' W, Bk st W → Bk st' (W.putObj (w.heap.size + 1) (.loop (mk st'))) ∧ KeepsC w.heap.size W (W.putObj (w.heap.size + 1) (.loop (mk st'))) := fun st st' W hb => by
    rw [hBk] at hb ⊢
    exact ⟨⟨World.putObj_heap_same (Array.getElem?_eq_some_iff.1 hb.1).1, (World.putObj_heap_other (by omega)).trans hb.2⟩, keepsC_put (by omega) hb.1 rfl rfl⟩
  obtain ⟨W1, hW1⟩ : ∃ W1, (w.alloc (.deferred (some []))).alloc (.loop (mk .ready)) = W1 := ⟨_, rfl⟩
  have b1 : Bk .ready W1 := by
    rw [hBk, ← hW1]
    refine ⟨?_, (Below.heap_alloc _ _ _ (by simp)).trans (World.alloc_heap_new w _)⟩
    have := World.alloc_heap_new (w.alloc (.deferred (some []))) (.loop (mk .ready))
    rwa [World.size_alloc] at this
  have i1 : I 0 W1 := by
    rw [← hW1]
    exact hI _ _ _ (hI _ _ _ h0 (keepsC_alloc _ (Nat.le_refl _))) (keepsC_alloc _ (by simp))
  refine ⟨w.heap.size + 1, [{ target := .collected w.heap.size, args := #[] }], W1, { target := .fn (.func gf) lb, args := #[.func (.yield (w.heap.size + 1)) #[] #[]] }, W1, gf,
    #[.func (.yield (w.heap.size + 1)) #[] #[]] ++ lb, W1, ?_, ?_, ?_, ?_, fun _ => h1, ?_⟩
  · rw [← hW1, hmk]; exact run_enterLoop_outer _ _ _ _ _
  · simp only [resolve, hg]
    simp [go_sem]
  · intro f' hf'
    simp [Target.leads] at hf'
    subst hf'
    exact hFg
  · simp [invoke, go_sem, eg]
  · refine (hseq (w.heap.size + 1) (fun k W => I k W ∧ Bk .ready W) W1 ?_ (fun k W h => hN k W h.1) ⟨i1, b1⟩).mono ?_
    · rintro k W hk ⟨hi, hb⟩
      have hl := ((hBk _ _).1 hb).1
      have hy := run_yield (P := P) (args := enc k) hl (by rw [hmk]; exact hps k)
      rw [hmk] at hy
      refine ⟨fn, _, assign, body, hy, roundIn_of_wpIn hfn (hassign _ k W _ hk hi ?_)⟩
      intro a' Wa hka hia hax
      have hba := keep _ _ _ hb hka
      have hla := ((hBk _ _).1 hba).1
      have hbr := run_beginRound (P := P) hla (by rw [hmk])
      rw [show ({ mk .ready with state := .busy } : Loop) = mk .busy by rw [hmk, hmk]] at hbr
      obtain ⟨hbb, hcb⟩ := turn _ .busy _ hba
      refine ⟨_, hbr, wpIn_mono (hbody _ k a' _ hk (hI _ _ _ hia hcb) (hAx _ _ _ _ hax hcb)) ?_⟩
      rintro e a3 W3 ⟨rfl, hk3, hi3⟩
      have hb3 := keep _ _ _ hbb hk3
      have her := run_endRound (P := P) none ((hBk _ _).1 hb3).1
      rw [show ({ mk .busy with state := if (none : Option Code).isNone then .ready else .done, pending := none } : Loop) = mk .ready by rw [hmk, hmk]; rfl] at her
      obtain ⟨hb4, hc4⟩ := turn _ .ready _ hb3
      exact ⟨_, _, her, rfl, hI _ _ _ hi3 hc4, hb4⟩
    · rintro e W2 ⟨⟨v, rfl⟩, hi, hb⟩
      have hl := ((hBk _ _).1 hb).1
      have hel := run_endLoop (P := P) hl (by rw [hmk]; simp)
      rw [show (mk .ready).pending = none by rw [hmk]] at hel
      exact ⟨none, _, hel, hdone _ _ (Nat.le_refl _) (hI _ _ _ hi (keepsC_put (by omega) hl rfl rfl)) ((World.putObj_heap_other (by omega)).trans ((hBk _ _).1 hb).2)⟩
end Go.Proofs.YtgdkionmeacalabGreat
end
section
namespace Go.Proofs.YtgdkionmeacalabGreat
open Go Go.RowKit
set_option linter.unusedVariables false
set_option maxHeartbeats 4000000
attribute [local go_sem] Oper.semAt_some
def zeroNr : Nr := ⟨⟨0, 0, 0, false, 0, [], [], ⟨0, 0, 0, false, false, false, 0, 0, 0⟩, ⟨0, 0, 0, 0, 0, 0, 0, 0, 0⟩, ⟨0, 0, 0, 0, 0, 0, 0, 0, 0⟩⟩, none, 0, none, 0⟩
def nrAt (R : List Nr) (i : Nat) : Nr := (R[i]?).getD zeroNr
theorem nrAt_get {R : List Nr} {i : Nat} {p : Nr} (h : R[i]? = some p) : nrAt R i = p := by unfold nrAt; rw [h]; rfl
/-- what the k-th round from the end gets -/
def encR (R : List Nr) (k : Nat) : Array Value := #[.int .i64 ((R.length - 1 - k : Nat) : Int), .agg (valsNr (nrAt R (R.length - 1 - k))).toArray]
theorem encR_at {R : List Nr} {j : Nat} {p : Nr} (h : R[j]? = some p) : encR R (R.length - (j + 1)) = #[.int .i64 (j : Int), .agg (valsNr p).toArray] := by
  have hj := (List.getElem?_eq_some_iff.1 h).1
  unfold encR
  rw [show R.length - 1 - (R.length - (j + 1)) = j by omega, nrAt_get h]
set_option maxRecDepth 100000 in
theorem bkc_in (F : Fence) (n : Nat) (hF : F.fn 109) (hro : F.round = none) (hn : 1 ≤ n) (Bs : Nat) (A : Option Addr) (c : Nat) (R : List Nr) (hL : R.length ≤ 1048576) :
    SeqCnt F n Tryz.prog 109 #[.pointer (some ⟨Bs, 0, none⟩)] (encR R) (fun W => W.cell? ⟨Bs, 0, none⟩ = some (.slice A R.length c) ∧ NrV W A R) R.length := by
  intro l J W hY hJN h0
  have hcs := (hJN _ _ h0).1
  refine callsIn_of_wp Tryz.func109 rfl hF ?_ hro
  simp only [Tryz.ntmps109, List.size_toArray, List.length_cons, List.length_nil, Nat.reduceAdd, Nat.reduceSub, Array.replicate_succ, Array.replicate_zero, List.push_toArray, List.append_toArray, List.nil_append, List.cons_append]
  gi_wp2
  clear hcs
  gi_loopw [3] (fun i wr => ∃ k : Nat, k ≤ R.length ∧ i = .int .i64 ((k : Int) - 1) ∧ J (R.length - k) wr)
    (fun i _ => (intOf i + 1).toNat)
  case atStart => exact ⟨R.length, Nat.le_refl _, rfl, by rw [Nat.sub_self]; exact h0⟩
  case round =>
    obtain ⟨k, hk, rfl, hJs⟩ := hrel
    rcases k with _ | j
    · have hd : decide (((0 : Nat) : Int) - 1 ≥ 0) = false := by simp
      gi_wp2
      go_end0
      exact ⟨⟨_, rfl⟩, hJs⟩
    · have e1 : ((j + 1 : Nat) : Int) - 1 = (j : Int) := by omega
      rw [e1]
      have hlt : j < R.length := by omega
      have hd : decide ((j : Int) ≥ 0) = true := by simp
      have hd2 : decide ((0 : Int) ≤ (j : Int)) = true := by simp
      obtain ⟨hcs, hp⟩ := hJN _ _ hJs
      obtain ⟨b, off, rfl, hb, hps⟩ := hp.cells (by omega)
      have hget : R[j]? = some R[j] := List.getElem?_eq_getElem hlt
      have hc := hps j _ hget
      have he := encR_at hget
      generalize hx : R[j] = p at *
      obtain ⟨fn, tmps, assign, body, hy, hR⟩ := hY (R.length - (j + 1)) wr (by omega) hJs
      rw [he] at hy
      have HC := Lib.hid hc
      have HE : Hid (R.length - (j + 1) + 1 = R.length - j) := Lib.hid (by omega)
      clear hc hget hx hps e1 hp he
      have hjs : IntKind.i64.wrap ((j : Int) - 1) = (j : Int) - 1 := IntWalk.i64_in _ (by omega)
      gi_wp2_with (refine ldNI 38 _ (valsNr p) b (off + j * 34) rfl rfl rfl HC.out Tryz.underlying38 rfl (by rw [valsNr_len]; kernel_rfl) ?_)
      refine hR.mono ?_
      rintro e W3 ⟨rfl, hJ3⟩
      rw [HE.out] at hJ3
      gi_wp2
      go_roundw
      case rel => exact ⟨j, by omega, by go_num, hJ3⟩
      case measure => simp [intOf]
end Go.Proofs.YtgdkionmeacalabGreat
end
section
namespace Go.Proofs.YtgdkionmeacalabGreat
open Go.RowKit
set_option linter.unusedVariables false
set_option maxHeartbeats 16000000
/-- a block of widgets whose slices stand -/
def NodS (w : World) (g : Nat) (S : List Nr) : Prop := ∃ cs : Array Value, w.heap[g]? = some (.cells cs 38 (0, 0)) ∧ cs.size = S.length * 34 ∧ ∀ i q, S[i]? = some q → cs[i * 34 + 5]? = some (.slice q.ca q.n.cs.length q.cc) ∧ cs[i * 34 + 6]? = some (.slice q.ra q.n.rs.length q.rc)
theorem NodS.of {w : World} {g : Nat} {S : List Nr} (h : NrB w g S) : NodS w g S := by
  obtain ⟨cs, hh, hs, hc⟩ := h
  exact ⟨cs, hh, hs, fun i q hq => ⟨hc i q hq 5 _ rfl, hc i q hq 6 _ rfl⟩⟩
theorem NodS.lt {w : World} {g : Nat} {S : List Nr} (h : NodS w g S) : g < w.heap.size := by obtain ⟨cs, hh, _⟩ := h; exact ltS hh
theorem NodS.keep {w w' : World} {g : Nat} {S : List Nr} (h : NodS w g S) (hb : w'.heap[g]? = w.heap[g]?) : NodS w' g S := by
  obtain ⟨cs, hh, r⟩ := h
  exact ⟨cs, hb.trans hh, r⟩
theorem NodS.put {w : World} {g : Nat} {S : List Nr} (h : NodS w g S) (k j : Nat) (hj : j < 34) (h5 : j ≠ 5) (h6 : j ≠ 6) (v : Value) : NodS (w.setCell ⟨g, k * 34 + j, none⟩ v) g S := by
  obtain ⟨cs, hh, hs, hc⟩ := h
  refine ⟨_, putS hh v, by simpa using hs, fun i q hq => ?_⟩
  obtain ⟨e5, e6⟩ := hc i q hq
  rw [Array.getElem?_setIfInBounds_ne (by omega), Array.getElem?_setIfInBounds_ne (by omega)]
  exact ⟨e5, e6⟩
theorem NodS.cell {w : World} {g : Nat} {S : List Nr} (h : NodS w g S) {k j : Nat} (hk : k < S.length) (hj : j < 34) : ∃ v, w.cell? ⟨g, k * 34 + j, none⟩ = some v := by
  obtain ⟨cs, hh, hs, _⟩ := h
  exact thereS hh (by omega)
theorem NodS.frz {w : World} {g : Nat} {S : List Nr} (h : NodS w g S) (i : Nat) : w.frozen? ⟨g, i, none⟩ = false := by
  obtain ⟨cs, hh, _⟩ := h
  exact frozenS hh i
/-- the lines of the widgets from k on stand in blocks of their own -/
def LnsS (w : World) (g hi k : Nat) (S : List Nr) : Prop := ∀ i q, k ≤ i → S[i]? = some q → ∃ g1 g2, q.ca = some ⟨g1, 0, none⟩ ∧ q.cc = q.n.cs.length ∧ q.ra = some ⟨g2, 0, none⟩ ∧ q.rc = q.n.rs.length ∧ g < g1 ∧ g1 < g2 ∧ g2 < hi ∧ LnB w g1 q.n.cs ∧ LnB w g2 q.n.rs
def ApS (S : List Nr) : Prop := ∀ (i j : Nat) (q r : Nr), i < j → S[i]? = some q → S[j]? = some r → ∀ a b : Addr, (q.ca = some a ∨ q.ra = some a) → (r.ca = some b ∨ r.ra = some b) → a.block < b.block
theorem LnsS.of {g hi : Nat} {w : World} {R S : List Nr} (h : CpR (g + 1) w R S) (hs : w.heap.size ≤ hi) : LnsS w g hi 0 S := fun i q _ hq => by
  have hi' := (List.getElem?_eq_some_iff.1 hq).1
  rw [h.len] at hi'
  obtain ⟨g1, g2, rfl, h1, h2, h3, h4⟩ := h.each i _ q (List.getElem?_eq_getElem hi') hq
  have l4 := h4.lt
  exact ⟨g1, g2, rfl, rfl, rfl, rfl, by omega, h2, by omega, h3, h4⟩
theorem LnsS.put {w : World} {g hi k : Nat} {S : List Nr} (h : LnsS w g hi k S) (o : Nat) (v : Value) : LnsS (w.setCell ⟨g, o, none⟩ v) g hi k S := fun i q hk hq => by
  obtain ⟨g1, g2, e1, e2, e3, e4, h1, h2, h3, h4, h5⟩ := h i q hk hq
  exact ⟨g1, g2, e1, e2, e3, e4, h1, h2, h3, h4.but (gsetS (greflS w g) o v) (by omega), h5.but (gsetS (greflS w g) o v) (by omega)⟩
/-- the frame: the slots that are read again -/
structure FmN (t : Array Value) (g n c k : Nat) (z : Int) : Prop where
  size : t.size = 286
  t0 : t[0]? = some (.slice (some ⟨g, 0, none⟩) n c)
  t1 : t[1]? = some (.int .i64 z)
  t5 : t[5]? = some (.int .i64 k)
/-- the state within a round -/
structure StN (w W : World) (g hi k j : Nat) (S : List Nr) (q : Nr) (g1 g2 : Nat) (b1 b2 : Bool) : Prop where
  s : NodS W g S
  l : LnsS W g hi j S
  i : Wi g hi w W
  c : b1 = true → LnB W g1 q.n.cs
  r : b2 = true → LnB W g2 q.n.rs
theorem StN.put {w W : World} {g hi k j' : Nat} {S : List Nr} {q : Nr} {g1 g2 : Nat} {b1 b2 : Bool} (h : StN w W g hi k j' S q g1 g2 b1 b2) (hg : g < g1 ∧ g1 < g2 ∧ g2 < hi) (j : Nat) (hj : j < 34) (h5 : j ≠ 5) (h6 : j ≠ 6) (v : Value) : StN w (W.setCell ⟨g, k * 34 + j, none⟩ v) g hi k j' S q g1 g2 b1 b2 :=
  ⟨h.s.put k j hj h5 h6 v, h.l.put _ _, h.i.set ⟨Nat.le_refl _, by omega⟩ _, fun e => (h.c e).but (gsetS (greflS _ g) _ _) (by omega), fun e => (h.r e).but (gsetS (greflS _ g) _ _) (by omega)⟩
end Go.Proofs.YtgdkionmeacalabGreat
end
section
namespace Go.Proofs.YtgdkionmeacalabGreat
open Go.RowKit
set_option linter.unusedVariables false
set_option maxHeartbeats 1000000
attribute [local go_sem] growUpon_value growUpon_skip growUpon_enter
theorem IB.ob {w : World} {g n : Nat} {L : List Int} (h : IB w g L) (hn : n = L.length) : OB w g n L := by
  have h' : w.heap[g]? = some (.cells (ivals L) 3 (0, 0)) := h
  exact ⟨by omega, ivals L, h', by simp [ivals, hn], fun i x hx => by simp [ivals, hx]⟩
theorem OB.sameL {w w' : World} {g cap : Nat} {L : List Int} (h : OB w g cap L) (e : w'.heap[g]? = w.heap[g]?) : OB w' g cap L := by
  obtain ⟨hl, cs, hh, hs, hc⟩ := h
  exact ⟨hl, cs, e.trans hh, hs, hc⟩
theorem OB.nr {w : World} {g cap n : Nat} {L : List Int} (h : OB w g cap L) (hn : n = L.length) (m : Nat) : NR w (.slice (some ⟨g, 0, none⟩) n m) L := ⟨_, m, by rw [hn], h.nv⟩
/-- the marks from k on -/
def MKo (k : Int) (n : Nat) : List Int := (List.range n).map (fun i : Nat => (i : Int) + k)
end Go.Proofs.YtgdkionmeacalabGreat
end
section
namespace Go.Proofs.YtgdkionmeacalabGreat
open Go.RowKit
set_option linter.unusedVariables false
set_option maxHeartbeats 1000000
/-! A tree that is marked. -/
structure TM (g hi : Nat) (S : List Nr) (w : World) : Prop where
  s : NodS w g S
  l : LnsS w g hi 0 S
  a : ApS S
  lt : g < hi
theorem TM.of {g : Nat} {w : World} {R S : List Nr} (h : NrB w g S) (hc : CpR (g + 1) w R S) : TM g w.heap.size S w := ⟨NodS.of h, LnsS.of hc (Nat.le_refl _), hc.apart, h.lt⟩
theorem TM.keep {g hi : Nat} {S : List Nr} {w w' : World} (h : TM g hi S w) (hb : Below w.heap.size w w') : TM g hi S w' :=
  ⟨h.s.keep (hb.block g h.s.lt), fun i q hk hq => by
    obtain ⟨g1, g2, e1, e2, e3, e4, l1, l2, l3, b1, b2⟩ := h.l i q hk hq
    exact ⟨g1, g2, e1, e2, e3, e4, l1, l2, l3, b1.keep hb, b2.keep hb⟩, h.a, h.lt⟩
theorem Wi.pre {lo hi : Nat} {w w' : World} {o : Obj} (h : Wi lo hi (w.alloc o) w') : Wi lo hi w w' :=
  ⟨h.os.trans rfl, h.tape.trans rfl, h.output.trans rfl, by have := h.size; rw [World.size_alloc] at this; omega, fun k hk hn => (h.block k (by rw [World.size_alloc]; omega) hn).trans (Below.heap_alloc _ _ _ hk)⟩
def GO (lo : Nat) (w : World) (v : Value) (M : List Int) : Prop := (v = .slice none 0 0 ∧ M = []) ∨ ∃ g cap n, v = .slice (some ⟨g, 0, none⟩) n cap ∧ n = M.length ∧ lo ≤ g ∧ OB w g cap M
theorem GO.of {lo n : Nat} {w : World} {v : Value} {M : List Int} (h : w.ownsRow lo 3 1 v n (nvalsW M)) (hn : n = M.length) : GO lo w v M :=
  (own_inW h hn).imp id fun ⟨g, cap, h1, h2, h3⟩ => ⟨g, cap, n, h1, hn, h2, h3⟩
theorem GO.nr {lo : Nat} {w : World} {v : Value} {L : List Int} (h : GO lo w v L) : NR w v L := by
  rcases h with ⟨rfl, rfl⟩ | ⟨g, cap, n, rfl, hn, _, hk⟩
  · exact ⟨none, 0, rfl, NV.nil _ _⟩
  · exact hk.nr hn cap
theorem GO.keep {lo : Nat} {w w' : World} {v : Value} {L : List Int} (h : GO lo w v L) (hb : Below w.heap.size w w') : GO lo w' v L := h.imp id fun ⟨g, cap, n, h1, h2, h3, hk⟩ => ⟨g, cap, n, h1, h2, h3, hk.keep hb⟩
theorem GO.mono {lo lo' : Nat} {w : World} {v : Value} {L : List Int} (h : GO lo w v L) (hl : lo' ≤ lo) : GO lo' w v L := h.imp id fun ⟨g, cap, n, h1, h2, h3, hk⟩ => ⟨g, cap, n, h1, h2, Nat.le_trans hl h3, hk⟩
def GOM (w : World) (v : Value) (n : Nat) : Prop := (v = .slice none 0 0 ∧ n = 0) ∨ ∃ g cap, v = .slice (some ⟨g, 0, none⟩) n cap ∧ OB w g cap (MKo 1 n)
theorem GOM.keep {w w' : World} {v : Value} {n : Nat} (h : GOM w v n) (hb : Below w.heap.size w w') : GOM w' v n := h.imp id fun ⟨g, cap, h1, hk⟩ => ⟨g, cap, h1, hk.keep hb⟩
end Go.Proofs.YtgdkionmeacalabGreat
end
section
namespace Go.Proofs.YtgdkionmeacalabGreat
open Go.RowKit
set_option linter.unusedVariables false
set_option linter.unusedSimpArgs false
set_option maxHeartbeats 4000000
attribute [local go_sem] growUpon_value growUpon_skip growUpon_enter

set_option maxRecDepth 100000 in
theorem indicesF_v (n : Nat) (f : Nat → Bool) (caps : Array Value) (w : World) (hn : n ≤ 1048576)
    (hf : ∀ k, k < n → ∀ W, Below w.heap.size w W → Calls Tryz.prog 110 (#[.int .i64 (k : Int)] ++ caps) W fun e W' => e = .returned (.bool (f k)) ∧ Below W.heap.size W W') :
    Calls Tryz.prog 60 #[.int .i64 (n : Int), .func (.func 110) #[] caps] w fun e w' => (∃ v, e = .returned v ∧ GO w.heap.size w' v (idsM f n)) ∧ Below w.heap.size w w' := by
  obtain ⟨ti, tz, ti1, ti2, ti3, ti4, ti5⟩ := int_infoW
  have HF := Lib.hid hf
  clear hf
  refine calls_abs Tryz.func60 rfl 20 (by simp only [Tryz.ntmps60]) (by simp) (fun t hsz hargs => ?_)
  have q0 : t[0]? = some (.int .i64 (n : Int)) := get_of (by omega) (hargs 0 _ rfl)
  have q1 : t[1]? = some (.func (.func 110) #[] caps) := get_of (by omega) (hargs 1 _ rfl)
  clear hargs
  obtain ⟨l0, e0⟩ := Array.getElem?_eq_some_iff.1 q0
  obtain ⟨l1, e1⟩ := Array.getElem?_eq_some_iff.1 q1
  refine wp_seq_h fun K hK => ?_
  apply wp_region_lit
  repeat (first | go_step)
  refine hK.out _ _ ?_
  clear hK K
  refine wp_abw (fun t' W' => t'.size = 20 ∧ t'[0]? = some (.int .i64 (n : Int)) ∧ t'[1]? = some (.func (.func 110) #[] caps) ∧ w = W') ⟨by simp [Act.put, hsz], by simp [Act.put, q0], by simp [Act.put, q1], rfl⟩ ?_
  clear hsz q0 l0 e0 q1 l1 e1 t 
  rintro t _ ⟨hsz, q0, q1, rfl⟩
  obtain ⟨l0, e0⟩ := Array.getElem?_eq_some_iff.1 q0
  obtain ⟨l1, e1⟩ := Array.getElem?_eq_some_iff.1 q1
  refine wp_seq_h fun K hK => ?_
  apply wp_region_lit
  repeat (first | go_step)
  refine hK.out _ _ ?_
  clear hK K
  refine wp_abw (fun t' W' => t'.size = 20 ∧ t'[0]? = some (.int .i64 (n : Int)) ∧ t'[1]? = some (.func (.func 110) #[] caps) ∧ t'[5]? = some (.slice none 0 0) ∧ w = W') ⟨by simp [Act.put, hsz], by simp [Act.put, q0], by simp [Act.put, q1], by simp [Act.put, hsz], rfl⟩ ?_
  clear hsz q0 l0 e0 q1 l1 e1 t 
  rintro t _ ⟨hsz, q0, q1, q5, rfl⟩
  refine wp_seq_h fun KE hKE => ?_
  obtain ⟨l0, e0⟩ := Array.getElem?_eq_some_iff.1 q0
  obtain ⟨l1, e1⟩ := Array.getElem?_eq_some_iff.1 q1
  obtain ⟨l5, e5⟩ := Array.getElem?_eq_some_iff.1 q5
  refine wp_seq_h fun K hK => ?_
  apply wp_region_lit
  repeat (first | go_step)
  refine hK.out _ _ ?_
  clear hK K
  refine wp_abw (fun t' W' => t'.size = 20 ∧ t'[1]? = some (.func (.func 110) #[] caps) ∧ t'[5]? = some (.slice none 0 0) ∧ t'[7]? = some (.int .i64 (n : Int)) ∧ t'[8]? = some (.int .i64 ((0 : Nat) : Int)) ∧ w = W') ⟨by simp [Act.put, hsz], by simp [Act.put, q1], by simp [Act.put, q5], by simp [Act.put, hsz], by simp [Act.put, hsz], rfl⟩ ?_
  clear hsz q0 l0 e0 q1 l1 e1 q5 l5 e5 t 
  rintro t _ ⟨hsz, q1, q5, q7, q8, rfl⟩
  apply wp_block
  refine wp_loop (fun a W => ∃ (t : Array Value) (k : Nat) (v : Value), a = ⟨t, []⟩ ∧ k ≤ n ∧ t.size = 20 ∧ t[1]? = some (.func (.func 110) #[] caps) ∧ t[5]? = some (v) ∧ t[7]? = some (.int .i64 (n : Int)) ∧ t[8]? = some (.int .i64 (k : Int)) ∧ W.ownsRow w.heap.size 3 1 v (idsM f k).length (nvalsW (idsM f k)) ∧ Below w.heap.size w W) (fun a _ => n - (intOf (a.tmps.getD 8 undef)).toNat) ⟨t, 0, .slice none 0 0, rfl, by omega, hsz, q1, q5, q7, q8, ⟨rfl, .inl ⟨rfl, rfl⟩⟩, Below.refl _ _⟩ ?_
  clear t hsz q1 q5 q7 q8
  rintro a W ⟨t, k, v, rfl, hk, hsz, q1, q5, q7, q8, hO, hB⟩
  have hmu : intOf (t.getD 8 undef) = (k : Int) := by rw [Array.getD_eq_getD_getElem?, q8]; rfl
  dsimp only
  rw [hmu]
  clear hmu
  have HO := Lib.hid hO
  have HB := Lib.hid hB
  clear hO hB
  by_cases hlt : k < n
  · have hd : decide ((k : Int) < (n : Int)) = true := by simpa using hlt
    obtain ⟨l1, e1⟩ := Array.getElem?_eq_some_iff.1 q1
    obtain ⟨l5, e5⟩ := Array.getElem?_eq_some_iff.1 q5
    obtain ⟨l7, e7⟩ := Array.getElem?_eq_some_iff.1 q7
    obtain ⟨l8, e8⟩ := Array.getElem?_eq_some_iff.1 q8
    refine wp_seq_h fun K hK => ?_
    apply wp_region_lit
    repeat (first | go_step)
    refine hK.out _ _ ?_
    clear hK K
    refine wp_abw (fun t' W' => t'.size = 20 ∧ t'[1]? = some (.func (.func 110) #[] caps) ∧ t'[5]? = some (v) ∧ t'[7]? = some (.int .i64 (n : Int)) ∧ t'[8]? = some (.int .i64 (k : Int)) ∧ t'[9]? = some (.bool true) ∧ W = W') ⟨by simp [Act.put, hsz], by simp [Act.put, q1], by simp [Act.put, q5], by simp [Act.put, q7], by simp [Act.put, q8], by simp [Act.put, hsz, hd], rfl⟩ ?_
    clear hsz q1 l1 e1 q5 l5 e5 q7 l7 e7 q8 l8 e8 t 
    rintro t _ ⟨hsz, q1, q5, q7, q8, q9, rfl⟩
    clear hd
    refine wp_seq_h fun K1 hK1 => ?_
    refine wp_cond_true (by simp [Act.eval, q9]) ?_
    apply wp_skip
    simp only [Exit.then]
    refine hK1.out _ _ ?_
    clear hK1 K1 q9
    refine wp_seq_h fun KB hKB => ?_
    apply wp_block
    obtain ⟨l1, e1⟩ := Array.getElem?_eq_some_iff.1 q1
    obtain ⟨l5, e5⟩ := Array.getElem?_eq_some_iff.1 q5
    obtain ⟨l7, e7⟩ := Array.getElem?_eq_some_iff.1 q7
    obtain ⟨l8, e8⟩ := Array.getElem?_eq_some_iff.1 q8
    refine wp_seq_h fun K hK => ?_
    apply wp_region_lit
    repeat (first | go_step)
    refine hK.out _ _ ?_
    clear hK K
    refine wp_abw (fun t' W' => t'.size = 20 ∧ t'[1]? = some (.func (.func 110) #[] caps) ∧ t'[5]? = some (v) ∧ t'[6]? = some (.int .i64 (k : Int)) ∧ t'[7]? = some (.int .i64 (n : Int)) ∧ t'[8]? = some (.int .i64 (k : Int)) ∧ W = W') ⟨by simp [Act.put, hsz], by simp [Act.put, q1], by simp [Act.put, q5], by simp [Act.put, hsz], by simp [Act.put, q7], by simp [Act.put, q8], rfl⟩ ?_
    clear hsz q1 l1 e1 q5 l5 e5 q7 l7 e7 q8 l8 e8 t 
    rintro t _ ⟨hsz, q1, q5, q6, q7, q8, rfl⟩
    obtain ⟨l1, e1⟩ := Array.getElem?_eq_some_iff.1 q1
    obtain ⟨l5, e5⟩ := Array.getElem?_eq_some_iff.1 q5
    obtain ⟨l6, e6⟩ := Array.getElem?_eq_some_iff.1 q6
    obtain ⟨l7, e7⟩ := Array.getElem?_eq_some_iff.1 q7
    obtain ⟨l8, e8⟩ := Array.getElem?_eq_some_iff.1 q8
    have hlen := idsM_len f k
    refine wp_seq_h fun K hK => ?_
    apply wp_region_lit
    repeat go_step
    refine (HF.out k hlt _ HB.out).mono ?_
    rintro e W1 ⟨rfl, hb1⟩
    dsimp only
    repeat go_step
    refine hK.out _ _ ?_
    clear hK K
    have hob := HO.out.lt
    replace HO := Lib.hid (own_bw HO.out hb1)
    replace HB := Lib.hid (bkeep2 HB.out hb1)
    have hs1 := hb1.size
    clear hb1
    refine wp_abw (fun t' W' => t'.size = 20 ∧ t'[1]? = some (.func (.func 110) #[] caps) ∧ t'[5]? = some (v) ∧ t'[6]? = some (.int .i64 (k : Int)) ∧ t'[7]? = some (.int .i64 (n : Int)) ∧ t'[8]? = some (.int .i64 (k : Int)) ∧ t'[13]? = some (.bool (f k)) ∧ W1 = W') ⟨by simp [Act.put, hsz], by simp [Act.put, q1], by simp [Act.put, q5], by simp [Act.put, q6], by simp [Act.put, q7], by simp [Act.put, q8], by simp [Act.put, hsz], rfl⟩ ?_
    clear hsz q1 l1 e1 q5 l5 e5 q6 l6 e6 q7 l7 e7 q8 l8 e8 t 
    rintro t _ ⟨hsz, q1, q5, q6, q7, q8, q13, rfl⟩
    obtain ⟨l1, e1⟩ := Array.getElem?_eq_some_iff.1 q1
    by_cases hfk : f k = true
    · have hids := idsM_yes hfk
      rw [hfk] at q13
      refine wp_cond_true (by simp [Act.eval, q13]) ?_
      clear l1 e1 q13
      obtain ⟨l1, e1⟩ := Array.getElem?_eq_some_iff.1 q1
      obtain ⟨l5, e5⟩ := Array.getElem?_eq_some_iff.1 q5
      obtain ⟨l6, e6⟩ := Array.getElem?_eq_some_iff.1 q6
      obtain ⟨l7, e7⟩ := Array.getElem?_eq_some_iff.1 q7
      obtain ⟨l8, e8⟩ := Array.getElem?_eq_some_iff.1 q8
      have hob : ∀ b, v.ownBlock = some b → w.heap.size ≤ b ∧ b < W1.heap.size := HO.out.lt
      have hw1 : w.heap.size ≤ W1.heap.size := HB.out.size
      apply wp_region_lit
      repeat (first | ((with_reducible show wpList _ _ _ _ _ _); refine wpList_append_own _ rfl _ _ 42 rfl w.heap.size 3 ti tz 1 8 Tryz.underlying42 ti1 ti2 ti3 ti4 ti5 (by decide) v _ _ (by simp [Act.eval, Act.put, hsz, e5]) (HO.out.alloc _) ⟨W1.heap.size, 0, none⟩ 1 1 [.int .i64 (k : Int)] (by simp [Act.eval, Act.put, hsz]) rfl (newW _ _ _) (by simp [Value.oneCell']) (by simp only [maxLen]; omega) (by omega) (by simp; omega) ?_) | go_step)
      intro v5 w5 how5 hgr5 _
      have hb5 := below_own HB.out hgr5 hob (Nat.le_refl _) (Nat.le_refl _)
      rw [nvalsW_snoc, ← hids] at how5
      have hlen5 : (idsM f k).length + 1 = (idsM f (k + 1)).length := by rw [hids]; simp
      rw [hlen5] at how5
      clear hlen5 hids
      repeat go_step
      try simp only [Exit.inBlock]
      refine hKB.out _ _ ?_
      clear hKB KB
      refine wp_abw (fun t' W' => t'.size = 20 ∧ t'[1]? = some (.func (.func 110) #[] caps) ∧ t'[5]? = some (v5) ∧ t'[7]? = some (.int .i64 (n : Int)) ∧ t'[8]? = some (.int .i64 (k : Int)) ∧ w5 = W') ⟨by simp [Act.put, hsz], by simp [Act.put, q1], by simp [Act.put, hsz], by simp [Act.put, q7], by simp [Act.put, q8], rfl⟩ ?_
      clear hsz q1 l1 e1 q5 l5 e5 q6 l6 e6 q7 l7 e7 q8 l8 e8 t hob hw1
      rintro t _ ⟨hsz, q1, q5, q7, q8, rfl⟩
      obtain ⟨l1, e1⟩ := Array.getElem?_eq_some_iff.1 q1
      obtain ⟨l5, e5⟩ := Array.getElem?_eq_some_iff.1 q5
      obtain ⟨l7, e7⟩ := Array.getElem?_eq_some_iff.1 q7
      obtain ⟨l8, e8⟩ := Array.getElem?_eq_some_iff.1 q8
      apply wp_region_lit
      repeat go_step
      try simp only [Exit.then]
      refine ⟨⟨_, k + 1, v5, rfl, by omega, by simp [hsz], by simp [q1], by simp [q5], by simp [q7], by simp [hsz], how5, hb5⟩, ?_⟩
      · simp [hsz, intOf]
        omega
    · have hfk' : f k = false := by simpa using hfk
      have hids := idsM_no hfk'
      rw [hfk'] at q13
      refine wp_cond_false (by simp [Act.eval, q13]) ?_
      clear l1 e1 q13
      apply wp_skip
      try simp only [Exit.inBlock]
      refine hKB.out _ _ ?_
      clear hKB KB
      obtain ⟨l1, e1⟩ := Array.getElem?_eq_some_iff.1 q1
      obtain ⟨l5, e5⟩ := Array.getElem?_eq_some_iff.1 q5
      obtain ⟨l6, e6⟩ := Array.getElem?_eq_some_iff.1 q6
      obtain ⟨l7, e7⟩ := Array.getElem?_eq_some_iff.1 q7
      obtain ⟨l8, e8⟩ := Array.getElem?_eq_some_iff.1 q8
      apply wp_region_lit
      repeat go_step
      try simp only [Exit.then]
      refine ⟨⟨_, k + 1, v, rfl, by omega, by simp [hsz], by simp [q1], by simp [q5], by simp [q7], by simp [hsz], by rw [hids]; exact HO.out, HB.out⟩, ?_⟩
      · simp [hsz, intOf]
        omega
  · have hd : decide ((k : Int) < (n : Int)) = false := decide_eq_false (by omega)
    obtain ⟨l1, e1⟩ := Array.getElem?_eq_some_iff.1 q1
    obtain ⟨l5, e5⟩ := Array.getElem?_eq_some_iff.1 q5
    obtain ⟨l7, e7⟩ := Array.getElem?_eq_some_iff.1 q7
    obtain ⟨l8, e8⟩ := Array.getElem?_eq_some_iff.1 q8
    refine wp_seq_h fun K hK => ?_
    apply wp_region_lit
    repeat (first | go_step)
    refine hK.out _ _ ?_
    clear hK K
    refine wp_abw (fun t' W' => t'.size = 20 ∧ t'[1]? = some (.func (.func 110) #[] caps) ∧ t'[5]? = some (v) ∧ t'[7]? = some (.int .i64 (n : Int)) ∧ t'[8]? = some (.int .i64 (k : Int)) ∧ t'[9]? = some (.bool false) ∧ W = W') ⟨by simp [Act.put, hsz], by simp [Act.put, q1], by simp [Act.put, q5], by simp [Act.put, q7], by simp [Act.put, q8], by simp [Act.put, hsz, hd], rfl⟩ ?_
    clear hsz q1 l1 e1 q5 l5 e5 q7 l7 e7 q8 l8 e8 t 
    rintro t _ ⟨hsz, q1, q5, q7, q8, q9, rfl⟩
    refine wp_seq_h fun K1 hK1 => ?_
    refine wp_cond_false (by simp [Act.eval, q9]) ?_
    apply wp_exit
    simp only [Exit.then, Exit.inBlock, if_true]
    refine hKE.out _ _ ?_
    clear hd
    obtain rfl : k = n := by omega
    obtain ⟨l1, e1⟩ := Array.getElem?_eq_some_iff.1 q1
    obtain ⟨l5, e5⟩ := Array.getElem?_eq_some_iff.1 q5
    obtain ⟨l7, e7⟩ := Array.getElem?_eq_some_iff.1 q7
    obtain ⟨l8, e8⟩ := Array.getElem?_eq_some_iff.1 q8
    obtain ⟨l9, e9⟩ := Array.getElem?_eq_some_iff.1 q9
    repeat go_step
    refine bodyPost_ret (results_tmp rfl _ _ _) rfl ?_
    exact ⟨⟨v, by simp [hsz], GO.of HO.out rfl⟩, HB.out⟩
set_option maxRecDepth 100000 in
theorem kidsOf_f (A : Option Addr) (c : Nat) (R : List Nr) (i : Int) (w : World) (h : NrV w A R) (hL : R.length ≤ 1048576) :
    Calls Tryz.prog 74 #[.agg #[.slice A R.length c], .int .i64 i] w fun e w' => (∃ v, e = .returned v ∧ GO w.heap.size w' v (kidsM R i)) ∧ Below w.heap.size w w' := by
  have hB0 : Below w.heap.size w ((w.alloc (.cells #[.slice A R.length c] 25 (0, 0))).alloc (.cells #[.int .i64 i] 3 (0, 0))) := (balloc (Below.refl _ _)).trans ((balloc (Below.refl _ _)).mono (by simp))
  have H1 := Lib.hid (show ((w.alloc (.cells #[.slice A R.length c] 25 (0, 0))).alloc (.cells #[.int .i64 i] 3 (0, 0))).heap[w.heap.size]? = some (.cells #[.slice A R.length c] 25 (0, 0)) from (Below.heap_alloc _ _ _ (by simp)).trans (newS _ _))
  have H2 := Lib.hid (show ((w.alloc (.cells #[.slice A R.length c] 25 (0, 0))).alloc (.cells #[.int .i64 i] 3 (0, 0))).heap[w.heap.size + 1]? = some (.cells #[.int .i64 i] 3 (0, 0)) from by have := newS (w.alloc (.cells #[.slice A R.length c] 25 (0, 0))) (.cells #[.int .i64 i] 3 (0, 0)); simpa using this)
  have HV := Lib.hid (h.keep hB0)
  have HB := Lib.hid hB0
  clear hB0 h
  go_enter Tryz.func74, Tryz.ntmps74
  go_wp2_with fail
  refine (indicesF_v R.length (isKid R i) #[.pointer (some ⟨w.heap.size, 0, none⟩), .pointer (some ⟨w.heap.size + 1, 0, none⟩)] _ hL (fun k hk W hW => kid1_v A c R i k _ _ W (HV.out.keep hW) hk ((cellS ((hW.block _ (ltS H1.out)).trans H1.out) 0)) ((cellS ((hW.block _ (ltS H2.out)).trans H2.out) 0)) (Nat.lt_of_lt_of_le (ltS H1.out) hW.size) (Nat.lt_of_lt_of_le (ltS H2.out) hW.size) hL)).mono ?_
  rintro e w1 ⟨⟨v, rfl, hv⟩, hb1⟩
  have HK : Hid (GO w.heap.size w1 v (kidsM R i)) := Lib.hid (hv.mono (by simp <;> omega))
  replace HB := Lib.hid (bkeep2 HB.out hb1)
  clear hv hb1 H1 H2 HV
  go_wp2
  go_ret
  exact ⟨⟨v, rfl, HK.out⟩, HB.out⟩
end Go.Proofs.YtgdkionmeacalabGreat
end
