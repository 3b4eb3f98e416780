import Derived.Test.YtjfdmdmlgdgchaaDoorQ09
import Derived.Lay
import Derived.HandedShaped
import Derived.Shelf.Vars
section
namespace Go.Proofs.YtjfdmdmlgdgchaaDoor
open Go.RowKit
set_option linter.unusedVariables false
set_option linter.unusedSimpArgs false
set_option maxHeartbeats 2000000
attribute [local go_sem] growUpon_value growUpon_skip growUpon_enter
/-! spec.ParsePack. -/
theorem sParsePack_v (l : List UInt8) (hs : l.length ≤ 1048576) (w : World) : Calls Tryd.prog 8 #[tx l] w fun e w' => e = .returned (ansV (prs l)) ∧ Below w.heap.size w w' := by
  have HS := Lib.hid (fun w => parsePack_v l hs w)
  obtain ⟨R, hR⟩ : ∃ R, prs l = R := ⟨_, rfl⟩
  rw [hR] at HS ⊢
  clear hR
  go_enter Tryd.func8, Tryd.ntmps8
  go_upto_region 1 with (fail)
  refine wp_PK (fun W => W.heap[w.heap.size]? = some (.cells #[.int .i64 0, .int .i64 0, .int .i64 0, .bool false, .bool false, .bool false, .int .i64 0, .int .i64 0, .int .i64 0] 23 (0, 0)) ∧ Below w.heap.size w W) ⟨newS w _, balloc (Below.refl _ _)⟩ ?_
  rintro W0 ⟨hz, hB⟩
  have HX := Lib.hid hz
  have HB := Lib.hid hB
  clear hz hB
  go_wp2_with fail
  with_reducible refine (HS.out _).mono ?_
  rintro e w1 ⟨⟨p, ok, rfl, hy, hn⟩, hb⟩
  replace HX := Lib.hid ((hb.block _ (Array.getElem?_eq_some_iff.1 HX.out).1).trans HX.out)
  replace HB := Lib.hid (bkeep2 HB.out hb)
  clear hb
  have HY := Lib.hid hy
  have HN := Lib.hid hn
  clear hy hn HS
  have hl1 := ltS HX.out
  go_upto_region 2 with (fail)
  refine wp_PK (fun W => W.heap[w.heap.size]? = some (.cells #[.int .i64 0, .int .i64 0, .int .i64 0, .bool false, .bool false, .bool false, .int .i64 0, .int .i64 0, .int .i64 0] 23 (0, 0)) ∧ Below w.heap.size w W ∧ W.heap[w1.heap.size]? = some (.cells #[.int .i64 p.w0, .int .i64 p.h0, .int .i64 p.s, .bool p.fx, .bool p.fy, .bool p.ex, .int .i64 p.an, .int .i64 p.px, .int .i64 p.py] 23 (0, 0))) ⟨(Below.heap_alloc _ _ _ hl1).trans HX.out, balloc HB.out, newS w1 _⟩ ?_
  rintro W2 ⟨hz, hB, hp⟩
  replace HX := Lib.hid hz
  replace HB := Lib.hid hB
  have HP := Lib.hid hp
  clear hz hB hp
  obtain ⟨q0, q1, q2, q3, q4, q5, q6, q7, q8⟩ := b9c HX.out
  have f0 := frozenS HX.out 0
  have f1 := frozenS HX.out 1
  have f2 := frozenS HX.out 2
  have f3 := frozenS HX.out 3
  have f4 := frozenS HX.out 4
  have f5 := frozenS HX.out 5
  have f6 := frozenS HX.out 6
  have f7 := frozenS HX.out 7
  have f8 := frozenS HX.out 8
  cases ok
  · obtain rfl := HN.out rfl
    go_wp2
    exact bodyPost_ret (v := ansV none) (by simp only [results, Tryd.results8]; go_simp; rfl) rfl ⟨rfl, bput (bput (bput (bput (bput (bput (bput (bput (bput (HB.out) (by show w.heap.size ≤ _; omega)) (by show w.heap.size ≤ _; omega)) (by show w.heap.size ≤ _; omega)) (by show w.heap.size ≤ _; omega)) (by show w.heap.size ≤ _; omega)) (by show w.heap.size ≤ _; omega)) (by show w.heap.size ≤ _; omega)) (by show w.heap.size ≤ _; omega)) (by show w.heap.size ≤ _; omega)⟩
  · obtain rfl := HY.out rfl
    obtain ⟨p0, p1, p2, p3, p4, p5, p6, p7, p8⟩ := b9c HP.out
    go_wp2
    exact bodyPost_ret (v := ansV (some p)) (by simp only [results, Tryd.results8]; go_simp; rfl) rfl ⟨rfl, bput (bput (bput (bput (bput (bput (bput (bput (bput (HB.out) (by show w.heap.size ≤ _; omega)) (by show w.heap.size ≤ _; omega)) (by show w.heap.size ≤ _; omega)) (by show w.heap.size ≤ _; omega)) (by show w.heap.size ≤ _; omega)) (by show w.heap.size ≤ _; omega)) (by show w.heap.size ≤ _; omega)) (by show w.heap.size ≤ _; omega)) (by show w.heap.size ≤ _; omega)⟩
end Go.Proofs.YtjfdmdmlgdgchaaDoor
end
section
namespace Go.Proofs.YtjfdmdmlgdgchaaDoor
open Go.ChangeShapes Go.WideShapes Go.ChangeAt Go.RowKit
namespace LT
noncomputable def world5pp (os : Os) : World := World.laidAll Tryd.prog os Rows.fnParsePackRow.laid
theorem met5pp (os : Os) (args : Array Value) : laidMetH Tryd.prog Rows.fnParsePackRow.laid ((world5pp os).forCall (fun _ _ => 0) ⟨#[], args, []⟩).memory := by
  rw [MakeChecks.laidMetH_plain _ _ _ (by kernel_rfl)]
  exact laidMet_laidAll _ (by kernel_rfl) (by kernel_rfl)
theorem opens5pp {W : World} (h : laidMetH Tryd.prog Rows.fnParsePackRow.laid W) : TW W := by
  rw [MakeChecks.laidMetH_plain _ _ _ (by kernel_rfl)] at h
  exact opens3 h
end LT
end Go.Proofs.YtjfdmdmlgdgchaaDoor
end
section
namespace Go.Proofs.YtjfdmdmlgdgchaaDoor
open Go.ChangeShapes Go.WideShapes Go.ChangeAt Go.RowKit
namespace LT
noncomputable def world5 (os : Os) : World := World.laidAll Tryd.prog os Rows.fnExactParsePackRow.laid
theorem met5 (os : Os) (args : Array Value) : laidMetH Tryd.prog Rows.fnExactParsePackRow.laid ((world5 os).forCall (fun _ _ => 0) ⟨#[], args, []⟩).memory := by
  rw [MakeChecks.laidMetH_plain _ _ _ (by kernel_rfl)]
  exact laidMet_laidAll _ (by kernel_rfl) (by kernel_rfl)
theorem opens5 {W : World} (h : laidMetH Tryd.prog Rows.fnExactParsePackRow.laid W) : TW W := by
  rw [MakeChecks.laidMetH_plain _ _ _ (by kernel_rfl)] at h
  exact opens3 h
end LT
end Go.Proofs.YtjfdmdmlgdgchaaDoor
end
section
namespace Go.Proofs.YtjfdmdmlgdgchaaDoor
open Go
/-! A card's contract may use the world's shape: what the library's own variables hold. -/
theorem handed_shaped_laid {H : Type} {enc : TypeId × Value → H} {a : Assume} {C : Checked} {os : Os} {f : FuncId} {fn : Func} {s : ChangeSpec} {conds : List PathCond} {apart fresh handsOn again : Bool} {X : World → Array Value → Prop}
    (hX : ∀ (w w' : World) (args : Array Value), w.heap = w'.heap → X w args → X w' args)
    (own : ownKnob C.prog.godebug = none) (started : os.Started) (noInit : C.prog.inits.idxOf? f = none) (hfn : C.prog.funcs[f]? = some fn)
    (witness : ∃ (w : World) (tape : Tape) (i : Input), w.os = os ∧ (w.forCall tape i).Shaped C.prog ∧ i.vars = [] ∧ Input.okWide C.prog (w.forCall tape i) .any w.heap.size f i ∧
      ((s.pre enc C.prog fn conds apart (w.forCall tape i).memory i.args ∧ X (w.forCall tape i).memory i.args) ∧ sizedMet enc C.prog fn (OpenSpec.ofChange s) apart (w.forCall tape i).memory i.args) ∧ a.holds C.prog (lone (Frame.enter C.prog f i.args .normal) [] (w.forCall tape i)))
    (contract : ∀ (W : World) (base : Nat) (args : Array Value) (ds gs : List (DataW H)) (before : List MemPlace),
      (∀ (j : Nat) t v, fn.params[j]? = some t → args[j]? = some v → Value.okWide C.prog W .any base t v) →
      DataW.Whole enc C.prog fn.params.toList s.vars apart W args.toList ds gs before →
      X W args → W.ShapedOpen C.prog →
      Calls C.prog f args W fun e W' => ∃ v, e = .returned v ∧ s.post enc C.prog fn apart fresh handsOn again W args v W') :
    ReturnsInHanded a C os f .any (fun w args => (s.pre enc C.prog fn conds apart w args ∧ X w args) ∧ sizedMet enc C.prog fn (OpenSpec.ofChange s) apart w args) (s.post enc C.prog fn apart fresh handsOn again) := by
  refine returnsInHanded_of_calls own started noInit witness fun w tape i _ hsh _ hok hpre _ => ?_
  obtain ⟨_, _, _, fn', hfn', _, _, _, _, hval⟩ := hok
  obtain rfl : fn' = fn := Option.some.inj (hfn'.symm.trans hfn)
  obtain ⟨⟨⟨ds, gs, before, hw, _⟩, hx⟩, _⟩ := hpre
  refine (contract (w.forCall tape i) w.heap.size i.args ds gs before hval (DataW.Whole.of_heap (w' := w.forCall tape i) (by rfl) hw) (hX _ _ _ (by rfl) hx) hsh).mono fun e W' ⟨v, he, hp⟩ => ?_
  subst he
  exact ChangeSpec.post_blind hp
end Go.Proofs.YtjfdmdmlgdgchaaDoor
end
