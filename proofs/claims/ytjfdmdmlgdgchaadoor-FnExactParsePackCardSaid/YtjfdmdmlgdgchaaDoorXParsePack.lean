/- FnExactParsePack: for every text the function of the program answers as the model's. -/
import Derived.Test.YtjfdmdmlgdgchaaDoorQ08
import Derived.ChangeMaps5
namespace Go.Proofs.YtjfdmdmlgdgchaaDoor.xParsePack
open Go.ChangeShapes Go.WideShapes Go.ChangeAt Go.RowKit Go.Joins
open Go.ChangeMaps (open_string)
set_option linter.unusedVariables false
attribute [local go_sem] growUpon_value growUpon_skip growUpon_enter
set_option maxHeartbeats 1000000
theorem walk (s : ByteArray) (w : World) (hT : LT.TW w) (hM : MLN w) : Calls Tryd.prog 3 #[.string s] w fun e w' => e = .returned (.bool true) ∧ Below w.heap.size w w' := by
  by_cases hs : s.size ≤ 1048576
  · have hd : decide ((s.size : Int) > 1048576) = false := decide_eq_false (by omega)
    obtain ⟨R, hR⟩ : ∃ R, prs s.data.toList = R := ⟨_, rfl⟩
    have HS : Hid (∀ w, Calls Tryd.prog 8 #[.string s] w fun e w' => e = .returned (ansV R) ∧ Below w.heap.size w w') := Lib.hid (fun w => by rw [← hR]; exact sParsePack_v s.data.toList (by simpa using hs) w)
    have HI : Hid (∀ w, LT.TW w → MLN w → Calls Tryd.prog 9 #[.string s] w fun e w' => e = .returned (ansV R) ∧ Below w.heap.size w w') := Lib.hid (fun w h1 h2 => by rw [← hR]; exact ParsePack_v s.data.toList w (by simpa using hs) h1 h2)
    have HB := Lib.hid (Below.refl w.heap.size w)
    clear hR
    have hpq : ∃ (p : PKV) (b : Bool), ansV R = .tuple #[.agg #[.int .i64 p.w0, .int .i64 p.h0, .int .i64 p.s, .bool p.fx, .bool p.fy, .bool p.ex, .int .i64 p.an, .int .i64 p.px, .int .i64 p.py], .bool b] := by
      cases R with
      | none => exact ⟨⟨0, 0, 0, false, false, false, 0, 0, 0⟩, false, rfl⟩
      | some p => exact ⟨p, true, rfl⟩
    obtain ⟨p, b, hpb⟩ := hpq
    rw [hpb] at HS HI
    clear hpb
    go_enter Tryd.func3, Tryd.ntmps3
    go_wp2_with fail
    with_reducible refine (HS.out _).mono ?_
    rintro e w1 ⟨rfl, hb⟩
    replace HB := Lib.hid (bkeep2 HB.out hb)
    clear hb
    go_upto_region 4 with (fail)
    refine wp_PK (fun W => W.heap[w1.heap.size]? = some (.cells #[.int .i64 p.w0, .int .i64 p.h0, .int .i64 p.s, .bool p.fx, .bool p.fy, .bool p.ex, .int .i64 p.an, .int .i64 p.px, .int .i64 p.py] 23 (0, 0)) ∧ Below w.heap.size w W) ⟨newS w1 _, balloc HB.out⟩ ?_
    rintro W2 ⟨hp, hB⟩
    have HP := Lib.hid hp
    replace HB := Lib.hid hB
    clear hp hB
    go_wp2_with fail
    with_reducible refine (HI.out _ (hT.keep HB.out) (hM.keep HB.out)).mono ?_
    rintro e w3 ⟨rfl, hb⟩
    replace HP := Lib.hid ((hb.block _ (Array.getElem?_eq_some_iff.1 HP.out).1).trans HP.out)
    replace HB := Lib.hid (bkeep2 HB.out hb)
    clear hb
    have hl3 := ltS HP.out
    go_upto_region 5 with (fail)
    refine wp_PK (fun W => W.heap[w1.heap.size]? = some (.cells #[.int .i64 p.w0, .int .i64 p.h0, .int .i64 p.s, .bool p.fx, .bool p.fy, .bool p.ex, .int .i64 p.an, .int .i64 p.px, .int .i64 p.py] 23 (0, 0)) ∧ W.heap[w3.heap.size]? = some (.cells #[.int .i64 p.w0, .int .i64 p.h0, .int .i64 p.s, .bool p.fx, .bool p.fy, .bool p.ex, .int .i64 p.an, .int .i64 p.px, .int .i64 p.py] 23 (0, 0)) ∧ Below w.heap.size w W) ⟨(Below.heap_alloc _ _ _ hl3).trans HP.out, newS w3 _, balloc HB.out⟩ ?_
    rintro W4 ⟨hp, hq, hB⟩
    replace HP := Lib.hid hp
    replace HB := Lib.hid hB
    obtain ⟨p0, p1, p2, p3, p4, p5, p6, p7, p8⟩ := b9c hp
    obtain ⟨q0, q1, q2, q3, q4, q5, q6, q7, q8⟩ := b9c hq
    clear hp hq hB
    go_wp2_with fail
    with_reducible refine (eqPack_same ⟨p.w0, p.h0, p.s, p.fx, p.fy, p.ex, p.an, p.px, p.py⟩ _).mono ?_
    rintro e w5 ⟨rfl, hb⟩
    clear p0 p1 p2 p3 p4 p5 p6 p7 p8 q0 q1 q2 q3 q4 q5 q6 q7 q8
    replace HB := Lib.hid (bkeep2 HB.out hb)
    clear hb
    cases b
    · go_wp2
      go_ret
      exact ⟨rfl, HB.out⟩
    · go_wp2
      go_ret
      exact ⟨rfl, HB.out⟩
  · have hd : decide ((s.size : Int) > 1048576) = true := decide_eq_true (by omega)
    go_enter Tryd.func3, Tryd.ntmps3
    go_wp2
    go_ret
    exact ⟨rfl, Below.refl _ _⟩
set_option maxRecDepth 100000 in
theorem lifted (os : Os) (started : os.Started) (H : Type) (enc : TypeId × Value → H) :
    ReturnsInHanded {} Tryd.checked os 3 .any (fun w args => (Rows.fnExactParsePackSpec.pre enc Tryd.prog Tryd.f3 [] false w args ∧ laidMetH Tryd.prog Rows.fnExactParsePackRow.laid w) ∧ sizedMet enc Tryd.prog Tryd.f3 (OpenSpec.ofChange Rows.fnExactParsePackSpec) false w args) (Rows.fnExactParsePackSpec.post enc Tryd.prog Tryd.f3 false true false false) := by
  refine handed_shaped_laid (C := Tryd.checked) (X := fun w _ => laidMetH Tryd.prog Rows.fnExactParsePackRow.laid w) (fun _ _ _ hh h => h.of_heap hh) own started (by kernel_rfl) Tryd.func3
    (ChangeSpec.witness_shaped (enc := enc) (C := Tryd.checked) (os := os) (X := fun w _ => laidMetH Tryd.prog Rows.fnExactParsePackRow.laid w) false (LT.world5 os) #[.string ⟨#[]⟩] 8 (World.laidAll_os _ _ _) (World.shaped_of_ZipB (by kernel_rfl) (by kernel_rfl)) (by kernel_rfl) (by kernel_rfl) (by kernel_rfl) (LT.met5 os _)) ?_
  intro W base args ds gs before hval0 hW hL hsh
  have hval : ∀ (j : Nat) t v, Tryd.f3.params[j]? = some t → args[j]? = some v → Value.okWide Tryd.prog W .any base t v := hval0
  have hW' := hW
  obtain ⟨p, q, hA0, hV, rfl, hfz, hnd⟩ := hW
  have hA : DataW.TrodAll enc Tryd.prog W 0 (fun _ => true) true Tryd.f3.params.toList args.toList ds p := hA0
  rw [Tryd.params3] at hA hval
  obtain ⟨v0, vs0, d0, ds0, p0, q0, hargs, rfl, rfl, h0, r0⟩ := trodAll_cons hA
  obtain ⟨rfl, rfl, rfl⟩ := trodAll_nil r0
  obtain rfl : args = #[v0] := by cases args; simp_all
  obtain ⟨rfl, rfl⟩ := trodVars_none hV
  have k0 := h0
  have lt0 : ∀ x ∈ p0, x.block < W.heap.size := by obtain ⟨m, hm⟩ := k0; exact DataW.trod_lt m _ _ _ hm
  obtain ⟨x0, rfl, _, _, wx0⟩ := open_string Tryd.underlying9 (hval 0 9 v0 rfl rfl) h0
  clear hA0 hval0
  have hT := LT.opens5 hL
  refine (walk x0 W hT (cell_of_shapedOpen_int (P := Tryd.prog) (g := 0) (t := 3) (zero := #[.int .i64 0]) hsh (of_decide_eq_true (by kernel_rfl)) (by kernel_rfl) rfl (by kernel_rfl) (by kernel_rfl) Tryd.underlying3)).mono fun e W' ⟨he, bel⟩ => ?_
  subst he
  exact ⟨_, rfl, _, _, _, [], _, [], hW', trodAll_mk1 (shut_bool Tryd.underlying4 _), (trodAll_cons_mk (Below.trod laidOut (by kernel_rfl) (of_decide_eq_true (by kernel_rfl)) k0 bel lt0) trodAll_mk0), rfl, bel.frame _, fun h => by cases h⟩
theorem over : Rows.fnExactParsePackRow.holds Tryd.pinned (OpenSpec.ofChange Rows.fnExactParsePackSpec) :=
  OpenClaim.holds_of_wide 3 Tryd.f3 rfl rfl rfl rfl rfl rfl rfl ⟨rfl, rfl, rfl, rfl, rfl⟩ rfl rfl rfl rfl rfl (by kernel_rfl) Tryd.func3 (by kernel_rfl)
    (of_decide_eq_true (by kernel_rfl)) (by unfold Func.isWrapper; first | (rw [if_pos (by decide +kernel)]; kernel_rfl) | (rw [if_neg (by decide +kernel)]; exact ⟨rfl, rfl⟩))
    (fun os started H enc _ => lifted os started H enc)
theorem proved : Rows.FnExactParsePackCardSaid :=
  Claim7.holds_tied_plain_at .later [] [.data, .data, .data, .data, .pinned] true (true, "253a2c7e9501fdfe114c59bbc44fcfb1d67287b88a3d019368ad9d4c1ef390ae") false over (fun _ h => by cases h) (by kernel_rfl) (fun _ h => by cases h) fnExactParsePack_row_tie rfl ⟨rfl, rfl⟩ (by kernel_rfl) rfl
    (fun f fn hf hfn => by
      obtain rfl : f = 3 := Option.some.inj ((show Tryd.prog.funcNamed "loop.example/widgetroom/laws.FnExactParsePack" = some 3 by kernel_rfl).symm.trans hf) |>.symm
      obtain rfl : fn = Tryd.f3 := (Option.some.inj (Tryd.func3.symm.trans hfn)).symm
      refine ⟨by kernel_rfl, fun j t ht => ?_⟩
      rw [Tryd.params3] at ht
      rcases j with _ | j
      · exact (Option.some.inj ht) ▸ (show Tryd.prog.wantsStandIn 9 = false by kernel_rfl)
      · simp at ht)
    (by kernel_rfl)
end Go.Proofs.YtjfdmdmlgdgchaaDoor.xParsePack
