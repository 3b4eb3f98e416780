/- FnParsePack: for every code the law returns true. No condition but the tied tables. -/
import Derived.Test.YtjfdmdmlgdgchaaDoorQ10
namespace Go.Proofs.YtjfdmdmlgdgchaaDoor.lParsePack
open Go.ChangeShapes Go.WideShapes Go.ChangeAt Go.RowKit Go.Joins
set_option linter.unusedVariables false
attribute [local go_sem] growUpon_value growUpon_skip growUpon_enter
set_option maxHeartbeats 1000000
set_option linter.unusedSimpArgs false
set_option maxRecDepth 100000 in
theorem equalPack_same (p : PKV) (w : World) : Calls Tryd.prog 20 #[.agg #[.int .i64 p.w0, .int .i64 p.h0, .int .i64 p.s, .bool p.fx, .bool p.fy, .bool p.ex, .int .i64 p.an, .int .i64 p.px, .int .i64 p.py], .agg #[.int .i64 p.w0, .int .i64 p.h0, .int .i64 p.s, .bool p.fx, .bool p.fy, .bool p.ex, .int .i64 p.an, .int .i64 p.px, .int .i64 p.py]] w fun e w' => e = .returned (.bool true) ∧ Below w.heap.size w w' := by
  go_enter Tryd.func20, Tryd.ntmps20
  go_wp2
  go_ret
  exact ⟨rfl, balloc (balloc (Below.refl _ _))⟩
theorem bothP (l : List UInt8) (hl : l.length ≤ 1048576) : ∃ (p : PKV) (b : Bool), (b = true → p.ok = true ∧ p.text = l) ∧
    (∀ w, Calls Tryd.prog 8 #[tx l] w fun e w' => e = .returned (.tuple #[.agg #[.int .i64 p.w0, .int .i64 p.h0, .int .i64 p.s, .bool p.fx, .bool p.fy, .bool p.ex, .int .i64 p.an, .int .i64 p.px, .int .i64 p.py], .bool b]) ∧ Below w.heap.size w w') ∧
    (∀ w, LT.TW w → MLN w → Calls Tryd.prog 9 #[tx l] w fun e w' => e = .returned (.tuple #[.agg #[.int .i64 p.w0, .int .i64 p.h0, .int .i64 p.s, .bool p.fx, .bool p.fy, .bool p.ex, .int .i64 p.an, .int .i64 p.px, .int .i64 p.py], .bool b]) ∧ Below w.heap.size w w') := by
  cases hp : prs l with
  | none => exact ⟨⟨0, 0, 0, false, false, false, 0, 0, 0⟩, false, (fun h => by cases h), fun w => by have := sParsePack_v l hl w; rw [hp] at this; exact this, fun w h1 h2 => by have := ParsePack_v l w hl h1 h2; rw [hp] at this; exact this⟩
  | some p => exact ⟨p, true, fun _ => prs_iff.1 hp, fun w => by have := sParsePack_v l hl w; rw [hp] at this; exact this, fun w h1 h2 => by have := ParsePack_v l w hl h1 h2; rw [hp] at this; exact this⟩
set_option maxRecDepth 100000 in
theorem walk (A : Option Addr) (n c : Nat) (z : List Int) (w : World) (wz : IsRow .u8 w A n c z) (hT : LT.TW w) (hM : MLN w) : Calls Tryd.prog 6 #[.slice A n c] w fun e w' => e = .returned (.bool true) ∧ Below w.heap.size w w' := by
  obtain ⟨hb, hn, hc⟩ := wz.bts
  clear wz
  by_cases hlen : n ≤ 1048576
  · have hl1 : ¬ (1048576 : Int) < n := by omega
    go_enter Tryd.func6, Tryd.ntmps6
    go_wp2_with fail
    with_reducible refine (DrawParsePack_any A n c _ hb hn hc).mono ?_
    rintro e w1 ⟨⟨x, rfl, hx⟩, hB⟩
    have HB := Lib.hid hB
    obtain ⟨p, b, hp, hS, hI⟩ := bothP x (by omega)
    have HP := Lib.hid hp
    have HS := Lib.hid hS
    have HI := Lib.hid hI
    clear hB hb hn hc hp hS hI
    go_wp2_with fail
    with_reducible refine (HI.out _ (hT.keep HB.out) (hM.keep HB.out)).mono ?_
    rintro e w2 ⟨rfl, hb⟩
    replace HB := Lib.hid (bkeep2 HB.out hb)
    clear hb
    go_upto_region 5 with (fail)
    refine wp_PK (fun W => W.heap[w2.heap.size]? = some (.cells #[.int .i64 p.w0, .int .i64 p.h0, .int .i64 p.s, .bool p.fx, .bool p.fy, .bool p.ex, .int .i64 p.an, .int .i64 p.px, .int .i64 p.py] 23 (0, 0)) ∧ Below w.heap.size w W) ⟨newS w2 _, balloc HB.out⟩ ?_
    rintro W2 ⟨hp, hB⟩
    have HO := Lib.hid hp
    replace HB := Lib.hid hB
    clear hp hB
    go_wp2_with fail
    with_reducible refine (HS.out _).mono ?_
    rintro e w3 ⟨rfl, hb⟩
    replace HO := Lib.hid ((hb.block _ (Array.getElem?_eq_some_iff.1 HO.out).1).trans HO.out)
    replace HB := Lib.hid (bkeep2 HB.out hb)
    clear hb
    have hl3 := ltS HO.out
    go_upto_region 6 with (fail)
    refine wp_PK (fun W => W.heap[w2.heap.size]? = some (.cells #[.int .i64 p.w0, .int .i64 p.h0, .int .i64 p.s, .bool p.fx, .bool p.fy, .bool p.ex, .int .i64 p.an, .int .i64 p.px, .int .i64 p.py] 23 (0, 0)) ∧ W.heap[w3.heap.size]? = some (.cells #[.int .i64 p.w0, .int .i64 p.h0, .int .i64 p.s, .bool p.fx, .bool p.fy, .bool p.ex, .int .i64 p.an, .int .i64 p.px, .int .i64 p.py] 23 (0, 0)) ∧ Below w.heap.size w W) ⟨(Below.heap_alloc _ _ _ hl3).trans HO.out, newS w3 _, balloc HB.out⟩ ?_
    rintro W4 ⟨hp, hq, hB⟩
    replace HO := Lib.hid hp
    have HQ := Lib.hid hq
    replace HB := Lib.hid hB
    obtain ⟨p0, p1, p2, p3, p4, p5, p6, p7, p8⟩ := b9c hp
    obtain ⟨q0, q1, q2, q3, q4, q5, q6, q7, q8⟩ := b9c hq
    clear hp hq hB
    go_wp2_with fail
    with_reducible refine (equalPack_same p _).mono ?_
    rintro e w5 ⟨rfl, hb⟩
    clear p0 p1 p2 p3 p4 p5 p6 p7 p8 q0 q1 q2 q3 q4 q5 q6 q7 q8
    replace HO := Lib.hid ((hb.block _ (Array.getElem?_eq_some_iff.1 HO.out).1).trans HO.out)
    replace HQ := Lib.hid ((hb.block _ (Array.getElem?_eq_some_iff.1 HQ.out).1).trans HQ.out)
    replace HB := Lib.hid (bkeep2 HB.out hb)
    clear hb
    cases b
    · obtain ⟨p0, p1, p2, p3, p4, p5, p6, p7, p8⟩ := b9c HO.out
      obtain ⟨q0, q1, q2, q3, q4, q5, q6, q7, q8⟩ := b9c HQ.out
      go_wp2_with fail
      with_reducible refine (equalPack_same p _).mono ?_
      rintro e w6 ⟨rfl, hb⟩
      clear p0 p1 p2 p3 p4 p5 p6 p7 p8 q0 q1 q2 q3 q4 q5 q6 q7 q8
      replace HB := Lib.hid (bkeep2 HB.out hb)
      clear hb
      go_wp2
      go_ret
      exact ⟨rfl, HB.out⟩
    · obtain ⟨hk, ht⟩ := HP.out rfl
      have hk' : vpB p.w0 p.h0 p.s p.an p.px p.py = true := hk
      have ht' : pkT p.w0 p.h0 p.s p.fx p.fy p.ex p.an p.px p.py = x := ht
      have HPT : Hid (∀ w, LT.TW w → Calls Tryd.prog 17 #[.agg #[.int .i64 p.w0, .int .i64 p.h0, .int .i64 p.s, .bool p.fx, .bool p.fy, .bool p.ex, .int .i64 p.an, .int .i64 p.px, .int .i64 p.py]] w fun e w' => e = .returned (tx x) ∧ Below w.heap.size w w') := Lib.hid (fun w h => by
        have := PackText_v p.w0 p.h0 p.s p.fx p.fy p.ex p.an p.px p.py w h
        rwa [hk', if_pos rfl, ht'] at this)
      have HVP := Lib.hid (fun w => vp_v ⟨p.w0, p.h0, p.s, p.fx, p.fy, p.ex, p.an, p.px, p.py⟩ true hk' w)
      have g1 := fun s t w => eqg_tx .eql s t x x w
      have g2 := eq_same x
      clear hk ht hk' ht'
      obtain ⟨p0, p1, p2, p3, p4, p5, p6, p7, p8⟩ := b9c HO.out
      go_wp2_with fail
      with_reducible refine (HPT.out _ (hT.keep HB.out)).mono ?_
      rintro e w6 ⟨rfl, hb⟩
      clear p0 p1 p2 p3 p4 p5 p6 p7 p8
      replace HO := Lib.hid ((hb.block _ (Array.getElem?_eq_some_iff.1 HO.out).1).trans HO.out)
      replace HB := Lib.hid (bkeep2 HB.out hb)
      clear hb
      obtain ⟨p0, p1, p2, p3, p4, p5, p6, p7, p8⟩ := b9c HO.out
      go_wp2_with fail
      with_reducible refine (HVP.out _).mono ?_
      rintro e w7 ⟨rfl, hb⟩
      replace HB := Lib.hid (bkeep2 HB.out hb)
      clear hb
      go_wp2
      go_ret
      exact ⟨rfl, HB.out⟩
  · have hl1 : (1048576 : Int) < n := by omega
    go_enter Tryd.func6, Tryd.ntmps6
    go_wp2
    go_ret
    exact ⟨rfl, Below.refl _ _⟩
set_option maxRecDepth 100000 in
theorem lifted (os : Os) (started : os.Started) (H : Type) (enc : TypeId × Value → H) :
    ReturnsInHanded {} Tryd.checked os 6 .any (fun w args => (Rows.fnParsePackSpec.pre enc Tryd.prog Tryd.f6 [] false w args ∧ laidMetH Tryd.prog Rows.fnParsePackRow.laid w) ∧ sizedMet enc Tryd.prog Tryd.f6 (OpenSpec.ofChange Rows.fnParsePackSpec) false w args) (Rows.fnParsePackSpec.post enc Tryd.prog Tryd.f6 false true false false) := by
  refine handed_shaped_laid (C := Tryd.checked) (X := fun w _ => laidMetH Tryd.prog Rows.fnParsePackRow.laid w) (fun _ _ _ hh h => h.of_heap hh) own started (by kernel_rfl) Tryd.func6
    (ChangeSpec.witness_shaped (enc := enc) (C := Tryd.checked) (os := os) (X := fun w _ => laidMetH Tryd.prog Rows.fnParsePackRow.laid w) false (LT.world5pp os) #[.slice none 0 0] 8 (World.laidAll_os _ _ _) (World.shaped_of_ZipB (by kernel_rfl) (by kernel_rfl)) (by kernel_rfl) (by kernel_rfl) (by kernel_rfl) (LT.met5pp os _)) ?_
  intro W base args ds gs before hval0 hW hL hsh
  have hval : ∀ (j : Nat) t v, Tryd.f6.params[j]? = some t → args[j]? = some v → Value.okWide Tryd.prog W .any base t v := hval0
  have hW' := hW
  obtain ⟨p, q, hA0, hV, rfl, hfz, hnd⟩ := hW
  have hA : DataW.TrodAll enc Tryd.prog W 0 (fun _ => true) true Tryd.f6.params.toList args.toList ds p := hA0
  rw [Tryd.params6] at hA hval
  obtain ⟨v0, vs0, d0, ds0, p0, q0, hargs, rfl, rfl, h0, r0⟩ := trodAll_cons hA
  obtain ⟨rfl, rfl, rfl⟩ := trodAll_nil r0
  obtain rfl : args = #[v0] := by cases args; simp_all
  obtain ⟨rfl, rfl⟩ := trodVars_none hV
  have k0 := h0
  have lt0 : ∀ x ∈ p0, x.block < W.heap.size := by obtain ⟨m, hm⟩ := k0; exact DataW.trod_lt m _ _ _ hm
  obtain ⟨a0, len0, cap0, rfl⟩ := okWide_slice Tryd.underlying33 (hval 0 33 v0 rfl rfl)
  obtain ⟨z0, wz0⟩ : ∃ zs, IsRow .u8 W a0 len0 cap0 zs := by
    obtain ⟨fuel, hf⟩ := h0
    rcases open_ints Tryd.underlying33 Tryd.underlying5 (by kernel_rfl) hf with ⟨hcs, _⟩ | ⟨x, l, c, zs, hcs, _, hl, hm, hz, _, hcell, hwz⟩
    · simp [Value.cells] at hcs
      obtain ⟨rfl, rfl, rfl⟩ := hcs
      exact ⟨[], .inl ⟨rfl, rfl, rfl, rfl⟩⟩
    · simp [Value.cells] at hcs
      obtain ⟨rfl, rfl, rfl⟩ := hcs
      exact ⟨zs, .inr ⟨_, rfl, hl, hm, by simpa using hz, hcell, hwz⟩⟩
  clear hA0 hval0
  have hT := LT.opens5pp hL
  refine (walk a0 len0 cap0 z0 W wz0 hT (cell_of_shapedOpen_int (P := Tryd.prog) (g := 0) (t := 3) (zero := #[.int .i64 0]) hsh (of_decide_eq_true (by kernel_rfl)) (by kernel_rfl) rfl (by kernel_rfl) (by kernel_rfl) Tryd.underlying3)).mono fun e W' ⟨he, bel⟩ => ?_
  subst he
  exact ⟨_, rfl, _, _, _, [], _, [], hW', trodAll_mk1 (shut_bool Tryd.underlying4 _), (trodAll_cons_mk (Below.trod laidOut (by kernel_rfl) (of_decide_eq_true (by kernel_rfl)) k0 bel lt0) trodAll_mk0), rfl, bel.frame _, fun h => by cases h⟩
theorem over : Rows.fnParsePackRow.holds Tryd.pinned (OpenSpec.ofChange Rows.fnParsePackSpec) :=
  OpenClaim.holds_of_wide 6 Tryd.f6 rfl rfl rfl rfl rfl rfl rfl ⟨rfl, rfl, rfl, rfl, rfl⟩ rfl rfl rfl rfl rfl (by kernel_rfl) Tryd.func6 (by kernel_rfl)
    (of_decide_eq_true (by kernel_rfl)) (by unfold Func.isWrapper; first | (rw [if_pos (by decide +kernel)]; kernel_rfl) | (rw [if_neg (by decide +kernel)]; exact ⟨rfl, rfl⟩))
    (fun os started H enc _ => lifted os started H enc)
theorem proved : Rows.FnParsePackCardSaid :=
  Claim7.holds_tied_plain_at .later [] [.data, .data, .data, .data, .pinned] true (true, "253a2c7e9501fdfe114c59bbc44fcfb1d67287b88a3d019368ad9d4c1ef390ae") false over (fun _ h => by cases h) (by kernel_rfl) (fun _ h => by cases h) fnParsePack_row_tie rfl ⟨rfl, rfl⟩ (by kernel_rfl) rfl
    (fun f fn hf hfn => by
      obtain rfl : f = 6 := Option.some.inj ((show Tryd.prog.funcNamed "loop.example/widgetroom/laws.FnParsePack" = some 6 by kernel_rfl).symm.trans hf) |>.symm
      obtain rfl : fn = Tryd.f6 := (Option.some.inj (Tryd.func6.symm.trans hfn)).symm
      refine ⟨by kernel_rfl, fun j t ht => ?_⟩
      rw [Tryd.params6] at ht
      rcases j with _ | j
      · exact (Option.some.inj ht) ▸ (show Tryd.prog.wantsStandIn 33 = false by kernel_rfl)
      · simp at ht)
    (by kernel_rfl)
end Go.Proofs.YtjfdmdmlgdgchaaDoor.lParsePack
