/- FnExactParsePacks: for every text the function of the program answers as the model's, and its answer is memory of its own. No condition but the tied tables. -/
import Derived.Test.YtjfdmdmlgdgchaaDoorQ10
import Derived.ChangeMaps5
namespace Go.Proofs.YtjfdmdmlgdgchaaDoor.xParsePacks
open Go.ChangeShapes Go.WideShapes Go.ChangeAt Go.RowKit Go.Joins
open Go.ChangeMaps (open_string)
set_option linter.unusedVariables false
set_option linter.unusedSimpArgs false
attribute [local go_sem] growUpon_value growUpon_skip growUpon_enter
set_option maxHeartbeats 1000000
theorem both (l : List UInt8) (hl : l.length ≤ 1048576) : ∃ (b : Bool) (L : List Pk), L.length ≤ 7 ∧
    (∀ w, Calls Tryd.prog 11 #[tx l] w fun e w' => (∃ v, e = .returned (.tuple #[v, .bool b]) ∧ GPO w.heap.size w' v L) ∧ Below w.heap.size w w') ∧
    (∀ w, LT.TW w → MLN w → Calls Tryd.prog 12 #[tx l] w fun e w' => (∃ v, e = .returned (.tuple #[v, .bool b]) ∧ GPO w.heap.size w' v L) ∧ Below w.heap.size w w') := by
  cases hp : pks l with
  | none =>
    refine ⟨false, [], by simp, fun w => ?_, fun w h1 h2 => ?_⟩
    · refine (sParsePacks_v l w hl).mono ?_
      rintro e w' ⟨⟨v, b, rfl, h⟩, hb⟩
      rcases h with ⟨L, rfl, h1, h2⟩ | ⟨rfl, h1, rfl⟩
      · rw [hp] at h1; cases h1
      · exact ⟨⟨_, rfl, .inl ⟨rfl, rfl⟩⟩, hb⟩
    · refine (ParsePacks_v l w hl h1 h2).mono ?_
      rintro e w' ⟨⟨v, b, rfl, h⟩, hb⟩
      rcases h with ⟨L, rfl, h1, h2⟩ | ⟨rfl, h1, rfl⟩
      · rw [hp] at h1; cases h1
      · exact ⟨⟨_, rfl, .inl ⟨rfl, rfl⟩⟩, hb⟩
  | some L =>
    refine ⟨true, L, pks_len hp, fun w => ?_, fun w h1 h2 => ?_⟩
    · refine (sParsePacks_v l w hl).mono ?_
      rintro e w' ⟨⟨v, b, rfl, h⟩, hb⟩
      rcases h with ⟨L', rfl, h1, h2⟩ | ⟨rfl, h1, rfl⟩
      · rw [hp] at h1; cases h1; exact ⟨⟨_, rfl, h2⟩, hb⟩
      · rw [hp] at h1; cases h1
    · refine (ParsePacks_v l w hl h1 h2).mono ?_
      rintro e w' ⟨⟨v, b, rfl, h⟩, hb⟩
      rcases h with ⟨L', rfl, h1, h2⟩ | ⟨rfl, h1, rfl⟩
      · rw [hp] at h1; cases h1; exact ⟨⟨_, rfl, h2⟩, hb⟩
      · rw [hp] at h1; cases h1
theorem eqPk_r (v v' : Value) (L : List Pk) (w : World) (h : PRd w v L) (h' : PRd w v' L) (hL : L.length ≤ 1048576) : Calls Tryd.prog 13 #[v, v'] w fun e w' => e = .returned (.bool true) ∧ Below w.heap.size w w' := by
  obtain ⟨A, c, n, rfl, rfl, _, hk⟩ := h
  obtain ⟨B, c', n', rfl, rfl, _, hk'⟩ := h'
  exact eqPackS_same A B c c' L w hk hk' hL
/-- marked -/
def PMG (w : World) (v : Value) (n : Nat) : Prop := (v = .slice none 0 0 ∧ n = 0) ∨ ∃ g cap, v = .slice (some ⟨g, 0, none⟩) n cap ∧ PM9 w g cap n
theorem PMG.keep {w w' : World} {v : Value} {n : Nat} (h : PMG w v n) (hb : Below w.heap.size w w') : PMG w' v n := h.imp id fun ⟨g, cap, h1, hk⟩ => ⟨g, cap, h1, hk.keep hb⟩
theorem markG (lo : Nat) (w : World) (v : Value) (M : List Pk) (h : GPO lo w v M) (hM : M.length ≤ 1000) (hlo : lo ≤ w.heap.size) :
    Calls Tryd.prog 14 #[v, .int .i64 1] w fun e w' => e = .returned (.int .i64 ((M.length : Int) * 9 + 1)) ∧ PMG w' v M.length ∧ Below lo w w' := by
  rcases h with ⟨rfl, rfl⟩ | ⟨g, cap, n, rfl, rfl, hlg, hk⟩
  · refine (markP9_nil w).mono ?_
    rintro e w' ⟨rfl, rfl⟩
    exact ⟨rfl, .inl ⟨rfl, rfl⟩, Below.refl _ _⟩
  · refine (markP9_v g cap M.length w hk.1 (let ⟨cs, h1, h2, _⟩ := hk.2; ⟨cs, h1, h2⟩) hM).mono ?_
    rintro e w' ⟨rfl, hk', hg⟩
    exact ⟨rfl, .inr ⟨g, cap, rfl, hk'⟩, ⟨hg.os, hg.tape, hg.output, hg.size, fun k hk => hg.block k (by omega) (fun e => by have := Option.some.inj e; omega)⟩⟩
theorem heldG (w : World) (v : Value) (n : Nat) (h : PMG w v n) (hn : n ≤ 1000) :
    Calls Tryd.prog 15 #[v, .int .i64 1] w fun e w' => e = .returned (.int .i64 ((n : Int) * 9 + 1)) ∧ Below w.heap.size w w' := by
  rcases h with ⟨rfl, rfl⟩ | ⟨g, cap, rfl, hk⟩
  · refine (heldP9_nil w).mono ?_
    rintro e w' ⟨rfl, rfl⟩
    exact ⟨rfl, Below.refl _ _⟩
  · exact heldP9_v g cap n w hk hn
def BLW (a W : World) : Prop := Below a.heap.size a W
theorem BLW.below {a W : World} (h : BLW a W) : Below a.heap.size a W := h
theorem BLW.keep {a W W' : World} (h : BLW a W) (hb : Below W.heap.size W W') : BLW a W' := Below.trans h (hb.mono (Below.size h))
set_option maxRecDepth 100000 in
theorem walk (s : ByteArray) (w : World) (hT : LT.TW w) (hM : MLN w) : Calls Tryd.prog 4 #[.string s] w fun e w' => e = .returned (.bool true) ∧ Below w.heap.size w w' := by
  by_cases hs : s.size ≤ 1048576
  · have hd : decide ((s.size : Int) > 1048576) = false := decide_eq_false (by omega)
    obtain ⟨b, L, hL, hR1, hR2⟩ := both s.data.toList (by simpa using hs)
    have HS : Hid (∀ w, Calls Tryd.prog 11 #[.string s] w fun e w' => (∃ v, e = .returned (.tuple #[v, .bool b]) ∧ GPO w.heap.size w' v L) ∧ Below w.heap.size w w') := Lib.hid hR1
    have HI : Hid (∀ w, LT.TW w → MLN w → Calls Tryd.prog 12 #[.string s] w fun e w' => (∃ v, e = .returned (.tuple #[v, .bool b]) ∧ GPO w.heap.size w' v L) ∧ Below w.heap.size w w') := Lib.hid hR2
    have HB := Lib.hid (Below.refl w.heap.size w)
    have hL8 : L.length ≤ 1048576 := by omega
    have hL1 : L.length ≤ 1000 := by omega
    have hM0 : decide ((L.length : Int) * 9 + 1 < 0) = false := decide_eq_false (by omega)
    have hbb : (b != b) = false := by simp
    clear hR1 hR2
    go_enter Tryd.func4, Tryd.ntmps4
    go_wp2_with fail
    with_reducible refine (HS.out _).mono ?_
    rintro e w1 ⟨⟨x1, rfl, h1⟩, hb⟩
    replace HB := Lib.hid (bkeep2 HB.out hb)
    clear hb
    have HQ := Lib.hid h1.rd
    have HC := Lib.hid (show BLW w1 w1 from Below.refl _ _)
    have hs1 := HB.out.size
    clear h1
    go_wp2_with fail
    with_reducible refine (HI.out _ (hT.keep HB.out) (hM.keep HB.out)).mono ?_
    rintro e w2 ⟨⟨x2, rfl, h2⟩, hb⟩
    replace HC := Lib.hid (HC.out.keep hb)
    replace HB := Lib.hid (bkeep2 HB.out hb)
    clear hb
    have HG := Lib.hid h2
    clear h2
    go_wp2_with fail
    with_reducible refine (eqPk_r _ _ L _ HG.out.rd (HQ.out.keep (BLW.below HC.out)) hL8).mono ?_
    rintro e w3 ⟨rfl, hb⟩
    replace HC := Lib.hid (HC.out.keep hb)
    replace HG := Lib.hid (HG.out.keep hb)
    replace HB := Lib.hid (bkeep2 HB.out hb)
    clear hb
    have hs3 := Below.size HC.out
    go_wp2_with fail
    with_reducible refine (markG w1.heap.size _ _ L HG.out hL1 hs3).mono ?_
    rintro e w4 ⟨rfl, hgm, hb⟩
    have hs4 := hb.size
    replace HB := Lib.hid (HB.out.trans (hb.mono hs1))
    replace HC := Lib.hid (show BLW w1 w4 from Below.trans HC.out hb)
    have HGM := Lib.hid hgm
    clear hgm hb HG hs3 hs4
    go_wp2_with fail
    with_reducible refine (heldG _ _ L.length HGM.out hL1).mono ?_
    rintro e w5 ⟨rfl, hb⟩
    replace HC := Lib.hid (HC.out.keep hb)
    replace HGM := Lib.hid (HGM.out.keep hb)
    replace HB := Lib.hid (bkeep2 HB.out hb)
    clear hb
    go_wp2_with fail
    with_reducible refine (HI.out _ (hT.keep HB.out) (hM.keep HB.out)).mono ?_
    rintro e w6 ⟨⟨x6, rfl, h6⟩, hb⟩
    replace HC := Lib.hid (HC.out.keep hb)
    replace HGM := Lib.hid (HGM.out.keep hb)
    replace HB := Lib.hid (bkeep2 HB.out hb)
    clear hb
    have HG := Lib.hid h6
    clear h6
    go_wp2_with fail
    with_reducible refine (eqPk_r _ _ L _ HG.out.rd (HQ.out.keep (BLW.below HC.out)) hL8).mono ?_
    rintro e w7 ⟨rfl, hb⟩
    clear HG
    replace HC := Lib.hid (HC.out.keep hb)
    replace HGM := Lib.hid (HGM.out.keep hb)
    replace HB := Lib.hid (bkeep2 HB.out hb)
    clear hb
    go_wp2_with fail
    with_reducible refine (heldG _ _ L.length HGM.out hL1).mono ?_
    rintro e w8 ⟨rfl, hb⟩
    replace HB := Lib.hid (bkeep2 HB.out hb)
    clear hb
    go_wp2
    go_ret
    exact ⟨rfl, HB.out⟩
  · have hd : decide ((s.size : Int) > 1048576) = true := decide_eq_true (by omega)
    go_enter Tryd.func4, Tryd.ntmps4
    go_wp2
    go_ret
    exact ⟨rfl, Below.refl _ _⟩
set_option maxRecDepth 100000 in
theorem lifted (os : Os) (started : os.Started) (H : Type) (enc : TypeId × Value → H) :
    ReturnsInHanded {} Tryd.checked os 4 .any (fun w args => (Rows.fnExactParsePacksSpec.pre enc Tryd.prog Tryd.f4 [] false w args ∧ laidMetH Tryd.prog Rows.fnExactParsePacksRow.laid w) ∧ sizedMet enc Tryd.prog Tryd.f4 (OpenSpec.ofChange Rows.fnExactParsePacksSpec) false w args) (Rows.fnExactParsePacksSpec.post enc Tryd.prog Tryd.f4 false true false false) := by
  refine handed_shaped_laid (C := Tryd.checked) (X := fun w _ => laidMetH Tryd.prog Rows.fnExactParsePacksRow.laid w) (fun _ _ _ hh h => h.of_heap hh) own started (by kernel_rfl) Tryd.func4
    (ChangeSpec.witness_shaped (enc := enc) (C := Tryd.checked) (os := os) (X := fun w _ => laidMetH Tryd.prog Rows.fnExactParsePacksRow.laid w) false (LT.world5xs os) #[.string ⟨#[]⟩] 8 (World.laidAll_os _ _ _) (World.shaped_of_ZipB (by kernel_rfl) (by kernel_rfl)) (by kernel_rfl) (by kernel_rfl) (by kernel_rfl) (LT.met5xs os _)) ?_
  intro W base args ds gs before hval0 hW hL hsh
  have hval : ∀ (j : Nat) t v, Tryd.f4.params[j]? = some t → args[j]? = some v → Value.okWide Tryd.prog W .any base t v := hval0
  have hW' := hW
  obtain ⟨p, q, hA0, hV, rfl, hfz, hnd⟩ := hW
  have hA : DataW.TrodAll enc Tryd.prog W 0 (fun _ => true) true Tryd.f4.params.toList args.toList ds p := hA0
  rw [Tryd.params4] at hA hval
  obtain ⟨v0, vs0, d0, ds0, p0, q0, hargs, rfl, rfl, h0, r0⟩ := trodAll_cons hA
  obtain ⟨rfl, rfl, rfl⟩ := trodAll_nil r0
  obtain rfl : args = #[v0] := by cases args; simp_all
  obtain ⟨rfl, rfl⟩ := trodVars_none hV
  have k0 := h0
  have lt0 : ∀ x ∈ p0, x.block < W.heap.size := by obtain ⟨m, hm⟩ := k0; exact DataW.trod_lt m _ _ _ hm
  obtain ⟨x0, rfl, _, _, wx0⟩ := open_string Tryd.underlying9 (hval 0 9 v0 rfl rfl) h0
  clear hA0 hval0
  have hT := LT.opens5xs hL
  refine (walk x0 W hT (cell_of_shapedOpen_int (P := Tryd.prog) (g := 0) (t := 3) (zero := #[.int .i64 0]) hsh (of_decide_eq_true (by kernel_rfl)) (by kernel_rfl) rfl (by kernel_rfl) (by kernel_rfl) Tryd.underlying3)).mono fun e W' ⟨he, bel⟩ => ?_
  subst he
  exact ⟨_, rfl, _, _, _, [], _, [], hW', trodAll_mk1 (shut_bool Tryd.underlying4 _), (trodAll_cons_mk (Below.trod laidOut (by kernel_rfl) (of_decide_eq_true (by kernel_rfl)) k0 bel lt0) trodAll_mk0), rfl, bel.frame _, fun h => by cases h⟩
theorem over : Rows.fnExactParsePacksRow.holds Tryd.pinned (OpenSpec.ofChange Rows.fnExactParsePacksSpec) :=
  OpenClaim.holds_of_wide 4 Tryd.f4 rfl rfl rfl rfl rfl rfl rfl ⟨rfl, rfl, rfl, rfl, rfl⟩ rfl rfl rfl rfl rfl (by kernel_rfl) Tryd.func4 (by kernel_rfl)
    (of_decide_eq_true (by kernel_rfl)) (by unfold Func.isWrapper; first | (rw [if_pos (by decide +kernel)]; kernel_rfl) | (rw [if_neg (by decide +kernel)]; exact ⟨rfl, rfl⟩))
    (fun os started H enc _ => lifted os started H enc)
theorem proved : Rows.FnExactParsePacksCardSaid :=
  Claim7.holds_tied_plain_at .later [] [.data, .data, .data, .data, .pinned] true (true, "253a2c7e9501fdfe114c59bbc44fcfb1d67287b88a3d019368ad9d4c1ef390ae") false over (fun _ h => by cases h) (by kernel_rfl) (fun _ h => by cases h) fnExactParsePacks_row_tie rfl ⟨rfl, rfl⟩ (by kernel_rfl) rfl
    (fun f fn hf hfn => by
      obtain rfl : f = 4 := Option.some.inj ((show Tryd.prog.funcNamed "loop.example/widgetroom/laws.FnExactParsePacks" = some 4 by kernel_rfl).symm.trans hf) |>.symm
      obtain rfl : fn = Tryd.f4 := (Option.some.inj (Tryd.func4.symm.trans hfn)).symm
      refine ⟨by kernel_rfl, fun j t ht => ?_⟩
      rw [Tryd.params4] at ht
      rcases j with _ | j
      · exact (Option.some.inj ht) ▸ (show Tryd.prog.wantsStandIn 9 = false by kernel_rfl)
      · simp at ht)
    (by kernel_rfl)
end Go.Proofs.YtjfdmdmlgdgchaaDoor.xParsePacks
