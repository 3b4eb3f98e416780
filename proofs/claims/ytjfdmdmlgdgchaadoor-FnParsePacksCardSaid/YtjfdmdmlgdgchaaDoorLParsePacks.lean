/- FnParsePacks: for every code the law returns true. No condition but the tied tables. -/
import Derived.Test.YtjfdmdmlgdgchaaDoorQ11
namespace Go.Proofs.YtjfdmdmlgdgchaaDoor.lParsePacks
open Go.ChangeShapes Go.WideShapes Go.ChangeAt Go.RowKit Go.Joins
set_option linter.unusedVariables false
attribute [local go_sem] growUpon_value growUpon_skip growUpon_enter
set_option maxHeartbeats 1000000
set_option linter.unusedSimpArgs false
theorem bothPs (l : List UInt8) (hl : l.length ≤ 1048576) : ∃ (b : Bool) (L : List Pk), L.length ≤ 7 ∧ (b = true → (∀ p ∈ L, p.ok = true) ∧ linesT L = l) ∧
    (∀ w, Calls Tryd.prog 11 #[tx l] w fun e w' => (∃ v, e = .returned (.tuple #[v, .bool b]) ∧ PRd w' v L) ∧ Below w.heap.size w w') ∧
    (∀ w, LT.TW w → MLN w → Calls Tryd.prog 12 #[tx l] w fun e w' => (∃ v, e = .returned (.tuple #[v, .bool b]) ∧ PRd w' v L) ∧ Below w.heap.size w w') := by
  cases hp : pks l with
  | none =>
    refine ⟨false, [], by simp, (fun h => by cases h), fun w => ?_, fun w h1 h2 => ?_⟩
    · refine (sParsePacks_v l w hl).mono ?_
      rintro e w' ⟨⟨v, b, rfl, h⟩, hb⟩
      rcases h with ⟨L, rfl, h1, h2⟩ | ⟨rfl, h1, rfl⟩
      · rw [hp] at h1; cases h1
      · exact ⟨⟨_, rfl, GPO.rd (lo := 0) (.inl ⟨rfl, rfl⟩)⟩, hb⟩
    · refine (ParsePacks_v l w hl h1 h2).mono ?_
      rintro e w' ⟨⟨v, b, rfl, h⟩, hb⟩
      rcases h with ⟨L, rfl, h1, h2⟩ | ⟨rfl, h1, rfl⟩
      · rw [hp] at h1; cases h1
      · exact ⟨⟨_, rfl, GPO.rd (lo := 0) (.inl ⟨rfl, rfl⟩)⟩, hb⟩
  | some L =>
    refine ⟨true, L, pks_len hp, fun _ => ⟨pks_ok hp, (pks_text hp).symm⟩, fun w => ?_, fun w h1 h2 => ?_⟩
    · refine (sParsePacks_v l w hl).mono ?_
      rintro e w' ⟨⟨v, b, rfl, h⟩, hb⟩
      rcases h with ⟨L', rfl, h1, h2⟩ | ⟨rfl, h1, rfl⟩
      · rw [hp] at h1; cases h1; exact ⟨⟨_, rfl, h2.rd⟩, hb⟩
      · rw [hp] at h1; cases h1
    · refine (ParsePacks_v l w hl h1 h2).mono ?_
      rintro e w' ⟨⟨v, b, rfl, h⟩, hb⟩
      rcases h with ⟨L', rfl, h1, h2⟩ | ⟨rfl, h1, rfl⟩
      · rw [hp] at h1; cases h1; exact ⟨⟨_, rfl, h2.rd⟩, hb⟩
      · rw [hp] at h1; cases h1
set_option maxRecDepth 100000 in
theorem equalPacks_same (A B : Option Addr) (c c' n : Nat) (L : List Pk) (w : World) (hn : n = L.length) (h : PV w A L) (h' : PV w B L) (hL : n ≤ 1048576) :
    Calls Tryd.prog 23 #[.slice A n c, .slice B n c'] w fun e w' => e = .returned (.bool true) ∧ Below w.heap.size w w' := by
  have HN := Lib.hid hn
  clear hn
  go_enter Tryd.func23, Tryd.ntmps23
  go_wp2_with fail
  go_loopw [5] (fun i wr => ∃ k : Nat, k ≤ n ∧ i = .int .i64 k ∧ Below w.heap.size w wr) (fun i _ => n - (intOf i).toNat)
  case atStart => exact ⟨0, by omega, rfl, Below.refl _ _⟩
  case round =>
    obtain ⟨k, hk, rfl, hB⟩ := hrel
    by_cases hlt : k < n
    · have hd : decide ((k : Int) < (n : Int)) = true := by simpa using hlt
      have h1 := h.keep hB
      have h2 := h'.keep hB
      have hkL : k < L.length := by have := HN.out; omega
      obtain ⟨b, off, rfl, hb, hp⟩ := h1.cells (by omega)
      obtain ⟨b', off', rfl, hb', hp'⟩ := h2.cells (by omega)
      obtain ⟨p, hpk⟩ : ∃ p, L[k]? = some p := ⟨_, List.getElem?_eq_getElem hkL⟩
      obtain ⟨c0, c1, c2, c3, c4, c5, c6, c7, c8⟩ := hp k p hpk
      obtain ⟨d0, d1, d2, d3, d4, d5, d6, d7, d8⟩ := hp' k p hpk
      have HP := Lib.hid hp
      have HP' := Lib.hid hp'
      have HBB := Lib.hid hB
      clear hpk hp hp' hB h1 h2 hkL
      go_wp2_with fail
      refine wp_region_grow 9 0 (· < 9) (by kernel_rfl) (by kernel_rfl) rfl ?_
      iterate 9 (refine wpG_step (fun K hK => ?_); apply Exists.intro; refine ⟨.inl ⟨rfl, fun w' hw' => ?_⟩, ?_⟩; (focus ((obtain ⟨hc, hf⟩ := bcell hw'.out); (have hcS := bcellS hw'.out); go_simp <;> first | rfl)); (go_simp; refine hK _ ?_; clear hK K))
      refine wpG_nil ?_
      refine wpK_tail (by kernel_rfl) (fun w1 hg1 => ?_)
      refine wpAny_end (by kernel_rfl) ?_
      refine NoPan.thn ?_
      have hb1 := hg1.out
      replace HBB := Lib.hid (HBB.out.trans ((Below.refl wr.heap.size wr).drew.trans hb1 |>.mono HBB.out.size))
      clear hb1 hg1 c0 c1 c2 c3 c4 c5 c6 c7 c8 d0 d1 d2 d3 d4 d5 d6 d7 d8
      go_wp2
      go_roundw
      case rel => exact ⟨k + 1, by omega, by go_num, HBB.out⟩
      case measure => simp [intOf]; omega
    · have hd : decide ((k : Int) < (n : Int)) = false := by simp; omega
      have HBB := Lib.hid hB
      clear hB
      go_wp2
      go_ret
      exact ⟨rfl, HBB.out⟩
theorem equalPk_r (v v' : Value) (L : List Pk) (w : World) (h : PRd w v L) (h' : PRd w v' L) (hL : L.length ≤ 1048576) : Calls Tryd.prog 23 #[v, v'] w fun e w' => e = .returned (.bool true) ∧ Below w.heap.size w w' := by
  obtain ⟨A, c, n, rfl, hn, _, hk⟩ := h
  obtain ⟨B, c', n', rfl, hn', _, hk'⟩ := h'
  have e : n' = n := by omega
  subst e
  exact equalPacks_same A B c c' n' L w hn hk hk' (by omega)
theorem take_linesT {L : List Pk} {k : Nat} {p : Pk} (h : L[k]? = some p) : linesT (L.take (k + 1)) = linesT (L.take k) ++ p.txt ++ [10] := by
  obtain ⟨hk, e⟩ := List.getElem?_eq_some_iff.1 h
  rw [List.take_succ_eq_append_getElem hk, e, linesT_snoc]
theorem linesT_take {L : List Pk} (h : ∀ p ∈ L, p.ok = true) (k : Nat) : (linesT (L.take k)).length ≤ 701 * L.length := by
  have h1 := linesT_len (L := L.take k) (fun p hp => h p (List.mem_of_mem_take hp))
  have : (L.take k).length ≤ L.length := by simp; omega
  omega
set_option maxRecDepth 100000 in
theorem walk (A : Option Addr) (n c : Nat) (z : List Int) (w : World) (wz : IsRow .u8 w A n c z) (hT : LT.TW w) (hM : MLN w) : Calls Tryd.prog 7 #[.slice A n c] w fun e w' => e = .returned (.bool true) ∧ Below w.heap.size w w' := by
  obtain ⟨hb, hn, hc⟩ := wz.bts
  clear wz
  by_cases hlen : n ≤ 1048576
  · have hl1 : ¬ (1048576 : Int) < n := by omega
    go_enter Tryd.func7, Tryd.ntmps7
    go_wp2_with fail
    with_reducible refine (DrawParsePacks_any A n c _ hb hn hc).mono ?_
    rintro e w1 ⟨⟨x, rfl, hx⟩, hB⟩
    have HB := Lib.hid hB
    obtain ⟨b, L, hL, hp, hS, hI⟩ := bothPs x (by omega)
    have HP := Lib.hid hp
    have HS := Lib.hid hS
    have HI := Lib.hid hI
    have hL8 : L.length ≤ 1048576 := by omega
    clear hB hb hn hc hp hS hI
    go_wp2_with fail
    with_reducible refine (HI.out _ (hT.keep HB.out) (hM.keep HB.out)).mono ?_
    rintro e w2 ⟨⟨v2, rfl, h2⟩, hb⟩
    replace HB := Lib.hid (bkeep2 HB.out hb)
    clear hb
    have HV := Lib.hid h2
    clear h2
    go_wp2_with fail
    with_reducible refine (HS.out _).mono ?_
    rintro e w3 ⟨⟨v3, rfl, h3⟩, hb⟩
    replace HV := Lib.hid (HV.out.keep hb)
    replace HB := Lib.hid (bkeep2 HB.out hb)
    clear hb
    have HU := Lib.hid h3
    clear h3
    go_wp2_with fail
    with_reducible refine (equalPk_r v2 v3 L _ HV.out HU.out hL8).mono ?_
    rintro e w4 ⟨rfl, hb⟩
    replace HV := Lib.hid (HV.out.keep hb)
    replace HU := Lib.hid (HU.out.keep hb)
    replace HB := Lib.hid (bkeep2 HB.out hb)
    clear hb
    cases b
    · go_wp2_with fail
      with_reducible refine (equalPk_r v2 v3 L _ HV.out HU.out hL8).mono ?_
      rintro e w5 ⟨rfl, hb⟩
      replace HB := Lib.hid (bkeep2 HB.out hb)
      clear hb
      go_wp2
      go_ret
      exact ⟨rfl, HB.out⟩
    · obtain ⟨hok, htx⟩ := HP.out rfl
      obtain ⟨A2, c2, n2, rfl, hn2, hnc, hpv⟩ := HV.out
      have HN := Lib.hid hn2
      have HOK := Lib.hid hok
      have HTX := Lib.hid htx
      have HPV := Lib.hid hpv
      have hn7 : n2 ≤ 7 := by omega
      have hn7i : (n2 : Int) ≤ 7 := by omega
      have hn7d : decide ((n2 : Int) ≤ 7) = true := decide_eq_true hn7i
      clear hok htx hn2 hpv HV HU
      go_wp2_with fail
      go_loopw [8, 9] (fun sv i wr => ∃ k : Nat, k ≤ n2 ∧ i = .int .i64 k ∧ sv = tx (linesT (L.take k)) ∧ PV wr A2 L ∧ Below w.heap.size w wr) (fun _ i _ => n2 - (intOf i).toNat)
      case atStart => exact ⟨0, by omega, rfl, rfl, HPV.out, HB.out⟩
      case round =>
        obtain ⟨k, hk, rfl, rfl, hpv, hB⟩ := hrel
        clear HB HPV
        have HB := Lib.hid hB
        have HPV := Lib.hid hpv
        clear hB
        by_cases hlt : k < n2
        · have hd : decide ((k : Int) < (n2 : Int)) = true := by simpa using hlt
          have hkL : k < L.length := by have := HN.out; omega
          have hki : (k : Int) < (n2 : Int) := by omega
          obtain ⟨bb, off, rfl, hbb, hcs⟩ := hpv.cells (by omega)
          obtain ⟨p, hpk⟩ : ∃ p, L[k]? = some p := ⟨_, List.getElem?_eq_getElem hkL⟩
          obtain ⟨c0, c1, c2', c3, c4, c5, c6, c7, c8⟩ := hcs k p hpk
          have hpo := HOK.out p (List.mem_of_getElem? hpk)
          have HPT : Hid (∀ w, LT.TW w → Calls Tryd.prog 17 #[.agg #[.int .i64 p.w, .int .i64 p.h, .int .i64 p.s, .bool p.fx, .bool p.fy, .bool p.ex, .int .i64 p.an, .int .i64 p.px, .int .i64 p.py]] w fun e w' => e = .returned (tx p.txt) ∧ Below w.heap.size w w') := Lib.hid (fun w h => by
            have := PackText_v p.w p.h p.s p.fx p.fy p.ex p.an p.px p.py w h
            rwa [show vpB p.w p.h p.s p.an p.px p.py = true from hpo, if_pos rfl] at this)
          have hl1 := txt_len hpo
          have hl2 := linesT_take HOK.out k
          have HTK := Lib.hid (take_linesT hpk)
          generalize p.txt = y at *
          generalize linesT (L.take k) = x0 at *
          have hc1 := fun w => run_cat x0 y w (by omega)
          have hc2 : ∀ w, (binOp .add 9 (tx (x0 ++ y)) (.string ⟨#[10]⟩)).run Tryd.prog w = .ok (tx (x0 ++ y ++ [10])) w := fun w => run_cat (x0 ++ y) [10] w (by simp; omega)
          clear hcs hpv hpk hpo hl1 hl2
          go_wp2_with fail
          with_reducible refine (HPT.out _ (hT.keep HB.out)).mono ?_
          rintro e w6 ⟨rfl, hb⟩
          clear c0 c1 c2' c3 c4 c5 c6 c7 c8
          replace HPV := Lib.hid (HPV.out.keep hb)
          replace HB := Lib.hid (bkeep2 HB.out hb)
          clear hb
          go_wp2
          go_roundw
          case rel => exact ⟨k + 1, by omega, by go_num, by rw [HTK.out]; simp, HPV.out, HB.out⟩
          case measure => simp [intOf]; omega
        · have hd : decide ((k : Int) < (n2 : Int)) = false := by simp; omega
          have e1 : linesT (L.take k) = x := by rw [List.take_of_length_le (by have := HN.out; omega)]; exact HTX.out
          rw [e1]
          have g1 := fun s t w => eqg_tx .eql s t x x w
          have g2 := eq_same x
          clear hpv e1
          go_wp2
          go_ret
          exact ⟨rfl, HB.out⟩
  · have hl1 : (1048576 : Int) < n := by omega
    go_enter Tryd.func7, Tryd.ntmps7
    go_wp2
    go_ret
    exact ⟨rfl, Below.refl _ _⟩
set_option maxRecDepth 100000 in
theorem lifted (os : Os) (started : os.Started) (H : Type) (enc : TypeId × Value → H) :
    ReturnsInHanded {} Tryd.checked os 7 .any (fun w args => (Rows.fnParsePacksSpec.pre enc Tryd.prog Tryd.f7 [] false w args ∧ laidMetH Tryd.prog Rows.fnParsePacksRow.laid w) ∧ sizedMet enc Tryd.prog Tryd.f7 (OpenSpec.ofChange Rows.fnParsePacksSpec) false w args) (Rows.fnParsePacksSpec.post enc Tryd.prog Tryd.f7 false true false false) := by
  refine handed_shaped_laid (C := Tryd.checked) (X := fun w _ => laidMetH Tryd.prog Rows.fnParsePacksRow.laid w) (fun _ _ _ hh h => h.of_heap hh) own started (by kernel_rfl) Tryd.func7
    (ChangeSpec.witness_shaped (enc := enc) (C := Tryd.checked) (os := os) (X := fun w _ => laidMetH Tryd.prog Rows.fnParsePacksRow.laid w) false (LT.world5ps os) #[.slice none 0 0] 8 (World.laidAll_os _ _ _) (World.shaped_of_ZipB (by kernel_rfl) (by kernel_rfl)) (by kernel_rfl) (by kernel_rfl) (by kernel_rfl) (LT.met5ps os _)) ?_
  intro W base args ds gs before hval0 hW hL hsh
  have hval : ∀ (j : Nat) t v, Tryd.f7.params[j]? = some t → args[j]? = some v → Value.okWide Tryd.prog W .any base t v := hval0
  have hW' := hW
  obtain ⟨p, q, hA0, hV, rfl, hfz, hnd⟩ := hW
  have hA : DataW.TrodAll enc Tryd.prog W 0 (fun _ => true) true Tryd.f7.params.toList args.toList ds p := hA0
  rw [Tryd.params7] at hA hval
  obtain ⟨v0, vs0, d0, ds0, p0, q0, hargs, rfl, rfl, h0, r0⟩ := trodAll_cons hA
  obtain ⟨rfl, rfl, rfl⟩ := trodAll_nil r0
  obtain rfl : args = #[v0] := by cases args; simp_all
  obtain ⟨rfl, rfl⟩ := trodVars_none hV
  have k0 := h0
  have lt0 : ∀ x ∈ p0, x.block < W.heap.size := by obtain ⟨m, hm⟩ := k0; exact DataW.trod_lt m _ _ _ hm
  obtain ⟨a0, len0, cap0, rfl⟩ := okWide_slice Tryd.underlying33 (hval 0 33 v0 rfl rfl)
  obtain ⟨z0, wz0⟩ : ∃ zs, IsRow .u8 W a0 len0 cap0 zs := by
    obtain ⟨fuel, hf⟩ := h0
    rcases open_ints Tryd.underlying33 Tryd.underlying5 (by kernel_rfl) hf with ⟨hcs, _⟩ | ⟨x, l, c, zs, hcs, _, hl, hm, hz, _, hcell, hwz⟩
    · simp [Value.cells] at hcs
      obtain ⟨rfl, rfl, rfl⟩ := hcs
      exact ⟨[], .inl ⟨rfl, rfl, rfl, rfl⟩⟩
    · simp [Value.cells] at hcs
      obtain ⟨rfl, rfl, rfl⟩ := hcs
      exact ⟨zs, .inr ⟨_, rfl, hl, hm, by simpa using hz, hcell, hwz⟩⟩
  clear hA0 hval0
  have hT := LT.opens5ps hL
  refine (walk a0 len0 cap0 z0 W wz0 hT (cell_of_shapedOpen_int (P := Tryd.prog) (g := 0) (t := 3) (zero := #[.int .i64 0]) hsh (of_decide_eq_true (by kernel_rfl)) (by kernel_rfl) rfl (by kernel_rfl) (by kernel_rfl) Tryd.underlying3)).mono fun e W' ⟨he, bel⟩ => ?_
  subst he
  exact ⟨_, rfl, _, _, _, [], _, [], hW', trodAll_mk1 (shut_bool Tryd.underlying4 _), (trodAll_cons_mk (Below.trod laidOut (by kernel_rfl) (of_decide_eq_true (by kernel_rfl)) k0 bel lt0) trodAll_mk0), rfl, bel.frame _, fun h => by cases h⟩
theorem over : Rows.fnParsePacksRow.holds Tryd.pinned (OpenSpec.ofChange Rows.fnParsePacksSpec) :=
  OpenClaim.holds_of_wide 7 Tryd.f7 rfl rfl rfl rfl rfl rfl rfl ⟨rfl, rfl, rfl, rfl, rfl⟩ rfl rfl rfl rfl rfl (by kernel_rfl) Tryd.func7 (by kernel_rfl)
    (of_decide_eq_true (by kernel_rfl)) (by unfold Func.isWrapper; first | (rw [if_pos (by decide +kernel)]; kernel_rfl) | (rw [if_neg (by decide +kernel)]; exact ⟨rfl, rfl⟩))
    (fun os started H enc _ => lifted os started H enc)
theorem proved : Rows.FnParsePacksCardSaid :=
  Claim7.holds_tied_plain_at .later [] [.data, .data, .data, .data, .pinned] true (true, "253a2c7e9501fdfe114c59bbc44fcfb1d67287b88a3d019368ad9d4c1ef390ae") false over (fun _ h => by cases h) (by kernel_rfl) (fun _ h => by cases h) fnParsePacks_row_tie rfl ⟨rfl, rfl⟩ (by kernel_rfl) rfl
    (fun f fn hf hfn => by
      obtain rfl : f = 7 := Option.some.inj ((show Tryd.prog.funcNamed "loop.example/widgetroom/laws.FnParsePacks" = some 7 by kernel_rfl).symm.trans hf) |>.symm
      obtain rfl : fn = Tryd.f7 := (Option.some.inj (Tryd.func7.symm.trans hfn)).symm
      refine ⟨by kernel_rfl, fun j t ht => ?_⟩
      rw [Tryd.params7] at ht
      rcases j with _ | j
      · exact (Option.some.inj ht) ▸ (show Tryd.prog.wantsStandIn 33 = false by kernel_rfl)
      · simp at ht)
    (by kernel_rfl)
end Go.Proofs.YtjfdmdmlgdgchaaDoor.lParsePacks
