/- FnExpandShare: for every code the law returns true. No condition. -/
import Derived.Test.YtjdjahckdgbkbacQ05
namespace Go.Proofs.Ytjdjahckdgbkbac.lExpandShare
open Go.ChangeShapes Go.WideShapes Go.ChangeAt Go.RowKit Go.Joins
set_option linter.unusedVariables false
set_option maxHeartbeats 1000000
attribute [local go_sem 5000] run_mx run_mn
def esV (L : List Pk) (rm : Int) (d : Bool) : Int := if esB L rm d then shareGo L d rm rm 0 else -1
theorem ES_c (A : Option Addr) (c : Nat) (L : List Pk) (rm : Int) (d : Bool) (w : World) (h : PV w A L) (hL : L.length ≤ 1048576) (S : Int) (hS : esV L rm d = S) :
    Calls Try.prog 16 #[.slice A L.length c, .int .i64 rm, .bool d] w fun e w' => e = .returned (.int .i64 S) ∧ Below w.heap.size w w' := by
  subst hS
  unfold esV
  cases he : esB L rm d
  · exact ExpandShare_no A c L rm d w h hL he
  · exact ExpandShare_yes A c L rm d w h hL he
theorem sES_c (A : Option Addr) (c : Nat) (L : List Pk) (rm : Int) (d : Bool) (w : World) (h : PV w A L) (hL : L.length ≤ 1048576) (S : Int) (hS : esV L rm d = S) :
    Calls Try.prog 17 #[.slice A L.length c, .int .i64 rm, .bool d] w fun e w' => e = .returned (.int .i64 S) ∧ Below w.heap.size w w' := by
  subst hS
  unfold esV
  cases he : esB L rm d
  · exact sExpandShare_no A c L rm d w h hL he
  · exact sExpandShare_yes A c L rm d w h hL he
set_option maxRecDepth 100000 in
theorem walk (A : Option Addr) (n c : Nat) (z : List Int) (w : World) (wz : IsRow .u8 w A n c z) : Calls Try.prog 5 #[.slice A n c] w fun e w' => e = .returned (.bool true) ∧ Below w.heap.size w w' := by
  obtain ⟨hb, hn, hc⟩ := wz.bts
  clear wz
  by_cases hlen : n ≤ 1048576
  · have hl1 : ¬ (1048576 : Int) < n := by omega
    go_enter Try.func5, Try.ntmps5
    go_wp2_with fail
    with_reducible refine (DrawExpandShare_any A n c _ hb hn hc).mono ?_
    rintro e w1 ⟨⟨A', c', L, rm, d, rfl, hL8, hcap, hpv⟩, hB⟩
    have HB := Lib.hid hB
    clear hb hn hc hB
    have hL : L.length ≤ 1048576 := by omega
    have HP := Lib.hid hpv
    clear hpv
    obtain ⟨S, hS⟩ : ∃ S, esV L rm d = S := ⟨_, rfl⟩
    have HS := Lib.hid hS
    cases he : esB L rm d
    · have hS1 : S = -1 := by rw [← hS]; simp [esV, he]
      subst hS1
      clear hS
      go_wp2_with fail
      with_reducible refine (ES_c A' c' L rm d _ HP.out hL _ HS.out).mono ?_
      rintro e w2 ⟨rfl, hb2⟩
      replace HP := Lib.hid (HP.out.keep hb2)
      replace HB := Lib.hid (bkeep2 HB.out hb2)
      clear hb2
      go_wp2_with fail
      with_reducible refine (sES_c A' c' L rm d _ HP.out hL _ HS.out).mono ?_
      rintro e w3 ⟨rfl, hb3⟩
      replace HP := Lib.hid (HP.out.keep hb3)
      replace HB := Lib.hid (bkeep2 HB.out hb3)
      clear hb3
      go_wp2_with fail
      with_reducible refine (sES_c A' c' L rm d _ HP.out hL _ HS.out).mono ?_
      rintro e w4 ⟨rfl, hb4⟩
      replace HP := Lib.hid (HP.out.keep hb4)
      replace HB := Lib.hid (bkeep2 HB.out hb4)
      clear hb4
      go_wp2
      go_ret
      exact ⟨rfl, HB.out⟩
    · obtain ⟨p, t, rfl, hvv, hrm, hex, hdn⟩ := esB_yes he
      have hok := (vpsB_iff.1 hvv).1
      have hrm2 := rng_iff.1 hrm
      have hSv : S = shareGo (p :: t) d rm rm 0 := by rw [← hS]; simp [esV, he]
      obtain ⟨h1, h2⟩ := share_room (p := p) (t := t) (rm := rm) hok hex hrm2.1
      rw [hdn, ← hSv] at h1 h2
      have h0 : 0 ≤ S := by
        rw [hSv, shareGo_same hdn hex]
        exact (shareGo_bd (fun q hq => hok q (List.mem_cons_of_mem _ hq)) hrm2.1 hrm2.2 (by have := Pk.need_bd (hok p List.mem_cons_self) d; omega) (by omega)).1
      have m := mx_spec (rm - reqD (p :: t) d) 0
      obtain ⟨q1, q2⟩ := reqD_bd hok d
      have h7 := (vpsB_iff.1 hvv).2
      obtain ⟨⟨a, b⟩, hr⟩ : ∃ x, reqP (p :: t) = x := ⟨_, rfl⟩
      have hreq : reqM (p :: t) = (a, b) := by rw [← hr]; simp [reqP, hvv]
      have hD : reqD (p :: t) d = if d then b else a := by unfold reqD; rw [hreq]
      obtain ⟨R, hR⟩ : ∃ R, reqD (p :: t) d = R := ⟨_, rfl⟩
      rw [hR] at h2 m q1 q2 hD
      have hb3 : R ≤ rm → S ≤ rm - R := fun h => by omega
      have HS3 := Lib.hid hb3
      have HR := Lib.hid hr
      have hS0 : decide (S < 0) = false := by simp; omega
      obtain ⟨len, hle⟩ : ∃ len, (p :: t).length = len := ⟨_, rfl⟩
      rw [hle] at q2 h7 hL
      rw [hle]
      have HLE := Lib.hid hle
      have HD := Lib.hid hD
      clear hS hok hSv hex hdn h2 m hreq hD hb3 hR hr he hvv hle hrm
      go_wp2_with fail
      with_reducible refine ((by rw [← HLE.out]; exact ES_c A' c' _ rm d _ HP.out (by rw [HLE.out]; exact hL) _ HS.out) : Calls Try.prog 16 #[.slice A' len c', .int .i64 rm, .bool d] _ fun e w' => e = .returned (.int .i64 S) ∧ Below _ _ w').mono ?_
      rintro e w2 ⟨rfl, hb2⟩
      replace HP := Lib.hid (HP.out.keep hb2)
      replace HB := Lib.hid (bkeep2 HB.out hb2)
      clear hb2
      go_wp2_with fail
      with_reducible refine ((by rw [← HLE.out]; exact sES_c A' c' _ rm d _ HP.out (by rw [HLE.out]; exact hL) _ HS.out) : Calls Try.prog 17 #[.slice A' len c', .int .i64 rm, .bool d] _ fun e w' => e = .returned (.int .i64 S) ∧ Below _ _ w').mono ?_
      rintro e w3 ⟨rfl, hb3⟩
      replace HP := Lib.hid (HP.out.keep hb3)
      replace HB := Lib.hid (bkeep2 HB.out hb3)
      clear hb3
      go_wp2_with fail
      with_reducible refine (PackRequest_c A' c' _ _ _ HP.out HLE.out.symm hL a b HR.out).mono ?_
      rintro e w4 ⟨rfl, hb4⟩
      replace HP := Lib.hid (HP.out.keep hb4)
      replace HB := Lib.hid (bkeep2 HB.out hb4)
      clear hb4
      cases d
      · have hRa : R = a := by have := HD.out; simpa using this
        subst hRa
        by_cases hlt : rm < R
        · have d1 : decide (rm < R) = true := by simpa using hlt
          have d2 : decide (S ≤ rm) = true := by simpa using h1
          go_wp2
          go_ret
          exact ⟨rfl, HB.out⟩
        · have d1 : decide (rm < R) = false := by simpa using hlt
          have d2 : decide (S ≤ rm - R) = true := by have := HS3.out (by omega); simpa using this
          go_wp2
          go_ret
          exact ⟨rfl, HB.out⟩
      · have hRa : R = b := by have := HD.out; simpa using this
        subst hRa
        by_cases hlt : rm < R
        · have d1 : decide (rm < R) = true := by simpa using hlt
          have d2 : decide (S ≤ rm) = true := by simpa using h1
          go_wp2
          go_ret
          exact ⟨rfl, HB.out⟩
        · have d1 : decide (rm < R) = false := by simpa using hlt
          have d2 : decide (S ≤ rm - R) = true := by have := HS3.out (by omega); simpa using this
          go_wp2
          go_ret
          exact ⟨rfl, HB.out⟩
  · have hl1 : (1048576 : Int) < n := by omega
    go_enter Try.func5, Try.ntmps5
    go_wp2
    go_ret
    exact ⟨rfl, Below.refl _ _⟩
set_option maxRecDepth 100000 in
theorem lifted (os : Os) (started : os.Started) (H : Type) (enc : TypeId × Value → H) :
    ReturnsInHanded {} Try.checked os 5 .any (Rows.fnExpandShareSpec.pre6 enc Try.prog Try.f5 Rows.fnExpandShareRow.domain false) (Rows.fnExpandShareSpec.post enc Try.prog Try.f5 false true false false) := by
  refine returnsInHanded_of_change (C := Try.checked) own started (by kernel_rfl) Try.func5
    (ChangeSpec.witness6 (enc := enc) (C := Try.checked) false ⟨#[], #[.slice none 0 0], []⟩ 8 (by kernel_rfl) (by kernel_rfl) (by kernel_rfl) (by kernel_rfl)) ?_
  intro W base args ds gs before hval0 hW hcnd _
  have hval : ∀ (j : Nat) t v, Try.f5.params[j]? = some t → args[j]? = some v → Value.okWide Try.prog W .any base t v := hval0
  have hW' := hW
  obtain ⟨p, q, hA0, hV, rfl, hfz, hnd⟩ := hW
  have hA : DataW.TrodAll enc Try.prog W 0 (fun _ => true) true Try.f5.params.toList args.toList ds p := hA0
  rw [Try.params5] at hA hval
  obtain ⟨v0, vs0, d0, ds0, p0, q0, hargs, rfl, rfl, h0, r0⟩ := trodAll_cons hA
  obtain ⟨rfl, rfl, rfl⟩ := trodAll_nil r0
  obtain rfl : args = #[v0] := by cases args; simp_all
  obtain ⟨rfl, rfl⟩ := trodVars_none hV
  have k0 := h0
  have lt0 : ∀ x ∈ p0, x.block < W.heap.size := by obtain ⟨m, hm⟩ := k0; exact DataW.trod_lt m _ _ _ hm
  obtain ⟨a0, len0, cap0, rfl⟩ := okWide_slice Try.underlying22 (hval 0 22 v0 rfl rfl)
  obtain ⟨z0, wz0⟩ : ∃ zs, IsRow .u8 W a0 len0 cap0 zs := by
    obtain ⟨fuel, hf⟩ := h0
    rcases open_ints Try.underlying22 Try.underlying5 (by kernel_rfl) hf with ⟨hcs, _⟩ | ⟨x, l, c, zs, hcs, _, hl, hm, hz, _, hcell, hwz⟩
    · simp [Value.cells] at hcs
      obtain ⟨rfl, rfl, rfl⟩ := hcs
      exact ⟨[], .inl ⟨rfl, rfl, rfl, rfl⟩⟩
    · simp [Value.cells] at hcs
      obtain ⟨rfl, rfl, rfl⟩ := hcs
      exact ⟨zs, .inr ⟨_, rfl, hl, hm, by simpa using hz, hcell, hwz⟩⟩
  clear hA0 hval0
  refine (walk a0 len0 cap0 z0 W wz0).mono fun e W' ⟨he, bel⟩ => ?_
  subst he
  exact ⟨_, rfl, _, _, _, [], _, [], hW', trodAll_mk1 (shut_bool Try.underlying4 _), (trodAll_cons_mk (Below.trod laidOut (by kernel_rfl) (of_decide_eq_true (by kernel_rfl)) k0 bel lt0) trodAll_mk0), rfl, bel.frame _, fun h => by cases h⟩
theorem over : Rows.fnExpandShareRow.holds Try.pinned (OpenSpec.ofChange Rows.fnExpandShareSpec) :=
  OpenClaim.holds_of_wide 5 Try.f5 rfl rfl rfl rfl rfl rfl rfl ⟨rfl, rfl, rfl, rfl, rfl⟩ rfl rfl rfl rfl rfl (by kernel_rfl) Try.func5 (by kernel_rfl)
    (of_decide_eq_true (by kernel_rfl)) (by unfold Func.isWrapper; first | (rw [if_pos (by decide +kernel)]; kernel_rfl) | (rw [if_neg (by decide +kernel)]; exact ⟨rfl, rfl⟩))
    (fun os started H enc _ => lifted os started H enc)
theorem proved : Rows.FnExpandShareSaid := over
end Go.Proofs.Ytjdjahckdgbkbac.lExpandShare
