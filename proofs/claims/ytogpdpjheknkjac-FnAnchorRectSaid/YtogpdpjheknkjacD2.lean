import Derived.Test.YtogpdpjheknkjacC
import Derived.Test.YtogpdpjheknkjacIfV
import Derived.Test.YtogpdpjheknkjacMath3
namespace Go.Proofs.Ytogpdpjheknkjac
open Go.RowKit
set_option linter.unusedVariables false
attribute [local go_sem 5000] run_mx run_mn run_eqlR run_neqR
attribute [local go_sem] growUpon_value growUpon_skip growUpon_enter
set_option maxHeartbeats 1000000
set_option maxRecDepth 100000 in
theorem cover_any (x y u v x' y' u' v' : Int) (w : World) (h1 : vr x y u v = true) (h2 : vr x' y' u' v' = true) :
    Calls Try.prog 65 #[.agg #[.int .i64 (x), .int .i64 (y), .int .i64 (u), .int .i64 (v)], .agg #[.int .i64 (x'), .int .i64 (y'), .int .i64 (u'), .int .i64 (v')]] w fun e w' => e = .returned (.agg #[.int .i64 (mn x x'), .int .i64 (mn y y'), .int .i64 (mx (x + u) (x' + u') - mn x x'), .int .i64 (mx (y + v) (y' + v') - mn y y')]) ∧ Below w.heap.size w w' := by
  obtain ⟨m1, m2, m3, m4, m5, m6, m7, m8⟩ := cover_bds h1 h2
  have S1 := Sm_vr h1
  have S2 := Sm_vr h2
  have S3 : Sm (mn x x') (mn y y') (mx (x + u) (x' + u')) (mx (y + v) (y' + v')) := Sm_of (by omega)
  clear m1 m2 m3 m4 m5 m6 m7 m8 h1 h2
  go_enter Try.func65, Try.ntmps65
  go_wp2_with fail
  refine wp_region_grow 21 1 (· < 21) (by kernel_rfl) (by kernel_rfl) rfl ?_
  iterate 21 (refine wpG_step (fun K hK => ?_); apply Exists.intro; refine ⟨.inl ⟨rfl, fun w' hw' => ?_⟩, ?_⟩; (focus ((obtain ⟨hc, hf⟩ := bcell hw'.out); (have hcS := bcellS hw'.out); go_simp <;> first | rfl | (go_at_call 76; exact right_any _ _ _ _ _ (by assumption)) | (go_at_call 77; exact bottom_any _ _ _ _ _ (by assumption)) | (go_at_call 75; exact corners_any _ _ _ _ _ (by assumption)))); (go_simp; refine hK _ ?_; clear hK K))
  refine wpG_nil ?_
  refine wpK_tail (by kernel_rfl) (fun wt1 ht1 => ?_)
  obtain ⟨hct1, hft1⟩ := bcell ht1.out
  refine wpAny_one (i := 21) (by kernel_rfl) rfl rfl ?_
  go_simp
  refine wpAny_end (by kernel_rfl) ?_
  refine NoPan.thn ?_
  go_wp2
  exact bodyPost_ret (v := .agg #[.int .i64 (mn x x'), .int .i64 (mn y y'), .int .i64 (mx (x + u) (x' + u') - mn x x'), .int .i64 (mx (y + v) (y' + v') - mn y y')]) (by simp only [results, Try.results65]; go_simp) rfl ⟨rfl, (by repeat (first | with_reducible exact Below.refl _ _ | with_reducible assumption | with_reducible refine balloc ?_ | (with_reducible refine bset ?_ ?_; rotate_left; ((try dsimp only); omega)) | refine bkeep2 ?_ (by assumption) | with_reducible refine Below.drew ?_))⟩
set_option maxRecDepth 100000 in
theorem holds_any (x y u v x' y' u' v' : Int) (w : World) (h1 : vr x y u v = true) (h2 : vr x' y' u' v' = true) :
    Calls Try.prog 56 #[.agg #[.int .i64 (x), .int .i64 (y), .int .i64 (u), .int .i64 (v)], .agg #[.int .i64 (x'), .int .i64 (y'), .int .i64 (u'), .int .i64 (v')]] w fun e w' => e = .returned (.bool (insB x y u v x' y' u' v')) ∧ Below w.heap.size w w' := by
  go_enter Try.func56, Try.ntmps56
  go_wp2_with fail
  refine wp_region_grow 5 1 (· < 5) (by kernel_rfl) (by kernel_rfl) rfl ?_
  iterate 5 (refine wpG_step (fun K hK => ?_); apply Exists.intro; refine ⟨.inl ⟨rfl, fun w' hw' => ?_⟩, ?_⟩; (focus ((obtain ⟨hc, hf⟩ := bcell hw'.out); (have hcS := bcellS hw'.out); go_simp <;> first | rfl | (go_at_call 65; exact cover_any _ _ _ _ _ _ _ _ _ h1 h2))); (go_simp; refine hK _ ?_; clear hK K))
  refine wpG_nil ?_
  refine wpK_tail (by kernel_rfl) (fun wt1 ht1 => ?_)
  obtain ⟨hct1, hft1⟩ := bcell ht1.out
  refine wpAny_one (i := 5) (by kernel_rfl) rfl rfl ?_
  go_simp
  refine wpAny_end (by kernel_rfl) ?_
  refine NoPan.thn ?_
  go_wp2
  go_ret
  exact ⟨ret_bool (by rw [Bool.eq_iff_iff, eqR_iff, insB_iff]; exact holds_eq h1 h2), (by repeat (first | with_reducible exact Below.refl _ _ | with_reducible assumption | with_reducible refine balloc ?_ | (with_reducible refine bset ?_ ?_; rotate_left; ((try dsimp only); omega)) | refine bkeep2 ?_ (by assumption) | with_reducible refine Below.drew ?_))⟩
theorem CoverRects_yes (x y u v x' y' u' v' : Int) (w : World) (h : coverB x y u v x' y' u' v' = true) : Calls Try.prog 31 #[.agg #[.int .i64 (x), .int .i64 (y), .int .i64 (u), .int .i64 (v)], .agg #[.int .i64 (x'), .int .i64 (y'), .int .i64 (u'), .int .i64 (v')]] w fun e w' => e = .returned (.tuple #[.agg #[.int .i64 (mn x x'), .int .i64 (mn y y'), .int .i64 (mx (x + u) (x' + u') - mn x x'), .int .i64 (mx (y + v) (y' + v') - mn y y')], .bool true]) ∧ Below w.heap.size w w' := by
  obtain ⟨h1, h2, h3⟩ := coverB_yes h
  go_enter Try.func31, Try.ntmps31
  go_wp2_with (first | (go_at_call 22; refine (validRect_any _ _ _ _ _).mono ?_; rintro e w1 ⟨rfl, hb⟩; obtain ⟨hc, hf⟩ := bcell hb; (first | (replace hB := bkeep2 hB hb) | (replace hB := bkeep2 (balloc hB) hb) | (replace hB := bkeep2 (balloc (balloc hB)) hb) | have hB := hb); obtain ⟨hC, hF, hZ, hN⟩ := bcell4 hB; (try (have hlt := Nat.lt_of_lt_of_le hlt hb.size; have hne := Nat.ne_of_lt hlt)); (have hs0 := hb.size); (try simp only [World.size_alloc] at hs0); (try (have hlt := Nat.lt_of_succ_le hs0; have hne := Nat.ne_of_lt hlt))) | (go_at_call 65; refine (cover_any _ _ _ _ _ _ _ _ _ h1 h2).mono ?_; rintro e w1 ⟨rfl, hb⟩; obtain ⟨hc, hf⟩ := bcell hb; (first | (replace hB := bkeep2 hB hb) | (replace hB := bkeep2 (balloc hB) hb) | (replace hB := bkeep2 (balloc (balloc hB)) hb) | have hB := hb); obtain ⟨hC, hF, hZ, hN⟩ := bcell4 hB; (try (have hlt := Nat.lt_of_lt_of_le hlt hb.size; have hne := Nat.ne_of_lt hlt)); (have hs0 := hb.size); (try simp only [World.size_alloc] at hs0); (try (have hlt := Nat.lt_of_succ_le hs0; have hne := Nat.ne_of_lt hlt))) | (go_at_call 64; refine (ifValid_yes _ _ _ _ _ h3).mono ?_; rintro e w1 ⟨rfl, hb⟩; obtain ⟨hc, hf⟩ := bcell hb; (first | (replace hB := bkeep2 hB hb) | (replace hB := bkeep2 (balloc hB) hb) | (replace hB := bkeep2 (balloc (balloc hB)) hb) | have hB := hb); obtain ⟨hC, hF, hZ, hN⟩ := bcell4 hB; (try (have hlt := Nat.lt_of_lt_of_le hlt hb.size; have hne := Nat.ne_of_lt hlt)); (have hs0 := hb.size); (try simp only [World.size_alloc] at hs0); (try (have hlt := Nat.lt_of_succ_le hs0; have hne := Nat.ne_of_lt hlt))))
  exact bodyPost_ret (v := .tuple #[.agg #[.int .i64 (mn x x'), .int .i64 (mn y y'), .int .i64 (mx (x + u) (x' + u') - mn x x'), .int .i64 (mx (y + v) (y' + v') - mn y y')], .bool true]) (by simp only [results, Try.results31]; go_simp) rfl ⟨rfl, (by repeat (first | with_reducible exact Below.refl _ _ | with_reducible assumption | with_reducible refine balloc ?_ | (with_reducible refine bset ?_ ?_; rotate_left; ((try dsimp only); omega)) | refine bkeep2 ?_ (by assumption) | with_reducible refine Below.drew ?_))⟩
theorem CoverRects_no (x y u v x' y' u' v' : Int) (w : World) (h : coverB x y u v x' y' u' v' = false) : Calls Try.prog 31 #[.agg #[.int .i64 (x), .int .i64 (y), .int .i64 (u), .int .i64 (v)], .agg #[.int .i64 (x'), .int .i64 (y'), .int .i64 (u'), .int .i64 (v')]] w fun e w' => e = .returned (.tuple #[.agg #[.int .i64 (0), .int .i64 (0), .int .i64 (0), .int .i64 (0)], .bool false]) ∧ Below w.heap.size w w' := by
  cases h1 : vr x y u v
  · go_enter Try.func31, Try.ntmps31
    go_wp2_with (first | (go_at_call 22; refine (validRect_any _ _ _ _ _).mono ?_; rintro e w1 ⟨rfl, hb⟩; obtain ⟨hc, hf⟩ := bcell hb; (first | (replace hB := bkeep2 hB hb) | (replace hB := bkeep2 (balloc hB) hb) | (replace hB := bkeep2 (balloc (balloc hB)) hb) | have hB := hb); obtain ⟨hC, hF, hZ, hN⟩ := bcell4 hB; (try (have hlt := Nat.lt_of_lt_of_le hlt hb.size; have hne := Nat.ne_of_lt hlt)); (have hs0 := hb.size); (try simp only [World.size_alloc] at hs0); (try (have hlt := Nat.lt_of_succ_le hs0; have hne := Nat.ne_of_lt hlt))))
    exact bodyPost_ret (v := .tuple #[.agg #[.int .i64 (0), .int .i64 (0), .int .i64 (0), .int .i64 (0)], .bool false]) (by simp only [results, Try.results31]; go_simp) rfl ⟨rfl, (by repeat (first | with_reducible exact Below.refl _ _ | with_reducible assumption | with_reducible refine balloc ?_ | (with_reducible refine bset ?_ ?_; rotate_left; ((try dsimp only); omega)) | refine bkeep2 ?_ (by assumption) | with_reducible refine Below.drew ?_))⟩
  · cases h2 : vr x' y' u' v'
    · go_enter Try.func31, Try.ntmps31
      go_wp2_with (first | (go_at_call 22; refine (validRect_any _ _ _ _ _).mono ?_; rintro e w1 ⟨rfl, hb⟩; obtain ⟨hc, hf⟩ := bcell hb; (first | (replace hB := bkeep2 hB hb) | (replace hB := bkeep2 (balloc hB) hb) | (replace hB := bkeep2 (balloc (balloc hB)) hb) | have hB := hb); obtain ⟨hC, hF, hZ, hN⟩ := bcell4 hB; (try (have hlt := Nat.lt_of_lt_of_le hlt hb.size; have hne := Nat.ne_of_lt hlt)); (have hs0 := hb.size); (try simp only [World.size_alloc] at hs0); (try (have hlt := Nat.lt_of_succ_le hs0; have hne := Nat.ne_of_lt hlt))))
      exact bodyPost_ret (v := .tuple #[.agg #[.int .i64 (0), .int .i64 (0), .int .i64 (0), .int .i64 (0)], .bool false]) (by simp only [results, Try.results31]; go_simp) rfl ⟨rfl, (by repeat (first | with_reducible exact Below.refl _ _ | with_reducible assumption | with_reducible refine balloc ?_ | (with_reducible refine bset ?_ ?_; rotate_left; ((try dsimp only); omega)) | refine bkeep2 ?_ (by assumption) | with_reducible refine Below.drew ?_))⟩
    · have h3 := coverB_no h h1 h2
      go_enter Try.func31, Try.ntmps31
      go_wp2_with (first | (go_at_call 22; refine (validRect_any _ _ _ _ _).mono ?_; rintro e w1 ⟨rfl, hb⟩; obtain ⟨hc, hf⟩ := bcell hb; (first | (replace hB := bkeep2 hB hb) | (replace hB := bkeep2 (balloc hB) hb) | (replace hB := bkeep2 (balloc (balloc hB)) hb) | have hB := hb); obtain ⟨hC, hF, hZ, hN⟩ := bcell4 hB; (try (have hlt := Nat.lt_of_lt_of_le hlt hb.size; have hne := Nat.ne_of_lt hlt)); (have hs0 := hb.size); (try simp only [World.size_alloc] at hs0); (try (have hlt := Nat.lt_of_succ_le hs0; have hne := Nat.ne_of_lt hlt))) | (go_at_call 65; refine (cover_any _ _ _ _ _ _ _ _ _ h1 h2).mono ?_; rintro e w1 ⟨rfl, hb⟩; obtain ⟨hc, hf⟩ := bcell hb; (first | (replace hB := bkeep2 hB hb) | (replace hB := bkeep2 (balloc hB) hb) | (replace hB := bkeep2 (balloc (balloc hB)) hb) | have hB := hb); obtain ⟨hC, hF, hZ, hN⟩ := bcell4 hB; (try (have hlt := Nat.lt_of_lt_of_le hlt hb.size; have hne := Nat.ne_of_lt hlt)); (have hs0 := hb.size); (try simp only [World.size_alloc] at hs0); (try (have hlt := Nat.lt_of_succ_le hs0; have hne := Nat.ne_of_lt hlt))) | (go_at_call 64; refine (ifValid_no _ _ _ _ _ h3).mono ?_; rintro e w1 ⟨rfl, hb⟩; obtain ⟨hc, hf⟩ := bcell hb; (first | (replace hB := bkeep2 hB hb) | (replace hB := bkeep2 (balloc hB) hb) | (replace hB := bkeep2 (balloc (balloc hB)) hb) | have hB := hb); obtain ⟨hC, hF, hZ, hN⟩ := bcell4 hB; (try (have hlt := Nat.lt_of_lt_of_le hlt hb.size; have hne := Nat.ne_of_lt hlt)); (have hs0 := hb.size); (try simp only [World.size_alloc] at hs0); (try (have hlt := Nat.lt_of_succ_le hs0; have hne := Nat.ne_of_lt hlt))))
      exact bodyPost_ret (v := .tuple #[.agg #[.int .i64 (0), .int .i64 (0), .int .i64 (0), .int .i64 (0)], .bool false]) (by simp only [results, Try.results31]; go_simp) rfl ⟨rfl, (by repeat (first | with_reducible exact Below.refl _ _ | with_reducible assumption | with_reducible refine balloc ?_ | (with_reducible refine bset ?_ ?_; rotate_left; ((try dsimp only); omega)) | refine bkeep2 ?_ (by assumption) | with_reducible refine Below.drew ?_))⟩
theorem InsideRect_any (x y u v x' y' u' v' : Int) (w : World) : Calls Try.prog 23 #[.agg #[.int .i64 (x), .int .i64 (y), .int .i64 (u), .int .i64 (v)], .agg #[.int .i64 (x'), .int .i64 (y'), .int .i64 (u'), .int .i64 (v')]] w fun e w' => e = .returned (.bool (vr x y u v && (vr x' y' u' v' && insB x y u v x' y' u' v'))) ∧ Below w.heap.size w w' := by
  cases h1 : vr x y u v
  · go_enter Try.func23, Try.ntmps23
    go_wp2_with (first | (go_at_call 22; refine (validRect_any _ _ _ _ _).mono ?_; rintro e w1 ⟨rfl, hb⟩; obtain ⟨hc, hf⟩ := bcell hb; (first | (replace hB := bkeep2 hB hb) | (replace hB := bkeep2 (balloc hB) hb) | (replace hB := bkeep2 (balloc (balloc hB)) hb) | have hB := hb); obtain ⟨hC, hF, hZ, hN⟩ := bcell4 hB; (try (have hlt := Nat.lt_of_lt_of_le hlt hb.size; have hne := Nat.ne_of_lt hlt)); (have hs0 := hb.size); (try simp only [World.size_alloc] at hs0); (try (have hlt := Nat.lt_of_succ_le hs0; have hne := Nat.ne_of_lt hlt))))
    go_ret
    exact ⟨ret_bool (by simp), (by repeat (first | with_reducible exact Below.refl _ _ | with_reducible assumption | with_reducible refine balloc ?_ | (with_reducible refine bset ?_ ?_; rotate_left; ((try dsimp only); omega)) | refine bkeep2 ?_ (by assumption) | with_reducible refine Below.drew ?_))⟩
  · cases h2 : vr x' y' u' v'
    · go_enter Try.func23, Try.ntmps23
      go_wp2_with (first | (go_at_call 22; refine (validRect_any _ _ _ _ _).mono ?_; rintro e w1 ⟨rfl, hb⟩; obtain ⟨hc, hf⟩ := bcell hb; (first | (replace hB := bkeep2 hB hb) | (replace hB := bkeep2 (balloc hB) hb) | (replace hB := bkeep2 (balloc (balloc hB)) hb) | have hB := hb); obtain ⟨hC, hF, hZ, hN⟩ := bcell4 hB; (try (have hlt := Nat.lt_of_lt_of_le hlt hb.size; have hne := Nat.ne_of_lt hlt)); (have hs0 := hb.size); (try simp only [World.size_alloc] at hs0); (try (have hlt := Nat.lt_of_succ_le hs0; have hne := Nat.ne_of_lt hlt))))
      go_ret
      exact ⟨ret_bool (by simp), (by repeat (first | with_reducible exact Below.refl _ _ | with_reducible assumption | with_reducible refine balloc ?_ | (with_reducible refine bset ?_ ?_; rotate_left; ((try dsimp only); omega)) | refine bkeep2 ?_ (by assumption) | with_reducible refine Below.drew ?_))⟩
    · go_enter Try.func23, Try.ntmps23
      go_wp2_with (first | (go_at_call 22; refine (validRect_any _ _ _ _ _).mono ?_; rintro e w1 ⟨rfl, hb⟩; obtain ⟨hc, hf⟩ := bcell hb; (first | (replace hB := bkeep2 hB hb) | (replace hB := bkeep2 (balloc hB) hb) | (replace hB := bkeep2 (balloc (balloc hB)) hb) | have hB := hb); obtain ⟨hC, hF, hZ, hN⟩ := bcell4 hB; (try (have hlt := Nat.lt_of_lt_of_le hlt hb.size; have hne := Nat.ne_of_lt hlt)); (have hs0 := hb.size); (try simp only [World.size_alloc] at hs0); (try (have hlt := Nat.lt_of_succ_le hs0; have hne := Nat.ne_of_lt hlt))) | (go_at_call 56; refine (holds_any _ _ _ _ _ _ _ _ _ h1 h2).mono ?_; rintro e w1 ⟨rfl, hb⟩; obtain ⟨hc, hf⟩ := bcell hb; (first | (replace hB := bkeep2 hB hb) | (replace hB := bkeep2 (balloc hB) hb) | (replace hB := bkeep2 (balloc (balloc hB)) hb) | have hB := hb); obtain ⟨hC, hF, hZ, hN⟩ := bcell4 hB; (try (have hlt := Nat.lt_of_lt_of_le hlt hb.size; have hne := Nat.ne_of_lt hlt)); (have hs0 := hb.size); (try simp only [World.size_alloc] at hs0); (try (have hlt := Nat.lt_of_succ_le hs0; have hne := Nat.ne_of_lt hlt))))
      go_ret
      exact ⟨ret_bool (by simp), (by repeat (first | with_reducible exact Below.refl _ _ | with_reducible assumption | with_reducible refine balloc ?_ | (with_reducible refine bset ?_ ?_; rotate_left; ((try dsimp only); omega)) | refine bkeep2 ?_ (by assumption) | with_reducible refine Below.drew ?_))⟩
end Go.Proofs.Ytogpdpjheknkjac
