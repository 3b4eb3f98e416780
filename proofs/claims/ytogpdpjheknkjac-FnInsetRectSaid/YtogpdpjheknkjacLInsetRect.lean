/- FnInsetRect: for every code the law returns true. No condition. -/
import Derived.Test.YtogpdpjheknkjacFr
import Derived.Test.YtogpdpjheknkjacKB
import Derived.Test.YtogpdpjheknkjacKC
import Derived.Test.YtogpdpjheknkjacG5
namespace Go.Proofs.Ytogpdpjheknkjac.lInsetRect
open Go.ChangeShapes Go.WideShapes Go.ChangeAt Go.RowKit Go.Joins
set_option linter.unusedVariables false
attribute [local go_sem 5000] run_mx run_mn run_eqlR run_neqR
attribute [local go_sem] growUpon_value growUpon_skip growUpon_enter
set_option maxHeartbeats 1000000
theorem insetF {x y u v p q : Int} (h : inB x y u v p q = true) : ∃ X Y U V : Int, (x + mn p (u / 2) = X ∧ y + mn q (v / 2) = Y ∧ mx (u - 2 * p) 0 = U ∧ mx (v - 2 * q) 0 = V) ∧
    (inB x y u v 0 0 = true ∧ x + mn 0 (u / 2) = x ∧ y + mn 0 (v / 2) = y ∧ mx (u - 2 * 0) 0 = u ∧ mx (v - 2 * 0) 0 = v) ∧ vr x y u v = true ∧ (vr x y u v && (vr X Y U V && insB x y u v X Y U V)) = true ∧ mx 0 (u - 2 * p) = U ∧ mx 0 (v - 2 * q) = V ∧ (0 ≤ p ∧ p ≤ 10) ∧ (0 ≤ q ∧ q ≤ 10) := by
  obtain ⟨h1, h2, h3⟩ := inB_yes h
  obtain ⟨a1, a2, a3, a4, a5, a6, a7, a8⟩ := vr_iff.1 h1
  rw [rng_iff] at h2 h3
  have m1 := mn_spec p (u / 2)
  have m2 := mn_spec q (v / 2)
  have m3 := mx_spec (u - 2 * p) 0
  have m4 := mx_spec (v - 2 * q) 0
  have m5 := mn_spec 0 (u / 2)
  have m6 := mn_spec 0 (v / 2)
  have m7 := mx_spec (u - 2 * 0) 0
  have m8 := mx_spec (v - 2 * 0) 0
  have m9 := mx_spec 0 (u - 2 * p)
  have m10 := mx_spec 0 (v - 2 * q)
  refine ⟨_, _, _, _, ⟨rfl, rfl, rfl, rfl⟩, ⟨by simp [inB, h1, rng], by omega, by omega, by omega, by omega⟩, h1, ?_, by omega, by omega, h2, h3⟩
  rw [Bool.and_eq_true, Bool.and_eq_true, vr_iff, vr_iff, insB_iff]; omega
theorem inset5 {x y u v p q : Int} (h : inB x y u v p q = false) : vr x y u v = false ∨ (vr x y u v = true ∧ p < 0) ∨ (vr x y u v = true ∧ 0 ≤ p ∧ 10 < p) ∨ (vr x y u v = true ∧ (0 ≤ p ∧ p ≤ 10) ∧ q < 0) ∨ (vr x y u v = true ∧ (0 ≤ p ∧ p ≤ 10) ∧ 0 ≤ q ∧ 10 < q) := by
  cases h1 : vr x y u v
  · exact .inl rfl
  · have h2 : ¬ (rng p 0 10 = true ∧ rng q 0 10 = true) := fun ⟨a, b⟩ => by simp [inB, h1, a, b] at h
    rw [rng_iff, rng_iff] at h2
    by_cases a : p < 0
    · exact .inr (.inl ⟨rfl, a⟩)
    · by_cases b : 10 < p
      · exact .inr (.inr (.inl ⟨rfl, by omega, b⟩))
      · by_cases c : q < 0
        · exact .inr (.inr (.inr (.inl ⟨rfl, by omega, c⟩)))
        · exact .inr (.inr (.inr (.inr ⟨rfl, by omega, by omega, by omega⟩)))
set_option maxRecDepth 100000 in
theorem walk (A : Option Addr) (n c : Nat) (z : List Int) (w : World) (wz : IsRow .u8 w A n c z) : Calls Try.prog 6 #[.slice A n c] w fun e w' => e = .returned (.bool true) ∧ Below w.heap.size w w' := by
  obtain ⟨hb, hn, hc⟩ := wz.bts
  clear wz
  by_cases hlen : n ≤ 1048576
  · have hl1 : ¬ (1048576 : Int) < n := by omega
    go_enter Try.func6, Try.ntmps6
    go_wp2_with fail
    with_reducible refine (DrawInsetRect_any A n c _ hb hn hc).mono ?_
    rintro e w1 ⟨⟨x, y, u, v, p, q, rfl⟩, hB⟩
    have hX := BX.nil w1
    cases h : inB x y u v p q
    · skip
      rcases inset5 h with hv | ⟨hv, hp⟩ | ⟨hv, hp, hp'⟩ | ⟨hv, ⟨hp, hp'⟩, hq⟩ | ⟨hv, ⟨hp, hp'⟩, hq, hq'⟩
      · skip
        have HX := Lib.hid hX
        have HB := Lib.hid hB
        clear hX hB
        go_wp2_with fail
        with_reducible refine (InsetRect_no x y u v p q _ h).mono ?_
        rintro e w2 ⟨rfl, hb2⟩
        have hX := (HX.out.alloc _).below hb2
        have hB := bkeep2 (balloc' HB.out) hb2
        clear HX HB hb2
        try simp only [World.size_alloc] at hX
        have hY := hX
        obtain ⟨b0_0, b0_1, b0_2, b0_3, -⟩ := b4 hY.head
        have bl0 := lt_of_heap hY.head
        have bn0 := Nat.ne_of_lt bl0
        have bm0 := Nat.ne_of_lt (Nat.lt_succ_of_lt bl0)
        simp only [Nat.succ_eq_add_one] at bm0
        clear hY
        have HX := Lib.hid hX
        have HB := Lib.hid hB
        clear hX hB
        go_wp2_with fail
        refine wp_region_grow 28 0 (· < 28) (by kernel_rfl) (by kernel_rfl) rfl ?_
        iterate 28 (refine wpG_step (fun K hK => ?_); first | (refine grow_skip rfl ?_; go_simp; refine hK _ ?_; clear hK K) | (apply Exists.intro; refine ⟨.inl ⟨rfl, fun w' hw' => ?_⟩, ?_⟩; (focus ((obtain ⟨hc, hf⟩ := bcell hw'.out); (have hcS := bcellS hw'.out); go_simp <;> first | rfl | (go_at_call 21; exact sInsetRect_no x y u v p q _ h) | (go_at_call 20; exact equalRect_same 0 0 0 0 _) | (go_at_call 22; exact vr_b x y u v false hv _))); (go_simp; refine hK _ ?_; clear hK K)))
        refine wpG_nil ?_
        refine wpK_tail (by kernel_rfl) (fun w3 hg3 => ?_)
        refine wpAny_end (by kernel_rfl) ?_
        refine NoPan.thn ?_
        clear b0_0 b0_1 b0_2 b0_3 bl0 bn0 bm0
        have hb3 := hg3.out
        have hX := BX.below (BX.drew (HX.out.alloc _)) hb3
        have hB := bkeep2 (Below.drew (balloc' HB.out)) hb3
        clear HX HB hb3 hg3
        try simp only [World.size_alloc] at hX
        have hY := hX
        obtain ⟨b0_0, b0_1, b0_2, b0_3, -⟩ := b4 hY.head
        have bl0 := lt_of_heap hY.head
        have bn0 := Nat.ne_of_lt bl0
        have bm0 := Nat.ne_of_lt (Nat.lt_succ_of_lt bl0)
        simp only [Nat.succ_eq_add_one] at bm0
        replace hY := hY.tail
        obtain ⟨b1_0, b1_1, b1_2, b1_3, -⟩ := b4 hY.head
        have bl1 := lt_of_heap hY.head
        have bn1 := Nat.ne_of_lt bl1
        have bm1 := Nat.ne_of_lt (Nat.lt_succ_of_lt bl1)
        simp only [Nat.succ_eq_add_one] at bm1
        clear hY
        have HX := Lib.hid hX
        have HB := Lib.hid hB
        clear hX hB
        go_wp2_with fail
        refine wp_region_grow 6 1 (· < 6) (by kernel_rfl) (by kernel_rfl) rfl ?_
        iterate 6 (refine wpG_step (fun K hK => ?_); first | (refine grow_skip rfl ?_; go_simp; refine hK _ ?_; clear hK K) | (apply Exists.intro; refine ⟨.inl ⟨rfl, fun w' hw' => ?_⟩, ?_⟩; (focus ((obtain ⟨hc, hf⟩ := bcell hw'.out); (have hcS := bcellS hw'.out); go_simp <;> first | rfl | (go_at_call 21; exact sInsetRect_no x y u v p q _ h) | (go_at_call 20; exact equalRect_same 0 0 0 0 _) | (go_at_call 22; exact vr_b x y u v false hv _))); (go_simp; refine hK _ ?_; clear hK K)))
        refine wpG_nil ?_
        refine wpK_tail (by kernel_rfl) (fun w4 hg4 => ?_)
        refine wpAny_one (i := 6) (by kernel_rfl) rfl rfl ?_
        go_simp
        refine wpAny_end (by kernel_rfl) ?_
        refine NoPan.thn ?_
        clear b0_0 b0_1 b0_2 b0_3 b1_0 b1_1 b1_2 b1_3 bl0 bn0 bm0 bl1 bn1 bm1
        have hb4 := hg4.out
        have hX := BX.below (BX.drew HX.out) hb4
        have hB := bkeep2 (Below.drew HB.out) hb4
        clear HX HB hb4 hg4
        try simp only [World.size_alloc] at hX
        have hY := hX
        obtain ⟨b0_0, b0_1, b0_2, b0_3, -⟩ := b4 hY.head
        have bl0 := lt_of_heap hY.head
        have bn0 := Nat.ne_of_lt bl0
        have bm0 := Nat.ne_of_lt (Nat.lt_succ_of_lt bl0)
        simp only [Nat.succ_eq_add_one] at bm0
        replace hY := hY.tail
        obtain ⟨b1_0, b1_1, b1_2, b1_3, -⟩ := b4 hY.head
        have bl1 := lt_of_heap hY.head
        have bn1 := Nat.ne_of_lt bl1
        have bm1 := Nat.ne_of_lt (Nat.lt_succ_of_lt bl1)
        simp only [Nat.succ_eq_add_one] at bm1
        clear hY
        have HB := Lib.hid hB
        clear hX hB
        go_wp2
        all_goals go_ret
        all_goals exact ⟨ret_bool (by simp), HB.out⟩
      · skip
        have hd0 : decide (p < 0) = true := by simp; omega
        have HX := Lib.hid hX
        have HB := Lib.hid hB
        clear hX hB
        go_wp2_with fail
        with_reducible refine (InsetRect_no x y u v p q _ h).mono ?_
        rintro e w2 ⟨rfl, hb2⟩
        have hX := (HX.out.alloc _).below hb2
        have hB := bkeep2 (balloc' HB.out) hb2
        clear HX HB hb2
        try simp only [World.size_alloc] at hX
        have hY := hX
        obtain ⟨b0_0, b0_1, b0_2, b0_3, -⟩ := b4 hY.head
        have bl0 := lt_of_heap hY.head
        have bn0 := Nat.ne_of_lt bl0
        have bm0 := Nat.ne_of_lt (Nat.lt_succ_of_lt bl0)
        simp only [Nat.succ_eq_add_one] at bm0
        clear hY
        have HX := Lib.hid hX
        have HB := Lib.hid hB
        clear hX hB
        go_wp2_with fail
        refine wp_region_grow 28 0 (· < 28) (by kernel_rfl) (by kernel_rfl) rfl ?_
        iterate 28 (refine wpG_step (fun K hK => ?_); first | (refine grow_skip rfl ?_; go_simp; refine hK _ ?_; clear hK K) | (apply Exists.intro; refine ⟨.inl ⟨rfl, fun w' hw' => ?_⟩, ?_⟩; (focus ((obtain ⟨hc, hf⟩ := bcell hw'.out); (have hcS := bcellS hw'.out); go_simp <;> first | rfl | (go_at_call 21; exact sInsetRect_no x y u v p q _ h) | (go_at_call 20; exact equalRect_same 0 0 0 0 _) | (go_at_call 22; exact vr_b x y u v true hv _))); (go_simp; refine hK _ ?_; clear hK K)))
        refine wpG_nil ?_
        refine wpK_tail (by kernel_rfl) (fun w3 hg3 => ?_)
        refine wpAny_end (by kernel_rfl) ?_
        refine NoPan.thn ?_
        clear b0_0 b0_1 b0_2 b0_3 bl0 bn0 bm0
        have hb3 := hg3.out
        have hX := BX.below (BX.drew (HX.out.alloc _)) hb3
        have hB := bkeep2 (Below.drew (balloc' HB.out)) hb3
        clear HX HB hb3 hg3
        try simp only [World.size_alloc] at hX
        have hY := hX
        obtain ⟨b0_0, b0_1, b0_2, b0_3, -⟩ := b4 hY.head
        have bl0 := lt_of_heap hY.head
        have bn0 := Nat.ne_of_lt bl0
        have bm0 := Nat.ne_of_lt (Nat.lt_succ_of_lt bl0)
        simp only [Nat.succ_eq_add_one] at bm0
        replace hY := hY.tail
        obtain ⟨b1_0, b1_1, b1_2, b1_3, -⟩ := b4 hY.head
        have bl1 := lt_of_heap hY.head
        have bn1 := Nat.ne_of_lt bl1
        have bm1 := Nat.ne_of_lt (Nat.lt_succ_of_lt bl1)
        simp only [Nat.succ_eq_add_one] at bm1
        clear hY
        have HX := Lib.hid hX
        have HB := Lib.hid hB
        clear hX hB
        go_wp2_with fail
        refine wp_region_grow 6 1 (· < 6) (by kernel_rfl) (by kernel_rfl) rfl ?_
        iterate 6 (refine wpG_step (fun K hK => ?_); first | (refine grow_skip rfl ?_; go_simp; refine hK _ ?_; clear hK K) | (apply Exists.intro; refine ⟨.inl ⟨rfl, fun w' hw' => ?_⟩, ?_⟩; (focus ((obtain ⟨hc, hf⟩ := bcell hw'.out); (have hcS := bcellS hw'.out); go_simp <;> first | rfl | (go_at_call 21; exact sInsetRect_no x y u v p q _ h) | (go_at_call 20; exact equalRect_same 0 0 0 0 _) | (go_at_call 22; exact vr_b x y u v true hv _))); (go_simp; refine hK _ ?_; clear hK K)))
        refine wpG_nil ?_
        refine wpK_tail (by kernel_rfl) (fun w4 hg4 => ?_)
        refine wpAny_one (i := 6) (by kernel_rfl) rfl rfl ?_
        go_simp
        refine wpAny_end (by kernel_rfl) ?_
        refine NoPan.thn ?_
        clear b0_0 b0_1 b0_2 b0_3 b1_0 b1_1 b1_2 b1_3 bl0 bn0 bm0 bl1 bn1 bm1
        have hb4 := hg4.out
        have hX := BX.below (BX.drew HX.out) hb4
        have hB := bkeep2 (Below.drew HB.out) hb4
        clear HX HB hb4 hg4
        try simp only [World.size_alloc] at hX
        have hY := hX
        obtain ⟨b0_0, b0_1, b0_2, b0_3, -⟩ := b4 hY.head
        have bl0 := lt_of_heap hY.head
        have bn0 := Nat.ne_of_lt bl0
        have bm0 := Nat.ne_of_lt (Nat.lt_succ_of_lt bl0)
        simp only [Nat.succ_eq_add_one] at bm0
        replace hY := hY.tail
        obtain ⟨b1_0, b1_1, b1_2, b1_3, -⟩ := b4 hY.head
        have bl1 := lt_of_heap hY.head
        have bn1 := Nat.ne_of_lt bl1
        have bm1 := Nat.ne_of_lt (Nat.lt_succ_of_lt bl1)
        simp only [Nat.succ_eq_add_one] at bm1
        clear hY
        have HB := Lib.hid hB
        clear hX hB
        go_wp2
        all_goals go_ret
        all_goals exact ⟨ret_bool (by simp), HB.out⟩
      · skip
        have hd0 : decide (p < 0) = false := by simp; omega
        have hd1 : decide (10 < p) = true := by simp; omega
        have HX := Lib.hid hX
        have HB := Lib.hid hB
        clear hX hB
        go_wp2_with fail
        with_reducible refine (InsetRect_no x y u v p q _ h).mono ?_
        rintro e w2 ⟨rfl, hb2⟩
        have hX := (HX.out.alloc _).below hb2
        have hB := bkeep2 (balloc' HB.out) hb2
        clear HX HB hb2
        try simp only [World.size_alloc] at hX
        have hY := hX
        obtain ⟨b0_0, b0_1, b0_2, b0_3, -⟩ := b4 hY.head
        have bl0 := lt_of_heap hY.head
        have bn0 := Nat.ne_of_lt bl0
        have bm0 := Nat.ne_of_lt (Nat.lt_succ_of_lt bl0)
        simp only [Nat.succ_eq_add_one] at bm0
        clear hY
        have HX := Lib.hid hX
        have HB := Lib.hid hB
        clear hX hB
        go_wp2_with fail
        refine wp_region_grow 28 0 (· < 28) (by kernel_rfl) (by kernel_rfl) rfl ?_
        iterate 28 (refine wpG_step (fun K hK => ?_); first | (refine grow_skip rfl ?_; go_simp; refine hK _ ?_; clear hK K) | (apply Exists.intro; refine ⟨.inl ⟨rfl, fun w' hw' => ?_⟩, ?_⟩; (focus ((obtain ⟨hc, hf⟩ := bcell hw'.out); (have hcS := bcellS hw'.out); go_simp <;> first | rfl | (go_at_call 21; exact sInsetRect_no x y u v p q _ h) | (go_at_call 20; exact equalRect_same 0 0 0 0 _) | (go_at_call 22; exact vr_b x y u v true hv _))); (go_simp; refine hK _ ?_; clear hK K)))
        refine wpG_nil ?_
        refine wpK_tail (by kernel_rfl) (fun w3 hg3 => ?_)
        refine wpAny_end (by kernel_rfl) ?_
        refine NoPan.thn ?_
        clear b0_0 b0_1 b0_2 b0_3 bl0 bn0 bm0
        have hb3 := hg3.out
        have hX := BX.below (BX.drew (HX.out.alloc _)) hb3
        have hB := bkeep2 (Below.drew (balloc' HB.out)) hb3
        clear HX HB hb3 hg3
        try simp only [World.size_alloc] at hX
        have hY := hX
        obtain ⟨b0_0, b0_1, b0_2, b0_3, -⟩ := b4 hY.head
        have bl0 := lt_of_heap hY.head
        have bn0 := Nat.ne_of_lt bl0
        have bm0 := Nat.ne_of_lt (Nat.lt_succ_of_lt bl0)
        simp only [Nat.succ_eq_add_one] at bm0
        replace hY := hY.tail
        obtain ⟨b1_0, b1_1, b1_2, b1_3, -⟩ := b4 hY.head
        have bl1 := lt_of_heap hY.head
        have bn1 := Nat.ne_of_lt bl1
        have bm1 := Nat.ne_of_lt (Nat.lt_succ_of_lt bl1)
        simp only [Nat.succ_eq_add_one] at bm1
        clear hY
        have HX := Lib.hid hX
        have HB := Lib.hid hB
        clear hX hB
        go_wp2_with fail
        refine wp_region_grow 6 1 (· < 6) (by kernel_rfl) (by kernel_rfl) rfl ?_
        iterate 6 (refine wpG_step (fun K hK => ?_); first | (refine grow_skip rfl ?_; go_simp; refine hK _ ?_; clear hK K) | (apply Exists.intro; refine ⟨.inl ⟨rfl, fun w' hw' => ?_⟩, ?_⟩; (focus ((obtain ⟨hc, hf⟩ := bcell hw'.out); (have hcS := bcellS hw'.out); go_simp <;> first | rfl | (go_at_call 21; exact sInsetRect_no x y u v p q _ h) | (go_at_call 20; exact equalRect_same 0 0 0 0 _) | (go_at_call 22; exact vr_b x y u v true hv _))); (go_simp; refine hK _ ?_; clear hK K)))
        refine wpG_nil ?_
        refine wpK_tail (by kernel_rfl) (fun w4 hg4 => ?_)
        refine wpAny_one (i := 6) (by kernel_rfl) rfl rfl ?_
        go_simp
        refine wpAny_end (by kernel_rfl) ?_
        refine NoPan.thn ?_
        clear b0_0 b0_1 b0_2 b0_3 b1_0 b1_1 b1_2 b1_3 bl0 bn0 bm0 bl1 bn1 bm1
        have hb4 := hg4.out
        have hX := BX.below (BX.drew HX.out) hb4
        have hB := bkeep2 (Below.drew HB.out) hb4
        clear HX HB hb4 hg4
        try simp only [World.size_alloc] at hX
        have hY := hX
        obtain ⟨b0_0, b0_1, b0_2, b0_3, -⟩ := b4 hY.head
        have bl0 := lt_of_heap hY.head
        have bn0 := Nat.ne_of_lt bl0
        have bm0 := Nat.ne_of_lt (Nat.lt_succ_of_lt bl0)
        simp only [Nat.succ_eq_add_one] at bm0
        replace hY := hY.tail
        obtain ⟨b1_0, b1_1, b1_2, b1_3, -⟩ := b4 hY.head
        have bl1 := lt_of_heap hY.head
        have bn1 := Nat.ne_of_lt bl1
        have bm1 := Nat.ne_of_lt (Nat.lt_succ_of_lt bl1)
        simp only [Nat.succ_eq_add_one] at bm1
        clear hY
        have HB := Lib.hid hB
        clear hX hB
        go_wp2
        all_goals go_ret
        all_goals exact ⟨ret_bool (by simp), HB.out⟩
      · skip
        have hd0 : decide (p < 0) = false := by simp; omega
        have hd1 : decide (10 < p) = false := by simp; omega
        have hd2 : decide (q < 0) = true := by simp; omega
        have HX := Lib.hid hX
        have HB := Lib.hid hB
        clear hX hB
        go_wp2_with fail
        with_reducible refine (InsetRect_no x y u v p q _ h).mono ?_
        rintro e w2 ⟨rfl, hb2⟩
        have hX := (HX.out.alloc _).below hb2
        have hB := bkeep2 (balloc' HB.out) hb2
        clear HX HB hb2
        try simp only [World.size_alloc] at hX
        have hY := hX
        obtain ⟨b0_0, b0_1, b0_2, b0_3, -⟩ := b4 hY.head
        have bl0 := lt_of_heap hY.head
        have bn0 := Nat.ne_of_lt bl0
        have bm0 := Nat.ne_of_lt (Nat.lt_succ_of_lt bl0)
        simp only [Nat.succ_eq_add_one] at bm0
        clear hY
        have HX := Lib.hid hX
        have HB := Lib.hid hB
        clear hX hB
        go_wp2_with fail
        refine wp_region_grow 28 0 (· < 28) (by kernel_rfl) (by kernel_rfl) rfl ?_
        iterate 28 (refine wpG_step (fun K hK => ?_); first | (refine grow_skip rfl ?_; go_simp; refine hK _ ?_; clear hK K) | (apply Exists.intro; refine ⟨.inl ⟨rfl, fun w' hw' => ?_⟩, ?_⟩; (focus ((obtain ⟨hc, hf⟩ := bcell hw'.out); (have hcS := bcellS hw'.out); go_simp <;> first | rfl | (go_at_call 21; exact sInsetRect_no x y u v p q _ h) | (go_at_call 20; exact equalRect_same 0 0 0 0 _) | (go_at_call 22; exact vr_b x y u v true hv _))); (go_simp; refine hK _ ?_; clear hK K)))
        refine wpG_nil ?_
        refine wpK_tail (by kernel_rfl) (fun w3 hg3 => ?_)
        refine wpAny_end (by kernel_rfl) ?_
        refine NoPan.thn ?_
        clear b0_0 b0_1 b0_2 b0_3 bl0 bn0 bm0
        have hb3 := hg3.out
        have hX := BX.below (BX.drew (HX.out.alloc _)) hb3
        have hB := bkeep2 (Below.drew (balloc' HB.out)) hb3
        clear HX HB hb3 hg3
        try simp only [World.size_alloc] at hX
        have hY := hX
        obtain ⟨b0_0, b0_1, b0_2, b0_3, -⟩ := b4 hY.head
        have bl0 := lt_of_heap hY.head
        have bn0 := Nat.ne_of_lt bl0
        have bm0 := Nat.ne_of_lt (Nat.lt_succ_of_lt bl0)
        simp only [Nat.succ_eq_add_one] at bm0
        replace hY := hY.tail
        obtain ⟨b1_0, b1_1, b1_2, b1_3, -⟩ := b4 hY.head
        have bl1 := lt_of_heap hY.head
        have bn1 := Nat.ne_of_lt bl1
        have bm1 := Nat.ne_of_lt (Nat.lt_succ_of_lt bl1)
        simp only [Nat.succ_eq_add_one] at bm1
        clear hY
        have HX := Lib.hid hX
        have HB := Lib.hid hB
        clear hX hB
        go_wp2_with fail
        refine wp_region_grow 6 1 (· < 6) (by kernel_rfl) (by kernel_rfl) rfl ?_
        iterate 6 (refine wpG_step (fun K hK => ?_); first | (refine grow_skip rfl ?_; go_simp; refine hK _ ?_; clear hK K) | (apply Exists.intro; refine ⟨.inl ⟨rfl, fun w' hw' => ?_⟩, ?_⟩; (focus ((obtain ⟨hc, hf⟩ := bcell hw'.out); (have hcS := bcellS hw'.out); go_simp <;> first | rfl | (go_at_call 21; exact sInsetRect_no x y u v p q _ h) | (go_at_call 20; exact equalRect_same 0 0 0 0 _) | (go_at_call 22; exact vr_b x y u v true hv _))); (go_simp; refine hK _ ?_; clear hK K)))
        refine wpG_nil ?_
        refine wpK_tail (by kernel_rfl) (fun w4 hg4 => ?_)
        refine wpAny_one (i := 6) (by kernel_rfl) rfl rfl ?_
        go_simp
        refine wpAny_end (by kernel_rfl) ?_
        refine NoPan.thn ?_
        clear b0_0 b0_1 b0_2 b0_3 b1_0 b1_1 b1_2 b1_3 bl0 bn0 bm0 bl1 bn1 bm1
        have hb4 := hg4.out
        have hX := BX.below (BX.drew HX.out) hb4
        have hB := bkeep2 (Below.drew HB.out) hb4
        clear HX HB hb4 hg4
        try simp only [World.size_alloc] at hX
        have hY := hX
        obtain ⟨b0_0, b0_1, b0_2, b0_3, -⟩ := b4 hY.head
        have bl0 := lt_of_heap hY.head
        have bn0 := Nat.ne_of_lt bl0
        have bm0 := Nat.ne_of_lt (Nat.lt_succ_of_lt bl0)
        simp only [Nat.succ_eq_add_one] at bm0
        replace hY := hY.tail
        obtain ⟨b1_0, b1_1, b1_2, b1_3, -⟩ := b4 hY.head
        have bl1 := lt_of_heap hY.head
        have bn1 := Nat.ne_of_lt bl1
        have bm1 := Nat.ne_of_lt (Nat.lt_succ_of_lt bl1)
        simp only [Nat.succ_eq_add_one] at bm1
        clear hY
        have HB := Lib.hid hB
        clear hX hB
        go_wp2
        all_goals go_ret
        all_goals exact ⟨ret_bool (by simp), HB.out⟩
      · skip
        have hd0 : decide (p < 0) = false := by simp; omega
        have hd1 : decide (10 < p) = false := by simp; omega
        have hd2 : decide (q < 0) = false := by simp; omega
        have hd3 : decide (10 < q) = true := by simp; omega
        have HX := Lib.hid hX
        have HB := Lib.hid hB
        clear hX hB
        go_wp2_with fail
        with_reducible refine (InsetRect_no x y u v p q _ h).mono ?_
        rintro e w2 ⟨rfl, hb2⟩
        have hX := (HX.out.alloc _).below hb2
        have hB := bkeep2 (balloc' HB.out) hb2
        clear HX HB hb2
        try simp only [World.size_alloc] at hX
        have hY := hX
        obtain ⟨b0_0, b0_1, b0_2, b0_3, -⟩ := b4 hY.head
        have bl0 := lt_of_heap hY.head
        have bn0 := Nat.ne_of_lt bl0
        have bm0 := Nat.ne_of_lt (Nat.lt_succ_of_lt bl0)
        simp only [Nat.succ_eq_add_one] at bm0
        clear hY
        have HX := Lib.hid hX
        have HB := Lib.hid hB
        clear hX hB
        go_wp2_with fail
        refine wp_region_grow 28 0 (· < 28) (by kernel_rfl) (by kernel_rfl) rfl ?_
        iterate 28 (refine wpG_step (fun K hK => ?_); first | (refine grow_skip rfl ?_; go_simp; refine hK _ ?_; clear hK K) | (apply Exists.intro; refine ⟨.inl ⟨rfl, fun w' hw' => ?_⟩, ?_⟩; (focus ((obtain ⟨hc, hf⟩ := bcell hw'.out); (have hcS := bcellS hw'.out); go_simp <;> first | rfl | (go_at_call 21; exact sInsetRect_no x y u v p q _ h) | (go_at_call 20; exact equalRect_same 0 0 0 0 _) | (go_at_call 22; exact vr_b x y u v true hv _))); (go_simp; refine hK _ ?_; clear hK K)))
        refine wpG_nil ?_
        refine wpK_tail (by kernel_rfl) (fun w3 hg3 => ?_)
        refine wpAny_end (by kernel_rfl) ?_
        refine NoPan.thn ?_
        clear b0_0 b0_1 b0_2 b0_3 bl0 bn0 bm0
        have hb3 := hg3.out
        have hX := BX.below (BX.drew (HX.out.alloc _)) hb3
        have hB := bkeep2 (Below.drew (balloc' HB.out)) hb3
        clear HX HB hb3 hg3
        try simp only [World.size_alloc] at hX
        have hY := hX
        obtain ⟨b0_0, b0_1, b0_2, b0_3, -⟩ := b4 hY.head
        have bl0 := lt_of_heap hY.head
        have bn0 := Nat.ne_of_lt bl0
        have bm0 := Nat.ne_of_lt (Nat.lt_succ_of_lt bl0)
        simp only [Nat.succ_eq_add_one] at bm0
        replace hY := hY.tail
        obtain ⟨b1_0, b1_1, b1_2, b1_3, -⟩ := b4 hY.head
        have bl1 := lt_of_heap hY.head
        have bn1 := Nat.ne_of_lt bl1
        have bm1 := Nat.ne_of_lt (Nat.lt_succ_of_lt bl1)
        simp only [Nat.succ_eq_add_one] at bm1
        clear hY
        have HX := Lib.hid hX
        have HB := Lib.hid hB
        clear hX hB
        go_wp2_with fail
        refine wp_region_grow 6 1 (· < 6) (by kernel_rfl) (by kernel_rfl) rfl ?_
        iterate 6 (refine wpG_step (fun K hK => ?_); first | (refine grow_skip rfl ?_; go_simp; refine hK _ ?_; clear hK K) | (apply Exists.intro; refine ⟨.inl ⟨rfl, fun w' hw' => ?_⟩, ?_⟩; (focus ((obtain ⟨hc, hf⟩ := bcell hw'.out); (have hcS := bcellS hw'.out); go_simp <;> first | rfl | (go_at_call 21; exact sInsetRect_no x y u v p q _ h) | (go_at_call 20; exact equalRect_same 0 0 0 0 _) | (go_at_call 22; exact vr_b x y u v true hv _))); (go_simp; refine hK _ ?_; clear hK K)))
        refine wpG_nil ?_
        refine wpK_tail (by kernel_rfl) (fun w4 hg4 => ?_)
        refine wpAny_one (i := 6) (by kernel_rfl) rfl rfl ?_
        go_simp
        refine wpAny_end (by kernel_rfl) ?_
        refine NoPan.thn ?_
        clear b0_0 b0_1 b0_2 b0_3 b1_0 b1_1 b1_2 b1_3 bl0 bn0 bm0 bl1 bn1 bm1
        have hb4 := hg4.out
        have hX := BX.below (BX.drew HX.out) hb4
        have hB := bkeep2 (Below.drew HB.out) hb4
        clear HX HB hb4 hg4
        try simp only [World.size_alloc] at hX
        have hY := hX
        obtain ⟨b0_0, b0_1, b0_2, b0_3, -⟩ := b4 hY.head
        have bl0 := lt_of_heap hY.head
        have bn0 := Nat.ne_of_lt bl0
        have bm0 := Nat.ne_of_lt (Nat.lt_succ_of_lt bl0)
        simp only [Nat.succ_eq_add_one] at bm0
        replace hY := hY.tail
        obtain ⟨b1_0, b1_1, b1_2, b1_3, -⟩ := b4 hY.head
        have bl1 := lt_of_heap hY.head
        have bn1 := Nat.ne_of_lt bl1
        have bm1 := Nat.ne_of_lt (Nat.lt_succ_of_lt bl1)
        simp only [Nat.succ_eq_add_one] at bm1
        clear hY
        have HB := Lib.hid hB
        clear hX hB
        go_wp2
        all_goals go_ret
        all_goals exact ⟨ret_bool (by simp), HB.out⟩
    · skip
      obtain ⟨X, Y, U, V, ⟨hX1, hX2, hX3, hX4⟩, ⟨h0, hX5, hX6, hX7, hX8⟩, hv, hi, hU, hV, ⟨hp, hp'⟩, hq, hq'⟩ := insetF h
      have HM := Lib.hid (And.intro (And.intro hX1 (And.intro hX2 (And.intro hX3 hX4))) (And.intro hX5 (And.intro hX6 (And.intro hX7 hX8))))
      clear hX1 hX2 hX3 hX4 hX5 hX6 hX7 hX8
      obtain ⟨s1, s2, s3, s4, -⟩ := vr_iff.1 hv
      have hd0 : decide (p < 0) = false := by simp; omega
      have hd1 : decide (10 < p) = false := by simp; omega
      have hd2 : decide (q < 0) = false := by simp; omega
      have hd3 : decide (10 < q) = false := by simp; omega
      have es : eqR x y u v x y u v = true := eqR_self
      have wp : IntKind.i64.wrap (2 * p) = 2 * p := IntWalk.i64_in _ (by omega)
      have wu : IntKind.i64.wrap (u - 2 * p) = u - 2 * p := IntWalk.i64_in _ (by omega)
      have wq : IntKind.i64.wrap (2 * q) = 2 * q := IntWalk.i64_in _ (by omega)
      have wv : IntKind.i64.wrap (v - 2 * q) = v - 2 * q := IntWalk.i64_in _ (by omega)
      have HX := Lib.hid hX
      have HB := Lib.hid hB
      clear hX hB
      go_wp2_with fail
      with_reducible refine (inset_v x y u v p q X Y U V _ h HM.out.1.1 HM.out.1.2.1 HM.out.1.2.2.1 HM.out.1.2.2.2).mono ?_
      rintro e w2 ⟨rfl, hb2⟩
      have hX := (HX.out.alloc _).below hb2
      have hB := bkeep2 (balloc' HB.out) hb2
      clear HX HB hb2
      try simp only [World.size_alloc] at hX
      have hY := hX
      obtain ⟨b0_0, b0_1, b0_2, b0_3, -⟩ := b4 hY.head
      have bl0 := lt_of_heap hY.head
      have bn0 := Nat.ne_of_lt bl0
      have bm0 := Nat.ne_of_lt (Nat.lt_succ_of_lt bl0)
      simp only [Nat.succ_eq_add_one] at bm0
      clear hY
      have HX := Lib.hid hX
      have HB := Lib.hid hB
      clear hX hB
      go_wp2_with fail
      refine wp_region_grow 28 0 (· < 28) (by kernel_rfl) (by kernel_rfl) rfl ?_
      iterate 28 (refine wpG_step (fun K hK => ?_); first | (refine grow_skip rfl ?_; go_simp; refine hK _ ?_; clear hK K) | (apply Exists.intro; refine ⟨.inl ⟨rfl, fun w' hw' => ?_⟩, ?_⟩; (focus ((obtain ⟨hc, hf⟩ := bcell hw'.out); (have hcS := bcellS hw'.out); go_simp <;> first | rfl | (go_at_call 21; exact sinset_v x y u v p q X Y U V _ h HM.out.1.1 HM.out.1.2.1 HM.out.1.2.2.1 HM.out.1.2.2.2) | (go_at_call 20; exact equalRect_same X Y U V _) | (go_at_call 22; exact vr_b x y u v true hv _))); (go_simp; refine hK _ ?_; clear hK K)))
      refine wpG_nil ?_
      refine wpK_tail (by kernel_rfl) (fun w3 hg3 => ?_)
      refine wpAny_end (by kernel_rfl) ?_
      refine NoPan.thn ?_
      clear b0_0 b0_1 b0_2 b0_3 bl0 bn0 bm0
      have hb3 := hg3.out
      have hX := BX.below (BX.drew (HX.out.alloc _)) hb3
      have hB := bkeep2 (Below.drew (balloc' HB.out)) hb3
      clear HX HB hb3 hg3
      try simp only [World.size_alloc] at hX
      have hY := hX
      obtain ⟨b0_0, b0_1, b0_2, b0_3, -⟩ := b4 hY.head
      have bl0 := lt_of_heap hY.head
      have bn0 := Nat.ne_of_lt bl0
      have bm0 := Nat.ne_of_lt (Nat.lt_succ_of_lt bl0)
      simp only [Nat.succ_eq_add_one] at bm0
      replace hY := hY.tail
      obtain ⟨b1_0, b1_1, b1_2, b1_3, -⟩ := b4 hY.head
      have bl1 := lt_of_heap hY.head
      have bn1 := Nat.ne_of_lt bl1
      have bm1 := Nat.ne_of_lt (Nat.lt_succ_of_lt bl1)
      simp only [Nat.succ_eq_add_one] at bm1
      clear hY
      have HX := Lib.hid hX
      have HB := Lib.hid hB
      clear hX hB
      go_wp2_with fail
      refine wp_region_grow 31 1 (· < 31) (by kernel_rfl) (by kernel_rfl) rfl ?_
      iterate 31 (refine wpG_step (fun K hK => ?_); first | (refine grow_skip rfl ?_; go_simp; refine hK _ ?_; clear hK K) | (apply Exists.intro; refine ⟨.inl ⟨rfl, fun w' hw' => ?_⟩, ?_⟩; (focus ((obtain ⟨hc, hf⟩ := bcell hw'.out); (have hcS := bcellS hw'.out); go_simp <;> first | rfl | (go_at_call 23; exact in_b x y u v X Y U V true hi _) | (go_at_call 19; exact inset_v x y u v 0 0 x y u v _ h0 HM.out.2.1 HM.out.2.2.1 HM.out.2.2.2.1 HM.out.2.2.2.2))); (go_simp; refine hK _ ?_; clear hK K)))
      refine wpG_nil ?_
      refine wpK_tail (by kernel_rfl) (fun w4 hg4 => ?_)
      refine wpAny_one (i := 31) (by kernel_rfl) rfl rfl ?_
      go_simp
      refine wpAny_end (by kernel_rfl) ?_
      refine NoPan.thn ?_
      clear b0_0 b0_1 b0_2 b0_3 b1_0 b1_1 b1_2 b1_3 bl0 bn0 bm0 bl1 bn1 bm1
      have hb4 := hg4.out
      have hX := BX.below (BX.drew HX.out) hb4
      have hB := bkeep2 (Below.drew HB.out) hb4
      clear HX HB hb4 hg4
      try simp only [World.size_alloc] at hX
      have hY := hX
      obtain ⟨b0_0, b0_1, b0_2, b0_3, -⟩ := b4 hY.head
      have bl0 := lt_of_heap hY.head
      have bn0 := Nat.ne_of_lt bl0
      have bm0 := Nat.ne_of_lt (Nat.lt_succ_of_lt bl0)
      simp only [Nat.succ_eq_add_one] at bm0
      replace hY := hY.tail
      obtain ⟨b1_0, b1_1, b1_2, b1_3, -⟩ := b4 hY.head
      have bl1 := lt_of_heap hY.head
      have bn1 := Nat.ne_of_lt bl1
      have bm1 := Nat.ne_of_lt (Nat.lt_succ_of_lt bl1)
      simp only [Nat.succ_eq_add_one] at bm1
      clear hY
      have HB := Lib.hid hB
      clear hX hB
      go_wp2
      all_goals go_ret
      all_goals exact ⟨ret_bool (by simp), HB.out⟩
  · have hl1 : (1048576 : Int) < n := by omega
    go_enter Try.func6, Try.ntmps6
    go_wp2
    go_ret
    exact ⟨rfl, Below.refl _ _⟩
set_option maxRecDepth 100000 in
theorem lifted (os : Os) (started : os.Started) (H : Type) (enc : TypeId × Value → H) :
    ReturnsInHanded {} Try.checked os 6 .any (Rows.fnInsetRectSpec.pre6 enc Try.prog Try.f6 Rows.fnInsetRectRow.domain false) (Rows.fnInsetRectSpec.post enc Try.prog Try.f6 false true false false) := by
  refine returnsInHanded_of_change (C := Try.checked) own started (by kernel_rfl) Try.func6
    (ChangeSpec.witness6 (enc := enc) (C := Try.checked) false ⟨#[], #[.slice none 0 0], []⟩ 8 (by kernel_rfl) (by kernel_rfl) (by kernel_rfl) (by kernel_rfl)) ?_
  intro W base args ds gs before hval0 hW hcnd _
  have hval : ∀ (j : Nat) t v, Try.f6.params[j]? = some t → args[j]? = some v → Value.okWide Try.prog W .any base t v := hval0
  have hW' := hW
  obtain ⟨p, q, hA0, hV, rfl, hfz, hnd⟩ := hW
  have hA : DataW.TrodAll enc Try.prog W 0 (fun _ => true) true Try.f6.params.toList args.toList ds p := hA0
  rw [Try.params6] at hA hval
  obtain ⟨v0, vs0, d0, ds0, p0, q0, hargs, rfl, rfl, h0, r0⟩ := trodAll_cons hA
  obtain ⟨rfl, rfl, rfl⟩ := trodAll_nil r0
  obtain rfl : args = #[v0] := by cases args; simp_all
  obtain ⟨rfl, rfl⟩ := trodVars_none hV
  have k0 := h0
  have lt0 : ∀ x ∈ p0, x.block < W.heap.size := by obtain ⟨m, hm⟩ := k0; exact DataW.trod_lt m _ _ _ hm
  obtain ⟨a0, len0, cap0, rfl⟩ := okWide_slice Try.underlying22 (hval 0 22 v0 rfl rfl)
  obtain ⟨z0, wz0⟩ : ∃ zs, IsRow .u8 W a0 len0 cap0 zs := by
    obtain ⟨fuel, hf⟩ := h0
    rcases open_ints Try.underlying22 Try.underlying5 (by kernel_rfl) hf with ⟨hcs, _⟩ | ⟨x, l, c, zs, hcs, _, hl, hm, hz, _, hcell, hwz⟩
    · simp [Value.cells] at hcs
      obtain ⟨rfl, rfl, rfl⟩ := hcs
      exact ⟨[], .inl ⟨rfl, rfl, rfl, rfl⟩⟩
    · simp [Value.cells] at hcs
      obtain ⟨rfl, rfl, rfl⟩ := hcs
      exact ⟨zs, .inr ⟨_, rfl, hl, hm, by simpa using hz, hcell, hwz⟩⟩
  clear hA0 hval0
  refine (walk a0 len0 cap0 z0 W wz0).mono fun e W' ⟨he, bel⟩ => ?_
  subst he
  exact ⟨_, rfl, _, _, _, [], _, [], hW', trodAll_mk1 (shut_bool Try.underlying4 _), (trodAll_cons_mk (Below.trod laidOut (by kernel_rfl) (of_decide_eq_true (by kernel_rfl)) k0 bel lt0) trodAll_mk0), rfl, bel.frame _, fun h => by cases h⟩
theorem over : Rows.fnInsetRectRow.holds Try.pinned (OpenSpec.ofChange Rows.fnInsetRectSpec) :=
  OpenClaim.holds_of_wide 6 Try.f6 rfl rfl rfl rfl rfl rfl rfl ⟨rfl, rfl, rfl, rfl, rfl⟩ rfl rfl rfl rfl rfl (by kernel_rfl) Try.func6 (by kernel_rfl)
    (of_decide_eq_true (by kernel_rfl)) (by unfold Func.isWrapper; first | (rw [if_pos (by decide +kernel)]; kernel_rfl) | (rw [if_neg (by decide +kernel)]; exact ⟨rfl, rfl⟩))
    (fun os started H enc _ => lifted os started H enc)
theorem proved : Rows.FnInsetRectSaid := over
end Go.Proofs.Ytogpdpjheknkjac.lInsetRect
