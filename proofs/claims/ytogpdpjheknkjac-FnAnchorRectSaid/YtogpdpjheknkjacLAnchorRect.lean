/- FnAnchorRect: for every code the law returns true. No condition. -/
import Derived.Test.YtogpdpjheknkjacFr
import Derived.Test.YtogpdpjheknkjacKB
import Derived.Test.YtogpdpjheknkjacKC
import Derived.Test.YtogpdpjheknkjacG5
namespace Go.Proofs.Ytogpdpjheknkjac.lAnchorRect
open Go.ChangeShapes Go.WideShapes Go.ChangeAt Go.RowKit Go.Joins
set_option linter.unusedVariables false
attribute [local go_sem 5000] run_mx run_mn run_eqlR run_neqR
attribute [local go_sem] growUpon_value growUpon_skip growUpon_enter
set_option maxHeartbeats 1000000
theorem anchorF {x y u v p q k : Int} (h : anB x y u v p q k = true) : ∃ X Y U V X8 Y8 : Int, (x + (u - mn p u) * (k % 3) / 2 = X ∧ y + (v - mn q v) * (k / 3) / 2 = Y ∧ mn p u = U ∧ mn q v = V) ∧
    (anB x y u v p q 0 = true ∧ x + (u - mn p u) * (0 % 3) / 2 = x ∧ y + (v - mn q v) * (0 / 3) / 2 = y) ∧ (anB x y u v p q 8 = true ∧ x + (u - mn p u) * (8 % 3) / 2 = X8 ∧ y + (v - mn q v) * (8 / 3) / 2 = Y8) ∧
    vr x y u v = true ∧ (vr x y u v && (vr X Y U V && insB x y u v X Y U V)) = true ∧ (X8 + U = x + u ∧ Y8 + V = y + v) ∧ ((0 ≤ U ∧ U ≤ 400) ∧ (0 ≤ V ∧ V ≤ 400) ∧ (-1000 ≤ X8 ∧ X8 ≤ 1000) ∧ (-1000 ≤ Y8 ∧ Y8 ≤ 1000)) ∧ (0 ≤ p ∧ p ≤ 400) ∧ (0 ≤ q ∧ q ≤ 400) ∧ (0 ≤ k ∧ k ≤ 8) := by
  obtain ⟨h1, h2, h3, h4⟩ := anB_yes h
  obtain ⟨a1, a2, a3, a4, a5, a6, a7, a8⟩ := vr_iff.1 h1
  have g := an_bds h
  obtain ⟨b1, b2⟩ := rng_iff.1 h2
  obtain ⟨b3, b4⟩ := rng_iff.1 h3
  obtain ⟨b5, b6⟩ := rng_iff.1 h4
  have m1 := mn_spec p u
  have m2 := mn_spec q v
  have c0 : rng 0 0 8 = true := by decide
  have c8 : rng 8 0 8 = true := by decide
  have k1 : k % 3 = 0 ∨ k % 3 = 1 ∨ k % 3 = 2 := by omega
  have k2 : k / 3 = 0 ∨ k / 3 = 1 ∨ k / 3 = 2 := by omega
  refine ⟨_, _, _, _, _, _, ⟨rfl, rfl, rfl, rfl⟩, ⟨by simp [anB, h1, h2, h3, c0], by simp, by simp⟩, ⟨by simp [anB, h1, h2, h3, c8], rfl, rfl⟩, h1, ?_, by omega, by omega, ⟨b1, b2⟩, ⟨b3, b4⟩, b5, b6⟩
  rw [Bool.and_eq_true, Bool.and_eq_true, vr_iff, vr_iff, insB_iff]
  rcases k1 with e1 | e1 | e1 <;> rcases k2 with e2 | e2 | e2 <;> rw [e1, e2] <;> omega
theorem anchor7 {x y u v p q k : Int} (h : anB x y u v p q k = false) : vr x y u v = false ∨ (vr x y u v = true ∧ p < 0) ∨ (vr x y u v = true ∧ 0 ≤ p ∧ 400 < p) ∨ (vr x y u v = true ∧ (0 ≤ p ∧ p ≤ 400) ∧ q < 0) ∨ (vr x y u v = true ∧ (0 ≤ p ∧ p ≤ 400) ∧ 0 ≤ q ∧ 400 < q) ∨
    (vr x y u v = true ∧ (0 ≤ p ∧ p ≤ 400) ∧ (0 ≤ q ∧ q ≤ 400) ∧ k < 0) ∨ (vr x y u v = true ∧ (0 ≤ p ∧ p ≤ 400) ∧ (0 ≤ q ∧ q ≤ 400) ∧ 0 ≤ k ∧ 8 < k) := by
  cases h1 : vr x y u v
  · exact .inl rfl
  · have h2 : ¬ (rng p 0 400 = true ∧ rng q 0 400 = true ∧ rng k 0 8 = true) := fun ⟨a, b, c⟩ => by simp [anB, h1, a, b, c] at h
    rw [rng_iff, rng_iff, rng_iff] at h2
    by_cases a : p < 0
    · exact .inr (.inl ⟨rfl, a⟩)
    · by_cases b : 400 < p
      · exact .inr (.inr (.inl ⟨rfl, by omega, b⟩))
      · by_cases c : q < 0
        · exact .inr (.inr (.inr (.inl ⟨rfl, by omega, c⟩)))
        · by_cases d : 400 < q
          · exact .inr (.inr (.inr (.inr (.inl ⟨rfl, by omega, by omega, d⟩))))
          · by_cases e : k < 0
            · exact .inr (.inr (.inr (.inr (.inr (.inl ⟨rfl, by omega, by omega, e⟩)))))
            · exact .inr (.inr (.inr (.inr (.inr (.inr ⟨rfl, by omega, by omega, by omega, by omega⟩)))))
set_option maxRecDepth 100000 in
theorem walk (A : Option Addr) (n c : Nat) (z : List Int) (w : World) (wz : IsRow .u8 w A n c z) : Calls Try.prog 7 #[.slice A n c] w fun e w' => e = .returned (.bool true) ∧ Below w.heap.size w w' := by
  obtain ⟨hb, hn, hc⟩ := wz.bts
  clear wz
  by_cases hlen : n ≤ 1048576
  · have hl1 : ¬ (1048576 : Int) < n := by omega
    go_enter Try.func7, Try.ntmps7
    go_wp2_with fail
    with_reducible refine (DrawAnchorRect_any A n c _ hb hn hc).mono ?_
    rintro e w1 ⟨⟨x, y, u, v, p, q, k, rfl⟩, hB⟩
    have hX := BX.nil w1
    cases h : anB x y u v p q k
    · skip
      rcases anchor7 h with hv | ⟨hv, hp⟩ | ⟨hv, hp, hp'⟩ | ⟨hv, ⟨hp, hp'⟩, hq⟩ | ⟨hv, ⟨hp, hp'⟩, hq, hq'⟩ | ⟨hv, ⟨hp, hp'⟩, ⟨hq, hq'⟩, hk⟩ | ⟨hv, ⟨hp, hp'⟩, ⟨hq, hq'⟩, hk, hk'⟩
      · skip
        have HX := Lib.hid hX
        have HB := Lib.hid hB
        clear hX hB
        go_wp2_with fail
        with_reducible refine (AnchorRect_no x y u v p q k _ h).mono ?_
        rintro e w2 ⟨rfl, hb2⟩
        have hX := (HX.out.alloc _).below hb2
        have hB := bkeep2 (balloc' HB.out) hb2
        clear HX HB hb2
        try simp only [World.size_alloc] at hX
        have hY := hX
        obtain ⟨b0_0, b0_1, b0_2, b0_3, -⟩ := b4 hY.head
        have bl0 := lt_of_heap hY.head
        have bn0 := Nat.ne_of_lt bl0
        have bm0 := Nat.ne_of_lt (Nat.lt_succ_of_lt bl0)
        simp only [Nat.succ_eq_add_one] at bm0
        clear hY
        have HX := Lib.hid hX
        have HB := Lib.hid hB
        clear hX hB
        go_wp2_with fail
        refine wp_region_grow 37 0 (· < 37) (by kernel_rfl) (by kernel_rfl) rfl ?_
        iterate 37 (refine wpG_step (fun K hK => ?_); first | (refine grow_skip rfl ?_; go_simp; refine hK _ ?_; clear hK K) | (apply Exists.intro; refine ⟨.inl ⟨rfl, fun w' hw' => ?_⟩, ?_⟩; (focus ((obtain ⟨hc, hf⟩ := bcell hw'.out); (have hcS := bcellS hw'.out); go_simp <;> first | rfl | (go_at_call 26; exact sAnchorRect_no x y u v p q k _ h) | (go_at_call 20; exact equalRect_same 0 0 0 0 _) | (go_at_call 22; exact vr_b x y u v false hv _))); (go_simp; refine hK _ ?_; clear hK K)))
        refine wpG_nil ?_
        refine wpK_tail (by kernel_rfl) (fun w3 hg3 => ?_)
        refine wpAny_end (by kernel_rfl) ?_
        refine NoPan.thn ?_
        clear b0_0 b0_1 b0_2 b0_3 bl0 bn0 bm0
        have hb3 := hg3.out
        have hX := BX.below (BX.drew (HX.out.alloc _)) hb3
        have hB := bkeep2 (Below.drew (balloc' HB.out)) hb3
        clear HX HB hb3 hg3
        try simp only [World.size_alloc] at hX
        have hY := hX
        obtain ⟨b0_0, b0_1, b0_2, b0_3, -⟩ := b4 hY.head
        have bl0 := lt_of_heap hY.head
        have bn0 := Nat.ne_of_lt bl0
        have bm0 := Nat.ne_of_lt (Nat.lt_succ_of_lt bl0)
        simp only [Nat.succ_eq_add_one] at bm0
        replace hY := hY.tail
        obtain ⟨b1_0, b1_1, b1_2, b1_3, -⟩ := b4 hY.head
        have bl1 := lt_of_heap hY.head
        have bn1 := Nat.ne_of_lt bl1
        have bm1 := Nat.ne_of_lt (Nat.lt_succ_of_lt bl1)
        simp only [Nat.succ_eq_add_one] at bm1
        clear hY
        have HX := Lib.hid hX
        have HB := Lib.hid hB
        clear hX hB
        go_wp2_with fail
        refine wp_region_grow 7 1 (· < 7) (by kernel_rfl) (by kernel_rfl) rfl ?_
        iterate 7 (refine wpG_step (fun K hK => ?_); first | (refine grow_skip rfl ?_; go_simp; refine hK _ ?_; clear hK K) | (apply Exists.intro; refine ⟨.inl ⟨rfl, fun w' hw' => ?_⟩, ?_⟩; (focus ((obtain ⟨hc, hf⟩ := bcell hw'.out); (have hcS := bcellS hw'.out); go_simp <;> first | rfl | (go_at_call 26; exact sAnchorRect_no x y u v p q k _ h) | (go_at_call 20; exact equalRect_same 0 0 0 0 _) | (go_at_call 22; exact vr_b x y u v false hv _))); (go_simp; refine hK _ ?_; clear hK K)))
        refine wpG_nil ?_
        refine wpK_tail (by kernel_rfl) (fun w4 hg4 => ?_)
        refine wpAny_one (i := 7) (by kernel_rfl) rfl rfl ?_
        go_simp
        refine wpAny_end (by kernel_rfl) ?_
        refine NoPan.thn ?_
        clear b0_0 b0_1 b0_2 b0_3 b1_0 b1_1 b1_2 b1_3 bl0 bn0 bm0 bl1 bn1 bm1
        have hb4 := hg4.out
        have hX := BX.below (BX.drew HX.out) hb4
        have hB := bkeep2 (Below.drew HB.out) hb4
        clear HX HB hb4 hg4
        try simp only [World.size_alloc] at hX
        have hY := hX
        obtain ⟨b0_0, b0_1, b0_2, b0_3, -⟩ := b4 hY.head
        have bl0 := lt_of_heap hY.head
        have bn0 := Nat.ne_of_lt bl0
        have bm0 := Nat.ne_of_lt (Nat.lt_succ_of_lt bl0)
        simp only [Nat.succ_eq_add_one] at bm0
        replace hY := hY.tail
        obtain ⟨b1_0, b1_1, b1_2, b1_3, -⟩ := b4 hY.head
        have bl1 := lt_of_heap hY.head
        have bn1 := Nat.ne_of_lt bl1
        have bm1 := Nat.ne_of_lt (Nat.lt_succ_of_lt bl1)
        simp only [Nat.succ_eq_add_one] at bm1
        clear hY
        have HB := Lib.hid hB
        clear hX hB
        go_wp2
        all_goals go_ret
        all_goals exact ⟨ret_bool (by simp), HB.out⟩
      · skip
        have hd0 : decide (p < 0) = true := by simp; omega
        have HX := Lib.hid hX
        have HB := Lib.hid hB
        clear hX hB
        go_wp2_with fail
        with_reducible refine (AnchorRect_no x y u v p q k _ h).mono ?_
        rintro e w2 ⟨rfl, hb2⟩
        have hX := (HX.out.alloc _).below hb2
        have hB := bkeep2 (balloc' HB.out) hb2
        clear HX HB hb2
        try simp only [World.size_alloc] at hX
        have hY := hX
        obtain ⟨b0_0, b0_1, b0_2, b0_3, -⟩ := b4 hY.head
        have bl0 := lt_of_heap hY.head
        have bn0 := Nat.ne_of_lt bl0
        have bm0 := Nat.ne_of_lt (Nat.lt_succ_of_lt bl0)
        simp only [Nat.succ_eq_add_one] at bm0
        clear hY
        have HX := Lib.hid hX
        have HB := Lib.hid hB
        clear hX hB
        go_wp2_with fail
        refine wp_region_grow 37 0 (· < 37) (by kernel_rfl) (by kernel_rfl) rfl ?_
        iterate 37 (refine wpG_step (fun K hK => ?_); first | (refine grow_skip rfl ?_; go_simp; refine hK _ ?_; clear hK K) | (apply Exists.intro; refine ⟨.inl ⟨rfl, fun w' hw' => ?_⟩, ?_⟩; (focus ((obtain ⟨hc, hf⟩ := bcell hw'.out); (have hcS := bcellS hw'.out); go_simp <;> first | rfl | (go_at_call 26; exact sAnchorRect_no x y u v p q k _ h) | (go_at_call 20; exact equalRect_same 0 0 0 0 _) | (go_at_call 22; exact vr_b x y u v true hv _))); (go_simp; refine hK _ ?_; clear hK K)))
        refine wpG_nil ?_
        refine wpK_tail (by kernel_rfl) (fun w3 hg3 => ?_)
        refine wpAny_end (by kernel_rfl) ?_
        refine NoPan.thn ?_
        clear b0_0 b0_1 b0_2 b0_3 bl0 bn0 bm0
        have hb3 := hg3.out
        have hX := BX.below (BX.drew (HX.out.alloc _)) hb3
        have hB := bkeep2 (Below.drew (balloc' HB.out)) hb3
        clear HX HB hb3 hg3
        try simp only [World.size_alloc] at hX
        have hY := hX
        obtain ⟨b0_0, b0_1, b0_2, b0_3, -⟩ := b4 hY.head
        have bl0 := lt_of_heap hY.head
        have bn0 := Nat.ne_of_lt bl0
        have bm0 := Nat.ne_of_lt (Nat.lt_succ_of_lt bl0)
        simp only [Nat.succ_eq_add_one] at bm0
        replace hY := hY.tail
        obtain ⟨b1_0, b1_1, b1_2, b1_3, -⟩ := b4 hY.head
        have bl1 := lt_of_heap hY.head
        have bn1 := Nat.ne_of_lt bl1
        have bm1 := Nat.ne_of_lt (Nat.lt_succ_of_lt bl1)
        simp only [Nat.succ_eq_add_one] at bm1
        clear hY
        have HX := Lib.hid hX
        have HB := Lib.hid hB
        clear hX hB
        go_wp2_with fail
        refine wp_region_grow 7 1 (· < 7) (by kernel_rfl) (by kernel_rfl) rfl ?_
        iterate 7 (refine wpG_step (fun K hK => ?_); first | (refine grow_skip rfl ?_; go_simp; refine hK _ ?_; clear hK K) | (apply Exists.intro; refine ⟨.inl ⟨rfl, fun w' hw' => ?_⟩, ?_⟩; (focus ((obtain ⟨hc, hf⟩ := bcell hw'.out); (have hcS := bcellS hw'.out); go_simp <;> first | rfl | (go_at_call 26; exact sAnchorRect_no x y u v p q k _ h) | (go_at_call 20; exact equalRect_same 0 0 0 0 _) | (go_at_call 22; exact vr_b x y u v true hv _))); (go_simp; refine hK _ ?_; clear hK K)))
        refine wpG_nil ?_
        refine wpK_tail (by kernel_rfl) (fun w4 hg4 => ?_)
        refine wpAny_one (i := 7) (by kernel_rfl) rfl rfl ?_
        go_simp
        refine wpAny_end (by kernel_rfl) ?_
        refine NoPan.thn ?_
        clear b0_0 b0_1 b0_2 b0_3 b1_0 b1_1 b1_2 b1_3 bl0 bn0 bm0 bl1 bn1 bm1
        have hb4 := hg4.out
        have hX := BX.below (BX.drew HX.out) hb4
        have hB := bkeep2 (Below.drew HB.out) hb4
        clear HX HB hb4 hg4
        try simp only [World.size_alloc] at hX
        have hY := hX
        obtain ⟨b0_0, b0_1, b0_2, b0_3, -⟩ := b4 hY.head
        have bl0 := lt_of_heap hY.head
        have bn0 := Nat.ne_of_lt bl0
        have bm0 := Nat.ne_of_lt (Nat.lt_succ_of_lt bl0)
        simp only [Nat.succ_eq_add_one] at bm0
        replace hY := hY.tail
        obtain ⟨b1_0, b1_1, b1_2, b1_3, -⟩ := b4 hY.head
        have bl1 := lt_of_heap hY.head
        have bn1 := Nat.ne_of_lt bl1
        have bm1 := Nat.ne_of_lt (Nat.lt_succ_of_lt bl1)
        simp only [Nat.succ_eq_add_one] at bm1
        clear hY
        have HB := Lib.hid hB
        clear hX hB
        go_wp2
        all_goals go_ret
        all_goals exact ⟨ret_bool (by simp), HB.out⟩
      · skip
        have hd0 : decide (p < 0) = false := by simp; omega
        have hd1 : decide (400 < p) = true := by simp; omega
        have HX := Lib.hid hX
        have HB := Lib.hid hB
        clear hX hB
        go_wp2_with fail
        with_reducible refine (AnchorRect_no x y u v p q k _ h).mono ?_
        rintro e w2 ⟨rfl, hb2⟩
        have hX := (HX.out.alloc _).below hb2
        have hB := bkeep2 (balloc' HB.out) hb2
        clear HX HB hb2
        try simp only [World.size_alloc] at hX
        have hY := hX
        obtain ⟨b0_0, b0_1, b0_2, b0_3, -⟩ := b4 hY.head
        have bl0 := lt_of_heap hY.head
        have bn0 := Nat.ne_of_lt bl0
        have bm0 := Nat.ne_of_lt (Nat.lt_succ_of_lt bl0)
        simp only [Nat.succ_eq_add_one] at bm0
        clear hY
        have HX := Lib.hid hX
        have HB := Lib.hid hB
        clear hX hB
        go_wp2_with fail
        refine wp_region_grow 37 0 (· < 37) (by kernel_rfl) (by kernel_rfl) rfl ?_
        iterate 37 (refine wpG_step (fun K hK => ?_); first | (refine grow_skip rfl ?_; go_simp; refine hK _ ?_; clear hK K) | (apply Exists.intro; refine ⟨.inl ⟨rfl, fun w' hw' => ?_⟩, ?_⟩; (focus ((obtain ⟨hc, hf⟩ := bcell hw'.out); (have hcS := bcellS hw'.out); go_simp <;> first | rfl | (go_at_call 26; exact sAnchorRect_no x y u v p q k _ h) | (go_at_call 20; exact equalRect_same 0 0 0 0 _) | (go_at_call 22; exact vr_b x y u v true hv _))); (go_simp; refine hK _ ?_; clear hK K)))
        refine wpG_nil ?_
        refine wpK_tail (by kernel_rfl) (fun w3 hg3 => ?_)
        refine wpAny_end (by kernel_rfl) ?_
        refine NoPan.thn ?_
        clear b0_0 b0_1 b0_2 b0_3 bl0 bn0 bm0
        have hb3 := hg3.out
        have hX := BX.below (BX.drew (HX.out.alloc _)) hb3
        have hB := bkeep2 (Below.drew (balloc' HB.out)) hb3
        clear HX HB hb3 hg3
        try simp only [World.size_alloc] at hX
        have hY := hX
        obtain ⟨b0_0, b0_1, b0_2, b0_3, -⟩ := b4 hY.head
        have bl0 := lt_of_heap hY.head
        have bn0 := Nat.ne_of_lt bl0
        have bm0 := Nat.ne_of_lt (Nat.lt_succ_of_lt bl0)
        simp only [Nat.succ_eq_add_one] at bm0
        replace hY := hY.tail
        obtain ⟨b1_0, b1_1, b1_2, b1_3, -⟩ := b4 hY.head
        have bl1 := lt_of_heap hY.head
        have bn1 := Nat.ne_of_lt bl1
        have bm1 := Nat.ne_of_lt (Nat.lt_succ_of_lt bl1)
        simp only [Nat.succ_eq_add_one] at bm1
        clear hY
        have HX := Lib.hid hX
        have HB := Lib.hid hB
        clear hX hB
        go_wp2_with fail
        refine wp_region_grow 7 1 (· < 7) (by kernel_rfl) (by kernel_rfl) rfl ?_
        iterate 7 (refine wpG_step (fun K hK => ?_); first | (refine grow_skip rfl ?_; go_simp; refine hK _ ?_; clear hK K) | (apply Exists.intro; refine ⟨.inl ⟨rfl, fun w' hw' => ?_⟩, ?_⟩; (focus ((obtain ⟨hc, hf⟩ := bcell hw'.out); (have hcS := bcellS hw'.out); go_simp <;> first | rfl | (go_at_call 26; exact sAnchorRect_no x y u v p q k _ h) | (go_at_call 20; exact equalRect_same 0 0 0 0 _) | (go_at_call 22; exact vr_b x y u v true hv _))); (go_simp; refine hK _ ?_; clear hK K)))
        refine wpG_nil ?_
        refine wpK_tail (by kernel_rfl) (fun w4 hg4 => ?_)
        refine wpAny_one (i := 7) (by kernel_rfl) rfl rfl ?_
        go_simp
        refine wpAny_end (by kernel_rfl) ?_
        refine NoPan.thn ?_
        clear b0_0 b0_1 b0_2 b0_3 b1_0 b1_1 b1_2 b1_3 bl0 bn0 bm0 bl1 bn1 bm1
        have hb4 := hg4.out
        have hX := BX.below (BX.drew HX.out) hb4
        have hB := bkeep2 (Below.drew HB.out) hb4
        clear HX HB hb4 hg4
        try simp only [World.size_alloc] at hX
        have hY := hX
        obtain ⟨b0_0, b0_1, b0_2, b0_3, -⟩ := b4 hY.head
        have bl0 := lt_of_heap hY.head
        have bn0 := Nat.ne_of_lt bl0
        have bm0 := Nat.ne_of_lt (Nat.lt_succ_of_lt bl0)
        simp only [Nat.succ_eq_add_one] at bm0
        replace hY := hY.tail
        obtain ⟨b1_0, b1_1, b1_2, b1_3, -⟩ := b4 hY.head
        have bl1 := lt_of_heap hY.head
        have bn1 := Nat.ne_of_lt bl1
        have bm1 := Nat.ne_of_lt (Nat.lt_succ_of_lt bl1)
        simp only [Nat.succ_eq_add_one] at bm1
        clear hY
        have HB := Lib.hid hB
        clear hX hB
        go_wp2
        all_goals go_ret
        all_goals exact ⟨ret_bool (by simp), HB.out⟩
      · skip
        have hd0 : decide (p < 0) = false := by simp; omega
        have hd1 : decide (400 < p) = false := by simp; omega
        have hd2 : decide (q < 0) = true := by simp; omega
        have HX := Lib.hid hX
        have HB := Lib.hid hB
        clear hX hB
        go_wp2_with fail
        with_reducible refine (AnchorRect_no x y u v p q k _ h).mono ?_
        rintro e w2 ⟨rfl, hb2⟩
        have hX := (HX.out.alloc _).below hb2
        have hB := bkeep2 (balloc' HB.out) hb2
        clear HX HB hb2
        try simp only [World.size_alloc] at hX
        have hY := hX
        obtain ⟨b0_0, b0_1, b0_2, b0_3, -⟩ := b4 hY.head
        have bl0 := lt_of_heap hY.head
        have bn0 := Nat.ne_of_lt bl0
        have bm0 := Nat.ne_of_lt (Nat.lt_succ_of_lt bl0)
        simp only [Nat.succ_eq_add_one] at bm0
        clear hY
        have HX := Lib.hid hX
        have HB := Lib.hid hB
        clear hX hB
        go_wp2_with fail
        refine wp_region_grow 37 0 (· < 37) (by kernel_rfl) (by kernel_rfl) rfl ?_
        iterate 37 (refine wpG_step (fun K hK => ?_); first | (refine grow_skip rfl ?_; go_simp; refine hK _ ?_; clear hK K) | (apply Exists.intro; refine ⟨.inl ⟨rfl, fun w' hw' => ?_⟩, ?_⟩; (focus ((obtain ⟨hc, hf⟩ := bcell hw'.out); (have hcS := bcellS hw'.out); go_simp <;> first | rfl | (go_at_call 26; exact sAnchorRect_no x y u v p q k _ h) | (go_at_call 20; exact equalRect_same 0 0 0 0 _) | (go_at_call 22; exact vr_b x y u v true hv _))); (go_simp; refine hK _ ?_; clear hK K)))
        refine wpG_nil ?_
        refine wpK_tail (by kernel_rfl) (fun w3 hg3 => ?_)
        refine wpAny_end (by kernel_rfl) ?_
        refine NoPan.thn ?_
        clear b0_0 b0_1 b0_2 b0_3 bl0 bn0 bm0
        have hb3 := hg3.out
        have hX := BX.below (BX.drew (HX.out.alloc _)) hb3
        have hB := bkeep2 (Below.drew (balloc' HB.out)) hb3
        clear HX HB hb3 hg3
        try simp only [World.size_alloc] at hX
        have hY := hX
        obtain ⟨b0_0, b0_1, b0_2, b0_3, -⟩ := b4 hY.head
        have bl0 := lt_of_heap hY.head
        have bn0 := Nat.ne_of_lt bl0
        have bm0 := Nat.ne_of_lt (Nat.lt_succ_of_lt bl0)
        simp only [Nat.succ_eq_add_one] at bm0
        replace hY := hY.tail
        obtain ⟨b1_0, b1_1, b1_2, b1_3, -⟩ := b4 hY.head
        have bl1 := lt_of_heap hY.head
        have bn1 := Nat.ne_of_lt bl1
        have bm1 := Nat.ne_of_lt (Nat.lt_succ_of_lt bl1)
        simp only [Nat.succ_eq_add_one] at bm1
        clear hY
        have HX := Lib.hid hX
        have HB := Lib.hid hB
        clear hX hB
        go_wp2_with fail
        refine wp_region_grow 7 1 (· < 7) (by kernel_rfl) (by kernel_rfl) rfl ?_
        iterate 7 (refine wpG_step (fun K hK => ?_); first | (refine grow_skip rfl ?_; go_simp; refine hK _ ?_; clear hK K) | (apply Exists.intro; refine ⟨.inl ⟨rfl, fun w' hw' => ?_⟩, ?_⟩; (focus ((obtain ⟨hc, hf⟩ := bcell hw'.out); (have hcS := bcellS hw'.out); go_simp <;> first | rfl | (go_at_call 26; exact sAnchorRect_no x y u v p q k _ h) | (go_at_call 20; exact equalRect_same 0 0 0 0 _) | (go_at_call 22; exact vr_b x y u v true hv _))); (go_simp; refine hK _ ?_; clear hK K)))
        refine wpG_nil ?_
        refine wpK_tail (by kernel_rfl) (fun w4 hg4 => ?_)
        refine wpAny_one (i := 7) (by kernel_rfl) rfl rfl ?_
        go_simp
        refine wpAny_end (by kernel_rfl) ?_
        refine NoPan.thn ?_
        clear b0_0 b0_1 b0_2 b0_3 b1_0 b1_1 b1_2 b1_3 bl0 bn0 bm0 bl1 bn1 bm1
        have hb4 := hg4.out
        have hX := BX.below (BX.drew HX.out) hb4
        have hB := bkeep2 (Below.drew HB.out) hb4
        clear HX HB hb4 hg4
        try simp only [World.size_alloc] at hX
        have hY := hX
        obtain ⟨b0_0, b0_1, b0_2, b0_3, -⟩ := b4 hY.head
        have bl0 := lt_of_heap hY.head
        have bn0 := Nat.ne_of_lt bl0
        have bm0 := Nat.ne_of_lt (Nat.lt_succ_of_lt bl0)
        simp only [Nat.succ_eq_add_one] at bm0
        replace hY := hY.tail
        obtain ⟨b1_0, b1_1, b1_2, b1_3, -⟩ := b4 hY.head
        have bl1 := lt_of_heap hY.head
        have bn1 := Nat.ne_of_lt bl1
        have bm1 := Nat.ne_of_lt (Nat.lt_succ_of_lt bl1)
        simp only [Nat.succ_eq_add_one] at bm1
        clear hY
        have HB := Lib.hid hB
        clear hX hB
        go_wp2
        all_goals go_ret
        all_goals exact ⟨ret_bool (by simp), HB.out⟩
      · skip
        have hd0 : decide (p < 0) = false := by simp; omega
        have hd1 : decide (400 < p) = false := by simp; omega
        have hd2 : decide (q < 0) = false := by simp; omega
        have hd3 : decide (400 < q) = true := by simp; omega
        have HX := Lib.hid hX
        have HB := Lib.hid hB
        clear hX hB
        go_wp2_with fail
        with_reducible refine (AnchorRect_no x y u v p q k _ h).mono ?_
        rintro e w2 ⟨rfl, hb2⟩
        have hX := (HX.out.alloc _).below hb2
        have hB := bkeep2 (balloc' HB.out) hb2
        clear HX HB hb2
        try simp only [World.size_alloc] at hX
        have hY := hX
        obtain ⟨b0_0, b0_1, b0_2, b0_3, -⟩ := b4 hY.head
        have bl0 := lt_of_heap hY.head
        have bn0 := Nat.ne_of_lt bl0
        have bm0 := Nat.ne_of_lt (Nat.lt_succ_of_lt bl0)
        simp only [Nat.succ_eq_add_one] at bm0
        clear hY
        have HX := Lib.hid hX
        have HB := Lib.hid hB
        clear hX hB
        go_wp2_with fail
        refine wp_region_grow 37 0 (· < 37) (by kernel_rfl) (by kernel_rfl) rfl ?_
        iterate 37 (refine wpG_step (fun K hK => ?_); first | (refine grow_skip rfl ?_; go_simp; refine hK _ ?_; clear hK K) | (apply Exists.intro; refine ⟨.inl ⟨rfl, fun w' hw' => ?_⟩, ?_⟩; (focus ((obtain ⟨hc, hf⟩ := bcell hw'.out); (have hcS := bcellS hw'.out); go_simp <;> first | rfl | (go_at_call 26; exact sAnchorRect_no x y u v p q k _ h) | (go_at_call 20; exact equalRect_same 0 0 0 0 _) | (go_at_call 22; exact vr_b x y u v true hv _))); (go_simp; refine hK _ ?_; clear hK K)))
        refine wpG_nil ?_
        refine wpK_tail (by kernel_rfl) (fun w3 hg3 => ?_)
        refine wpAny_end (by kernel_rfl) ?_
        refine NoPan.thn ?_
        clear b0_0 b0_1 b0_2 b0_3 bl0 bn0 bm0
        have hb3 := hg3.out
        have hX := BX.below (BX.drew (HX.out.alloc _)) hb3
        have hB := bkeep2 (Below.drew (balloc' HB.out)) hb3
        clear HX HB hb3 hg3
        try simp only [World.size_alloc] at hX
        have hY := hX
        obtain ⟨b0_0, b0_1, b0_2, b0_3, -⟩ := b4 hY.head
        have bl0 := lt_of_heap hY.head
        have bn0 := Nat.ne_of_lt bl0
        have bm0 := Nat.ne_of_lt (Nat.lt_succ_of_lt bl0)
        simp only [Nat.succ_eq_add_one] at bm0
        replace hY := hY.tail
        obtain ⟨b1_0, b1_1, b1_2, b1_3, -⟩ := b4 hY.head
        have bl1 := lt_of_heap hY.head
        have bn1 := Nat.ne_of_lt bl1
        have bm1 := Nat.ne_of_lt (Nat.lt_succ_of_lt bl1)
        simp only [Nat.succ_eq_add_one] at bm1
        clear hY
        have HX := Lib.hid hX
        have HB := Lib.hid hB
        clear hX hB
        go_wp2_with fail
        refine wp_region_grow 7 1 (· < 7) (by kernel_rfl) (by kernel_rfl) rfl ?_
        iterate 7 (refine wpG_step (fun K hK => ?_); first | (refine grow_skip rfl ?_; go_simp; refine hK _ ?_; clear hK K) | (apply Exists.intro; refine ⟨.inl ⟨rfl, fun w' hw' => ?_⟩, ?_⟩; (focus ((obtain ⟨hc, hf⟩ := bcell hw'.out); (have hcS := bcellS hw'.out); go_simp <;> first | rfl | (go_at_call 26; exact sAnchorRect_no x y u v p q k _ h) | (go_at_call 20; exact equalRect_same 0 0 0 0 _) | (go_at_call 22; exact vr_b x y u v true hv _))); (go_simp; refine hK _ ?_; clear hK K)))
        refine wpG_nil ?_
        refine wpK_tail (by kernel_rfl) (fun w4 hg4 => ?_)
        refine wpAny_one (i := 7) (by kernel_rfl) rfl rfl ?_
        go_simp
        refine wpAny_end (by kernel_rfl) ?_
        refine NoPan.thn ?_
        clear b0_0 b0_1 b0_2 b0_3 b1_0 b1_1 b1_2 b1_3 bl0 bn0 bm0 bl1 bn1 bm1
        have hb4 := hg4.out
        have hX := BX.below (BX.drew HX.out) hb4
        have hB := bkeep2 (Below.drew HB.out) hb4
        clear HX HB hb4 hg4
        try simp only [World.size_alloc] at hX
        have hY := hX
        obtain ⟨b0_0, b0_1, b0_2, b0_3, -⟩ := b4 hY.head
        have bl0 := lt_of_heap hY.head
        have bn0 := Nat.ne_of_lt bl0
        have bm0 := Nat.ne_of_lt (Nat.lt_succ_of_lt bl0)
        simp only [Nat.succ_eq_add_one] at bm0
        replace hY := hY.tail
        obtain ⟨b1_0, b1_1, b1_2, b1_3, -⟩ := b4 hY.head
        have bl1 := lt_of_heap hY.head
        have bn1 := Nat.ne_of_lt bl1
        have bm1 := Nat.ne_of_lt (Nat.lt_succ_of_lt bl1)
        simp only [Nat.succ_eq_add_one] at bm1
        clear hY
        have HB := Lib.hid hB
        clear hX hB
        go_wp2
        all_goals go_ret
        all_goals exact ⟨ret_bool (by simp), HB.out⟩
      · skip
        have hd0 : decide (p < 0) = false := by simp; omega
        have hd1 : decide (400 < p) = false := by simp; omega
        have hd2 : decide (q < 0) = false := by simp; omega
        have hd3 : decide (400 < q) = false := by simp; omega
        have hd4 : decide (k < 0) = true := by simp; omega
        have HX := Lib.hid hX
        have HB := Lib.hid hB
        clear hX hB
        go_wp2_with fail
        with_reducible refine (AnchorRect_no x y u v p q k _ h).mono ?_
        rintro e w2 ⟨rfl, hb2⟩
        have hX := (HX.out.alloc _).below hb2
        have hB := bkeep2 (balloc' HB.out) hb2
        clear HX HB hb2
        try simp only [World.size_alloc] at hX
        have hY := hX
        obtain ⟨b0_0, b0_1, b0_2, b0_3, -⟩ := b4 hY.head
        have bl0 := lt_of_heap hY.head
        have bn0 := Nat.ne_of_lt bl0
        have bm0 := Nat.ne_of_lt (Nat.lt_succ_of_lt bl0)
        simp only [Nat.succ_eq_add_one] at bm0
        clear hY
        have HX := Lib.hid hX
        have HB := Lib.hid hB
        clear hX hB
        go_wp2_with fail
        refine wp_region_grow 37 0 (· < 37) (by kernel_rfl) (by kernel_rfl) rfl ?_
        iterate 37 (refine wpG_step (fun K hK => ?_); first | (refine grow_skip rfl ?_; go_simp; refine hK _ ?_; clear hK K) | (apply Exists.intro; refine ⟨.inl ⟨rfl, fun w' hw' => ?_⟩, ?_⟩; (focus ((obtain ⟨hc, hf⟩ := bcell hw'.out); (have hcS := bcellS hw'.out); go_simp <;> first | rfl | (go_at_call 26; exact sAnchorRect_no x y u v p q k _ h) | (go_at_call 20; exact equalRect_same 0 0 0 0 _) | (go_at_call 22; exact vr_b x y u v true hv _))); (go_simp; refine hK _ ?_; clear hK K)))
        refine wpG_nil ?_
        refine wpK_tail (by kernel_rfl) (fun w3 hg3 => ?_)
        refine wpAny_end (by kernel_rfl) ?_
        refine NoPan.thn ?_
        clear b0_0 b0_1 b0_2 b0_3 bl0 bn0 bm0
        have hb3 := hg3.out
        have hX := BX.below (BX.drew (HX.out.alloc _)) hb3
        have hB := bkeep2 (Below.drew (balloc' HB.out)) hb3
        clear HX HB hb3 hg3
        try simp only [World.size_alloc] at hX
        have hY := hX
        obtain ⟨b0_0, b0_1, b0_2, b0_3, -⟩ := b4 hY.head
        have bl0 := lt_of_heap hY.head
        have bn0 := Nat.ne_of_lt bl0
        have bm0 := Nat.ne_of_lt (Nat.lt_succ_of_lt bl0)
        simp only [Nat.succ_eq_add_one] at bm0
        replace hY := hY.tail
        obtain ⟨b1_0, b1_1, b1_2, b1_3, -⟩ := b4 hY.head
        have bl1 := lt_of_heap hY.head
        have bn1 := Nat.ne_of_lt bl1
        have bm1 := Nat.ne_of_lt (Nat.lt_succ_of_lt bl1)
        simp only [Nat.succ_eq_add_one] at bm1
        clear hY
        have HX := Lib.hid hX
        have HB := Lib.hid hB
        clear hX hB
        go_wp2_with fail
        refine wp_region_grow 7 1 (· < 7) (by kernel_rfl) (by kernel_rfl) rfl ?_
        iterate 7 (refine wpG_step (fun K hK => ?_); first | (refine grow_skip rfl ?_; go_simp; refine hK _ ?_; clear hK K) | (apply Exists.intro; refine ⟨.inl ⟨rfl, fun w' hw' => ?_⟩, ?_⟩; (focus ((obtain ⟨hc, hf⟩ := bcell hw'.out); (have hcS := bcellS hw'.out); go_simp <;> first | rfl | (go_at_call 26; exact sAnchorRect_no x y u v p q k _ h) | (go_at_call 20; exact equalRect_same 0 0 0 0 _) | (go_at_call 22; exact vr_b x y u v true hv _))); (go_simp; refine hK _ ?_; clear hK K)))
        refine wpG_nil ?_
        refine wpK_tail (by kernel_rfl) (fun w4 hg4 => ?_)
        refine wpAny_one (i := 7) (by kernel_rfl) rfl rfl ?_
        go_simp
        refine wpAny_end (by kernel_rfl) ?_
        refine NoPan.thn ?_
        clear b0_0 b0_1 b0_2 b0_3 b1_0 b1_1 b1_2 b1_3 bl0 bn0 bm0 bl1 bn1 bm1
        have hb4 := hg4.out
        have hX := BX.below (BX.drew HX.out) hb4
        have hB := bkeep2 (Below.drew HB.out) hb4
        clear HX HB hb4 hg4
        try simp only [World.size_alloc] at hX
        have hY := hX
        obtain ⟨b0_0, b0_1, b0_2, b0_3, -⟩ := b4 hY.head
        have bl0 := lt_of_heap hY.head
        have bn0 := Nat.ne_of_lt bl0
        have bm0 := Nat.ne_of_lt (Nat.lt_succ_of_lt bl0)
        simp only [Nat.succ_eq_add_one] at bm0
        replace hY := hY.tail
        obtain ⟨b1_0, b1_1, b1_2, b1_3, -⟩ := b4 hY.head
        have bl1 := lt_of_heap hY.head
        have bn1 := Nat.ne_of_lt bl1
        have bm1 := Nat.ne_of_lt (Nat.lt_succ_of_lt bl1)
        simp only [Nat.succ_eq_add_one] at bm1
        clear hY
        have HB := Lib.hid hB
        clear hX hB
        go_wp2
        all_goals go_ret
        all_goals exact ⟨ret_bool (by simp), HB.out⟩
      · skip
        have hd0 : decide (p < 0) = false := by simp; omega
        have hd1 : decide (400 < p) = false := by simp; omega
        have hd2 : decide (q < 0) = false := by simp; omega
        have hd3 : decide (400 < q) = false := by simp; omega
        have hd4 : decide (k < 0) = false := by simp; omega
        have hd5 : decide (8 < k) = true := by simp; omega
        have HX := Lib.hid hX
        have HB := Lib.hid hB
        clear hX hB
        go_wp2_with fail
        with_reducible refine (AnchorRect_no x y u v p q k _ h).mono ?_
        rintro e w2 ⟨rfl, hb2⟩
        have hX := (HX.out.alloc _).below hb2
        have hB := bkeep2 (balloc' HB.out) hb2
        clear HX HB hb2
        try simp only [World.size_alloc] at hX
        have hY := hX
        obtain ⟨b0_0, b0_1, b0_2, b0_3, -⟩ := b4 hY.head
        have bl0 := lt_of_heap hY.head
        have bn0 := Nat.ne_of_lt bl0
        have bm0 := Nat.ne_of_lt (Nat.lt_succ_of_lt bl0)
        simp only [Nat.succ_eq_add_one] at bm0
        clear hY
        have HX := Lib.hid hX
        have HB := Lib.hid hB
        clear hX hB
        go_wp2_with fail
        refine wp_region_grow 37 0 (· < 37) (by kernel_rfl) (by kernel_rfl) rfl ?_
        iterate 37 (refine wpG_step (fun K hK => ?_); first | (refine grow_skip rfl ?_; go_simp; refine hK _ ?_; clear hK K) | (apply Exists.intro; refine ⟨.inl ⟨rfl, fun w' hw' => ?_⟩, ?_⟩; (focus ((obtain ⟨hc, hf⟩ := bcell hw'.out); (have hcS := bcellS hw'.out); go_simp <;> first | rfl | (go_at_call 26; exact sAnchorRect_no x y u v p q k _ h) | (go_at_call 20; exact equalRect_same 0 0 0 0 _) | (go_at_call 22; exact vr_b x y u v true hv _))); (go_simp; refine hK _ ?_; clear hK K)))
        refine wpG_nil ?_
        refine wpK_tail (by kernel_rfl) (fun w3 hg3 => ?_)
        refine wpAny_end (by kernel_rfl) ?_
        refine NoPan.thn ?_
        clear b0_0 b0_1 b0_2 b0_3 bl0 bn0 bm0
        have hb3 := hg3.out
        have hX := BX.below (BX.drew (HX.out.alloc _)) hb3
        have hB := bkeep2 (Below.drew (balloc' HB.out)) hb3
        clear HX HB hb3 hg3
        try simp only [World.size_alloc] at hX
        have hY := hX
        obtain ⟨b0_0, b0_1, b0_2, b0_3, -⟩ := b4 hY.head
        have bl0 := lt_of_heap hY.head
        have bn0 := Nat.ne_of_lt bl0
        have bm0 := Nat.ne_of_lt (Nat.lt_succ_of_lt bl0)
        simp only [Nat.succ_eq_add_one] at bm0
        replace hY := hY.tail
        obtain ⟨b1_0, b1_1, b1_2, b1_3, -⟩ := b4 hY.head
        have bl1 := lt_of_heap hY.head
        have bn1 := Nat.ne_of_lt bl1
        have bm1 := Nat.ne_of_lt (Nat.lt_succ_of_lt bl1)
        simp only [Nat.succ_eq_add_one] at bm1
        clear hY
        have HX := Lib.hid hX
        have HB := Lib.hid hB
        clear hX hB
        go_wp2_with fail
        refine wp_region_grow 7 1 (· < 7) (by kernel_rfl) (by kernel_rfl) rfl ?_
        iterate 7 (refine wpG_step (fun K hK => ?_); first | (refine grow_skip rfl ?_; go_simp; refine hK _ ?_; clear hK K) | (apply Exists.intro; refine ⟨.inl ⟨rfl, fun w' hw' => ?_⟩, ?_⟩; (focus ((obtain ⟨hc, hf⟩ := bcell hw'.out); (have hcS := bcellS hw'.out); go_simp <;> first | rfl | (go_at_call 26; exact sAnchorRect_no x y u v p q k _ h) | (go_at_call 20; exact equalRect_same 0 0 0 0 _) | (go_at_call 22; exact vr_b x y u v true hv _))); (go_simp; refine hK _ ?_; clear hK K)))
        refine wpG_nil ?_
        refine wpK_tail (by kernel_rfl) (fun w4 hg4 => ?_)
        refine wpAny_one (i := 7) (by kernel_rfl) rfl rfl ?_
        go_simp
        refine wpAny_end (by kernel_rfl) ?_
        refine NoPan.thn ?_
        clear b0_0 b0_1 b0_2 b0_3 b1_0 b1_1 b1_2 b1_3 bl0 bn0 bm0 bl1 bn1 bm1
        have hb4 := hg4.out
        have hX := BX.below (BX.drew HX.out) hb4
        have hB := bkeep2 (Below.drew HB.out) hb4
        clear HX HB hb4 hg4
        try simp only [World.size_alloc] at hX
        have hY := hX
        obtain ⟨b0_0, b0_1, b0_2, b0_3, -⟩ := b4 hY.head
        have bl0 := lt_of_heap hY.head
        have bn0 := Nat.ne_of_lt bl0
        have bm0 := Nat.ne_of_lt (Nat.lt_succ_of_lt bl0)
        simp only [Nat.succ_eq_add_one] at bm0
        replace hY := hY.tail
        obtain ⟨b1_0, b1_1, b1_2, b1_3, -⟩ := b4 hY.head
        have bl1 := lt_of_heap hY.head
        have bn1 := Nat.ne_of_lt bl1
        have bm1 := Nat.ne_of_lt (Nat.lt_succ_of_lt bl1)
        simp only [Nat.succ_eq_add_one] at bm1
        clear hY
        have HB := Lib.hid hB
        clear hX hB
        go_wp2
        all_goals go_ret
        all_goals exact ⟨ret_bool (by simp), HB.out⟩
    · skip
      obtain ⟨X, Y, U, V, X8, Y8, ⟨hX1, hX2, hX3, hX4⟩, ⟨h0, hX5, hX6⟩, ⟨h8, hX7, hX8⟩, hv, hi, ⟨he1, he2⟩, ⟨⟨t1, t2⟩, ⟨t3, t4⟩, ⟨t5, t6⟩, t7, t8⟩, ⟨hp, hp'⟩, ⟨hq, hq'⟩, hk, hk'⟩ := anchorF h
      have HM := Lib.hid (And.intro (And.intro hX1 (And.intro hX2 (And.intro hX3 hX4))) (And.intro hX5 (And.intro hX6 (And.intro hX7 hX8))))
      obtain ⟨s1, s2, s3, s4, s5, s6, s7, s8⟩ := vr_iff.1 hv
      have hd0 : decide (p < 0) = false := by simp; omega
      have hd1 : decide (400 < p) = false := by simp; omega
      have hd2 : decide (q < 0) = false := by simp; omega
      have hd3 : decide (400 < q) = false := by simp; omega
      have hd4 : decide (k < 0) = false := by simp; omega
      have hd5 : decide (8 < k) = false := by simp; omega
      clear hX1 hX2 hX5 hX6 hX7 hX8
      have HX := Lib.hid hX
      have HB := Lib.hid hB
      clear hX hB
      go_wp2_with fail
      with_reducible refine (anchor_v x y u v p q k X Y U V _ h HM.out.1.1 HM.out.1.2.1 HM.out.1.2.2.1 HM.out.1.2.2.2).mono ?_
      rintro e w2 ⟨rfl, hb2⟩
      have hX := (HX.out.alloc _).below hb2
      have hB := bkeep2 (balloc' HB.out) hb2
      clear HX HB hb2
      try simp only [World.size_alloc] at hX
      have hY := hX
      obtain ⟨b0_0, b0_1, b0_2, b0_3, -⟩ := b4 hY.head
      have bl0 := lt_of_heap hY.head
      have bn0 := Nat.ne_of_lt bl0
      have bm0 := Nat.ne_of_lt (Nat.lt_succ_of_lt bl0)
      simp only [Nat.succ_eq_add_one] at bm0
      clear hY
      have HX := Lib.hid hX
      have HB := Lib.hid hB
      clear hX hB
      go_wp2_with fail
      refine wp_region_grow 37 0 (· < 37) (by kernel_rfl) (by kernel_rfl) rfl ?_
      iterate 37 (refine wpG_step (fun K hK => ?_); first | (refine grow_skip rfl ?_; go_simp; refine hK _ ?_; clear hK K) | (apply Exists.intro; refine ⟨.inl ⟨rfl, fun w' hw' => ?_⟩, ?_⟩; (focus ((obtain ⟨hc, hf⟩ := bcell hw'.out); (have hcS := bcellS hw'.out); go_simp <;> first | rfl | (go_at_call 26; exact sanchor_v x y u v p q k X Y U V _ h HM.out.1.1 HM.out.1.2.1 HM.out.1.2.2.1 HM.out.1.2.2.2) | (go_at_call 20; exact equalRect_same X Y U V _) | (go_at_call 22; exact vr_b x y u v true hv _))); (go_simp; refine hK _ ?_; clear hK K)))
      refine wpG_nil ?_
      refine wpK_tail (by kernel_rfl) (fun w3 hg3 => ?_)
      refine wpAny_end (by kernel_rfl) ?_
      refine NoPan.thn ?_
      clear b0_0 b0_1 b0_2 b0_3 bl0 bn0 bm0
      have hb3 := hg3.out
      have hX := BX.below (BX.drew (HX.out.alloc _)) hb3
      have hB := bkeep2 (Below.drew (balloc' HB.out)) hb3
      clear HX HB hb3 hg3
      try simp only [World.size_alloc] at hX
      have hY := hX
      obtain ⟨b0_0, b0_1, b0_2, b0_3, -⟩ := b4 hY.head
      have bl0 := lt_of_heap hY.head
      have bn0 := Nat.ne_of_lt bl0
      have bm0 := Nat.ne_of_lt (Nat.lt_succ_of_lt bl0)
      simp only [Nat.succ_eq_add_one] at bm0
      replace hY := hY.tail
      obtain ⟨b1_0, b1_1, b1_2, b1_3, -⟩ := b4 hY.head
      have bl1 := lt_of_heap hY.head
      have bn1 := Nat.ne_of_lt bl1
      have bm1 := Nat.ne_of_lt (Nat.lt_succ_of_lt bl1)
      simp only [Nat.succ_eq_add_one] at bm1
      clear hY
      have HX := Lib.hid hX
      have HB := Lib.hid hB
      clear hX hB
      go_wp2_with fail
      with_reducible refine (anchor_v x y u v p q 0 x y U V _ h0 HM.out.2.1 HM.out.2.2.1 HM.out.1.2.2.1 HM.out.1.2.2.2).mono ?_
      rintro e w4 ⟨rfl, hb4⟩
      clear b0_0 b0_1 b0_2 b0_3 b1_0 b1_1 b1_2 b1_3 bl0 bn0 bm0 bl1 bn1 bm1
      have hX := HX.out.below hb4
      have hB := bkeep2 HB.out hb4
      clear HX HB hb4
      try simp only [World.size_alloc] at hX
      have hY := hX
      obtain ⟨b0_0, b0_1, b0_2, b0_3, -⟩ := b4 hY.head
      have bl0 := lt_of_heap hY.head
      have bn0 := Nat.ne_of_lt bl0
      have bm0 := Nat.ne_of_lt (Nat.lt_succ_of_lt bl0)
      simp only [Nat.succ_eq_add_one] at bm0
      replace hY := hY.tail
      obtain ⟨b1_0, b1_1, b1_2, b1_3, -⟩ := b4 hY.head
      have bl1 := lt_of_heap hY.head
      have bn1 := Nat.ne_of_lt bl1
      have bm1 := Nat.ne_of_lt (Nat.lt_succ_of_lt bl1)
      simp only [Nat.succ_eq_add_one] at bm1
      clear hY
      have HX := Lib.hid hX
      have HB := Lib.hid hB
      clear hX hB
      go_wp2_with fail
      with_reducible refine (anchor_v x y u v p q 8 X8 Y8 U V _ h8 HM.out.2.2.2.1 HM.out.2.2.2.2 HM.out.1.2.2.1 HM.out.1.2.2.2).mono ?_
      rintro e w5 ⟨rfl, hb5⟩
      clear b0_0 b0_1 b0_2 b0_3 b1_0 b1_1 b1_2 b1_3 bl0 bn0 bm0 bl1 bn1 bm1
      have hX := (HX.out.alloc _).below hb5
      have hB := bkeep2 (balloc' HB.out) hb5
      clear HX HB hb5
      try simp only [World.size_alloc] at hX
      have hY := hX
      obtain ⟨b0_0, b0_1, b0_2, b0_3, -⟩ := b4 hY.head
      have bl0 := lt_of_heap hY.head
      have bn0 := Nat.ne_of_lt bl0
      have bm0 := Nat.ne_of_lt (Nat.lt_succ_of_lt bl0)
      simp only [Nat.succ_eq_add_one] at bm0
      replace hY := hY.tail
      obtain ⟨b1_0, b1_1, b1_2, b1_3, -⟩ := b4 hY.head
      have bl1 := lt_of_heap hY.head
      have bn1 := Nat.ne_of_lt bl1
      have bm1 := Nat.ne_of_lt (Nat.lt_succ_of_lt bl1)
      simp only [Nat.succ_eq_add_one] at bm1
      replace hY := hY.tail
      obtain ⟨b2_0, b2_1, b2_2, b2_3, -⟩ := b4 hY.head
      have bl2 := lt_of_heap hY.head
      have bn2 := Nat.ne_of_lt bl2
      have bm2 := Nat.ne_of_lt (Nat.lt_succ_of_lt bl2)
      simp only [Nat.succ_eq_add_one] at bm2
      clear hY
      have HX := Lib.hid hX
      have HB := Lib.hid hB
      clear hX hB
      go_wp2_with fail
      with_reducible refine (in_b x y u v X Y U V true hi _).mono ?_
      rintro e w6 ⟨rfl, hb6⟩
      clear b0_0 b0_1 b0_2 b0_3 b1_0 b1_1 b1_2 b1_3 b2_0 b2_1 b2_2 b2_3 bl0 bn0 bm0 bl1 bn1 bm1 bl2 bn2 bm2
      have hX := (HX.out.alloc _).below hb6
      have hB := bkeep2 (balloc' HB.out) hb6
      clear HX HB hb6
      try simp only [World.size_alloc] at hX
      have hY := hX
      obtain ⟨b0_0, b0_1, b0_2, b0_3, -⟩ := b4 hY.head
      have bl0 := lt_of_heap hY.head
      have bn0 := Nat.ne_of_lt bl0
      have bm0 := Nat.ne_of_lt (Nat.lt_succ_of_lt bl0)
      simp only [Nat.succ_eq_add_one] at bm0
      replace hY := hY.tail
      obtain ⟨b1_0, b1_1, b1_2, b1_3, -⟩ := b4 hY.head
      have bl1 := lt_of_heap hY.head
      have bn1 := Nat.ne_of_lt bl1
      have bm1 := Nat.ne_of_lt (Nat.lt_succ_of_lt bl1)
      simp only [Nat.succ_eq_add_one] at bm1
      replace hY := hY.tail
      obtain ⟨b2_0, b2_1, b2_2, b2_3, -⟩ := b4 hY.head
      have bl2 := lt_of_heap hY.head
      have bn2 := Nat.ne_of_lt bl2
      have bm2 := Nat.ne_of_lt (Nat.lt_succ_of_lt bl2)
      simp only [Nat.succ_eq_add_one] at bm2
      replace hY := hY.tail
      obtain ⟨b3_0, b3_1, b3_2, b3_3, -⟩ := b4 hY.head
      have bl3 := lt_of_heap hY.head
      have bn3 := Nat.ne_of_lt bl3
      have bm3 := Nat.ne_of_lt (Nat.lt_succ_of_lt bl3)
      simp only [Nat.succ_eq_add_one] at bm3
      clear hY
      have HB := Lib.hid hB
      clear hX hB
      go_wp2
      all_goals go_ret
      all_goals exact ⟨ret_bool (by simp), HB.out⟩
  · have hl1 : (1048576 : Int) < n := by omega
    go_enter Try.func7, Try.ntmps7
    go_wp2
    go_ret
    exact ⟨rfl, Below.refl _ _⟩
set_option maxRecDepth 100000 in
theorem lifted (os : Os) (started : os.Started) (H : Type) (enc : TypeId × Value → H) :
    ReturnsInHanded {} Try.checked os 7 .any (Rows.fnAnchorRectSpec.pre6 enc Try.prog Try.f7 Rows.fnAnchorRectRow.domain false) (Rows.fnAnchorRectSpec.post enc Try.prog Try.f7 false true false false) := by
  refine returnsInHanded_of_change (C := Try.checked) own started (by kernel_rfl) Try.func7
    (ChangeSpec.witness6 (enc := enc) (C := Try.checked) false ⟨#[], #[.slice none 0 0], []⟩ 8 (by kernel_rfl) (by kernel_rfl) (by kernel_rfl) (by kernel_rfl)) ?_
  intro W base args ds gs before hval0 hW hcnd _
  have hval : ∀ (j : Nat) t v, Try.f7.params[j]? = some t → args[j]? = some v → Value.okWide Try.prog W .any base t v := hval0
  have hW' := hW
  obtain ⟨p, q, hA0, hV, rfl, hfz, hnd⟩ := hW
  have hA : DataW.TrodAll enc Try.prog W 0 (fun _ => true) true Try.f7.params.toList args.toList ds p := hA0
  rw [Try.params7] at hA hval
  obtain ⟨v0, vs0, d0, ds0, p0, q0, hargs, rfl, rfl, h0, r0⟩ := trodAll_cons hA
  obtain ⟨rfl, rfl, rfl⟩ := trodAll_nil r0
  obtain rfl : args = #[v0] := by cases args; simp_all
  obtain ⟨rfl, rfl⟩ := trodVars_none hV
  have k0 := h0
  have lt0 : ∀ x ∈ p0, x.block < W.heap.size := by obtain ⟨m, hm⟩ := k0; exact DataW.trod_lt m _ _ _ hm
  obtain ⟨a0, len0, cap0, rfl⟩ := okWide_slice Try.underlying22 (hval 0 22 v0 rfl rfl)
  obtain ⟨z0, wz0⟩ : ∃ zs, IsRow .u8 W a0 len0 cap0 zs := by
    obtain ⟨fuel, hf⟩ := h0
    rcases open_ints Try.underlying22 Try.underlying5 (by kernel_rfl) hf with ⟨hcs, _⟩ | ⟨x, l, c, zs, hcs, _, hl, hm, hz, _, hcell, hwz⟩
    · simp [Value.cells] at hcs
      obtain ⟨rfl, rfl, rfl⟩ := hcs
      exact ⟨[], .inl ⟨rfl, rfl, rfl, rfl⟩⟩
    · simp [Value.cells] at hcs
      obtain ⟨rfl, rfl, rfl⟩ := hcs
      exact ⟨zs, .inr ⟨_, rfl, hl, hm, by simpa using hz, hcell, hwz⟩⟩
  clear hA0 hval0
  refine (walk a0 len0 cap0 z0 W wz0).mono fun e W' ⟨he, bel⟩ => ?_
  subst he
  exact ⟨_, rfl, _, _, _, [], _, [], hW', trodAll_mk1 (shut_bool Try.underlying4 _), (trodAll_cons_mk (Below.trod laidOut (by kernel_rfl) (of_decide_eq_true (by kernel_rfl)) k0 bel lt0) trodAll_mk0), rfl, bel.frame _, fun h => by cases h⟩
theorem over : Rows.fnAnchorRectRow.holds Try.pinned (OpenSpec.ofChange Rows.fnAnchorRectSpec) :=
  OpenClaim.holds_of_wide 7 Try.f7 rfl rfl rfl rfl rfl rfl rfl ⟨rfl, rfl, rfl, rfl, rfl⟩ rfl rfl rfl rfl rfl (by kernel_rfl) Try.func7 (by kernel_rfl)
    (of_decide_eq_true (by kernel_rfl)) (by unfold Func.isWrapper; first | (rw [if_pos (by decide +kernel)]; kernel_rfl) | (rw [if_neg (by decide +kernel)]; exact ⟨rfl, rfl⟩))
    (fun os started H enc _ => lifted os started H enc)
theorem proved : Rows.FnAnchorRectSaid := over
end Go.Proofs.Ytogpdpjheknkjac.lAnchorRect
