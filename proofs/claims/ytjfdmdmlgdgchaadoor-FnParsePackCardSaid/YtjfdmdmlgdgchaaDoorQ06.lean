import Derived.Test.YtjfdmdmlgdgchaaDoorQ05
import Derived.Lib.OthersKept
import Derived.Laws.Closers25b
section
namespace Go.Proofs.YtjfdmdmlgdgchaaDoor
open Go.RowKit
set_option linter.unusedVariables false
set_option linter.unusedSimpArgs false
set_option maxHeartbeats 2000000
attribute [local go_sem] growUpon_value growUpon_skip growUpon_enter
attribute [local go_sem] givesUpon_value givesUpon_skip givesUpon_enter
/-! The model's text of an item. -/
/-- one more word, with nothing behind it -/
theorem opt_text1 (t : Bool) (L : List (List UInt8)) (m : List UInt8) (lit : Array UInt8) (hl : lit.toList = 32 :: m) (hL : L ≠ []) (hb : (Lib.join L [32]).length + lit.size ≤ 1000000) :
    (t = false → Lib.join (optL t [m] L) [32] = Lib.join L [32]) ∧ (t = true → ∀ w, (binOp .add 9 (tx (Lib.join L [32])) (.string ⟨lit⟩)).run Tryd.prog w = .ok (tx (Lib.join (optL t [m] L) [32])) w) := by
  refine ⟨fun h => by subst h; rfl, fun h w => ?_⟩
  subst h
  have e : Lib.join (optL true [m] L) [32] = Lib.join L [32] ++ lit.toList := by
    rw [hl, optL, if_pos rfl, join_snoc L m [32] hL]; simp
  rw [e]
  exact run_cat _ lit.toList w (by simp; omega)
/-- one more word with a number -/
theorem opt_text2 (t : Bool) (L : List (List UInt8)) (m n : List UInt8) (lit : Array UInt8) (hl : lit.toList = 32 :: m ++ [32]) (hL : L ≠ []) (hb : (Lib.join L [32]).length + lit.size + n.length ≤ 1000000) :
    ∃ A : List UInt8, (t = false → Lib.join (optL t [m, n] L) [32] = Lib.join L [32]) ∧ (∀ w, (binOp .add 9 (tx (Lib.join L [32])) (.string ⟨lit⟩)).run Tryd.prog w = .ok (tx A) w) ∧ (t = true → ∀ w, (binOp .add 9 (tx A) (tx n)).run Tryd.prog w = .ok (tx (Lib.join (optL t [m, n] L) [32])) w) := by
  refine ⟨Lib.join L [32] ++ lit.toList, fun h => by subst h; rfl, fun w => run_cat _ lit.toList w (by simp; omega), fun h w => ?_⟩
  subst h
  have e : Lib.join (optL true [m, n] L) [32] = (Lib.join L [32] ++ lit.toList) ++ n := by
    rw [hl, optL, if_pos rfl, show L ++ [m, n] = (L ++ [m]) ++ [n] by simp, join_snoc _ n [32] (by simp), join_snoc L m [32] hL]; simp
  rw [e]
  exact run_cat _ _ w (by simp; omega)
theorem jlen {L : List (List UInt8)} (h : ∀ x ∈ L, x.length ≤ 50) (hn : L.length ≤ 12) : (Lib.join L [32]).length ≤ 700 := by
  have h1 := join_le 50 [32] (by simp) L h
  have : L.length * 51 ≤ 12 * 51 := Nat.mul_le_mul_right _ hn
  omega
set_option maxRecDepth 100000 in
theorem spackText_v (w0 h0 s : Int) (fx fy ex : Bool) (an px py : Int) (w : World) (hv : vpB w0 h0 s an px py = true) :
    Calls Tryd.prog 34 #[.agg #[.int .i64 w0, .int .i64 h0, .int .i64 s, .bool fx, .bool fy, .bool ex, .int .i64 an, .int .i64 px, .int .i64 py]] w fun e w' => e = .returned (tx (pkT w0 h0 s fx fy ex an px py)) ∧ Below w.heap.size w w' := by
  obtain ⟨⟨a1, a2⟩, ⟨a3, a4⟩, ⟨a5, a6⟩, ⟨a7, a8⟩, ⟨a9, a10⟩, ⟨a11, a12⟩⟩ := vpB_iff.1 hv
  have hs4 : s = 0 ∨ s = 1 ∨ s = 2 ∨ s = 3 := by omega
  have HS4 := Lib.hid hs4
  have IW := Lib.hid (fun w => number_v w0 (by omega) w)
  have IH := Lib.hid (fun w => number_v h0 (by omega) w)
  have IA := Lib.hid (fun w => number_v an (by omega) w)
  have IX := Lib.hid (fun w => number_v px (by omega) w)
  have IY := Lib.hid (fun w => number_v py (by omega) w)
  have i1 := @itoa_small w0 (by omega)
  have i2 := @itoa_small h0 (by omega)
  have i3 := @itoa_small an (by omega)
  have i4 := @itoa_small px (by omega)
  have i5 := @itoa_small py (by omega)
  have hsd : (sideB s).length ≤ 50 := by rcases hs4 with rfl | rfl | rfl | rfl <;> decide
  have q0 : ∀ x ∈ wd0 w0 h0 s, x.length ≤ 50 := by
    intro x hx
    simp only [wd0, List.mem_cons, List.not_mem_nil, or_false] at hx
    rcases hx with rfl | rfl | rfl <;> assumption
  have q1 : ∀ x ∈ wd1 w0 h0 s fx, x.length ≤ 50 := opt_all (by intro x hx; obtain rfl := List.mem_singleton.1 hx; decide) q0
  have q2 : ∀ x ∈ wd2 w0 h0 s fx fy, x.length ≤ 50 := opt_all (by intro x hx; obtain rfl := List.mem_singleton.1 hx; decide) q1
  have q3 : ∀ x ∈ wd3 w0 h0 s fx fy ex, x.length ≤ 50 := opt_all (by intro x hx; obtain rfl := List.mem_singleton.1 hx; decide) q2
  have q4 : ∀ x ∈ wd4 w0 h0 s fx fy ex an, x.length ≤ 50 := opt_all (by intro x hx; simp only [List.mem_cons, List.not_mem_nil, or_false] at hx; rcases hx with rfl | rfl; decide; exact i3) q3
  have q5 : ∀ x ∈ wd5 w0 h0 s fx fy ex an px, x.length ≤ 50 := opt_all (by intro x hx; simp only [List.mem_cons, List.not_mem_nil, or_false] at hx; rcases hx with rfl | rfl; decide; exact i4) q4
  have l0 : (wd0 w0 h0 s).length = 3 := rfl
  have l1 : (wd1 w0 h0 s fx).length ≤ 4 := by have := optL_len fx [FX] (wd0 w0 h0 s); simp at this; unfold wd1; omega
  have l2 : (wd2 w0 h0 s fx fy).length ≤ 5 := by have := optL_len fy [FY] (wd1 w0 h0 s fx); simp at this; unfold wd2; omega
  have l3 : (wd3 w0 h0 s fx fy ex).length ≤ 6 := by have := optL_len ex [EX] (wd2 w0 h0 s fx fy); simp at this; unfold wd3; omega
  have l4 : (wd4 w0 h0 s fx fy ex an).length ≤ 8 := by have := optL_len (an != 4) [AN, Lib.itoa an] (wd3 w0 h0 s fx fy ex); simp at this; unfold wd4; omega
  have l5 : (wd5 w0 h0 s fx fy ex an px).length ≤ 10 := by have := optL_len (px != 0) [PXW, Lib.itoa px] (wd4 w0 h0 s fx fy ex an); simp at this; unfold wd5; omega
  have j0 := jlen q0 (by omega)
  have j1 := jlen q1 (by omega)
  have j2 := jlen q2 (by omega)
  have j3 := jlen q3 (by omega)
  have j4 := jlen q4 (by omega)
  have j5 := jlen q5 (by omega)
  have n0 : wd0 w0 h0 s ≠ [] := by simp [wd0]
  have n1 : wd1 w0 h0 s fx ≠ [] := opt_ne n0
  have n2 : wd2 w0 h0 s fx fy ≠ [] := opt_ne n1
  have n3 : wd3 w0 h0 s fx fy ex ≠ [] := opt_ne n2
  have n4 : wd4 w0 h0 s fx fy ex an ≠ [] := opt_ne n3
  have n5 : wd5 w0 h0 s fx fy ex an px ≠ [] := opt_ne n4
  have hE1 : (fx = false → Lib.join (wd1 w0 h0 s fx) [32] = Lib.join (wd0 w0 h0 s) [32]) ∧ (fx = true → ∀ w, (binOp .add 9 (tx (Lib.join (wd0 w0 h0 s) [32])) (.string ⟨#[32, 102, 105, 108, 108, 120]⟩)).run Tryd.prog w = .ok (tx (Lib.join (wd1 w0 h0 s fx) [32])) w) := opt_text1 fx _ FX #[32, 102, 105, 108, 108, 120] rfl n0 (by simp; omega)
  have hE2 : (fy = false → Lib.join (wd2 w0 h0 s fx fy) [32] = Lib.join (wd1 w0 h0 s fx) [32]) ∧ (fy = true → ∀ w, (binOp .add 9 (tx (Lib.join (wd1 w0 h0 s fx) [32])) (.string ⟨#[32, 102, 105, 108, 108, 121]⟩)).run Tryd.prog w = .ok (tx (Lib.join (wd2 w0 h0 s fx fy) [32])) w) := opt_text1 fy _ FY #[32, 102, 105, 108, 108, 121] rfl n1 (by simp; omega)
  have hE3 : (ex = false → Lib.join (wd3 w0 h0 s fx fy ex) [32] = Lib.join (wd2 w0 h0 s fx fy) [32]) ∧ (ex = true → ∀ w, (binOp .add 9 (tx (Lib.join (wd2 w0 h0 s fx fy) [32])) (.string ⟨#[32, 101, 120, 112, 97, 110, 100]⟩)).run Tryd.prog w = .ok (tx (Lib.join (wd3 w0 h0 s fx fy ex) [32])) w) := opt_text1 ex _ EX #[32, 101, 120, 112, 97, 110, 100] rfl n2 (by simp; omega)
  obtain ⟨A4, hE4⟩ : ∃ A : List UInt8, ((an != 4) = false → Lib.join (wd4 w0 h0 s fx fy ex an) [32] = Lib.join (wd3 w0 h0 s fx fy ex) [32]) ∧ (∀ w, (binOp .add 9 (tx (Lib.join (wd3 w0 h0 s fx fy ex) [32])) (.string ⟨#[32, 97, 110, 99, 104, 111, 114, 32]⟩)).run Tryd.prog w = .ok (tx A) w) ∧ ((an != 4) = true → ∀ w, (binOp .add 9 (tx A) (tx (Lib.itoa an))).run Tryd.prog w = .ok (tx (Lib.join (wd4 w0 h0 s fx fy ex an) [32])) w) := opt_text2 (an != 4) _ AN (Lib.itoa an) #[32, 97, 110, 99, 104, 111, 114, 32] rfl n3 (by simp; omega)
  obtain ⟨A5, hE5⟩ : ∃ A : List UInt8, ((px != 0) = false → Lib.join (wd5 w0 h0 s fx fy ex an px) [32] = Lib.join (wd4 w0 h0 s fx fy ex an) [32]) ∧ (∀ w, (binOp .add 9 (tx (Lib.join (wd4 w0 h0 s fx fy ex an) [32])) (.string ⟨#[32, 112, 97, 100, 120, 32]⟩)).run Tryd.prog w = .ok (tx A) w) ∧ ((px != 0) = true → ∀ w, (binOp .add 9 (tx A) (tx (Lib.itoa px))).run Tryd.prog w = .ok (tx (Lib.join (wd5 w0 h0 s fx fy ex an px) [32])) w) := opt_text2 (px != 0) _ PXW (Lib.itoa px) #[32, 112, 97, 100, 120, 32] rfl n4 (by simp; omega)
  obtain ⟨A6, hE6⟩ : ∃ A : List UInt8, ((py != 0) = false → Lib.join (wds w0 h0 s fx fy ex an px py) [32] = Lib.join (wd5 w0 h0 s fx fy ex an px) [32]) ∧ (∀ w, (binOp .add 9 (tx (Lib.join (wd5 w0 h0 s fx fy ex an px) [32])) (.string ⟨#[32, 112, 97, 100, 121, 32]⟩)).run Tryd.prog w = .ok (tx A) w) ∧ ((py != 0) = true → ∀ w, (binOp .add 9 (tx A) (tx (Lib.itoa py))).run Tryd.prog w = .ok (tx (Lib.join (wds w0 h0 s fx fy ex an px py) [32])) w) := opt_text2 (py != 0) _ PYW (Lib.itoa py) #[32, 112, 97, 100, 121, 32] rfl n5 (by simp; omega)
  obtain ⟨B1, b1, g1⟩ := cat_exr (sideB s) #[32] (by simp; omega)
  obtain ⟨B2, b2, g2⟩ := cat_ex B1 (Lib.itoa w0) (by rw [b1]; simp; omega)
  obtain ⟨B3, b3, g3⟩ := cat_exr B2 #[32] (by rw [b2, b1]; simp; omega)
  obtain ⟨B4, b4, g4⟩ := cat_ex B3 (Lib.itoa h0) (by rw [b3, b2, b1]; simp; omega)
  have hB4 : B4 = Lib.join (wd0 w0 h0 s) [32] := by rw [b4, b3, b2, b1, wd0, Lib.join_cons]; simp [Lib.joinTail]
  have xx : (px != 0) = decide (px > 0) := by rcases (show px = 0 ∨ px > 0 by omega) with h | h; (subst h; rfl); (rw [decide_eq_true h]; simp; omega)
  have yy : (py != 0) = decide (py > 0) := by rcases (show py = 0 ∨ py > 0 by omega) with h | h; (subst h; rfl); (rw [decide_eq_true h]; simp; omega)
  rw [xx] at hE5
  rw [yy] at hE6
  unfold pkT
  obtain ⟨T0, hT0⟩ : ∃ T, Lib.join (wd0 w0 h0 s) [32] = T := ⟨_, rfl⟩
  obtain ⟨T1, hT1⟩ : ∃ T, Lib.join (wd1 w0 h0 s fx) [32] = T := ⟨_, rfl⟩
  obtain ⟨T2, hT2⟩ : ∃ T, Lib.join (wd2 w0 h0 s fx fy) [32] = T := ⟨_, rfl⟩
  obtain ⟨T3, hT3⟩ : ∃ T, Lib.join (wd3 w0 h0 s fx fy ex) [32] = T := ⟨_, rfl⟩
  obtain ⟨T4, hT4⟩ : ∃ T, Lib.join (wd4 w0 h0 s fx fy ex an) [32] = T := ⟨_, rfl⟩
  obtain ⟨T5, hT5⟩ : ∃ T, Lib.join (wd5 w0 h0 s fx fy ex an px) [32] = T := ⟨_, rfl⟩
  obtain ⟨T6, hT6⟩ : ∃ T, Lib.join (wds w0 h0 s fx fy ex an px py) [32] = T := ⟨_, rfl⟩
  rw [hT0] at hE1 hB4
  rw [hT1] at hE1 hE2
  rw [hT2] at hE2 hE3
  rw [hT3] at hE3 hE4
  rw [hT4] at hE4 hE5
  rw [hT5] at hE5 hE6
  rw [hT6] at hE6 ⊢
  subst hB4
  clear hT0 hT1 hT2 hT3 hT4 hT5 hT6 j0 l0 n0 q0 j1 l1 n1 q1 j2 l2 n2 q2 j3 l3 n3 q3 j4 l4 n4 q4 j5 l5 n5 q5 i1 i2 i3 i4 i5 b1 b2 b3 b4 hsd xx yy hv a1 a2 a3 a4 a5 a6 a7 a8 a9 a10 a11 a12 hs4
  have HE1 := Lib.hid hE1
  have HE2 := Lib.hid hE2
  have HE3 := Lib.hid hE3
  have HE4 := Lib.hid hE4
  have HE5 := Lib.hid hE5
  have HE6 := Lib.hid hE6
  clear hE1 hE2 hE3 hE4 hE5 hE6
  go_enter Tryd.func34, Tryd.ntmps34
  go_wp2_with fail
  have HX := Lib.hid (newS w (.cells #[.int .i64 w0, .int .i64 h0, .int .i64 s, .bool fx, .bool fy, .bool ex, .int .i64 an, .int .i64 px, .int .i64 py] 23))
  have HB := Lib.hid (balloc (o := (.cells #[.int .i64 w0, .int .i64 h0, .int .i64 s, .bool fx, .bool fy, .bool ex, .int .i64 an, .int .i64 px, .int .i64 py] 23)) (Below.refl w.heap.size w))
  refine wp_named (fun W0 e0 => ?_)
  rw [← e0] at HX HB ⊢
  clear e0
  obtain ⟨c0, c1, c2, c3, c4, c5, c6, c7, c8⟩ := b9c HX.out
  have hlx := ltS HX.out
  refine wp_region_rxl 15 1 [] #[true, true, true, true, true, true, true, true, true, true, true, true, true, true, true, false] (by kernel_rfl) (by kernel_rfl) (by kernel_rfl) ((fun v a => SWv a v) :: XV (.pointer (some ⟨w.heap.size, 2, none⟩)) :: XV (.int .i64 s) :: (fun v a => SPt (sideB s) a v) :: XV (tx (sideB s)) :: XV (tx B1) :: XV (.pointer (some ⟨w.heap.size, 0, none⟩)) :: XV (.int .i64 w0) :: XV (tx (Lib.itoa w0)) :: XV (tx B2) :: XV (tx B3) :: XV (.pointer (some ⟨w.heap.size, 1, none⟩)) :: XV (.int .i64 h0) :: XV (tx (Lib.itoa h0)) :: XV (tx B4) :: []) (by kernel_rfl) (by kernel_rfl) (by kernel_rfl) ?hTs ?hXs ?hops ?hfin
  case hTs =>
    intro T hT
    simp only [List.mem_cons, List.not_mem_nil, or_false] at hT
    rcases hT with rfl | rfl | rfl | rfl | rfl | rfl | rfl | rfl | rfl | rfl | rfl | rfl | rfl | rfl | rfl <;> first | exact stay_V _ | exact stay_T | exact stay_of (fun v a b x g => x.keep g) | exact stay_of (fun v a b x g => x)
  case hXs =>
    intro x d s hx
    exact absurd hx (List.not_mem_nil)
  case hops =>
    refine ⟨opOK_rx [] (by kernel_rfl) rfl ?_, ?_⟩
    · intro act w' hw' 
      have hk : ∀ v, act.eval (.const v) = v := fun _ => rfl
      have hf : ∀ f, act.eval (.func f) = .func (.func f) #[] #[] := fun _ => rfl
      generalize act.eval = ρ at *
      refine gx_gen (fun K hK => ?_)
      obtain ⟨hc, hf'⟩ := bcell (bdrewn hw'.out)
      go_simp
      (with_reducible refine (ssideWords_v _).mono ?_); rintro e w2 ⟨⟨v, rfl, hv⟩, hb⟩; exact ⟨v, rfl, hK _ _ ⟨hv, Gr.of hb⟩⟩
    refine ⟨opOK_rx [(1, none)] (by kernel_rfl) rfl ?_, ?_⟩
    · intro act w' hw' h1
      have hk : ∀ v, act.eval (.const v) = v := fun _ => rfl
      have hf : ∀ f, act.eval (.func f) = .func (.func f) #[] #[] := fun _ => rfl
      generalize act.eval = ρ at *
      replace h1 : ρ (.tmp 1) = .pointer (some ⟨w.heap.size, 0, none⟩) := h1
      refine gx_gen (fun K hK => ?_)
      obtain ⟨hc, hf'⟩ := bcell (bdrewn hw'.out)
      go_simp
      exact hK _ _ ⟨rfl, Gr.refl _⟩
    refine ⟨opOK_rx [(5, some 1)] (by kernel_rfl) rfl ?_, ?_⟩
    · intro act w' hw' h1
      have hk : ∀ v, act.eval (.const v) = v := fun _ => rfl
      have hf : ∀ f, act.eval (.func f) = .func (.func f) #[] #[] := fun _ => rfl
      generalize act.eval = ρ at *
      replace h1 : ρ (.tmp 5) = .pointer (some ⟨w.heap.size, 2, none⟩) := h1
      refine gx_gen (fun K hK => ?_)
      obtain ⟨hc, hf'⟩ := bcell (bdrewn hw'.out)
      go_simp
      exact hK _ _ ⟨rfl, Gr.refl _⟩
    refine ⟨opOK_rx [(4, some 0), (6, some 2)] (by kernel_rfl) rfl ?_, ?_⟩
    · intro act w' hw' h1 h2
      have hk : ∀ v, act.eval (.const v) = v := fun _ => rfl
      have hf : ∀ f, act.eval (.func f) = .func (.func f) #[] #[] := fun _ => rfl
      generalize act.eval = ρ at *
      replace h1 : (fun v a => SWv a v) (ρ (.tmp 4)) w' := h1
      replace h2 : ρ (.tmp 6) = .int .i64 s := h2
      refine gx_gen (fun K hK => ?_)
      obtain ⟨g, e4, hS⟩ := h1; rcases HS4.out with rfl | rfl | rfl | rfl <;> (go_simp; exact hK _ _ ⟨⟨g, _, rfl, hS.1, hS.at _ rfl⟩, Gr.refl _⟩)
    refine ⟨opOK_rx [(7, some 3)] (by kernel_rfl) rfl ?_, ?_⟩
    · intro act w' hw' h1
      have hk : ∀ v, act.eval (.const v) = v := fun _ => rfl
      have hf : ∀ f, act.eval (.func f) = .func (.func f) #[] #[] := fun _ => rfl
      generalize act.eval = ρ at *
      replace h1 : (fun v a => SPt (sideB s) a v) (ρ (.tmp 7)) w' := h1
      refine gx_gen (fun K hK => ?_)
      obtain ⟨b, o, e7, hl, hcl⟩ := h1; go_simp; exact hK _ _ ⟨rfl, Gr.refl _⟩
    refine ⟨opOK_rx [(8, some 4)] (by kernel_rfl) rfl ?_, ?_⟩
    · intro act w' hw' h1
      have hk : ∀ v, act.eval (.const v) = v := fun _ => rfl
      have hf : ∀ f, act.eval (.func f) = .func (.func f) #[] #[] := fun _ => rfl
      generalize act.eval = ρ at *
      replace h1 : ρ (.tmp 8) = tx (sideB s) := h1
      refine gx_gen (fun K hK => ?_)
      obtain ⟨hc, hf'⟩ := bcell (bdrewn hw'.out)
      go_simp
      exact hK _ _ ⟨rfl, Gr.refl _⟩
    refine ⟨opOK_rx [(1, none)] (by kernel_rfl) rfl ?_, ?_⟩
    · intro act w' hw' h1
      have hk : ∀ v, act.eval (.const v) = v := fun _ => rfl
      have hf : ∀ f, act.eval (.func f) = .func (.func f) #[] #[] := fun _ => rfl
      generalize act.eval = ρ at *
      replace h1 : ρ (.tmp 1) = .pointer (some ⟨w.heap.size, 0, none⟩) := h1
      refine gx_gen (fun K hK => ?_)
      obtain ⟨hc, hf'⟩ := bcell (bdrewn hw'.out)
      go_simp
      exact hK _ _ ⟨rfl, Gr.refl _⟩
    refine ⟨opOK_rx [(10, some 6)] (by kernel_rfl) rfl ?_, ?_⟩
    · intro act w' hw' h1
      have hk : ∀ v, act.eval (.const v) = v := fun _ => rfl
      have hf : ∀ f, act.eval (.func f) = .func (.func f) #[] #[] := fun _ => rfl
      generalize act.eval = ρ at *
      replace h1 : ρ (.tmp 10) = .pointer (some ⟨w.heap.size, 0, none⟩) := h1
      refine gx_gen (fun K hK => ?_)
      obtain ⟨hc, hf'⟩ := bcell (bdrewn hw'.out)
      go_simp
      exact hK _ _ ⟨rfl, Gr.refl _⟩
    refine ⟨opOK_rx [(11, some 7)] (by kernel_rfl) rfl ?_, ?_⟩
    · intro act w' hw' h1
      have hk : ∀ v, act.eval (.const v) = v := fun _ => rfl
      have hf : ∀ f, act.eval (.func f) = .func (.func f) #[] #[] := fun _ => rfl
      generalize act.eval = ρ at *
      replace h1 : ρ (.tmp 11) = .int .i64 w0 := h1
      refine gx_gen (fun K hK => ?_)
      obtain ⟨hc, hf'⟩ := bcell (bdrewn hw'.out)
      go_simp
      (with_reducible refine (IW.out _).mono ?_); rintro e w2 ⟨rfl, hb⟩; exact ⟨_, rfl, hK _ _ ⟨rfl, Gr.of hb⟩⟩
    refine ⟨opOK_rx [(9, some 5), (12, some 8)] (by kernel_rfl) rfl ?_, ?_⟩
    · intro act w' hw' h1 h2
      have hk : ∀ v, act.eval (.const v) = v := fun _ => rfl
      have hf : ∀ f, act.eval (.func f) = .func (.func f) #[] #[] := fun _ => rfl
      generalize act.eval = ρ at *
      replace h1 : ρ (.tmp 9) = tx B1 := h1
      replace h2 : ρ (.tmp 12) = tx (Lib.itoa w0) := h2
      refine gx_gen (fun K hK => ?_)
      obtain ⟨hc, hf'⟩ := bcell (bdrewn hw'.out)
      go_simp
      exact hK _ _ ⟨rfl, Gr.refl _⟩
    refine ⟨opOK_rx [(13, some 9)] (by kernel_rfl) rfl ?_, ?_⟩
    · intro act w' hw' h1
      have hk : ∀ v, act.eval (.const v) = v := fun _ => rfl
      have hf : ∀ f, act.eval (.func f) = .func (.func f) #[] #[] := fun _ => rfl
      generalize act.eval = ρ at *
      replace h1 : ρ (.tmp 13) = tx B2 := h1
      refine gx_gen (fun K hK => ?_)
      obtain ⟨hc, hf'⟩ := bcell (bdrewn hw'.out)
      go_simp
      exact hK _ _ ⟨rfl, Gr.refl _⟩
    refine ⟨opOK_rx [(1, none)] (by kernel_rfl) rfl ?_, ?_⟩
    · intro act w' hw' h1
      have hk : ∀ v, act.eval (.const v) = v := fun _ => rfl
      have hf : ∀ f, act.eval (.func f) = .func (.func f) #[] #[] := fun _ => rfl
      generalize act.eval = ρ at *
      replace h1 : ρ (.tmp 1) = .pointer (some ⟨w.heap.size, 0, none⟩) := h1
      refine gx_gen (fun K hK => ?_)
      obtain ⟨hc, hf'⟩ := bcell (bdrewn hw'.out)
      go_simp
      exact hK _ _ ⟨rfl, Gr.refl _⟩
    refine ⟨opOK_rx [(15, some 11)] (by kernel_rfl) rfl ?_, ?_⟩
    · intro act w' hw' h1
      have hk : ∀ v, act.eval (.const v) = v := fun _ => rfl
      have hf : ∀ f, act.eval (.func f) = .func (.func f) #[] #[] := fun _ => rfl
      generalize act.eval = ρ at *
      replace h1 : ρ (.tmp 15) = .pointer (some ⟨w.heap.size, 1, none⟩) := h1
      refine gx_gen (fun K hK => ?_)
      obtain ⟨hc, hf'⟩ := bcell (bdrewn hw'.out)
      go_simp
      exact hK _ _ ⟨rfl, Gr.refl _⟩
    refine ⟨opOK_rx [(16, some 12)] (by kernel_rfl) rfl ?_, ?_⟩
    · intro act w' hw' h1
      have hk : ∀ v, act.eval (.const v) = v := fun _ => rfl
      have hf : ∀ f, act.eval (.func f) = .func (.func f) #[] #[] := fun _ => rfl
      generalize act.eval = ρ at *
      replace h1 : ρ (.tmp 16) = .int .i64 h0 := h1
      refine gx_gen (fun K hK => ?_)
      obtain ⟨hc, hf'⟩ := bcell (bdrewn hw'.out)
      go_simp
      (with_reducible refine (IH.out _).mono ?_); rintro e w2 ⟨rfl, hb⟩; exact ⟨_, rfl, hK _ _ ⟨rfl, Gr.of hb⟩⟩
    refine ⟨opOK_rx [(14, some 10), (17, some 13)] (by kernel_rfl) rfl ?_, ?_⟩
    · intro act w' hw' h1 h2
      have hk : ∀ v, act.eval (.const v) = v := fun _ => rfl
      have hf : ∀ f, act.eval (.func f) = .func (.func f) #[] #[] := fun _ => rfl
      generalize act.eval = ρ at *
      replace h1 : ρ (.tmp 14) = tx B3 := h1
      replace h2 : ρ (.tmp 17) = tx (Lib.itoa h0) := h2
      refine gx_gen (fun K hK => ?_)
      obtain ⟨hc, hf'⟩ := bcell (bdrewn hw'.out)
      go_simp
      exact hK _ _ ⟨rfl, Gr.refl _⟩
    exact trivial
  case hfin =>
    intro w1 hg1
    intro v4 t4
    replace t4 : (fun v a => SWv a v) v4 w1 := t4
    intro v5 t5
    replace t5 : v5 = .pointer (some ⟨w.heap.size, 2, none⟩) := t5
    subst t5
    intro v6 t6
    replace t6 : v6 = .int .i64 s := t6
    subst t6
    intro v7 t7
    replace t7 : (fun v a => SPt (sideB s) a v) v7 w1 := t7
    intro v8 t8
    replace t8 : v8 = tx (sideB s) := t8
    subst t8
    intro v9 t9
    replace t9 : v9 = tx B1 := t9
    subst t9
    intro v10 t10
    replace t10 : v10 = .pointer (some ⟨w.heap.size, 0, none⟩) := t10
    subst t10
    intro v11 t11
    replace t11 : v11 = .int .i64 w0 := t11
    subst t11
    intro v12 t12
    replace t12 : v12 = tx (Lib.itoa w0) := t12
    subst t12
    intro v13 t13
    replace t13 : v13 = tx B2 := t13
    subst t13
    intro v14 t14
    replace t14 : v14 = tx B3 := t14
    subst t14
    intro v15 t15
    replace t15 : v15 = .pointer (some ⟨w.heap.size, 1, none⟩) := t15
    subst t15
    intro v16 t16
    replace t16 : v16 = .int .i64 h0 := t16
    subst t16
    intro v17 t17
    replace t17 : v17 = tx (Lib.itoa h0) := t17
    subst t17
    intro v18 t18
    replace t18 : v18 = tx B4 := t18
    subst t18
    have hb1 := bdrewn hg1.out
    clear hg1
    simp only [finP, List.take_succ_cons, List.take_zero, Act.put, List.setIfInBounds_toArray, List.set_cons_succ, List.set_cons_zero]
    refine wpAny_one (i := 15) (by kernel_rfl) rfl rfl ?_
    go_simp
    refine wpAny_end (by kernel_rfl) ?_
    refine NoPan.thn ?_
    replace HX := Lib.hid ((hb1.block w.heap.size hlx).trans HX.out)
    replace HB := Lib.hid (bkeep2 HB.out hb1)
    clear hb1 c0 c1 c2 c3 c4 c5 c6 c7 c8 hlx t4 t7 HS4 g1 g2 g3 g4
    obtain ⟨c0, c1, c2, c3, c4, c5, c6, c7, c8⟩ := b9c HX.out
    go_upto_if 20 with (fail)
    go_cut [3] (fun sv wx => sv = tx T1 ∧ wx = w1)
    case first =>
      have hE := HE1.out
      cases fx
      · have e := hE.1 rfl
        clear hE
        go_wp2
        go_meet
        exact ⟨by rw [e], rfl⟩
      · have e := hE.2 rfl
        clear hE
        go_wp2
        go_meet
        exact ⟨rfl, rfl⟩
    case rest =>
    obtain ⟨hsv, hwv⟩ := hcut
    subst hsv
    replace hwv := hwv.symm
    subst hwv
    clear c0 c1 c2 c3 c4 c5 c6 c7 c8 HE1
    obtain ⟨c0, c1, c2, c3, c4, c5, c6, c7, c8⟩ := b9c HX.out
    go_upto_if 24 with (fail)
    go_cut [3] (fun sv wx => sv = tx T2 ∧ wx = w1)
    case first =>
      have hE := HE2.out
      cases fy
      · have e := hE.1 rfl
        clear hE
        go_wp2
        go_meet
        exact ⟨by rw [e], rfl⟩
      · have e := hE.2 rfl
        clear hE
        go_wp2
        go_meet
        exact ⟨rfl, rfl⟩
    case rest =>
    obtain ⟨hsv, hwv⟩ := hcut
    subst hsv
    replace hwv := hwv.symm
    subst hwv
    clear c0 c1 c2 c3 c4 c5 c6 c7 c8 HE2
    obtain ⟨c0, c1, c2, c3, c4, c5, c6, c7, c8⟩ := b9c HX.out
    go_upto_if 28 with (fail)
    go_cut [3] (fun sv wx => sv = tx T3 ∧ wx = w1)
    case first =>
      have hE := HE3.out
      cases ex
      · have e := hE.1 rfl
        clear hE
        go_wp2
        go_meet
        exact ⟨by rw [e], rfl⟩
      · have e := hE.2 rfl
        clear hE
        go_wp2
        go_meet
        exact ⟨rfl, rfl⟩
    case rest =>
    obtain ⟨hsv, hwv⟩ := hcut
    subst hsv
    replace hwv := hwv.symm
    subst hwv
    clear c0 c1 c2 c3 c4 c5 c6 c7 c8 HE3
    obtain ⟨c0, c1, c2, c3, c4, c5, c6, c7, c8⟩ := b9c HX.out
    have hlx := ltS HX.out
    go_upto_if 33 with (fail)
    go_cut [3] (fun sv wx => sv = tx T4 ∧ wx.heap[w.heap.size]? = some (.cells #[.int .i64 w0, .int .i64 h0, .int .i64 s, .bool fx, .bool fy, .bool ex, .int .i64 an, .int .i64 px, .int .i64 py] 23) ∧ Below w.heap.size w wx)
    case first =>
      have hE := HE4.out
      cases hb : (an != 4)
      · have e := hE.1 hb
        clear hE
        have e4 : (an == 4) = true := by simpa using hb
        have e4' : (!(an == 4)) = false := by rw [e4]; rfl
        go_wp2
        go_meet
        exact ⟨by rw [e], HX.out, HB.out⟩
      · have e1 := hE.2.1
        have e2 := hE.2.2 hb
        clear hE
        have e4 : (an == 4) = false := by simpa using hb
        have e4' : (!(an == 4)) = true := by rw [e4]; rfl
        go_wp2_with fail
        with_reducible refine (IA.out _).mono ?_
        rintro e w2 ⟨rfl, hbx⟩
        have HX2 := Lib.hid ((hbx.block w.heap.size hlx).trans HX.out)
        have HB2 := Lib.hid (bkeep2 HB.out hbx)
        clear c0 c1 c2 c3 c4 c5 c6 c7 c8 hbx
        go_wp2
        go_meet
        exact ⟨rfl, HX2.out, HB2.out⟩
    case rest =>
    obtain ⟨hsv, hxv, hbv⟩ := hcut
    subst hsv
    replace HX := Lib.hid hxv
    replace HB := Lib.hid hbv
    clear hxv hbv c0 c1 c2 c3 c4 c5 c6 c7 c8 hlx HE4
    obtain ⟨c0, c1, c2, c3, c4, c5, c6, c7, c8⟩ := b9c HX.out
    have hlx := ltS HX.out
    go_upto_if 42 with (fail)
    go_cut [3] (fun sv wx => sv = tx T5 ∧ wx.heap[w.heap.size]? = some (.cells #[.int .i64 w0, .int .i64 h0, .int .i64 s, .bool fx, .bool fy, .bool ex, .int .i64 an, .int .i64 px, .int .i64 py] 23) ∧ Below w.heap.size w wx)
    case first =>
      have hE := HE5.out
      cases hb : (decide (px > 0))
      · have e := hE.1 hb
        clear hE
        go_wp2
        go_meet
        exact ⟨by rw [e], HX.out, HB.out⟩
      · have e1 := hE.2.1
        have e2 := hE.2.2 hb
        clear hE
        go_wp2_with fail
        with_reducible refine (IX.out _).mono ?_
        rintro e w2 ⟨rfl, hbx⟩
        have HX2 := Lib.hid ((hbx.block w.heap.size hlx).trans HX.out)
        have HB2 := Lib.hid (bkeep2 HB.out hbx)
        clear c0 c1 c2 c3 c4 c5 c6 c7 c8 hbx
        go_wp2
        go_meet
        exact ⟨rfl, HX2.out, HB2.out⟩
    case rest =>
    obtain ⟨hsv, hxv, hbv⟩ := hcut
    subst hsv
    replace HX := Lib.hid hxv
    replace HB := Lib.hid hbv
    clear hxv hbv c0 c1 c2 c3 c4 c5 c6 c7 c8 hlx HE5
    obtain ⟨c0, c1, c2, c3, c4, c5, c6, c7, c8⟩ := b9c HX.out
    have hlx := ltS HX.out
    go_upto_if 51 with (fail)
    go_cut [3] (fun sv wx => sv = tx T6 ∧ wx.heap[w.heap.size]? = some (.cells #[.int .i64 w0, .int .i64 h0, .int .i64 s, .bool fx, .bool fy, .bool ex, .int .i64 an, .int .i64 px, .int .i64 py] 23) ∧ Below w.heap.size w wx)
    case first =>
      have hE := HE6.out
      cases hb : (decide (py > 0))
      · have e := hE.1 hb
        clear hE
        go_wp2
        go_meet
        exact ⟨by rw [e], HX.out, HB.out⟩
      · have e1 := hE.2.1
        have e2 := hE.2.2 hb
        clear hE
        go_wp2_with fail
        with_reducible refine (IY.out _).mono ?_
        rintro e w2 ⟨rfl, hbx⟩
        have HX2 := Lib.hid ((hbx.block w.heap.size hlx).trans HX.out)
        have HB2 := Lib.hid (bkeep2 HB.out hbx)
        clear c0 c1 c2 c3 c4 c5 c6 c7 c8 hbx
        go_wp2
        go_meet
        exact ⟨rfl, HX2.out, HB2.out⟩
    case rest =>
    obtain ⟨hsv, hxv, hbv⟩ := hcut
    subst hsv
    replace HX := Lib.hid hxv
    replace HB := Lib.hid hbv
    clear hxv hbv c0 c1 c2 c3 c4 c5 c6 c7 c8 hlx HE6
    go_wp2
    go_ret
    exact ⟨rfl, HB.out⟩
end Go.Proofs.YtjfdmdmlgdgchaaDoor
end
section
namespace Go.Proofs.YtjfdmdmlgdgchaaDoor
open Go.RowKit
set_option linter.unusedVariables false
set_option maxHeartbeats 1000000
attribute [local go_sem] growUpon_value growUpon_skip growUpon_enter
theorem sPackText_v (w0 h0 s : Int) (fx fy ex : Bool) (an px py : Int) (w : World) :
    Calls Tryd.prog 18 #[.agg #[.int .i64 w0, .int .i64 h0, .int .i64 s, .bool fx, .bool fy, .bool ex, .int .i64 an, .int .i64 px, .int .i64 py]] w fun e w' => e = .returned (tx (if vpB w0 h0 s an px py then pkT w0 h0 s fx fy ex an px py else [])) ∧ Below w.heap.size w w' := by
  have HV := Lib.hid (fun w => specValidPack_any w0 h0 s fx fy ex an px py w)
  cases hv : vpB w0 h0 s an px py
  · rw [hv] at HV
    go_enter Tryd.func18, Tryd.ntmps18
    go_wp2_with fail
    with_reducible refine (HV.out _).mono ?_
    rintro e w1 ⟨rfl, hb⟩
    go_wp2
    go_ret
    exact ⟨rfl, bkeep2 (balloc (Below.refl _ _)) hb⟩
  · rw [hv] at HV
    have HW := Lib.hid (fun w => spackText_v w0 h0 s fx fy ex an px py w hv)
    rw [if_pos rfl]
    generalize pkT w0 h0 s fx fy ex an px py = L at *
    clear hv
    have HX := Lib.hid (newS w (.cells #[.int .i64 w0, .int .i64 h0, .int .i64 s, .bool fx, .bool fy, .bool ex, .int .i64 an, .int .i64 px, .int .i64 py] 23))
    have HB := Lib.hid (balloc (o := (.cells #[.int .i64 w0, .int .i64 h0, .int .i64 s, .bool fx, .bool fy, .bool ex, .int .i64 an, .int .i64 px, .int .i64 py] 23)) (Below.refl w.heap.size w))
    go_enter Tryd.func18, Tryd.ntmps18
    go_wp2_with fail
    with_reducible refine (HV.out _).mono ?_
    rintro e w1 ⟨rfl, hb⟩
    replace HX := Lib.hid ((hb.block _ (Array.getElem?_eq_some_iff.1 HX.out).1).trans HX.out)
    replace HB := Lib.hid (bkeep2 HB.out hb)
    clear hb
    obtain ⟨c0, c1, c2, c3, c4, c5, c6, c7, c8⟩ := b9c HX.out
    go_wp2_with fail
    with_reducible refine (HW.out _).mono ?_
    rintro e w2 ⟨rfl, hb⟩
    clear c0 c1 c2 c3 c4 c5 c6 c7 c8
    replace HB := Lib.hid (bkeep2 HB.out hb)
    clear hb
    go_wp2
    go_ret
    exact ⟨rfl, HB.out⟩
end Go.Proofs.YtjfdmdmlgdgchaaDoor
end
section
namespace Go.Proofs.YtjfdmdmlgdgchaaDoor
set_option linter.unusedVariables false
set_option linter.unusedSimpArgs false
/-! Which words are numbers. -/
theorem dec_small {m : Nat} (h : m < 10) : Lib.decDigits m = [UInt8.ofNat (48 + m)] := by rw [Lib.decDigits, dif_pos h]
theorem dec_big {m : Nat} (h : ¬ m < 10) : Lib.decDigits m = Lib.decDigits (m / 10) ++ [UInt8.ofNat (48 + m % 10)] := by rw [Lib.decDigits, dif_neg h]
theorem dec_app {n d : Nat} (hn : 1 ≤ n) (hd : d < 10) : Lib.decDigits (10 * n + d) = Lib.decDigits n ++ [UInt8.ofNat (48 + d)] := by
  rw [dec_big (by omega), show (10 * n + d) / 10 = n by omega, show (10 * n + d) % 10 = d by omega]
/-- what a number's word begins with is a number's word -/
theorem dec_prefix : ∀ (m : Nat) (p q : List UInt8), Lib.decDigits m = p ++ q → p ≠ [] → ∃ m', p = Lib.decDigits m' ∧ m' ≤ m ∧ (q ≠ [] → 1 ≤ m' ∧ 10 * m' ≤ m) := by
  intro m
  induction m using Nat.strongRecOn with
  | _ m ih =>
    intro p q h hp
    by_cases hq : q = []
    · subst hq
      exact ⟨m, by simpa using h.symm, Nat.le_refl _, fun h => absurd rfl h⟩
    · by_cases hm : m < 10
      · rw [dec_small hm] at h
        have := congrArg List.length h
        simp only [List.length_append, List.length_singleton] at this
        have h1 : p.length ≠ 0 := fun e => hp (List.length_eq_zero_iff.1 e)
        have h2 : q.length ≠ 0 := fun e => hq (List.length_eq_zero_iff.1 e)
        omega
      · rw [dec_big hm] at h
        obtain ⟨q', x, rfl⟩ : ∃ q' x, q = q' ++ [x] := ⟨q.dropLast, q.getLast hq, (List.dropLast_concat_getLast hq).symm⟩
        rw [← List.append_assoc] at h
        have h' := List.append_inj_left' h rfl
        obtain ⟨m', e, hle, hmore⟩ := ih (m / 10) (by omega) p q' h' hp
        refine ⟨m', e, by omega, fun _ => ?_⟩
        by_cases hq' : q' = []
        · subst hq'
          have : m / 10 = m' := dec_inj (by rw [h', ← e]; simp)
          omega
        · have := hmore hq'
          omega
/-- the number that a word is in decimal, up to most; -1 for other words -/
def numV (most : Nat) (l : List UInt8) : Int := match (List.range (most + 1)).find? (fun m => Lib.decDigits m == l) with
  | some m => m
  | none => -1
theorem numV_yes {most m : Nat} (h : m ≤ most) : numV most (Lib.decDigits m) = m := by
  unfold numV
  cases hf : (List.range (most + 1)).find? (fun k => Lib.decDigits k == Lib.decDigits m) with
  | none =>
    have := List.find?_eq_none.1 hf m (List.mem_range.2 (by omega))
    simp at this
  | some k =>
    have := List.find?_some hf
    have e : Lib.decDigits k = Lib.decDigits m := by simpa using this
    rw [dec_inj e]
theorem numV_no {most : Nat} {l : List UInt8} (h : ∀ m, m ≤ most → Lib.decDigits m ≠ l) : numV most l = -1 := by
  unfold numV
  cases hf : (List.range (most + 1)).find? (fun k => Lib.decDigits k == l) with
  | none => rfl
  | some k =>
    have h1 := List.find?_some hf
    have h2 := List.mem_range.1 (List.mem_of_find?_eq_some hf)
    exact absurd (by simpa using h1) (h k (by omega))
theorem numV_cases (most : Nat) (l : List UInt8) : (∃ m, m ≤ most ∧ l = Lib.decDigits m ∧ numV most l = m) ∨ (numV most l = -1 ∧ ∀ m, m ≤ most → Lib.decDigits m ≠ l) := by
  by_cases h : ∃ m, m ≤ most ∧ Lib.decDigits m = l
  · obtain ⟨m, hm, rfl⟩ := h
    exact .inl ⟨m, hm, rfl, numV_yes hm⟩
  · have h' : ∀ m, m ≤ most → Lib.decDigits m ≠ l := fun m hm e => h ⟨m, hm, e⟩
    exact .inr ⟨numV_no h', h'⟩
theorem numV_itoa {most : Nat} {n : Int} (h : 0 ≤ n ∧ n ≤ most) : numV most (Lib.itoa n) = n := by
  obtain ⟨m, rfl⟩ := Int.eq_ofNat_of_zero_le h.1
  rw [Lib.itoa, if_neg (by omega)]
  simpa using numV_yes (most := most) (m := m) (by omega)
/-- how far the reading of a number has come: nothing yet, or a number's word -/
def NumS (p : List UInt8) (n : Int) : Prop := (p = [] ∧ n = -1) ∨ ∃ k : Nat, n = k ∧ p = Lib.decDigits k
theorem NumS.nonneg {p : List UInt8} {n : Int} (h : NumS p n) : -1 ≤ n := by rcases h with ⟨_, rfl⟩ | ⟨k, rfl, _⟩ <;> omega
/-- one digit more -/
theorem NumS.step {p : List UInt8} {n : Int} (h : NumS p n) (h0 : n ≠ 0) {c : UInt8} (hc : 48 ≤ c.toNat ∧ c.toNat ≤ 57) : NumS (p ++ [c]) (10 * (if n < 0 then 0 else n) + ((c.toNat : Int) - 48)) := by
  have hcc : c = UInt8.ofNat (48 + (c.toNat - 48)) := by
    rw [show 48 + (c.toNat - 48) = c.toNat by omega]; simp
  rcases h with ⟨rfl, rfl⟩ | ⟨k, rfl, rfl⟩
  · refine .inr ⟨c.toNat - 48, ?_, ?_⟩
    · rw [if_pos (by omega)]; omega
    · rw [dec_small (by omega), List.nil_append, ← hcc]
  · refine .inr ⟨10 * k + (c.toNat - 48), ?_, ?_⟩
    · rw [if_neg (by omega)]; omega
    · rw [dec_app (by omega) (by omega), ← hcc]
/-- a number that goes on -/
theorem numS_stop0 {most : Nat} {p : List UInt8} {c : UInt8} {r : List UInt8} (h : NumS p 0) : numV most (p ++ c :: r) = -1 := numV_no fun m hm e => by
  rcases h with ⟨_, h⟩ | ⟨k, hk, rfl⟩
  · omega
  · obtain ⟨m', e1, _, h2⟩ := dec_prefix m _ _ e (dec_ne_nil k)
    have := dec_inj e1
    have := (h2 (by simp)).1
    omega
theorem numS_stopc {most : Nat} {p : List UInt8} {c : UInt8} {r : List UInt8} (hc : ¬ (48 ≤ c.toNat ∧ c.toNat ≤ 57)) : numV most (p ++ c :: r) = -1 := numV_no fun m hm e => hc (dec_ge m c (by rw [e]; simp))
theorem numS_stopm {most : Nat} {p : List UInt8} {n : Int} {r : List UInt8} (h : NumS p n) (hn : (most : Int) < n) : numV most (p ++ r) = -1 := numV_no fun m hm e => by
  rcases h with ⟨_, h⟩ | ⟨k, rfl, rfl⟩
  · omega
  · obtain ⟨m', e1, h1, _⟩ := dec_prefix m _ _ e (dec_ne_nil k)
    have := dec_inj e1
    omega
theorem numS_end {most : Nat} {p : List UInt8} {n : Int} (h : NumS p n) (hn : n ≤ most) : numV most p = n := by
  rcases h with ⟨rfl, rfl⟩ | ⟨k, rfl, rfl⟩
  · exact numV_no fun m _ e => dec_ne_nil m e
  · exact numV_yes (by omega)
end Go.Proofs.YtjfdmdmlgdgchaaDoor
end
section
namespace Go.Proofs.YtjfdmdmlgdgchaaDoor
open Go.RowKit
set_option linter.unusedVariables false
set_option linter.unusedSimpArgs false
set_option maxHeartbeats 2000000
attribute [local go_sem 5000] run_mx run_mn
/-! impl.numberOf. -/
theorem sget (s : ByteArray) (pos : Nat) (h : pos < s.size) : s.data.toList = s.data.toList.take pos ++ s[pos]'h :: s.data.toList.drop (pos + 1) := by
  have hl : pos < s.data.toList.length := by simpa using h
  have e : s[pos]'h = s.data.toList[pos] := by simp [ByteArray.getElem_eq_getElem_data]
  rw [e, List.getElem_cons_drop, List.take_append_drop]
theorem stake (s : ByteArray) (pos : Nat) (h : pos < s.size) : s.data.toList.take (pos + 1) = s.data.toList.take pos ++ [s[pos]'h] := by
  have hl : pos < s.data.toList.length := by simpa using h
  have e : s[pos]'h = s.data.toList[pos] := by simp [ByteArray.getElem_eq_getElem_data]
  rw [e, List.take_succ_eq_append_getElem hl]
set_option maxRecDepth 100000 in
theorem numberOf_v (s : ByteArray) (hs : s.size ≤ 4294967280) (w : World) : Calls Tryd.prog 69 #[.string s] w fun e w' => e = .returned (.int .i64 (numV 400 s.data.toList)) ∧ Below w.heap.size w w' := by
  obtain ⟨V, hV⟩ : ∃ V, numV 400 s.data.toList = V := ⟨_, rfl⟩
  rw [hV]
  have HV := Lib.hid hV
  clear hV
  go_enter Tryd.func69, Tryd.ntmps69
  go_wp2_with fail
  go_loopw [3] (fun nv wr => ∃ (pos : Nat) (n : Int), nv = .int .i64 n ∧ pos ≤ s.size ∧ NumS (s.data.toList.take pos) n ∧ n ≤ 400 ∧ wr = w.iter s pos) (fun _ wr => s.size - wr.iterPos w.heap.size)
  case atStart => exact ⟨0, -1, rfl, by omega, .inl ⟨rfl, rfl⟩, by omega, rfl⟩
  case round =>
    obtain ⟨pos, n, rfl, hpos, hN, hn, rfl⟩ := hrel
    by_cases hp : pos < s.size
    · have hnx : ∀ ty, (Instr.next (.pointer (some ⟨w.heap.size, 0, none⟩)) true ty).run Tryd.prog (w.iter s pos) = _ := fun ty => Lib.run_next_any_at (w.iter s pos) w.heap.size s pos ty (World.iter_heap _ _ _) hp
      have hit := World.iter_heap w s pos
      by_cases hb : (s[pos]'hp).toNat < 128
      · have hd := decode_ascii s pos hp hb
        have hia : (w.iter s pos).iterAt w.heap.size s (pos + 1) = w.iter s (pos + 1) := World.iter_set w s pos (pos + 1)
        rw [hd, hia] at hnx
        have hsp := sget s pos hp
        have htk := stake s pos hp
        obtain ⟨b, hbb⟩ : ∃ b, s[pos]'hp = b := ⟨_, rfl⟩
        rw [hbb] at hnx hsp htk hb
        have wB : IntKind.i64.wrap (b.toNat : Int) = (b.toNat : Int) := IntWalk.i64_in _ (by omega)
        have wB2 : wrap64 (b.toNat : Int) = (b.toNat : Int) := IntWalk.wrap64_in _ (by omega)
        clear hd hbb hia
        by_cases hn0 : n = 0
        · subst hn0
          have hr : V = -1 := by rw [← HV.out, hsp]; exact numS_stop0 hN
          subst hr
          clear hsp htk
          go_wp2
          go_ret
          exact ⟨rfl, balloc (Below.refl _ _)⟩
        · have hne : (n == 0) = false := by simpa using hn0
          by_cases hc : 48 ≤ b.toNat ∧ b.toNat ≤ 57
          · have hrg : rng (b.toNat : Int) 48 57 = true := rng_iff.2 (by omega)
            have hS := hN.step hn0 hc
            rw [← htk] at hS
            have hM : (if n < 0 then (0 : Int) else n) = max n 0 := by split <;> omega
            rw [hM] at hS
            have hms : 0 ≤ max n 0 ∧ (max n 0 = 0 ∨ max n 0 = n) := by omega
            have hn1 := hN.nonneg
            obtain ⟨m, hm⟩ : ∃ m, max n 0 = m := ⟨_, rfl⟩
            rw [hm] at hS hms
            have wM : IntKind.i64.wrap (10 * m) = 10 * m := IntWalk.i64_in _ (by omega)
            have wS : IntKind.i32.wrap ((b.toNat : Int) - 48) = (b.toNat : Int) - 48 := IntWalk.i32_in _ (by omega)
            have wS2 : IntKind.i64.wrap ((b.toNat : Int) - 48) = (b.toNat : Int) - 48 := IntWalk.i64_in _ (by omega)
            obtain ⟨n', hn'⟩ : ∃ n', 10 * m + ((b.toNat : Int) - 48) = n' := ⟨_, rfl⟩
            have wA : IntKind.i64.wrap (10 * m + ((b.toNat : Int) - 48)) = n' := (IntWalk.i64_in _ (by omega)).trans hn'
            rw [hn'] at hS
            have hN' := Lib.hid hS
            have hpp := Lib.hid hp
            have hpl : pos + 1 ≤ s.size := by omega
            by_cases hg : n' > 400
            · have hr : V = -1 := by
                rw [← HV.out, show s.data.toList = s.data.toList.take (pos + 1) ++ s.data.toList.drop (pos + 1) from (List.take_append_drop _ _).symm]
                exact numS_stopm hS (by omega)
              subst hr
              have hgd : decide (n' > 400) = true := by simpa using hg
              clear hsp htk hN hS hms hn1 hn' hM
              go_wp2_with (go_at_call 41; refine (within_any _ _ _ _).mono ?_; rintro e w' ⟨rfl, rfl⟩)
              go_ret
              exact ⟨rfl, balloc (Below.refl _ _)⟩
            · have hgd : decide (n' > 400) = false := by simpa using hg
              clear hsp htk hN hS hms hn1 hn' hM
              go_wp2_with (go_at_call 41; refine (within_any _ _ _ _).mono ?_; rintro e w' ⟨rfl, rfl⟩)
              go_roundw
              case rel => exact ⟨pos + 1, n', rfl, hpl, hN'.out, by omega, rfl⟩
              case measure =>
                simp only [World.iterPos, World.iter_heap]
                have := hpp.out
                omega
          · have hrg : rng (b.toNat : Int) 48 57 = false := rng_not.2 (by omega)
            have hr : V = -1 := by rw [← HV.out, hsp]; exact numS_stopc hc
            subst hr
            clear hsp htk hN
            go_wp2_with (go_at_call 41; refine (within_any _ _ _ _).mono ?_; rintro e w' ⟨rfl, rfl⟩)
            go_ret
            exact ⟨rfl, balloc (Below.refl _ _)⟩
      · have hd := decode_high s pos hp (by omega)
        have hr : V = -1 := by rw [← HV.out, sget s pos hp]; exact numS_stopc (by omega)
        obtain ⟨D, hD⟩ : ∃ D, Utf8.decode s pos = D := ⟨_, rfl⟩
        have hia : (w.iter s pos).iterAt w.heap.size s (pos + D.2) = w.iter s (pos + D.2) := World.iter_set w s pos _
        rw [hD] at hnx hd
        rw [hia] at hnx
        subst hr
        have h4 := decode_le s pos
        rw [hD] at h4
        have wB : IntKind.i64.wrap (D.1 : Int) = (D.1 : Int) := IntWalk.i64_in _ (by omega)
        have hrg : rng (D.1 : Int) 48 57 = false := rng_not.2 (by omega)
        by_cases hn0 : n = 0
        · subst hn0
          clear hN
          go_wp2
          go_ret
          exact ⟨rfl, balloc (Below.refl _ _)⟩
        · have hne : (n == 0) = false := by simpa using hn0
          clear hN
          go_wp2_with (go_at_call 41; refine (within_any _ _ _ _).mono ?_; rintro e w' ⟨rfl, rfl⟩)
          go_ret
          exact ⟨rfl, balloc (Below.refl _ _)⟩
    · have hnx : ∀ ty, (Instr.next (.pointer (some ⟨w.heap.size, 0, none⟩)) true ty).run Tryd.prog (w.iter s pos) = _ := fun ty => Lib.run_next_end_at (w.iter s pos) w.heap.size s pos ty (World.iter_heap _ _ _) hp
      have he : s.data.toList.take pos = s.data.toList := List.take_of_length_le (by simp; omega)
      rw [he] at hN
      have hr : n = V := by rw [← HV.out]; exact (numS_end (most := 400) hN (by omega)).symm
      subst hr
      clear he
      go_wp2
      go_ret
      exact ⟨rfl, balloc (Below.refl _ _)⟩
end Go.Proofs.YtjfdmdmlgdgchaaDoor
end
section
namespace Go.Proofs.YtjfdmdmlgdgchaaDoor
open Go.RowKit
set_option linter.unusedVariables false
set_option linter.unusedSimpArgs false
set_option maxHeartbeats 2000000
/-! spec.readNumber. -/
theorem bs_ne {s t : ByteArray} (h : ¬ s = t) : (s == t) = false := by
  cases s with | mk a =>
  cases t with | mk b =>
  have : (a == b) = false := beq_false_of_ne (fun e : a = b => h (by rw [e]))
  exact this
theorem vdig_app (p : List UInt8) (c : UInt8) : vdig (p ++ [c]) = 10 * vdig p + (c.toNat - 48) := by
  unfold vdig; rw [List.foldl_append]; rfl
theorem numV_more {p : List UInt8} {c : UInt8} {r : List UInt8} (h : 99 < vdig p) : numV 999 (p ++ c :: r) = -1 := numV_no fun m hm e => by
  have hp : p ≠ [] := fun e => by subst e; simp [vdig] at h
  obtain ⟨m', e1, _, h2⟩ := dec_prefix m _ _ e hp
  have := h2 (by simp)
  rw [e1, vdig_dec] at h
  omega
theorem numV_same {l : List UInt8} (h : vdig l ≤ 999) (e : l = Lib.decDigits (vdig l)) : numV 999 l = (vdig l : Int) := by
  conv => lhs; rw [e]
  exact numV_yes h
theorem numV_diff {l : List UInt8} (e : l ≠ Lib.decDigits (vdig l)) : numV 999 l = -1 := numV_no fun m hm e' => e (by
  have := vdig_dec m
  rw [e'] at this
  rw [this, e'])
theorem eqg_cc (o : BinOp) (s t : Operand) (a : List UInt8) (b : ByteArray) (w : World) : (eqGuard o 9 s t (tx a) (.string b)).run Tryd.prog w = .ok () w := by
  unfold tx
  cases o <;> go_simp
theorem eql_nil (w : World) : (binOp .eql 9 (tx []) (.string ⟨#[]⟩)).run Tryd.prog w = .ok (.bool true) w := by
  unfold tx
  go_simp
theorem txs_ne {a b : List UInt8} (h : a ≠ b) : ¬ (⟨a.toArray⟩ : ByteArray) = ⟨b.toArray⟩ := fun e => h (by simpa using e)
theorem eql_no (a : List UInt8) (h : a ≠ []) (w : World) : (binOp .eql 9 (tx a) (.string ⟨#[]⟩)).run Tryd.prog w = .ok (.bool false) w := by
  have h' := txs_ne h
  unfold tx
  go_simp
theorem neq_yes (a b : List UInt8) (h : a ≠ b) (w : World) : (binOp .neq 9 (tx a) (tx b)).run Tryd.prog w = .ok (.bool true) w := by
  have h' := txs_ne h
  unfold tx
  go_simp
theorem eql_not (a b : List UInt8) (h : a ≠ b) (w : World) : (binOp .eql 9 (tx a) (tx b)).run Tryd.prog w = .ok (.bool false) w := by
  have h' := txs_ne h
  unfold tx
  go_simp
set_option maxRecDepth 100000 in
theorem readNumber_v (s : ByteArray) (hs : s.size ≤ 4294967280) (w : World) : Calls Tryd.prog 46 #[.string s] w fun e w' => e = .returned (.int .i64 (numV 999 s.data.toList)) ∧ Below w.heap.size w w' := by
  obtain ⟨V, hV⟩ : ∃ V, numV 999 s.data.toList = V := ⟨_, rfl⟩
  rw [hV]
  have HV := Lib.hid hV
  clear hV
  go_enter Tryd.func46, Tryd.ntmps46
  go_wp2_with fail
  go_loop [3, 4] (fun nv iv => ∃ (pos : Nat) (n : Nat), nv = .int .i64 n ∧ iv = .int .i64 pos ∧ pos ≤ s.size ∧ n = vdig (s.data.toList.take pos) ∧ n ≤ 999) (fun _ iv => s.size - (intOf iv).toNat)
  case atStart => exact ⟨0, 0, rfl, rfl, by omega, rfl, by omega⟩
  case round =>
    obtain ⟨pos, n, rfl, rfl, hpos, hN, hn⟩ := hrel
    by_cases hp : pos < s.size
    · have hd : decide ((pos : Int) < (s.size : Int)) = true := decide_eq_true (by omega)
      have hsp := sget s pos hp
      have htk := stake s pos hp
      obtain ⟨b, hbb⟩ : ∃ b, s[pos]'hp = b := ⟨_, rfl⟩
      have HSP := Lib.hid hsp
      have HTK := Lib.hid htk
      have HN := Lib.hid hN
      have HB := Lib.hid hbb
      clear hsp htk hN
      by_cases hc1 : b.toNat < 48
      · have hd1 : decide ((b.toNat : Int) < 48) = true := decide_eq_true (by omega)
        have hr : V = -1 := by rw [← HV.out, HSP.out, HB.out]; exact numS_stopc (by omega)
        subst hr
        go_wp2
        go_ret
        exact ⟨rfl, Below.refl _ _⟩
      · have hd1 : decide ((b.toNat : Int) < 48) = false := decide_eq_false (by omega)
        by_cases hc2 : 57 < b.toNat
        · have hd2 : decide ((b.toNat : Int) > 57) = true := decide_eq_true (by omega)
          have hr : V = -1 := by rw [← HV.out, HSP.out, HB.out]; exact numS_stopc (by omega)
          subst hr
          go_wp2
          go_ret
          exact ⟨rfl, Below.refl _ _⟩
        · have hd2 : decide ((b.toNat : Int) > 57) = false := decide_eq_false (by omega)
          by_cases hc3 : 99 < n
          · have hd3 : decide ((n : Int) > 99) = true := decide_eq_true (by omega)
            have hr : V = -1 := by rw [← HV.out, HSP.out, HB.out]; exact numV_more (by rw [← HN.out]; exact hc3)
            subst hr
            go_wp2
            go_ret
            exact ⟨rfl, Below.refl _ _⟩
          · have hd3 : decide ((n : Int) > 99) = false := decide_eq_false (by omega)
            have wM : IntKind.i64.wrap (10 * (n : Int)) = 10 * (n : Int) := IntWalk.i64_in _ (by omega)
            have wS : IntKind.u8.wrap ((b.toNat : Int) - 48) = (b.toNat : Int) - 48 := IntWalk.u8_in _ (by omega)
            have wS2 : IntKind.i64.wrap ((b.toNat : Int) - 48) = (b.toNat : Int) - 48 := IntWalk.i64_in _ (by omega)
            obtain ⟨n', hn'⟩ : ∃ n', 10 * n + (b.toNat - 48) = n' := ⟨_, rfl⟩
            have wA : IntKind.i64.wrap (10 * (n : Int) + ((b.toNat : Int) - 48)) = (n' : Int) := (IntWalk.i64_in _ (by omega)).trans (by omega)
            have wP : IntKind.i64.wrap ((pos : Int) + 1) = ((pos + 1 : Nat) : Int) := (IntWalk.i64_in _ (by omega)).trans (by omega)
            have hN2 : n' = vdig (s.data.toList.take (pos + 1)) := by rw [HTK.out, HB.out, vdig_app, ← HN.out]; exact hn'.symm
            have HN2 := Lib.hid hN2
            have hl9 : n' ≤ 999 := by omega
            clear hN2 hn'
            go_wp2
            go_roundw
            · exact ⟨pos + 1, n', rfl, rfl, by omega, HN2.out, hl9⟩
            · simp [intOf]; omega
    · have hd : decide ((pos : Int) < (s.size : Int)) = false := decide_eq_false (by omega)
      have he : s.data.toList.take pos = s.data.toList := List.take_of_length_le (by simp; omega)
      rw [he] at hN
      have HN := Lib.hid hN
      have G1 : ∀ a b w, (eqGuard .eql 9 a b (.string s) (.string ⟨#[]⟩)).run Tryd.prog w = .ok () w := fun a b w => eqg_cc .eql a b s.data.toList ⟨#[]⟩ w
      have G2 : ∀ a b w, (eqGuard .neq 9 a b (.string s) (tx (Lib.itoa n))).run Tryd.prog w = .ok () w := fun a b w => eqg_tx .neq a b s.data.toList (Lib.itoa n) w
      have hit : Lib.itoa n = Lib.decDigits n := by rw [Lib.itoa, if_neg (by omega)]; simp
      have HNUM := Lib.hid (fun w => number_v (n : Int) (by omega) w)
      clear hN he
      by_cases h0 : s.data.toList = []
      · have hr : V = -1 := by rw [← HV.out, h0]; exact numV_no fun m _ e => dec_ne_nil m e
        subst hr
        have hs0 : s = ⟨#[]⟩ := by
          have : s.data = #[] := by simpa using h0
          cases s; simp_all
        subst hs0
        clear h0 HN HV HNUM hit G1 G2
        go_wp2
        go_ret
        exact ⟨rfl, Below.refl _ _⟩
      · have g1 : ∀ w, (binOp .eql 9 (.string s) (.string ⟨#[]⟩)).run Tryd.prog w = .ok (.bool false) w := fun w => eql_no s.data.toList h0 w
        have hz1 : ¬ s = ⟨#[]⟩ := fun e => h0 (by rw [e])
        have hz2 : (s == ⟨#[]⟩) = false := bs_ne hz1
        have hz3 : ¬ s.toList = [] := fun e => hz1 ((toList_nil_iff_emptyBytes s).1 e)
        have hz4 : s.toList.isEmpty = false := by cases h : s.toList with | nil => exact absurd h hz3 | cons a t => rfl
        by_cases hq : s.data.toList = Lib.decDigits n
        · have hr : V = n := by rw [← HV.out, numV_same (by rw [← HN.out]; exact hn) (by rw [← HN.out]; exact hq), ← HN.out]
          subst hr
          have g2 : ∀ w, (binOp .neq 9 (.string s) (tx (Lib.itoa n))).run Tryd.prog w = .ok (.bool false) w := fun w => by
            have := ne_same s.data.toList w
            rw [hit, ← hq]
            exact this
          clear h0 hq hit
          go_wp2_with fail
          with_reducible refine (HNUM.out _).mono ?_
          rintro e w2 ⟨rfl, hb⟩
          go_wp2
          go_ret
          exact ⟨rfl, hb⟩
        · have hr : V = -1 := by rw [← HV.out]; exact numV_diff (by rw [← HN.out]; exact hq)
          subst hr
          have g2 : ∀ w, (binOp .neq 9 (.string s) (tx (Lib.itoa n))).run Tryd.prog w = .ok (.bool true) w := fun w => neq_yes s.data.toList _ (by rw [hit]; exact hq) w
          clear h0 hq hit
          go_wp2_with fail
          with_reducible refine (HNUM.out _).mono ?_
          rintro e w2 ⟨rfl, hb⟩
          go_wp2
          go_ret
          exact ⟨rfl, hb⟩
end Go.Proofs.YtjfdmdmlgdgchaaDoor
end
