import Derived.Test.YtjfdmdmlgdgchaaDoorQ08
section
namespace Go.Proofs.YtjfdmdmlgdgchaaDoor
open Go.RowKit
set_option linter.unusedVariables false
set_option linter.unusedSimpArgs false
set_option maxHeartbeats 2000000
attribute [local go_sem] growUpon_value growUpon_skip growUpon_enter
attribute [local go_sem] givesUpon_value givesUpon_skip givesUpon_enter
/-! spec.parsePack. -/
theorem OWN.sls {base : Nat} {L : List (List UInt8)} {w : World} {v : Value} (h : OWN base L w v) (hn : L ≠ []) : ∃ g cap, v = .slice (some ⟨g, 0, none⟩) L.length cap ∧ SLs w g 0 L ∧ base ≤ g ∧ L.length ≤ cap := by
  obtain ⟨_, _, h⟩ := h
  have h0 : L.length ≠ 0 := fun e => hn (List.length_eq_zero_iff.1 e)
  rcases h with ⟨rfl, h⟩ | ⟨g, cap, cur, rfl, hb, hg, hc, hm, hs, ht⟩
  · omega
  · refine ⟨g, cap, rfl, ⟨ltS hg, fun j x hj => ?_⟩, hb, hc⟩
    have e : (tvals L)[j]? = some (tx x) := by simp [tvals, hj]
    have hi := (List.getElem?_eq_some_iff.1 hj).1
    rw [← ht, List.getElem?_take, if_pos (by omega)] at e
    have e' : cur[j]? = some (tx x) := by simpa using e
    rw [Nat.zero_add]
    exact (cellS hg j).trans e'
theorem readNumber_x (x : List UInt8) (hs : x.length ≤ 4294967280) (w : World) : Calls Tryd.prog 46 #[tx x] w fun e w' => e = .returned (.int .i64 (numV 999 x)) ∧ Below w.heap.size w w' := readNumber_v ⟨x.toArray⟩ hs w
/-- a row of nine of one's own, somewhere new -/
def BX9 (m : Nat) (cs : Array Value) (w : World) (v : Value) : Prop := ∃ b, v = .pointer (some ⟨b, 0, none⟩) ∧ m ≤ b ∧ w.heap[b]? = some (.cells cs 23 (0, 0))
theorem BX9.keep {m : Nat} {cs : Array Value} {w w' : World} {v : Value} (h : BX9 m cs w v) (hb : Below w.heap.size w w') : BX9 m cs w' v := let ⟨b, e, h1, h2⟩ := h; ⟨b, e, h1, (hb.block _ (ltS h2)).trans h2⟩
theorem wp_PW {K : Act → World → Prop} {a : Act} {W : World} (F : World → Prop) (hF : F W) (h : ∀ W0, F W0 → K a W0) : K a W := h W hF
def IXV (x : List UInt8) (v : Value) : Prop := ∃ r, v = .int .i64 r ∧ IXP x r
def P0V (x0 x1 x2 : List UInt8) (v : Value) : Prop := ∃ r, IXP x0 r ∧ v = .agg #[.int .i64 (numV 999 x1), .int .i64 (numV 999 x2), .int .i64 r, .bool false, .bool false, .bool false, .int .i64 4, .int .i64 0, .int .i64 0]
theorem splitAt_x (l : List UInt8) (c : UInt8) (k : Int) (hk : (c.toNat : Int) = k) (hs : l.length ≤ 1048576) (w : World) : Calls Tryd.prog 43 #[tx l, .int .u8 k] w fun e w' => (∃ v, e = .returned v ∧ OWN w.heap.size (splitL c l) w' v) ∧ Below w.heap.size w w' := splitAt_v ⟨l.toArray⟩ c k hk (by show l.toArray.size ≤ _; simpa using hs) w
set_option maxRecDepth 100000 in
theorem parsePack_v (l : List UInt8) (hs : l.length ≤ 1048576) (w : World) : Calls Tryd.prog 24 #[tx l] w fun e w' => (∃ p ok, e = .returned (.tuple #[.agg #[.int .i64 p.w0, .int .i64 p.h0, .int .i64 p.s, .bool p.fx, .bool p.fy, .bool p.ex, .int .i64 p.an, .int .i64 p.px, .int .i64 p.py], .bool ok]) ∧ (ok = true → prs l = some p) ∧ (ok = false → prs l = none)) ∧ Below w.heap.size w w' := by
  have HS := Lib.hid (fun w => splitAt_x l 32 32 rfl hs w)
  obtain ⟨L, hL⟩ : ∃ L, splitL 32 l = L := ⟨_, rfl⟩
  have HL := Lib.hid hL
  have hlen : L.length ≤ l.length + 1 := hL ▸ splitL_len 32 l
  have hmem : ∀ x ∈ L, x.length ≤ 4294967280 := fun x hx => by have := splitL_mem 32 l x (hL ▸ hx); omega
  have hLne : L ≠ [] := hL ▸ splitL_ne 32 l
  rw [hL] at HS
  have HM := Lib.hid hmem
  clear hL hmem
  go_enter Tryd.func24, Tryd.ntmps24
  go_upto_region 1 with (fail)
  refine wp_PK (fun W => W.heap[w.heap.size]? = some (.cells #[.int .i64 0, .int .i64 0, .int .i64 0, .bool false, .bool false, .bool false, .int .i64 0, .int .i64 0, .int .i64 0] 23 (0, 0)) ∧ Below w.heap.size w W) ⟨newS w _, balloc (Below.refl _ _)⟩ ?_
  rintro W0 ⟨hz, hB⟩
  have HX := Lib.hid hz
  have HB := Lib.hid hB
  clear hz hB
  go_wp2_with fail
  with_reducible refine (HS.out _).mono ?_
  rintro e w1 ⟨⟨v, rfl, ho⟩, hb⟩
  have hxl := ltS HX.out
  obtain ⟨g, cap, rfl, hS, hgb, hcap⟩ := ho.sls hLne
  replace HX := Lib.hid ((hb.block _ (Array.getElem?_eq_some_iff.1 HX.out).1).trans HX.out)
  replace HB := Lib.hid (bkeep2 HB.out hb)
  clear hb
  have HSL := Lib.hid hS
  clear hS ho HS
  by_cases h3 : L.length < 3
  · have hd : decide ((L.length : Int) < 3) = true := decide_eq_true (by omega)
    have hnone : prs l = none := by
      cases hp : prs l with
      | none => rfl
      | some p =>
        obtain ⟨_, h2, _⟩ := prs_words hp
        have := words_len p
        rw [← h2, HL.out] at this
        omega
    obtain ⟨q0, q1, q2, q3, q4, q5, q6, q7, q8⟩ := b9c HX.out
    have f0 := frozenS HX.out 0
    have f1 := frozenS HX.out 1
    have f2 := frozenS HX.out 2
    have f3 := frozenS HX.out 3
    have f4 := frozenS HX.out 4
    have f5 := frozenS HX.out 5
    have f6 := frozenS HX.out 6
    have f7 := frozenS HX.out 7
    have f8 := frozenS HX.out 8
    go_wp2
    exact bodyPost_ret (v := ansV none) (by simp only [results, Tryd.results24]; go_simp; rfl) rfl ⟨⟨⟨0, 0, 0, false, false, false, 0, 0, 0⟩, false, rfl, fun h => by simp at h, fun _ => hnone⟩, bput (bput (bput (bput (bput (bput (bput (bput (bput (HB.out) (by show w.heap.size ≤ _; omega)) (by show w.heap.size ≤ _; omega)) (by show w.heap.size ≤ _; omega)) (by show w.heap.size ≤ _; omega)) (by show w.heap.size ≤ _; omega)) (by show w.heap.size ≤ _; omega)) (by show w.heap.size ≤ _; omega)) (by show w.heap.size ≤ _; omega)) (by show w.heap.size ≤ _; omega)⟩
  · have hd : decide ((L.length : Int) < 3) = false := decide_eq_false (by omega)
    obtain ⟨X0, X1, X2, L3, rfl⟩ : ∃ x0 x1 x2 r, L = x0 :: x1 :: x2 :: r := by
      match L, h3 with
      | x0 :: x1 :: x2 :: r, _ => exact ⟨x0, x1, x2, r, rfl⟩
      | [], h => exact absurd (by simp) h
      | [_], h => exact absurd (by simp) h
      | [_, _], h => exact absurd (by simp) h
    have c0 := HSL.out.at 0 rfl
    have c1 := HSL.out.at 1 rfl
    have c2 := HSL.out.at 2 rfl
    have hlg := HSL.out.1
    have R1 := Lib.hid (fun w => readNumber_x X1 (HM.out _ (by simp)) w)
    have R2 := Lib.hid (fun w => readNumber_x X2 (HM.out _ (by simp)) w)
    obtain ⟨n, hn⟩ : ∃ n, (X0 :: X1 :: X2 :: L3).length = n := ⟨_, rfl⟩
    rw [hn] at hcap hlen hd h3 ⊢
    have hn0 : 0 < n := by omega
    have hn1 : (1 : Int) < (n : Int) := by omega
    have hn2 : (2 : Int) < (n : Int) := by omega
    go_upto_region 4 with (fail)
    refine wp_region_rxl 15 1 [] #[true, true, true, true, true, true, true, true, true, true, true, true, true, true, true, false] (by kernel_rfl) (by kernel_rfl) (by kernel_rfl) ((fun v a => SWv a v) :: XV (.slice (some ⟨g, 0, none⟩) n cap) :: XV (.pointer (some ⟨g, 0, none⟩)) :: XV (tx X0) :: (fun v a => IXV X0 v) :: XV (.slice (some ⟨g, 0, none⟩) n cap) :: XV (.pointer (some ⟨g, 1, none⟩)) :: XV (tx X1) :: XV (.int .i64 (numV 999 X1)) :: XV (.slice (some ⟨g, 0, none⟩) n cap) :: XV (.pointer (some ⟨g, 2, none⟩)) :: XV (tx X2) :: XV (.int .i64 (numV 999 X2)) :: (fun v a => P0V X0 X1 X2 v) :: (fun v a => BX9 w1.heap.size #[.int .i64 0, .int .i64 0, .int .i64 0, .bool false, .bool false, .bool false, .int .i64 0, .int .i64 0, .int .i64 0] a v) :: []) (by kernel_rfl) (by kernel_rfl) (by kernel_rfl) ?hTs ?hXs ?hops ?hfin
    case hTs =>
      intro T hT
      simp only [List.mem_cons, List.not_mem_nil, or_false] at hT
      rcases hT with rfl | rfl | rfl | rfl | rfl | rfl | rfl | rfl | rfl | rfl | rfl | rfl | rfl | rfl | rfl <;> first | exact stay_V _ | exact stay_T | exact stay_of (fun v a b x g => x.keep g) | exact stay_of (fun v a b x g => x)
    case hXs =>
      intro x d s hx
      exact absurd hx (List.not_mem_nil)
    case hops =>
      refine ⟨opOK_rx [] (by kernel_rfl) rfl ?_, ?_⟩
      · intro act w' hw' 
        have hk : ∀ v, act.eval (.const v) = v := fun _ => rfl
        have hf : ∀ f, act.eval (.func f) = .func (.func f) #[] #[] := fun _ => rfl
        generalize act.eval = ρ at *
        refine gx_gen (fun K hK => ?_)
        obtain ⟨hc, hf'⟩ := bcell (bdrewn hw'.out)
        go_simp
        (with_reducible refine (ssideWords_v _).mono ?_); rintro e w2 ⟨⟨v, rfl, hv⟩, hb⟩; exact ⟨v, rfl, hK _ _ ⟨hv, Gr.of hb⟩⟩
      refine ⟨opOK_rx [(4, none)] (by kernel_rfl) rfl ?_, ?_⟩
      · intro act w' hw' h1
        have hk : ∀ v, act.eval (.const v) = v := fun _ => rfl
        have hf : ∀ f, act.eval (.func f) = .func (.func f) #[] #[] := fun _ => rfl
        generalize act.eval = ρ at *
        replace h1 : ρ (.tmp 4) = .slice (some ⟨g, 0, none⟩) n cap := h1
        refine gx_gen (fun K hK => ?_)
        obtain ⟨hc, hf'⟩ := bcell (bdrewn hw'.out)
        go_simp
        exact hK _ _ ⟨rfl, Gr.refl _⟩
      refine ⟨opOK_rx [(15, some 1)] (by kernel_rfl) rfl ?_, ?_⟩
      · intro act w' hw' h1
        have hk : ∀ v, act.eval (.const v) = v := fun _ => rfl
        have hf : ∀ f, act.eval (.func f) = .func (.func f) #[] #[] := fun _ => rfl
        generalize act.eval = ρ at *
        replace h1 : ρ (.tmp 15) = .slice (some ⟨g, 0, none⟩) n cap := h1
        refine gx_gen (fun K hK => ?_)
        obtain ⟨hc, hf'⟩ := bcell (bdrewn hw'.out)
        go_simp
        exact hK _ _ ⟨rfl, Gr.refl _⟩
      refine ⟨opOK_rx [(16, some 2)] (by kernel_rfl) rfl ?_, ?_⟩
      · intro act w' hw' h1
        have hk : ∀ v, act.eval (.const v) = v := fun _ => rfl
        have hf : ∀ f, act.eval (.func f) = .func (.func f) #[] #[] := fun _ => rfl
        generalize act.eval = ρ at *
        replace h1 : ρ (.tmp 16) = .pointer (some ⟨g, 0, none⟩) := h1
        refine gx_gen (fun K hK => ?_)
        obtain ⟨hc, hf'⟩ := bcell (bdrewn hw'.out)
        go_simp
        exact hK _ _ ⟨rfl, Gr.refl _⟩
      refine ⟨opOK_rx [(14, some 0), (17, some 3)] (by kernel_rfl) rfl ?_, ?_⟩
      · intro act w' hw' h1 h2
        have hk : ∀ v, act.eval (.const v) = v := fun _ => rfl
        have hf : ∀ f, act.eval (.func f) = .func (.func f) #[] #[] := fun _ => rfl
        generalize act.eval = ρ at *
        replace h1 : (fun v a => SWv a v) (ρ (.tmp 14)) w' := h1
        replace h2 : ρ (.tmp 17) = tx X0 := h2
        refine gx_gen (fun K hK => ?_)
        go_simp; refine (indexOf_v _ X0 _ h1).mono ?_; rintro e w2 ⟨⟨r, rfl, hr⟩, hb⟩; exact ⟨_, rfl, hK _ _ ⟨⟨r, rfl, hr⟩, Gr.of hb⟩⟩
      refine ⟨opOK_rx [(4, none)] (by kernel_rfl) rfl ?_, ?_⟩
      · intro act w' hw' h1
        have hk : ∀ v, act.eval (.const v) = v := fun _ => rfl
        have hf : ∀ f, act.eval (.func f) = .func (.func f) #[] #[] := fun _ => rfl
        generalize act.eval = ρ at *
        replace h1 : ρ (.tmp 4) = .slice (some ⟨g, 0, none⟩) n cap := h1
        refine gx_gen (fun K hK => ?_)
        obtain ⟨hc, hf'⟩ := bcell (bdrewn hw'.out)
        go_simp
        exact hK _ _ ⟨rfl, Gr.refl _⟩
      refine ⟨opOK_rx [(19, some 5)] (by kernel_rfl) rfl ?_, ?_⟩
      · intro act w' hw' h1
        have hk : ∀ v, act.eval (.const v) = v := fun _ => rfl
        have hf : ∀ f, act.eval (.func f) = .func (.func f) #[] #[] := fun _ => rfl
        generalize act.eval = ρ at *
        replace h1 : ρ (.tmp 19) = .slice (some ⟨g, 0, none⟩) n cap := h1
        refine gx_gen (fun K hK => ?_)
        obtain ⟨hc, hf'⟩ := bcell (bdrewn hw'.out)
        go_simp
        exact hK _ _ ⟨rfl, Gr.refl _⟩
      refine ⟨opOK_rx [(20, some 6)] (by kernel_rfl) rfl ?_, ?_⟩
      · intro act w' hw' h1
        have hk : ∀ v, act.eval (.const v) = v := fun _ => rfl
        have hf : ∀ f, act.eval (.func f) = .func (.func f) #[] #[] := fun _ => rfl
        generalize act.eval = ρ at *
        replace h1 : ρ (.tmp 20) = .pointer (some ⟨g, 1, none⟩) := h1
        refine gx_gen (fun K hK => ?_)
        obtain ⟨hc, hf'⟩ := bcell (bdrewn hw'.out)
        go_simp
        exact hK _ _ ⟨rfl, Gr.refl _⟩
      refine ⟨opOK_rx [(21, some 7)] (by kernel_rfl) rfl ?_, ?_⟩
      · intro act w' hw' h1
        have hk : ∀ v, act.eval (.const v) = v := fun _ => rfl
        have hf : ∀ f, act.eval (.func f) = .func (.func f) #[] #[] := fun _ => rfl
        generalize act.eval = ρ at *
        replace h1 : ρ (.tmp 21) = tx X1 := h1
        refine gx_gen (fun K hK => ?_)
        obtain ⟨hc, hf'⟩ := bcell (bdrewn hw'.out)
        go_simp
        (with_reducible refine (R1.out _).mono ?_); rintro e w2 ⟨rfl, hb⟩; exact ⟨_, rfl, hK _ _ ⟨rfl, Gr.of hb⟩⟩
      refine ⟨opOK_rx [(4, none)] (by kernel_rfl) rfl ?_, ?_⟩
      · intro act w' hw' h1
        have hk : ∀ v, act.eval (.const v) = v := fun _ => rfl
        have hf : ∀ f, act.eval (.func f) = .func (.func f) #[] #[] := fun _ => rfl
        generalize act.eval = ρ at *
        replace h1 : ρ (.tmp 4) = .slice (some ⟨g, 0, none⟩) n cap := h1
        refine gx_gen (fun K hK => ?_)
        obtain ⟨hc, hf'⟩ := bcell (bdrewn hw'.out)
        go_simp
        exact hK _ _ ⟨rfl, Gr.refl _⟩
      refine ⟨opOK_rx [(23, some 9)] (by kernel_rfl) rfl ?_, ?_⟩
      · intro act w' hw' h1
        have hk : ∀ v, act.eval (.const v) = v := fun _ => rfl
        have hf : ∀ f, act.eval (.func f) = .func (.func f) #[] #[] := fun _ => rfl
        generalize act.eval = ρ at *
        replace h1 : ρ (.tmp 23) = .slice (some ⟨g, 0, none⟩) n cap := h1
        refine gx_gen (fun K hK => ?_)
        obtain ⟨hc, hf'⟩ := bcell (bdrewn hw'.out)
        go_simp
        exact hK _ _ ⟨rfl, Gr.refl _⟩
      refine ⟨opOK_rx [(24, some 10)] (by kernel_rfl) rfl ?_, ?_⟩
      · intro act w' hw' h1
        have hk : ∀ v, act.eval (.const v) = v := fun _ => rfl
        have hf : ∀ f, act.eval (.func f) = .func (.func f) #[] #[] := fun _ => rfl
        generalize act.eval = ρ at *
        replace h1 : ρ (.tmp 24) = .pointer (some ⟨g, 2, none⟩) := h1
        refine gx_gen (fun K hK => ?_)
        obtain ⟨hc, hf'⟩ := bcell (bdrewn hw'.out)
        go_simp
        exact hK _ _ ⟨rfl, Gr.refl _⟩
      refine ⟨opOK_rx [(25, some 11)] (by kernel_rfl) rfl ?_, ?_⟩
      · intro act w' hw' h1
        have hk : ∀ v, act.eval (.const v) = v := fun _ => rfl
        have hf : ∀ f, act.eval (.func f) = .func (.func f) #[] #[] := fun _ => rfl
        generalize act.eval = ρ at *
        replace h1 : ρ (.tmp 25) = tx X2 := h1
        refine gx_gen (fun K hK => ?_)
        obtain ⟨hc, hf'⟩ := bcell (bdrewn hw'.out)
        go_simp
        (with_reducible refine (R2.out _).mono ?_); rintro e w2 ⟨rfl, hb⟩; exact ⟨_, rfl, hK _ _ ⟨rfl, Gr.of hb⟩⟩
      refine ⟨opOK_rx [(18, some 4), (22, some 8), (26, some 12)] (by kernel_rfl) rfl ?_, ?_⟩
      · intro act w' hw' h1 h2 h3
        have hk : ∀ v, act.eval (.const v) = v := fun _ => rfl
        have hf : ∀ f, act.eval (.func f) = .func (.func f) #[] #[] := fun _ => rfl
        generalize act.eval = ρ at *
        replace h1 : (fun v a => IXV X0 v) (ρ (.tmp 18)) w' := h1
        replace h2 : ρ (.tmp 22) = .int .i64 (numV 999 X1) := h2
        replace h3 : ρ (.tmp 26) = .int .i64 (numV 999 X2) := h3
        refine gx_gen (fun K hK => ?_)
        obtain ⟨r, e18, hr⟩ := h1; go_simp; exact hK _ _ ⟨⟨r, hr, rfl⟩, Gr.refl _⟩
      refine ⟨opOK_rx [] (by kernel_rfl) rfl ?_, ?_⟩
      · intro act w' hw' 
        have hk : ∀ v, act.eval (.const v) = v := fun _ => rfl
        have hf : ∀ f, act.eval (.func f) = .func (.func f) #[] #[] := fun _ => rfl
        generalize act.eval = ρ at *
        refine gx_gen (fun K hK => ?_)
        have hsz2 := (bdrewn hw'.out).size; go_simp; exact hK _ _ ⟨⟨_, rfl, hsz2, newS _ _⟩, Gr.alloc _ _⟩
      exact trivial
    case hfin =>
      intro w4 hg4
      intro v14 t14
      replace t14 : (fun v a => SWv a v) v14 w4 := t14
      intro v15 t15
      replace t15 : v15 = .slice (some ⟨g, 0, none⟩) n cap := t15
      subst t15
      intro v16 t16
      replace t16 : v16 = .pointer (some ⟨g, 0, none⟩) := t16
      subst t16
      intro v17 t17
      replace t17 : v17 = tx X0 := t17
      subst t17
      intro v18 t18
      replace t18 : (fun v a => IXV X0 v) v18 w4 := t18
      intro v19 t19
      replace t19 : v19 = .slice (some ⟨g, 0, none⟩) n cap := t19
      subst t19
      intro v20 t20
      replace t20 : v20 = .pointer (some ⟨g, 1, none⟩) := t20
      subst t20
      intro v21 t21
      replace t21 : v21 = tx X1 := t21
      subst t21
      intro v22 t22
      replace t22 : v22 = .int .i64 (numV 999 X1) := t22
      subst t22
      intro v23 t23
      replace t23 : v23 = .slice (some ⟨g, 0, none⟩) n cap := t23
      subst t23
      intro v24 t24
      replace t24 : v24 = .pointer (some ⟨g, 2, none⟩) := t24
      subst t24
      intro v25 t25
      replace t25 : v25 = tx X2 := t25
      subst t25
      intro v26 t26
      replace t26 : v26 = .int .i64 (numV 999 X2) := t26
      subst t26
      intro v27 t27
      replace t27 : (fun v a => P0V X0 X1 X2 v) v27 w4 := t27
      intro v5 t5
      replace t5 : (fun v a => BX9 w1.heap.size #[.int .i64 0, .int .i64 0, .int .i64 0, .bool false, .bool false, .bool false, .int .i64 0, .int .i64 0, .int .i64 0] a v) v5 w4 := t5
      have hb4 := bdrewn hg4.out
      clear hg4
      simp only [finP, List.take_succ_cons, List.take_zero, Act.put, List.setIfInBounds_toArray, List.set_cons_succ, List.set_cons_zero]
      obtain ⟨r, hr, rfl⟩ := t27
      obtain ⟨pb, rfl, hpb, hpc⟩ := t5
      have HP := Lib.hid hpc
      clear hpc t14 t18 c0 c1 c2 R1 R2
      have hw1 := HB.out.size
      replace HX := Lib.hid ((hb4.block _ (Array.getElem?_eq_some_iff.1 HX.out).1).trans HX.out)
      replace HSL := Lib.hid (HSL.out.keep hb4)
      replace HB := Lib.hid (bkeep2 HB.out hb4)
      clear hb4
      have hpl := ltS HP.out
      have hnx : w.heap.size ≠ pb := by omega
      have hng : g < w1.heap.size := hlg
      have hgn : pb ≠ g := by omega
      have hwp : w.heap.size ≤ pb := by omega
      obtain ⟨q0, q1, q2, q3, q4, q5, q6, q7, q8⟩ := b9c HP.out
      have f0 := frozenS HP.out 0
      have f1 := frozenS HP.out 1
      have f2 := frozenS HP.out 2
      have f3 := frozenS HP.out 3
      have f4 := frozenS HP.out 4
      have f5 := frozenS HP.out 5
      have f6 := frozenS HP.out 6
      have f7 := frozenS HP.out 7
      have f8 := frozenS HP.out 8
      refine wpAny_one (i := 15) (by kernel_rfl) rfl rfl ?_
      go_simp
      refine wpAny_end (by kernel_rfl) ?_
      refine NoPan.thn ?_
      clear q0 q1 q2 q3 q4 q5 q6 q7 q8 f0 f1 f2 f3 f4 f5 f6 f7 f8
      obtain ⟨Ls, hLs⟩ : ∃ Ls, X0 :: X1 :: X2 :: L3 = Ls := ⟨_, rfl⟩
      obtain ⟨S, hSS⟩ : ∃ S, spL (Ls.drop 3) ⟨numV 999 X1, numV 999 X2, r, false, false, false, 4, 0, 0⟩ = S := ⟨_, rfl⟩
      have hpr : ∀ q, prs l = some q → S = some q := fun q hq => by
        rw [← hSS, ← hLs]
        exact prs_sp (L := L3) hq HL.out hr
      rw [hLs] at HSL HM HL hn hLne
      have HSS := Lib.hid hSS
      have HPR := Lib.hid hpr
      clear hSS hpr hr hLs hLne
      refine wp_PW (fun W => W.heap[pb]? = some (.cells #[.int .i64 (numV 999 X1), .int .i64 (numV 999 X2), .int .i64 r, .bool false, .bool false, .bool false, .int .i64 4, .int .i64 0, .int .i64 0] 23 (0, 0)) ∧ W.heap[w.heap.size]? = some (.cells #[.int .i64 0, .int .i64 0, .int .i64 0, .bool false, .bool false, .bool false, .int .i64 0, .int .i64 0, .int .i64 0] 23 (0, 0)) ∧ SLs W g 0 Ls ∧ Below w.heap.size w W) ⟨put9p HP.out _ _ _ _ _ _ _ _ _, (keep9 hnx _ _ _ _ _ _ _ _ _).trans HX.out, ((((((((HSL.out.put _ _ _ hgn).put _ _ _ hgn).put _ _ _ hgn).put _ _ _ hgn).put _ _ _ hgn).put _ _ _ hgn).put _ _ _ hgn).put _ _ _ hgn).put _ _ _ hgn, bput (bput (bput (bput (bput (bput (bput (bput (bput (HB.out) hwp) hwp) hwp) hwp) hwp) hwp) hwp) hwp) hwp⟩ ?_
      rintro W2 ⟨hp, hz, hS, hB⟩
      have HI := Lib.hid (⟨hp, hz, hS, hB⟩ : _ ∧ _ ∧ _ ∧ _)
      clear hp hz hS hB HP HX HSL HB
      go_wp2_with fail
      go_loopw [6] (fun iv wr => ∃ (i : Nat) (p : PKV), iv = .int .i64 i ∧ 3 ≤ i ∧ i ≤ n + 1 ∧ spL (Ls.drop i) p = S ∧ wr.heap[pb]? = some (.cells #[.int .i64 p.w0, .int .i64 p.h0, .int .i64 p.s, .bool p.fx, .bool p.fy, .bool p.ex, .int .i64 p.an, .int .i64 p.px, .int .i64 p.py] 23 (0, 0)) ∧ wr.heap[w.heap.size]? = some (.cells #[.int .i64 0, .int .i64 0, .int .i64 0, .bool false, .bool false, .bool false, .int .i64 0, .int .i64 0, .int .i64 0] 23 (0, 0)) ∧ SLs wr g 0 Ls ∧ Below w.heap.size w wr) (fun iv _ => n + 1 - (intOf iv).toNat)
      case atStart => exact ⟨3, ⟨numV 999 X1, numV 999 X2, r, false, false, false, 4, 0, 0⟩, rfl, by omega, by omega, HSS.out, HI.out.1, HI.out.2.1, HI.out.2.2.1, HI.out.2.2.2⟩
      case round =>
        obtain ⟨i, p, rfl, hi3, hin, hsp, hp, hz, hS, hB⟩ := hrel
        have HSP := Lib.hid hsp
        have HP := Lib.hid hp
        have HX := Lib.hid hz
        have HSL := Lib.hid hS
        have HB := Lib.hid hB
        clear hsp hp hz hS hB HI HSS
        have hwl := ltS HX.out
        have hpl2 := ltS HP.out
        have hgl := HSL.out.1
        by_cases hi : i < n
        · have hd1 : decide ((i : Int) < (n : Int)) = true := decide_eq_true (by omega)
          have hil : i < Ls.length := by omega
          obtain ⟨x, hx⟩ : ∃ x, Ls[i]'hil = x := ⟨_, rfl⟩
          have hx0 : Ls[i]? = some x := by rw [← hx]; exact List.getElem?_eq_getElem hil
          have hdr : Ls.drop i = x :: Ls.drop (i + 1) := by rw [← hx]; exact List.drop_eq_getElem_cons hil
          have HSC : Hid (spL (x :: Ls.drop (i + 1)) p = S) := Lib.hid (hdr ▸ HSP.out)
          have c0 := HSL.out.at i hx0
          have wP : IntKind.i64.wrap ((i : Int) + 1) = ((i + 1 : Nat) : Int) := (IntWalk.i64_in _ (by omega)).trans (by omega)
          have wP2 : IntKind.i64.wrap (((i + 1 : Nat) : Int) + 1) = ((i + 2 : Nat) : Int) := (IntWalk.i64_in _ (by omega)).trans (by omega)
          obtain ⟨NV, hNV⟩ : ∃ NV, numV 999 ((Ls.drop (i + 1)).headD []) = NV := ⟨_, rfl⟩
          have HN := Lib.hid hNV
          have g0 := fun s t b w => eqg_cc .eql s t x b w
          clear hx hx0 hdr HSP hNV
          by_cases hi1 : i + 1 < n
          · have hd2 : decide (((i + 1 : Nat) : Int) < (n : Int)) = true := decide_eq_true (by omega)
            have hil1 : i + 1 < Ls.length := by omega
            obtain ⟨y, hy⟩ : ∃ y, Ls[i + 1]'hil1 = y := ⟨_, rfl⟩
            have hy0 : Ls[i + 1]? = some y := by rw [← hy]; exact List.getElem?_eq_getElem hil1
            have hdy : Ls.drop (i + 1) = y :: Ls.drop (i + 1 + 1) := by rw [← hy]; exact List.drop_eq_getElem_cons hil1
            have c1 := HSL.out.at (i + 1) hy0
            have hyn : numV 999 y = NV := by have := HN.out; rw [hdy, List.headD_cons] at this; exact this
            have RY := Lib.hid (fun w => readNumber_x y (HM.out _ (List.mem_of_getElem? hy0)) w)
            rw [hyn] at RY
            clear hy hy0 hdy hyn
            go_wp2_with fail
            with_reducible refine (RY.out _).mono ?_
            rintro e w5 ⟨rfl, hb⟩
            have c0' := (hb.cell (p := ⟨g, i, none⟩) hgl).trans c0
            clear c0 c1
            replace HP := Lib.hid ((hb.block _ hpl2).trans HP.out)
            replace HX := Lib.hid ((hb.block _ (Array.getElem?_eq_some_iff.1 HX.out).1).trans HX.out)
            replace HSL := Lib.hid (HSL.out.keep hb)
            replace HB := Lib.hid (bkeep2 HB.out hb)
            clear hb
            by_cases h0 : x = FX
            · have e0 : ∀ w, (binOp .eql 9 (tx x) (.string ⟨#[102, 105, 108, 108, 120]⟩)).run Tryd.prog w = .ok (.bool true) w := by rw [h0]; exact eq_same FX
              have HS2 : Hid (spL (Ls.drop (i + 1)) ⟨p.w0, p.h0, p.s, true, p.fy, p.ex, p.an, p.px, p.py⟩ = S) := Lib.hid (by
                have := HSC.out
                rw [h0, spL_fx] at this
                exact this)
              clear h0 HSC
              obtain ⟨p0, p1, p2, p3, p4, p5, p6, p7, p8⟩ := b9c HP.out
              have f0 := frozenS HP.out 3
              go_wp2
              go_roundw
              · exact ⟨i + 1, ⟨p.w0, p.h0, p.s, true, p.fy, p.ex, p.an, p.px, p.py⟩, rfl, by omega, by omega, HS2.out, putS (i := 3) HP.out _, (Below.heap_setCell _ ⟨pb, 3, none⟩ _ w.heap.size hnx).trans HX.out, HSL.out.put _ _ _ hgn, bput HB.out hwp⟩
              · simp [intOf]; omega
            · have e0 : ∀ w, (binOp .eql 9 (tx x) (.string ⟨#[102, 105, 108, 108, 120]⟩)).run Tryd.prog w = .ok (.bool false) w := eql_not x FX h0
              by_cases h1 : x = FY
              · have e1 : ∀ w, (binOp .eql 9 (tx x) (.string ⟨#[102, 105, 108, 108, 121]⟩)).run Tryd.prog w = .ok (.bool true) w := by rw [h1]; exact eq_same FY
                have HS2 : Hid (spL (Ls.drop (i + 1)) ⟨p.w0, p.h0, p.s, p.fx, true, p.ex, p.an, p.px, p.py⟩ = S) := Lib.hid (by
                  have := HSC.out
                  rw [h1, spL_fy] at this
                  exact this)
                clear h1 HSC
                obtain ⟨p0, p1, p2, p3, p4, p5, p6, p7, p8⟩ := b9c HP.out
                have f0 := frozenS HP.out 4
                go_wp2
                go_roundw
                · exact ⟨i + 1, ⟨p.w0, p.h0, p.s, p.fx, true, p.ex, p.an, p.px, p.py⟩, rfl, by omega, by omega, HS2.out, putS (i := 4) HP.out _, (Below.heap_setCell _ ⟨pb, 4, none⟩ _ w.heap.size hnx).trans HX.out, HSL.out.put _ _ _ hgn, bput HB.out hwp⟩
                · simp [intOf]; omega
              · have e1 : ∀ w, (binOp .eql 9 (tx x) (.string ⟨#[102, 105, 108, 108, 121]⟩)).run Tryd.prog w = .ok (.bool false) w := eql_not x FY h1
                by_cases h2 : x = EX
                · have e2 : ∀ w, (binOp .eql 9 (tx x) (.string ⟨#[101, 120, 112, 97, 110, 100]⟩)).run Tryd.prog w = .ok (.bool true) w := by rw [h2]; exact eq_same EX
                  have HS2 : Hid (spL (Ls.drop (i + 1)) ⟨p.w0, p.h0, p.s, p.fx, p.fy, true, p.an, p.px, p.py⟩ = S) := Lib.hid (by
                    have := HSC.out
                    rw [h2, spL_ex] at this
                    exact this)
                  clear h2 HSC
                  obtain ⟨p0, p1, p2, p3, p4, p5, p6, p7, p8⟩ := b9c HP.out
                  have f0 := frozenS HP.out 5
                  go_wp2
                  go_roundw
                  · exact ⟨i + 1, ⟨p.w0, p.h0, p.s, p.fx, p.fy, true, p.an, p.px, p.py⟩, rfl, by omega, by omega, HS2.out, putS (i := 5) HP.out _, (Below.heap_setCell _ ⟨pb, 5, none⟩ _ w.heap.size hnx).trans HX.out, HSL.out.put _ _ _ hgn, bput HB.out hwp⟩
                  · simp [intOf]; omega
                · have e2 : ∀ w, (binOp .eql 9 (tx x) (.string ⟨#[101, 120, 112, 97, 110, 100]⟩)).run Tryd.prog w = .ok (.bool false) w := eql_not x EX h2
                  by_cases h3 : x = AN
                  · have e3 : ∀ w, (binOp .eql 9 (tx x) (.string ⟨#[97, 110, 99, 104, 111, 114]⟩)).run Tryd.prog w = .ok (.bool true) w := by rw [h3]; exact eq_same AN
                    have HS2 : Hid (spL (Ls.drop (i + 2)) ⟨p.w0, p.h0, p.s, p.fx, p.fy, p.ex, NV, p.px, p.py⟩ = S) := Lib.hid (by
                      have := HSC.out
                      rw [h3, spL_an, HN.out, List.tail_drop] at this
                      exact this)
                    clear h3 HSC
                    obtain ⟨p0, p1, p2, p3, p4, p5, p6, p7, p8⟩ := b9c HP.out
                    have f0 := frozenS HP.out 6
                    go_wp2
                    go_roundw
                    · exact ⟨i + 2, ⟨p.w0, p.h0, p.s, p.fx, p.fy, p.ex, NV, p.px, p.py⟩, rfl, by omega, by omega, HS2.out, putS (i := 6) HP.out _, (Below.heap_setCell _ ⟨pb, 6, none⟩ _ w.heap.size hnx).trans HX.out, HSL.out.put _ _ _ hgn, bput HB.out hwp⟩
                    · simp [intOf]; omega
                  · have e3 : ∀ w, (binOp .eql 9 (tx x) (.string ⟨#[97, 110, 99, 104, 111, 114]⟩)).run Tryd.prog w = .ok (.bool false) w := eql_not x AN h3
                    by_cases h4 : x = PXW
                    · have e4 : ∀ w, (binOp .eql 9 (tx x) (.string ⟨#[112, 97, 100, 120]⟩)).run Tryd.prog w = .ok (.bool true) w := by rw [h4]; exact eq_same PXW
                      have HS2 : Hid (spL (Ls.drop (i + 2)) ⟨p.w0, p.h0, p.s, p.fx, p.fy, p.ex, p.an, NV, p.py⟩ = S) := Lib.hid (by
                        have := HSC.out
                        rw [h4, spL_px, HN.out, List.tail_drop] at this
                        exact this)
                      clear h4 HSC
                      obtain ⟨p0, p1, p2, p3, p4, p5, p6, p7, p8⟩ := b9c HP.out
                      have f0 := frozenS HP.out 7
                      go_wp2
                      go_roundw
                      · exact ⟨i + 2, ⟨p.w0, p.h0, p.s, p.fx, p.fy, p.ex, p.an, NV, p.py⟩, rfl, by omega, by omega, HS2.out, putS (i := 7) HP.out _, (Below.heap_setCell _ ⟨pb, 7, none⟩ _ w.heap.size hnx).trans HX.out, HSL.out.put _ _ _ hgn, bput HB.out hwp⟩
                      · simp [intOf]; omega
                    · have e4 : ∀ w, (binOp .eql 9 (tx x) (.string ⟨#[112, 97, 100, 120]⟩)).run Tryd.prog w = .ok (.bool false) w := eql_not x PXW h4
                      by_cases h5 : x = PYW
                      · have e5 : ∀ w, (binOp .eql 9 (tx x) (.string ⟨#[112, 97, 100, 121]⟩)).run Tryd.prog w = .ok (.bool true) w := by rw [h5]; exact eq_same PYW
                        have HS2 : Hid (spL (Ls.drop (i + 2)) ⟨p.w0, p.h0, p.s, p.fx, p.fy, p.ex, p.an, p.px, NV⟩ = S) := Lib.hid (by
                          have := HSC.out
                          rw [h5, spL_py, HN.out, List.tail_drop] at this
                          exact this)
                        clear h5 HSC
                        obtain ⟨p0, p1, p2, p3, p4, p5, p6, p7, p8⟩ := b9c HP.out
                        have f0 := frozenS HP.out 8
                        go_wp2
                        go_roundw
                        · exact ⟨i + 2, ⟨p.w0, p.h0, p.s, p.fx, p.fy, p.ex, p.an, p.px, NV⟩, rfl, by omega, by omega, HS2.out, putS (i := 8) HP.out _, (Below.heap_setCell _ ⟨pb, 8, none⟩ _ w.heap.size hnx).trans HX.out, HSL.out.put _ _ _ hgn, bput HB.out hwp⟩
                        · simp [intOf]; omega
                      · have e5 : ∀ w, (binOp .eql 9 (tx x) (.string ⟨#[112, 97, 100, 121]⟩)).run Tryd.prog w = .ok (.bool false) w := eql_not x PYW h5
                        have hnone : prs l = none := by
                          cases hp : prs l with
                          | none => rfl
                          | some q =>
                            have h7 := HPR.out q hp
                            have h8 := HSC.out
                            rw [spL_no _ _ h0 h1 h2 h3 h4 h5, h7] at h8
                            exact absurd h8 (by simp)
                        clear h0 h1 h2 h3 h4 h5 HSC
                        obtain ⟨q0, q1, q2, q3, q4, q5, q6, q7, q8⟩ := b9c HX.out
                        have f0 := frozenS HX.out 0
                        have f1 := frozenS HX.out 1
                        have f2 := frozenS HX.out 2
                        have f3 := frozenS HX.out 3
                        have f4 := frozenS HX.out 4
                        have f5 := frozenS HX.out 5
                        have f6 := frozenS HX.out 6
                        have f7 := frozenS HX.out 7
                        have f8 := frozenS HX.out 8
                        go_wp2
                        exact bodyPost_ret (v := ansV none) (by simp only [results, Tryd.results24]; go_simp; rfl) rfl ⟨⟨⟨0, 0, 0, false, false, false, 0, 0, 0⟩, false, rfl, fun h => by simp at h, fun _ => hnone⟩, bput (bput (bput (bput (bput (bput (bput (bput (bput (HB.out) (by show w.heap.size ≤ _; omega)) (by show w.heap.size ≤ _; omega)) (by show w.heap.size ≤ _; omega)) (by show w.heap.size ≤ _; omega)) (by show w.heap.size ≤ _; omega)) (by show w.heap.size ≤ _; omega)) (by show w.heap.size ≤ _; omega)) (by show w.heap.size ≤ _; omega)) (by show w.heap.size ≤ _; omega)⟩
          · have hd2 : decide (((i + 1 : Nat) : Int) < (n : Int)) = false := decide_eq_false (by omega)
            have hnv : NV = -1 := by
              rw [← HN.out, List.drop_of_length_le (by omega)]
              exact numV_no (fun m _ h => dec_ne_nil m h)
            subst hnv
            by_cases h0 : x = FX
            · have e0 : ∀ w, (binOp .eql 9 (tx x) (.string ⟨#[102, 105, 108, 108, 120]⟩)).run Tryd.prog w = .ok (.bool true) w := by rw [h0]; exact eq_same FX
              have HS2 : Hid (spL (Ls.drop (i + 1)) ⟨p.w0, p.h0, p.s, true, p.fy, p.ex, p.an, p.px, p.py⟩ = S) := Lib.hid (by
                have := HSC.out
                rw [h0, spL_fx] at this
                exact this)
              clear h0 HSC
              obtain ⟨p0, p1, p2, p3, p4, p5, p6, p7, p8⟩ := b9c HP.out
              have f0 := frozenS HP.out 3
              go_wp2
              go_roundw
              · exact ⟨i + 1, ⟨p.w0, p.h0, p.s, true, p.fy, p.ex, p.an, p.px, p.py⟩, rfl, by omega, by omega, HS2.out, putS (i := 3) HP.out _, (Below.heap_setCell _ ⟨pb, 3, none⟩ _ w.heap.size hnx).trans HX.out, HSL.out.put _ _ _ hgn, bput HB.out hwp⟩
              · simp [intOf]; omega
            · have e0 : ∀ w, (binOp .eql 9 (tx x) (.string ⟨#[102, 105, 108, 108, 120]⟩)).run Tryd.prog w = .ok (.bool false) w := eql_not x FX h0
              by_cases h1 : x = FY
              · have e1 : ∀ w, (binOp .eql 9 (tx x) (.string ⟨#[102, 105, 108, 108, 121]⟩)).run Tryd.prog w = .ok (.bool true) w := by rw [h1]; exact eq_same FY
                have HS2 : Hid (spL (Ls.drop (i + 1)) ⟨p.w0, p.h0, p.s, p.fx, true, p.ex, p.an, p.px, p.py⟩ = S) := Lib.hid (by
                  have := HSC.out
                  rw [h1, spL_fy] at this
                  exact this)
                clear h1 HSC
                obtain ⟨p0, p1, p2, p3, p4, p5, p6, p7, p8⟩ := b9c HP.out
                have f0 := frozenS HP.out 4
                go_wp2
                go_roundw
                · exact ⟨i + 1, ⟨p.w0, p.h0, p.s, p.fx, true, p.ex, p.an, p.px, p.py⟩, rfl, by omega, by omega, HS2.out, putS (i := 4) HP.out _, (Below.heap_setCell _ ⟨pb, 4, none⟩ _ w.heap.size hnx).trans HX.out, HSL.out.put _ _ _ hgn, bput HB.out hwp⟩
                · simp [intOf]; omega
              · have e1 : ∀ w, (binOp .eql 9 (tx x) (.string ⟨#[102, 105, 108, 108, 121]⟩)).run Tryd.prog w = .ok (.bool false) w := eql_not x FY h1
                by_cases h2 : x = EX
                · have e2 : ∀ w, (binOp .eql 9 (tx x) (.string ⟨#[101, 120, 112, 97, 110, 100]⟩)).run Tryd.prog w = .ok (.bool true) w := by rw [h2]; exact eq_same EX
                  have HS2 : Hid (spL (Ls.drop (i + 1)) ⟨p.w0, p.h0, p.s, p.fx, p.fy, true, p.an, p.px, p.py⟩ = S) := Lib.hid (by
                    have := HSC.out
                    rw [h2, spL_ex] at this
                    exact this)
                  clear h2 HSC
                  obtain ⟨p0, p1, p2, p3, p4, p5, p6, p7, p8⟩ := b9c HP.out
                  have f0 := frozenS HP.out 5
                  go_wp2
                  go_roundw
                  · exact ⟨i + 1, ⟨p.w0, p.h0, p.s, p.fx, p.fy, true, p.an, p.px, p.py⟩, rfl, by omega, by omega, HS2.out, putS (i := 5) HP.out _, (Below.heap_setCell _ ⟨pb, 5, none⟩ _ w.heap.size hnx).trans HX.out, HSL.out.put _ _ _ hgn, bput HB.out hwp⟩
                  · simp [intOf]; omega
                · have e2 : ∀ w, (binOp .eql 9 (tx x) (.string ⟨#[101, 120, 112, 97, 110, 100]⟩)).run Tryd.prog w = .ok (.bool false) w := eql_not x EX h2
                  by_cases h3 : x = AN
                  · have e3 : ∀ w, (binOp .eql 9 (tx x) (.string ⟨#[97, 110, 99, 104, 111, 114]⟩)).run Tryd.prog w = .ok (.bool true) w := by rw [h3]; exact eq_same AN
                    have HS2 : Hid (spL (Ls.drop (i + 2)) ⟨p.w0, p.h0, p.s, p.fx, p.fy, p.ex, (-1), p.px, p.py⟩ = S) := Lib.hid (by
                      have := HSC.out
                      rw [h3, spL_an, HN.out, List.tail_drop] at this
                      exact this)
                    clear h3 HSC
                    obtain ⟨p0, p1, p2, p3, p4, p5, p6, p7, p8⟩ := b9c HP.out
                    have f0 := frozenS HP.out 6
                    go_wp2
                    go_roundw
                    · exact ⟨i + 2, ⟨p.w0, p.h0, p.s, p.fx, p.fy, p.ex, (-1), p.px, p.py⟩, rfl, by omega, by omega, HS2.out, putS (i := 6) HP.out _, (Below.heap_setCell _ ⟨pb, 6, none⟩ _ w.heap.size hnx).trans HX.out, HSL.out.put _ _ _ hgn, bput HB.out hwp⟩
                    · simp [intOf]; omega
                  · have e3 : ∀ w, (binOp .eql 9 (tx x) (.string ⟨#[97, 110, 99, 104, 111, 114]⟩)).run Tryd.prog w = .ok (.bool false) w := eql_not x AN h3
                    by_cases h4 : x = PXW
                    · have e4 : ∀ w, (binOp .eql 9 (tx x) (.string ⟨#[112, 97, 100, 120]⟩)).run Tryd.prog w = .ok (.bool true) w := by rw [h4]; exact eq_same PXW
                      have HS2 : Hid (spL (Ls.drop (i + 2)) ⟨p.w0, p.h0, p.s, p.fx, p.fy, p.ex, p.an, (-1), p.py⟩ = S) := Lib.hid (by
                        have := HSC.out
                        rw [h4, spL_px, HN.out, List.tail_drop] at this
                        exact this)
                      clear h4 HSC
                      obtain ⟨p0, p1, p2, p3, p4, p5, p6, p7, p8⟩ := b9c HP.out
                      have f0 := frozenS HP.out 7
                      go_wp2
                      go_roundw
                      · exact ⟨i + 2, ⟨p.w0, p.h0, p.s, p.fx, p.fy, p.ex, p.an, (-1), p.py⟩, rfl, by omega, by omega, HS2.out, putS (i := 7) HP.out _, (Below.heap_setCell _ ⟨pb, 7, none⟩ _ w.heap.size hnx).trans HX.out, HSL.out.put _ _ _ hgn, bput HB.out hwp⟩
                      · simp [intOf]; omega
                    · have e4 : ∀ w, (binOp .eql 9 (tx x) (.string ⟨#[112, 97, 100, 120]⟩)).run Tryd.prog w = .ok (.bool false) w := eql_not x PXW h4
                      by_cases h5 : x = PYW
                      · have e5 : ∀ w, (binOp .eql 9 (tx x) (.string ⟨#[112, 97, 100, 121]⟩)).run Tryd.prog w = .ok (.bool true) w := by rw [h5]; exact eq_same PYW
                        have HS2 : Hid (spL (Ls.drop (i + 2)) ⟨p.w0, p.h0, p.s, p.fx, p.fy, p.ex, p.an, p.px, (-1)⟩ = S) := Lib.hid (by
                          have := HSC.out
                          rw [h5, spL_py, HN.out, List.tail_drop] at this
                          exact this)
                        clear h5 HSC
                        obtain ⟨p0, p1, p2, p3, p4, p5, p6, p7, p8⟩ := b9c HP.out
                        have f0 := frozenS HP.out 8
                        go_wp2
                        go_roundw
                        · exact ⟨i + 2, ⟨p.w0, p.h0, p.s, p.fx, p.fy, p.ex, p.an, p.px, (-1)⟩, rfl, by omega, by omega, HS2.out, putS (i := 8) HP.out _, (Below.heap_setCell _ ⟨pb, 8, none⟩ _ w.heap.size hnx).trans HX.out, HSL.out.put _ _ _ hgn, bput HB.out hwp⟩
                        · simp [intOf]; omega
                      · have e5 : ∀ w, (binOp .eql 9 (tx x) (.string ⟨#[112, 97, 100, 121]⟩)).run Tryd.prog w = .ok (.bool false) w := eql_not x PYW h5
                        have hnone : prs l = none := by
                          cases hp : prs l with
                          | none => rfl
                          | some q =>
                            have h7 := HPR.out q hp
                            have h8 := HSC.out
                            rw [spL_no _ _ h0 h1 h2 h3 h4 h5, h7] at h8
                            exact absurd h8 (by simp)
                        clear h0 h1 h2 h3 h4 h5 HSC
                        obtain ⟨q0, q1, q2, q3, q4, q5, q6, q7, q8⟩ := b9c HX.out
                        have f0 := frozenS HX.out 0
                        have f1 := frozenS HX.out 1
                        have f2 := frozenS HX.out 2
                        have f3 := frozenS HX.out 3
                        have f4 := frozenS HX.out 4
                        have f5 := frozenS HX.out 5
                        have f6 := frozenS HX.out 6
                        have f7 := frozenS HX.out 7
                        have f8 := frozenS HX.out 8
                        go_wp2
                        exact bodyPost_ret (v := ansV none) (by simp only [results, Tryd.results24]; go_simp; rfl) rfl ⟨⟨⟨0, 0, 0, false, false, false, 0, 0, 0⟩, false, rfl, fun h => by simp at h, fun _ => hnone⟩, bput (bput (bput (bput (bput (bput (bput (bput (bput (HB.out) (by show w.heap.size ≤ _; omega)) (by show w.heap.size ≤ _; omega)) (by show w.heap.size ≤ _; omega)) (by show w.heap.size ≤ _; omega)) (by show w.heap.size ≤ _; omega)) (by show w.heap.size ≤ _; omega)) (by show w.heap.size ≤ _; omega)) (by show w.heap.size ≤ _; omega)) (by show w.heap.size ≤ _; omega)⟩
        · have hd1 : decide ((i : Int) < (n : Int)) = false := decide_eq_false (by omega)
          have hsn : S = some p := by
            rw [← HSP.out, List.drop_of_length_le (by omega), spL_nil]
          have HSN := Lib.hid hsn
          clear hsn
          go_wp2_with fail
          have HV := Lib.hid (fun w => specValidPack_any p.w0 p.h0 p.s p.fx p.fy p.ex p.an p.px p.py w)
          cases hv : vpB p.w0 p.h0 p.s p.an p.px p.py
          · rw [hv] at HV
            have hnone : prs l = none := by
              cases hq : prs l with
              | none => rfl
              | some q =>
                have h7 := HPR.out q hq
                rw [HSN.out] at h7
                obtain rfl := Option.some.inj h7
                exact absurd (prs_iff.1 hq).1 (by unfold PKV.ok; rw [hv]; simp)
            clear hv
            refine wp_region_br (by kernel_rfl) (fun W => W.heap[w.heap.size]? = some (.cells #[.int .i64 0, .int .i64 0, .int .i64 0, .bool false, .bool false, .bool false, .int .i64 0, .int .i64 0, .int .i64 0] 23 (0, 0)) ∧ W.heap[pb]? = some (.cells #[.int .i64 p.w0, .int .i64 p.h0, .int .i64 p.s, .bool p.fx, .bool p.fy, .bool p.ex, .int .i64 p.an, .int .i64 p.px, .int .i64 p.py] 23 (0, 0)) ∧ Below w.heap.size w W) ⟨HX.out, HP.out, bkeep2 HB.out (bdrewn (Gr.refl wr.drew))⟩ ?_
            rintro W7 ⟨hz, hp, hB⟩
            replace HX := Lib.hid hz
            replace HP := Lib.hid hp
            replace HB := Lib.hid hB
            clear hz hp hB hwl hpl2
            obtain ⟨p0, p1, p2, p3, p4, p5, p6, p7, p8⟩ := b9c HP.out
            refine wpAny_ready (rs := [0, 1]) (by kernel_rfl) (by simp) (ready_consG rfl rfl (fun K' hK' => ?_) (ready_consG rfl rfl (fun K' hK' => ?_) AllReady.nil))
            · go_simp
              refine hK' _ _ ?_
              clear hK' K'
              refine wpAny_oneG (i := 1) (by kernel_rfl) rfl rfl ?_
              go_simp
              refine wpAny_oneG (i := 2) (by kernel_rfl) rfl rfl ?_
              go_simp
              with_reducible refine (HV.out _).mono ?_
              rintro e wc1 ⟨rfl, hb⟩
              clear p0 p1 p2 p3 p4 p5 p6 p7 p8
              replace HX := Lib.hid ((hb.block _ (Array.getElem?_eq_some_iff.1 HX.out).1).trans HX.out)
              replace HP := Lib.hid ((hb.block _ (Array.getElem?_eq_some_iff.1 HP.out).1).trans HP.out)
              replace HB := Lib.hid (bkeep2 HB.out hb)
              clear hb
              obtain ⟨p0, p1, p2, p3, p4, p5, p6, p7, p8⟩ := b9c HP.out
              refine wpAny_oneG (i := 3) (by kernel_rfl) rfl rfl ?_
              go_simp
              refine wpAny_take (i := 6) (v := undef) rfl (by kernel_rfl) (by kernel_rfl) (by kernel_rfl) (fun _ _ _ h => h) (Or.inr ⟨by rfl, rfl⟩) ?_
              refine wpAny_take (i := 4) (v := undef) rfl (by kernel_rfl) (by kernel_rfl) (by kernel_rfl) (fun _ _ _ h => h) (Or.inr ⟨by rfl, rfl⟩) ?_
              refine wpAny_take (i := 5) (v := undef) rfl (by kernel_rfl) (by kernel_rfl) (by kernel_rfl) (fun _ _ _ h => h) (Or.inr ⟨by rfl, rfl⟩) ?_
              refine wpAny_take (i := 7) (v := undef) rfl (by kernel_rfl) (by kernel_rfl) (by kernel_rfl) (fun _ _ _ h => h) (Or.inr ⟨by rfl, rfl⟩) ?_
              refine wpAny_take (i := 8) (v := .bool false) rfl (by kernel_rfl) (by kernel_rfl) (by kernel_rfl) (fun _ _ _ h => h) (Or.inl ⟨by rfl, fun w => by go_simp⟩) ?_
              clear p0 p1 p2 p3 p4 p5 p6 p7 p8
              obtain ⟨q0, q1, q2, q3, q4, q5, q6, q7, q8⟩ := b9c HX.out
              have f0 := frozenS HX.out 0
              have f1 := frozenS HX.out 1
              have f2 := frozenS HX.out 2
              have f3 := frozenS HX.out 3
              have f4 := frozenS HX.out 4
              have f5 := frozenS HX.out 5
              have f6 := frozenS HX.out 6
              have f7 := frozenS HX.out 7
              have f8 := frozenS HX.out 8
              refine wpAny_one (i := 9) (by kernel_rfl) rfl rfl ?_
              go_simp
              refine wpAny_one (i := 10) (by kernel_rfl) rfl rfl ?_
              go_simp
              refine wpAny_end (by kernel_rfl) ?_
              refine NoPan.thn ?_
              go_wp2
              exact bodyPost_ret (v := .tuple #[.agg #[.int .i64 p.w0, .int .i64 p.h0, .int .i64 p.s, .bool p.fx, .bool p.fy, .bool p.ex, .int .i64 p.an, .int .i64 p.px, .int .i64 p.py], .bool false]) (by simp only [results, Tryd.results24]; go_simp) rfl ⟨⟨p, false, rfl, fun h => by simp at h, fun _ => hnone⟩, bput (bput (bput (bput (bput (bput (bput (bput (bput (HB.out) (by show w.heap.size ≤ _; omega)) (by show w.heap.size ≤ _; omega)) (by show w.heap.size ≤ _; omega)) (by show w.heap.size ≤ _; omega)) (by show w.heap.size ≤ _; omega)) (by show w.heap.size ≤ _; omega)) (by show w.heap.size ≤ _; omega)) (by show w.heap.size ≤ _; omega)) (by show w.heap.size ≤ _; omega)⟩
            · go_simp
              refine hK' _ _ ?_
              clear hK' K'
              refine wpAny_ready (rs := [0, 2]) (by kernel_rfl) (by simp) (ready_consG rfl rfl (fun K' hK' => ?_) (ready_consG rfl rfl (fun K' hK' => ?_) AllReady.nil))
              · go_simp
                refine hK' _ _ ?_
                clear hK' K'
                refine wpAny_oneG (i := 2) (by kernel_rfl) rfl rfl ?_
                go_simp
                with_reducible refine (HV.out _).mono ?_
                rintro e wc2 ⟨rfl, hb⟩
                clear p0 p1 p2 p3 p4 p5 p6 p7 p8
                replace HX := Lib.hid ((hb.block _ (Array.getElem?_eq_some_iff.1 HX.out).1).trans HX.out)
                replace HP := Lib.hid ((hb.block _ (Array.getElem?_eq_some_iff.1 HP.out).1).trans HP.out)
                replace HB := Lib.hid (bkeep2 HB.out hb)
                clear hb
                obtain ⟨p0, p1, p2, p3, p4, p5, p6, p7, p8⟩ := b9c HP.out
                refine wpAny_oneG (i := 3) (by kernel_rfl) rfl rfl ?_
                go_simp
                refine wpAny_take (i := 6) (v := undef) rfl (by kernel_rfl) (by kernel_rfl) (by kernel_rfl) (fun _ _ _ h => h) (Or.inr ⟨by rfl, rfl⟩) ?_
                refine wpAny_take (i := 4) (v := undef) rfl (by kernel_rfl) (by kernel_rfl) (by kernel_rfl) (fun _ _ _ h => h) (Or.inr ⟨by rfl, rfl⟩) ?_
                refine wpAny_take (i := 5) (v := undef) rfl (by kernel_rfl) (by kernel_rfl) (by kernel_rfl) (fun _ _ _ h => h) (Or.inr ⟨by rfl, rfl⟩) ?_
                refine wpAny_take (i := 7) (v := undef) rfl (by kernel_rfl) (by kernel_rfl) (by kernel_rfl) (fun _ _ _ h => h) (Or.inr ⟨by rfl, rfl⟩) ?_
                refine wpAny_take (i := 8) (v := .bool false) rfl (by kernel_rfl) (by kernel_rfl) (by kernel_rfl) (fun _ _ _ h => h) (Or.inl ⟨by rfl, fun w => by go_simp⟩) ?_
                clear p0 p1 p2 p3 p4 p5 p6 p7 p8
                obtain ⟨q0, q1, q2, q3, q4, q5, q6, q7, q8⟩ := b9c HX.out
                have f0 := frozenS HX.out 0
                have f1 := frozenS HX.out 1
                have f2 := frozenS HX.out 2
                have f3 := frozenS HX.out 3
                have f4 := frozenS HX.out 4
                have f5 := frozenS HX.out 5
                have f6 := frozenS HX.out 6
                have f7 := frozenS HX.out 7
                have f8 := frozenS HX.out 8
                refine wpAny_one (i := 9) (by kernel_rfl) rfl rfl ?_
                go_simp
                refine wpAny_one (i := 10) (by kernel_rfl) rfl rfl ?_
                go_simp
                refine wpAny_end (by kernel_rfl) ?_
                refine NoPan.thn ?_
                go_wp2
                exact bodyPost_ret (v := .tuple #[.agg #[.int .i64 p.w0, .int .i64 p.h0, .int .i64 p.s, .bool p.fx, .bool p.fy, .bool p.ex, .int .i64 p.an, .int .i64 p.px, .int .i64 p.py], .bool false]) (by simp only [results, Tryd.results24]; go_simp) rfl ⟨⟨p, false, rfl, fun h => by simp at h, fun _ => hnone⟩, bput (bput (bput (bput (bput (bput (bput (bput (bput (HB.out) (by show w.heap.size ≤ _; omega)) (by show w.heap.size ≤ _; omega)) (by show w.heap.size ≤ _; omega)) (by show w.heap.size ≤ _; omega)) (by show w.heap.size ≤ _; omega)) (by show w.heap.size ≤ _; omega)) (by show w.heap.size ≤ _; omega)) (by show w.heap.size ≤ _; omega)) (by show w.heap.size ≤ _; omega)⟩
              · go_simp
                with_reducible refine (HV.out _).mono ?_
                rintro e wc3 ⟨rfl, hb⟩
                clear p0 p1 p2 p3 p4 p5 p6 p7 p8
                replace HX := Lib.hid ((hb.block _ (Array.getElem?_eq_some_iff.1 HX.out).1).trans HX.out)
                replace HP := Lib.hid ((hb.block _ (Array.getElem?_eq_some_iff.1 HP.out).1).trans HP.out)
                replace HB := Lib.hid (bkeep2 HB.out hb)
                clear hb
                obtain ⟨p0, p1, p2, p3, p4, p5, p6, p7, p8⟩ := b9c HP.out
                refine hK' _ _ ?_
                clear hK' K'
                refine wpAny_ready (rs := [0, 3]) (by kernel_rfl) (by simp) (ready_consG rfl rfl (fun K' hK' => ?_) (ready_consG rfl rfl (fun K' hK' => ?_) AllReady.nil))
                · go_simp
                  refine hK' _ _ ?_
                  clear hK' K'
                  refine wpAny_oneG (i := 3) (by kernel_rfl) rfl rfl ?_
                  go_simp
                  refine wpAny_take (i := 6) (v := undef) rfl (by kernel_rfl) (by kernel_rfl) (by kernel_rfl) (fun _ _ _ h => h) (Or.inr ⟨by rfl, rfl⟩) ?_
                  refine wpAny_take (i := 4) (v := undef) rfl (by kernel_rfl) (by kernel_rfl) (by kernel_rfl) (fun _ _ _ h => h) (Or.inr ⟨by rfl, rfl⟩) ?_
                  refine wpAny_take (i := 5) (v := undef) rfl (by kernel_rfl) (by kernel_rfl) (by kernel_rfl) (fun _ _ _ h => h) (Or.inr ⟨by rfl, rfl⟩) ?_
                  refine wpAny_take (i := 7) (v := undef) rfl (by kernel_rfl) (by kernel_rfl) (by kernel_rfl) (fun _ _ _ h => h) (Or.inr ⟨by rfl, rfl⟩) ?_
                  refine wpAny_take (i := 8) (v := .bool false) rfl (by kernel_rfl) (by kernel_rfl) (by kernel_rfl) (fun _ _ _ h => h) (Or.inl ⟨by rfl, fun w => by go_simp⟩) ?_
                  clear p0 p1 p2 p3 p4 p5 p6 p7 p8
                  obtain ⟨q0, q1, q2, q3, q4, q5, q6, q7, q8⟩ := b9c HX.out
                  have f0 := frozenS HX.out 0
                  have f1 := frozenS HX.out 1
                  have f2 := frozenS HX.out 2
                  have f3 := frozenS HX.out 3
                  have f4 := frozenS HX.out 4
                  have f5 := frozenS HX.out 5
                  have f6 := frozenS HX.out 6
                  have f7 := frozenS HX.out 7
                  have f8 := frozenS HX.out 8
                  refine wpAny_one (i := 9) (by kernel_rfl) rfl rfl ?_
                  go_simp
                  refine wpAny_one (i := 10) (by kernel_rfl) rfl rfl ?_
                  go_simp
                  refine wpAny_end (by kernel_rfl) ?_
                  refine NoPan.thn ?_
                  go_wp2
                  exact bodyPost_ret (v := .tuple #[.agg #[.int .i64 p.w0, .int .i64 p.h0, .int .i64 p.s, .bool p.fx, .bool p.fy, .bool p.ex, .int .i64 p.an, .int .i64 p.px, .int .i64 p.py], .bool false]) (by simp only [results, Tryd.results24]; go_simp) rfl ⟨⟨p, false, rfl, fun h => by simp at h, fun _ => hnone⟩, bput (bput (bput (bput (bput (bput (bput (bput (bput (HB.out) (by show w.heap.size ≤ _; omega)) (by show w.heap.size ≤ _; omega)) (by show w.heap.size ≤ _; omega)) (by show w.heap.size ≤ _; omega)) (by show w.heap.size ≤ _; omega)) (by show w.heap.size ≤ _; omega)) (by show w.heap.size ≤ _; omega)) (by show w.heap.size ≤ _; omega)) (by show w.heap.size ≤ _; omega)⟩
                · go_simp
                  refine hK' _ _ ?_
                  clear hK' K'
                  refine wpAny_take (i := 6) (v := undef) rfl (by kernel_rfl) (by kernel_rfl) (by kernel_rfl) (fun _ _ _ h => h) (Or.inr ⟨by rfl, rfl⟩) ?_
                  refine wpAny_take (i := 4) (v := undef) rfl (by kernel_rfl) (by kernel_rfl) (by kernel_rfl) (fun _ _ _ h => h) (Or.inr ⟨by rfl, rfl⟩) ?_
                  refine wpAny_take (i := 5) (v := undef) rfl (by kernel_rfl) (by kernel_rfl) (by kernel_rfl) (fun _ _ _ h => h) (Or.inr ⟨by rfl, rfl⟩) ?_
                  refine wpAny_take (i := 7) (v := undef) rfl (by kernel_rfl) (by kernel_rfl) (by kernel_rfl) (fun _ _ _ h => h) (Or.inr ⟨by rfl, rfl⟩) ?_
                  refine wpAny_take (i := 8) (v := .bool false) rfl (by kernel_rfl) (by kernel_rfl) (by kernel_rfl) (fun _ _ _ h => h) (Or.inl ⟨by rfl, fun w => by go_simp⟩) ?_
                  refine wpAny_oneG (i := 0) (by kernel_rfl) rfl rfl ?_
                  go_simp
                  clear p0 p1 p2 p3 p4 p5 p6 p7 p8
                  obtain ⟨q0, q1, q2, q3, q4, q5, q6, q7, q8⟩ := b9c HX.out
                  have f0 := frozenS HX.out 0
                  have f1 := frozenS HX.out 1
                  have f2 := frozenS HX.out 2
                  have f3 := frozenS HX.out 3
                  have f4 := frozenS HX.out 4
                  have f5 := frozenS HX.out 5
                  have f6 := frozenS HX.out 6
                  have f7 := frozenS HX.out 7
                  have f8 := frozenS HX.out 8
                  refine wpAny_one (i := 9) (by kernel_rfl) rfl rfl ?_
                  go_simp
                  refine wpAny_one (i := 10) (by kernel_rfl) rfl rfl ?_
                  go_simp
                  refine wpAny_end (by kernel_rfl) ?_
                  refine NoPan.thn ?_
                  go_wp2
                  exact bodyPost_ret (v := .tuple #[.agg #[.int .i64 p.w0, .int .i64 p.h0, .int .i64 p.s, .bool p.fx, .bool p.fy, .bool p.ex, .int .i64 p.an, .int .i64 p.px, .int .i64 p.py], .bool false]) (by simp only [results, Tryd.results24]; go_simp) rfl ⟨⟨p, false, rfl, fun h => by simp at h, fun _ => hnone⟩, bput (bput (bput (bput (bput (bput (bput (bput (bput (HB.out) (by show w.heap.size ≤ _; omega)) (by show w.heap.size ≤ _; omega)) (by show w.heap.size ≤ _; omega)) (by show w.heap.size ≤ _; omega)) (by show w.heap.size ≤ _; omega)) (by show w.heap.size ≤ _; omega)) (by show w.heap.size ≤ _; omega)) (by show w.heap.size ≤ _; omega)) (by show w.heap.size ≤ _; omega)⟩
          · rw [hv] at HV
            have HT : Hid (∀ w, Calls Tryd.prog 34 #[.agg #[.int .i64 p.w0, .int .i64 p.h0, .int .i64 p.s, .bool p.fx, .bool p.fy, .bool p.ex, .int .i64 p.an, .int .i64 p.px, .int .i64 p.py]] w fun e w' => e = .returned (tx p.text) ∧ Below w.heap.size w w') := Lib.hid (fun w => spackText_v p.w0 p.h0 p.s p.fx p.fy p.ex p.an p.px p.py w hv)
            have g1 := fun s t w => eqg_tx .eql s t p.text l w
            have hcase : ((∀ w, (binOp .eql 9 (tx p.text) (tx l)).run Tryd.prog w = .ok (.bool true) w) ∧ prs l = some p) ∨ ((∀ w, (binOp .eql 9 (tx p.text) (tx l)).run Tryd.prog w = .ok (.bool false) w) ∧ prs l = none) := by
              by_cases hc : p.text = l
              · exact .inl ⟨by rw [hc]; exact eq_same l, prs_iff.2 ⟨hv, hc⟩⟩
              · refine .inr ⟨eql_not p.text l hc, ?_⟩
                cases hq : prs l with
                | none => rfl
                | some q =>
                  have h7 := HPR.out q hq
                  rw [HSN.out] at h7
                  obtain rfl := Option.some.inj h7
                  exact absurd (prs_iff.1 hq).2 hc
            clear hv
            refine wp_region_br (by kernel_rfl) (fun W => W.heap[w.heap.size]? = some (.cells #[.int .i64 0, .int .i64 0, .int .i64 0, .bool false, .bool false, .bool false, .int .i64 0, .int .i64 0, .int .i64 0] 23 (0, 0)) ∧ W.heap[pb]? = some (.cells #[.int .i64 p.w0, .int .i64 p.h0, .int .i64 p.s, .bool p.fx, .bool p.fy, .bool p.ex, .int .i64 p.an, .int .i64 p.px, .int .i64 p.py] 23 (0, 0)) ∧ Below w.heap.size w W) ⟨HX.out, HP.out, bkeep2 HB.out (bdrewn (Gr.refl wr.drew))⟩ ?_
            rintro W7 ⟨hz, hp, hB⟩
            replace HX := Lib.hid hz
            replace HP := Lib.hid hp
            replace HB := Lib.hid hB
            clear hz hp hB hwl hpl2
            obtain ⟨p0, p1, p2, p3, p4, p5, p6, p7, p8⟩ := b9c HP.out
            refine wpAny_ready (rs := [0, 1]) (by kernel_rfl) (by simp) (ready_consG rfl rfl (fun K' hK' => ?_) (ready_consG rfl rfl (fun K' hK' => ?_) AllReady.nil))
            · go_simp
              refine hK' _ _ ?_
              clear hK' K'
              refine wpAny_oneG (i := 1) (by kernel_rfl) rfl rfl ?_
              go_simp
              refine wpAny_oneG (i := 2) (by kernel_rfl) rfl rfl ?_
              go_simp
              with_reducible refine (HV.out _).mono ?_
              rintro e wc4 ⟨rfl, hb⟩
              clear p0 p1 p2 p3 p4 p5 p6 p7 p8
              replace HX := Lib.hid ((hb.block _ (Array.getElem?_eq_some_iff.1 HX.out).1).trans HX.out)
              replace HP := Lib.hid ((hb.block _ (Array.getElem?_eq_some_iff.1 HP.out).1).trans HP.out)
              replace HB := Lib.hid (bkeep2 HB.out hb)
              clear hb
              obtain ⟨p0, p1, p2, p3, p4, p5, p6, p7, p8⟩ := b9c HP.out
              refine wpAny_oneG (i := 3) (by kernel_rfl) rfl rfl ?_
              go_simp
              refine wpAny_take (i := 6) (v := tx l) rfl (by kernel_rfl) (by kernel_rfl) (by kernel_rfl) (fun _ _ _ h => h) (Or.inl ⟨by rfl, fun w => by go_simp⟩) ?_
              refine wpAny_oneG (i := 4) (by kernel_rfl) rfl rfl ?_
              go_simp
              refine wpAny_oneG (i := 5) (by kernel_rfl) rfl rfl ?_
              go_simp
              with_reducible refine (HT.out _).mono ?_
              rintro e wc5 ⟨rfl, hb⟩
              clear p0 p1 p2 p3 p4 p5 p6 p7 p8
              replace HX := Lib.hid ((hb.block _ (Array.getElem?_eq_some_iff.1 HX.out).1).trans HX.out)
              replace HP := Lib.hid ((hb.block _ (Array.getElem?_eq_some_iff.1 HP.out).1).trans HP.out)
              replace HB := Lib.hid (bkeep2 HB.out hb)
              clear hb
              obtain ⟨p0, p1, p2, p3, p4, p5, p6, p7, p8⟩ := b9c HP.out
              rcases hcase with ⟨e2, hyes⟩ | ⟨e2, hnone⟩
              · refine wpAny_take (i := 7) (v := .bool true) rfl (by kernel_rfl) (by kernel_rfl) (by kernel_rfl) (fun _ _ _ h => h) (Or.inl ⟨by rfl, fun w => by go_simp⟩) ?_
                refine wpAny_take (i := 8) (v := .bool true) rfl (by kernel_rfl) (by kernel_rfl) (by kernel_rfl) (fun _ _ _ h => h) (Or.inl ⟨by rfl, fun w => by go_simp⟩) ?_
                clear p0 p1 p2 p3 p4 p5 p6 p7 p8
                obtain ⟨q0, q1, q2, q3, q4, q5, q6, q7, q8⟩ := b9c HX.out
                have f0 := frozenS HX.out 0
                have f1 := frozenS HX.out 1
                have f2 := frozenS HX.out 2
                have f3 := frozenS HX.out 3
                have f4 := frozenS HX.out 4
                have f5 := frozenS HX.out 5
                have f6 := frozenS HX.out 6
                have f7 := frozenS HX.out 7
                have f8 := frozenS HX.out 8
                refine wpAny_one (i := 9) (by kernel_rfl) rfl rfl ?_
                go_simp
                refine wpAny_one (i := 10) (by kernel_rfl) rfl rfl ?_
                go_simp
                refine wpAny_end (by kernel_rfl) ?_
                refine NoPan.thn ?_
                go_wp2
                exact bodyPost_ret (v := .tuple #[.agg #[.int .i64 p.w0, .int .i64 p.h0, .int .i64 p.s, .bool p.fx, .bool p.fy, .bool p.ex, .int .i64 p.an, .int .i64 p.px, .int .i64 p.py], .bool true]) (by simp only [results, Tryd.results24]; go_simp) rfl ⟨⟨p, true, rfl, fun _ => hyes, fun h => by simp at h⟩, bput (bput (bput (bput (bput (bput (bput (bput (bput (HB.out) (by show w.heap.size ≤ _; omega)) (by show w.heap.size ≤ _; omega)) (by show w.heap.size ≤ _; omega)) (by show w.heap.size ≤ _; omega)) (by show w.heap.size ≤ _; omega)) (by show w.heap.size ≤ _; omega)) (by show w.heap.size ≤ _; omega)) (by show w.heap.size ≤ _; omega)) (by show w.heap.size ≤ _; omega)⟩
              · refine wpAny_take (i := 7) (v := .bool false) rfl (by kernel_rfl) (by kernel_rfl) (by kernel_rfl) (fun _ _ _ h => h) (Or.inl ⟨by rfl, fun w => by go_simp⟩) ?_
                refine wpAny_take (i := 8) (v := .bool false) rfl (by kernel_rfl) (by kernel_rfl) (by kernel_rfl) (fun _ _ _ h => h) (Or.inl ⟨by rfl, fun w => by go_simp⟩) ?_
                clear p0 p1 p2 p3 p4 p5 p6 p7 p8
                obtain ⟨q0, q1, q2, q3, q4, q5, q6, q7, q8⟩ := b9c HX.out
                have f0 := frozenS HX.out 0
                have f1 := frozenS HX.out 1
                have f2 := frozenS HX.out 2
                have f3 := frozenS HX.out 3
                have f4 := frozenS HX.out 4
                have f5 := frozenS HX.out 5
                have f6 := frozenS HX.out 6
                have f7 := frozenS HX.out 7
                have f8 := frozenS HX.out 8
                refine wpAny_one (i := 9) (by kernel_rfl) rfl rfl ?_
                go_simp
                refine wpAny_one (i := 10) (by kernel_rfl) rfl rfl ?_
                go_simp
                refine wpAny_end (by kernel_rfl) ?_
                refine NoPan.thn ?_
                go_wp2
                exact bodyPost_ret (v := .tuple #[.agg #[.int .i64 p.w0, .int .i64 p.h0, .int .i64 p.s, .bool p.fx, .bool p.fy, .bool p.ex, .int .i64 p.an, .int .i64 p.px, .int .i64 p.py], .bool false]) (by simp only [results, Tryd.results24]; go_simp) rfl ⟨⟨p, false, rfl, fun h => by simp at h, fun _ => hnone⟩, bput (bput (bput (bput (bput (bput (bput (bput (bput (HB.out) (by show w.heap.size ≤ _; omega)) (by show w.heap.size ≤ _; omega)) (by show w.heap.size ≤ _; omega)) (by show w.heap.size ≤ _; omega)) (by show w.heap.size ≤ _; omega)) (by show w.heap.size ≤ _; omega)) (by show w.heap.size ≤ _; omega)) (by show w.heap.size ≤ _; omega)) (by show w.heap.size ≤ _; omega)⟩
            · go_simp
              refine hK' _ _ ?_
              clear hK' K'
              refine wpAny_ready (rs := [0, 2]) (by kernel_rfl) (by simp) (ready_consG rfl rfl (fun K' hK' => ?_) (ready_consG rfl rfl (fun K' hK' => ?_) AllReady.nil))
              · go_simp
                refine hK' _ _ ?_
                clear hK' K'
                refine wpAny_oneG (i := 2) (by kernel_rfl) rfl rfl ?_
                go_simp
                with_reducible refine (HV.out _).mono ?_
                rintro e wc11 ⟨rfl, hb⟩
                clear p0 p1 p2 p3 p4 p5 p6 p7 p8
                replace HX := Lib.hid ((hb.block _ (Array.getElem?_eq_some_iff.1 HX.out).1).trans HX.out)
                replace HP := Lib.hid ((hb.block _ (Array.getElem?_eq_some_iff.1 HP.out).1).trans HP.out)
                replace HB := Lib.hid (bkeep2 HB.out hb)
                clear hb
                obtain ⟨p0, p1, p2, p3, p4, p5, p6, p7, p8⟩ := b9c HP.out
                refine wpAny_oneG (i := 3) (by kernel_rfl) rfl rfl ?_
                go_simp
                refine wpAny_take (i := 6) (v := tx l) rfl (by kernel_rfl) (by kernel_rfl) (by kernel_rfl) (fun _ _ _ h => h) (Or.inl ⟨by rfl, fun w => by go_simp⟩) ?_
                refine wpAny_oneG (i := 4) (by kernel_rfl) rfl rfl ?_
                go_simp
                refine wpAny_oneG (i := 5) (by kernel_rfl) rfl rfl ?_
                go_simp
                with_reducible refine (HT.out _).mono ?_
                rintro e wc6 ⟨rfl, hb⟩
                clear p0 p1 p2 p3 p4 p5 p6 p7 p8
                replace HX := Lib.hid ((hb.block _ (Array.getElem?_eq_some_iff.1 HX.out).1).trans HX.out)
                replace HP := Lib.hid ((hb.block _ (Array.getElem?_eq_some_iff.1 HP.out).1).trans HP.out)
                replace HB := Lib.hid (bkeep2 HB.out hb)
                clear hb
                obtain ⟨p0, p1, p2, p3, p4, p5, p6, p7, p8⟩ := b9c HP.out
                rcases hcase with ⟨e2, hyes⟩ | ⟨e2, hnone⟩
                · refine wpAny_take (i := 7) (v := .bool true) rfl (by kernel_rfl) (by kernel_rfl) (by kernel_rfl) (fun _ _ _ h => h) (Or.inl ⟨by rfl, fun w => by go_simp⟩) ?_
                  refine wpAny_take (i := 8) (v := .bool true) rfl (by kernel_rfl) (by kernel_rfl) (by kernel_rfl) (fun _ _ _ h => h) (Or.inl ⟨by rfl, fun w => by go_simp⟩) ?_
                  clear p0 p1 p2 p3 p4 p5 p6 p7 p8
                  obtain ⟨q0, q1, q2, q3, q4, q5, q6, q7, q8⟩ := b9c HX.out
                  have f0 := frozenS HX.out 0
                  have f1 := frozenS HX.out 1
                  have f2 := frozenS HX.out 2
                  have f3 := frozenS HX.out 3
                  have f4 := frozenS HX.out 4
                  have f5 := frozenS HX.out 5
                  have f6 := frozenS HX.out 6
                  have f7 := frozenS HX.out 7
                  have f8 := frozenS HX.out 8
                  refine wpAny_one (i := 9) (by kernel_rfl) rfl rfl ?_
                  go_simp
                  refine wpAny_one (i := 10) (by kernel_rfl) rfl rfl ?_
                  go_simp
                  refine wpAny_end (by kernel_rfl) ?_
                  refine NoPan.thn ?_
                  go_wp2
                  exact bodyPost_ret (v := .tuple #[.agg #[.int .i64 p.w0, .int .i64 p.h0, .int .i64 p.s, .bool p.fx, .bool p.fy, .bool p.ex, .int .i64 p.an, .int .i64 p.px, .int .i64 p.py], .bool true]) (by simp only [results, Tryd.results24]; go_simp) rfl ⟨⟨p, true, rfl, fun _ => hyes, fun h => by simp at h⟩, bput (bput (bput (bput (bput (bput (bput (bput (bput (HB.out) (by show w.heap.size ≤ _; omega)) (by show w.heap.size ≤ _; omega)) (by show w.heap.size ≤ _; omega)) (by show w.heap.size ≤ _; omega)) (by show w.heap.size ≤ _; omega)) (by show w.heap.size ≤ _; omega)) (by show w.heap.size ≤ _; omega)) (by show w.heap.size ≤ _; omega)) (by show w.heap.size ≤ _; omega)⟩
                · refine wpAny_take (i := 7) (v := .bool false) rfl (by kernel_rfl) (by kernel_rfl) (by kernel_rfl) (fun _ _ _ h => h) (Or.inl ⟨by rfl, fun w => by go_simp⟩) ?_
                  refine wpAny_take (i := 8) (v := .bool false) rfl (by kernel_rfl) (by kernel_rfl) (by kernel_rfl) (fun _ _ _ h => h) (Or.inl ⟨by rfl, fun w => by go_simp⟩) ?_
                  clear p0 p1 p2 p3 p4 p5 p6 p7 p8
                  obtain ⟨q0, q1, q2, q3, q4, q5, q6, q7, q8⟩ := b9c HX.out
                  have f0 := frozenS HX.out 0
                  have f1 := frozenS HX.out 1
                  have f2 := frozenS HX.out 2
                  have f3 := frozenS HX.out 3
                  have f4 := frozenS HX.out 4
                  have f5 := frozenS HX.out 5
                  have f6 := frozenS HX.out 6
                  have f7 := frozenS HX.out 7
                  have f8 := frozenS HX.out 8
                  refine wpAny_one (i := 9) (by kernel_rfl) rfl rfl ?_
                  go_simp
                  refine wpAny_one (i := 10) (by kernel_rfl) rfl rfl ?_
                  go_simp
                  refine wpAny_end (by kernel_rfl) ?_
                  refine NoPan.thn ?_
                  go_wp2
                  exact bodyPost_ret (v := .tuple #[.agg #[.int .i64 p.w0, .int .i64 p.h0, .int .i64 p.s, .bool p.fx, .bool p.fy, .bool p.ex, .int .i64 p.an, .int .i64 p.px, .int .i64 p.py], .bool false]) (by simp only [results, Tryd.results24]; go_simp) rfl ⟨⟨p, false, rfl, fun h => by simp at h, fun _ => hnone⟩, bput (bput (bput (bput (bput (bput (bput (bput (bput (HB.out) (by show w.heap.size ≤ _; omega)) (by show w.heap.size ≤ _; omega)) (by show w.heap.size ≤ _; omega)) (by show w.heap.size ≤ _; omega)) (by show w.heap.size ≤ _; omega)) (by show w.heap.size ≤ _; omega)) (by show w.heap.size ≤ _; omega)) (by show w.heap.size ≤ _; omega)) (by show w.heap.size ≤ _; omega)⟩
              · go_simp
                with_reducible refine (HV.out _).mono ?_
                rintro e wc12 ⟨rfl, hb⟩
                clear p0 p1 p2 p3 p4 p5 p6 p7 p8
                replace HX := Lib.hid ((hb.block _ (Array.getElem?_eq_some_iff.1 HX.out).1).trans HX.out)
                replace HP := Lib.hid ((hb.block _ (Array.getElem?_eq_some_iff.1 HP.out).1).trans HP.out)
                replace HB := Lib.hid (bkeep2 HB.out hb)
                clear hb
                obtain ⟨p0, p1, p2, p3, p4, p5, p6, p7, p8⟩ := b9c HP.out
                refine hK' _ _ ?_
                clear hK' K'
                refine wpAny_ready (rs := [0, 3]) (by kernel_rfl) (by simp) (ready_consG rfl rfl (fun K' hK' => ?_) (ready_consG rfl rfl (fun K' hK' => ?_) AllReady.nil))
                · go_simp
                  refine hK' _ _ ?_
                  clear hK' K'
                  refine wpAny_oneG (i := 3) (by kernel_rfl) rfl rfl ?_
                  go_simp
                  refine wpAny_take (i := 6) (v := tx l) rfl (by kernel_rfl) (by kernel_rfl) (by kernel_rfl) (fun _ _ _ h => h) (Or.inl ⟨by rfl, fun w => by go_simp⟩) ?_
                  refine wpAny_oneG (i := 4) (by kernel_rfl) rfl rfl ?_
                  go_simp
                  refine wpAny_oneG (i := 5) (by kernel_rfl) rfl rfl ?_
                  go_simp
                  with_reducible refine (HT.out _).mono ?_
                  rintro e wc7 ⟨rfl, hb⟩
                  clear p0 p1 p2 p3 p4 p5 p6 p7 p8
                  replace HX := Lib.hid ((hb.block _ (Array.getElem?_eq_some_iff.1 HX.out).1).trans HX.out)
                  replace HP := Lib.hid ((hb.block _ (Array.getElem?_eq_some_iff.1 HP.out).1).trans HP.out)
                  replace HB := Lib.hid (bkeep2 HB.out hb)
                  clear hb
                  obtain ⟨p0, p1, p2, p3, p4, p5, p6, p7, p8⟩ := b9c HP.out
                  rcases hcase with ⟨e2, hyes⟩ | ⟨e2, hnone⟩
                  · refine wpAny_take (i := 7) (v := .bool true) rfl (by kernel_rfl) (by kernel_rfl) (by kernel_rfl) (fun _ _ _ h => h) (Or.inl ⟨by rfl, fun w => by go_simp⟩) ?_
                    refine wpAny_take (i := 8) (v := .bool true) rfl (by kernel_rfl) (by kernel_rfl) (by kernel_rfl) (fun _ _ _ h => h) (Or.inl ⟨by rfl, fun w => by go_simp⟩) ?_
                    clear p0 p1 p2 p3 p4 p5 p6 p7 p8
                    obtain ⟨q0, q1, q2, q3, q4, q5, q6, q7, q8⟩ := b9c HX.out
                    have f0 := frozenS HX.out 0
                    have f1 := frozenS HX.out 1
                    have f2 := frozenS HX.out 2
                    have f3 := frozenS HX.out 3
                    have f4 := frozenS HX.out 4
                    have f5 := frozenS HX.out 5
                    have f6 := frozenS HX.out 6
                    have f7 := frozenS HX.out 7
                    have f8 := frozenS HX.out 8
                    refine wpAny_one (i := 9) (by kernel_rfl) rfl rfl ?_
                    go_simp
                    refine wpAny_one (i := 10) (by kernel_rfl) rfl rfl ?_
                    go_simp
                    refine wpAny_end (by kernel_rfl) ?_
                    refine NoPan.thn ?_
                    go_wp2
                    exact bodyPost_ret (v := .tuple #[.agg #[.int .i64 p.w0, .int .i64 p.h0, .int .i64 p.s, .bool p.fx, .bool p.fy, .bool p.ex, .int .i64 p.an, .int .i64 p.px, .int .i64 p.py], .bool true]) (by simp only [results, Tryd.results24]; go_simp) rfl ⟨⟨p, true, rfl, fun _ => hyes, fun h => by simp at h⟩, bput (bput (bput (bput (bput (bput (bput (bput (bput (HB.out) (by show w.heap.size ≤ _; omega)) (by show w.heap.size ≤ _; omega)) (by show w.heap.size ≤ _; omega)) (by show w.heap.size ≤ _; omega)) (by show w.heap.size ≤ _; omega)) (by show w.heap.size ≤ _; omega)) (by show w.heap.size ≤ _; omega)) (by show w.heap.size ≤ _; omega)) (by show w.heap.size ≤ _; omega)⟩
                  · refine wpAny_take (i := 7) (v := .bool false) rfl (by kernel_rfl) (by kernel_rfl) (by kernel_rfl) (fun _ _ _ h => h) (Or.inl ⟨by rfl, fun w => by go_simp⟩) ?_
                    refine wpAny_take (i := 8) (v := .bool false) rfl (by kernel_rfl) (by kernel_rfl) (by kernel_rfl) (fun _ _ _ h => h) (Or.inl ⟨by rfl, fun w => by go_simp⟩) ?_
                    clear p0 p1 p2 p3 p4 p5 p6 p7 p8
                    obtain ⟨q0, q1, q2, q3, q4, q5, q6, q7, q8⟩ := b9c HX.out
                    have f0 := frozenS HX.out 0
                    have f1 := frozenS HX.out 1
                    have f2 := frozenS HX.out 2
                    have f3 := frozenS HX.out 3
                    have f4 := frozenS HX.out 4
                    have f5 := frozenS HX.out 5
                    have f6 := frozenS HX.out 6
                    have f7 := frozenS HX.out 7
                    have f8 := frozenS HX.out 8
                    refine wpAny_one (i := 9) (by kernel_rfl) rfl rfl ?_
                    go_simp
                    refine wpAny_one (i := 10) (by kernel_rfl) rfl rfl ?_
                    go_simp
                    refine wpAny_end (by kernel_rfl) ?_
                    refine NoPan.thn ?_
                    go_wp2
                    exact bodyPost_ret (v := .tuple #[.agg #[.int .i64 p.w0, .int .i64 p.h0, .int .i64 p.s, .bool p.fx, .bool p.fy, .bool p.ex, .int .i64 p.an, .int .i64 p.px, .int .i64 p.py], .bool false]) (by simp only [results, Tryd.results24]; go_simp) rfl ⟨⟨p, false, rfl, fun h => by simp at h, fun _ => hnone⟩, bput (bput (bput (bput (bput (bput (bput (bput (bput (HB.out) (by show w.heap.size ≤ _; omega)) (by show w.heap.size ≤ _; omega)) (by show w.heap.size ≤ _; omega)) (by show w.heap.size ≤ _; omega)) (by show w.heap.size ≤ _; omega)) (by show w.heap.size ≤ _; omega)) (by show w.heap.size ≤ _; omega)) (by show w.heap.size ≤ _; omega)) (by show w.heap.size ≤ _; omega)⟩
                · go_simp
                  refine hK' _ _ ?_
                  clear hK' K'
                  refine wpAny_take (i := 6) (v := tx l) rfl (by kernel_rfl) (by kernel_rfl) (by kernel_rfl) (fun _ _ _ h => h) (Or.inl ⟨by rfl, fun w => by go_simp⟩) ?_
                  refine wpAny_ready (rs := [0, 4]) (by kernel_rfl) (by simp) (ready_consG rfl rfl (fun K' hK' => ?_) (ready_consG rfl rfl (fun K' hK' => ?_) AllReady.nil))
                  · go_simp
                    refine hK' _ _ ?_
                    clear hK' K'
                    refine wpAny_oneG (i := 4) (by kernel_rfl) rfl rfl ?_
                    go_simp
                    refine wpAny_oneG (i := 5) (by kernel_rfl) rfl rfl ?_
                    go_simp
                    with_reducible refine (HT.out _).mono ?_
                    rintro e wc8 ⟨rfl, hb⟩
                    clear p0 p1 p2 p3 p4 p5 p6 p7 p8
                    replace HX := Lib.hid ((hb.block _ (Array.getElem?_eq_some_iff.1 HX.out).1).trans HX.out)
                    replace HP := Lib.hid ((hb.block _ (Array.getElem?_eq_some_iff.1 HP.out).1).trans HP.out)
                    replace HB := Lib.hid (bkeep2 HB.out hb)
                    clear hb
                    obtain ⟨p0, p1, p2, p3, p4, p5, p6, p7, p8⟩ := b9c HP.out
                    rcases hcase with ⟨e2, hyes⟩ | ⟨e2, hnone⟩
                    · refine wpAny_take (i := 7) (v := .bool true) rfl (by kernel_rfl) (by kernel_rfl) (by kernel_rfl) (fun _ _ _ h => h) (Or.inl ⟨by rfl, fun w => by go_simp⟩) ?_
                      refine wpAny_take (i := 8) (v := .bool true) rfl (by kernel_rfl) (by kernel_rfl) (by kernel_rfl) (fun _ _ _ h => h) (Or.inl ⟨by rfl, fun w => by go_simp⟩) ?_
                      clear p0 p1 p2 p3 p4 p5 p6 p7 p8
                      obtain ⟨q0, q1, q2, q3, q4, q5, q6, q7, q8⟩ := b9c HX.out
                      have f0 := frozenS HX.out 0
                      have f1 := frozenS HX.out 1
                      have f2 := frozenS HX.out 2
                      have f3 := frozenS HX.out 3
                      have f4 := frozenS HX.out 4
                      have f5 := frozenS HX.out 5
                      have f6 := frozenS HX.out 6
                      have f7 := frozenS HX.out 7
                      have f8 := frozenS HX.out 8
                      refine wpAny_one (i := 9) (by kernel_rfl) rfl rfl ?_
                      go_simp
                      refine wpAny_one (i := 10) (by kernel_rfl) rfl rfl ?_
                      go_simp
                      refine wpAny_end (by kernel_rfl) ?_
                      refine NoPan.thn ?_
                      go_wp2
                      exact bodyPost_ret (v := .tuple #[.agg #[.int .i64 p.w0, .int .i64 p.h0, .int .i64 p.s, .bool p.fx, .bool p.fy, .bool p.ex, .int .i64 p.an, .int .i64 p.px, .int .i64 p.py], .bool true]) (by simp only [results, Tryd.results24]; go_simp) rfl ⟨⟨p, true, rfl, fun _ => hyes, fun h => by simp at h⟩, bput (bput (bput (bput (bput (bput (bput (bput (bput (HB.out) (by show w.heap.size ≤ _; omega)) (by show w.heap.size ≤ _; omega)) (by show w.heap.size ≤ _; omega)) (by show w.heap.size ≤ _; omega)) (by show w.heap.size ≤ _; omega)) (by show w.heap.size ≤ _; omega)) (by show w.heap.size ≤ _; omega)) (by show w.heap.size ≤ _; omega)) (by show w.heap.size ≤ _; omega)⟩
                    · refine wpAny_take (i := 7) (v := .bool false) rfl (by kernel_rfl) (by kernel_rfl) (by kernel_rfl) (fun _ _ _ h => h) (Or.inl ⟨by rfl, fun w => by go_simp⟩) ?_
                      refine wpAny_take (i := 8) (v := .bool false) rfl (by kernel_rfl) (by kernel_rfl) (by kernel_rfl) (fun _ _ _ h => h) (Or.inl ⟨by rfl, fun w => by go_simp⟩) ?_
                      clear p0 p1 p2 p3 p4 p5 p6 p7 p8
                      obtain ⟨q0, q1, q2, q3, q4, q5, q6, q7, q8⟩ := b9c HX.out
                      have f0 := frozenS HX.out 0
                      have f1 := frozenS HX.out 1
                      have f2 := frozenS HX.out 2
                      have f3 := frozenS HX.out 3
                      have f4 := frozenS HX.out 4
                      have f5 := frozenS HX.out 5
                      have f6 := frozenS HX.out 6
                      have f7 := frozenS HX.out 7
                      have f8 := frozenS HX.out 8
                      refine wpAny_one (i := 9) (by kernel_rfl) rfl rfl ?_
                      go_simp
                      refine wpAny_one (i := 10) (by kernel_rfl) rfl rfl ?_
                      go_simp
                      refine wpAny_end (by kernel_rfl) ?_
                      refine NoPan.thn ?_
                      go_wp2
                      exact bodyPost_ret (v := .tuple #[.agg #[.int .i64 p.w0, .int .i64 p.h0, .int .i64 p.s, .bool p.fx, .bool p.fy, .bool p.ex, .int .i64 p.an, .int .i64 p.px, .int .i64 p.py], .bool false]) (by simp only [results, Tryd.results24]; go_simp) rfl ⟨⟨p, false, rfl, fun h => by simp at h, fun _ => hnone⟩, bput (bput (bput (bput (bput (bput (bput (bput (bput (HB.out) (by show w.heap.size ≤ _; omega)) (by show w.heap.size ≤ _; omega)) (by show w.heap.size ≤ _; omega)) (by show w.heap.size ≤ _; omega)) (by show w.heap.size ≤ _; omega)) (by show w.heap.size ≤ _; omega)) (by show w.heap.size ≤ _; omega)) (by show w.heap.size ≤ _; omega)) (by show w.heap.size ≤ _; omega)⟩
                  · go_simp
                    refine hK' _ _ ?_
                    clear hK' K'
                    refine wpAny_ready (rs := [0, 5]) (by kernel_rfl) (by simp) (ready_consG rfl rfl (fun K' hK' => ?_) (ready_consG rfl rfl (fun K' hK' => ?_) AllReady.nil))
                    · go_simp
                      refine hK' _ _ ?_
                      clear hK' K'
                      refine wpAny_oneG (i := 5) (by kernel_rfl) rfl rfl ?_
                      go_simp
                      with_reducible refine (HT.out _).mono ?_
                      rintro e wc9 ⟨rfl, hb⟩
                      clear p0 p1 p2 p3 p4 p5 p6 p7 p8
                      replace HX := Lib.hid ((hb.block _ (Array.getElem?_eq_some_iff.1 HX.out).1).trans HX.out)
                      replace HP := Lib.hid ((hb.block _ (Array.getElem?_eq_some_iff.1 HP.out).1).trans HP.out)
                      replace HB := Lib.hid (bkeep2 HB.out hb)
                      clear hb
                      obtain ⟨p0, p1, p2, p3, p4, p5, p6, p7, p8⟩ := b9c HP.out
                      rcases hcase with ⟨e2, hyes⟩ | ⟨e2, hnone⟩
                      · refine wpAny_take (i := 7) (v := .bool true) rfl (by kernel_rfl) (by kernel_rfl) (by kernel_rfl) (fun _ _ _ h => h) (Or.inl ⟨by rfl, fun w => by go_simp⟩) ?_
                        refine wpAny_take (i := 8) (v := .bool true) rfl (by kernel_rfl) (by kernel_rfl) (by kernel_rfl) (fun _ _ _ h => h) (Or.inl ⟨by rfl, fun w => by go_simp⟩) ?_
                        clear p0 p1 p2 p3 p4 p5 p6 p7 p8
                        obtain ⟨q0, q1, q2, q3, q4, q5, q6, q7, q8⟩ := b9c HX.out
                        have f0 := frozenS HX.out 0
                        have f1 := frozenS HX.out 1
                        have f2 := frozenS HX.out 2
                        have f3 := frozenS HX.out 3
                        have f4 := frozenS HX.out 4
                        have f5 := frozenS HX.out 5
                        have f6 := frozenS HX.out 6
                        have f7 := frozenS HX.out 7
                        have f8 := frozenS HX.out 8
                        refine wpAny_one (i := 9) (by kernel_rfl) rfl rfl ?_
                        go_simp
                        refine wpAny_one (i := 10) (by kernel_rfl) rfl rfl ?_
                        go_simp
                        refine wpAny_end (by kernel_rfl) ?_
                        refine NoPan.thn ?_
                        go_wp2
                        exact bodyPost_ret (v := .tuple #[.agg #[.int .i64 p.w0, .int .i64 p.h0, .int .i64 p.s, .bool p.fx, .bool p.fy, .bool p.ex, .int .i64 p.an, .int .i64 p.px, .int .i64 p.py], .bool true]) (by simp only [results, Tryd.results24]; go_simp) rfl ⟨⟨p, true, rfl, fun _ => hyes, fun h => by simp at h⟩, bput (bput (bput (bput (bput (bput (bput (bput (bput (HB.out) (by show w.heap.size ≤ _; omega)) (by show w.heap.size ≤ _; omega)) (by show w.heap.size ≤ _; omega)) (by show w.heap.size ≤ _; omega)) (by show w.heap.size ≤ _; omega)) (by show w.heap.size ≤ _; omega)) (by show w.heap.size ≤ _; omega)) (by show w.heap.size ≤ _; omega)) (by show w.heap.size ≤ _; omega)⟩
                      · refine wpAny_take (i := 7) (v := .bool false) rfl (by kernel_rfl) (by kernel_rfl) (by kernel_rfl) (fun _ _ _ h => h) (Or.inl ⟨by rfl, fun w => by go_simp⟩) ?_
                        refine wpAny_take (i := 8) (v := .bool false) rfl (by kernel_rfl) (by kernel_rfl) (by kernel_rfl) (fun _ _ _ h => h) (Or.inl ⟨by rfl, fun w => by go_simp⟩) ?_
                        clear p0 p1 p2 p3 p4 p5 p6 p7 p8
                        obtain ⟨q0, q1, q2, q3, q4, q5, q6, q7, q8⟩ := b9c HX.out
                        have f0 := frozenS HX.out 0
                        have f1 := frozenS HX.out 1
                        have f2 := frozenS HX.out 2
                        have f3 := frozenS HX.out 3
                        have f4 := frozenS HX.out 4
                        have f5 := frozenS HX.out 5
                        have f6 := frozenS HX.out 6
                        have f7 := frozenS HX.out 7
                        have f8 := frozenS HX.out 8
                        refine wpAny_one (i := 9) (by kernel_rfl) rfl rfl ?_
                        go_simp
                        refine wpAny_one (i := 10) (by kernel_rfl) rfl rfl ?_
                        go_simp
                        refine wpAny_end (by kernel_rfl) ?_
                        refine NoPan.thn ?_
                        go_wp2
                        exact bodyPost_ret (v := .tuple #[.agg #[.int .i64 p.w0, .int .i64 p.h0, .int .i64 p.s, .bool p.fx, .bool p.fy, .bool p.ex, .int .i64 p.an, .int .i64 p.px, .int .i64 p.py], .bool false]) (by simp only [results, Tryd.results24]; go_simp) rfl ⟨⟨p, false, rfl, fun h => by simp at h, fun _ => hnone⟩, bput (bput (bput (bput (bput (bput (bput (bput (bput (HB.out) (by show w.heap.size ≤ _; omega)) (by show w.heap.size ≤ _; omega)) (by show w.heap.size ≤ _; omega)) (by show w.heap.size ≤ _; omega)) (by show w.heap.size ≤ _; omega)) (by show w.heap.size ≤ _; omega)) (by show w.heap.size ≤ _; omega)) (by show w.heap.size ≤ _; omega)) (by show w.heap.size ≤ _; omega)⟩
                    · go_simp
                      with_reducible refine (HT.out _).mono ?_
                      rintro e wc10 ⟨rfl, hb⟩
                      clear p0 p1 p2 p3 p4 p5 p6 p7 p8
                      replace HX := Lib.hid ((hb.block _ (Array.getElem?_eq_some_iff.1 HX.out).1).trans HX.out)
                      replace HP := Lib.hid ((hb.block _ (Array.getElem?_eq_some_iff.1 HP.out).1).trans HP.out)
                      replace HB := Lib.hid (bkeep2 HB.out hb)
                      clear hb
                      obtain ⟨p0, p1, p2, p3, p4, p5, p6, p7, p8⟩ := b9c HP.out
                      refine hK' _ _ ?_
                      clear hK' K'
                      rcases hcase with ⟨e2, hyes⟩ | ⟨e2, hnone⟩
                      · refine wpAny_take (i := 7) (v := .bool true) rfl (by kernel_rfl) (by kernel_rfl) (by kernel_rfl) (fun _ _ _ h => h) (Or.inl ⟨by rfl, fun w => by go_simp⟩) ?_
                        refine wpAny_take (i := 8) (v := .bool true) rfl (by kernel_rfl) (by kernel_rfl) (by kernel_rfl) (fun _ _ _ h => h) (Or.inl ⟨by rfl, fun w => by go_simp⟩) ?_
                        refine wpAny_oneG (i := 0) (by kernel_rfl) rfl rfl ?_
                        go_simp
                        clear p0 p1 p2 p3 p4 p5 p6 p7 p8
                        obtain ⟨q0, q1, q2, q3, q4, q5, q6, q7, q8⟩ := b9c HX.out
                        have f0 := frozenS HX.out 0
                        have f1 := frozenS HX.out 1
                        have f2 := frozenS HX.out 2
                        have f3 := frozenS HX.out 3
                        have f4 := frozenS HX.out 4
                        have f5 := frozenS HX.out 5
                        have f6 := frozenS HX.out 6
                        have f7 := frozenS HX.out 7
                        have f8 := frozenS HX.out 8
                        refine wpAny_one (i := 9) (by kernel_rfl) rfl rfl ?_
                        go_simp
                        refine wpAny_one (i := 10) (by kernel_rfl) rfl rfl ?_
                        go_simp
                        refine wpAny_end (by kernel_rfl) ?_
                        refine NoPan.thn ?_
                        go_wp2
                        exact bodyPost_ret (v := .tuple #[.agg #[.int .i64 p.w0, .int .i64 p.h0, .int .i64 p.s, .bool p.fx, .bool p.fy, .bool p.ex, .int .i64 p.an, .int .i64 p.px, .int .i64 p.py], .bool true]) (by simp only [results, Tryd.results24]; go_simp) rfl ⟨⟨p, true, rfl, fun _ => hyes, fun h => by simp at h⟩, bput (bput (bput (bput (bput (bput (bput (bput (bput (HB.out) (by show w.heap.size ≤ _; omega)) (by show w.heap.size ≤ _; omega)) (by show w.heap.size ≤ _; omega)) (by show w.heap.size ≤ _; omega)) (by show w.heap.size ≤ _; omega)) (by show w.heap.size ≤ _; omega)) (by show w.heap.size ≤ _; omega)) (by show w.heap.size ≤ _; omega)) (by show w.heap.size ≤ _; omega)⟩
                      · refine wpAny_take (i := 7) (v := .bool false) rfl (by kernel_rfl) (by kernel_rfl) (by kernel_rfl) (fun _ _ _ h => h) (Or.inl ⟨by rfl, fun w => by go_simp⟩) ?_
                        refine wpAny_take (i := 8) (v := .bool false) rfl (by kernel_rfl) (by kernel_rfl) (by kernel_rfl) (fun _ _ _ h => h) (Or.inl ⟨by rfl, fun w => by go_simp⟩) ?_
                        refine wpAny_oneG (i := 0) (by kernel_rfl) rfl rfl ?_
                        go_simp
                        clear p0 p1 p2 p3 p4 p5 p6 p7 p8
                        obtain ⟨q0, q1, q2, q3, q4, q5, q6, q7, q8⟩ := b9c HX.out
                        have f0 := frozenS HX.out 0
                        have f1 := frozenS HX.out 1
                        have f2 := frozenS HX.out 2
                        have f3 := frozenS HX.out 3
                        have f4 := frozenS HX.out 4
                        have f5 := frozenS HX.out 5
                        have f6 := frozenS HX.out 6
                        have f7 := frozenS HX.out 7
                        have f8 := frozenS HX.out 8
                        refine wpAny_one (i := 9) (by kernel_rfl) rfl rfl ?_
                        go_simp
                        refine wpAny_one (i := 10) (by kernel_rfl) rfl rfl ?_
                        go_simp
                        refine wpAny_end (by kernel_rfl) ?_
                        refine NoPan.thn ?_
                        go_wp2
                        exact bodyPost_ret (v := .tuple #[.agg #[.int .i64 p.w0, .int .i64 p.h0, .int .i64 p.s, .bool p.fx, .bool p.fy, .bool p.ex, .int .i64 p.an, .int .i64 p.px, .int .i64 p.py], .bool false]) (by simp only [results, Tryd.results24]; go_simp) rfl ⟨⟨p, false, rfl, fun h => by simp at h, fun _ => hnone⟩, bput (bput (bput (bput (bput (bput (bput (bput (bput (HB.out) (by show w.heap.size ≤ _; omega)) (by show w.heap.size ≤ _; omega)) (by show w.heap.size ≤ _; omega)) (by show w.heap.size ≤ _; omega)) (by show w.heap.size ≤ _; omega)) (by show w.heap.size ≤ _; omega)) (by show w.heap.size ≤ _; omega)) (by show w.heap.size ≤ _; omega)) (by show w.heap.size ≤ _; omega)⟩
end Go.Proofs.YtjfdmdmlgdgchaaDoor
end
