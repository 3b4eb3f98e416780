import Derived.Test.YtjfdmdmlgdgchaaDoorQ03
import Derived.Deep.DeepCutAuto
import Derived.Lib.OthersKept
import Derived.Laws.Closers25b
section
namespace Go.Proofs.YtjfdmdmlgdgchaaDoor
open Go.RowKit
set_option linter.unusedVariables false
set_option linter.unusedSimpArgs false
set_option maxHeartbeats 1000000
attribute [local go_sem] growUpon_value growUpon_skip growUpon_enter
attribute [local go_sem] givesUpon_value givesUpon_skip givesUpon_enter
/-! An item's words. -/
def FX : List UInt8 := [102, 105, 108, 108, 120]
def FY : List UInt8 := [102, 105, 108, 108, 121]
def EX : List UInt8 := [101, 120, 112, 97, 110, 100]
def AN : List UInt8 := [97, 110, 99, 104, 111, 114]
def PXW : List UInt8 := [112, 97, 100, 120]
def PYW : List UInt8 := [112, 97, 100, 121]
def wd0 (w0 h0 s : Int) : List (List UInt8) := [sideB s, Lib.itoa w0, Lib.itoa h0]
def wd1 (w0 h0 s : Int) (fx : Bool) := optL fx [FX] (wd0 w0 h0 s)
def wd2 (w0 h0 s : Int) (fx fy : Bool) := optL fy [FY] (wd1 w0 h0 s fx)
def wd3 (w0 h0 s : Int) (fx fy ex : Bool) := optL ex [EX] (wd2 w0 h0 s fx fy)
def wd4 (w0 h0 s : Int) (fx fy ex : Bool) (an : Int) := optL (an != 4) [AN, Lib.itoa an] (wd3 w0 h0 s fx fy ex)
def wd5 (w0 h0 s : Int) (fx fy ex : Bool) (an px : Int) := optL (px != 0) [PXW, Lib.itoa px] (wd4 w0 h0 s fx fy ex an)
def wds (w0 h0 s : Int) (fx fy ex : Bool) (an px py : Int) := optL (py != 0) [PYW, Lib.itoa py] (wd5 w0 h0 s fx fy ex an px)
def pkT (w0 h0 s : Int) (fx fy ex : Bool) (an px py : Int) : List UInt8 := Lib.join (wds w0 h0 s fx fy ex an px py) [32]
/-- a list of these words -/
def SLv (L : List (List UInt8)) (w : World) (v : Value) : Prop := ∃ g, v = .slice (some ⟨g, 0, none⟩) L.length L.length ∧ SLs w g 0 L
theorem SLv.keep {L : List (List UInt8)} {w w' : World} {v : Value} (h : SLv L w v) (hb : Below w.heap.size w w') : SLv L w' v := let ⟨g, e, s⟩ := h; ⟨g, e, s.keep hb⟩
theorem appendIf1 (base : Nat) (v : Value) (L : List (List UInt8)) (m : List UInt8) (told : Bool) (w : World) (ho : OWN base L w v) (hs : L.length ≤ 900) :
    Calls Tryd.prog 60 #[v, .bool told, .slice (some ⟨w.heap.size, 0, none⟩) 1 1] (w.alloc (.cells #[tx m] 9)) fun e w' => (∃ v', e = .returned v' ∧ OWN base (optL told [m] L) w' v') ∧ Below base w w' := by
  refine (appendIf_v base v L [m] told w.heap.size 1 _ (ho.keep (balloc (Below.refl _ _))) (SLs.new w [m] _) (by simp; omega)).mono ?_
  rintro e w' ⟨h1, h2⟩
  exact ⟨h1, ((Below.refl base w).alloc ho.1 _).trans h2⟩
theorem appendIf2 (base : Nat) (v : Value) (L : List (List UInt8)) (a b : List UInt8) (told : Bool) (g : Nat) (w : World) (ho : OWN base L w v) (hM : SLs w g 0 [a, b]) (hs : L.length ≤ 900) :
    Calls Tryd.prog 60 #[v, .bool told, .slice (some ⟨g, 0, none⟩) 2 2] w fun e w' => (∃ v', e = .returned v' ∧ OWN base (optL told [a, b] L) w' v') ∧ Below base w w' :=
  appendIf_v base v L [a, b] told g 2 w ho hM (by simp; omega)
set_option maxRecDepth 100000 in
theorem words_v (w0 h0 s : Int) (fx fy ex : Bool) (an px py : Int) (w : World) (hv : vpB w0 h0 s an px py = true) (hT : LT.TW w) :
    Calls Tryd.prog 32 #[.agg #[.int .i64 w0, .int .i64 h0, .int .i64 s, .bool fx, .bool fy, .bool ex, .int .i64 an, .int .i64 px, .int .i64 py]] w fun e w' => (∃ v, e = .returned v ∧ OWN (w.heap.size + 1) (wds w0 h0 s fx fy ex an px py) w' v) ∧ Below w.heap.size w w' := by
  obtain ⟨⟨a1, a2⟩, ⟨a3, a4⟩, ⟨a5, a6⟩, ⟨a7, a8⟩, ⟨a9, a10⟩, ⟨a11, a12⟩⟩ := vpB_iff.1 hv
  have hs4 : s = 0 ∨ s = 1 ∨ s = 2 ∨ s = 3 := by omega
  have IW := Lib.hid (fun w h => itoa_v w0 (by omega) w h)
  have IH := Lib.hid (fun w h => itoa_v h0 (by omega) w h)
  have IA := Lib.hid (fun w h => itoa_v an (by omega) w h)
  have IX := Lib.hid (fun w h => itoa_v px (by omega) w h)
  have IY := Lib.hid (fun w h => itoa_v py (by omega) w h)
  have l0 : (wd0 w0 h0 s).length = 3 := rfl
  have l1 : (wd1 w0 h0 s fx).length ≤ 4 := by have := optL_len fx [FX] (wd0 w0 h0 s); simp at this; unfold wd1; omega
  have l2 : (wd2 w0 h0 s fx fy).length ≤ 5 := by have := optL_len fy [FY] (wd1 w0 h0 s fx); simp at this; unfold wd2; omega
  have l3 : (wd3 w0 h0 s fx fy ex).length ≤ 6 := by have := optL_len ex [EX] (wd2 w0 h0 s fx fy); simp at this; unfold wd3; omega
  have l4 : (wd4 w0 h0 s fx fy ex an).length ≤ 8 := by have := optL_len (an != 4) [AN, Lib.itoa an] (wd3 w0 h0 s fx fy ex); simp at this; unfold wd4; omega
  have l5 : (wd5 w0 h0 s fx fy ex an px).length ≤ 10 := by have := optL_len (px != 0) [PXW, Lib.itoa px] (wd4 w0 h0 s fx fy ex an); simp at this; unfold wd5; omega
  have HS4 := Lib.hid hs4
  clear hv a1 a2 a3 a4 a5 a6 a7 a8 a9 a10 a11 a12 hs4
  go_enter Tryd.func32, Tryd.ntmps32
  go_wp2_with fail
  have HX := Lib.hid (newS w (.cells #[.int .i64 w0, .int .i64 h0, .int .i64 s, .bool fx, .bool fy, .bool ex, .int .i64 an, .int .i64 px, .int .i64 py] 23))
  have HB := Lib.hid (balloc (o := (.cells #[.int .i64 w0, .int .i64 h0, .int .i64 s, .bool fx, .bool fy, .bool ex, .int .i64 an, .int .i64 px, .int .i64 py] 23)) (Below.refl w.heap.size w))
  have HT := Lib.hid (hT.keep HB.out)
  have hs1 : (w.alloc (.cells #[.int .i64 w0, .int .i64 h0, .int .i64 s, .bool fx, .bool fy, .bool ex, .int .i64 an, .int .i64 px, .int .i64 py] 23)).heap.size = w.heap.size + 1 := by simp
  refine wp_named (fun W0 e0 => ?_)
  rw [← e0] at HX HB HT hs1 ⊢
  clear e0
  obtain ⟨c0, c1, c2, c3, c4, c5, c6, c7, c8⟩ := b9c HX.out
  have hlx := ltS HX.out
  refine wp_region_rxl 12 1 [] #[true, true, true, true, true, true, true, true, true, true, true, true, false] (by kernel_rfl) (by kernel_rfl) (by kernel_rfl) ((fun v a => SWv a v) :: XV (.pointer (some ⟨w.heap.size, 2, none⟩)) :: XV (.int .i64 s) :: (fun v a => SPt (sideB s) a v) :: XV (tx (sideB s)) :: XV (.pointer (some ⟨w.heap.size, 0, none⟩)) :: XV (.int .i64 w0) :: XV (tx (Lib.itoa w0)) :: XV (.pointer (some ⟨w.heap.size, 1, none⟩)) :: XV (.int .i64 h0) :: XV (tx (Lib.itoa h0)) :: (fun v a => OWN (w.heap.size + 1) (wd0 w0 h0 s) a v) :: []) (by kernel_rfl) (by kernel_rfl) (by kernel_rfl) ?hTs ?hXs ?hops ?hfin
  case hTs =>
    intro T hT
    simp only [List.mem_cons, List.not_mem_nil, or_false] at hT
    rcases hT with rfl | rfl | rfl | rfl | rfl | rfl | rfl | rfl | rfl | rfl | rfl | rfl <;> first | exact stay_V _ | exact stay_T | exact stay_of (fun v a b x g => x.keep g) | exact stay_of (fun v a b x g => x)
  case hXs =>
    intro x d s hx
    exact absurd hx (List.not_mem_nil)
  case hops =>
    refine ⟨opOK_rx [] (by kernel_rfl) rfl ?_, ?_⟩
    · intro act w' hw' 
      have hk : ∀ v, act.eval (.const v) = v := fun _ => rfl
      have hf : ∀ f, act.eval (.func f) = .func (.func f) #[] #[] := fun _ => rfl
      generalize act.eval = ρ at *
      refine gx_gen (fun K hK => ?_)
      obtain ⟨hc, hf'⟩ := bcell (bdrewn hw'.out)
      go_simp
      (with_reducible refine (sideWords_v _).mono ?_); rintro e w2 ⟨⟨v, rfl, hv⟩, hb⟩; exact ⟨v, rfl, hK _ _ ⟨hv, Gr.of hb⟩⟩
    refine ⟨opOK_rx [(1, none)] (by kernel_rfl) rfl ?_, ?_⟩
    · intro act w' hw' h1
      have hk : ∀ v, act.eval (.const v) = v := fun _ => rfl
      have hf : ∀ f, act.eval (.func f) = .func (.func f) #[] #[] := fun _ => rfl
      generalize act.eval = ρ at *
      replace h1 : ρ (.tmp 1) = .pointer (some ⟨w.heap.size, 0, none⟩) := h1
      refine gx_gen (fun K hK => ?_)
      obtain ⟨hc, hf'⟩ := bcell (bdrewn hw'.out)
      go_simp
      exact hK _ _ ⟨rfl, Gr.refl _⟩
    refine ⟨opOK_rx [(5, some 1)] (by kernel_rfl) rfl ?_, ?_⟩
    · intro act w' hw' h1
      have hk : ∀ v, act.eval (.const v) = v := fun _ => rfl
      have hf : ∀ f, act.eval (.func f) = .func (.func f) #[] #[] := fun _ => rfl
      generalize act.eval = ρ at *
      replace h1 : ρ (.tmp 5) = .pointer (some ⟨w.heap.size, 2, none⟩) := h1
      refine gx_gen (fun K hK => ?_)
      obtain ⟨hc, hf'⟩ := bcell (bdrewn hw'.out)
      go_simp
      exact hK _ _ ⟨rfl, Gr.refl _⟩
    refine ⟨opOK_rx [(4, some 0), (6, some 2)] (by kernel_rfl) rfl ?_, ?_⟩
    · intro act w' hw' h1 h2
      have hk : ∀ v, act.eval (.const v) = v := fun _ => rfl
      have hf : ∀ f, act.eval (.func f) = .func (.func f) #[] #[] := fun _ => rfl
      generalize act.eval = ρ at *
      replace h1 : (fun v a => SWv a v) (ρ (.tmp 4)) w' := h1
      replace h2 : ρ (.tmp 6) = .int .i64 s := h2
      refine gx_gen (fun K hK => ?_)
      obtain ⟨g, e4, hS⟩ := h1; rcases HS4.out with rfl | rfl | rfl | rfl <;> (go_simp; exact hK _ _ ⟨⟨g, _, rfl, hS.1, hS.at _ rfl⟩, Gr.refl _⟩)
    refine ⟨opOK_rx [(7, some 3)] (by kernel_rfl) rfl ?_, ?_⟩
    · intro act w' hw' h1
      have hk : ∀ v, act.eval (.const v) = v := fun _ => rfl
      have hf : ∀ f, act.eval (.func f) = .func (.func f) #[] #[] := fun _ => rfl
      generalize act.eval = ρ at *
      replace h1 : (fun v a => SPt (sideB s) a v) (ρ (.tmp 7)) w' := h1
      refine gx_gen (fun K hK => ?_)
      obtain ⟨b, o, e7, hl, hcl⟩ := h1; go_simp; exact hK _ _ ⟨rfl, Gr.refl _⟩
    refine ⟨opOK_rx [(1, none)] (by kernel_rfl) rfl ?_, ?_⟩
    · intro act w' hw' h1
      have hk : ∀ v, act.eval (.const v) = v := fun _ => rfl
      have hf : ∀ f, act.eval (.func f) = .func (.func f) #[] #[] := fun _ => rfl
      generalize act.eval = ρ at *
      replace h1 : ρ (.tmp 1) = .pointer (some ⟨w.heap.size, 0, none⟩) := h1
      refine gx_gen (fun K hK => ?_)
      obtain ⟨hc, hf'⟩ := bcell (bdrewn hw'.out)
      go_simp
      exact hK _ _ ⟨rfl, Gr.refl _⟩
    refine ⟨opOK_rx [(9, some 5)] (by kernel_rfl) rfl ?_, ?_⟩
    · intro act w' hw' h1
      have hk : ∀ v, act.eval (.const v) = v := fun _ => rfl
      have hf : ∀ f, act.eval (.func f) = .func (.func f) #[] #[] := fun _ => rfl
      generalize act.eval = ρ at *
      replace h1 : ρ (.tmp 9) = .pointer (some ⟨w.heap.size, 0, none⟩) := h1
      refine gx_gen (fun K hK => ?_)
      obtain ⟨hc, hf'⟩ := bcell (bdrewn hw'.out)
      go_simp
      exact hK _ _ ⟨rfl, Gr.refl _⟩
    refine ⟨opOK_rx [(10, some 6)] (by kernel_rfl) rfl ?_, ?_⟩
    · intro act w' hw' h1
      have hk : ∀ v, act.eval (.const v) = v := fun _ => rfl
      have hf : ∀ f, act.eval (.func f) = .func (.func f) #[] #[] := fun _ => rfl
      generalize act.eval = ρ at *
      replace h1 : ρ (.tmp 10) = .int .i64 w0 := h1
      refine gx_gen (fun K hK => ?_)
      obtain ⟨hc, hf'⟩ := bcell (bdrewn hw'.out)
      go_simp
      (with_reducible refine (IW.out _ (HT.out.keep (bdrewn hw'.out))).mono ?_); rintro e w2 ⟨rfl, hb⟩; exact ⟨_, rfl, hK _ _ ⟨rfl, Gr.of hb⟩⟩
    refine ⟨opOK_rx [(1, none)] (by kernel_rfl) rfl ?_, ?_⟩
    · intro act w' hw' h1
      have hk : ∀ v, act.eval (.const v) = v := fun _ => rfl
      have hf : ∀ f, act.eval (.func f) = .func (.func f) #[] #[] := fun _ => rfl
      generalize act.eval = ρ at *
      replace h1 : ρ (.tmp 1) = .pointer (some ⟨w.heap.size, 0, none⟩) := h1
      refine gx_gen (fun K hK => ?_)
      obtain ⟨hc, hf'⟩ := bcell (bdrewn hw'.out)
      go_simp
      exact hK _ _ ⟨rfl, Gr.refl _⟩
    refine ⟨opOK_rx [(12, some 8)] (by kernel_rfl) rfl ?_, ?_⟩
    · intro act w' hw' h1
      have hk : ∀ v, act.eval (.const v) = v := fun _ => rfl
      have hf : ∀ f, act.eval (.func f) = .func (.func f) #[] #[] := fun _ => rfl
      generalize act.eval = ρ at *
      replace h1 : ρ (.tmp 12) = .pointer (some ⟨w.heap.size, 1, none⟩) := h1
      refine gx_gen (fun K hK => ?_)
      obtain ⟨hc, hf'⟩ := bcell (bdrewn hw'.out)
      go_simp
      exact hK _ _ ⟨rfl, Gr.refl _⟩
    refine ⟨opOK_rx [(13, some 9)] (by kernel_rfl) rfl ?_, ?_⟩
    · intro act w' hw' h1
      have hk : ∀ v, act.eval (.const v) = v := fun _ => rfl
      have hf : ∀ f, act.eval (.func f) = .func (.func f) #[] #[] := fun _ => rfl
      generalize act.eval = ρ at *
      replace h1 : ρ (.tmp 13) = .int .i64 h0 := h1
      refine gx_gen (fun K hK => ?_)
      obtain ⟨hc, hf'⟩ := bcell (bdrewn hw'.out)
      go_simp
      (with_reducible refine (IH.out _ (HT.out.keep (bdrewn hw'.out))).mono ?_); rintro e w2 ⟨rfl, hb⟩; exact ⟨_, rfl, hK _ _ ⟨rfl, Gr.of hb⟩⟩
    refine ⟨opOK_rx [(8, some 4), (11, some 7), (14, some 10)] (by kernel_rfl) rfl ?_, ?_⟩
    · intro act w' hw' h1 h2 h3
      have hk : ∀ v, act.eval (.const v) = v := fun _ => rfl
      have hf : ∀ f, act.eval (.func f) = .func (.func f) #[] #[] := fun _ => rfl
      generalize act.eval = ρ at *
      replace h1 : ρ (.tmp 8) = tx (sideB s) := h1
      replace h2 : ρ (.tmp 11) = tx (Lib.itoa w0) := h2
      replace h3 : ρ (.tmp 14) = tx (Lib.itoa h0) := h3
      refine gx_gen (fun K hK => ?_)
      have hsz := (bdrewn hw'.out).size; go_simp; exact hK _ _ ⟨OWN.new _ _ (by omega) (wd0 w0 h0 s) (by simp [wd0]), Gr.alloc _ _⟩
    exact trivial
  case hfin =>
    intro w1 hg1
    intro v4 t4
    replace t4 : (fun v a => SWv a v) v4 w1 := t4
    intro v5 t5
    replace t5 : v5 = .pointer (some ⟨w.heap.size, 2, none⟩) := t5
    subst t5
    intro v6 t6
    replace t6 : v6 = .int .i64 s := t6
    subst t6
    intro v7 t7
    replace t7 : (fun v a => SPt (sideB s) a v) v7 w1 := t7
    intro v8 t8
    replace t8 : v8 = tx (sideB s) := t8
    subst t8
    intro v9 t9
    replace t9 : v9 = .pointer (some ⟨w.heap.size, 0, none⟩) := t9
    subst t9
    intro v10 t10
    replace t10 : v10 = .int .i64 w0 := t10
    subst t10
    intro v11 t11
    replace t11 : v11 = tx (Lib.itoa w0) := t11
    subst t11
    intro v12 t12
    replace t12 : v12 = .pointer (some ⟨w.heap.size, 1, none⟩) := t12
    subst t12
    intro v13 t13
    replace t13 : v13 = .int .i64 h0 := t13
    subst t13
    intro v14 t14
    replace t14 : v14 = tx (Lib.itoa h0) := t14
    subst t14
    intro v15 t15
    replace t15 : (fun v a => OWN (w.heap.size + 1) (wd0 w0 h0 s) a v) v15 w1 := t15
    have hb1 := bdrewn hg1.out
    clear hg1
    simp only [finP, List.take_succ_cons, List.take_zero, Act.put, List.setIfInBounds_toArray, List.set_cons_succ, List.set_cons_zero]
    refine wpAny_one (i := 12) (by kernel_rfl) rfl rfl ?_
    go_simp
    refine wpAny_end (by kernel_rfl) ?_
    refine NoPan.thn ?_
    replace HX := Lib.hid ((hb1.block w.heap.size hlx).trans HX.out)
    replace HB := Lib.hid (bkeep2 HB.out hb1)
    clear hb1 c0 c1 c2 c3 c4 c5 c6 c7 c8 hlx t4 t7 HS4 HT
    have O0 := Lib.hid t15
    obtain ⟨c0, c1, c2, c3, c4, c5, c6, c7, c8⟩ := b9c HX.out
    have hlx := ltS HX.out
    go_wp2_with fail
    refine (appendIf1 (w.heap.size + 1) v15 (wd0 w0 h0 s) FX fx w1 O0.out (by omega)).mono ?_
    rintro e x0 ⟨⟨u0, rfl, o0⟩, hbx⟩
    replace HX := Lib.hid ((hbx.block w.heap.size (by omega)).trans HX.out)
    replace HB := Lib.hid (HB.out.trans (hbx.mono (by omega)))
    clear hbx c0 c1 c2 c3 c4 c5 c6 c7 c8 hlx O0
    replace o0 : OWN (w.heap.size + 1) (wd1 w0 h0 s fx) x0 u0 := o0
    have O1 := Lib.hid o0
    obtain ⟨c0, c1, c2, c3, c4, c5, c6, c7, c8⟩ := b9c HX.out
    have hlx := ltS HX.out
    go_wp2_with fail
    refine (appendIf1 (w.heap.size + 1) u0 (wd1 w0 h0 s fx) FY fy x0 O1.out (by omega)).mono ?_
    rintro e x1 ⟨⟨u1, rfl, o1⟩, hbx⟩
    replace HX := Lib.hid ((hbx.block w.heap.size (by omega)).trans HX.out)
    replace HB := Lib.hid (HB.out.trans (hbx.mono (by omega)))
    clear hbx c0 c1 c2 c3 c4 c5 c6 c7 c8 hlx O1
    replace o1 : OWN (w.heap.size + 1) (wd2 w0 h0 s fx fy) x1 u1 := o1
    have O2 := Lib.hid o1
    obtain ⟨c0, c1, c2, c3, c4, c5, c6, c7, c8⟩ := b9c HX.out
    have hlx := ltS HX.out
    go_wp2_with fail
    refine (appendIf1 (w.heap.size + 1) u1 (wd2 w0 h0 s fx fy) EX ex x1 O2.out (by omega)).mono ?_
    rintro e x2 ⟨⟨u2, rfl, o2⟩, hbx⟩
    replace HX := Lib.hid ((hbx.block w.heap.size (by omega)).trans HX.out)
    replace HB := Lib.hid (HB.out.trans (hbx.mono (by omega)))
    clear hbx c0 c1 c2 c3 c4 c5 c6 c7 c8 hlx O2
    replace o2 : OWN (w.heap.size + 1) (wd3 w0 h0 s fx fy ex) x2 u2 := o2
    have O3 := Lib.hid o2
    obtain ⟨c0, c1, c2, c3, c4, c5, c6, c7, c8⟩ := b9c HX.out
    have hlx := ltS HX.out
    have hT3 := Lib.hid (hT.keep HB.out)
    go_wp2_with fail
    refine wp_named (fun W3 eW3 => ?_)
    rw [← eW3] at HX HB hT3 hlx O3 c0 c1 c2 c3 c4 c5 c6 c7 c8 ⊢
    clear eW3
    refine wp_region_grow 7 3 (· < 8) (by kernel_rfl) (by kernel_rfl) rfl ?_
    iterate 7 (refine wpG_step (fun K hK => ?_); first | (refine grow_skip rfl ?_; go_simp; refine hK _ ?_; clear hK K) | (apply Exists.intro; refine ⟨.inl ⟨rfl, fun w' hw' => ?_⟩, ?_⟩; (focus ((obtain ⟨hc, hf⟩ := bcell hw'.out); (have hcS := bcellS hw'.out); go_simp <;> first | rfl | (go_at_call 59; (with_reducible refine (IA.out _ (hT3.out.keep (bdrewn hw'.out))).mono ?_; exact fun e w'' h => ⟨h.1, Gr.of h.2⟩)))); (go_simp; refine hK _ ?_; clear hK K)))
    refine wpG_nil ?_
    refine wpK_one (i := 7) (by kernel_rfl) rfl rfl (by kernel_rfl) (fun y3 hy3 => ?_)
    go_simp
    refine ⟨Gr.alloc _ _, ?_⟩
    refine wpK_tail (by kernel_rfl) (fun z3 hz3 => ?_)
    have S3 := (SLs.new y3 [AN, Lib.itoa an] 9).keep hz3.out
    have hb3 := bgrow (balloc (bgrow (Below.refl _ _).drew hy3)) hz3
    generalize y3.heap.size = g3 at *
    clear c0 c1 c2 c3 c4 c5 c6 c7 c8
    replace HX := Lib.hid ((hb3.block w.heap.size hlx).trans HX.out)
    replace HB := Lib.hid (bkeep2 HB.out hb3)
    have o3 := O3.out.keep hb3
    clear hb3 O3 hT3 hlx hy3 hz3
    refine wpAny_one (i := 8) (by kernel_rfl) rfl rfl ?_
    go_simp
    with_reducible refine (appendIf2 (w.heap.size + 1) u2 (wd3 w0 h0 s fx fy ex) AN (Lib.itoa an) (an != 4) g3 _ o3 S3 (by omega)).mono ?_
    rintro e x3 ⟨⟨u3, rfl, n3⟩, hbx⟩
    replace HX := Lib.hid ((hbx.block w.heap.size (by omega)).trans HX.out)
    replace HB := Lib.hid (HB.out.trans (hbx.mono (by omega)))
    clear hbx o3 S3
    replace n3 : OWN (w.heap.size + 1) (wd4 w0 h0 s fx fy ex an) x3 u3 := n3
    dsimp only
    refine wpAny_one (i := 9) (by kernel_rfl) rfl rfl ?_
    go_simp
    refine wpAny_end (by kernel_rfl) ?_
    refine NoPan.thn ?_
    have O4 := Lib.hid n3
    obtain ⟨c0, c1, c2, c3, c4, c5, c6, c7, c8⟩ := b9c HX.out
    have hlx := ltS HX.out
    have hT4 := Lib.hid (hT.keep HB.out)
    go_wp2_with fail
    refine wp_named (fun W4 eW4 => ?_)
    rw [← eW4] at HX HB hT4 hlx O4 c0 c1 c2 c3 c4 c5 c6 c7 c8 ⊢
    clear eW4
    refine wp_region_grow 7 3 (· < 8) (by kernel_rfl) (by kernel_rfl) rfl ?_
    iterate 7 (refine wpG_step (fun K hK => ?_); first | (refine grow_skip rfl ?_; go_simp; refine hK _ ?_; clear hK K) | (apply Exists.intro; refine ⟨.inl ⟨rfl, fun w' hw' => ?_⟩, ?_⟩; (focus ((obtain ⟨hc, hf⟩ := bcell hw'.out); (have hcS := bcellS hw'.out); go_simp <;> first | rfl | (go_at_call 59; (with_reducible refine (IX.out _ (hT4.out.keep (bdrewn hw'.out))).mono ?_; exact fun e w'' h => ⟨h.1, Gr.of h.2⟩)))); (go_simp; refine hK _ ?_; clear hK K)))
    refine wpG_nil ?_
    refine wpK_one (i := 7) (by kernel_rfl) rfl rfl (by kernel_rfl) (fun y4 hy4 => ?_)
    go_simp
    refine ⟨Gr.alloc _ _, ?_⟩
    refine wpK_tail (by kernel_rfl) (fun z4 hz4 => ?_)
    have S4 := (SLs.new y4 [PXW, Lib.itoa px] 9).keep hz4.out
    have hb4 := bgrow (balloc (bgrow (Below.refl _ _).drew hy4)) hz4
    generalize y4.heap.size = g4 at *
    clear c0 c1 c2 c3 c4 c5 c6 c7 c8
    replace HX := Lib.hid ((hb4.block w.heap.size hlx).trans HX.out)
    replace HB := Lib.hid (bkeep2 HB.out hb4)
    have o4 := O4.out.keep hb4
    clear hb4 O4 hT4 hlx hy4 hz4
    refine wpAny_one (i := 8) (by kernel_rfl) rfl rfl ?_
    go_simp
    with_reducible refine (appendIf2 (w.heap.size + 1) u3 (wd4 w0 h0 s fx fy ex an) PXW (Lib.itoa px) (px != 0) g4 _ o4 S4 (by omega)).mono ?_
    rintro e x4 ⟨⟨u4, rfl, n4⟩, hbx⟩
    replace HX := Lib.hid ((hbx.block w.heap.size (by omega)).trans HX.out)
    replace HB := Lib.hid (HB.out.trans (hbx.mono (by omega)))
    clear hbx o4 S4
    replace n4 : OWN (w.heap.size + 1) (wd5 w0 h0 s fx fy ex an px) x4 u4 := n4
    dsimp only
    refine wpAny_one (i := 9) (by kernel_rfl) rfl rfl ?_
    go_simp
    refine wpAny_end (by kernel_rfl) ?_
    refine NoPan.thn ?_
    have O5 := Lib.hid n4
    obtain ⟨c0, c1, c2, c3, c4, c5, c6, c7, c8⟩ := b9c HX.out
    have hlx := ltS HX.out
    have hT5 := Lib.hid (hT.keep HB.out)
    go_wp2_with fail
    refine wp_named (fun W5 eW5 => ?_)
    rw [← eW5] at HX HB hT5 hlx O5 c0 c1 c2 c3 c4 c5 c6 c7 c8 ⊢
    clear eW5
    refine wp_region_grow 7 3 (· < 8) (by kernel_rfl) (by kernel_rfl) rfl ?_
    iterate 7 (refine wpG_step (fun K hK => ?_); first | (refine grow_skip rfl ?_; go_simp; refine hK _ ?_; clear hK K) | (apply Exists.intro; refine ⟨.inl ⟨rfl, fun w' hw' => ?_⟩, ?_⟩; (focus ((obtain ⟨hc, hf⟩ := bcell hw'.out); (have hcS := bcellS hw'.out); go_simp <;> first | rfl | (go_at_call 59; (with_reducible refine (IY.out _ (hT5.out.keep (bdrewn hw'.out))).mono ?_; exact fun e w'' h => ⟨h.1, Gr.of h.2⟩)))); (go_simp; refine hK _ ?_; clear hK K)))
    refine wpG_nil ?_
    refine wpK_one (i := 7) (by kernel_rfl) rfl rfl (by kernel_rfl) (fun y5 hy5 => ?_)
    go_simp
    refine ⟨Gr.alloc _ _, ?_⟩
    refine wpK_tail (by kernel_rfl) (fun z5 hz5 => ?_)
    have S5 := (SLs.new y5 [PYW, Lib.itoa py] 9).keep hz5.out
    have hb5 := bgrow (balloc (bgrow (Below.refl _ _).drew hy5)) hz5
    generalize y5.heap.size = g5 at *
    clear c0 c1 c2 c3 c4 c5 c6 c7 c8
    replace HX := Lib.hid ((hb5.block w.heap.size hlx).trans HX.out)
    replace HB := Lib.hid (bkeep2 HB.out hb5)
    have o5 := O5.out.keep hb5
    clear hb5 O5 hT5 hlx hy5 hz5
    refine wpAny_one (i := 8) (by kernel_rfl) rfl rfl ?_
    go_simp
    with_reducible refine (appendIf2 (w.heap.size + 1) u4 (wd5 w0 h0 s fx fy ex an px) PYW (Lib.itoa py) (py != 0) g5 _ o5 S5 (by omega)).mono ?_
    rintro e x5 ⟨⟨u5, rfl, n5⟩, hbx⟩
    replace HX := Lib.hid ((hbx.block w.heap.size (by omega)).trans HX.out)
    replace HB := Lib.hid (HB.out.trans (hbx.mono (by omega)))
    clear hbx o5 S5
    replace n5 : OWN (w.heap.size + 1) (wds w0 h0 s fx fy ex an px py) x5 u5 := n5
    dsimp only
    refine wpAny_one (i := 9) (by kernel_rfl) rfl rfl ?_
    go_simp
    refine wpAny_end (by kernel_rfl) ?_
    refine NoPan.thn ?_
    go_wp2
    go_ret
    exact ⟨⟨_, rfl, n5⟩, HB.out⟩
end Go.Proofs.YtjfdmdmlgdgchaaDoor
end
section
namespace Go.Proofs.YtjfdmdmlgdgchaaDoor
open Go.RowKit
set_option linter.unusedVariables false
set_option linter.unusedSimpArgs false
set_option maxHeartbeats 1000000
attribute [local go_sem] growUpon_value growUpon_skip growUpon_enter
attribute [local go_sem] givesUpon_value givesUpon_skip givesUpon_enter
/-! An item's text. -/
theorem join_snoc (L : List (List UInt8)) (x sp : List UInt8) (h : L ≠ []) : Lib.join (L ++ [x]) sp = Lib.join L sp ++ sp ++ x := by
  cases L with
  | nil => exact absurd rfl h
  | cons y r =>
    rw [List.cons_append, Lib.join_cons, Lib.join_cons]
    simp [Lib.joinTail, List.append_assoc]
theorem join_le (K : Nat) (sp : List UInt8) (hs : sp.length ≤ 1) : ∀ (L : List (List UInt8)), (∀ x ∈ L, x.length ≤ K) → (Lib.join L sp).length ≤ L.length * (K + 1)
  | [], _ => by simp [Lib.join_nil]
  | x :: r, h => by
    rw [Lib.join_cons, List.length_append]
    have h1 := h x List.mem_cons_self
    have h2 : ∀ (r : List (List UInt8)), (∀ x ∈ r, x.length ≤ K) → (Lib.joinTail sp r).length ≤ r.length * (K + 1) := by
      intro r
      induction r with
      | nil => intro _; simp [Lib.joinTail]
      | cons y t ih =>
        intro hy
        have := ih (fun z hz => hy z (List.mem_cons_of_mem _ hz))
        have h3 := hy y List.mem_cons_self
        unfold Lib.joinTail at this ⊢
        rw [List.map_cons, List.flatten_cons, List.length_append, List.length_append, List.length_cons, Nat.add_mul]
        omega
    have h3 := h2 r (fun z hz => h z (List.mem_cons_of_mem _ hz))
    rw [List.length_cons, Nat.add_mul]
    omega
theorem opt_all {P : List UInt8 → Prop} {t : Bool} {M L : List (List UInt8)} (h1 : ∀ x ∈ M, P x) (h2 : ∀ x ∈ L, P x) : ∀ x ∈ optL t M L, P x := by
  intro x hx
  cases t
  · exact h2 x hx
  · rcases List.mem_append.1 (show x ∈ L ++ M from hx) with h | h
    · exact h2 x h
    · exact h1 x h
theorem itoa_small {n : Int} (h : 0 ≤ n ∧ n ≤ 40) : (Lib.itoa n).length ≤ 50 := by have := itoa_len n; omega
theorem wds_all {w0 h0 s : Int} {fx fy ex : Bool} {an px py : Int} (hv : vpB w0 h0 s an px py = true) : ∀ x ∈ wds w0 h0 s fx fy ex an px py, x.length ≤ 50 := by
  obtain ⟨⟨a1, a2⟩, ⟨a3, a4⟩, ⟨a5, a6⟩, ⟨a7, a8⟩, ⟨a9, a10⟩, ⟨a11, a12⟩⟩ := vpB_iff.1 hv
  have i1 := @itoa_small w0 (by omega)
  have i2 := @itoa_small h0 (by omega)
  have i3 := @itoa_small an (by omega)
  have i4 := @itoa_small px (by omega)
  have i5 := @itoa_small py (by omega)
  have hs : (sideB s).length ≤ 50 := by
    have : s = 0 ∨ s = 1 ∨ s = 2 ∨ s = 3 := by omega
    rcases this with rfl | rfl | rfl | rfl <;> decide
  refine opt_all ?_ (opt_all ?_ (opt_all ?_ (opt_all ?_ (opt_all ?_ (opt_all ?_ ?_)))))
  all_goals
    intro x hx
    simp only [wd0, FX, FY, EX, AN, PXW, PYW, List.mem_cons, List.not_mem_nil, or_false] at hx
  · rcases hx with rfl | rfl <;> simp_all
  · rcases hx with rfl | rfl <;> simp_all
  · rcases hx with rfl | rfl <;> simp_all
  · subst hx; decide
  · subst hx; decide
  · subst hx; decide
  · rcases hx with rfl | rfl | rfl <;> assumption
theorem opt_ne {t : Bool} {M L : List (List UInt8)} (h : L ≠ []) : optL t M L ≠ [] := by cases t <;> simp [optL, h]
theorem wds_len {w0 h0 s : Int} {fx fy ex : Bool} {an px py : Int} : (wds w0 h0 s fx fy ex an px py).length ≤ 12 := by
  have l1 := optL_len fx [FX] (wd0 w0 h0 s)
  have l2 := optL_len fy [FY] (wd1 w0 h0 s fx)
  have l3 := optL_len ex [EX] (wd2 w0 h0 s fx fy)
  have l4 := optL_len (an != 4) [AN, Lib.itoa an] (wd3 w0 h0 s fx fy ex)
  have l5 := optL_len (px != 0) [PXW, Lib.itoa px] (wd4 w0 h0 s fx fy ex an)
  have l6 := optL_len (py != 0) [PYW, Lib.itoa py] (wd5 w0 h0 s fx fy ex an px)
  simp only [wd0, wd1, wd2, wd3, wd4, wd5, wds, List.length_cons, List.length_nil] at *
  omega
theorem pkT_len {w0 h0 s : Int} {fx fy ex : Bool} {an px py : Int} (hv : vpB w0 h0 s an px py = true) : (pkT w0 h0 s fx fy ex an px py).length ≤ 700 := by
  have h1 := join_le 50 [32] (by simp) _ (wds_all (fx := fx) (fy := fy) (ex := ex) hv)
  have h2 := @wds_len w0 h0 s fx fy ex an px py
  unfold pkT
  have : (wds w0 h0 s fx fy ex an px py).length * 51 ≤ 12 * 51 := Nat.mul_le_mul_right _ h2
  omega
theorem join_v (base : Nat) (L : List (List UInt8)) (v : Value) (w : World) (h : OWN base L w v) (h0 : 1 ≤ L.length) (hL : L.length ≤ 1000) (hl : (Lib.join L [32]).length ≤ 1000000) :
    Calls Tryd.prog 31 #[v, .string ⟨#[32]⟩] w fun e w' => e = .returned (tx (Lib.join L [32])) ∧ Below w.heap.size w w' := by
  obtain ⟨_, _, h⟩ := h
  rcases h with ⟨rfl, h⟩ | ⟨g, cap, cur, rfl, hb, hg, hc, hm, hs, ht⟩
  · omega
  · have hx : (L.map fun l => (⟨l.toArray⟩ : ByteArray)).map (·.data.toList) = L := by rw [List.map_map]; exact (List.map_congr_left (fun x _ => rfl)).trans (List.map_id L)
    have := Tryd.strings_Join g 0 cap (L.map fun l => ⟨l.toArray⟩) ⟨#[32]⟩ w (fun j x hj => by
      simp only [List.getElem?_map, Option.map_eq_some_iff] at hj
      obtain ⟨y, hy, rfl⟩ := hj
      have e : (tvals L)[j]? = some (tx y) := by simp [tvals, hy]
      have hi := (List.getElem?_eq_some_iff.1 hy).1
      rw [← ht, List.getElem?_take, if_pos (by omega)] at e
      rw [Nat.zero_add]
      have e' : cur[j]? = some (tx y) := by simpa using e
      exact (cellS hg j).trans e') (ltS hg) (by simp; omega) (by simpa using hc) (by rw [hx]; show (Lib.join L [32]).length ≤ _; omega)
    rw [hx] at this
    simp only [List.length_map] at this
    exact this
theorem PackText_v (w0 h0 s : Int) (fx fy ex : Bool) (an px py : Int) (w : World) (hT : LT.TW w) :
    Calls Tryd.prog 17 #[.agg #[.int .i64 w0, .int .i64 h0, .int .i64 s, .bool fx, .bool fy, .bool ex, .int .i64 an, .int .i64 px, .int .i64 py]] w fun e w' => e = .returned (tx (if vpB w0 h0 s an px py then pkT w0 h0 s fx fy ex an px py else [])) ∧ Below w.heap.size w w' := by
  have HV := Lib.hid (fun w => validPack_any w0 h0 s fx fy ex an px py w)
  cases hv : vpB w0 h0 s an px py
  · rw [hv] at HV
    go_enter Tryd.func17, Tryd.ntmps17
    go_wp2_with fail
    with_reducible refine (HV.out _).mono ?_
    rintro e w1 ⟨rfl, hb⟩
    go_wp2
    go_ret
    exact ⟨rfl, bkeep2 (balloc (Below.refl _ _)) hb⟩
  · rw [hv] at HV
    have HW := Lib.hid (fun w h => words_v w0 h0 s fx fy ex an px py w hv h)
    have hl := @pkT_len w0 h0 s fx fy ex an px py hv
    have hn := @wds_len w0 h0 s fx fy ex an px py
    have h1 : 1 ≤ (wds w0 h0 s fx fy ex an px py).length := List.length_pos_iff.2 (opt_ne (opt_ne (opt_ne (opt_ne (opt_ne (opt_ne (by simp [wd0])))))))
    rw [if_pos rfl]
    unfold pkT at hl ⊢
    have HJ := Lib.hid (fun base v w h => join_v base _ v w h h1 (by omega) (by omega))
    generalize wds w0 h0 s fx fy ex an px py = L at *
    clear hl hn h1 hv
    have HX := Lib.hid (newS w (.cells #[.int .i64 w0, .int .i64 h0, .int .i64 s, .bool fx, .bool fy, .bool ex, .int .i64 an, .int .i64 px, .int .i64 py] 23))
    have HB := Lib.hid (balloc (o := (.cells #[.int .i64 w0, .int .i64 h0, .int .i64 s, .bool fx, .bool fy, .bool ex, .int .i64 an, .int .i64 px, .int .i64 py] 23)) (Below.refl w.heap.size w))
    go_enter Tryd.func17, Tryd.ntmps17
    go_wp2_with fail
    with_reducible refine (HV.out _).mono ?_
    rintro e w1 ⟨rfl, hb⟩
    replace HX := Lib.hid ((hb.block _ (Array.getElem?_eq_some_iff.1 HX.out).1).trans HX.out)
    replace HB := Lib.hid (bkeep2 HB.out hb)
    clear hb
    obtain ⟨c0, c1, c2, c3, c4, c5, c6, c7, c8⟩ := b9c HX.out
    go_wp2_with fail
    with_reducible refine (HW.out _ (hT.keep HB.out)).mono ?_
    rintro e w2 ⟨⟨v, rfl, ho⟩, hb⟩
    clear c0 c1 c2 c3 c4 c5 c6 c7 c8
    replace HB := Lib.hid (bkeep2 HB.out hb)
    clear hb
    go_wp2_with fail
    with_reducible refine (HJ.out _ _ _ ho).mono ?_
    rintro e w3 ⟨rfl, hb⟩
    replace HB := Lib.hid (bkeep2 HB.out hb)
    clear hb
    go_wp2
    go_ret
    exact ⟨rfl, HB.out⟩
end Go.Proofs.YtjfdmdmlgdgchaaDoor
end
section
namespace Go.Proofs.YtjfdmdmlgdgchaaDoor
set_option linter.unusedVariables false
set_option linter.unusedSimpArgs false
/-! Which words are numbers. -/
theorem dec_small {m : Nat} (h : m < 10) : Lib.decDigits m = [UInt8.ofNat (48 + m)] := by rw [Lib.decDigits, dif_pos h]
theorem dec_big {m : Nat} (h : ¬ m < 10) : Lib.decDigits m = Lib.decDigits (m / 10) ++ [UInt8.ofNat (48 + m % 10)] := by rw [Lib.decDigits, dif_neg h]
theorem dec_app {n d : Nat} (hn : 1 ≤ n) (hd : d < 10) : Lib.decDigits (10 * n + d) = Lib.decDigits n ++ [UInt8.ofNat (48 + d)] := by
  rw [dec_big (by omega), show (10 * n + d) / 10 = n by omega, show (10 * n + d) % 10 = d by omega]
/-- what a number's word begins with is a number's word -/
theorem dec_prefix : ∀ (m : Nat) (p q : List UInt8), Lib.decDigits m = p ++ q → p ≠ [] → ∃ m', p = Lib.decDigits m' ∧ m' ≤ m ∧ (q ≠ [] → 1 ≤ m' ∧ 10 * m' ≤ m) := by
  intro m
  induction m using Nat.strongRecOn with
  | _ m ih =>
    intro p q h hp
    by_cases hq : q = []
    · subst hq
      exact ⟨m, by simpa using h.symm, Nat.le_refl _, fun h => absurd rfl h⟩
    · by_cases hm : m < 10
      · rw [dec_small hm] at h
        have := congrArg List.length h
        simp only [List.length_append, List.length_singleton] at this
        have h1 : p.length ≠ 0 := fun e => hp (List.length_eq_zero_iff.1 e)
        have h2 : q.length ≠ 0 := fun e => hq (List.length_eq_zero_iff.1 e)
        omega
      · rw [dec_big hm] at h
        obtain ⟨q', x, rfl⟩ : ∃ q' x, q = q' ++ [x] := ⟨q.dropLast, q.getLast hq, (List.dropLast_concat_getLast hq).symm⟩
        rw [← List.append_assoc] at h
        have h' := List.append_inj_left' h rfl
        obtain ⟨m', e, hle, hmore⟩ := ih (m / 10) (by omega) p q' h' hp
        refine ⟨m', e, by omega, fun _ => ?_⟩
        by_cases hq' : q' = []
        · subst hq'
          have : m / 10 = m' := dec_inj (by rw [h', ← e]; simp)
          omega
        · have := hmore hq'
          omega
/-- the number that a word is in decimal, up to most; -1 for other words -/
def numV (most : Nat) (l : List UInt8) : Int := match (List.range (most + 1)).find? (fun m => Lib.decDigits m == l) with
  | some m => m
  | none => -1
theorem numV_yes {most m : Nat} (h : m ≤ most) : numV most (Lib.decDigits m) = m := by
  unfold numV
  cases hf : (List.range (most + 1)).find? (fun k => Lib.decDigits k == Lib.decDigits m) with
  | none =>
    have := List.find?_eq_none.1 hf m (List.mem_range.2 (by omega))
    simp at this
  | some k =>
    have := List.find?_some hf
    have e : Lib.decDigits k = Lib.decDigits m := by simpa using this
    rw [dec_inj e]
theorem numV_no {most : Nat} {l : List UInt8} (h : ∀ m, m ≤ most → Lib.decDigits m ≠ l) : numV most l = -1 := by
  unfold numV
  cases hf : (List.range (most + 1)).find? (fun k => Lib.decDigits k == l) with
  | none => rfl
  | some k =>
    have h1 := List.find?_some hf
    have h2 := List.mem_range.1 (List.mem_of_find?_eq_some hf)
    exact absurd (by simpa using h1) (h k (by omega))
theorem numV_cases (most : Nat) (l : List UInt8) : (∃ m, m ≤ most ∧ l = Lib.decDigits m ∧ numV most l = m) ∨ (numV most l = -1 ∧ ∀ m, m ≤ most → Lib.decDigits m ≠ l) := by
  by_cases h : ∃ m, m ≤ most ∧ Lib.decDigits m = l
  · obtain ⟨m, hm, rfl⟩ := h
    exact .inl ⟨m, hm, rfl, numV_yes hm⟩
  · have h' : ∀ m, m ≤ most → Lib.decDigits m ≠ l := fun m hm e => h ⟨m, hm, e⟩
    exact .inr ⟨numV_no h', h'⟩
theorem numV_itoa {most : Nat} {n : Int} (h : 0 ≤ n ∧ n ≤ most) : numV most (Lib.itoa n) = n := by
  obtain ⟨m, rfl⟩ := Int.eq_ofNat_of_zero_le h.1
  rw [Lib.itoa, if_neg (by omega)]
  simpa using numV_yes (most := most) (m := m) (by omega)
/-- how far the reading of a number has come: nothing yet, or a number's word -/
def NumS (p : List UInt8) (n : Int) : Prop := (p = [] ∧ n = -1) ∨ ∃ k : Nat, n = k ∧ p = Lib.decDigits k
theorem NumS.nonneg {p : List UInt8} {n : Int} (h : NumS p n) : -1 ≤ n := by rcases h with ⟨_, rfl⟩ | ⟨k, rfl, _⟩ <;> omega
/-- one digit more -/
theorem NumS.step {p : List UInt8} {n : Int} (h : NumS p n) (h0 : n ≠ 0) {c : UInt8} (hc : 48 ≤ c.toNat ∧ c.toNat ≤ 57) : NumS (p ++ [c]) (10 * (if n < 0 then 0 else n) + ((c.toNat : Int) - 48)) := by
  have hcc : c = UInt8.ofNat (48 + (c.toNat - 48)) := by
    rw [show 48 + (c.toNat - 48) = c.toNat by omega]; simp
  rcases h with ⟨rfl, rfl⟩ | ⟨k, rfl, rfl⟩
  · refine .inr ⟨c.toNat - 48, ?_, ?_⟩
    · rw [if_pos (by omega)]; omega
    · rw [dec_small (by omega), List.nil_append, ← hcc]
  · refine .inr ⟨10 * k + (c.toNat - 48), ?_, ?_⟩
    · rw [if_neg (by omega)]; omega
    · rw [dec_app (by omega) (by omega), ← hcc]
/-- a number that goes on -/
theorem numS_stop0 {most : Nat} {p : List UInt8} {c : UInt8} {r : List UInt8} (h : NumS p 0) : numV most (p ++ c :: r) = -1 := numV_no fun m hm e => by
  rcases h with ⟨_, h⟩ | ⟨k, hk, rfl⟩
  · omega
  · obtain ⟨m', e1, _, h2⟩ := dec_prefix m _ _ e (dec_ne_nil k)
    have := dec_inj e1
    have := (h2 (by simp)).1
    omega
theorem numS_stopc {most : Nat} {p : List UInt8} {c : UInt8} {r : List UInt8} (hc : ¬ (48 ≤ c.toNat ∧ c.toNat ≤ 57)) : numV most (p ++ c :: r) = -1 := numV_no fun m hm e => hc (dec_ge m c (by rw [e]; simp))
theorem numS_stopm {most : Nat} {p : List UInt8} {n : Int} {r : List UInt8} (h : NumS p n) (hn : (most : Int) < n) : numV most (p ++ r) = -1 := numV_no fun m hm e => by
  rcases h with ⟨_, h⟩ | ⟨k, rfl, rfl⟩
  · omega
  · obtain ⟨m', e1, h1, _⟩ := dec_prefix m _ _ e (dec_ne_nil k)
    have := dec_inj e1
    omega
theorem numS_end {most : Nat} {p : List UInt8} {n : Int} (h : NumS p n) (hn : n ≤ most) : numV most p = n := by
  rcases h with ⟨rfl, rfl⟩ | ⟨k, rfl, rfl⟩
  · exact numV_no fun m _ e => dec_ne_nil m e
  · exact numV_yes (by omega)
end Go.Proofs.YtjfdmdmlgdgchaaDoor
end
section
namespace Go.Proofs.YtjfdmdmlgdgchaaDoor
open Go.RowKit
set_option linter.unusedVariables false
set_option linter.unusedSimpArgs false
set_option maxHeartbeats 2000000
attribute [local go_sem 5000] run_mx run_mn
/-! impl.numberOf. -/
theorem sget (s : ByteArray) (pos : Nat) (h : pos < s.size) : s.data.toList = s.data.toList.take pos ++ s[pos]'h :: s.data.toList.drop (pos + 1) := by
  have hl : pos < s.data.toList.length := by simpa using h
  have e : s[pos]'h = s.data.toList[pos] := by simp [ByteArray.getElem_eq_getElem_data]
  rw [e, List.getElem_cons_drop, List.take_append_drop]
theorem stake (s : ByteArray) (pos : Nat) (h : pos < s.size) : s.data.toList.take (pos + 1) = s.data.toList.take pos ++ [s[pos]'h] := by
  have hl : pos < s.data.toList.length := by simpa using h
  have e : s[pos]'h = s.data.toList[pos] := by simp [ByteArray.getElem_eq_getElem_data]
  rw [e, List.take_succ_eq_append_getElem hl]
set_option maxRecDepth 100000 in
theorem numberOf_v (s : ByteArray) (hs : s.size ≤ 4294967280) (w : World) : Calls Tryd.prog 69 #[.string s] w fun e w' => e = .returned (.int .i64 (numV 400 s.data.toList)) ∧ Below w.heap.size w w' := by
  obtain ⟨V, hV⟩ : ∃ V, numV 400 s.data.toList = V := ⟨_, rfl⟩
  rw [hV]
  have HV := Lib.hid hV
  clear hV
  go_enter Tryd.func69, Tryd.ntmps69
  go_wp2_with fail
  go_loopw [3] (fun nv wr => ∃ (pos : Nat) (n : Int), nv = .int .i64 n ∧ pos ≤ s.size ∧ NumS (s.data.toList.take pos) n ∧ n ≤ 400 ∧ wr = w.iter s pos) (fun _ wr => s.size - wr.iterPos w.heap.size)
  case atStart => exact ⟨0, -1, rfl, by omega, .inl ⟨rfl, rfl⟩, by omega, rfl⟩
  case round =>
    obtain ⟨pos, n, rfl, hpos, hN, hn, rfl⟩ := hrel
    by_cases hp : pos < s.size
    · have hnx : ∀ ty, (Instr.next (.pointer (some ⟨w.heap.size, 0, none⟩)) true ty).run Tryd.prog (w.iter s pos) = _ := fun ty => Lib.run_next_any_at (w.iter s pos) w.heap.size s pos ty (World.iter_heap _ _ _) hp
      have hit := World.iter_heap w s pos
      by_cases hb : (s[pos]'hp).toNat < 128
      · have hd := decode_ascii s pos hp hb
        have hia : (w.iter s pos).iterAt w.heap.size s (pos + 1) = w.iter s (pos + 1) := World.iter_set w s pos (pos + 1)
        rw [hd, hia] at hnx
        have hsp := sget s pos hp
        have htk := stake s pos hp
        obtain ⟨b, hbb⟩ : ∃ b, s[pos]'hp = b := ⟨_, rfl⟩
        rw [hbb] at hnx hsp htk hb
        have wB : IntKind.i64.wrap (b.toNat : Int) = (b.toNat : Int) := IntWalk.i64_in _ (by omega)
        have wB2 : wrap64 (b.toNat : Int) = (b.toNat : Int) := IntWalk.wrap64_in _ (by omega)
        clear hd hbb hia
        by_cases hn0 : n = 0
        · subst hn0
          have hr : V = -1 := by rw [← HV.out, hsp]; exact numS_stop0 hN
          subst hr
          clear hsp htk
          go_wp2
          go_ret
          exact ⟨rfl, balloc (Below.refl _ _)⟩
        · have hne : (n == 0) = false := by simpa using hn0
          by_cases hc : 48 ≤ b.toNat ∧ b.toNat ≤ 57
          · have hrg : rng (b.toNat : Int) 48 57 = true := rng_iff.2 (by omega)
            have hS := hN.step hn0 hc
            rw [← htk] at hS
            have hM : (if n < 0 then (0 : Int) else n) = max n 0 := by split <;> omega
            rw [hM] at hS
            have hms : 0 ≤ max n 0 ∧ (max n 0 = 0 ∨ max n 0 = n) := by omega
            have hn1 := hN.nonneg
            obtain ⟨m, hm⟩ : ∃ m, max n 0 = m := ⟨_, rfl⟩
            rw [hm] at hS hms
            have wM : IntKind.i64.wrap (10 * m) = 10 * m := IntWalk.i64_in _ (by omega)
            have wS : IntKind.i32.wrap ((b.toNat : Int) - 48) = (b.toNat : Int) - 48 := IntWalk.i32_in _ (by omega)
            have wS2 : IntKind.i64.wrap ((b.toNat : Int) - 48) = (b.toNat : Int) - 48 := IntWalk.i64_in _ (by omega)
            obtain ⟨n', hn'⟩ : ∃ n', 10 * m + ((b.toNat : Int) - 48) = n' := ⟨_, rfl⟩
            have wA : IntKind.i64.wrap (10 * m + ((b.toNat : Int) - 48)) = n' := (IntWalk.i64_in _ (by omega)).trans hn'
            rw [hn'] at hS
            have hN' := Lib.hid hS
            have hpp := Lib.hid hp
            have hpl : pos + 1 ≤ s.size := by omega
            by_cases hg : n' > 400
            · have hr : V = -1 := by
                rw [← HV.out, show s.data.toList = s.data.toList.take (pos + 1) ++ s.data.toList.drop (pos + 1) from (List.take_append_drop _ _).symm]
                exact numS_stopm hS (by omega)
              subst hr
              have hgd : decide (n' > 400) = true := by simpa using hg
              clear hsp htk hN hS hms hn1 hn' hM
              go_wp2_with (go_at_call 41; refine (within_any _ _ _ _).mono ?_; rintro e w' ⟨rfl, rfl⟩)
              go_ret
              exact ⟨rfl, balloc (Below.refl _ _)⟩
            · have hgd : decide (n' > 400) = false := by simpa using hg
              clear hsp htk hN hS hms hn1 hn' hM
              go_wp2_with (go_at_call 41; refine (within_any _ _ _ _).mono ?_; rintro e w' ⟨rfl, rfl⟩)
              go_roundw
              case rel => exact ⟨pos + 1, n', rfl, hpl, hN'.out, by omega, rfl⟩
              case measure =>
                simp only [World.iterPos, World.iter_heap]
                have := hpp.out
                omega
          · have hrg : rng (b.toNat : Int) 48 57 = false := rng_not.2 (by omega)
            have hr : V = -1 := by rw [← HV.out, hsp]; exact numS_stopc hc
            subst hr
            clear hsp htk hN
            go_wp2_with (go_at_call 41; refine (within_any _ _ _ _).mono ?_; rintro e w' ⟨rfl, rfl⟩)
            go_ret
            exact ⟨rfl, balloc (Below.refl _ _)⟩
      · have hd := decode_high s pos hp (by omega)
        have hr : V = -1 := by rw [← HV.out, sget s pos hp]; exact numS_stopc (by omega)
        obtain ⟨D, hD⟩ : ∃ D, Utf8.decode s pos = D := ⟨_, rfl⟩
        have hia : (w.iter s pos).iterAt w.heap.size s (pos + D.2) = w.iter s (pos + D.2) := World.iter_set w s pos _
        rw [hD] at hnx hd
        rw [hia] at hnx
        subst hr
        have h4 := decode_le s pos
        rw [hD] at h4
        have wB : IntKind.i64.wrap (D.1 : Int) = (D.1 : Int) := IntWalk.i64_in _ (by omega)
        have hrg : rng (D.1 : Int) 48 57 = false := rng_not.2 (by omega)
        by_cases hn0 : n = 0
        · subst hn0
          clear hN
          go_wp2
          go_ret
          exact ⟨rfl, balloc (Below.refl _ _)⟩
        · have hne : (n == 0) = false := by simpa using hn0
          clear hN
          go_wp2_with (go_at_call 41; refine (within_any _ _ _ _).mono ?_; rintro e w' ⟨rfl, rfl⟩)
          go_ret
          exact ⟨rfl, balloc (Below.refl _ _)⟩
    · have hnx : ∀ ty, (Instr.next (.pointer (some ⟨w.heap.size, 0, none⟩)) true ty).run Tryd.prog (w.iter s pos) = _ := fun ty => Lib.run_next_end_at (w.iter s pos) w.heap.size s pos ty (World.iter_heap _ _ _) hp
      have he : s.data.toList.take pos = s.data.toList := List.take_of_length_le (by simp; omega)
      rw [he] at hN
      have hr : n = V := by rw [← HV.out]; exact (numS_end (most := 400) hN (by omega)).symm
      subst hr
      clear he
      go_wp2
      go_ret
      exact ⟨rfl, balloc (Below.refl _ _)⟩
end Go.Proofs.YtjfdmdmlgdgchaaDoor
end
section
namespace Go.Proofs.YtjfdmdmlgdgchaaDoor
open Go.RowKit
set_option linter.unusedVariables false
set_option linter.unusedSimpArgs false
set_option maxHeartbeats 2000000
/-! spec.readNumber. -/
theorem bs_ne {s t : ByteArray} (h : ¬ s = t) : (s == t) = false := by
  cases s with | mk a =>
  cases t with | mk b =>
  have : (a == b) = false := beq_false_of_ne (fun e : a = b => h (by rw [e]))
  exact this
theorem vdig_app (p : List UInt8) (c : UInt8) : vdig (p ++ [c]) = 10 * vdig p + (c.toNat - 48) := by
  unfold vdig; rw [List.foldl_append]; rfl
theorem numV_more {p : List UInt8} {c : UInt8} {r : List UInt8} (h : 99 < vdig p) : numV 999 (p ++ c :: r) = -1 := numV_no fun m hm e => by
  have hp : p ≠ [] := fun e => by subst e; simp [vdig] at h
  obtain ⟨m', e1, _, h2⟩ := dec_prefix m _ _ e hp
  have := h2 (by simp)
  rw [e1, vdig_dec] at h
  omega
theorem numV_same {l : List UInt8} (h : vdig l ≤ 999) (e : l = Lib.decDigits (vdig l)) : numV 999 l = (vdig l : Int) := by
  conv => lhs; rw [e]
  exact numV_yes h
theorem numV_diff {l : List UInt8} (e : l ≠ Lib.decDigits (vdig l)) : numV 999 l = -1 := numV_no fun m hm e' => e (by
  have := vdig_dec m
  rw [e'] at this
  rw [this, e'])
theorem eqg_cc (o : BinOp) (s t : Operand) (a : List UInt8) (b : ByteArray) (w : World) : (eqGuard o 9 s t (tx a) (.string b)).run Tryd.prog w = .ok () w := by
  unfold tx
  cases o <;> go_simp
theorem eql_nil (w : World) : (binOp .eql 9 (tx []) (.string ⟨#[]⟩)).run Tryd.prog w = .ok (.bool true) w := by
  unfold tx
  go_simp
theorem txs_ne {a b : List UInt8} (h : a ≠ b) : ¬ (⟨a.toArray⟩ : ByteArray) = ⟨b.toArray⟩ := fun e => h (by simpa using e)
theorem eql_no (a : List UInt8) (h : a ≠ []) (w : World) : (binOp .eql 9 (tx a) (.string ⟨#[]⟩)).run Tryd.prog w = .ok (.bool false) w := by
  have h' := txs_ne h
  unfold tx
  go_simp
theorem neq_yes (a b : List UInt8) (h : a ≠ b) (w : World) : (binOp .neq 9 (tx a) (tx b)).run Tryd.prog w = .ok (.bool true) w := by
  have h' := txs_ne h
  unfold tx
  go_simp
theorem eql_not (a b : List UInt8) (h : a ≠ b) (w : World) : (binOp .eql 9 (tx a) (tx b)).run Tryd.prog w = .ok (.bool false) w := by
  have h' := txs_ne h
  unfold tx
  go_simp
set_option maxRecDepth 100000 in
theorem readNumber_v (s : ByteArray) (hs : s.size ≤ 4294967280) (w : World) : Calls Tryd.prog 46 #[.string s] w fun e w' => e = .returned (.int .i64 (numV 999 s.data.toList)) ∧ Below w.heap.size w w' := by
  obtain ⟨V, hV⟩ : ∃ V, numV 999 s.data.toList = V := ⟨_, rfl⟩
  rw [hV]
  have HV := Lib.hid hV
  clear hV
  go_enter Tryd.func46, Tryd.ntmps46
  go_wp2_with fail
  go_loop [3, 4] (fun nv iv => ∃ (pos : Nat) (n : Nat), nv = .int .i64 n ∧ iv = .int .i64 pos ∧ pos ≤ s.size ∧ n = vdig (s.data.toList.take pos) ∧ n ≤ 999) (fun _ iv => s.size - (intOf iv).toNat)
  case atStart => exact ⟨0, 0, rfl, rfl, by omega, rfl, by omega⟩
  case round =>
    obtain ⟨pos, n, rfl, rfl, hpos, hN, hn⟩ := hrel
    by_cases hp : pos < s.size
    · have hd : decide ((pos : Int) < (s.size : Int)) = true := decide_eq_true (by omega)
      have hsp := sget s pos hp
      have htk := stake s pos hp
      obtain ⟨b, hbb⟩ : ∃ b, s[pos]'hp = b := ⟨_, rfl⟩
      have HSP := Lib.hid hsp
      have HTK := Lib.hid htk
      have HN := Lib.hid hN
      have HB := Lib.hid hbb
      clear hsp htk hN
      by_cases hc1 : b.toNat < 48
      · have hd1 : decide ((b.toNat : Int) < 48) = true := decide_eq_true (by omega)
        have hr : V = -1 := by rw [← HV.out, HSP.out, HB.out]; exact numS_stopc (by omega)
        subst hr
        go_wp2
        go_ret
        exact ⟨rfl, Below.refl _ _⟩
      · have hd1 : decide ((b.toNat : Int) < 48) = false := decide_eq_false (by omega)
        by_cases hc2 : 57 < b.toNat
        · have hd2 : decide ((b.toNat : Int) > 57) = true := decide_eq_true (by omega)
          have hr : V = -1 := by rw [← HV.out, HSP.out, HB.out]; exact numS_stopc (by omega)
          subst hr
          go_wp2
          go_ret
          exact ⟨rfl, Below.refl _ _⟩
        · have hd2 : decide ((b.toNat : Int) > 57) = false := decide_eq_false (by omega)
          by_cases hc3 : 99 < n
          · have hd3 : decide ((n : Int) > 99) = true := decide_eq_true (by omega)
            have hr : V = -1 := by rw [← HV.out, HSP.out, HB.out]; exact numV_more (by rw [← HN.out]; exact hc3)
            subst hr
            go_wp2
            go_ret
            exact ⟨rfl, Below.refl _ _⟩
          · have hd3 : decide ((n : Int) > 99) = false := decide_eq_false (by omega)
            have wM : IntKind.i64.wrap (10 * (n : Int)) = 10 * (n : Int) := IntWalk.i64_in _ (by omega)
            have wS : IntKind.u8.wrap ((b.toNat : Int) - 48) = (b.toNat : Int) - 48 := IntWalk.u8_in _ (by omega)
            have wS2 : IntKind.i64.wrap ((b.toNat : Int) - 48) = (b.toNat : Int) - 48 := IntWalk.i64_in _ (by omega)
            obtain ⟨n', hn'⟩ : ∃ n', 10 * n + (b.toNat - 48) = n' := ⟨_, rfl⟩
            have wA : IntKind.i64.wrap (10 * (n : Int) + ((b.toNat : Int) - 48)) = (n' : Int) := (IntWalk.i64_in _ (by omega)).trans (by omega)
            have wP : IntKind.i64.wrap ((pos : Int) + 1) = ((pos + 1 : Nat) : Int) := (IntWalk.i64_in _ (by omega)).trans (by omega)
            have hN2 : n' = vdig (s.data.toList.take (pos + 1)) := by rw [HTK.out, HB.out, vdig_app, ← HN.out]; exact hn'.symm
            have HN2 := Lib.hid hN2
            have hl9 : n' ≤ 999 := by omega
            clear hN2 hn'
            go_wp2
            go_roundw
            · exact ⟨pos + 1, n', rfl, rfl, by omega, HN2.out, hl9⟩
            · simp [intOf]; omega
    · have hd : decide ((pos : Int) < (s.size : Int)) = false := decide_eq_false (by omega)
      have he : s.data.toList.take pos = s.data.toList := List.take_of_length_le (by simp; omega)
      rw [he] at hN
      have HN := Lib.hid hN
      have G1 : ∀ a b w, (eqGuard .eql 9 a b (.string s) (.string ⟨#[]⟩)).run Tryd.prog w = .ok () w := fun a b w => eqg_cc .eql a b s.data.toList ⟨#[]⟩ w
      have G2 : ∀ a b w, (eqGuard .neq 9 a b (.string s) (tx (Lib.itoa n))).run Tryd.prog w = .ok () w := fun a b w => eqg_tx .neq a b s.data.toList (Lib.itoa n) w
      have hit : Lib.itoa n = Lib.decDigits n := by rw [Lib.itoa, if_neg (by omega)]; simp
      have HNUM := Lib.hid (fun w => number_v (n : Int) (by omega) w)
      clear hN he
      by_cases h0 : s.data.toList = []
      · have hr : V = -1 := by rw [← HV.out, h0]; exact numV_no fun m _ e => dec_ne_nil m e
        subst hr
        have hs0 : s = ⟨#[]⟩ := by
          have : s.data = #[] := by simpa using h0
          cases s; simp_all
        subst hs0
        clear h0 HN HV HNUM hit G1 G2
        go_wp2
        go_ret
        exact ⟨rfl, Below.refl _ _⟩
      · have g1 : ∀ w, (binOp .eql 9 (.string s) (.string ⟨#[]⟩)).run Tryd.prog w = .ok (.bool false) w := fun w => eql_no s.data.toList h0 w
        have hz1 : ¬ s = ⟨#[]⟩ := fun e => h0 (by rw [e])
        have hz2 : (s == ⟨#[]⟩) = false := bs_ne hz1
        have hz3 : ¬ s.toList = [] := fun e => hz1 ((toList_nil_iff_emptyBytes s).1 e)
        have hz4 : s.toList.isEmpty = false := by cases h : s.toList with | nil => exact absurd h hz3 | cons a t => rfl
        by_cases hq : s.data.toList = Lib.decDigits n
        · have hr : V = n := by rw [← HV.out, numV_same (by rw [← HN.out]; exact hn) (by rw [← HN.out]; exact hq), ← HN.out]
          subst hr
          have g2 : ∀ w, (binOp .neq 9 (.string s) (tx (Lib.itoa n))).run Tryd.prog w = .ok (.bool false) w := fun w => by
            have := ne_same s.data.toList w
            rw [hit, ← hq]
            exact this
          clear h0 hq hit
          go_wp2_with fail
          with_reducible refine (HNUM.out _).mono ?_
          rintro e w2 ⟨rfl, hb⟩
          go_wp2
          go_ret
          exact ⟨rfl, hb⟩
        · have hr : V = -1 := by rw [← HV.out]; exact numV_diff (by rw [← HN.out]; exact hq)
          subst hr
          have g2 : ∀ w, (binOp .neq 9 (.string s) (tx (Lib.itoa n))).run Tryd.prog w = .ok (.bool true) w := fun w => neq_yes s.data.toList _ (by rw [hit]; exact hq) w
          clear h0 hq hit
          go_wp2_with fail
          with_reducible refine (HNUM.out _).mono ?_
          rintro e w2 ⟨rfl, hb⟩
          go_wp2
          go_ret
          exact ⟨rfl, hb⟩
end Go.Proofs.YtjfdmdmlgdgchaaDoor
end
