import Derived.Test.YtjdjahckdgbkbadDoorQ03
import Derived.Deep.DeepCutAuto
section
namespace Go.Proofs.YtjdjahckdgbkbadDoor
open Go.RowKit
set_option linter.unusedVariables false
set_option linter.unusedSimpArgs false
set_option maxHeartbeats 1000000
attribute [local go_sem] growUpon_value growUpon_skip growUpon_enter
attribute [local go_sem] givesUpon_value givesUpon_skip givesUpon_enter
/-! An item's words. -/
def FX : List UInt8 := [102, 105, 108, 108, 120]
def FY : List UInt8 := [102, 105, 108, 108, 121]
def EX : List UInt8 := [101, 120, 112, 97, 110, 100]
def AN : List UInt8 := [97, 110, 99, 104, 111, 114]
def PXW : List UInt8 := [112, 97, 100, 120]
def PYW : List UInt8 := [112, 97, 100, 121]
def wd0 (w0 h0 s : Int) : List (List UInt8) := [sideB s, Lib.itoa w0, Lib.itoa h0]
def wd1 (w0 h0 s : Int) (fx : Bool) := optL fx [FX] (wd0 w0 h0 s)
def wd2 (w0 h0 s : Int) (fx fy : Bool) := optL fy [FY] (wd1 w0 h0 s fx)
def wd3 (w0 h0 s : Int) (fx fy ex : Bool) := optL ex [EX] (wd2 w0 h0 s fx fy)
def wd4 (w0 h0 s : Int) (fx fy ex : Bool) (an : Int) := optL (an != 4) [AN, Lib.itoa an] (wd3 w0 h0 s fx fy ex)
def wd5 (w0 h0 s : Int) (fx fy ex : Bool) (an px : Int) := optL (px != 0) [PXW, Lib.itoa px] (wd4 w0 h0 s fx fy ex an)
def wds (w0 h0 s : Int) (fx fy ex : Bool) (an px py : Int) := optL (py != 0) [PYW, Lib.itoa py] (wd5 w0 h0 s fx fy ex an px)
def pkT (w0 h0 s : Int) (fx fy ex : Bool) (an px py : Int) : List UInt8 := Lib.join (wds w0 h0 s fx fy ex an px py) [32]
/-- a list of these words -/
def SLv (L : List (List UInt8)) (w : World) (v : Value) : Prop := ∃ g, v = .slice (some ⟨g, 0, none⟩) L.length L.length ∧ SLs w g 0 L
theorem SLv.keep {L : List (List UInt8)} {w w' : World} {v : Value} (h : SLv L w v) (hb : Below w.heap.size w w') : SLv L w' v := let ⟨g, e, s⟩ := h; ⟨g, e, s.keep hb⟩
theorem appendIf1 (base : Nat) (v : Value) (L : List (List UInt8)) (m : List UInt8) (told : Bool) (w : World) (ho : OWN base L w v) (hs : L.length ≤ 900) :
    Calls Tryd.prog 55 #[v, .bool told, .slice (some ⟨w.heap.size, 0, none⟩) 1 1] (w.alloc (.cells #[tx m] 9)) fun e w' => (∃ v', e = .returned v' ∧ OWN base (optL told [m] L) w' v') ∧ Below base w w' := by
  refine (appendIf_v base v L [m] told w.heap.size 1 _ (ho.keep (balloc (Below.refl _ _))) (SLs.new w [m] _) (by simp; omega)).mono ?_
  rintro e w' ⟨h1, h2⟩
  exact ⟨h1, ((Below.refl base w).alloc ho.1 _).trans h2⟩
theorem appendIf2 (base : Nat) (v : Value) (L : List (List UInt8)) (a b : List UInt8) (told : Bool) (g : Nat) (w : World) (ho : OWN base L w v) (hM : SLs w g 0 [a, b]) (hs : L.length ≤ 900) :
    Calls Tryd.prog 55 #[v, .bool told, .slice (some ⟨g, 0, none⟩) 2 2] w fun e w' => (∃ v', e = .returned v' ∧ OWN base (optL told [a, b] L) w' v') ∧ Below base w w' :=
  appendIf_v base v L [a, b] told g 2 w ho hM (by simp; omega)
set_option maxRecDepth 100000 in
theorem words_v (w0 h0 s : Int) (fx fy ex : Bool) (an px py : Int) (w : World) (hv : vpB w0 h0 s an px py = true) (hT : LT.TW w) :
    Calls Tryd.prog 29 #[.agg #[.int .i64 w0, .int .i64 h0, .int .i64 s, .bool fx, .bool fy, .bool ex, .int .i64 an, .int .i64 px, .int .i64 py]] w fun e w' => (∃ v, e = .returned v ∧ OWN (w.heap.size + 1) (wds w0 h0 s fx fy ex an px py) w' v) ∧ Below w.heap.size w w' := by
  obtain ⟨⟨a1, a2⟩, ⟨a3, a4⟩, ⟨a5, a6⟩, ⟨a7, a8⟩, ⟨a9, a10⟩, ⟨a11, a12⟩⟩ := vpB_iff.1 hv
  have hs4 : s = 0 ∨ s = 1 ∨ s = 2 ∨ s = 3 := by omega
  have IW := Lib.hid (fun w h => itoa_v w0 (by omega) w h)
  have IH := Lib.hid (fun w h => itoa_v h0 (by omega) w h)
  have IA := Lib.hid (fun w h => itoa_v an (by omega) w h)
  have IX := Lib.hid (fun w h => itoa_v px (by omega) w h)
  have IY := Lib.hid (fun w h => itoa_v py (by omega) w h)
  have l0 : (wd0 w0 h0 s).length = 3 := rfl
  have l1 : (wd1 w0 h0 s fx).length ≤ 4 := by have := optL_len fx [FX] (wd0 w0 h0 s); simp at this; unfold wd1; omega
  have l2 : (wd2 w0 h0 s fx fy).length ≤ 5 := by have := optL_len fy [FY] (wd1 w0 h0 s fx); simp at this; unfold wd2; omega
  have l3 : (wd3 w0 h0 s fx fy ex).length ≤ 6 := by have := optL_len ex [EX] (wd2 w0 h0 s fx fy); simp at this; unfold wd3; omega
  have l4 : (wd4 w0 h0 s fx fy ex an).length ≤ 8 := by have := optL_len (an != 4) [AN, Lib.itoa an] (wd3 w0 h0 s fx fy ex); simp at this; unfold wd4; omega
  have l5 : (wd5 w0 h0 s fx fy ex an px).length ≤ 10 := by have := optL_len (px != 0) [PXW, Lib.itoa px] (wd4 w0 h0 s fx fy ex an); simp at this; unfold wd5; omega
  have HS4 := Lib.hid hs4
  clear hv a1 a2 a3 a4 a5 a6 a7 a8 a9 a10 a11 a12 hs4
  go_enter Tryd.func29, Tryd.ntmps29
  go_wp2_with fail
  have HX := Lib.hid (newS w (.cells #[.int .i64 w0, .int .i64 h0, .int .i64 s, .bool fx, .bool fy, .bool ex, .int .i64 an, .int .i64 px, .int .i64 py] 25))
  have HB := Lib.hid (balloc (o := (.cells #[.int .i64 w0, .int .i64 h0, .int .i64 s, .bool fx, .bool fy, .bool ex, .int .i64 an, .int .i64 px, .int .i64 py] 25)) (Below.refl w.heap.size w))
  have HT := Lib.hid (hT.keep HB.out)
  have hs1 : (w.alloc (.cells #[.int .i64 w0, .int .i64 h0, .int .i64 s, .bool fx, .bool fy, .bool ex, .int .i64 an, .int .i64 px, .int .i64 py] 25)).heap.size = w.heap.size + 1 := by simp
  refine wp_named (fun W0 e0 => ?_)
  rw [← e0] at HX HB HT hs1 ⊢
  clear e0
  obtain ⟨c0, c1, c2, c3, c4, c5, c6, c7, c8⟩ := b9c HX.out
  have hlx := ltS HX.out
  refine wp_region_rxl 12 1 [] #[true, true, true, true, true, true, true, true, true, true, true, true, false] (by kernel_rfl) (by kernel_rfl) (by kernel_rfl) ((fun v a => SWv a v) :: XV (.pointer (some ⟨w.heap.size, 2, none⟩)) :: XV (.int .i64 s) :: (fun v a => SPt (sideB s) a v) :: XV (tx (sideB s)) :: XV (.pointer (some ⟨w.heap.size, 0, none⟩)) :: XV (.int .i64 w0) :: XV (tx (Lib.itoa w0)) :: XV (.pointer (some ⟨w.heap.size, 1, none⟩)) :: XV (.int .i64 h0) :: XV (tx (Lib.itoa h0)) :: (fun v a => OWN (w.heap.size + 1) (wd0 w0 h0 s) a v) :: []) (by kernel_rfl) (by kernel_rfl) (by kernel_rfl) ?hTs ?hXs ?hops ?hfin
  case hTs =>
    intro T hT
    simp only [List.mem_cons, List.not_mem_nil, or_false] at hT
    rcases hT with rfl | rfl | rfl | rfl | rfl | rfl | rfl | rfl | rfl | rfl | rfl | rfl <;> first | exact stay_V _ | exact stay_T | exact stay_of (fun v a b x g => x.keep g) | exact stay_of (fun v a b x g => x)
  case hXs =>
    intro x d s hx
    exact absurd hx (List.not_mem_nil)
  case hops =>
    refine ⟨opOK_rx [] (by kernel_rfl) rfl ?_, ?_⟩
    · intro act w' hw' 
      have hk : ∀ v, act.eval (.const v) = v := fun _ => rfl
      have hf : ∀ f, act.eval (.func f) = .func (.func f) #[] #[] := fun _ => rfl
      generalize act.eval = ρ at *
      refine gx_gen (fun K hK => ?_)
      obtain ⟨hc, hf'⟩ := bcell (bdrewn hw'.out)
      go_simp
      (with_reducible refine (sideWords_v _).mono ?_); rintro e w2 ⟨⟨v, rfl, hv⟩, hb⟩; exact ⟨v, rfl, hK _ _ ⟨hv, Gr.of hb⟩⟩
    refine ⟨opOK_rx [(1, none)] (by kernel_rfl) rfl ?_, ?_⟩
    · intro act w' hw' h1
      have hk : ∀ v, act.eval (.const v) = v := fun _ => rfl
      have hf : ∀ f, act.eval (.func f) = .func (.func f) #[] #[] := fun _ => rfl
      generalize act.eval = ρ at *
      replace h1 : ρ (.tmp 1) = .pointer (some ⟨w.heap.size, 0, none⟩) := h1
      refine gx_gen (fun K hK => ?_)
      obtain ⟨hc, hf'⟩ := bcell (bdrewn hw'.out)
      go_simp
      exact hK _ _ ⟨rfl, Gr.refl _⟩
    refine ⟨opOK_rx [(5, some 1)] (by kernel_rfl) rfl ?_, ?_⟩
    · intro act w' hw' h1
      have hk : ∀ v, act.eval (.const v) = v := fun _ => rfl
      have hf : ∀ f, act.eval (.func f) = .func (.func f) #[] #[] := fun _ => rfl
      generalize act.eval = ρ at *
      replace h1 : ρ (.tmp 5) = .pointer (some ⟨w.heap.size, 2, none⟩) := h1
      refine gx_gen (fun K hK => ?_)
      obtain ⟨hc, hf'⟩ := bcell (bdrewn hw'.out)
      go_simp
      exact hK _ _ ⟨rfl, Gr.refl _⟩
    refine ⟨opOK_rx [(4, some 0), (6, some 2)] (by kernel_rfl) rfl ?_, ?_⟩
    · intro act w' hw' h1 h2
      have hk : ∀ v, act.eval (.const v) = v := fun _ => rfl
      have hf : ∀ f, act.eval (.func f) = .func (.func f) #[] #[] := fun _ => rfl
      generalize act.eval = ρ at *
      replace h1 : (fun v a => SWv a v) (ρ (.tmp 4)) w' := h1
      replace h2 : ρ (.tmp 6) = .int .i64 s := h2
      refine gx_gen (fun K hK => ?_)
      obtain ⟨g, e4, hS⟩ := h1; rcases HS4.out with rfl | rfl | rfl | rfl <;> (go_simp; exact hK _ _ ⟨⟨g, _, rfl, hS.1, hS.at _ rfl⟩, Gr.refl _⟩)
    refine ⟨opOK_rx [(7, some 3)] (by kernel_rfl) rfl ?_, ?_⟩
    · intro act w' hw' h1
      have hk : ∀ v, act.eval (.const v) = v := fun _ => rfl
      have hf : ∀ f, act.eval (.func f) = .func (.func f) #[] #[] := fun _ => rfl
      generalize act.eval = ρ at *
      replace h1 : (fun v a => SPt (sideB s) a v) (ρ (.tmp 7)) w' := h1
      refine gx_gen (fun K hK => ?_)
      obtain ⟨b, o, e7, hl, hcl⟩ := h1; go_simp; exact hK _ _ ⟨rfl, Gr.refl _⟩
    refine ⟨opOK_rx [(1, none)] (by kernel_rfl) rfl ?_, ?_⟩
    · intro act w' hw' h1
      have hk : ∀ v, act.eval (.const v) = v := fun _ => rfl
      have hf : ∀ f, act.eval (.func f) = .func (.func f) #[] #[] := fun _ => rfl
      generalize act.eval = ρ at *
      replace h1 : ρ (.tmp 1) = .pointer (some ⟨w.heap.size, 0, none⟩) := h1
      refine gx_gen (fun K hK => ?_)
      obtain ⟨hc, hf'⟩ := bcell (bdrewn hw'.out)
      go_simp
      exact hK _ _ ⟨rfl, Gr.refl _⟩
    refine ⟨opOK_rx [(9, some 5)] (by kernel_rfl) rfl ?_, ?_⟩
    · intro act w' hw' h1
      have hk : ∀ v, act.eval (.const v) = v := fun _ => rfl
      have hf : ∀ f, act.eval (.func f) = .func (.func f) #[] #[] := fun _ => rfl
      generalize act.eval = ρ at *
      replace h1 : ρ (.tmp 9) = .pointer (some ⟨w.heap.size, 0, none⟩) := h1
      refine gx_gen (fun K hK => ?_)
      obtain ⟨hc, hf'⟩ := bcell (bdrewn hw'.out)
      go_simp
      exact hK _ _ ⟨rfl, Gr.refl _⟩
    refine ⟨opOK_rx [(10, some 6)] (by kernel_rfl) rfl ?_, ?_⟩
    · intro act w' hw' h1
      have hk : ∀ v, act.eval (.const v) = v := fun _ => rfl
      have hf : ∀ f, act.eval (.func f) = .func (.func f) #[] #[] := fun _ => rfl
      generalize act.eval = ρ at *
      replace h1 : ρ (.tmp 10) = .int .i64 w0 := h1
      refine gx_gen (fun K hK => ?_)
      obtain ⟨hc, hf'⟩ := bcell (bdrewn hw'.out)
      go_simp
      (with_reducible refine (IW.out _ (HT.out.keep (bdrewn hw'.out))).mono ?_); rintro e w2 ⟨rfl, hb⟩; exact ⟨_, rfl, hK _ _ ⟨rfl, Gr.of hb⟩⟩
    refine ⟨opOK_rx [(1, none)] (by kernel_rfl) rfl ?_, ?_⟩
    · intro act w' hw' h1
      have hk : ∀ v, act.eval (.const v) = v := fun _ => rfl
      have hf : ∀ f, act.eval (.func f) = .func (.func f) #[] #[] := fun _ => rfl
      generalize act.eval = ρ at *
      replace h1 : ρ (.tmp 1) = .pointer (some ⟨w.heap.size, 0, none⟩) := h1
      refine gx_gen (fun K hK => ?_)
      obtain ⟨hc, hf'⟩ := bcell (bdrewn hw'.out)
      go_simp
      exact hK _ _ ⟨rfl, Gr.refl _⟩
    refine ⟨opOK_rx [(12, some 8)] (by kernel_rfl) rfl ?_, ?_⟩
    · intro act w' hw' h1
      have hk : ∀ v, act.eval (.const v) = v := fun _ => rfl
      have hf : ∀ f, act.eval (.func f) = .func (.func f) #[] #[] := fun _ => rfl
      generalize act.eval = ρ at *
      replace h1 : ρ (.tmp 12) = .pointer (some ⟨w.heap.size, 1, none⟩) := h1
      refine gx_gen (fun K hK => ?_)
      obtain ⟨hc, hf'⟩ := bcell (bdrewn hw'.out)
      go_simp
      exact hK _ _ ⟨rfl, Gr.refl _⟩
    refine ⟨opOK_rx [(13, some 9)] (by kernel_rfl) rfl ?_, ?_⟩
    · intro act w' hw' h1
      have hk : ∀ v, act.eval (.const v) = v := fun _ => rfl
      have hf : ∀ f, act.eval (.func f) = .func (.func f) #[] #[] := fun _ => rfl
      generalize act.eval = ρ at *
      replace h1 : ρ (.tmp 13) = .int .i64 h0 := h1
      refine gx_gen (fun K hK => ?_)
      obtain ⟨hc, hf'⟩ := bcell (bdrewn hw'.out)
      go_simp
      (with_reducible refine (IH.out _ (HT.out.keep (bdrewn hw'.out))).mono ?_); rintro e w2 ⟨rfl, hb⟩; exact ⟨_, rfl, hK _ _ ⟨rfl, Gr.of hb⟩⟩
    refine ⟨opOK_rx [(8, some 4), (11, some 7), (14, some 10)] (by kernel_rfl) rfl ?_, ?_⟩
    · intro act w' hw' h1 h2 h3
      have hk : ∀ v, act.eval (.const v) = v := fun _ => rfl
      have hf : ∀ f, act.eval (.func f) = .func (.func f) #[] #[] := fun _ => rfl
      generalize act.eval = ρ at *
      replace h1 : ρ (.tmp 8) = tx (sideB s) := h1
      replace h2 : ρ (.tmp 11) = tx (Lib.itoa w0) := h2
      replace h3 : ρ (.tmp 14) = tx (Lib.itoa h0) := h3
      refine gx_gen (fun K hK => ?_)
      have hsz := (bdrewn hw'.out).size; go_simp; exact hK _ _ ⟨OWN.new _ _ (by omega) (wd0 w0 h0 s) (by simp [wd0]), Gr.alloc _ _⟩
    exact trivial
  case hfin =>
    intro w1 hg1
    intro v4 t4
    replace t4 : (fun v a => SWv a v) v4 w1 := t4
    intro v5 t5
    replace t5 : v5 = .pointer (some ⟨w.heap.size, 2, none⟩) := t5
    subst t5
    intro v6 t6
    replace t6 : v6 = .int .i64 s := t6
    subst t6
    intro v7 t7
    replace t7 : (fun v a => SPt (sideB s) a v) v7 w1 := t7
    intro v8 t8
    replace t8 : v8 = tx (sideB s) := t8
    subst t8
    intro v9 t9
    replace t9 : v9 = .pointer (some ⟨w.heap.size, 0, none⟩) := t9
    subst t9
    intro v10 t10
    replace t10 : v10 = .int .i64 w0 := t10
    subst t10
    intro v11 t11
    replace t11 : v11 = tx (Lib.itoa w0) := t11
    subst t11
    intro v12 t12
    replace t12 : v12 = .pointer (some ⟨w.heap.size, 1, none⟩) := t12
    subst t12
    intro v13 t13
    replace t13 : v13 = .int .i64 h0 := t13
    subst t13
    intro v14 t14
    replace t14 : v14 = tx (Lib.itoa h0) := t14
    subst t14
    intro v15 t15
    replace t15 : (fun v a => OWN (w.heap.size + 1) (wd0 w0 h0 s) a v) v15 w1 := t15
    have hb1 := bdrewn hg1.out
    clear hg1
    simp only [finP, List.take_succ_cons, List.take_zero, Act.put, List.setIfInBounds_toArray, List.set_cons_succ, List.set_cons_zero]
    refine wpAny_one (i := 12) (by kernel_rfl) rfl rfl ?_
    go_simp
    refine wpAny_end (by kernel_rfl) ?_
    refine NoPan.thn ?_
    replace HX := Lib.hid ((hb1.block w.heap.size hlx).trans HX.out)
    replace HB := Lib.hid (bkeep2 HB.out hb1)
    clear hb1 c0 c1 c2 c3 c4 c5 c6 c7 c8 hlx t4 t7 HS4 HT
    have O0 := Lib.hid t15
    obtain ⟨c0, c1, c2, c3, c4, c5, c6, c7, c8⟩ := b9c HX.out
    have hlx := ltS HX.out
    go_wp2_with fail
    refine (appendIf1 (w.heap.size + 1) v15 (wd0 w0 h0 s) FX fx w1 O0.out (by omega)).mono ?_
    rintro e x0 ⟨⟨u0, rfl, o0⟩, hbx⟩
    replace HX := Lib.hid ((hbx.block w.heap.size (by omega)).trans HX.out)
    replace HB := Lib.hid (HB.out.trans (hbx.mono (by omega)))
    clear hbx c0 c1 c2 c3 c4 c5 c6 c7 c8 hlx O0
    replace o0 : OWN (w.heap.size + 1) (wd1 w0 h0 s fx) x0 u0 := o0
    have O1 := Lib.hid o0
    obtain ⟨c0, c1, c2, c3, c4, c5, c6, c7, c8⟩ := b9c HX.out
    have hlx := ltS HX.out
    go_wp2_with fail
    refine (appendIf1 (w.heap.size + 1) u0 (wd1 w0 h0 s fx) FY fy x0 O1.out (by omega)).mono ?_
    rintro e x1 ⟨⟨u1, rfl, o1⟩, hbx⟩
    replace HX := Lib.hid ((hbx.block w.heap.size (by omega)).trans HX.out)
    replace HB := Lib.hid (HB.out.trans (hbx.mono (by omega)))
    clear hbx c0 c1 c2 c3 c4 c5 c6 c7 c8 hlx O1
    replace o1 : OWN (w.heap.size + 1) (wd2 w0 h0 s fx fy) x1 u1 := o1
    have O2 := Lib.hid o1
    obtain ⟨c0, c1, c2, c3, c4, c5, c6, c7, c8⟩ := b9c HX.out
    have hlx := ltS HX.out
    go_wp2_with fail
    refine (appendIf1 (w.heap.size + 1) u1 (wd2 w0 h0 s fx fy) EX ex x1 O2.out (by omega)).mono ?_
    rintro e x2 ⟨⟨u2, rfl, o2⟩, hbx⟩
    replace HX := Lib.hid ((hbx.block w.heap.size (by omega)).trans HX.out)
    replace HB := Lib.hid (HB.out.trans (hbx.mono (by omega)))
    clear hbx c0 c1 c2 c3 c4 c5 c6 c7 c8 hlx O2
    replace o2 : OWN (w.heap.size + 1) (wd3 w0 h0 s fx fy ex) x2 u2 := o2
    have O3 := Lib.hid o2
    obtain ⟨c0, c1, c2, c3, c4, c5, c6, c7, c8⟩ := b9c HX.out
    have hlx := ltS HX.out
    have hT3 := Lib.hid (hT.keep HB.out)
    go_wp2_with fail
    refine wp_named (fun W3 eW3 => ?_)
    rw [← eW3] at HX HB hT3 hlx O3 c0 c1 c2 c3 c4 c5 c6 c7 c8 ⊢
    clear eW3
    refine wp_region_grow 7 3 (· < 8) (by kernel_rfl) (by kernel_rfl) rfl ?_
    iterate 7 (refine wpG_step (fun K hK => ?_); first | (refine grow_skip rfl ?_; go_simp; refine hK _ ?_; clear hK K) | (apply Exists.intro; refine ⟨.inl ⟨rfl, fun w' hw' => ?_⟩, ?_⟩; (focus ((obtain ⟨hc, hf⟩ := bcell hw'.out); (have hcS := bcellS hw'.out); go_simp <;> first | rfl | (go_at_call 54; (with_reducible refine (IA.out _ (hT3.out.keep (bdrewn hw'.out))).mono ?_; exact fun e w'' h => ⟨h.1, Gr.of h.2⟩)))); (go_simp; refine hK _ ?_; clear hK K)))
    refine wpG_nil ?_
    refine wpK_one (i := 7) (by kernel_rfl) rfl rfl (by kernel_rfl) (fun y3 hy3 => ?_)
    go_simp
    refine ⟨Gr.alloc _ _, ?_⟩
    refine wpK_tail (by kernel_rfl) (fun z3 hz3 => ?_)
    have S3 := (SLs.new y3 [AN, Lib.itoa an] 9).keep hz3.out
    have hb3 := bgrow (balloc (bgrow (Below.refl _ _).drew hy3)) hz3
    generalize y3.heap.size = g3 at *
    clear c0 c1 c2 c3 c4 c5 c6 c7 c8
    replace HX := Lib.hid ((hb3.block w.heap.size hlx).trans HX.out)
    replace HB := Lib.hid (bkeep2 HB.out hb3)
    have o3 := O3.out.keep hb3
    clear hb3 O3 hT3 hlx hy3 hz3
    refine wpAny_one (i := 8) (by kernel_rfl) rfl rfl ?_
    go_simp
    with_reducible refine (appendIf2 (w.heap.size + 1) u2 (wd3 w0 h0 s fx fy ex) AN (Lib.itoa an) (an != 4) g3 _ o3 S3 (by omega)).mono ?_
    rintro e x3 ⟨⟨u3, rfl, n3⟩, hbx⟩
    replace HX := Lib.hid ((hbx.block w.heap.size (by omega)).trans HX.out)
    replace HB := Lib.hid (HB.out.trans (hbx.mono (by omega)))
    clear hbx o3 S3
    replace n3 : OWN (w.heap.size + 1) (wd4 w0 h0 s fx fy ex an) x3 u3 := n3
    dsimp only
    refine wpAny_one (i := 9) (by kernel_rfl) rfl rfl ?_
    go_simp
    refine wpAny_end (by kernel_rfl) ?_
    refine NoPan.thn ?_
    have O4 := Lib.hid n3
    obtain ⟨c0, c1, c2, c3, c4, c5, c6, c7, c8⟩ := b9c HX.out
    have hlx := ltS HX.out
    have hT4 := Lib.hid (hT.keep HB.out)
    go_wp2_with fail
    refine wp_named (fun W4 eW4 => ?_)
    rw [← eW4] at HX HB hT4 hlx O4 c0 c1 c2 c3 c4 c5 c6 c7 c8 ⊢
    clear eW4
    refine wp_region_grow 7 3 (· < 8) (by kernel_rfl) (by kernel_rfl) rfl ?_
    iterate 7 (refine wpG_step (fun K hK => ?_); first | (refine grow_skip rfl ?_; go_simp; refine hK _ ?_; clear hK K) | (apply Exists.intro; refine ⟨.inl ⟨rfl, fun w' hw' => ?_⟩, ?_⟩; (focus ((obtain ⟨hc, hf⟩ := bcell hw'.out); (have hcS := bcellS hw'.out); go_simp <;> first | rfl | (go_at_call 54; (with_reducible refine (IX.out _ (hT4.out.keep (bdrewn hw'.out))).mono ?_; exact fun e w'' h => ⟨h.1, Gr.of h.2⟩)))); (go_simp; refine hK _ ?_; clear hK K)))
    refine wpG_nil ?_
    refine wpK_one (i := 7) (by kernel_rfl) rfl rfl (by kernel_rfl) (fun y4 hy4 => ?_)
    go_simp
    refine ⟨Gr.alloc _ _, ?_⟩
    refine wpK_tail (by kernel_rfl) (fun z4 hz4 => ?_)
    have S4 := (SLs.new y4 [PXW, Lib.itoa px] 9).keep hz4.out
    have hb4 := bgrow (balloc (bgrow (Below.refl _ _).drew hy4)) hz4
    generalize y4.heap.size = g4 at *
    clear c0 c1 c2 c3 c4 c5 c6 c7 c8
    replace HX := Lib.hid ((hb4.block w.heap.size hlx).trans HX.out)
    replace HB := Lib.hid (bkeep2 HB.out hb4)
    have o4 := O4.out.keep hb4
    clear hb4 O4 hT4 hlx hy4 hz4
    refine wpAny_one (i := 8) (by kernel_rfl) rfl rfl ?_
    go_simp
    with_reducible refine (appendIf2 (w.heap.size + 1) u3 (wd4 w0 h0 s fx fy ex an) PXW (Lib.itoa px) (px != 0) g4 _ o4 S4 (by omega)).mono ?_
    rintro e x4 ⟨⟨u4, rfl, n4⟩, hbx⟩
    replace HX := Lib.hid ((hbx.block w.heap.size (by omega)).trans HX.out)
    replace HB := Lib.hid (HB.out.trans (hbx.mono (by omega)))
    clear hbx o4 S4
    replace n4 : OWN (w.heap.size + 1) (wd5 w0 h0 s fx fy ex an px) x4 u4 := n4
    dsimp only
    refine wpAny_one (i := 9) (by kernel_rfl) rfl rfl ?_
    go_simp
    refine wpAny_end (by kernel_rfl) ?_
    refine NoPan.thn ?_
    have O5 := Lib.hid n4
    obtain ⟨c0, c1, c2, c3, c4, c5, c6, c7, c8⟩ := b9c HX.out
    have hlx := ltS HX.out
    have hT5 := Lib.hid (hT.keep HB.out)
    go_wp2_with fail
    refine wp_named (fun W5 eW5 => ?_)
    rw [← eW5] at HX HB hT5 hlx O5 c0 c1 c2 c3 c4 c5 c6 c7 c8 ⊢
    clear eW5
    refine wp_region_grow 7 3 (· < 8) (by kernel_rfl) (by kernel_rfl) rfl ?_
    iterate 7 (refine wpG_step (fun K hK => ?_); first | (refine grow_skip rfl ?_; go_simp; refine hK _ ?_; clear hK K) | (apply Exists.intro; refine ⟨.inl ⟨rfl, fun w' hw' => ?_⟩, ?_⟩; (focus ((obtain ⟨hc, hf⟩ := bcell hw'.out); (have hcS := bcellS hw'.out); go_simp <;> first | rfl | (go_at_call 54; (with_reducible refine (IY.out _ (hT5.out.keep (bdrewn hw'.out))).mono ?_; exact fun e w'' h => ⟨h.1, Gr.of h.2⟩)))); (go_simp; refine hK _ ?_; clear hK K)))
    refine wpG_nil ?_
    refine wpK_one (i := 7) (by kernel_rfl) rfl rfl (by kernel_rfl) (fun y5 hy5 => ?_)
    go_simp
    refine ⟨Gr.alloc _ _, ?_⟩
    refine wpK_tail (by kernel_rfl) (fun z5 hz5 => ?_)
    have S5 := (SLs.new y5 [PYW, Lib.itoa py] 9).keep hz5.out
    have hb5 := bgrow (balloc (bgrow (Below.refl _ _).drew hy5)) hz5
    generalize y5.heap.size = g5 at *
    clear c0 c1 c2 c3 c4 c5 c6 c7 c8
    replace HX := Lib.hid ((hb5.block w.heap.size hlx).trans HX.out)
    replace HB := Lib.hid (bkeep2 HB.out hb5)
    have o5 := O5.out.keep hb5
    clear hb5 O5 hT5 hlx hy5 hz5
    refine wpAny_one (i := 8) (by kernel_rfl) rfl rfl ?_
    go_simp
    with_reducible refine (appendIf2 (w.heap.size + 1) u4 (wd5 w0 h0 s fx fy ex an px) PYW (Lib.itoa py) (py != 0) g5 _ o5 S5 (by omega)).mono ?_
    rintro e x5 ⟨⟨u5, rfl, n5⟩, hbx⟩
    replace HX := Lib.hid ((hbx.block w.heap.size (by omega)).trans HX.out)
    replace HB := Lib.hid (HB.out.trans (hbx.mono (by omega)))
    clear hbx o5 S5
    replace n5 : OWN (w.heap.size + 1) (wds w0 h0 s fx fy ex an px py) x5 u5 := n5
    dsimp only
    refine wpAny_one (i := 9) (by kernel_rfl) rfl rfl ?_
    go_simp
    refine wpAny_end (by kernel_rfl) ?_
    refine NoPan.thn ?_
    go_wp2
    go_ret
    exact ⟨⟨_, rfl, n5⟩, HB.out⟩
end Go.Proofs.YtjdjahckdgbkbadDoor
end
section
namespace Go.Proofs.YtjdjahckdgbkbadDoor
open Go.RowKit
set_option linter.unusedVariables false
set_option linter.unusedSimpArgs false
set_option maxHeartbeats 1000000
attribute [local go_sem] growUpon_value growUpon_skip growUpon_enter
attribute [local go_sem] givesUpon_value givesUpon_skip givesUpon_enter
/-! An item's text. -/
theorem join_snoc (L : List (List UInt8)) (x sp : List UInt8) (h : L ≠ []) : Lib.join (L ++ [x]) sp = Lib.join L sp ++ sp ++ x := by
  cases L with
  | nil => exact absurd rfl h
  | cons y r =>
    rw [List.cons_append, Lib.join_cons, Lib.join_cons]
    simp [Lib.joinTail, List.append_assoc]
theorem join_le (K : Nat) (sp : List UInt8) (hs : sp.length ≤ 1) : ∀ (L : List (List UInt8)), (∀ x ∈ L, x.length ≤ K) → (Lib.join L sp).length ≤ L.length * (K + 1)
  | [], _ => by simp [Lib.join_nil]
  | x :: r, h => by
    rw [Lib.join_cons, List.length_append]
    have h1 := h x List.mem_cons_self
    have h2 : ∀ (r : List (List UInt8)), (∀ x ∈ r, x.length ≤ K) → (Lib.joinTail sp r).length ≤ r.length * (K + 1) := by
      intro r
      induction r with
      | nil => intro _; simp [Lib.joinTail]
      | cons y t ih =>
        intro hy
        have := ih (fun z hz => hy z (List.mem_cons_of_mem _ hz))
        have h3 := hy y List.mem_cons_self
        unfold Lib.joinTail at this ⊢
        rw [List.map_cons, List.flatten_cons, List.length_append, List.length_append, List.length_cons, Nat.add_mul]
        omega
    have h3 := h2 r (fun z hz => h z (List.mem_cons_of_mem _ hz))
    rw [List.length_cons, Nat.add_mul]
    omega
theorem opt_all {P : List UInt8 → Prop} {t : Bool} {M L : List (List UInt8)} (h1 : ∀ x ∈ M, P x) (h2 : ∀ x ∈ L, P x) : ∀ x ∈ optL t M L, P x := by
  intro x hx
  cases t
  · exact h2 x hx
  · rcases List.mem_append.1 (show x ∈ L ++ M from hx) with h | h
    · exact h2 x h
    · exact h1 x h
theorem itoa_small {n : Int} (h : 0 ≤ n ∧ n ≤ 40) : (Lib.itoa n).length ≤ 50 := by have := itoa_len n; omega
theorem wds_all {w0 h0 s : Int} {fx fy ex : Bool} {an px py : Int} (hv : vpB w0 h0 s an px py = true) : ∀ x ∈ wds w0 h0 s fx fy ex an px py, x.length ≤ 50 := by
  obtain ⟨⟨a1, a2⟩, ⟨a3, a4⟩, ⟨a5, a6⟩, ⟨a7, a8⟩, ⟨a9, a10⟩, ⟨a11, a12⟩⟩ := vpB_iff.1 hv
  have i1 := @itoa_small w0 (by omega)
  have i2 := @itoa_small h0 (by omega)
  have i3 := @itoa_small an (by omega)
  have i4 := @itoa_small px (by omega)
  have i5 := @itoa_small py (by omega)
  have hs : (sideB s).length ≤ 50 := by
    have : s = 0 ∨ s = 1 ∨ s = 2 ∨ s = 3 := by omega
    rcases this with rfl | rfl | rfl | rfl <;> decide
  refine opt_all ?_ (opt_all ?_ (opt_all ?_ (opt_all ?_ (opt_all ?_ (opt_all ?_ ?_)))))
  all_goals
    intro x hx
    simp only [wd0, FX, FY, EX, AN, PXW, PYW, List.mem_cons, List.not_mem_nil, or_false] at hx
  · rcases hx with rfl | rfl <;> simp_all
  · rcases hx with rfl | rfl <;> simp_all
  · rcases hx with rfl | rfl <;> simp_all
  · subst hx; decide
  · subst hx; decide
  · subst hx; decide
  · rcases hx with rfl | rfl | rfl <;> assumption
theorem opt_ne {t : Bool} {M L : List (List UInt8)} (h : L ≠ []) : optL t M L ≠ [] := by cases t <;> simp [optL, h]
theorem wds_len {w0 h0 s : Int} {fx fy ex : Bool} {an px py : Int} : (wds w0 h0 s fx fy ex an px py).length ≤ 12 := by
  have l1 := optL_len fx [FX] (wd0 w0 h0 s)
  have l2 := optL_len fy [FY] (wd1 w0 h0 s fx)
  have l3 := optL_len ex [EX] (wd2 w0 h0 s fx fy)
  have l4 := optL_len (an != 4) [AN, Lib.itoa an] (wd3 w0 h0 s fx fy ex)
  have l5 := optL_len (px != 0) [PXW, Lib.itoa px] (wd4 w0 h0 s fx fy ex an)
  have l6 := optL_len (py != 0) [PYW, Lib.itoa py] (wd5 w0 h0 s fx fy ex an px)
  simp only [wd0, wd1, wd2, wd3, wd4, wd5, wds, List.length_cons, List.length_nil] at *
  omega
theorem pkT_len {w0 h0 s : Int} {fx fy ex : Bool} {an px py : Int} (hv : vpB w0 h0 s an px py = true) : (pkT w0 h0 s fx fy ex an px py).length ≤ 700 := by
  have h1 := join_le 50 [32] (by simp) _ (wds_all (fx := fx) (fy := fy) (ex := ex) hv)
  have h2 := @wds_len w0 h0 s fx fy ex an px py
  unfold pkT
  have : (wds w0 h0 s fx fy ex an px py).length * 51 ≤ 12 * 51 := Nat.mul_le_mul_right _ h2
  omega
theorem join_v (base : Nat) (L : List (List UInt8)) (v : Value) (w : World) (h : OWN base L w v) (h0 : 1 ≤ L.length) (hL : L.length ≤ 1000) (hl : (Lib.join L [32]).length ≤ 1000000) :
    Calls Tryd.prog 28 #[v, .string ⟨#[32]⟩] w fun e w' => e = .returned (tx (Lib.join L [32])) ∧ Below w.heap.size w w' := by
  obtain ⟨_, _, h⟩ := h
  rcases h with ⟨rfl, h⟩ | ⟨g, cap, cur, rfl, hb, hg, hc, hm, hs, ht⟩
  · omega
  · have hx : (L.map fun l => (⟨l.toArray⟩ : ByteArray)).map (·.data.toList) = L := by rw [List.map_map]; exact (List.map_congr_left (fun x _ => rfl)).trans (List.map_id L)
    have := Tryd.strings_Join g 0 cap (L.map fun l => ⟨l.toArray⟩) ⟨#[32]⟩ w (fun j x hj => by
      simp only [List.getElem?_map, Option.map_eq_some_iff] at hj
      obtain ⟨y, hy, rfl⟩ := hj
      have e : (tvals L)[j]? = some (tx y) := by simp [tvals, hy]
      have hi := (List.getElem?_eq_some_iff.1 hy).1
      rw [← ht, List.getElem?_take, if_pos (by omega)] at e
      rw [Nat.zero_add]
      have e' : cur[j]? = some (tx y) := by simpa using e
      exact (cellS hg j).trans e') (ltS hg) (by simp; omega) (by simpa using hc) (by rw [hx]; show (Lib.join L [32]).length ≤ _; omega)
    rw [hx] at this
    simp only [List.length_map] at this
    exact this
theorem PackText_v (w0 h0 s : Int) (fx fy ex : Bool) (an px py : Int) (w : World) (hT : LT.TW w) :
    Calls Tryd.prog 11 #[.agg #[.int .i64 w0, .int .i64 h0, .int .i64 s, .bool fx, .bool fy, .bool ex, .int .i64 an, .int .i64 px, .int .i64 py]] w fun e w' => e = .returned (tx (if vpB w0 h0 s an px py then pkT w0 h0 s fx fy ex an px py else [])) ∧ Below w.heap.size w w' := by
  have HV := Lib.hid (fun w => validPack_any w0 h0 s fx fy ex an px py w)
  cases hv : vpB w0 h0 s an px py
  · rw [hv] at HV
    go_enter Tryd.func11, Tryd.ntmps11
    go_wp2_with fail
    with_reducible refine (HV.out _).mono ?_
    rintro e w1 ⟨rfl, hb⟩
    go_wp2
    go_ret
    exact ⟨rfl, bkeep2 (balloc (Below.refl _ _)) hb⟩
  · rw [hv] at HV
    have HW := Lib.hid (fun w h => words_v w0 h0 s fx fy ex an px py w hv h)
    have hl := @pkT_len w0 h0 s fx fy ex an px py hv
    have hn := @wds_len w0 h0 s fx fy ex an px py
    have h1 : 1 ≤ (wds w0 h0 s fx fy ex an px py).length := List.length_pos_iff.2 (opt_ne (opt_ne (opt_ne (opt_ne (opt_ne (opt_ne (by simp [wd0])))))))
    rw [if_pos rfl]
    unfold pkT at hl ⊢
    have HJ := Lib.hid (fun base v w h => join_v base _ v w h h1 (by omega) (by omega))
    generalize wds w0 h0 s fx fy ex an px py = L at *
    clear hl hn h1 hv
    have HX := Lib.hid (newS w (.cells #[.int .i64 w0, .int .i64 h0, .int .i64 s, .bool fx, .bool fy, .bool ex, .int .i64 an, .int .i64 px, .int .i64 py] 25))
    have HB := Lib.hid (balloc (o := (.cells #[.int .i64 w0, .int .i64 h0, .int .i64 s, .bool fx, .bool fy, .bool ex, .int .i64 an, .int .i64 px, .int .i64 py] 25)) (Below.refl w.heap.size w))
    go_enter Tryd.func11, Tryd.ntmps11
    go_wp2_with fail
    with_reducible refine (HV.out _).mono ?_
    rintro e w1 ⟨rfl, hb⟩
    replace HX := Lib.hid ((hb.block _ (Array.getElem?_eq_some_iff.1 HX.out).1).trans HX.out)
    replace HB := Lib.hid (bkeep2 HB.out hb)
    clear hb
    obtain ⟨c0, c1, c2, c3, c4, c5, c6, c7, c8⟩ := b9c HX.out
    go_wp2_with fail
    with_reducible refine (HW.out _ (hT.keep HB.out)).mono ?_
    rintro e w2 ⟨⟨v, rfl, ho⟩, hb⟩
    clear c0 c1 c2 c3 c4 c5 c6 c7 c8
    replace HB := Lib.hid (bkeep2 HB.out hb)
    clear hb
    go_wp2_with fail
    with_reducible refine (HJ.out _ _ _ ho).mono ?_
    rintro e w3 ⟨rfl, hb⟩
    replace HB := Lib.hid (bkeep2 HB.out hb)
    clear hb
    go_wp2
    go_ret
    exact ⟨rfl, HB.out⟩
end Go.Proofs.YtjdjahckdgbkbadDoor
end
section
namespace Go.Proofs.YtjdjahckdgbkbadDoor
open Go.RowKit
set_option linter.unusedVariables false
set_option linter.unusedSimpArgs false
set_option maxHeartbeats 2000000
attribute [local go_sem] growUpon_value growUpon_skip growUpon_enter
attribute [local go_sem] givesUpon_value givesUpon_skip givesUpon_enter
/-! The model's text of an item. -/
/-- one more word, with nothing behind it -/
theorem opt_text1 (t : Bool) (L : List (List UInt8)) (m : List UInt8) (lit : Array UInt8) (hl : lit.toList = 32 :: m) (hL : L ≠ []) (hb : (Lib.join L [32]).length + lit.size ≤ 1000000) :
    (t = false → Lib.join (optL t [m] L) [32] = Lib.join L [32]) ∧ (t = true → ∀ w, (binOp .add 9 (tx (Lib.join L [32])) (.string ⟨lit⟩)).run Tryd.prog w = .ok (tx (Lib.join (optL t [m] L) [32])) w) := by
  refine ⟨fun h => by subst h; rfl, fun h w => ?_⟩
  subst h
  have e : Lib.join (optL true [m] L) [32] = Lib.join L [32] ++ lit.toList := by
    rw [hl, optL, if_pos rfl, join_snoc L m [32] hL]; simp
  rw [e]
  exact run_cat _ lit.toList w (by simp; omega)
/-- one more word with a number -/
theorem opt_text2 (t : Bool) (L : List (List UInt8)) (m n : List UInt8) (lit : Array UInt8) (hl : lit.toList = 32 :: m ++ [32]) (hL : L ≠ []) (hb : (Lib.join L [32]).length + lit.size + n.length ≤ 1000000) :
    ∃ A : List UInt8, (t = false → Lib.join (optL t [m, n] L) [32] = Lib.join L [32]) ∧ (∀ w, (binOp .add 9 (tx (Lib.join L [32])) (.string ⟨lit⟩)).run Tryd.prog w = .ok (tx A) w) ∧ (t = true → ∀ w, (binOp .add 9 (tx A) (tx n)).run Tryd.prog w = .ok (tx (Lib.join (optL t [m, n] L) [32])) w) := by
  refine ⟨Lib.join L [32] ++ lit.toList, fun h => by subst h; rfl, fun w => run_cat _ lit.toList w (by simp; omega), fun h w => ?_⟩
  subst h
  have e : Lib.join (optL true [m, n] L) [32] = (Lib.join L [32] ++ lit.toList) ++ n := by
    rw [hl, optL, if_pos rfl, show L ++ [m, n] = (L ++ [m]) ++ [n] by simp, join_snoc _ n [32] (by simp), join_snoc L m [32] hL]; simp
  rw [e]
  exact run_cat _ _ w (by simp; omega)
theorem jlen {L : List (List UInt8)} (h : ∀ x ∈ L, x.length ≤ 50) (hn : L.length ≤ 12) : (Lib.join L [32]).length ≤ 700 := by
  have h1 := join_le 50 [32] (by simp) L h
  have : L.length * 51 ≤ 12 * 51 := Nat.mul_le_mul_right _ hn
  omega
set_option maxRecDepth 100000 in
theorem spackText_v (w0 h0 s : Int) (fx fy ex : Bool) (an px py : Int) (w : World) (hv : vpB w0 h0 s an px py = true) :
    Calls Tryd.prog 27 #[.agg #[.int .i64 w0, .int .i64 h0, .int .i64 s, .bool fx, .bool fy, .bool ex, .int .i64 an, .int .i64 px, .int .i64 py]] w fun e w' => e = .returned (tx (pkT w0 h0 s fx fy ex an px py)) ∧ Below w.heap.size w w' := by
  obtain ⟨⟨a1, a2⟩, ⟨a3, a4⟩, ⟨a5, a6⟩, ⟨a7, a8⟩, ⟨a9, a10⟩, ⟨a11, a12⟩⟩ := vpB_iff.1 hv
  have hs4 : s = 0 ∨ s = 1 ∨ s = 2 ∨ s = 3 := by omega
  have HS4 := Lib.hid hs4
  have IW := Lib.hid (fun w => number_v w0 (by omega) w)
  have IH := Lib.hid (fun w => number_v h0 (by omega) w)
  have IA := Lib.hid (fun w => number_v an (by omega) w)
  have IX := Lib.hid (fun w => number_v px (by omega) w)
  have IY := Lib.hid (fun w => number_v py (by omega) w)
  have i1 := @itoa_small w0 (by omega)
  have i2 := @itoa_small h0 (by omega)
  have i3 := @itoa_small an (by omega)
  have i4 := @itoa_small px (by omega)
  have i5 := @itoa_small py (by omega)
  have hsd : (sideB s).length ≤ 50 := by rcases hs4 with rfl | rfl | rfl | rfl <;> decide
  have q0 : ∀ x ∈ wd0 w0 h0 s, x.length ≤ 50 := by
    intro x hx
    simp only [wd0, List.mem_cons, List.not_mem_nil, or_false] at hx
    rcases hx with rfl | rfl | rfl <;> assumption
  have q1 : ∀ x ∈ wd1 w0 h0 s fx, x.length ≤ 50 := opt_all (by intro x hx; obtain rfl := List.mem_singleton.1 hx; decide) q0
  have q2 : ∀ x ∈ wd2 w0 h0 s fx fy, x.length ≤ 50 := opt_all (by intro x hx; obtain rfl := List.mem_singleton.1 hx; decide) q1
  have q3 : ∀ x ∈ wd3 w0 h0 s fx fy ex, x.length ≤ 50 := opt_all (by intro x hx; obtain rfl := List.mem_singleton.1 hx; decide) q2
  have q4 : ∀ x ∈ wd4 w0 h0 s fx fy ex an, x.length ≤ 50 := opt_all (by intro x hx; simp only [List.mem_cons, List.not_mem_nil, or_false] at hx; rcases hx with rfl | rfl; decide; exact i3) q3
  have q5 : ∀ x ∈ wd5 w0 h0 s fx fy ex an px, x.length ≤ 50 := opt_all (by intro x hx; simp only [List.mem_cons, List.not_mem_nil, or_false] at hx; rcases hx with rfl | rfl; decide; exact i4) q4
  have l0 : (wd0 w0 h0 s).length = 3 := rfl
  have l1 : (wd1 w0 h0 s fx).length ≤ 4 := by have := optL_len fx [FX] (wd0 w0 h0 s); simp at this; unfold wd1; omega
  have l2 : (wd2 w0 h0 s fx fy).length ≤ 5 := by have := optL_len fy [FY] (wd1 w0 h0 s fx); simp at this; unfold wd2; omega
  have l3 : (wd3 w0 h0 s fx fy ex).length ≤ 6 := by have := optL_len ex [EX] (wd2 w0 h0 s fx fy); simp at this; unfold wd3; omega
  have l4 : (wd4 w0 h0 s fx fy ex an).length ≤ 8 := by have := optL_len (an != 4) [AN, Lib.itoa an] (wd3 w0 h0 s fx fy ex); simp at this; unfold wd4; omega
  have l5 : (wd5 w0 h0 s fx fy ex an px).length ≤ 10 := by have := optL_len (px != 0) [PXW, Lib.itoa px] (wd4 w0 h0 s fx fy ex an); simp at this; unfold wd5; omega
  have j0 := jlen q0 (by omega)
  have j1 := jlen q1 (by omega)
  have j2 := jlen q2 (by omega)
  have j3 := jlen q3 (by omega)
  have j4 := jlen q4 (by omega)
  have j5 := jlen q5 (by omega)
  have n0 : wd0 w0 h0 s ≠ [] := by simp [wd0]
  have n1 : wd1 w0 h0 s fx ≠ [] := opt_ne n0
  have n2 : wd2 w0 h0 s fx fy ≠ [] := opt_ne n1
  have n3 : wd3 w0 h0 s fx fy ex ≠ [] := opt_ne n2
  have n4 : wd4 w0 h0 s fx fy ex an ≠ [] := opt_ne n3
  have n5 : wd5 w0 h0 s fx fy ex an px ≠ [] := opt_ne n4
  have hE1 : (fx = false → Lib.join (wd1 w0 h0 s fx) [32] = Lib.join (wd0 w0 h0 s) [32]) ∧ (fx = true → ∀ w, (binOp .add 9 (tx (Lib.join (wd0 w0 h0 s) [32])) (.string ⟨#[32, 102, 105, 108, 108, 120]⟩)).run Tryd.prog w = .ok (tx (Lib.join (wd1 w0 h0 s fx) [32])) w) := opt_text1 fx _ FX #[32, 102, 105, 108, 108, 120] rfl n0 (by simp; omega)
  have hE2 : (fy = false → Lib.join (wd2 w0 h0 s fx fy) [32] = Lib.join (wd1 w0 h0 s fx) [32]) ∧ (fy = true → ∀ w, (binOp .add 9 (tx (Lib.join (wd1 w0 h0 s fx) [32])) (.string ⟨#[32, 102, 105, 108, 108, 121]⟩)).run Tryd.prog w = .ok (tx (Lib.join (wd2 w0 h0 s fx fy) [32])) w) := opt_text1 fy _ FY #[32, 102, 105, 108, 108, 121] rfl n1 (by simp; omega)
  have hE3 : (ex = false → Lib.join (wd3 w0 h0 s fx fy ex) [32] = Lib.join (wd2 w0 h0 s fx fy) [32]) ∧ (ex = true → ∀ w, (binOp .add 9 (tx (Lib.join (wd2 w0 h0 s fx fy) [32])) (.string ⟨#[32, 101, 120, 112, 97, 110, 100]⟩)).run Tryd.prog w = .ok (tx (Lib.join (wd3 w0 h0 s fx fy ex) [32])) w) := opt_text1 ex _ EX #[32, 101, 120, 112, 97, 110, 100] rfl n2 (by simp; omega)
  obtain ⟨A4, hE4⟩ : ∃ A : List UInt8, ((an != 4) = false → Lib.join (wd4 w0 h0 s fx fy ex an) [32] = Lib.join (wd3 w0 h0 s fx fy ex) [32]) ∧ (∀ w, (binOp .add 9 (tx (Lib.join (wd3 w0 h0 s fx fy ex) [32])) (.string ⟨#[32, 97, 110, 99, 104, 111, 114, 32]⟩)).run Tryd.prog w = .ok (tx A) w) ∧ ((an != 4) = true → ∀ w, (binOp .add 9 (tx A) (tx (Lib.itoa an))).run Tryd.prog w = .ok (tx (Lib.join (wd4 w0 h0 s fx fy ex an) [32])) w) := opt_text2 (an != 4) _ AN (Lib.itoa an) #[32, 97, 110, 99, 104, 111, 114, 32] rfl n3 (by simp; omega)
  obtain ⟨A5, hE5⟩ : ∃ A : List UInt8, ((px != 0) = false → Lib.join (wd5 w0 h0 s fx fy ex an px) [32] = Lib.join (wd4 w0 h0 s fx fy ex an) [32]) ∧ (∀ w, (binOp .add 9 (tx (Lib.join (wd4 w0 h0 s fx fy ex an) [32])) (.string ⟨#[32, 112, 97, 100, 120, 32]⟩)).run Tryd.prog w = .ok (tx A) w) ∧ ((px != 0) = true → ∀ w, (binOp .add 9 (tx A) (tx (Lib.itoa px))).run Tryd.prog w = .ok (tx (Lib.join (wd5 w0 h0 s fx fy ex an px) [32])) w) := opt_text2 (px != 0) _ PXW (Lib.itoa px) #[32, 112, 97, 100, 120, 32] rfl n4 (by simp; omega)
  obtain ⟨A6, hE6⟩ : ∃ A : List UInt8, ((py != 0) = false → Lib.join (wds w0 h0 s fx fy ex an px py) [32] = Lib.join (wd5 w0 h0 s fx fy ex an px) [32]) ∧ (∀ w, (binOp .add 9 (tx (Lib.join (wd5 w0 h0 s fx fy ex an px) [32])) (.string ⟨#[32, 112, 97, 100, 121, 32]⟩)).run Tryd.prog w = .ok (tx A) w) ∧ ((py != 0) = true → ∀ w, (binOp .add 9 (tx A) (tx (Lib.itoa py))).run Tryd.prog w = .ok (tx (Lib.join (wds w0 h0 s fx fy ex an px py) [32])) w) := opt_text2 (py != 0) _ PYW (Lib.itoa py) #[32, 112, 97, 100, 121, 32] rfl n5 (by simp; omega)
  obtain ⟨B1, b1, g1⟩ := cat_exr (sideB s) #[32] (by simp; omega)
  obtain ⟨B2, b2, g2⟩ := cat_ex B1 (Lib.itoa w0) (by rw [b1]; simp; omega)
  obtain ⟨B3, b3, g3⟩ := cat_exr B2 #[32] (by rw [b2, b1]; simp; omega)
  obtain ⟨B4, b4, g4⟩ := cat_ex B3 (Lib.itoa h0) (by rw [b3, b2, b1]; simp; omega)
  have hB4 : B4 = Lib.join (wd0 w0 h0 s) [32] := by rw [b4, b3, b2, b1, wd0, Lib.join_cons]; simp [Lib.joinTail]
  have xx : (px != 0) = decide (px > 0) := by rcases (show px = 0 ∨ px > 0 by omega) with h | h; (subst h; rfl); (rw [decide_eq_true h]; simp; omega)
  have yy : (py != 0) = decide (py > 0) := by rcases (show py = 0 ∨ py > 0 by omega) with h | h; (subst h; rfl); (rw [decide_eq_true h]; simp; omega)
  rw [xx] at hE5
  rw [yy] at hE6
  unfold pkT
  obtain ⟨T0, hT0⟩ : ∃ T, Lib.join (wd0 w0 h0 s) [32] = T := ⟨_, rfl⟩
  obtain ⟨T1, hT1⟩ : ∃ T, Lib.join (wd1 w0 h0 s fx) [32] = T := ⟨_, rfl⟩
  obtain ⟨T2, hT2⟩ : ∃ T, Lib.join (wd2 w0 h0 s fx fy) [32] = T := ⟨_, rfl⟩
  obtain ⟨T3, hT3⟩ : ∃ T, Lib.join (wd3 w0 h0 s fx fy ex) [32] = T := ⟨_, rfl⟩
  obtain ⟨T4, hT4⟩ : ∃ T, Lib.join (wd4 w0 h0 s fx fy ex an) [32] = T := ⟨_, rfl⟩
  obtain ⟨T5, hT5⟩ : ∃ T, Lib.join (wd5 w0 h0 s fx fy ex an px) [32] = T := ⟨_, rfl⟩
  obtain ⟨T6, hT6⟩ : ∃ T, Lib.join (wds w0 h0 s fx fy ex an px py) [32] = T := ⟨_, rfl⟩
  rw [hT0] at hE1 hB4
  rw [hT1] at hE1 hE2
  rw [hT2] at hE2 hE3
  rw [hT3] at hE3 hE4
  rw [hT4] at hE4 hE5
  rw [hT5] at hE5 hE6
  rw [hT6] at hE6 ⊢
  subst hB4
  clear hT0 hT1 hT2 hT3 hT4 hT5 hT6 j0 l0 n0 q0 j1 l1 n1 q1 j2 l2 n2 q2 j3 l3 n3 q3 j4 l4 n4 q4 j5 l5 n5 q5 i1 i2 i3 i4 i5 b1 b2 b3 b4 hsd xx yy hv a1 a2 a3 a4 a5 a6 a7 a8 a9 a10 a11 a12 hs4
  have HE1 := Lib.hid hE1
  have HE2 := Lib.hid hE2
  have HE3 := Lib.hid hE3
  have HE4 := Lib.hid hE4
  have HE5 := Lib.hid hE5
  have HE6 := Lib.hid hE6
  clear hE1 hE2 hE3 hE4 hE5 hE6
  go_enter Tryd.func27, Tryd.ntmps27
  go_wp2_with fail
  have HX := Lib.hid (newS w (.cells #[.int .i64 w0, .int .i64 h0, .int .i64 s, .bool fx, .bool fy, .bool ex, .int .i64 an, .int .i64 px, .int .i64 py] 25))
  have HB := Lib.hid (balloc (o := (.cells #[.int .i64 w0, .int .i64 h0, .int .i64 s, .bool fx, .bool fy, .bool ex, .int .i64 an, .int .i64 px, .int .i64 py] 25)) (Below.refl w.heap.size w))
  refine wp_named (fun W0 e0 => ?_)
  rw [← e0] at HX HB ⊢
  clear e0
  obtain ⟨c0, c1, c2, c3, c4, c5, c6, c7, c8⟩ := b9c HX.out
  have hlx := ltS HX.out
  refine wp_region_rxl 15 1 [] #[true, true, true, true, true, true, true, true, true, true, true, true, true, true, true, false] (by kernel_rfl) (by kernel_rfl) (by kernel_rfl) ((fun v a => SWv a v) :: XV (.pointer (some ⟨w.heap.size, 2, none⟩)) :: XV (.int .i64 s) :: (fun v a => SPt (sideB s) a v) :: XV (tx (sideB s)) :: XV (tx B1) :: XV (.pointer (some ⟨w.heap.size, 0, none⟩)) :: XV (.int .i64 w0) :: XV (tx (Lib.itoa w0)) :: XV (tx B2) :: XV (tx B3) :: XV (.pointer (some ⟨w.heap.size, 1, none⟩)) :: XV (.int .i64 h0) :: XV (tx (Lib.itoa h0)) :: XV (tx B4) :: []) (by kernel_rfl) (by kernel_rfl) (by kernel_rfl) ?hTs ?hXs ?hops ?hfin
  case hTs =>
    intro T hT
    simp only [List.mem_cons, List.not_mem_nil, or_false] at hT
    rcases hT with rfl | rfl | rfl | rfl | rfl | rfl | rfl | rfl | rfl | rfl | rfl | rfl | rfl | rfl | rfl <;> first | exact stay_V _ | exact stay_T | exact stay_of (fun v a b x g => x.keep g) | exact stay_of (fun v a b x g => x)
  case hXs =>
    intro x d s hx
    exact absurd hx (List.not_mem_nil)
  case hops =>
    refine ⟨opOK_rx [] (by kernel_rfl) rfl ?_, ?_⟩
    · intro act w' hw' 
      have hk : ∀ v, act.eval (.const v) = v := fun _ => rfl
      have hf : ∀ f, act.eval (.func f) = .func (.func f) #[] #[] := fun _ => rfl
      generalize act.eval = ρ at *
      refine gx_gen (fun K hK => ?_)
      obtain ⟨hc, hf'⟩ := bcell (bdrewn hw'.out)
      go_simp
      (with_reducible refine (ssideWords_v _).mono ?_); rintro e w2 ⟨⟨v, rfl, hv⟩, hb⟩; exact ⟨v, rfl, hK _ _ ⟨hv, Gr.of hb⟩⟩
    refine ⟨opOK_rx [(1, none)] (by kernel_rfl) rfl ?_, ?_⟩
    · intro act w' hw' h1
      have hk : ∀ v, act.eval (.const v) = v := fun _ => rfl
      have hf : ∀ f, act.eval (.func f) = .func (.func f) #[] #[] := fun _ => rfl
      generalize act.eval = ρ at *
      replace h1 : ρ (.tmp 1) = .pointer (some ⟨w.heap.size, 0, none⟩) := h1
      refine gx_gen (fun K hK => ?_)
      obtain ⟨hc, hf'⟩ := bcell (bdrewn hw'.out)
      go_simp
      exact hK _ _ ⟨rfl, Gr.refl _⟩
    refine ⟨opOK_rx [(5, some 1)] (by kernel_rfl) rfl ?_, ?_⟩
    · intro act w' hw' h1
      have hk : ∀ v, act.eval (.const v) = v := fun _ => rfl
      have hf : ∀ f, act.eval (.func f) = .func (.func f) #[] #[] := fun _ => rfl
      generalize act.eval = ρ at *
      replace h1 : ρ (.tmp 5) = .pointer (some ⟨w.heap.size, 2, none⟩) := h1
      refine gx_gen (fun K hK => ?_)
      obtain ⟨hc, hf'⟩ := bcell (bdrewn hw'.out)
      go_simp
      exact hK _ _ ⟨rfl, Gr.refl _⟩
    refine ⟨opOK_rx [(4, some 0), (6, some 2)] (by kernel_rfl) rfl ?_, ?_⟩
    · intro act w' hw' h1 h2
      have hk : ∀ v, act.eval (.const v) = v := fun _ => rfl
      have hf : ∀ f, act.eval (.func f) = .func (.func f) #[] #[] := fun _ => rfl
      generalize act.eval = ρ at *
      replace h1 : (fun v a => SWv a v) (ρ (.tmp 4)) w' := h1
      replace h2 : ρ (.tmp 6) = .int .i64 s := h2
      refine gx_gen (fun K hK => ?_)
      obtain ⟨g, e4, hS⟩ := h1; rcases HS4.out with rfl | rfl | rfl | rfl <;> (go_simp; exact hK _ _ ⟨⟨g, _, rfl, hS.1, hS.at _ rfl⟩, Gr.refl _⟩)
    refine ⟨opOK_rx [(7, some 3)] (by kernel_rfl) rfl ?_, ?_⟩
    · intro act w' hw' h1
      have hk : ∀ v, act.eval (.const v) = v := fun _ => rfl
      have hf : ∀ f, act.eval (.func f) = .func (.func f) #[] #[] := fun _ => rfl
      generalize act.eval = ρ at *
      replace h1 : (fun v a => SPt (sideB s) a v) (ρ (.tmp 7)) w' := h1
      refine gx_gen (fun K hK => ?_)
      obtain ⟨b, o, e7, hl, hcl⟩ := h1; go_simp; exact hK _ _ ⟨rfl, Gr.refl _⟩
    refine ⟨opOK_rx [(8, some 4)] (by kernel_rfl) rfl ?_, ?_⟩
    · intro act w' hw' h1
      have hk : ∀ v, act.eval (.const v) = v := fun _ => rfl
      have hf : ∀ f, act.eval (.func f) = .func (.func f) #[] #[] := fun _ => rfl
      generalize act.eval = ρ at *
      replace h1 : ρ (.tmp 8) = tx (sideB s) := h1
      refine gx_gen (fun K hK => ?_)
      obtain ⟨hc, hf'⟩ := bcell (bdrewn hw'.out)
      go_simp
      exact hK _ _ ⟨rfl, Gr.refl _⟩
    refine ⟨opOK_rx [(1, none)] (by kernel_rfl) rfl ?_, ?_⟩
    · intro act w' hw' h1
      have hk : ∀ v, act.eval (.const v) = v := fun _ => rfl
      have hf : ∀ f, act.eval (.func f) = .func (.func f) #[] #[] := fun _ => rfl
      generalize act.eval = ρ at *
      replace h1 : ρ (.tmp 1) = .pointer (some ⟨w.heap.size, 0, none⟩) := h1
      refine gx_gen (fun K hK => ?_)
      obtain ⟨hc, hf'⟩ := bcell (bdrewn hw'.out)
      go_simp
      exact hK _ _ ⟨rfl, Gr.refl _⟩
    refine ⟨opOK_rx [(10, some 6)] (by kernel_rfl) rfl ?_, ?_⟩
    · intro act w' hw' h1
      have hk : ∀ v, act.eval (.const v) = v := fun _ => rfl
      have hf : ∀ f, act.eval (.func f) = .func (.func f) #[] #[] := fun _ => rfl
      generalize act.eval = ρ at *
      replace h1 : ρ (.tmp 10) = .pointer (some ⟨w.heap.size, 0, none⟩) := h1
      refine gx_gen (fun K hK => ?_)
      obtain ⟨hc, hf'⟩ := bcell (bdrewn hw'.out)
      go_simp
      exact hK _ _ ⟨rfl, Gr.refl _⟩
    refine ⟨opOK_rx [(11, some 7)] (by kernel_rfl) rfl ?_, ?_⟩
    · intro act w' hw' h1
      have hk : ∀ v, act.eval (.const v) = v := fun _ => rfl
      have hf : ∀ f, act.eval (.func f) = .func (.func f) #[] #[] := fun _ => rfl
      generalize act.eval = ρ at *
      replace h1 : ρ (.tmp 11) = .int .i64 w0 := h1
      refine gx_gen (fun K hK => ?_)
      obtain ⟨hc, hf'⟩ := bcell (bdrewn hw'.out)
      go_simp
      (with_reducible refine (IW.out _).mono ?_); rintro e w2 ⟨rfl, hb⟩; exact ⟨_, rfl, hK _ _ ⟨rfl, Gr.of hb⟩⟩
    refine ⟨opOK_rx [(9, some 5), (12, some 8)] (by kernel_rfl) rfl ?_, ?_⟩
    · intro act w' hw' h1 h2
      have hk : ∀ v, act.eval (.const v) = v := fun _ => rfl
      have hf : ∀ f, act.eval (.func f) = .func (.func f) #[] #[] := fun _ => rfl
      generalize act.eval = ρ at *
      replace h1 : ρ (.tmp 9) = tx B1 := h1
      replace h2 : ρ (.tmp 12) = tx (Lib.itoa w0) := h2
      refine gx_gen (fun K hK => ?_)
      obtain ⟨hc, hf'⟩ := bcell (bdrewn hw'.out)
      go_simp
      exact hK _ _ ⟨rfl, Gr.refl _⟩
    refine ⟨opOK_rx [(13, some 9)] (by kernel_rfl) rfl ?_, ?_⟩
    · intro act w' hw' h1
      have hk : ∀ v, act.eval (.const v) = v := fun _ => rfl
      have hf : ∀ f, act.eval (.func f) = .func (.func f) #[] #[] := fun _ => rfl
      generalize act.eval = ρ at *
      replace h1 : ρ (.tmp 13) = tx B2 := h1
      refine gx_gen (fun K hK => ?_)
      obtain ⟨hc, hf'⟩ := bcell (bdrewn hw'.out)
      go_simp
      exact hK _ _ ⟨rfl, Gr.refl _⟩
    refine ⟨opOK_rx [(1, none)] (by kernel_rfl) rfl ?_, ?_⟩
    · intro act w' hw' h1
      have hk : ∀ v, act.eval (.const v) = v := fun _ => rfl
      have hf : ∀ f, act.eval (.func f) = .func (.func f) #[] #[] := fun _ => rfl
      generalize act.eval = ρ at *
      replace h1 : ρ (.tmp 1) = .pointer (some ⟨w.heap.size, 0, none⟩) := h1
      refine gx_gen (fun K hK => ?_)
      obtain ⟨hc, hf'⟩ := bcell (bdrewn hw'.out)
      go_simp
      exact hK _ _ ⟨rfl, Gr.refl _⟩
    refine ⟨opOK_rx [(15, some 11)] (by kernel_rfl) rfl ?_, ?_⟩
    · intro act w' hw' h1
      have hk : ∀ v, act.eval (.const v) = v := fun _ => rfl
      have hf : ∀ f, act.eval (.func f) = .func (.func f) #[] #[] := fun _ => rfl
      generalize act.eval = ρ at *
      replace h1 : ρ (.tmp 15) = .pointer (some ⟨w.heap.size, 1, none⟩) := h1
      refine gx_gen (fun K hK => ?_)
      obtain ⟨hc, hf'⟩ := bcell (bdrewn hw'.out)
      go_simp
      exact hK _ _ ⟨rfl, Gr.refl _⟩
    refine ⟨opOK_rx [(16, some 12)] (by kernel_rfl) rfl ?_, ?_⟩
    · intro act w' hw' h1
      have hk : ∀ v, act.eval (.const v) = v := fun _ => rfl
      have hf : ∀ f, act.eval (.func f) = .func (.func f) #[] #[] := fun _ => rfl
      generalize act.eval = ρ at *
      replace h1 : ρ (.tmp 16) = .int .i64 h0 := h1
      refine gx_gen (fun K hK => ?_)
      obtain ⟨hc, hf'⟩ := bcell (bdrewn hw'.out)
      go_simp
      (with_reducible refine (IH.out _).mono ?_); rintro e w2 ⟨rfl, hb⟩; exact ⟨_, rfl, hK _ _ ⟨rfl, Gr.of hb⟩⟩
    refine ⟨opOK_rx [(14, some 10), (17, some 13)] (by kernel_rfl) rfl ?_, ?_⟩
    · intro act w' hw' h1 h2
      have hk : ∀ v, act.eval (.const v) = v := fun _ => rfl
      have hf : ∀ f, act.eval (.func f) = .func (.func f) #[] #[] := fun _ => rfl
      generalize act.eval = ρ at *
      replace h1 : ρ (.tmp 14) = tx B3 := h1
      replace h2 : ρ (.tmp 17) = tx (Lib.itoa h0) := h2
      refine gx_gen (fun K hK => ?_)
      obtain ⟨hc, hf'⟩ := bcell (bdrewn hw'.out)
      go_simp
      exact hK _ _ ⟨rfl, Gr.refl _⟩
    exact trivial
  case hfin =>
    intro w1 hg1
    intro v4 t4
    replace t4 : (fun v a => SWv a v) v4 w1 := t4
    intro v5 t5
    replace t5 : v5 = .pointer (some ⟨w.heap.size, 2, none⟩) := t5
    subst t5
    intro v6 t6
    replace t6 : v6 = .int .i64 s := t6
    subst t6
    intro v7 t7
    replace t7 : (fun v a => SPt (sideB s) a v) v7 w1 := t7
    intro v8 t8
    replace t8 : v8 = tx (sideB s) := t8
    subst t8
    intro v9 t9
    replace t9 : v9 = tx B1 := t9
    subst t9
    intro v10 t10
    replace t10 : v10 = .pointer (some ⟨w.heap.size, 0, none⟩) := t10
    subst t10
    intro v11 t11
    replace t11 : v11 = .int .i64 w0 := t11
    subst t11
    intro v12 t12
    replace t12 : v12 = tx (Lib.itoa w0) := t12
    subst t12
    intro v13 t13
    replace t13 : v13 = tx B2 := t13
    subst t13
    intro v14 t14
    replace t14 : v14 = tx B3 := t14
    subst t14
    intro v15 t15
    replace t15 : v15 = .pointer (some ⟨w.heap.size, 1, none⟩) := t15
    subst t15
    intro v16 t16
    replace t16 : v16 = .int .i64 h0 := t16
    subst t16
    intro v17 t17
    replace t17 : v17 = tx (Lib.itoa h0) := t17
    subst t17
    intro v18 t18
    replace t18 : v18 = tx B4 := t18
    subst t18
    have hb1 := bdrewn hg1.out
    clear hg1
    simp only [finP, List.take_succ_cons, List.take_zero, Act.put, List.setIfInBounds_toArray, List.set_cons_succ, List.set_cons_zero]
    refine wpAny_one (i := 15) (by kernel_rfl) rfl rfl ?_
    go_simp
    refine wpAny_end (by kernel_rfl) ?_
    refine NoPan.thn ?_
    replace HX := Lib.hid ((hb1.block w.heap.size hlx).trans HX.out)
    replace HB := Lib.hid (bkeep2 HB.out hb1)
    clear hb1 c0 c1 c2 c3 c4 c5 c6 c7 c8 hlx t4 t7 HS4 g1 g2 g3 g4
    obtain ⟨c0, c1, c2, c3, c4, c5, c6, c7, c8⟩ := b9c HX.out
    go_upto_if 20 with (fail)
    go_cut [3] (fun sv wx => sv = tx T1 ∧ wx = w1)
    case first =>
      have hE := HE1.out
      cases fx
      · have e := hE.1 rfl
        clear hE
        go_wp2
        go_meet
        exact ⟨by rw [e], rfl⟩
      · have e := hE.2 rfl
        clear hE
        go_wp2
        go_meet
        exact ⟨rfl, rfl⟩
    case rest =>
    obtain ⟨hsv, hwv⟩ := hcut
    subst hsv
    replace hwv := hwv.symm
    subst hwv
    clear c0 c1 c2 c3 c4 c5 c6 c7 c8 HE1
    obtain ⟨c0, c1, c2, c3, c4, c5, c6, c7, c8⟩ := b9c HX.out
    go_upto_if 24 with (fail)
    go_cut [3] (fun sv wx => sv = tx T2 ∧ wx = w1)
    case first =>
      have hE := HE2.out
      cases fy
      · have e := hE.1 rfl
        clear hE
        go_wp2
        go_meet
        exact ⟨by rw [e], rfl⟩
      · have e := hE.2 rfl
        clear hE
        go_wp2
        go_meet
        exact ⟨rfl, rfl⟩
    case rest =>
    obtain ⟨hsv, hwv⟩ := hcut
    subst hsv
    replace hwv := hwv.symm
    subst hwv
    clear c0 c1 c2 c3 c4 c5 c6 c7 c8 HE2
    obtain ⟨c0, c1, c2, c3, c4, c5, c6, c7, c8⟩ := b9c HX.out
    go_upto_if 28 with (fail)
    go_cut [3] (fun sv wx => sv = tx T3 ∧ wx = w1)
    case first =>
      have hE := HE3.out
      cases ex
      · have e := hE.1 rfl
        clear hE
        go_wp2
        go_meet
        exact ⟨by rw [e], rfl⟩
      · have e := hE.2 rfl
        clear hE
        go_wp2
        go_meet
        exact ⟨rfl, rfl⟩
    case rest =>
    obtain ⟨hsv, hwv⟩ := hcut
    subst hsv
    replace hwv := hwv.symm
    subst hwv
    clear c0 c1 c2 c3 c4 c5 c6 c7 c8 HE3
    obtain ⟨c0, c1, c2, c3, c4, c5, c6, c7, c8⟩ := b9c HX.out
    have hlx := ltS HX.out
    go_upto_if 33 with (fail)
    go_cut [3] (fun sv wx => sv = tx T4 ∧ wx.heap[w.heap.size]? = some (.cells #[.int .i64 w0, .int .i64 h0, .int .i64 s, .bool fx, .bool fy, .bool ex, .int .i64 an, .int .i64 px, .int .i64 py] 25) ∧ Below w.heap.size w wx)
    case first =>
      have hE := HE4.out
      cases hb : (an != 4)
      · have e := hE.1 hb
        clear hE
        have e4 : (an == 4) = true := by simpa using hb
        have e4' : (!(an == 4)) = false := by rw [e4]; rfl
        go_wp2
        go_meet
        exact ⟨by rw [e], HX.out, HB.out⟩
      · have e1 := hE.2.1
        have e2 := hE.2.2 hb
        clear hE
        have e4 : (an == 4) = false := by simpa using hb
        have e4' : (!(an == 4)) = true := by rw [e4]; rfl
        go_wp2_with fail
        with_reducible refine (IA.out _).mono ?_
        rintro e w2 ⟨rfl, hbx⟩
        have HX2 := Lib.hid ((hbx.block w.heap.size hlx).trans HX.out)
        have HB2 := Lib.hid (bkeep2 HB.out hbx)
        clear c0 c1 c2 c3 c4 c5 c6 c7 c8 hbx
        go_wp2
        go_meet
        exact ⟨rfl, HX2.out, HB2.out⟩
    case rest =>
    obtain ⟨hsv, hxv, hbv⟩ := hcut
    subst hsv
    replace HX := Lib.hid hxv
    replace HB := Lib.hid hbv
    clear hxv hbv c0 c1 c2 c3 c4 c5 c6 c7 c8 hlx HE4
    obtain ⟨c0, c1, c2, c3, c4, c5, c6, c7, c8⟩ := b9c HX.out
    have hlx := ltS HX.out
    go_upto_if 42 with (fail)
    go_cut [3] (fun sv wx => sv = tx T5 ∧ wx.heap[w.heap.size]? = some (.cells #[.int .i64 w0, .int .i64 h0, .int .i64 s, .bool fx, .bool fy, .bool ex, .int .i64 an, .int .i64 px, .int .i64 py] 25) ∧ Below w.heap.size w wx)
    case first =>
      have hE := HE5.out
      cases hb : (decide (px > 0))
      · have e := hE.1 hb
        clear hE
        go_wp2
        go_meet
        exact ⟨by rw [e], HX.out, HB.out⟩
      · have e1 := hE.2.1
        have e2 := hE.2.2 hb
        clear hE
        go_wp2_with fail
        with_reducible refine (IX.out _).mono ?_
        rintro e w2 ⟨rfl, hbx⟩
        have HX2 := Lib.hid ((hbx.block w.heap.size hlx).trans HX.out)
        have HB2 := Lib.hid (bkeep2 HB.out hbx)
        clear c0 c1 c2 c3 c4 c5 c6 c7 c8 hbx
        go_wp2
        go_meet
        exact ⟨rfl, HX2.out, HB2.out⟩
    case rest =>
    obtain ⟨hsv, hxv, hbv⟩ := hcut
    subst hsv
    replace HX := Lib.hid hxv
    replace HB := Lib.hid hbv
    clear hxv hbv c0 c1 c2 c3 c4 c5 c6 c7 c8 hlx HE5
    obtain ⟨c0, c1, c2, c3, c4, c5, c6, c7, c8⟩ := b9c HX.out
    have hlx := ltS HX.out
    go_upto_if 51 with (fail)
    go_cut [3] (fun sv wx => sv = tx T6 ∧ wx.heap[w.heap.size]? = some (.cells #[.int .i64 w0, .int .i64 h0, .int .i64 s, .bool fx, .bool fy, .bool ex, .int .i64 an, .int .i64 px, .int .i64 py] 25) ∧ Below w.heap.size w wx)
    case first =>
      have hE := HE6.out
      cases hb : (decide (py > 0))
      · have e := hE.1 hb
        clear hE
        go_wp2
        go_meet
        exact ⟨by rw [e], HX.out, HB.out⟩
      · have e1 := hE.2.1
        have e2 := hE.2.2 hb
        clear hE
        go_wp2_with fail
        with_reducible refine (IY.out _).mono ?_
        rintro e w2 ⟨rfl, hbx⟩
        have HX2 := Lib.hid ((hbx.block w.heap.size hlx).trans HX.out)
        have HB2 := Lib.hid (bkeep2 HB.out hbx)
        clear c0 c1 c2 c3 c4 c5 c6 c7 c8 hbx
        go_wp2
        go_meet
        exact ⟨rfl, HX2.out, HB2.out⟩
    case rest =>
    obtain ⟨hsv, hxv, hbv⟩ := hcut
    subst hsv
    replace HX := Lib.hid hxv
    replace HB := Lib.hid hbv
    clear hxv hbv c0 c1 c2 c3 c4 c5 c6 c7 c8 hlx HE6
    go_wp2
    go_ret
    exact ⟨rfl, HB.out⟩
end Go.Proofs.YtjdjahckdgbkbadDoor
end
section
namespace Go.Proofs.YtjdjahckdgbkbadDoor
open Go.RowKit
set_option linter.unusedVariables false
set_option maxHeartbeats 1000000
attribute [local go_sem] growUpon_value growUpon_skip growUpon_enter
theorem sPackText_v (w0 h0 s : Int) (fx fy ex : Bool) (an px py : Int) (w : World) :
    Calls Tryd.prog 9 #[.agg #[.int .i64 w0, .int .i64 h0, .int .i64 s, .bool fx, .bool fy, .bool ex, .int .i64 an, .int .i64 px, .int .i64 py]] w fun e w' => e = .returned (tx (if vpB w0 h0 s an px py then pkT w0 h0 s fx fy ex an px py else [])) ∧ Below w.heap.size w w' := by
  have HV := Lib.hid (fun w => specValidPack_any w0 h0 s fx fy ex an px py w)
  cases hv : vpB w0 h0 s an px py
  · rw [hv] at HV
    go_enter Tryd.func9, Tryd.ntmps9
    go_wp2_with fail
    with_reducible refine (HV.out _).mono ?_
    rintro e w1 ⟨rfl, hb⟩
    go_wp2
    go_ret
    exact ⟨rfl, bkeep2 (balloc (Below.refl _ _)) hb⟩
  · rw [hv] at HV
    have HW := Lib.hid (fun w => spackText_v w0 h0 s fx fy ex an px py w hv)
    rw [if_pos rfl]
    generalize pkT w0 h0 s fx fy ex an px py = L at *
    clear hv
    have HX := Lib.hid (newS w (.cells #[.int .i64 w0, .int .i64 h0, .int .i64 s, .bool fx, .bool fy, .bool ex, .int .i64 an, .int .i64 px, .int .i64 py] 25))
    have HB := Lib.hid (balloc (o := (.cells #[.int .i64 w0, .int .i64 h0, .int .i64 s, .bool fx, .bool fy, .bool ex, .int .i64 an, .int .i64 px, .int .i64 py] 25)) (Below.refl w.heap.size w))
    go_enter Tryd.func9, Tryd.ntmps9
    go_wp2_with fail
    with_reducible refine (HV.out _).mono ?_
    rintro e w1 ⟨rfl, hb⟩
    replace HX := Lib.hid ((hb.block _ (Array.getElem?_eq_some_iff.1 HX.out).1).trans HX.out)
    replace HB := Lib.hid (bkeep2 HB.out hb)
    clear hb
    obtain ⟨c0, c1, c2, c3, c4, c5, c6, c7, c8⟩ := b9c HX.out
    go_wp2_with fail
    with_reducible refine (HW.out _).mono ?_
    rintro e w2 ⟨rfl, hb⟩
    clear c0 c1 c2 c3 c4 c5 c6 c7 c8
    replace HB := Lib.hid (bkeep2 HB.out hb)
    clear hb
    go_wp2
    go_ret
    exact ⟨rfl, HB.out⟩
end Go.Proofs.YtjdjahckdgbkbadDoor
end
section
namespace Go.Proofs.YtjdjahckdgbkbadDoor
open Go.ChangeShapes Go.WideShapes Go.ChangeAt Go.RowKit
namespace LT
theorem met (os : Os) (args : Array Value) : laidMetH Tryd.prog Rows.fnExactPackTextRow.laid ((world os).forCall (fun _ _ => 0) ⟨#[], args, []⟩).memory :=
  laidMetH_of_parts3 (fuel := 8) (laidMet_of_run' 8 (by kernel_rfl) (by kernel_rfl)) (by kernel_rfl) (by kernel_rfl)
theorem opens {W : World} (h : laidMetH Tryd.prog Rows.fnExactPackTextRow.laid W) : TW W := by
  rw [MakeChecks.laidMetH_plain _ _ _ (by kernel_rfl)] at h
  exact opens3 h
end LT
end Go.Proofs.YtjdjahckdgbkbadDoor
end
