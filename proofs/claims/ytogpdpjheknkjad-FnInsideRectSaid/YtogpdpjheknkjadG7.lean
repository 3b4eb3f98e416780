import Derived.Test.YtogpdpjheknkjadG6
import Derived.Test.YtogpdpjheknkjadS3
namespace Go.Proofs.Ytogpdpjheknkjad
open Go.RowKit
set_option linter.unusedVariables false
set_option maxHeartbeats 2000000
attribute [local go_sem] givesUpon_value givesUpon_skip givesUpon_enter
structure HP2 (B rb bx b0 b1 : Nat) (A : Option Addr) (n c : Nat) (x y u v : Int) (m : Nat) (w : World) : Prop where
  rd : Rd B rb A n c m w
  hx : w.heap[bx]? = some (.cells #[.int .i64 x, .int .i64 y, .int .i64 u, .int .i64 v] 24 (0, 0))
  h0 : ∃ a0 a1 a2 a3 : Int, w.heap[b0]? = some (.cells #[.int .i64 a0, .int .i64 a1, .int .i64 a2, .int .i64 a3] 24 (0, 0))
  h1 : ∃ a0 a1 a2 a3 : Int, w.heap[b1]? = some (.cells #[.int .i64 a0, .int .i64 a1, .int .i64 a2, .int .i64 a3] 24 (0, 0))
  ne : bx ≠ rb ∧ b0 ≠ rb ∧ b1 ≠ rb ∧ bx ≠ b0 ∧ bx ≠ b1 ∧ b0 ≠ b1 ∧ B ≤ b0 ∧ B ≤ b1
section
variable {B rb bx b0 b1 : Nat} {A : Option Addr} {n c : Nat} {x y u v : Int} {m : Nat} {w w' : World}
theorem HP2.base (h : HP2 B rb bx b0 b1 A n c x y u v m w) : B ≤ w.heap.size := by have := h.rd.lt; have := h.rd.base; omega
theorem HP2.next (h : HP2 B rb bx b0 b1 A n c x y u v m w) : HP2 B rb bx b0 b1 A n c x y u v (m + 1) w := ⟨h.rd.mono (by omega), h.hx, h.h0, h.h1, h.ne⟩
theorem HP2.more {m' : Nat} (h : HP2 B rb bx b0 b1 A n c x y u v m w) (hm : m ≤ m') : HP2 B rb bx b0 b1 A n c x y u v m' w := ⟨h.rd.mono hm, h.hx, h.h0, h.h1, h.ne⟩
theorem HP2.drew (h : HP2 B rb bx b0 b1 A n c x y u v m w) : HP2 B rb bx b0 b1 A n c x y u v m w.drew := ⟨h.rd.drew, h.hx, h.h0, h.h1, h.ne⟩
theorem HP2.call {m' : Nat} (h : HP2 B rb bx b0 b1 A n c x y u v m w) (hr : Rd B rb A n c m' w') (hc : Chg [rb] w w') : HP2 B rb bx b0 b1 A n c x y u v m' w' := by
  obtain ⟨n1, n2, n3, n4⟩ := h.ne
  exact ⟨hr, (hc.block _ (lt_of_heap h.hx) (by simpa using n1)).trans h.hx, let ⟨a0, a1, a2, a3, ha⟩ := h.h0; ⟨a0, a1, a2, a3, (hc.block _ (lt_of_heap ha) (by simpa using n2)).trans ha⟩, let ⟨a0, a1, a2, a3, ha⟩ := h.h1; ⟨a0, a1, a2, a3, (hc.block _ (lt_of_heap ha) (by simpa using n3)).trans ha⟩, h.ne⟩
theorem HP2.below (h : HP2 B rb bx b0 b1 A n c x y u v m w) (hb : Below w.heap.size w w') : HP2 B rb bx b0 b1 A n c x y u v m w' :=
  ⟨h.rd.below hb, (hb.block _ (lt_of_heap h.hx)).trans h.hx, let ⟨a0, a1, a2, a3, ha⟩ := h.h0; ⟨a0, a1, a2, a3, (hb.block _ (lt_of_heap ha)).trans ha⟩, let ⟨a0, a1, a2, a3, ha⟩ := h.h1; ⟨a0, a1, a2, a3, (hb.block _ (lt_of_heap ha)).trans ha⟩, h.ne⟩
theorem HP2.store0 (h : HP2 B rb bx b0 b1 A n c x y u v m w) (z0 z1 z2 z3 : Int) : HP2 B rb bx b0 b1 A n c x y u v (m + 1) ((((w.setCell ⟨b0, 0, none⟩ (.int .i64 z0)).setCell ⟨b0, 1, none⟩ (.int .i64 z1)).setCell ⟨b0, 2, none⟩ (.int .i64 z2)).setCell ⟨b0, 3, none⟩ (.int .i64 z3)) := by
  obtain ⟨n1, n2, n3, n4, n5, n6, n7, n8⟩ := h.ne
  exact ⟨((((h.rd.setCell n7 n2 _).setCell n7 n2 _).setCell n7 n2 _).setCell n7 n2 _).mono (by omega), (put4o n4 _ _ _ _).trans h.hx, let ⟨a0, a1, a2, a3, ha⟩ := h.h0; ⟨_, _, _, _, put4h ha _ _ _ _⟩, let ⟨a0, a1, a2, a3, ha⟩ := h.h1; ⟨_, _, _, _, (put4o (Ne.symm n6) _ _ _ _).trans ha⟩, h.ne⟩
theorem HP2.store1 (h : HP2 B rb bx b0 b1 A n c x y u v m w) (z0 z1 z2 z3 : Int) : HP2 B rb bx b0 b1 A n c x y u v (m + 1) ((((w.setCell ⟨b1, 0, none⟩ (.int .i64 z0)).setCell ⟨b1, 1, none⟩ (.int .i64 z1)).setCell ⟨b1, 2, none⟩ (.int .i64 z2)).setCell ⟨b1, 3, none⟩ (.int .i64 z3)) := by
  obtain ⟨n1, n2, n3, n4, n5, n6, n7, n8⟩ := h.ne
  exact ⟨((((h.rd.setCell n8 n3 _).setCell n8 n3 _).setCell n8 n3 _).setCell n8 n3 _).mono (by omega), (put4o n5 _ _ _ _).trans h.hx, let ⟨a0, a1, a2, a3, ha⟩ := h.h0; ⟨_, _, _, _, (put4o n6 _ _ _ _).trans ha⟩, let ⟨a0, a1, a2, a3, ha⟩ := h.h1; ⟨_, _, _, _, put4h ha _ _ _ _⟩, h.ne⟩
theorem HP2.storeC0 (h : HP2 B rb bx b0 b1 A n c x y u v m w) {z0 z1 z2 z3 : Value} : Chg [rb, b0, b1] w ((((w.setCell ⟨b0, 0, none⟩ z0).setCell ⟨b0, 1, none⟩ z1).setCell ⟨b0, 2, none⟩ z2).setCell ⟨b0, 3, none⟩ z3) :=
  ((((Chg.refl _ _).setCell (.inl (by simp)) _).setCell (.inl (by simp)) _).setCell (.inl (by simp)) _).setCell (.inl (by simp)) _
theorem HP2.storeC1 (h : HP2 B rb bx b0 b1 A n c x y u v m w) {z0 z1 z2 z3 : Value} : Chg [rb, b0, b1] w ((((w.setCell ⟨b1, 0, none⟩ z0).setCell ⟨b1, 1, none⟩ z1).setCell ⟨b1, 2, none⟩ z2).setCell ⟨b1, 3, none⟩ z3) :=
  ((((Chg.refl _ _).setCell (.inl (by simp)) _).setCell (.inl (by simp)) _).setCell (.inl (by simp)) _).setCell (.inl (by simp)) _
end
theorem st_TIr (S : List Nat) (a b : Int) : StT S (TIr a b) := fun _ _ _ h _ => h
theorem inB_mk {x y u v p q : Int} (h : vr x y u v = true) (h1 : 0 ≤ p) (h2 : p < 4) (h3 : 0 ≤ q) (h4 : q < 4) : inB x y u v p q = true := by
  have a : rng p 0 10 = true := rng_iff.2 (by omega)
  have b : rng q 0 10 = true := rng_iff.2 (by omega)
  simp [inB, h, a, b]
set_option maxRecDepth 100000 in
theorem DrawInsideRect_any (A : Option Addr) (n c : Nat) (w : World) (h : Bts w A n) (hn : n ≤ c) (hc : c ≤ maxLen) :
    Calls Try.prog 26 #[.slice A n c] w fun e w' => (∃ x y u v x' y' u' v', e = .returned (.tuple #[.agg #[.int .i64 (x), .int .i64 (y), .int .i64 (u), .int .i64 (v)], .agg #[.int .i64 (x'), .int .i64 (y'), .int .i64 (u'), .int .i64 (v')]])) ∧ Below w.heap.size w w' := by
  go_enter Try.func26, Try.ntmps26
  go_wp2_with fail
  with_reducible refine (newReader_low A n c _ h (by simp; omega) ((h.alloc _).alloc _) hn hc).mono ?_
  rintro e w1 ⟨n', rfl, hr1, hc1⟩
  simp only [World.size_alloc] at hr1
  go_wp2_with fail
  with_reducible refine (someRect_any _ hr1 (by omega)).mono ?_
  rintro e w2 ⟨⟨x, y, u, v, rfl⟩, hr2, hc2⟩
  have hs := hc1.size
  have hs2 := hc2.size
  simp only [World.size_alloc] at hs
  have Hc : Chg [w.heap.size + 1 + 1] _ w2 := (hc1.mono (by simp)).trans hc2
  have hb0 := (Hc.block w.heap.size (by simp; omega) (by simp; omega)).trans ((Below.heap_alloc _ _ _ (by simp)).trans (heap_alloc_new w _))
  have hb1 := (Hc.block (w.heap.size + 1) (by simp) (by simp)).trans (heap_alloc2 w _ _)
  have hB : Chg [w.heap.size + 1 + 1, w.heap.size, w.heap.size + 1] w w2 := ((((Chg.refl [w.heap.size + 1 + 1] w).alloc _).alloc _).trans Hc).mono (by simp)
  have hl := hr2.lt
  have HW : HP2 w.heap.size (w.heap.size + 1 + 1) w2.heap.size w.heap.size (w.heap.size + 1) A n' c x y u v 10 (w2.alloc (.cells #[.int .i64 x, .int .i64 y, .int .i64 u, .int .i64 v] 24)) := by
    have l1 : w.heap.size < w2.heap.size := by omega
    have l2 : w.heap.size + 1 < w2.heap.size := by omega
    exact ⟨hr2.alloc _, heap_alloc_new _ _, ⟨0, 0, 0, 0, (Below.heap_alloc _ _ _ l1).trans hb0⟩, ⟨0, 0, 0, 0, (Below.heap_alloc _ _ _ l2).trans hb1⟩, by omega⟩
  have HB := hB.alloc (.cells #[.int .i64 x, .int .i64 y, .int .i64 u, .int .i64 v] 24)
  clear hb0 hb1 hB Hc hc1 hc2 hr1 hr2 hs hs2 hl
  go_wp2_with fail
  with_reducible refine (pick_any _ _ HW.rd (by omega)).mono ?_
  rintro e w3 ⟨⟨q, rfl, hq⟩, hr3, hc3⟩
  replace HW := HW.call hr3 hc3
  replace HB := HB.trans (hc3.mono (by simp))
  clear hr3 hc3
  have hh := lt_of_heap HW.hx
  have HH := Lib.hid hh
  have hn0 : w.heap.size ≠ w.heap.size + 1 := by omega
  clear hh
  by_cases hq0 : q = 0
  · subst hq0
    obtain ⟨c0, c1, c2, c3, -⟩ := b4 HW.hx
    have hW := Lib.hid HW
    have hBB := Lib.hid HB
    clear HW HB hq
    go_wp2_with fail
    with_reducible refine (specValidRect_any x y u v _).mono ?_
    rintro e w4 ⟨rfl, hb4⟩
    replace hW := Lib.hid (hW.out.below hb4)
    replace hBB := Lib.hid (hBB.out.of_below hb4)
    clear hb4 c0 c1 c2 c3
    cases hv : vr x y u v
    · go_upto_region 5 with (fail)
      generalize hw3 : w4 = W at *
      have HI0 : HP2 w.heap.size (w.heap.size + 1 + 1) w2.heap.size w.heap.size (w.heap.size + 1) A n' c x y u v (11 + 10 * 0) W.drew := hW.out.drew.more (by omega)
      replace hBB := hBB.out.drew
      generalize hbx : w2.heap.size = bx at *
      generalize hrb : w.heap.size + 1 + 1 = rb at *
      generalize hb1 : w.heap.size + 1 = b1 at *
      generalize hb0 : w.heap.size = b0 at *
      have Hb0 := Lib.hid hb0
      have Hb1 := Lib.hid hb1
      have Hrb := Lib.hid hrb
      clear hW hw3 hbx hrb hb1 hb0 h HH
      refine wp_region_rgl (fun k => (TV (.agg #[.int .i64 (x), .int .i64 (y), .int .i64 (u), .int .i64 (v)]) :: TV (.pointer (some ⟨rb, 0, none⟩)) :: TRect :: TT0 :: TT0 :: [] : List (Value → World → Prop)).getD k TT0) (Chg [rb, b0, b1]) (fun m w => HP2 b0 rb bx b0 b1 A n' c x y u v (11 + 10 * m) w) (by kernel_rfl) (by kernel_rfl) (fun a => Chg.refl _ a) (fun _ _ _ h k => h.trans k) ?hTs ?hI0 ?hops ?hfin
      case hI0 => exact HI0
      case hops =>
        refine ⟨opOK_ds [(5, none)] (by kernel_rfl) rfl ?_, ?_⟩
        · intro m a w hm hR hI h1
          have hk : ∀ v, a.eval (.const v) = v := fun _ => rfl
          have hf : ∀ f, a.eval (.func f) = .func (.func f) #[] #[] := fun _ => rfl
          generalize a.eval = ρ at *
          have hm : m < 5 := hm
          obtain ⟨c0, c1, c2, c3, -⟩ := b4 hI.hx
          replace h1 : ρ (.tmp 5) = .pointer (some ⟨bx, 0, none⟩) := h1
          refine gives_gen (fun K hK => ?_)
          go_simp
          exact hK _ _ ⟨rfl, Chg.refl _ _, hI.next.more (by omega)⟩
        refine ⟨opOK_ds [(4, none)] (by kernel_rfl) rfl ?_, ?_⟩
        · intro m a w hm hR hI h1
          have hk : ∀ v, a.eval (.const v) = v := fun _ => rfl
          have hf : ∀ f, a.eval (.func f) = .func (.func f) #[] #[] := fun _ => rfl
          generalize a.eval = ρ at *
          have hm : m < 5 := hm
          replace h1 : ρ (.tmp 4) = .pointer (some ⟨rb, 0, none⟩) := h1
          refine gives_gen (fun K hK => ?_)
          go_simp
          exact hK _ _ ⟨rfl, Chg.refl _ _, hI.next.more (by omega)⟩
        refine ⟨opOK_ds [(25, some 1)] (by kernel_rfl) rfl ?_, ?_⟩
        · intro m a w hm hR hI h1
          have hk : ∀ v, a.eval (.const v) = v := fun _ => rfl
          have hf : ∀ f, a.eval (.func f) = .func (.func f) #[] #[] := fun _ => rfl
          generalize a.eval = ρ at *
          have hm : m < 5 := hm
          replace h1 : ρ (.tmp 25) = .pointer (some ⟨rb, 0, none⟩) := h1
          refine gives_gen (fun K hK => ?_)
          go_simp
          with_reducible refine (someRect_any _ hI.rd (by omega)).mono ?_
          rintro e w1 ⟨⟨z0, z1, z2, z3, rfl⟩, hr, hc⟩
          exact ⟨_, rfl, hK _ _ ⟨⟨_, _, _, _, rfl⟩, hc.mono (by simp), (hI.call hr hc).more (by omega)⟩⟩
        refine ⟨opOK_ds [(2, none), (24, some 0)] (by kernel_rfl) rfl ?_, ?_⟩
        · intro m a w hm hR hI h1 h2
          have hk : ∀ v, a.eval (.const v) = v := fun _ => rfl
          have hf : ∀ f, a.eval (.func f) = .func (.func f) #[] #[] := fun _ => rfl
          generalize a.eval = ρ at *
          have hm : m < 5 := hm
          obtain ⟨a0, a1, a2, a3, ha⟩ := hI.h0
          obtain ⟨c0, c1, c2, c3, f0, f1, f2, f3⟩ := b4 ha
          replace h1 : ρ (.tmp 2) = .pointer (some ⟨b0, 0, none⟩) := h1
          replace h2 : ρ (.tmp 24) = .agg #[.int .i64 (x), .int .i64 (y), .int .i64 (u), .int .i64 (v)] := h2
          refine gives_gen (fun K hK => ?_)
          go_simp
          exact hK _ _ ⟨trivial, hI.storeC0, (hI.store0 _ _ _ _).more (by omega)⟩
        refine ⟨opOK_ds [(3, none), (26, some 2)] (by kernel_rfl) rfl ?_, ?_⟩
        · intro m a w hm hR hI h1 h2
          have hk : ∀ v, a.eval (.const v) = v := fun _ => rfl
          have hf : ∀ f, a.eval (.func f) = .func (.func f) #[] #[] := fun _ => rfl
          generalize a.eval = ρ at *
          have hm : m < 5 := hm
          obtain ⟨a0, a1, a2, a3, ha⟩ := hI.h1
          obtain ⟨c0, c1, c2, c3, f0, f1, f2, f3⟩ := b4 ha
          replace h1 : ρ (.tmp 3) = .pointer (some ⟨b1, 0, none⟩) := h1
          obtain ⟨x2, y2, u2, q2, h2⟩ : TRect (ρ (.tmp 26)) w := h2
          refine gives_gen (fun K hK => ?_)
          go_simp
          exact hK _ _ ⟨trivial, hI.storeC1, (hI.store1 _ _ _ _).more (by omega)⟩
        exact trivial
      case hTs => exact st_list (by
        intro T hT
        simp only [List.mem_cons, List.not_mem_nil, or_false] at hT
        rcases hT with rfl | rfl | rfl | rfl | rfl <;> first | exact st_TI _ | exact st_TIr _ _ _ | exact st_TV _ _ | exact st_TRect _ | exact st_TL _ _ _ | exact st_TT0 _)
      case hfin =>
        intro wf hR hI
        intro v24 t24 v25 t25 v26 t26
        obtain ⟨a0, a1, a2, a3, ha⟩ := hI.h0
        obtain ⟨d0, d1, d2, d3, hd⟩ := hI.h1
        have HBB := Lib.hid (hBB.trans hR)
        obtain ⟨c0, c1, c2, c3, f0, f1, f2, f3⟩ := b4 ha
        obtain ⟨e0, e1, e2, e3, g0, g1, g2, g3⟩ := b4 hd
        clear ha hd hI hR hBB t24 t25 t26
        simp only [finP, Act.put, List.setIfInBounds_toArray, List.set_cons_succ, List.set_cons_zero]
        go_wp2
        exact bodyPost_ret (v := .tuple #[.agg #[.int .i64 (a0), .int .i64 (a1), .int .i64 (a2), .int .i64 (a3)], .agg #[.int .i64 (d0), .int .i64 (d1), .int .i64 (d2), .int .i64 (d3)]]) (by simp only [results, Try.results26]; go_simp) rfl ⟨⟨_, _, _, _, _, _, _, _, rfl⟩, HBB.out.below (Nat.le_refl _) (by have := Hrb.out; have := Hb0.out; have := Hb1.out; simp; omega)⟩
    · go_upto_region 4 with (fail)
      generalize hw3 : w4 = W at *
      have HI0 : HP2 w.heap.size (w.heap.size + 1 + 1) w2.heap.size w.heap.size (w.heap.size + 1) A n' c x y u v (11 + 10 * 0) W.drew := hW.out.drew.more (by omega)
      replace hBB := hBB.out.drew
      generalize hbx : w2.heap.size = bx at *
      generalize hrb : w.heap.size + 1 + 1 = rb at *
      generalize hb1 : w.heap.size + 1 = b1 at *
      generalize hb0 : w.heap.size = b0 at *
      have Hb0 := Lib.hid hb0
      have Hb1 := Lib.hid hb1
      have Hrb := Lib.hid hrb
      clear hW hw3 hbx hrb hb1 hb0 h HH
      refine wp_region_rgl (fun k => (TV (.agg #[.int .i64 (x), .int .i64 (y), .int .i64 (u), .int .i64 (v)]) :: TV (.agg #[.int .i64 (x), .int .i64 (y), .int .i64 (u), .int .i64 (v)]) :: TV (.pointer (some ⟨rb, 0, none⟩)) :: TIr 0 4 :: TV (.pointer (some ⟨rb, 0, none⟩)) :: TIr 0 4 :: TRect :: TT0 :: TT0 :: [] : List (Value → World → Prop)).getD k TT0) (Chg [rb, b0, b1]) (fun m w => HP2 b0 rb bx b0 b1 A n' c x y u v (11 + 10 * m) w) (by kernel_rfl) (by kernel_rfl) (fun a => Chg.refl _ a) (fun _ _ _ h k => h.trans k) ?hTs ?hI0 ?hops ?hfin
      case hI0 => exact HI0
      case hops =>
        refine ⟨opOK_ds [(5, none)] (by kernel_rfl) rfl ?_, ?_⟩
        · intro m a w hm hR hI h1
          have hk : ∀ v, a.eval (.const v) = v := fun _ => rfl
          have hf : ∀ f, a.eval (.func f) = .func (.func f) #[] #[] := fun _ => rfl
          generalize a.eval = ρ at *
          have hm : m < 9 := hm
          obtain ⟨c0, c1, c2, c3, -⟩ := b4 hI.hx
          replace h1 : ρ (.tmp 5) = .pointer (some ⟨bx, 0, none⟩) := h1
          refine gives_gen (fun K hK => ?_)
          go_simp
          exact hK _ _ ⟨rfl, Chg.refl _ _, hI.next.more (by omega)⟩
        refine ⟨opOK_ds [(5, none)] (by kernel_rfl) rfl ?_, ?_⟩
        · intro m a w hm hR hI h1
          have hk : ∀ v, a.eval (.const v) = v := fun _ => rfl
          have hf : ∀ f, a.eval (.func f) = .func (.func f) #[] #[] := fun _ => rfl
          generalize a.eval = ρ at *
          have hm : m < 9 := hm
          obtain ⟨c0, c1, c2, c3, -⟩ := b4 hI.hx
          replace h1 : ρ (.tmp 5) = .pointer (some ⟨bx, 0, none⟩) := h1
          refine gives_gen (fun K hK => ?_)
          go_simp
          exact hK _ _ ⟨rfl, Chg.refl _ _, hI.next.more (by omega)⟩
        refine ⟨opOK_ds [(4, none)] (by kernel_rfl) rfl ?_, ?_⟩
        · intro m a w hm hR hI h1
          have hk : ∀ v, a.eval (.const v) = v := fun _ => rfl
          have hf : ∀ f, a.eval (.func f) = .func (.func f) #[] #[] := fun _ => rfl
          generalize a.eval = ρ at *
          have hm : m < 9 := hm
          replace h1 : ρ (.tmp 4) = .pointer (some ⟨rb, 0, none⟩) := h1
          refine gives_gen (fun K hK => ?_)
          go_simp
          exact hK _ _ ⟨rfl, Chg.refl _ _, hI.next.more (by omega)⟩
        refine ⟨opOK_ds [(19, some 2)] (by kernel_rfl) rfl ?_, ?_⟩
        · intro m a w hm hR hI h1
          have hk : ∀ v, a.eval (.const v) = v := fun _ => rfl
          have hf : ∀ f, a.eval (.func f) = .func (.func f) #[] #[] := fun _ => rfl
          generalize a.eval = ρ at *
          have hm : m < 9 := hm
          replace h1 : ρ (.tmp 19) = .pointer (some ⟨rb, 0, none⟩) := h1
          refine gives_gen (fun K hK => ?_)
          go_simp
          with_reducible refine (pick_any _ _ hI.rd (by omega)).mono ?_
          rintro e w1 ⟨⟨z, rfl, hz⟩, hr, hc⟩
          exact ⟨_, rfl, hK _ _ ⟨⟨z, rfl, hz (by omega)⟩, hc.mono (by simp), (hI.call hr hc).more (by omega)⟩⟩
        refine ⟨opOK_ds [(4, none)] (by kernel_rfl) rfl ?_, ?_⟩
        · intro m a w hm hR hI h1
          have hk : ∀ v, a.eval (.const v) = v := fun _ => rfl
          have hf : ∀ f, a.eval (.func f) = .func (.func f) #[] #[] := fun _ => rfl
          generalize a.eval = ρ at *
          have hm : m < 9 := hm
          replace h1 : ρ (.tmp 4) = .pointer (some ⟨rb, 0, none⟩) := h1
          refine gives_gen (fun K hK => ?_)
          go_simp
          exact hK _ _ ⟨rfl, Chg.refl _ _, hI.next.more (by omega)⟩
        refine ⟨opOK_ds [(21, some 4)] (by kernel_rfl) rfl ?_, ?_⟩
        · intro m a w hm hR hI h1
          have hk : ∀ v, a.eval (.const v) = v := fun _ => rfl
          have hf : ∀ f, a.eval (.func f) = .func (.func f) #[] #[] := fun _ => rfl
          generalize a.eval = ρ at *
          have hm : m < 9 := hm
          replace h1 : ρ (.tmp 21) = .pointer (some ⟨rb, 0, none⟩) := h1
          refine gives_gen (fun K hK => ?_)
          go_simp
          with_reducible refine (pick_any _ _ hI.rd (by omega)).mono ?_
          rintro e w1 ⟨⟨z, rfl, hz⟩, hr, hc⟩
          exact ⟨_, rfl, hK _ _ ⟨⟨z, rfl, hz (by omega)⟩, hc.mono (by simp), (hI.call hr hc).more (by omega)⟩⟩
        refine ⟨opOK_ds [(18, some 1), (20, some 3), (22, some 5)] (by kernel_rfl) rfl ?_, ?_⟩
        · intro m a w hm hR hI h1 h2 h3
          have hk : ∀ v, a.eval (.const v) = v := fun _ => rfl
          have hf : ∀ f, a.eval (.func f) = .func (.func f) #[] #[] := fun _ => rfl
          generalize a.eval = ρ at *
          have hm : m < 9 := hm
          replace h1 : ρ (.tmp 18) = .agg #[.int .i64 (x), .int .i64 (y), .int .i64 (u), .int .i64 (v)] := h1
          obtain ⟨z2, h2, g2a, g2b⟩ : TIr 0 4 (ρ (.tmp 20)) w := h2
          obtain ⟨z3, h3, g3a, g3b⟩ : TIr 0 4 (ρ (.tmp 22)) w := h3
          refine gives_gen (fun K hK => ?_)
          go_simp
          with_reducible refine (sinset_any x y u v _ _ _ (inB_mk hv g2a g2b g3a g3b)).mono ?_
          rintro e w1 ⟨rfl, hb⟩
          exact ⟨_, rfl, hK _ _ ⟨⟨_, _, _, _, rfl⟩, (Chg.refl _ _).of_below hb, (hI.below hb).more (by omega)⟩⟩
        refine ⟨opOK_ds [(2, none), (17, some 0)] (by kernel_rfl) rfl ?_, ?_⟩
        · intro m a w hm hR hI h1 h2
          have hk : ∀ v, a.eval (.const v) = v := fun _ => rfl
          have hf : ∀ f, a.eval (.func f) = .func (.func f) #[] #[] := fun _ => rfl
          generalize a.eval = ρ at *
          have hm : m < 9 := hm
          obtain ⟨a0, a1, a2, a3, ha⟩ := hI.h0
          obtain ⟨c0, c1, c2, c3, f0, f1, f2, f3⟩ := b4 ha
          replace h1 : ρ (.tmp 2) = .pointer (some ⟨b0, 0, none⟩) := h1
          replace h2 : ρ (.tmp 17) = .agg #[.int .i64 (x), .int .i64 (y), .int .i64 (u), .int .i64 (v)] := h2
          refine gives_gen (fun K hK => ?_)
          go_simp
          exact hK _ _ ⟨trivial, hI.storeC0, (hI.store0 _ _ _ _).more (by omega)⟩
        refine ⟨opOK_ds [(3, none), (23, some 6)] (by kernel_rfl) rfl ?_, ?_⟩
        · intro m a w hm hR hI h1 h2
          have hk : ∀ v, a.eval (.const v) = v := fun _ => rfl
          have hf : ∀ f, a.eval (.func f) = .func (.func f) #[] #[] := fun _ => rfl
          generalize a.eval = ρ at *
          have hm : m < 9 := hm
          obtain ⟨a0, a1, a2, a3, ha⟩ := hI.h1
          obtain ⟨c0, c1, c2, c3, f0, f1, f2, f3⟩ := b4 ha
          replace h1 : ρ (.tmp 3) = .pointer (some ⟨b1, 0, none⟩) := h1
          obtain ⟨x2, y2, u2, q2, h2⟩ : TRect (ρ (.tmp 23)) w := h2
          refine gives_gen (fun K hK => ?_)
          go_simp
          exact hK _ _ ⟨trivial, hI.storeC1, (hI.store1 _ _ _ _).more (by omega)⟩
        exact trivial
      case hTs => exact st_list (by
        intro T hT
        simp only [List.mem_cons, List.not_mem_nil, or_false] at hT
        rcases hT with rfl | rfl | rfl | rfl | rfl | rfl | rfl | rfl | rfl <;> first | exact st_TI _ | exact st_TIr _ _ _ | exact st_TV _ _ | exact st_TRect _ | exact st_TL _ _ _ | exact st_TT0 _)
      case hfin =>
        intro wf hR hI
        intro v17 t17 v18 t18 v19 t19 v20 t20 v21 t21 v22 t22 v23 t23
        obtain ⟨a0, a1, a2, a3, ha⟩ := hI.h0
        obtain ⟨d0, d1, d2, d3, hd⟩ := hI.h1
        have HBB := Lib.hid (hBB.trans hR)
        obtain ⟨c0, c1, c2, c3, f0, f1, f2, f3⟩ := b4 ha
        obtain ⟨e0, e1, e2, e3, g0, g1, g2, g3⟩ := b4 hd
        clear ha hd hI hR hBB t17 t18 t19 t20 t21 t22 t23
        simp only [finP, Act.put, List.setIfInBounds_toArray, List.set_cons_succ, List.set_cons_zero]
        go_wp2
        exact bodyPost_ret (v := .tuple #[.agg #[.int .i64 (a0), .int .i64 (a1), .int .i64 (a2), .int .i64 (a3)], .agg #[.int .i64 (d0), .int .i64 (d1), .int .i64 (d2), .int .i64 (d3)]]) (by simp only [results, Try.results26]; go_simp) rfl ⟨⟨_, _, _, _, _, _, _, _, rfl⟩, HBB.out.below (Nat.le_refl _) (by have := Hrb.out; have := Hb0.out; have := Hb1.out; simp; omega)⟩
  · have hq1 : (q == 0) = false := by simpa using hq0
    have hW := Lib.hid HW
    have hBB := Lib.hid HB
    clear HW HB hq
    go_upto_region 5 with (fail)
    generalize hw3 : w3 = W at *
    have HI0 : HP2 w.heap.size (w.heap.size + 1 + 1) w2.heap.size w.heap.size (w.heap.size + 1) A n' c x y u v (11 + 10 * 0) W.drew := hW.out.drew.more (by omega)
    replace hBB := hBB.out.drew
    generalize hbx : w2.heap.size = bx at *
    generalize hrb : w.heap.size + 1 + 1 = rb at *
    generalize hb1 : w.heap.size + 1 = b1 at *
    generalize hb0 : w.heap.size = b0 at *
    have Hb0 := Lib.hid hb0
    have Hb1 := Lib.hid hb1
    have Hrb := Lib.hid hrb
    clear hW hw3 hbx hrb hb1 hb0 h HH
    refine wp_region_rgl (fun k => (TV (.agg #[.int .i64 (x), .int .i64 (y), .int .i64 (u), .int .i64 (v)]) :: TV (.pointer (some ⟨rb, 0, none⟩)) :: TRect :: TT0 :: TT0 :: [] : List (Value → World → Prop)).getD k TT0) (Chg [rb, b0, b1]) (fun m w => HP2 b0 rb bx b0 b1 A n' c x y u v (11 + 10 * m) w) (by kernel_rfl) (by kernel_rfl) (fun a => Chg.refl _ a) (fun _ _ _ h k => h.trans k) ?hTs ?hI0 ?hops ?hfin
    case hI0 => exact HI0
    case hops =>
      refine ⟨opOK_ds [(5, none)] (by kernel_rfl) rfl ?_, ?_⟩
      · intro m a w hm hR hI h1
        have hk : ∀ v, a.eval (.const v) = v := fun _ => rfl
        have hf : ∀ f, a.eval (.func f) = .func (.func f) #[] #[] := fun _ => rfl
        generalize a.eval = ρ at *
        have hm : m < 5 := hm
        obtain ⟨c0, c1, c2, c3, -⟩ := b4 hI.hx
        replace h1 : ρ (.tmp 5) = .pointer (some ⟨bx, 0, none⟩) := h1
        refine gives_gen (fun K hK => ?_)
        go_simp
        exact hK _ _ ⟨rfl, Chg.refl _ _, hI.next.more (by omega)⟩
      refine ⟨opOK_ds [(4, none)] (by kernel_rfl) rfl ?_, ?_⟩
      · intro m a w hm hR hI h1
        have hk : ∀ v, a.eval (.const v) = v := fun _ => rfl
        have hf : ∀ f, a.eval (.func f) = .func (.func f) #[] #[] := fun _ => rfl
        generalize a.eval = ρ at *
        have hm : m < 5 := hm
        replace h1 : ρ (.tmp 4) = .pointer (some ⟨rb, 0, none⟩) := h1
        refine gives_gen (fun K hK => ?_)
        go_simp
        exact hK _ _ ⟨rfl, Chg.refl _ _, hI.next.more (by omega)⟩
      refine ⟨opOK_ds [(25, some 1)] (by kernel_rfl) rfl ?_, ?_⟩
      · intro m a w hm hR hI h1
        have hk : ∀ v, a.eval (.const v) = v := fun _ => rfl
        have hf : ∀ f, a.eval (.func f) = .func (.func f) #[] #[] := fun _ => rfl
        generalize a.eval = ρ at *
        have hm : m < 5 := hm
        replace h1 : ρ (.tmp 25) = .pointer (some ⟨rb, 0, none⟩) := h1
        refine gives_gen (fun K hK => ?_)
        go_simp
        with_reducible refine (someRect_any _ hI.rd (by omega)).mono ?_
        rintro e w1 ⟨⟨z0, z1, z2, z3, rfl⟩, hr, hc⟩
        exact ⟨_, rfl, hK _ _ ⟨⟨_, _, _, _, rfl⟩, hc.mono (by simp), (hI.call hr hc).more (by omega)⟩⟩
      refine ⟨opOK_ds [(2, none), (24, some 0)] (by kernel_rfl) rfl ?_, ?_⟩
      · intro m a w hm hR hI h1 h2
        have hk : ∀ v, a.eval (.const v) = v := fun _ => rfl
        have hf : ∀ f, a.eval (.func f) = .func (.func f) #[] #[] := fun _ => rfl
        generalize a.eval = ρ at *
        have hm : m < 5 := hm
        obtain ⟨a0, a1, a2, a3, ha⟩ := hI.h0
        obtain ⟨c0, c1, c2, c3, f0, f1, f2, f3⟩ := b4 ha
        replace h1 : ρ (.tmp 2) = .pointer (some ⟨b0, 0, none⟩) := h1
        replace h2 : ρ (.tmp 24) = .agg #[.int .i64 (x), .int .i64 (y), .int .i64 (u), .int .i64 (v)] := h2
        refine gives_gen (fun K hK => ?_)
        go_simp
        exact hK _ _ ⟨trivial, hI.storeC0, (hI.store0 _ _ _ _).more (by omega)⟩
      refine ⟨opOK_ds [(3, none), (26, some 2)] (by kernel_rfl) rfl ?_, ?_⟩
      · intro m a w hm hR hI h1 h2
        have hk : ∀ v, a.eval (.const v) = v := fun _ => rfl
        have hf : ∀ f, a.eval (.func f) = .func (.func f) #[] #[] := fun _ => rfl
        generalize a.eval = ρ at *
        have hm : m < 5 := hm
        obtain ⟨a0, a1, a2, a3, ha⟩ := hI.h1
        obtain ⟨c0, c1, c2, c3, f0, f1, f2, f3⟩ := b4 ha
        replace h1 : ρ (.tmp 3) = .pointer (some ⟨b1, 0, none⟩) := h1
        obtain ⟨x2, y2, u2, q2, h2⟩ : TRect (ρ (.tmp 26)) w := h2
        refine gives_gen (fun K hK => ?_)
        go_simp
        exact hK _ _ ⟨trivial, hI.storeC1, (hI.store1 _ _ _ _).more (by omega)⟩
      exact trivial
    case hTs => exact st_list (by
      intro T hT
      simp only [List.mem_cons, List.not_mem_nil, or_false] at hT
      rcases hT with rfl | rfl | rfl | rfl | rfl <;> first | exact st_TI _ | exact st_TIr _ _ _ | exact st_TV _ _ | exact st_TRect _ | exact st_TL _ _ _ | exact st_TT0 _)
    case hfin =>
      intro wf hR hI
      intro v24 t24 v25 t25 v26 t26
      obtain ⟨a0, a1, a2, a3, ha⟩ := hI.h0
      obtain ⟨d0, d1, d2, d3, hd⟩ := hI.h1
      have HBB := Lib.hid (hBB.trans hR)
      obtain ⟨c0, c1, c2, c3, f0, f1, f2, f3⟩ := b4 ha
      obtain ⟨e0, e1, e2, e3, g0, g1, g2, g3⟩ := b4 hd
      clear ha hd hI hR hBB t24 t25 t26
      simp only [finP, Act.put, List.setIfInBounds_toArray, List.set_cons_succ, List.set_cons_zero]
      go_wp2
      exact bodyPost_ret (v := .tuple #[.agg #[.int .i64 (a0), .int .i64 (a1), .int .i64 (a2), .int .i64 (a3)], .agg #[.int .i64 (d0), .int .i64 (d1), .int .i64 (d2), .int .i64 (d3)]]) (by simp only [results, Try.results26]; go_simp) rfl ⟨⟨_, _, _, _, _, _, _, _, rfl⟩, HBB.out.below (Nat.le_refl _) (by have := Hrb.out; have := Hb0.out; have := Hb1.out; simp; omega)⟩
end Go.Proofs.Ytogpdpjheknkjad
