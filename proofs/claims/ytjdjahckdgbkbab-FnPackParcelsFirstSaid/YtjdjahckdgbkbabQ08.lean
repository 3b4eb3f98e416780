import Derived.Test.YtjdjahckdgbkbabQ07
section
namespace Go.Proofs.Ytjdjahckdgbkbab
open Go.RowKit
set_option linter.unusedVariables false
set_option maxHeartbeats 1000000
attribute [local go_sem 5000] run_mx run_mn
attribute [local go_sem] growUpon_value growUpon_skip growUpon_enter
theorem scut_v (z : Rc) (s n : Int) (w : World) (hz : z.ok = true) (hs : 0 ≤ s) (hs' : s ≤ 3) (hn : 0 ≤ n) :
    Calls Try.prog 74 #[.agg #[.int .i64 (z.x), .int .i64 (z.y), .int .i64 (z.u), .int .i64 (z.v)], .int .i64 s, .int .i64 n] w fun e w' => e = .returned (.tuple #[.agg #[.int .i64 ((cutP z s n).1.x), .int .i64 ((cutP z s n).1.y), .int .i64 ((cutP z s n).1.u), .int .i64 ((cutP z s n).1.v)], .agg #[.int .i64 ((cutP z s n).2.x), .int .i64 ((cutP z s n).2.y), .int .i64 ((cutP z s n).2.u), .int .i64 ((cutP z s n).2.v)]]) ∧ Below w.heap.size w w' := by
  have h : s = 0 ∨ s = 1 ∨ s = 2 ∨ s = 3 := by omega
  rcases h with rfl | rfl | rfl | rfl
  · exact scut0_any z.x z.y z.u z.v n w hz hn
  · exact scut1_any z.x z.y z.u z.v n w hz hn
  · exact scut2_any z.x z.y z.u z.v n w hz hn
  · exact scut3_any z.x z.y z.u z.v n w hz hn
theorem share_n (A : Option Addr) (c n : Nat) (L : List Pk) (room : Int) (d : Bool) (w : World) (hn : n = L.length) (h : PV w A L) (hL : vpsB L = true) (p0 : Pk) (r0 : List Pk) (hp0 : L = p0 :: r0) (hd0 : p0.down = d) (hx0 : p0.ex = true) (hr : 0 ≤ room) (hr' : room ≤ 400) :
    Calls Try.prog 73 #[.slice A n c, .int .i64 room, .bool d] w fun e w' => e = .returned (.int .i64 (shareGo L d room room 0)) ∧ Below w.heap.size w w' := by
  subst hn; exact share_v A c L room d w h hL p0 r0 hp0 hd0 hx0 hr hr'
def rvals : List Rc → List Value
  | [] => []
  | r :: t => vals4 r ++ rvals t
theorem rvals_append (A B : List Rc) : rvals (A ++ B) = rvals A ++ rvals B := by
  induction A with
  | nil => rfl
  | cons r t ih => simp [rvals, ih]
theorem rvals_succ {M : List Rc} {k : Nat} {r : Rc} (h : M[k]? = some r) : rvals (M.take k) ++ vals4 r = rvals (M.take (k + 1)) := by
  rw [List.take_add_one, h, Option.toList, rvals_append]; simp [rvals]
theorem own_below {w w' : World} {base : Nat} {e : TypeId} {size : Nat} {v : Value} {n : Nat} {xs : List Value} (h : w.ownsRow base e size v n xs) (hb : Below w.heap.size w w') : w'.ownsRow base e size v n xs :=
  h.kept (row := none) ⟨hb.os, hb.tape, hb.output, hb.size, fun k hk _ => hb.block k hk⟩ (by cases v.ownBlock <;> simp)
theorem below_grown {w w' : World} {B : Nat} {row : Option Nat} (h : w.grownBy w' row) (hr : ∀ g, row = some g → B ≤ g) (hB : B ≤ w.heap.size) : Below B w w' :=
  ⟨h.os, h.tape, h.output, h.size, fun k hk => h.block k (by omega) (fun e => by have := hr k e.symm; omega)⟩
theorem rect_info : ∃ (i : TypeInfo) (z : Value), Try.prog.info? 42 = some i ∧ i.zero = some z ∧ i.size = 4 ∧ i.bytes = 32 ∧ z.cells.size = 4 := by
  have hinfo : (Try.prog.info? 42).map (fun i => (i.zero, i.size, i.bytes)) = some (some (.agg #[.int .i64 0, .int .i64 0, .int .i64 0, .int .i64 0]), 4, 32) := by kernel_rfl
  obtain ⟨i, hi, h1, h2, h3⟩ := info_parts hinfo
  exact ⟨i, _, hi, h1, h2, h3, rfl⟩
theorem own_mono {w : World} {base base' : Nat} {e : TypeId} {size : Nat} {v : Value} {n : Nat} {xs : List Value} (h : w.ownsRow base e size v n xs) (hb : base' ≤ base) : w.ownsRow base' e size v n xs :=
  ⟨h.1, h.2.imp id fun ⟨g, cap, cur, h1, h2, h3⟩ => ⟨g, cap, cur, h1, Nat.le_trans hb h2, h3⟩⟩
theorem new4 (W : World) (r : Rc) (T : TypeId) : ∀ (j : Nat) (u : Value), (vals4 r)[j]? = some u → (W.alloc (.cells #[.int .i64 r.x, .int .i64 r.y, .int .i64 r.u, .int .i64 r.v] T)).cell? ((⟨W.heap.size, 0, none⟩ : Addr).add j) = some u := fun j u h => by
  have hadd : (⟨W.heap.size, 0, none⟩ : Addr).add j = ⟨W.heap.size, j, none⟩ := by unfold Addr.add; split <;> simp_all
  rw [hadd]
  exact (cellH (heap_new W _) j).trans (by simpa [vals4] using h)
theorem own_set4 {w : World} {base : Nat} {e : TypeId} {size : Nat} {v : Value} {n : Nat} {xs : List Value} (h : w.ownsRow base e size v n xs) {b : Nat} (hb : b < base) (o0 o1 o2 o3 : Nat) (x0 x1 x2 x3 : Value) :
    ((((w.setCell ⟨b, o0, none⟩ x0).setCell ⟨b, o1, none⟩ x1).setCell ⟨b, o2, none⟩ x2).setCell ⟨b, o3, none⟩ x3).ownsRow base e size v n xs :=
  ownsRow_setCell_below (ownsRow_setCell_below (ownsRow_setCell_below (ownsRow_setCell_below h (a := ⟨b, o0, none⟩) hb x0) (a := ⟨b, o1, none⟩) hb x1) (a := ⟨b, o2, none⟩) hb x2) (a := ⟨b, o3, none⟩) hb x3
theorem vals4_one (r : Rc) : ∀ u ∈ vals4 r, u.oneCell' = true := by intro u hu; simp [vals4] at hu; rcases hu with rfl | rfl | rfl | rfl <;> rfl
theorem grown_old {W w5 : World} {v : Value} {o : Obj} {lo hi : Nat} (h : (W.alloc o).grownBy w5 v.ownBlock) (hob : ∀ k, v.ownBlock = some k → lo ≤ k ∧ k < hi) :
    (∀ q, q < W.heap.size → (q < lo ∨ hi ≤ q) → w5.heap[q]? = W.heap[q]?) ∧ ∀ B w, Below B w W → B ≤ lo → B ≤ W.heap.size → Below B w w5 := by
  refine ⟨fun q hq hd => (h.block q (by simp; omega) (fun e => by have := hob q e.symm; omega)).trans (Below.heap_alloc _ _ _ hq), fun B w hb hB hB2 => ?_⟩
  exact (hb.alloc hB2 o).trans (below_grown h (fun g e => by have := hob g e; omega) (by simp; omega))
set_option maxRecDepth 100000 in
theorem parcels_v (A : Option Addr) (c : Nat) (L : List Pk) (z0 : Rc) (w : World) (h : PV w A L) (hcap : L.length ≤ c) (hL : vpsB L = true) (hz0 : z0.ok = true) (M : List Rc) (Z : Rc) (hM : parcM L z0 = (M, Z)) :
    Calls Try.prog 49 #[.slice A L.length c, .agg #[.int .i64 (z0.x), .int .i64 (z0.y), .int .i64 (z0.u), .int .i64 (z0.v)]] w fun e w' => (∃ v, e = .returned (.tuple #[v, .agg #[.int .i64 (Z.x), .int .i64 (Z.y), .int .i64 (Z.u), .int .i64 (Z.v)]]) ∧ w'.ownsRow w.heap.size 42 4 v M.length (rvals M)) ∧ Below w.heap.size w w' := by
  obtain ⟨hok, h7⟩ := vpsB_iff.1 hL
  have hML : M.length = L.length := by have := parcM_len (L := L) (z := z0); rw [hM] at this; exact this
  have HOK := Lib.hid hok
  have HML := Lib.hid hML
  have HVL := Lib.hid hL
  have HM := Lib.hid hM
  clear hok hML hL hM
  obtain ⟨ti, tz, ti1, ti2, ti3, ti4, ti5⟩ := rect_info
  go_enter Try.func49, Try.ntmps49
  go_wp2_with fail

  go_loopw [6, 7] (fun out i wr => ∃ k : Nat, k ≤ L.length ∧ i = .int .i64 k ∧ wr.ownsRow (w.heap.size + 1 + 1) 42 4 out k (rvals (M.take k)) ∧
    (∃ z : Rc, wr.heap[w.heap.size]? = some (.cells #[.int .i64 z.x, .int .i64 z.y, .int .i64 z.u, .int .i64 z.v] 42 (0, 0)) ∧ z.ok = true ∧ parcM (L.drop k) z = (M.drop k, Z)) ∧
    wr.heap[w.heap.size + 1]? = some (.cells #[.int .i64 0, .int .i64 0, .int .i64 0, .int .i64 0] 42 (0, 0)) ∧ Below w.heap.size w wr) (fun _ i _ => L.length - (intOf i).toNat)
  case atStart =>
    refine ⟨0, by omega, rfl, ?_, ⟨z0, ?_, hz0, HM.out⟩, ?_, balloc (balloc (balloc (Below.refl _ _)))⟩
    · have e := World.ownsRow_lit (base := w.heap.size + 1 + 1) (e := 42) (size := 4) ((w.alloc (.cells #[.int .i64 z0.x, .int .i64 z0.y, .int .i64 z0.u, .int .i64 z0.v] 42)).alloc (.cells #[.int .i64 0, .int .i64 0, .int .i64 0, .int .i64 0] 42)) #[] 0 (by simp) (by decide) rfl
      simpa only [World.size_alloc, List.take_zero, rvals] using e
    · rw [Below.heap_alloc _ _ _ (by simp; omega), Below.heap_alloc _ _ _ (by simp)]; exact heap_new _ _
    · rw [Below.heap_alloc _ _ _ (by simp)]
      have e := heap_new (w.alloc (.cells #[.int .i64 z0.x, .int .i64 z0.y, .int .i64 z0.u, .int .i64 z0.v] 42)) (.cells #[.int .i64 0, .int .i64 0, .int .i64 0, .int .i64 0] 42)
      simpa only [World.size_alloc] using e
  case round =>
    obtain ⟨k, hk, rfl, how, ⟨z, hl, hz, hp⟩, hr, hB⟩ := hrel
    clear HM
    by_cases hlt : k < L.length
    · have hd : decide ((k : Int) < (L.length : Int)) = true := by simpa using hlt
      obtain ⟨b, off, rfl, hb, hps⟩ := (h.keep hB).cells (by omega)
      have hget : L[k]? = some L[k] := List.getElem?_eq_getElem hlt
      generalize hx : L[k] = p at *
      obtain ⟨c0, c1, c2, c3, c4, c5, c6, c7, c8⟩ := hps k _ hget
      have hpk : p.ok = true := HOK.out p (List.mem_of_getElem? hget)
      have hdrop := drop_cons hget
      obtain ⟨tk1, tk2⟩ := takeOf_bd (p := p) (r := L.drop (k + 1)) (z := z) (fun q hq => HOK.out q (List.mem_of_mem_drop (by rw [hdrop]; exact hq : q ∈ L.drop k))) hz
      obtain ⟨mo1, mo2⟩ := moreOf_bd (p := p) (r := L.drop (k + 1)) (z := z) (fun q hq => HOK.out q (List.mem_of_mem_drop (by rw [hdrop]; exact hq : q ∈ L.drop k))) hz
      obtain ⟨b1, b2, ⟨b3, b4⟩, b5⟩ := pbd hpk
      have hdl : L.length - k = (L.drop k).length := by rw [List.length_drop]
      obtain ⟨sb1, sb2⟩ := Rc.size_bd hz p.down
      have nbf := Pk.need_bd hpk false
      have nbt := Pk.need_bd hpk true
      have HG := Lib.hid hget
      have HX := Lib.hid hx
      have HOW := Lib.hid how
      have HL := Lib.hid hl
      have HZ := Lib.hid hz
      have HP := Lib.hid hp
      have HR := Lib.hid hr
      have HBB := Lib.hid hB
      have HPS := Lib.hid hps
      have HPK := Lib.hid hpk
      have HD := Lib.hid hdrop
      have HDL := Lib.hid hdl
      have hll := (Array.getElem?_eq_some_iff.1 hl).1
      have hln := Nat.ne_of_lt hll
      have hkL : k ≤ L.length := by omega
      have hLk : ¬ L.length = k := by omega
      have hck : ¬ c = k := by omega
      clear hget hx how hl hz hp hr hB hps hpk hdrop hdl b1 b2 b5
      go_wp2_with fail
      refine (outer_v p _ HPK.out).mono ?_
      rintro e w1 ⟨rfl, hb1⟩
      replace HL := Lib.hid ((hb1.block _ hll).trans HL.out)
      replace HR := Lib.hid ((hb1.block _ (Array.getElem?_eq_some_iff.1 HR.out).1).trans HR.out)
      have hc9 := (HPS.out k p HG.out).keep (hb1.block b hb)
      have HC9 := Lib.hid hc9
      obtain ⟨d0, d1, d2, d3, d4, d5, d6, d7, d8⟩ := hc9
      obtain ⟨l0, l1, l2, l3⟩ := cells4 HL.out
      have HB1 := Lib.hid hb1
      replace HOW := Lib.hid (own_below HOW.out hb1)
      have hs0 := HBB.out.size
      have hs1 := hb1.size
      have hob := HOW.out.lt
      replace HBB := Lib.hid (HBB.out.trans (hb1.mono HBB.out.size))
      have hll1 : w.heap.size < w1.heap.size := by omega
      have hne1 := Nat.ne_of_lt hll1
      obtain ⟨T, hT⟩ : ∃ T, takeOf p (L.drop (k + 1)) z = T := ⟨_, rfl⟩
      clear hb1 c0 c1 c2 c3 c4 c5 c6 c7 c8
      cases hdn : p.down
      · go_wp2_with fail
        refine (upright_p p _).mono ?_
        rintro e w2 ⟨rfl, rfl⟩
        rw [hdn]
        cases hex : p.ex
        · rw [hex] at d5
          have hT2 : p.need false = T := by rw [← hT]; unfold takeOf; simp [moreOf, hex, hdn]
          go_wp2_with fail
          refine wp_region_grow 11 4 (fun i => decide (i < 13) && i != 10) (by kernel_rfl) (by kernel_rfl) rfl ?_
          iterate 11 (refine wpG_step (fun K hK => ?_); apply Exists.intro; refine ⟨.inl ⟨rfl, fun w' hw' => ?_⟩, ?_⟩; (focus ((obtain ⟨hc, hf⟩ := bcell hw'.out); (have hcS := bcellS hw'.out); go_simp <;> first | rfl | (go_at_call 74; exact scut_v z p.s T _ HZ.out b3 b4 (by omega)))); (go_simp; refine hK _ ?_; clear hK K))
          refine wpG_nil ?_
          refine wpK_allocs (i := 11) (j := 12) (Oi := (.cells #[.int .i64 0, .int .i64 0, .int .i64 0, .int .i64 0] 42 (0, 0))) (Oj := (.cells #[.int .i64 0, .int .i64 0, .int .i64 0, .int .i64 0] 42 (0, 0))) (by kernel_rfl) (by kernel_rfl) (by kernel_rfl) rfl rfl rfl rfl (by kernel_rfl) (by kernel_rfl) (by kernel_rfl) (by decide) (by intro d h1 h2; cases h1; cases h2) (fun a' w' K hK => ?_) (fun a' w' K hK => ?_) (fun bx by_ w2 hg2 hxy hxl hyl hx hy => ?_)
          · go_simp; exact hK
          · go_simp; exact hK
          refine wpK_tail (by kernel_rfl) (fun w3 hg3 => ?_)
          have hB3 : Below w1.heap.size w1 w3 := (bgrow (Below.drew (Below.refl _ _)) hg2).trans (hg3.out.mono hg2.out.size)
          replace hx := (hg3.out.block _ (Array.getElem?_eq_some_iff.1 hx).1).trans hx
          replace hy := (hg3.out.block _ (Array.getElem?_eq_some_iff.1 hy).1).trans hy
          have hxl2 : w1.heap.size ≤ bx := hxl
          have hyl2 : w1.heap.size ≤ by_ := hyl
          clear hg3 hg2 hxl hyl
          obtain ⟨x0, x1, x2, x3⟩ := cells4 hx
          obtain ⟨y0, y1, y2, y3⟩ := cells4 hy
          have g0 := frozenH hx 0
          have g1 := frozenH hx 1
          have g2 := frozenH hx 2
          have g3 := frozenH hx 3
          have k0 := frozenH hy 0
          have k1 := frozenH hy 1
          have k2 := frozenH hy 2
          have k3 := frozenH hy 3
          have hyx : by_ ≠ bx := Ne.symm hxy
          obtain ⟨P, hP⟩ : ∃ P, cutP z p.s T = P := ⟨_, rfl⟩
          obtain ⟨hst1, hst2⟩ := parcM_step HG.out HP.out
          have hok2 := cutP_ok (s := p.s) (n := takeOf p (L.drop (k + 1)) z) HZ.out tk1
          rw [hT, hP] at hst1 hst2 hok2
          rw [hP]
          refine wpAny_one (i := 13) (by kernel_rfl) rfl rfl ?_
          go_simp
          refine wpAny_one (i := 14) (by kernel_rfl) rfl rfl ?_
          go_simp
          refine wpAny_end (by kernel_rfl) ?_
          have F1 := (pput4o (b := by_) (b' := bx) hxy 0 1 2 3 (.int .i64 P.2.x) (.int .i64 P.2.y) (.int .i64 P.2.u) (.int .i64 P.2.v)).trans (pput4z hx (.int .i64 P.1.x) (.int .i64 P.1.y) (.int .i64 P.1.u) (.int .i64 P.1.v))
          have F2 := pput4z ((pput4o (b := bx) (b' := by_) hyx 0 1 2 3 (.int .i64 P.1.x) (.int .i64 P.1.y) (.int .i64 P.1.u) (.int .i64 P.1.v)).trans hy) (.int .i64 P.2.x) (.int .i64 P.2.y) (.int .i64 P.2.u) (.int .i64 P.2.v)
          have F3 := pput4b (pput4b hB3 hxl2 0 1 2 3 (.int .i64 P.1.x) (.int .i64 P.1.y) (.int .i64 P.1.u) (.int .i64 P.1.v)) hyl2 0 1 2 3 (.int .i64 P.2.x) (.int .i64 P.2.y) (.int .i64 P.2.u) (.int .i64 P.2.v)
          refine NoPan.gen (fun W => W.heap[bx]? = some (.cells #[.int .i64 P.1.x, .int .i64 P.1.y, .int .i64 P.1.u, .int .i64 P.1.v] 42 (0, 0)) ∧ W.heap[by_]? = some (.cells #[.int .i64 P.2.x, .int .i64 P.2.y, .int .i64 P.2.u, .int .i64 P.2.v] 42 (0, 0)) ∧ Below w1.heap.size w1 W) ⟨F1, F2, F3⟩ ?_
          clear F1 F2 F3 hB3 hx hy x0 x1 x2 x3 y0 y1 y2 y3 g0 g1 g2 g3 k0 k1 k2 k3
          rintro W ⟨hx, hy, hBW⟩
          obtain ⟨x0, x1, x2, x3⟩ := cells4 hx
          have hwr1 : w.heap.size + 1 < w1.heap.size := (Array.getElem?_eq_some_iff.1 HR.out).1
          have hsW := hBW.size
          replace HOW := Lib.hid (own_below HOW.out hBW)
          replace HL := Lib.hid ((hBW.block _ hll1).trans HL.out)
          replace HR := Lib.hid ((hBW.block _ hwr1).trans HR.out)
          replace HBB := Lib.hid (HBB.out.trans (hBW.mono (by omega)))
          have hW0 : w.heap.size < W.heap.size := by omega
          have hWx : bx < W.heap.size := (Array.getElem?_eq_some_iff.1 hx).1
          have hWy : by_ < W.heap.size := (Array.getElem?_eq_some_iff.1 hy).1
          have HX1 := Lib.hid hx
          have HY1 := Lib.hid hy
          have HPP := Lib.hid hP
          clear hx hy hBW hP d0 d1 d2 d3 d4 d5 d6 d7 d8 l0 l1 l2 l3
          go_wp2_with (at_builtin; refine wpList_append_own _ rfl _ _ 37 rfl (w.heap.size + 1 + 1) 42 ti tz 4 32 Try.underlying37 ti1 ti2 ti3 ti4 ti5 (by decide) _ _ _ rfl (HOW.out.alloc _) ⟨W.heap.size, 0, none⟩ 1 1 (vals4 P.1) rfl rfl (new4 _ _ _) (vals4_one _) (by simp only [maxLen]; omega) (by omega) (by simp; omega) ?_)
          intro v5 w5 how5 hgr5 _
          obtain ⟨hst, hbl⟩ := grown_old hgr5 hob
          have hs5 := hgr5.size
          simp only [World.size_alloc] at hs5
          have HL5 := Lib.hid ((hst _ hW0 (by omega)).trans HL.out)
          have HR5 := Lib.hid ((hst _ (by omega) (by omega)).trans HR.out)
          have hy5 := (hst _ hWy (by omega)).trans HY1.out
          have HB5 := Lib.hid (hbl _ _ HBB.out (by omega) (by omega))
          clear HL HR HBB HX1 HY1 hst hbl hgr5 hob x0 x1 x2 x3
          rw [rvals_succ hst1] at how5
          have HOW5 := Lib.hid how5
          obtain ⟨y0, y1, y2, y3⟩ := cells4 hy5
          obtain ⟨l0, l1, l2, l3⟩ := cells4 HL5.out
          have g0 := frozenH HL5.out 0
          have g1 := frozenH HL5.out 1
          have g2 := frozenH HL5.out 2
          have g3 := frozenH HL5.out 3
          have E1 := Lib.hid (own_set4 HOW5.out (b := w.heap.size) (by omega) 0 1 2 3 (.int .i64 P.2.x) (.int .i64 P.2.y) (.int .i64 P.2.u) (.int .i64 P.2.v))
          have E2 := Lib.hid (pput4z HL5.out (.int .i64 P.2.x) (.int .i64 P.2.y) (.int .i64 P.2.u) (.int .i64 P.2.v))
          have E3 := Lib.hid ((pput4o (b := w.heap.size) (b' := w.heap.size + 1) (by omega) 0 1 2 3 (.int .i64 P.2.x) (.int .i64 P.2.y) (.int .i64 P.2.u) (.int .i64 P.2.v)).trans HR5.out)
          have E4 := Lib.hid (pput4b HB5.out (b := w.heap.size) (by omega) 0 1 2 3 (.int .i64 P.2.x) (.int .i64 P.2.y) (.int .i64 P.2.u) (.int .i64 P.2.v))
          clear how5 hy5
          go_wp2
          go_roundw
          case rel => exact ⟨k + 1, by omega, by go_num, E1.out, ⟨P.2, E2.out, hok2.2, hst2⟩, E3.out, E4.out⟩
          case measure => simp [intOf]; omega
        · rw [hex] at d5
          have hT2 : IntKind.i64.wrap (p.need false + shareGo (L.drop k) false z.u z.u 0) = T := by
            have e : p.need false + shareGo (L.drop k) false z.u z.u 0 = T := by rw [HD.out, ← hT]; unfold takeOf; simp [moreOf, hex, hdn, Rc.size]
            rw [IntWalk.i64_in _ (by rw [e, ← hT]; omega)]; exact e
          have hzb : 0 ≤ z.u ∧ z.u ≤ 400 := by have := Rc.size_bd HZ.out false; simpa [Rc.size] using this
          go_wp2_with fail
          refine (share_n (some ⟨b, off + k * 9, none⟩) (c - k) (L.length - k) (L.drop k) z.u false w1 HDL.out ((PV.drop HPS.out hb).keep HB1.out) (vps_drop HVL.out k) p (L.drop (k + 1)) HD.out hdn hex hzb.1 hzb.2).mono ?_
          rintro e w1 ⟨rfl, hb2⟩
          replace HOW := Lib.hid (own_below HOW.out hb2)
          have hsr := HB1.out.size
          have hs2 := hb2.size
          have hc9 := HC9.out.keep (hb2.block b (by omega))
          replace HL := Lib.hid ((hb2.block _ hll1).trans HL.out)
          replace HR := Lib.hid ((hb2.block _ (Array.getElem?_eq_some_iff.1 HR.out).1).trans HR.out)
          replace HBB := Lib.hid (HBB.out.trans (hb2.mono HBB.out.size))
          replace hob := HOW.out.lt
          replace hll1 : w.heap.size < w1.heap.size := by omega
          clear d0 d1 d2 d3 d4 d5 d6 d7 d8 l0 l1 l2 l3 hne1 HC9 HB1 hb2
          replace hne1 := Nat.ne_of_lt hll1
          obtain ⟨d0, d1, d2, d3, d4, d5, d6, d7, d8⟩ := hc9
          obtain ⟨l0, l1, l2, l3⟩ := cells4 HL.out
          rw [hex] at d5
          go_wp2_with fail
          refine wp_region_grow 11 4 (fun i => decide (i < 13) && i != 10) (by kernel_rfl) (by kernel_rfl) rfl ?_
          iterate 11 (refine wpG_step (fun K hK => ?_); apply Exists.intro; refine ⟨.inl ⟨rfl, fun w' hw' => ?_⟩, ?_⟩; (focus ((obtain ⟨hc, hf⟩ := bcell hw'.out); (have hcS := bcellS hw'.out); go_simp <;> first | rfl | (go_at_call 74; exact scut_v z p.s T _ HZ.out b3 b4 (by omega)))); (go_simp; refine hK _ ?_; clear hK K))
          refine wpG_nil ?_
          refine wpK_allocs (i := 11) (j := 12) (Oi := (.cells #[.int .i64 0, .int .i64 0, .int .i64 0, .int .i64 0] 42 (0, 0))) (Oj := (.cells #[.int .i64 0, .int .i64 0, .int .i64 0, .int .i64 0] 42 (0, 0))) (by kernel_rfl) (by kernel_rfl) (by kernel_rfl) rfl rfl rfl rfl (by kernel_rfl) (by kernel_rfl) (by kernel_rfl) (by decide) (by intro d h1 h2; cases h1; cases h2) (fun a' w' K hK => ?_) (fun a' w' K hK => ?_) (fun bx by_ w2 hg2 hxy hxl hyl hx hy => ?_)
          · go_simp; exact hK
          · go_simp; exact hK
          refine wpK_tail (by kernel_rfl) (fun w3 hg3 => ?_)
          have hB3 : Below w1.heap.size w1 w3 := (bgrow (Below.drew (Below.refl _ _)) hg2).trans (hg3.out.mono hg2.out.size)
          replace hx := (hg3.out.block _ (Array.getElem?_eq_some_iff.1 hx).1).trans hx
          replace hy := (hg3.out.block _ (Array.getElem?_eq_some_iff.1 hy).1).trans hy
          have hxl2 : w1.heap.size ≤ bx := hxl
          have hyl2 : w1.heap.size ≤ by_ := hyl
          clear hg3 hg2 hxl hyl
          obtain ⟨x0, x1, x2, x3⟩ := cells4 hx
          obtain ⟨y0, y1, y2, y3⟩ := cells4 hy
          have g0 := frozenH hx 0
          have g1 := frozenH hx 1
          have g2 := frozenH hx 2
          have g3 := frozenH hx 3
          have k0 := frozenH hy 0
          have k1 := frozenH hy 1
          have k2 := frozenH hy 2
          have k3 := frozenH hy 3
          have hyx : by_ ≠ bx := Ne.symm hxy
          obtain ⟨P, hP⟩ : ∃ P, cutP z p.s T = P := ⟨_, rfl⟩
          obtain ⟨hst1, hst2⟩ := parcM_step HG.out HP.out
          have hok2 := cutP_ok (s := p.s) (n := takeOf p (L.drop (k + 1)) z) HZ.out tk1
          rw [hT, hP] at hst1 hst2 hok2
          rw [hP]
          refine wpAny_one (i := 13) (by kernel_rfl) rfl rfl ?_
          go_simp
          refine wpAny_one (i := 14) (by kernel_rfl) rfl rfl ?_
          go_simp
          refine wpAny_end (by kernel_rfl) ?_
          have F1 := (pput4o (b := by_) (b' := bx) hxy 0 1 2 3 (.int .i64 P.2.x) (.int .i64 P.2.y) (.int .i64 P.2.u) (.int .i64 P.2.v)).trans (pput4z hx (.int .i64 P.1.x) (.int .i64 P.1.y) (.int .i64 P.1.u) (.int .i64 P.1.v))
          have F2 := pput4z ((pput4o (b := bx) (b' := by_) hyx 0 1 2 3 (.int .i64 P.1.x) (.int .i64 P.1.y) (.int .i64 P.1.u) (.int .i64 P.1.v)).trans hy) (.int .i64 P.2.x) (.int .i64 P.2.y) (.int .i64 P.2.u) (.int .i64 P.2.v)
          have F3 := pput4b (pput4b hB3 hxl2 0 1 2 3 (.int .i64 P.1.x) (.int .i64 P.1.y) (.int .i64 P.1.u) (.int .i64 P.1.v)) hyl2 0 1 2 3 (.int .i64 P.2.x) (.int .i64 P.2.y) (.int .i64 P.2.u) (.int .i64 P.2.v)
          refine NoPan.gen (fun W => W.heap[bx]? = some (.cells #[.int .i64 P.1.x, .int .i64 P.1.y, .int .i64 P.1.u, .int .i64 P.1.v] 42 (0, 0)) ∧ W.heap[by_]? = some (.cells #[.int .i64 P.2.x, .int .i64 P.2.y, .int .i64 P.2.u, .int .i64 P.2.v] 42 (0, 0)) ∧ Below w1.heap.size w1 W) ⟨F1, F2, F3⟩ ?_
          clear F1 F2 F3 hB3 hx hy x0 x1 x2 x3 y0 y1 y2 y3 g0 g1 g2 g3 k0 k1 k2 k3
          rintro W ⟨hx, hy, hBW⟩
          obtain ⟨x0, x1, x2, x3⟩ := cells4 hx
          have hwr1 : w.heap.size + 1 < w1.heap.size := (Array.getElem?_eq_some_iff.1 HR.out).1
          have hsW := hBW.size
          replace HOW := Lib.hid (own_below HOW.out hBW)
          replace HL := Lib.hid ((hBW.block _ hll1).trans HL.out)
          replace HR := Lib.hid ((hBW.block _ hwr1).trans HR.out)
          replace HBB := Lib.hid (HBB.out.trans (hBW.mono (by omega)))
          have hW0 : w.heap.size < W.heap.size := by omega
          have hWx : bx < W.heap.size := (Array.getElem?_eq_some_iff.1 hx).1
          have hWy : by_ < W.heap.size := (Array.getElem?_eq_some_iff.1 hy).1
          have HX1 := Lib.hid hx
          have HY1 := Lib.hid hy
          have HPP := Lib.hid hP
          clear hx hy hBW hP d0 d1 d2 d3 d4 d5 d6 d7 d8 l0 l1 l2 l3
          go_wp2_with (at_builtin; refine wpList_append_own _ rfl _ _ 37 rfl (w.heap.size + 1 + 1) 42 ti tz 4 32 Try.underlying37 ti1 ti2 ti3 ti4 ti5 (by decide) _ _ _ rfl (HOW.out.alloc _) ⟨W.heap.size, 0, none⟩ 1 1 (vals4 P.1) rfl rfl (new4 _ _ _) (vals4_one _) (by simp only [maxLen]; omega) (by omega) (by simp; omega) ?_)
          intro v5 w5 how5 hgr5 _
          obtain ⟨hst, hbl⟩ := grown_old hgr5 hob
          have hs5 := hgr5.size
          simp only [World.size_alloc] at hs5
          have HL5 := Lib.hid ((hst _ hW0 (by omega)).trans HL.out)
          have HR5 := Lib.hid ((hst _ (by omega) (by omega)).trans HR.out)
          have hy5 := (hst _ hWy (by omega)).trans HY1.out
          have HB5 := Lib.hid (hbl _ _ HBB.out (by omega) (by omega))
          clear HL HR HBB HX1 HY1 hst hbl hgr5 hob x0 x1 x2 x3
          rw [rvals_succ hst1] at how5
          have HOW5 := Lib.hid how5
          obtain ⟨y0, y1, y2, y3⟩ := cells4 hy5
          obtain ⟨l0, l1, l2, l3⟩ := cells4 HL5.out
          have g0 := frozenH HL5.out 0
          have g1 := frozenH HL5.out 1
          have g2 := frozenH HL5.out 2
          have g3 := frozenH HL5.out 3
          have E1 := Lib.hid (own_set4 HOW5.out (b := w.heap.size) (by omega) 0 1 2 3 (.int .i64 P.2.x) (.int .i64 P.2.y) (.int .i64 P.2.u) (.int .i64 P.2.v))
          have E2 := Lib.hid (pput4z HL5.out (.int .i64 P.2.x) (.int .i64 P.2.y) (.int .i64 P.2.u) (.int .i64 P.2.v))
          have E3 := Lib.hid ((pput4o (b := w.heap.size) (b' := w.heap.size + 1) (by omega) 0 1 2 3 (.int .i64 P.2.x) (.int .i64 P.2.y) (.int .i64 P.2.u) (.int .i64 P.2.v)).trans HR5.out)
          have E4 := Lib.hid (pput4b HB5.out (b := w.heap.size) (by omega) 0 1 2 3 (.int .i64 P.2.x) (.int .i64 P.2.y) (.int .i64 P.2.u) (.int .i64 P.2.v))
          clear how5 hy5
          go_wp2
          go_roundw
          case rel => exact ⟨k + 1, by omega, by go_num, E1.out, ⟨P.2, E2.out, hok2.2, hst2⟩, E3.out, E4.out⟩
          case measure => simp [intOf]; omega
      · go_wp2_with fail
        refine (upright_p p _).mono ?_
        rintro e w2 ⟨rfl, rfl⟩
        rw [hdn]
        cases hex : p.ex
        · rw [hex] at d5
          have hT2 : p.need true = T := by rw [← hT]; unfold takeOf; simp [moreOf, hex, hdn]
          go_wp2_with fail
          refine wp_region_grow 11 4 (fun i => decide (i < 13) && i != 10) (by kernel_rfl) (by kernel_rfl) rfl ?_
          iterate 11 (refine wpG_step (fun K hK => ?_); apply Exists.intro; refine ⟨.inl ⟨rfl, fun w' hw' => ?_⟩, ?_⟩; (focus ((obtain ⟨hc, hf⟩ := bcell hw'.out); (have hcS := bcellS hw'.out); go_simp <;> first | rfl | (go_at_call 74; exact scut_v z p.s T _ HZ.out b3 b4 (by omega)))); (go_simp; refine hK _ ?_; clear hK K))
          refine wpG_nil ?_
          refine wpK_allocs (i := 11) (j := 12) (Oi := (.cells #[.int .i64 0, .int .i64 0, .int .i64 0, .int .i64 0] 42 (0, 0))) (Oj := (.cells #[.int .i64 0, .int .i64 0, .int .i64 0, .int .i64 0] 42 (0, 0))) (by kernel_rfl) (by kernel_rfl) (by kernel_rfl) rfl rfl rfl rfl (by kernel_rfl) (by kernel_rfl) (by kernel_rfl) (by decide) (by intro d h1 h2; cases h1; cases h2) (fun a' w' K hK => ?_) (fun a' w' K hK => ?_) (fun bx by_ w2 hg2 hxy hxl hyl hx hy => ?_)
          · go_simp; exact hK
          · go_simp; exact hK
          refine wpK_tail (by kernel_rfl) (fun w3 hg3 => ?_)
          have hB3 : Below w1.heap.size w1 w3 := (bgrow (Below.drew (Below.refl _ _)) hg2).trans (hg3.out.mono hg2.out.size)
          replace hx := (hg3.out.block _ (Array.getElem?_eq_some_iff.1 hx).1).trans hx
          replace hy := (hg3.out.block _ (Array.getElem?_eq_some_iff.1 hy).1).trans hy
          have hxl2 : w1.heap.size ≤ bx := hxl
          have hyl2 : w1.heap.size ≤ by_ := hyl
          clear hg3 hg2 hxl hyl
          obtain ⟨x0, x1, x2, x3⟩ := cells4 hx
          obtain ⟨y0, y1, y2, y3⟩ := cells4 hy
          have g0 := frozenH hx 0
          have g1 := frozenH hx 1
          have g2 := frozenH hx 2
          have g3 := frozenH hx 3
          have k0 := frozenH hy 0
          have k1 := frozenH hy 1
          have k2 := frozenH hy 2
          have k3 := frozenH hy 3
          have hyx : by_ ≠ bx := Ne.symm hxy
          obtain ⟨P, hP⟩ : ∃ P, cutP z p.s T = P := ⟨_, rfl⟩
          obtain ⟨hst1, hst2⟩ := parcM_step HG.out HP.out
          have hok2 := cutP_ok (s := p.s) (n := takeOf p (L.drop (k + 1)) z) HZ.out tk1
          rw [hT, hP] at hst1 hst2 hok2
          rw [hP]
          refine wpAny_one (i := 13) (by kernel_rfl) rfl rfl ?_
          go_simp
          refine wpAny_one (i := 14) (by kernel_rfl) rfl rfl ?_
          go_simp
          refine wpAny_end (by kernel_rfl) ?_
          have F1 := (pput4o (b := by_) (b' := bx) hxy 0 1 2 3 (.int .i64 P.2.x) (.int .i64 P.2.y) (.int .i64 P.2.u) (.int .i64 P.2.v)).trans (pput4z hx (.int .i64 P.1.x) (.int .i64 P.1.y) (.int .i64 P.1.u) (.int .i64 P.1.v))
          have F2 := pput4z ((pput4o (b := bx) (b' := by_) hyx 0 1 2 3 (.int .i64 P.1.x) (.int .i64 P.1.y) (.int .i64 P.1.u) (.int .i64 P.1.v)).trans hy) (.int .i64 P.2.x) (.int .i64 P.2.y) (.int .i64 P.2.u) (.int .i64 P.2.v)
          have F3 := pput4b (pput4b hB3 hxl2 0 1 2 3 (.int .i64 P.1.x) (.int .i64 P.1.y) (.int .i64 P.1.u) (.int .i64 P.1.v)) hyl2 0 1 2 3 (.int .i64 P.2.x) (.int .i64 P.2.y) (.int .i64 P.2.u) (.int .i64 P.2.v)
          refine NoPan.gen (fun W => W.heap[bx]? = some (.cells #[.int .i64 P.1.x, .int .i64 P.1.y, .int .i64 P.1.u, .int .i64 P.1.v] 42 (0, 0)) ∧ W.heap[by_]? = some (.cells #[.int .i64 P.2.x, .int .i64 P.2.y, .int .i64 P.2.u, .int .i64 P.2.v] 42 (0, 0)) ∧ Below w1.heap.size w1 W) ⟨F1, F2, F3⟩ ?_
          clear F1 F2 F3 hB3 hx hy x0 x1 x2 x3 y0 y1 y2 y3 g0 g1 g2 g3 k0 k1 k2 k3
          rintro W ⟨hx, hy, hBW⟩
          obtain ⟨x0, x1, x2, x3⟩ := cells4 hx
          have hwr1 : w.heap.size + 1 < w1.heap.size := (Array.getElem?_eq_some_iff.1 HR.out).1
          have hsW := hBW.size
          replace HOW := Lib.hid (own_below HOW.out hBW)
          replace HL := Lib.hid ((hBW.block _ hll1).trans HL.out)
          replace HR := Lib.hid ((hBW.block _ hwr1).trans HR.out)
          replace HBB := Lib.hid (HBB.out.trans (hBW.mono (by omega)))
          have hW0 : w.heap.size < W.heap.size := by omega
          have hWx : bx < W.heap.size := (Array.getElem?_eq_some_iff.1 hx).1
          have hWy : by_ < W.heap.size := (Array.getElem?_eq_some_iff.1 hy).1
          have HX1 := Lib.hid hx
          have HY1 := Lib.hid hy
          have HPP := Lib.hid hP
          clear hx hy hBW hP d0 d1 d2 d3 d4 d5 d6 d7 d8 l0 l1 l2 l3
          go_wp2_with (at_builtin; refine wpList_append_own _ rfl _ _ 37 rfl (w.heap.size + 1 + 1) 42 ti tz 4 32 Try.underlying37 ti1 ti2 ti3 ti4 ti5 (by decide) _ _ _ rfl (HOW.out.alloc _) ⟨W.heap.size, 0, none⟩ 1 1 (vals4 P.1) rfl rfl (new4 _ _ _) (vals4_one _) (by simp only [maxLen]; omega) (by omega) (by simp; omega) ?_)
          intro v5 w5 how5 hgr5 _
          obtain ⟨hst, hbl⟩ := grown_old hgr5 hob
          have hs5 := hgr5.size
          simp only [World.size_alloc] at hs5
          have HL5 := Lib.hid ((hst _ hW0 (by omega)).trans HL.out)
          have HR5 := Lib.hid ((hst _ (by omega) (by omega)).trans HR.out)
          have hy5 := (hst _ hWy (by omega)).trans HY1.out
          have HB5 := Lib.hid (hbl _ _ HBB.out (by omega) (by omega))
          clear HL HR HBB HX1 HY1 hst hbl hgr5 hob x0 x1 x2 x3
          rw [rvals_succ hst1] at how5
          have HOW5 := Lib.hid how5
          obtain ⟨y0, y1, y2, y3⟩ := cells4 hy5
          obtain ⟨l0, l1, l2, l3⟩ := cells4 HL5.out
          have g0 := frozenH HL5.out 0
          have g1 := frozenH HL5.out 1
          have g2 := frozenH HL5.out 2
          have g3 := frozenH HL5.out 3
          have E1 := Lib.hid (own_set4 HOW5.out (b := w.heap.size) (by omega) 0 1 2 3 (.int .i64 P.2.x) (.int .i64 P.2.y) (.int .i64 P.2.u) (.int .i64 P.2.v))
          have E2 := Lib.hid (pput4z HL5.out (.int .i64 P.2.x) (.int .i64 P.2.y) (.int .i64 P.2.u) (.int .i64 P.2.v))
          have E3 := Lib.hid ((pput4o (b := w.heap.size) (b' := w.heap.size + 1) (by omega) 0 1 2 3 (.int .i64 P.2.x) (.int .i64 P.2.y) (.int .i64 P.2.u) (.int .i64 P.2.v)).trans HR5.out)
          have E4 := Lib.hid (pput4b HB5.out (b := w.heap.size) (by omega) 0 1 2 3 (.int .i64 P.2.x) (.int .i64 P.2.y) (.int .i64 P.2.u) (.int .i64 P.2.v))
          clear how5 hy5
          go_wp2
          go_roundw
          case rel => exact ⟨k + 1, by omega, by go_num, E1.out, ⟨P.2, E2.out, hok2.2, hst2⟩, E3.out, E4.out⟩
          case measure => simp [intOf]; omega
        · rw [hex] at d5
          have hT2 : IntKind.i64.wrap (p.need true + shareGo (L.drop k) true z.v z.v 0) = T := by
            have e : p.need true + shareGo (L.drop k) true z.v z.v 0 = T := by rw [HD.out, ← hT]; unfold takeOf; simp [moreOf, hex, hdn, Rc.size]
            rw [IntWalk.i64_in _ (by rw [e, ← hT]; omega)]; exact e
          have hzb : 0 ≤ z.v ∧ z.v ≤ 400 := by have := Rc.size_bd HZ.out true; simpa [Rc.size] using this
          go_wp2_with fail
          refine (share_n (some ⟨b, off + k * 9, none⟩) (c - k) (L.length - k) (L.drop k) z.v true w1 HDL.out ((PV.drop HPS.out hb).keep HB1.out) (vps_drop HVL.out k) p (L.drop (k + 1)) HD.out hdn hex hzb.1 hzb.2).mono ?_
          rintro e w1 ⟨rfl, hb2⟩
          replace HOW := Lib.hid (own_below HOW.out hb2)
          have hsr := HB1.out.size
          have hs2 := hb2.size
          have hc9 := HC9.out.keep (hb2.block b (by omega))
          replace HL := Lib.hid ((hb2.block _ hll1).trans HL.out)
          replace HR := Lib.hid ((hb2.block _ (Array.getElem?_eq_some_iff.1 HR.out).1).trans HR.out)
          replace HBB := Lib.hid (HBB.out.trans (hb2.mono HBB.out.size))
          replace hob := HOW.out.lt
          replace hll1 : w.heap.size < w1.heap.size := by omega
          clear d0 d1 d2 d3 d4 d5 d6 d7 d8 l0 l1 l2 l3 hne1 HC9 HB1 hb2
          replace hne1 := Nat.ne_of_lt hll1
          obtain ⟨d0, d1, d2, d3, d4, d5, d6, d7, d8⟩ := hc9
          obtain ⟨l0, l1, l2, l3⟩ := cells4 HL.out
          rw [hex] at d5
          go_wp2_with fail
          refine wp_region_grow 11 4 (fun i => decide (i < 13) && i != 10) (by kernel_rfl) (by kernel_rfl) rfl ?_
          iterate 11 (refine wpG_step (fun K hK => ?_); apply Exists.intro; refine ⟨.inl ⟨rfl, fun w' hw' => ?_⟩, ?_⟩; (focus ((obtain ⟨hc, hf⟩ := bcell hw'.out); (have hcS := bcellS hw'.out); go_simp <;> first | rfl | (go_at_call 74; exact scut_v z p.s T _ HZ.out b3 b4 (by omega)))); (go_simp; refine hK _ ?_; clear hK K))
          refine wpG_nil ?_
          refine wpK_allocs (i := 11) (j := 12) (Oi := (.cells #[.int .i64 0, .int .i64 0, .int .i64 0, .int .i64 0] 42 (0, 0))) (Oj := (.cells #[.int .i64 0, .int .i64 0, .int .i64 0, .int .i64 0] 42 (0, 0))) (by kernel_rfl) (by kernel_rfl) (by kernel_rfl) rfl rfl rfl rfl (by kernel_rfl) (by kernel_rfl) (by kernel_rfl) (by decide) (by intro d h1 h2; cases h1; cases h2) (fun a' w' K hK => ?_) (fun a' w' K hK => ?_) (fun bx by_ w2 hg2 hxy hxl hyl hx hy => ?_)
          · go_simp; exact hK
          · go_simp; exact hK
          refine wpK_tail (by kernel_rfl) (fun w3 hg3 => ?_)
          have hB3 : Below w1.heap.size w1 w3 := (bgrow (Below.drew (Below.refl _ _)) hg2).trans (hg3.out.mono hg2.out.size)
          replace hx := (hg3.out.block _ (Array.getElem?_eq_some_iff.1 hx).1).trans hx
          replace hy := (hg3.out.block _ (Array.getElem?_eq_some_iff.1 hy).1).trans hy
          have hxl2 : w1.heap.size ≤ bx := hxl
          have hyl2 : w1.heap.size ≤ by_ := hyl
          clear hg3 hg2 hxl hyl
          obtain ⟨x0, x1, x2, x3⟩ := cells4 hx
          obtain ⟨y0, y1, y2, y3⟩ := cells4 hy
          have g0 := frozenH hx 0
          have g1 := frozenH hx 1
          have g2 := frozenH hx 2
          have g3 := frozenH hx 3
          have k0 := frozenH hy 0
          have k1 := frozenH hy 1
          have k2 := frozenH hy 2
          have k3 := frozenH hy 3
          have hyx : by_ ≠ bx := Ne.symm hxy
          obtain ⟨P, hP⟩ : ∃ P, cutP z p.s T = P := ⟨_, rfl⟩
          obtain ⟨hst1, hst2⟩ := parcM_step HG.out HP.out
          have hok2 := cutP_ok (s := p.s) (n := takeOf p (L.drop (k + 1)) z) HZ.out tk1
          rw [hT, hP] at hst1 hst2 hok2
          rw [hP]
          refine wpAny_one (i := 13) (by kernel_rfl) rfl rfl ?_
          go_simp
          refine wpAny_one (i := 14) (by kernel_rfl) rfl rfl ?_
          go_simp
          refine wpAny_end (by kernel_rfl) ?_
          have F1 := (pput4o (b := by_) (b' := bx) hxy 0 1 2 3 (.int .i64 P.2.x) (.int .i64 P.2.y) (.int .i64 P.2.u) (.int .i64 P.2.v)).trans (pput4z hx (.int .i64 P.1.x) (.int .i64 P.1.y) (.int .i64 P.1.u) (.int .i64 P.1.v))
          have F2 := pput4z ((pput4o (b := bx) (b' := by_) hyx 0 1 2 3 (.int .i64 P.1.x) (.int .i64 P.1.y) (.int .i64 P.1.u) (.int .i64 P.1.v)).trans hy) (.int .i64 P.2.x) (.int .i64 P.2.y) (.int .i64 P.2.u) (.int .i64 P.2.v)
          have F3 := pput4b (pput4b hB3 hxl2 0 1 2 3 (.int .i64 P.1.x) (.int .i64 P.1.y) (.int .i64 P.1.u) (.int .i64 P.1.v)) hyl2 0 1 2 3 (.int .i64 P.2.x) (.int .i64 P.2.y) (.int .i64 P.2.u) (.int .i64 P.2.v)
          refine NoPan.gen (fun W => W.heap[bx]? = some (.cells #[.int .i64 P.1.x, .int .i64 P.1.y, .int .i64 P.1.u, .int .i64 P.1.v] 42 (0, 0)) ∧ W.heap[by_]? = some (.cells #[.int .i64 P.2.x, .int .i64 P.2.y, .int .i64 P.2.u, .int .i64 P.2.v] 42 (0, 0)) ∧ Below w1.heap.size w1 W) ⟨F1, F2, F3⟩ ?_
          clear F1 F2 F3 hB3 hx hy x0 x1 x2 x3 y0 y1 y2 y3 g0 g1 g2 g3 k0 k1 k2 k3
          rintro W ⟨hx, hy, hBW⟩
          obtain ⟨x0, x1, x2, x3⟩ := cells4 hx
          have hwr1 : w.heap.size + 1 < w1.heap.size := (Array.getElem?_eq_some_iff.1 HR.out).1
          have hsW := hBW.size
          replace HOW := Lib.hid (own_below HOW.out hBW)
          replace HL := Lib.hid ((hBW.block _ hll1).trans HL.out)
          replace HR := Lib.hid ((hBW.block _ hwr1).trans HR.out)
          replace HBB := Lib.hid (HBB.out.trans (hBW.mono (by omega)))
          have hW0 : w.heap.size < W.heap.size := by omega
          have hWx : bx < W.heap.size := (Array.getElem?_eq_some_iff.1 hx).1
          have hWy : by_ < W.heap.size := (Array.getElem?_eq_some_iff.1 hy).1
          have HX1 := Lib.hid hx
          have HY1 := Lib.hid hy
          have HPP := Lib.hid hP
          clear hx hy hBW hP d0 d1 d2 d3 d4 d5 d6 d7 d8 l0 l1 l2 l3
          go_wp2_with (at_builtin; refine wpList_append_own _ rfl _ _ 37 rfl (w.heap.size + 1 + 1) 42 ti tz 4 32 Try.underlying37 ti1 ti2 ti3 ti4 ti5 (by decide) _ _ _ rfl (HOW.out.alloc _) ⟨W.heap.size, 0, none⟩ 1 1 (vals4 P.1) rfl rfl (new4 _ _ _) (vals4_one _) (by simp only [maxLen]; omega) (by omega) (by simp; omega) ?_)
          intro v5 w5 how5 hgr5 _
          obtain ⟨hst, hbl⟩ := grown_old hgr5 hob
          have hs5 := hgr5.size
          simp only [World.size_alloc] at hs5
          have HL5 := Lib.hid ((hst _ hW0 (by omega)).trans HL.out)
          have HR5 := Lib.hid ((hst _ (by omega) (by omega)).trans HR.out)
          have hy5 := (hst _ hWy (by omega)).trans HY1.out
          have HB5 := Lib.hid (hbl _ _ HBB.out (by omega) (by omega))
          clear HL HR HBB HX1 HY1 hst hbl hgr5 hob x0 x1 x2 x3
          rw [rvals_succ hst1] at how5
          have HOW5 := Lib.hid how5
          obtain ⟨y0, y1, y2, y3⟩ := cells4 hy5
          obtain ⟨l0, l1, l2, l3⟩ := cells4 HL5.out
          have g0 := frozenH HL5.out 0
          have g1 := frozenH HL5.out 1
          have g2 := frozenH HL5.out 2
          have g3 := frozenH HL5.out 3
          have E1 := Lib.hid (own_set4 HOW5.out (b := w.heap.size) (by omega) 0 1 2 3 (.int .i64 P.2.x) (.int .i64 P.2.y) (.int .i64 P.2.u) (.int .i64 P.2.v))
          have E2 := Lib.hid (pput4z HL5.out (.int .i64 P.2.x) (.int .i64 P.2.y) (.int .i64 P.2.u) (.int .i64 P.2.v))
          have E3 := Lib.hid ((pput4o (b := w.heap.size) (b' := w.heap.size + 1) (by omega) 0 1 2 3 (.int .i64 P.2.x) (.int .i64 P.2.y) (.int .i64 P.2.u) (.int .i64 P.2.v)).trans HR5.out)
          have E4 := Lib.hid (pput4b HB5.out (b := w.heap.size) (by omega) 0 1 2 3 (.int .i64 P.2.x) (.int .i64 P.2.y) (.int .i64 P.2.u) (.int .i64 P.2.v))
          clear how5 hy5
          go_wp2
          go_roundw
          case rel => exact ⟨k + 1, by omega, by go_num, E1.out, ⟨P.2, E2.out, hok2.2, hst2⟩, E3.out, E4.out⟩
          case measure => simp [intOf]; omega
    · have hd : decide ((k : Int) < (L.length : Int)) = false := by simp; omega
      obtain rfl : k = L.length := by omega
      rw [List.drop_length] at hp
      have hpz : z = Z := by simp only [parcM, Prod.mk.injEq] at hp; exact hp.2
      subst hpz
      rw [← HML.out, List.take_length] at how
      have HOW := Lib.hid how
      have HL := Lib.hid hl
      have HR := Lib.hid hr
      have HBB := Lib.hid hB
      obtain ⟨l0, l1, l2, l3⟩ := cells4 hl
      clear how hl hp hr hB
      obtain ⟨r0, r1, r2, r3⟩ := cells4 HR.out
      have g0 := frozenH HR.out 0
      have g1 := frozenH HR.out 1
      have g2 := frozenH HR.out 2
      have g3 := frozenH HR.out 3
      go_wp2_with fail
      go_region
      go_wp2
      refine bp_genP (fun W => W.heap[w.heap.size + 1]? = some (.cells #[.int .i64 z.x, .int .i64 z.y, .int .i64 z.u, .int .i64 z.v] 42 (0, 0)) ∧ W.ownsRow w.heap.size 42 4 _ M.length (rvals M) ∧ Below w.heap.size w W)
        ⟨pput4z HR.out _ _ _ _, own_mono (own_set4 HOW.out (b := w.heap.size + 1) (by omega) _ _ _ _ _ _ _ _) (by omega), Below.drew (pput4b HBB.out (by omega) _ _ _ _ _ _ _ _)⟩ ?_
      clear HR HL HBB HOW l0 l1 l2 l3 r0 r1 r2 r3 g0 g1 g2 g3
      rintro W ⟨hW, hk2, hB2⟩
      obtain ⟨r0, r1, r2, r3⟩ := cells4 hW
      exact bodyPost_ret (v := .tuple #[_, .agg #[.int .i64 (z.x), .int .i64 (z.y), .int .i64 (z.u), .int .i64 (z.v)]]) (by simp only [results, Try.results49]; go_simp) rfl ⟨⟨_, rfl, hk2⟩, hB2⟩
end Go.Proofs.Ytjdjahckdgbkbab
end
section
namespace Go.Proofs.Ytjdjahckdgbkbab
open Go.RowKit
set_option linter.unusedVariables false
set_option maxHeartbeats 1000000
attribute [local go_sem 5000] run_mx run_mn
def rmB (u v : Int) : Bool := rng u 0 400 && rng v 0 400
theorem rmB_yes {u v : Int} (h : rmB u v = true) : rng u 0 400 = true ∧ rng v 0 400 = true := by simpa [rmB] using h
theorem rmB_no {u v : Int} (h : rmB u v = false) : rng u 0 400 = false ∨ (rng u 0 400 = true ∧ rng v 0 400 = false) := by
  cases h1 : rng u 0 400
  · exact .inl rfl
  · exact .inr ⟨rfl, by simpa [rmB, h1] using h⟩
theorem rmB_ok {u v : Int} (h : rmB u v = true) : (Rc.mk 0 0 u v).ok = true := by
  obtain ⟨h1, h2⟩ := rmB_yes h
  have := rng_iff.1 h1
  have := rng_iff.1 h2
  exact vr_iff.2 (by dsimp only; omega)
theorem validRoom_v (u v : Int) (b : Bool) (w : World) (hb : rmB u v = b) : Calls Try.prog 38 #[.int .i64 u, .int .i64 v] w fun e w' => e = .returned (.bool b) ∧ w' = w := by
  cases b
  · rcases rmB_no hb with h1 | ⟨h1, h2⟩
    · go_enter Try.func38, Try.ntmps38
      go_wp2_with fail
      with_reducible refine (within_v _ _ _ false _ h1).mono ?_
      rintro e w2 ⟨rfl, rfl⟩
      go_wp2
      go_ret
      exact ⟨rfl, rfl⟩
    · go_enter Try.func38, Try.ntmps38
      go_wp2_with fail
      with_reducible refine (within_v _ _ _ true _ h1).mono ?_
      rintro e w2 ⟨rfl, rfl⟩
      go_wp2_with fail
      with_reducible refine (within_v _ _ _ false _ h2).mono ?_
      rintro e w2 ⟨rfl, rfl⟩
      go_wp2
      go_ret
      exact ⟨rfl, rfl⟩
  · obtain ⟨h1, h2⟩ := rmB_yes hb
    go_enter Try.func38, Try.ntmps38
    go_wp2_with fail
    with_reducible refine (within_v _ _ _ true _ h1).mono ?_
    rintro e w2 ⟨rfl, rfl⟩
    go_wp2_with fail
    with_reducible refine (within_v _ _ _ true _ h2).mono ?_
    rintro e w2 ⟨rfl, rfl⟩
    go_wp2
    go_ret
    exact ⟨rfl, rfl⟩
theorem goodRoom_v (u v : Int) (b : Bool) (w : World) (hb : rmB u v = b) : Calls Try.prog 34 #[.int .i64 u, .int .i64 v] w fun e w' => e = .returned (.bool b) ∧ w' = w := by
  cases b
  · rcases rmB_no hb with h1 | ⟨h1, h2⟩
    · go_enter Try.func34, Try.ntmps34
      go_wp2_with fail
      with_reducible refine (inRange_v _ _ _ false _ h1).mono ?_
      rintro e w2 ⟨rfl, rfl⟩
      go_wp2
      go_ret
      exact ⟨rfl, rfl⟩
    · go_enter Try.func34, Try.ntmps34
      go_wp2_with fail
      with_reducible refine (inRange_v _ _ _ true _ h1).mono ?_
      rintro e w2 ⟨rfl, rfl⟩
      go_wp2_with fail
      with_reducible refine (inRange_v _ _ _ false _ h2).mono ?_
      rintro e w2 ⟨rfl, rfl⟩
      go_wp2
      go_ret
      exact ⟨rfl, rfl⟩
  · obtain ⟨h1, h2⟩ := rmB_yes hb
    go_enter Try.func34, Try.ntmps34
    go_wp2_with fail
    with_reducible refine (inRange_v _ _ _ true _ h1).mono ?_
    rintro e w2 ⟨rfl, rfl⟩
    go_wp2_with fail
    with_reducible refine (inRange_v _ _ _ true _ h2).mono ?_
    rintro e w2 ⟨rfl, rfl⟩
    go_wp2
    go_ret
    exact ⟨rfl, rfl⟩
/-! the exported -/
set_option maxRecDepth 100000 in
theorem PackLeft_yes (A : Option Addr) (c : Nat) (L : List Pk) (u v : Int) (w : World) (h : PV w A L) (hcap : L.length ≤ c) (hL : L.length ≤ 1048576) (hv : vpsB L = true) (hr : rmB u v = true) (M : List Rc) (Z : Rc) (hM : parcM L ⟨0, 0, u, v⟩ = (M, Z)) :
    Calls Try.prog 25 #[.slice A L.length c, .int .i64 u, .int .i64 v] w fun e w' => e = .returned (.agg #[.int .i64 (Z.x), .int .i64 (Z.y), .int .i64 (Z.u), .int .i64 (Z.v)]) ∧ Below w.heap.size w w' := by
  have HM := Lib.hid hM
  clear hM
  go_enter Try.func25, Try.ntmps25
  go_wp2_with fail
  with_reducible refine (vps_v _ c L true _ (h.keep (balloc (Below.refl _ _))) hL hv).mono ?_
  rintro e w1 ⟨rfl, hbb⟩
  have HB := Lib.hid (bkeep2 (balloc (Below.refl _ _)) hbb)
  have HX := Lib.hid ((hbb.block w.heap.size (by simp)).trans (heap_new w (.cells #[.int .i64 0, .int .i64 0, .int .i64 0, .int .i64 0] 42 (0, 0))))
  clear hbb
  go_wp2_with fail
  with_reducible refine (validRoom_v _ _ true _ hr).mono ?_
  rintro e w2 ⟨rfl, rfl⟩
  go_wp2_with fail
  refine (packParcels_v A c L ⟨0, 0, u, v⟩ _ (h.keep HB.out) hcap hv (rmB_ok hr) M Z HM.out).mono ?_
  rintro e w3 ⟨⟨g, rfl, hg, hk⟩, hbb⟩
  replace hg := Nat.le_trans HB.out.size hg
  replace HX := Lib.hid ((hbb.block _ (Array.getElem?_eq_some_iff.1 HX.out).1).trans HX.out)
  replace HB := Lib.hid (bkeep2 HB.out hbb)
  clear hbb
  clear hg hk
  have hlt : w.heap.size < w3.heap.size := (Array.getElem?_eq_some_iff.1 HX.out).1
  have hn1 : ¬ w.heap.size = w3.heap.size := by omega
  have hn2 : ¬ w3.heap.size = w.heap.size := by omega
  obtain ⟨x0, x1, x2, x3⟩ := cells4 HX.out
  have g0 := frozenH HX.out 0
  have g1 := frozenH HX.out 1
  have g2 := frozenH HX.out 2
  have g3 := frozenH HX.out 3
  go_wp2
  refine bp_genP (fun W => W.heap[w.heap.size]? = some (.cells #[.int .i64 Z.x, .int .i64 Z.y, .int .i64 Z.u, .int .i64 Z.v] 42 (0, 0)) ∧ Below w.heap.size w W)
    ⟨(Below.heap_alloc _ _ _ (by simpa using hlt)).trans (pput4z HX.out _ _ _ _), balloc (pput4b HB.out (Nat.le_refl _) _ _ _ _ _ _ _ _)⟩ ?_
  clear HX HB x0 x1 x2 x3 g0 g1 g2 g3
  clear hlt hn1 hn2
  rintro W ⟨hW, hB2⟩
  obtain ⟨r0, r1, r2, r3⟩ := cells4 hW
  exact bodyPost_ret (v := .agg #[.int .i64 (Z.x), .int .i64 (Z.y), .int .i64 (Z.u), .int .i64 (Z.v)]) (by simp only [results, Try.results25]; go_simp) rfl ⟨rfl, hB2⟩
set_option maxRecDepth 100000 in
theorem PackLeft_no (A : Option Addr) (c : Nat) (L : List Pk) (u v : Int) (w : World) (h : PV w A L) (hcap : L.length ≤ c) (hL : L.length ≤ 1048576) (hn : vpsB L = false ∨ (vpsB L = true ∧ rmB u v = false)) :
    Calls Try.prog 25 #[.slice A L.length c, .int .i64 u, .int .i64 v] w fun e w' => e = .returned (.agg #[.int .i64 (0), .int .i64 (0), .int .i64 (0), .int .i64 (0)]) ∧ Below w.heap.size w w' := by
  rcases hn with hv | ⟨hv, hr⟩
  · go_enter Try.func25, Try.ntmps25
    go_wp2_with fail
    with_reducible refine (vps_v _ c L false _ (h.keep (balloc (Below.refl _ _))) hL hv).mono ?_
    rintro e w1 ⟨rfl, hbb⟩
    have HB := Lib.hid (bkeep2 (balloc (Below.refl _ _)) hbb)
    have HX := Lib.hid ((hbb.block w.heap.size (by simp)).trans (heap_new w (.cells #[.int .i64 0, .int .i64 0, .int .i64 0, .int .i64 0] 42 (0, 0))))
    clear hbb
    obtain ⟨x0, x1, x2, x3⟩ := cells4 HX.out
    have g0 := frozenH HX.out 0
    have g1 := frozenH HX.out 1
    have g2 := frozenH HX.out 2
    have g3 := frozenH HX.out 3
    go_wp2
    refine bp_genP (fun W => W.heap[w.heap.size]? = some (.cells #[.int .i64 0, .int .i64 0, .int .i64 0, .int .i64 0] 42 (0, 0)) ∧ Below w.heap.size w W)
      ⟨pput4z HX.out _ _ _ _, pput4b HB.out (Nat.le_refl _) _ _ _ _ _ _ _ _⟩ ?_
    clear HX HB x0 x1 x2 x3 g0 g1 g2 g3
    rintro W ⟨hW, hB2⟩
    obtain ⟨r0, r1, r2, r3⟩ := cells4 hW
    exact bodyPost_ret (v := .agg #[.int .i64 (0), .int .i64 (0), .int .i64 (0), .int .i64 (0)]) (by simp only [results, Try.results25]; go_simp) rfl ⟨rfl, hB2⟩
  · go_enter Try.func25, Try.ntmps25
    go_wp2_with fail
    with_reducible refine (vps_v _ c L true _ (h.keep (balloc (Below.refl _ _))) hL hv).mono ?_
    rintro e w1 ⟨rfl, hbb⟩
    have HB := Lib.hid (bkeep2 (balloc (Below.refl _ _)) hbb)
    have HX := Lib.hid ((hbb.block w.heap.size (by simp)).trans (heap_new w (.cells #[.int .i64 0, .int .i64 0, .int .i64 0, .int .i64 0] 42 (0, 0))))
    clear hbb
    go_wp2_with fail
    with_reducible refine (validRoom_v _ _ false _ hr).mono ?_
    rintro e w2 ⟨rfl, rfl⟩
    obtain ⟨x0, x1, x2, x3⟩ := cells4 HX.out
    have g0 := frozenH HX.out 0
    have g1 := frozenH HX.out 1
    have g2 := frozenH HX.out 2
    have g3 := frozenH HX.out 3
    go_wp2
    refine bp_genP (fun W => W.heap[w.heap.size]? = some (.cells #[.int .i64 0, .int .i64 0, .int .i64 0, .int .i64 0] 42 (0, 0)) ∧ Below w.heap.size w W)
      ⟨pput4z HX.out _ _ _ _, pput4b HB.out (Nat.le_refl _) _ _ _ _ _ _ _ _⟩ ?_
    clear HX HB x0 x1 x2 x3 g0 g1 g2 g3
    rintro W ⟨hW, hB2⟩
    obtain ⟨r0, r1, r2, r3⟩ := cells4 hW
    exact bodyPost_ret (v := .agg #[.int .i64 (0), .int .i64 (0), .int .i64 (0), .int .i64 (0)]) (by simp only [results, Try.results25]; go_simp) rfl ⟨rfl, hB2⟩
set_option maxRecDepth 100000 in
theorem PackParcels_yes (A : Option Addr) (c : Nat) (L : List Pk) (u v : Int) (w : World) (h : PV w A L) (hcap : L.length ≤ c) (hL : L.length ≤ 1048576) (hv : vpsB L = true) (hr : rmB u v = true) (M : List Rc) (Z : Rc) (hM : parcM L ⟨0, 0, u, v⟩ = (M, Z)) :
    Calls Try.prog 21 #[.slice A L.length c, .int .i64 u, .int .i64 v] w fun e w' => (∃ g, e = .returned (.slice (some ⟨g, 0, none⟩) L.length L.length) ∧ w.heap.size ≤ g ∧ Blk4 w' g M) ∧ Below w.heap.size w w' := by
  have HM := Lib.hid hM
  clear hM
  go_enter Try.func21, Try.ntmps21
  go_wp2_with fail
  with_reducible refine (vps_v _ c L true _ h hL hv).mono ?_
  rintro e w1 ⟨rfl, hbb⟩
  have HB := Lib.hid hbb
  skip
  clear hbb
  go_wp2_with fail
  with_reducible refine (validRoom_v _ _ true _ hr).mono ?_
  rintro e w2 ⟨rfl, rfl⟩
  go_wp2_with fail
  refine (packParcels_v A c L ⟨0, 0, u, v⟩ _ (h.keep HB.out) hcap hv (rmB_ok hr) M Z HM.out).mono ?_
  rintro e w3 ⟨⟨g, rfl, hg, hk⟩, hbb⟩
  replace hg := Nat.le_trans HB.out.size hg
  replace HB := Lib.hid (bkeep2 HB.out hbb)
  clear hbb
  go_wp2
  go_ret
  exact ⟨⟨_, rfl, hg, hk.keep (balloc (Below.refl _ _))⟩, balloc HB.out⟩
set_option maxRecDepth 100000 in
theorem PackParcels_no (A : Option Addr) (c : Nat) (L : List Pk) (u v : Int) (w : World) (h : PV w A L) (hcap : L.length ≤ c) (hL : L.length ≤ 1048576) (hn : vpsB L = false ∨ (vpsB L = true ∧ rmB u v = false)) :
    Calls Try.prog 21 #[.slice A L.length c, .int .i64 u, .int .i64 v] w fun e w' => e = .returned (.slice none 0 0) ∧ Below w.heap.size w w' := by
  rcases hn with hv | ⟨hv, hr⟩
  · go_enter Try.func21, Try.ntmps21
    go_wp2_with fail
    with_reducible refine (vps_v _ c L false _ h hL hv).mono ?_
    rintro e w1 ⟨rfl, hbb⟩
    have HB := Lib.hid hbb
    skip
    clear hbb
    go_wp2
    go_ret
    exact ⟨rfl, HB.out⟩
  · go_enter Try.func21, Try.ntmps21
    go_wp2_with fail
    with_reducible refine (vps_v _ c L true _ h hL hv).mono ?_
    rintro e w1 ⟨rfl, hbb⟩
    have HB := Lib.hid hbb
    skip
    clear hbb
    go_wp2_with fail
    with_reducible refine (validRoom_v _ _ false _ hr).mono ?_
    rintro e w2 ⟨rfl, rfl⟩
    go_wp2
    go_ret
    exact ⟨rfl, HB.out⟩
set_option maxRecDepth 100000 in
theorem sPackLeft_yes (A : Option Addr) (c : Nat) (L : List Pk) (u v : Int) (w : World) (h : PV w A L) (hcap : L.length ≤ c) (hL : L.length ≤ 1048576) (hv : vpsB L = true) (hr : rmB u v = true) (M : List Rc) (Z : Rc) (hM : parcM L ⟨0, 0, u, v⟩ = (M, Z)) :
    Calls Try.prog 27 #[.slice A L.length c, .int .i64 u, .int .i64 v] w fun e w' => e = .returned (.agg #[.int .i64 (Z.x), .int .i64 (Z.y), .int .i64 (Z.u), .int .i64 (Z.v)]) ∧ Below w.heap.size w w' := by
  have HM := Lib.hid hM
  clear hM
  go_enter Try.func27, Try.ntmps27
  go_wp2_with fail
  with_reducible refine (svps_v _ c L true _ (h.keep (balloc (Below.refl _ _))) hL hv).mono ?_
  rintro e w1 ⟨rfl, hbb⟩
  have HB := Lib.hid (bkeep2 (balloc (Below.refl _ _)) hbb)
  have HX := Lib.hid ((hbb.block w.heap.size (by simp)).trans (heap_new w (.cells #[.int .i64 0, .int .i64 0, .int .i64 0, .int .i64 0] 42 (0, 0))))
  clear hbb
  go_wp2_with fail
  with_reducible refine (goodRoom_v _ _ true _ hr).mono ?_
  rintro e w2 ⟨rfl, rfl⟩
  go_wp2_with fail
  refine (parcels_v A c L ⟨0, 0, u, v⟩ _ (h.keep HB.out) hcap hv (rmB_ok hr) M Z HM.out).mono ?_
  rintro e w3 ⟨⟨rv, rfl, hown⟩, hbb⟩
  replace hown := own_mono hown HB.out.size
  replace HX := Lib.hid ((hbb.block _ (Array.getElem?_eq_some_iff.1 HX.out).1).trans HX.out)
  replace HB := Lib.hid (bkeep2 HB.out hbb)
  clear hbb
  clear hown
  have hlt : w.heap.size < w3.heap.size := (Array.getElem?_eq_some_iff.1 HX.out).1
  have hn1 : ¬ w.heap.size = w3.heap.size := by omega
  have hn2 : ¬ w3.heap.size = w.heap.size := by omega
  obtain ⟨x0, x1, x2, x3⟩ := cells4 HX.out
  have g0 := frozenH HX.out 0
  have g1 := frozenH HX.out 1
  have g2 := frozenH HX.out 2
  have g3 := frozenH HX.out 3
  go_wp2
  refine bp_genP (fun W => W.heap[w.heap.size]? = some (.cells #[.int .i64 Z.x, .int .i64 Z.y, .int .i64 Z.u, .int .i64 Z.v] 42 (0, 0)) ∧ Below w.heap.size w W)
    ⟨(Below.heap_alloc _ _ _ (by simpa using hlt)).trans (pput4z HX.out _ _ _ _), balloc (pput4b HB.out (Nat.le_refl _) _ _ _ _ _ _ _ _)⟩ ?_
  clear HX HB x0 x1 x2 x3 g0 g1 g2 g3
  clear hlt hn1 hn2
  rintro W ⟨hW, hB2⟩
  obtain ⟨r0, r1, r2, r3⟩ := cells4 hW
  exact bodyPost_ret (v := .agg #[.int .i64 (Z.x), .int .i64 (Z.y), .int .i64 (Z.u), .int .i64 (Z.v)]) (by simp only [results, Try.results27]; go_simp) rfl ⟨rfl, hB2⟩
set_option maxRecDepth 100000 in
theorem sPackLeft_no (A : Option Addr) (c : Nat) (L : List Pk) (u v : Int) (w : World) (h : PV w A L) (hcap : L.length ≤ c) (hL : L.length ≤ 1048576) (hn : vpsB L = false ∨ (vpsB L = true ∧ rmB u v = false)) :
    Calls Try.prog 27 #[.slice A L.length c, .int .i64 u, .int .i64 v] w fun e w' => e = .returned (.agg #[.int .i64 (0), .int .i64 (0), .int .i64 (0), .int .i64 (0)]) ∧ Below w.heap.size w w' := by
  rcases hn with hv | ⟨hv, hr⟩
  · go_enter Try.func27, Try.ntmps27
    go_wp2_with fail
    with_reducible refine (svps_v _ c L false _ (h.keep (balloc (Below.refl _ _))) hL hv).mono ?_
    rintro e w1 ⟨rfl, hbb⟩
    have HB := Lib.hid (bkeep2 (balloc (Below.refl _ _)) hbb)
    have HX := Lib.hid ((hbb.block w.heap.size (by simp)).trans (heap_new w (.cells #[.int .i64 0, .int .i64 0, .int .i64 0, .int .i64 0] 42 (0, 0))))
    clear hbb
    obtain ⟨x0, x1, x2, x3⟩ := cells4 HX.out
    have g0 := frozenH HX.out 0
    have g1 := frozenH HX.out 1
    have g2 := frozenH HX.out 2
    have g3 := frozenH HX.out 3
    go_wp2
    refine bp_genP (fun W => W.heap[w.heap.size]? = some (.cells #[.int .i64 0, .int .i64 0, .int .i64 0, .int .i64 0] 42 (0, 0)) ∧ Below w.heap.size w W)
      ⟨pput4z HX.out _ _ _ _, pput4b HB.out (Nat.le_refl _) _ _ _ _ _ _ _ _⟩ ?_
    clear HX HB x0 x1 x2 x3 g0 g1 g2 g3
    rintro W ⟨hW, hB2⟩
    obtain ⟨r0, r1, r2, r3⟩ := cells4 hW
    exact bodyPost_ret (v := .agg #[.int .i64 (0), .int .i64 (0), .int .i64 (0), .int .i64 (0)]) (by simp only [results, Try.results27]; go_simp) rfl ⟨rfl, hB2⟩
  · go_enter Try.func27, Try.ntmps27
    go_wp2_with fail
    with_reducible refine (svps_v _ c L true _ (h.keep (balloc (Below.refl _ _))) hL hv).mono ?_
    rintro e w1 ⟨rfl, hbb⟩
    have HB := Lib.hid (bkeep2 (balloc (Below.refl _ _)) hbb)
    have HX := Lib.hid ((hbb.block w.heap.size (by simp)).trans (heap_new w (.cells #[.int .i64 0, .int .i64 0, .int .i64 0, .int .i64 0] 42 (0, 0))))
    clear hbb
    go_wp2_with fail
    with_reducible refine (goodRoom_v _ _ false _ hr).mono ?_
    rintro e w2 ⟨rfl, rfl⟩
    obtain ⟨x0, x1, x2, x3⟩ := cells4 HX.out
    have g0 := frozenH HX.out 0
    have g1 := frozenH HX.out 1
    have g2 := frozenH HX.out 2
    have g3 := frozenH HX.out 3
    go_wp2
    refine bp_genP (fun W => W.heap[w.heap.size]? = some (.cells #[.int .i64 0, .int .i64 0, .int .i64 0, .int .i64 0] 42 (0, 0)) ∧ Below w.heap.size w W)
      ⟨pput4z HX.out _ _ _ _, pput4b HB.out (Nat.le_refl _) _ _ _ _ _ _ _ _⟩ ?_
    clear HX HB x0 x1 x2 x3 g0 g1 g2 g3
    rintro W ⟨hW, hB2⟩
    obtain ⟨r0, r1, r2, r3⟩ := cells4 hW
    exact bodyPost_ret (v := .agg #[.int .i64 (0), .int .i64 (0), .int .i64 (0), .int .i64 (0)]) (by simp only [results, Try.results27]; go_simp) rfl ⟨rfl, hB2⟩
set_option maxRecDepth 100000 in
theorem sPackParcels_yes (A : Option Addr) (c : Nat) (L : List Pk) (u v : Int) (w : World) (h : PV w A L) (hcap : L.length ≤ c) (hL : L.length ≤ 1048576) (hv : vpsB L = true) (hr : rmB u v = true) (M : List Rc) (Z : Rc) (hM : parcM L ⟨0, 0, u, v⟩ = (M, Z)) :
    Calls Try.prog 31 #[.slice A L.length c, .int .i64 u, .int .i64 v] w fun e w' => (∃ v, e = .returned v ∧ w'.ownsRow w.heap.size 42 4 v M.length (rvals M)) ∧ Below w.heap.size w w' := by
  have HM := Lib.hid hM
  clear hM
  go_enter Try.func31, Try.ntmps31
  go_wp2_with fail
  with_reducible refine (svps_v _ c L true _ h hL hv).mono ?_
  rintro e w1 ⟨rfl, hbb⟩
  have HB := Lib.hid hbb
  skip
  clear hbb
  go_wp2_with fail
  with_reducible refine (goodRoom_v _ _ true _ hr).mono ?_
  rintro e w2 ⟨rfl, rfl⟩
  go_wp2_with fail
  refine (parcels_v A c L ⟨0, 0, u, v⟩ _ (h.keep HB.out) hcap hv (rmB_ok hr) M Z HM.out).mono ?_
  rintro e w3 ⟨⟨rv, rfl, hown⟩, hbb⟩
  replace hown := own_mono hown HB.out.size
  replace HB := Lib.hid (bkeep2 HB.out hbb)
  clear hbb
  go_wp2
  go_ret
  exact ⟨⟨_, rfl, hown.alloc _⟩, balloc HB.out⟩
set_option maxRecDepth 100000 in
theorem sPackParcels_no (A : Option Addr) (c : Nat) (L : List Pk) (u v : Int) (w : World) (h : PV w A L) (hcap : L.length ≤ c) (hL : L.length ≤ 1048576) (hn : vpsB L = false ∨ (vpsB L = true ∧ rmB u v = false)) :
    Calls Try.prog 31 #[.slice A L.length c, .int .i64 u, .int .i64 v] w fun e w' => e = .returned (.slice none 0 0) ∧ Below w.heap.size w w' := by
  rcases hn with hv | ⟨hv, hr⟩
  · go_enter Try.func31, Try.ntmps31
    go_wp2_with fail
    with_reducible refine (svps_v _ c L false _ h hL hv).mono ?_
    rintro e w1 ⟨rfl, hbb⟩
    have HB := Lib.hid hbb
    skip
    clear hbb
    go_wp2
    go_ret
    exact ⟨rfl, HB.out⟩
  · go_enter Try.func31, Try.ntmps31
    go_wp2_with fail
    with_reducible refine (svps_v _ c L true _ h hL hv).mono ?_
    rintro e w1 ⟨rfl, hbb⟩
    have HB := Lib.hid hbb
    skip
    clear hbb
    go_wp2_with fail
    with_reducible refine (goodRoom_v _ _ false _ hr).mono ?_
    rintro e w2 ⟨rfl, rfl⟩
    go_wp2
    go_ret
    exact ⟨rfl, HB.out⟩
end Go.Proofs.Ytjdjahckdgbkbab
end
