import Derived.Test.YtpbfbcdidkbjiacQ07
section
namespace Go.Proofs.Ytpbfbcdidkbjiac
open Go.RowKit
set_option linter.unusedVariables false
set_option maxHeartbeats 1000000
attribute [local go_sem 5000] run_mx run_mn
attribute [local go_sem] growUpon_value growUpon_skip growUpon_enter
set_option maxRecDepth 100000 in
theorem drag_v (p g1 q1 g2 q2 : Nat) (S M : List Int) (k : Nat) (y : Int) (w : World) (hp : w.heap[p]? = some (.cells #[.slice (some ⟨g1, 0, none⟩) S.length q1, .slice (some ⟨g2, 0, none⟩) M.length q2] 25 (0, 0)))
    (h1 : OB w g1 q1 S) (h2 : OB w g2 q2 M) (hp1 : p ≠ g1) (hp2 : p ≠ g2) (h12 : g1 ≠ g2) (hv : pnP S M) (hk : k + 1 < S.length) (hy : -400 ≤ y ∧ y ≤ 400) :
    Calls Try.prog 37 #[.pointer (some ⟨p, 0, none⟩), .int .i64 (k : Int), .int .i64 y] w fun e w' => (∃ v, e = .returned v) ∧ OB w' g1 q1 (dragM S M k y) ∧ w.grownBy w' (some g1) := by
  obtain ⟨hy1, hy2⟩ := hy
  have hl := hv.six
  have hlm := hv.len
  have hgp := GP.of hv
  by_cases hneg : y < 0
  · rw [dragM_neg hneg]
    have hrem : Rem S.length (-1) (k : Int) (downs (k + 1)) := by
      have h := rem_bwd S.length (k + 1) (by omega)
      have e : ((k + 1 : Nat) : Int) - 1 = (k : Int) := by omega
      rw [e] at h
      exact h
    have hs := goL_spec (downs (k + 1)) hgp (r := -y) (by omega) hrem.lt
    have HTK := Lib.hid (take_v p g1 q1 g2 q2 S.length M.length S M (-y) (k : Int) (-1) (downs (k + 1)) w hp rfl rfl h1 h2 hp1 hp2 h12 hgp hl (by omega) hrem (by omega) (by omega) (by omega) (by omega))
    have hlR : (goL M (downs (k + 1)) S (-y)).1.length = S.length := by rw [hs.gp.1, hlm]
    obtain ⟨F, hF⟩ : ∃ F, goL M (downs (k + 1)) S (-y) = F := ⟨_, rfl⟩
    rw [hF] at HTK hs hlR ⊢
    have hj : (k + 1) < F.1.length := by omega
    have e1 : F.1[(k + 1)]? = some F.1[(k + 1)] := List.getElem?_eq_getElem hj
    have d1 := gapD e1
    have hbd := hs.gp.gap (k + 1)
    have hlo := hs.lo
    have hhi := hs.hi
    generalize F.1[(k + 1)] = o at *
    rw [d1] at hbd ⊢
    have HP := Lib.hid hp
    have HE := Lib.hid e1
    clear hF hs hrem hp h1 h2 hgp e1 d1
    go_enter Try.func37, Try.ntmps37
    go_wp2_with fail
    with_reducible refine HTK.out.mono ?_
    rintro e w1 ⟨rfl, ho, hg⟩
    have hpc := (hg.block p (ltS HP.out) (fun e => hp1 (Option.some.inj e))).trans HP.out
    have k0 : w1.cell? ⟨p, 0, none⟩ = some (.slice (some ⟨g1, 0, none⟩) S.length q1) := (cellS hpc 0).trans rfl
    have c1 := ho.cell HE.out
    have f1 := ho.frozen (k + 1)
    have HS := Lib.hid (ho.set (k + 1) (o + (-y - F.2)) hj)
    have HG := Lib.hid (gsetP hg (k + 1) (.int .i64 (o + (-y - F.2))))
    have hdk : decide (((k + 1) : Int) < (S.length : Int)) = true := by simp; omega
    have hdk2 : (((k + 1) : Nat) : Int) < (S.length : Int) := by omega
    clear hpc ho hg HTK
    go_wp2
    first | (go_end0; exact ⟨⟨_, rfl⟩, HS.out, HG.out⟩) | exact bodyPost_ret (results_none rfl _ _ _) rfl ⟨⟨_, rfl⟩, HS.out, HG.out⟩
  · rw [dragM_pos hneg]
    have hrem : Rem S.length 1 ((k : Int) + 1) (List.range' (k + 1) (S.length - (k + 1))) := by
      have h := rem_fwd S.length (S.length - (k + 1)) (k + 1) (by omega)
      simpa using h
    have hs := goL_spec (List.range' (k + 1) (S.length - (k + 1))) hgp (r := y) (by omega) hrem.lt
    have HTK := Lib.hid (take_v p g1 q1 g2 q2 S.length M.length S M (y) ((k : Int) + 1) 1 (List.range' (k + 1) (S.length - (k + 1))) w hp rfl rfl h1 h2 hp1 hp2 h12 hgp hl (by omega) hrem (by omega) (by omega) (by omega) (by omega))
    have hlR : (goL M (List.range' (k + 1) (S.length - (k + 1))) S (y)).1.length = S.length := by rw [hs.gp.1, hlm]
    obtain ⟨F, hF⟩ : ∃ F, goL M (List.range' (k + 1) (S.length - (k + 1))) S (y) = F := ⟨_, rfl⟩
    rw [hF] at HTK hs hlR ⊢
    have hj : k < F.1.length := by omega
    have e1 : F.1[k]? = some F.1[k] := List.getElem?_eq_getElem hj
    have d1 := gapD e1
    have hbd := hs.gp.gap k
    have hlo := hs.lo
    have hhi := hs.hi
    generalize F.1[k] = o at *
    rw [d1] at hbd ⊢
    have HP := Lib.hid hp
    have HE := Lib.hid e1
    clear hF hs hrem hp h1 h2 hgp e1 d1
    go_enter Try.func37, Try.ntmps37
    go_wp2_with fail
    with_reducible refine HTK.out.mono ?_
    rintro e w1 ⟨rfl, ho, hg⟩
    have hpc := (hg.block p (ltS HP.out) (fun e => hp1 (Option.some.inj e))).trans HP.out
    have k0 : w1.cell? ⟨p, 0, none⟩ = some (.slice (some ⟨g1, 0, none⟩) S.length q1) := (cellS hpc 0).trans rfl
    have c1 := ho.cell HE.out
    have f1 := ho.frozen k
    have HS := Lib.hid (ho.set k (o + (y - F.2)) hj)
    have HG := Lib.hid (gsetP hg k (.int .i64 (o + (y - F.2))))
    have hdk : decide ((k : Int) < (S.length : Int)) = true := by simp; omega
    have hdk2 : ((k : Nat) : Int) < (S.length : Int) := by omega
    clear hpc ho hg HTK
    go_wp2
    first | (go_end0; exact ⟨⟨_, rfl⟩, HS.out, HG.out⟩) | exact bodyPost_ret (results_none rfl _ _ _) rfl ⟨⟨_, rfl⟩, HS.out, HG.out⟩
end Go.Proofs.Ytpbfbcdidkbjiac
end
section
namespace Go.Proofs.Ytpbfbcdidkbjiac
open Go.RowKit
set_option linter.unusedVariables false
set_option maxHeartbeats 1000000
attribute [local go_sem 5000] run_mx run_mn
attribute [local go_sem] growUpon_value growUpon_skip growUpon_enter
theorem newP (w : World) (o o' : Obj) : ((w.alloc o).alloc o').heap[w.heap.size + 1]? = some o' := by
  have := newS (w.alloc o) o'; rwa [World.size_alloc] at this
theorem oldP (w : World) (o o' : Obj) : ((w.alloc o).alloc o').heap[w.heap.size]? = some o := (Below.heap_alloc _ o' w.heap.size (by simp)).trans (newS w o)
theorem c2P {w : World} {b : Nat} {a0 a1 : Value} {T : TypeId} {fz : Nat × Nat} (h : w.heap[b]? = some (.cells #[a0, a1] T fz)) : w.cell? ⟨b, 0, none⟩ = some a0 ∧ w.cell? ⟨b, 1, none⟩ = some a1 := ⟨cellS h 0, cellS h 1⟩
theorem f2P {w : World} {b : Nat} {cs : Array Value} {T : TypeId} (h : w.heap[b]? = some (.cells cs T (0, 0))) : w.frozen? ⟨b, 0, none⟩ = false ∧ w.frozen? ⟨b, 1, none⟩ = false := ⟨frozenS h 0, frozenS h 1⟩
theorem put2P {w : World} {b : Nat} {a0 a1 : Value} {T : TypeId} {fz : Nat × Nat} (h : w.heap[b]? = some (.cells #[a0, a1] T fz)) (x0 x1 : Value) :
    ((w.setCell ⟨b, 0, none⟩ x0).setCell ⟨b, 1, none⟩ x1).heap[b]? = some (.cells #[x0, x1] T fz) := by
  rw [putS (putS h x0) x1]; rfl
theorem put2o {w : World} {b b' : Nat} (h : b' ≠ b) (x0 x1 : Value) : ((w.setCell ⟨b, 0, none⟩ x0).setCell ⟨b, 1, none⟩ x1).heap[b']? = w.heap[b']? := by
  rw [Below.heap_setCell _ _ _ _ h, Below.heap_setCell _ _ _ _ h]
theorem put2B {B b : Nat} {a w : World} (h : Below B a w) (hb : B ≤ b) (x0 x1 : Value) : Below B a ((w.setCell ⟨b, 0, none⟩ x0).setCell ⟨b, 1, none⟩ x1) := (h.setCell hb _).setCell hb _
theorem bpP {P : Program} {f : Func} {R : Ending → World → Prop} {e : Exit} {a : Act} {W : World} (F : World → Prop) (hF : F W) (h : ∀ W0, F W0 → bodyPost P f R e a W0) : bodyPost P f R e a W := h W hF
theorem below_gP {W w w' : World} {g : Nat} (h : Below W.heap.size W w) (hg : w.grownBy w' (some g)) (hn : W.heap.size ≤ g) : Below W.heap.size W w' :=
  ⟨hg.os.trans h.os, hg.tape.trans h.tape, hg.output.trans h.output, Nat.le_trans h.size hg.size, fun k hk => (hg.block k (Nat.lt_of_lt_of_le hk h.size) (fun e => by cases e; omega)).trans (h.block k hk)⟩
theorem within_PB (n a b : Int) (t : Bool) (w : World) (h : rng n a b = t) : Calls Try.prog 33 #[.int .i64 n, .int .i64 a, .int .i64 b] w fun e w' => e = .returned (.bool t) ∧ Below w.heap.size w w' := (within_P n a b t w h).mono (by rintro e w' ⟨rfl, rfl⟩; exact ⟨rfl, Below.refl _ _⟩)
set_option maxRecDepth 100000 in
theorem DragSash_no (A A' : Option Addr) (c c' : Nat) (S M : List Int) (i y : Int) (w : World) (h : NV w A S) (h' : NV w A' M) (hm : M.length ≤ 1048576) (hL : S.length ≤ 1048576) (hv : ¬ pnP S M ∨ (pnP S M ∧ rng i 0 ((S.length : Int) - 2) = false) ∨ (pnP S M ∧ rng i 0 ((S.length : Int) - 2) = true ∧ rng y (-400) 400 = false)) : Calls Try.prog 14 #[.agg #[.slice A S.length c, .slice A' M.length c'], .int .i64 i, .int .i64 y] w fun e w' => e = .returned (.agg #[.slice none 0 0, .slice none 0 0]) ∧ Below w.heap.size w w' := by
  rcases hv with hv | ⟨hv, hi⟩ | ⟨hv, hi, hy⟩
  · go_enter Try.func14, Try.ntmps14
    go_upto_region 1 with (fail)
    refine wp_P (fun W => W.heap[w.heap.size]? = some (.cells #[.slice A S.length c, .slice A' M.length c'] 25 (0, 0)) ∧ W.heap[w.heap.size + 1]? = some (.cells #[.slice none 0 0, .slice none 0 0] 25 (0, 0)) ∧ NV W A S ∧ NV W A' M ∧ Below w.heap.size w W) ⟨oldP _ _ _, newP _ _ _, h.keep (balloc (balloc (Below.refl _ _))), h'.keep (balloc (balloc (Below.refl _ _))), balloc (balloc (Below.refl _ _))⟩ ?_
    clear h h'
    rintro w0 ⟨hx, hz, hn, hn', hB⟩
    have HX := Lib.hid hx
    have HZ := Lib.hid hz
    have HN := Lib.hid hn
    have HN' := Lib.hid hn'
    have HB := Lib.hid hB
    obtain ⟨c0, c1⟩ := c2P hx
    obtain ⟨d0, d1⟩ := c2P hz
    obtain ⟨g0, g1⟩ := f2P hz
    clear hx hz hn hn' hB
    go_wp2_with fail
    with_reducible refine (ValidPanes_v _ _ _ _ _ _ S M false _ HN.out HN'.out rfl rfl hL hm (by simp [hv])).mono ?_
    rintro e w1 ⟨rfl, hb⟩
    clear c0 c1 d0 d1 g0 g1
    replace HX := Lib.hid ((hb.block _ (ltS HX.out)).trans HX.out)
    replace HZ := Lib.hid ((hb.block _ (ltS HZ.out)).trans HZ.out)
    replace HN := Lib.hid (HN.out.keep hb)
    replace HN' := Lib.hid (HN'.out.keep hb)
    replace HB := Lib.hid (bkeep2 HB.out hb)
    clear hb
    obtain ⟨c0, c1⟩ := c2P HX.out
    obtain ⟨d0, d1⟩ := c2P HZ.out
    obtain ⟨g0, g1⟩ := f2P HZ.out
    go_wp2
    refine bpP (fun W => W.heap[w.heap.size + 1]? = some (.cells #[.slice none 0 0, .slice none 0 0] 25 (0, 0)) ∧ Below w.heap.size w W) ⟨put2P HZ.out _ _, put2B HB.out (by omega) _ _⟩ ?_
    clear HX HZ HB HN HN' c0 c1 d0 d1 g0 g1
    rintro W ⟨hz, hB⟩
    obtain ⟨d0, d1⟩ := c2P hz
    exact bodyPost_ret (v := .agg #[.slice none 0 0, .slice none 0 0]) (by simp only [results, Try.results14]; go_simp) rfl ⟨rfl, hB⟩
  · go_enter Try.func14, Try.ntmps14
    go_upto_region 1 with (fail)
    refine wp_P (fun W => W.heap[w.heap.size]? = some (.cells #[.slice A S.length c, .slice A' M.length c'] 25 (0, 0)) ∧ W.heap[w.heap.size + 1]? = some (.cells #[.slice none 0 0, .slice none 0 0] 25 (0, 0)) ∧ NV W A S ∧ NV W A' M ∧ Below w.heap.size w W) ⟨oldP _ _ _, newP _ _ _, h.keep (balloc (balloc (Below.refl _ _))), h'.keep (balloc (balloc (Below.refl _ _))), balloc (balloc (Below.refl _ _))⟩ ?_
    clear h h'
    rintro w0 ⟨hx, hz, hn, hn', hB⟩
    have HX := Lib.hid hx
    have HZ := Lib.hid hz
    have HN := Lib.hid hn
    have HN' := Lib.hid hn'
    have HB := Lib.hid hB
    obtain ⟨c0, c1⟩ := c2P hx
    obtain ⟨d0, d1⟩ := c2P hz
    obtain ⟨g0, g1⟩ := f2P hz
    clear hx hz hn hn' hB
    go_wp2_with fail
    with_reducible refine (ValidPanes_v _ _ _ _ _ _ S M true _ HN.out HN'.out rfl rfl hL hm (by simp [hv])).mono ?_
    rintro e w1 ⟨rfl, hb⟩
    clear c0 c1 d0 d1 g0 g1
    replace HX := Lib.hid ((hb.block _ (ltS HX.out)).trans HX.out)
    replace HZ := Lib.hid ((hb.block _ (ltS HZ.out)).trans HZ.out)
    replace HN := Lib.hid (HN.out.keep hb)
    replace HN' := Lib.hid (HN'.out.keep hb)
    replace HB := Lib.hid (bkeep2 HB.out hb)
    clear hb
    obtain ⟨c0, c1⟩ := c2P HX.out
    obtain ⟨d0, d1⟩ := c2P HZ.out
    obtain ⟨g0, g1⟩ := f2P HZ.out
    go_wp2_with fail
    with_reducible refine (hasSash_v _ _ _ _ _ _ _ false _ hL hi).mono ?_
    rintro e w1 ⟨rfl, hb⟩
    clear c0 c1 d0 d1 g0 g1
    replace HX := Lib.hid ((hb.block _ (ltS HX.out)).trans HX.out)
    replace HZ := Lib.hid ((hb.block _ (ltS HZ.out)).trans HZ.out)
    replace HN := Lib.hid (HN.out.keep hb)
    replace HN' := Lib.hid (HN'.out.keep hb)
    replace HB := Lib.hid (bkeep2 HB.out hb)
    clear hb
    obtain ⟨c0, c1⟩ := c2P HX.out
    obtain ⟨d0, d1⟩ := c2P HZ.out
    obtain ⟨g0, g1⟩ := f2P HZ.out
    go_wp2
    refine bpP (fun W => W.heap[w.heap.size + 1]? = some (.cells #[.slice none 0 0, .slice none 0 0] 25 (0, 0)) ∧ Below w.heap.size w W) ⟨put2P HZ.out _ _, put2B HB.out (by omega) _ _⟩ ?_
    clear HX HZ HB HN HN' c0 c1 d0 d1 g0 g1
    rintro W ⟨hz, hB⟩
    obtain ⟨d0, d1⟩ := c2P hz
    exact bodyPost_ret (v := .agg #[.slice none 0 0, .slice none 0 0]) (by simp only [results, Try.results14]; go_simp) rfl ⟨rfl, hB⟩
  · go_enter Try.func14, Try.ntmps14
    go_upto_region 1 with (fail)
    refine wp_P (fun W => W.heap[w.heap.size]? = some (.cells #[.slice A S.length c, .slice A' M.length c'] 25 (0, 0)) ∧ W.heap[w.heap.size + 1]? = some (.cells #[.slice none 0 0, .slice none 0 0] 25 (0, 0)) ∧ NV W A S ∧ NV W A' M ∧ Below w.heap.size w W) ⟨oldP _ _ _, newP _ _ _, h.keep (balloc (balloc (Below.refl _ _))), h'.keep (balloc (balloc (Below.refl _ _))), balloc (balloc (Below.refl _ _))⟩ ?_
    clear h h'
    rintro w0 ⟨hx, hz, hn, hn', hB⟩
    have HX := Lib.hid hx
    have HZ := Lib.hid hz
    have HN := Lib.hid hn
    have HN' := Lib.hid hn'
    have HB := Lib.hid hB
    obtain ⟨c0, c1⟩ := c2P hx
    obtain ⟨d0, d1⟩ := c2P hz
    obtain ⟨g0, g1⟩ := f2P hz
    clear hx hz hn hn' hB
    go_wp2_with fail
    with_reducible refine (ValidPanes_v _ _ _ _ _ _ S M true _ HN.out HN'.out rfl rfl hL hm (by simp [hv])).mono ?_
    rintro e w1 ⟨rfl, hb⟩
    clear c0 c1 d0 d1 g0 g1
    replace HX := Lib.hid ((hb.block _ (ltS HX.out)).trans HX.out)
    replace HZ := Lib.hid ((hb.block _ (ltS HZ.out)).trans HZ.out)
    replace HN := Lib.hid (HN.out.keep hb)
    replace HN' := Lib.hid (HN'.out.keep hb)
    replace HB := Lib.hid (bkeep2 HB.out hb)
    clear hb
    obtain ⟨c0, c1⟩ := c2P HX.out
    obtain ⟨d0, d1⟩ := c2P HZ.out
    obtain ⟨g0, g1⟩ := f2P HZ.out
    go_wp2_with fail
    with_reducible refine (hasSash_v _ _ _ _ _ _ _ true _ hL hi).mono ?_
    rintro e w1 ⟨rfl, hb⟩
    clear c0 c1 d0 d1 g0 g1
    replace HX := Lib.hid ((hb.block _ (ltS HX.out)).trans HX.out)
    replace HZ := Lib.hid ((hb.block _ (ltS HZ.out)).trans HZ.out)
    replace HN := Lib.hid (HN.out.keep hb)
    replace HN' := Lib.hid (HN'.out.keep hb)
    replace HB := Lib.hid (bkeep2 HB.out hb)
    clear hb
    obtain ⟨c0, c1⟩ := c2P HX.out
    obtain ⟨d0, d1⟩ := c2P HZ.out
    obtain ⟨g0, g1⟩ := f2P HZ.out
    go_wp2_with fail
    with_reducible refine (within_PB _ _ _ false _ hy).mono ?_
    rintro e w1 ⟨rfl, hb⟩
    clear c0 c1 d0 d1 g0 g1
    replace HX := Lib.hid ((hb.block _ (ltS HX.out)).trans HX.out)
    replace HZ := Lib.hid ((hb.block _ (ltS HZ.out)).trans HZ.out)
    replace HN := Lib.hid (HN.out.keep hb)
    replace HN' := Lib.hid (HN'.out.keep hb)
    replace HB := Lib.hid (bkeep2 HB.out hb)
    clear hb
    obtain ⟨c0, c1⟩ := c2P HX.out
    obtain ⟨d0, d1⟩ := c2P HZ.out
    obtain ⟨g0, g1⟩ := f2P HZ.out
    go_wp2
    refine bpP (fun W => W.heap[w.heap.size + 1]? = some (.cells #[.slice none 0 0, .slice none 0 0] 25 (0, 0)) ∧ Below w.heap.size w W) ⟨put2P HZ.out _ _, put2B HB.out (by omega) _ _⟩ ?_
    clear HX HZ HB HN HN' c0 c1 d0 d1 g0 g1
    rintro W ⟨hz, hB⟩
    obtain ⟨d0, d1⟩ := c2P hz
    exact bodyPost_ret (v := .agg #[.slice none 0 0, .slice none 0 0]) (by simp only [results, Try.results14]; go_simp) rfl ⟨rfl, hB⟩
set_option maxRecDepth 100000 in
theorem DragSash_yes (A A' : Option Addr) (c c' : Nat) (S M : List Int) (i y : Int) (w : World) (h : NV w A S) (h' : NV w A' M) (hm : M.length ≤ 1048576) (hL : S.length ≤ 1048576) (hv : pnP S M) (hi : rng i 0 ((S.length : Int) - 2) = true) (hy : rng y (-400) 400 = true) : Calls Try.prog 14 #[.agg #[.slice A S.length c, .slice A' M.length c'], .int .i64 i, .int .i64 y] w fun e w' => (∃ v, e = .returned v ∧ PS w.heap.size w'.heap.size w' v (dragM S M i.toNat y) M) ∧ Below w.heap.size w w' := by
  obtain ⟨g1, g2⟩ := rng_iff.1 hi
  have hyb := rng_iff.1 hy
  have HP := Lib.hid hv
  have hlen := dragM_len (k := i.toNat) (y := y) hv (by omega)
  obtain ⟨k, rfl⟩ := Int.eq_ofNat_of_zero_le g1
  rw [Int.toNat_natCast] at hlen ⊢
  have hk : k + 1 < S.length := by omega
  have HLEN := Lib.hid hlen
  clear g1 g2 hv hlen
  go_enter Try.func14, Try.ntmps14
  go_upto_region 1 with (fail)
  refine wp_P (fun W => W.heap[w.heap.size]? = some (.cells #[.slice A S.length c, .slice A' M.length c'] 25 (0, 0)) ∧ W.heap[w.heap.size + 1]? = some (.cells #[.slice none 0 0, .slice none 0 0] 25 (0, 0)) ∧ NV W A S ∧ NV W A' M ∧ Below w.heap.size w W) ⟨oldP _ _ _, newP _ _ _, h.keep (balloc (balloc (Below.refl _ _))), h'.keep (balloc (balloc (Below.refl _ _))), balloc (balloc (Below.refl _ _))⟩ ?_
  clear h h'
  rintro w0 ⟨hx, hz, hn, hn', hB⟩
  have HX := Lib.hid hx
  have HZ := Lib.hid hz
  have HN := Lib.hid hn
  have HN' := Lib.hid hn'
  have HB := Lib.hid hB
  obtain ⟨c0, c1⟩ := c2P hx
  obtain ⟨d0, d1⟩ := c2P hz
  obtain ⟨g0, g1⟩ := f2P hz
  clear hx hz hn hn' hB
  go_wp2_with fail
  with_reducible refine (ValidPanes_v _ _ _ _ _ _ S M true _ HN.out HN'.out rfl rfl hL hm (by simp [HP.out])).mono ?_
  rintro e w1 ⟨rfl, hb⟩
  clear c0 c1 d0 d1 g0 g1
  replace HX := Lib.hid ((hb.block _ (ltS HX.out)).trans HX.out)
  replace HZ := Lib.hid ((hb.block _ (ltS HZ.out)).trans HZ.out)
  replace HN := Lib.hid (HN.out.keep hb)
  replace HN' := Lib.hid (HN'.out.keep hb)
  replace HB := Lib.hid (bkeep2 HB.out hb)
  clear hb
  obtain ⟨c0, c1⟩ := c2P HX.out
  obtain ⟨d0, d1⟩ := c2P HZ.out
  obtain ⟨g0, g1⟩ := f2P HZ.out
  go_wp2_with fail
  with_reducible refine (hasSash_v _ _ _ _ _ _ _ true _ hL hi).mono ?_
  rintro e w1 ⟨rfl, hb⟩
  clear c0 c1 d0 d1 g0 g1
  replace HX := Lib.hid ((hb.block _ (ltS HX.out)).trans HX.out)
  replace HZ := Lib.hid ((hb.block _ (ltS HZ.out)).trans HZ.out)
  replace HN := Lib.hid (HN.out.keep hb)
  replace HN' := Lib.hid (HN'.out.keep hb)
  replace HB := Lib.hid (bkeep2 HB.out hb)
  clear hb
  obtain ⟨c0, c1⟩ := c2P HX.out
  obtain ⟨d0, d1⟩ := c2P HZ.out
  obtain ⟨g0, g1⟩ := f2P HZ.out
  go_wp2_with fail
  with_reducible refine (within_PB _ _ _ true _ hy).mono ?_
  rintro e w1 ⟨rfl, hb⟩
  clear c0 c1 d0 d1 g0 g1
  replace HX := Lib.hid ((hb.block _ (ltS HX.out)).trans HX.out)
  replace HZ := Lib.hid ((hb.block _ (ltS HZ.out)).trans HZ.out)
  replace HN := Lib.hid (HN.out.keep hb)
  replace HN' := Lib.hid (HN'.out.keep hb)
  replace HB := Lib.hid (bkeep2 HB.out hb)
  clear hb
  obtain ⟨c0, c1⟩ := c2P HX.out
  obtain ⟨d0, d1⟩ := c2P HZ.out
  obtain ⟨g0, g1⟩ := f2P HZ.out
  clear c0 c1 d0 d1 g0 g1
  go_wp2_with fail
  with_reducible refine (detach_v w.heap.size A A' c c' S M _ HX.out HN.out HN'.out (by omega) (by have := HP.out.len; omega) hL hm).mono ?_
  rintro e w2 ⟨⟨x, rfl⟩, v1, v2, hx, ⟨b1, q1, b2, q2, rfl, rfl, hb1, hb12, o1, o2⟩, hg⟩
  have hz := (hg.block _ (ltS HZ.out) (fun e => absurd (Option.some.inj e) (by omega))).trans HZ.out
  have hB := below_gP HB.out hg (Nat.le_refl _)
  have l2 := ltS hz
  have l3 : w.heap.size + 1 < w1.heap.size := ltS HZ.out
  have hbne : b1 ≠ b2 := by omega
  replace HX := Lib.hid hx
  replace HZ := Lib.hid hz
  replace HB := Lib.hid hB
  have HO2 := Lib.hid o2
  have HO1 := Lib.hid o1
  clear hx hz hB o1 o2 hg HN HN'
  go_wp2_with fail
  with_reducible refine (drag_v w.heap.size b1 q1 b2 q2 S M k y _ HX.out HO1.out HO2.out (by omega) (by omega) hbne HP.out hk hyb).mono ?_
  rintro e w3 ⟨⟨x3, rfl⟩, o1, hg⟩
  replace HX := Lib.hid ((hg.block _ (ltS HX.out) (fun e => absurd (Option.some.inj e) (by omega))).trans HX.out)
  replace HZ := Lib.hid ((hg.block _ (ltS HZ.out) (fun e => absurd (Option.some.inj e) (by omega))).trans HZ.out)
  replace HO2 := Lib.hid (HO2.out.other hg (Ne.symm hbne))
  replace HB := Lib.hid (below_gP HB.out hg (by omega))
  replace HO1 := Lib.hid o1
  clear o1 hg
  obtain ⟨c0, c1⟩ := c2P HX.out
  obtain ⟨d0, d1⟩ := c2P HZ.out
  obtain ⟨g0, g1⟩ := f2P HZ.out
  go_wp2
  refine bpP (fun W => W.heap[w.heap.size + 1]? = some (.cells #[.slice (some ⟨b1, 0, none⟩) S.length q1, .slice (some ⟨b2, 0, none⟩) M.length q2] 25 (0, 0)) ∧ OB W b1 q1 (dragM S M k y) ∧ OB W b2 q2 M ∧ Below w.heap.size w W) ⟨put2P HZ.out _ _, HO1.out.sameh (put2o (by omega) _ _), HO2.out.sameh (put2o (by omega) _ _), put2B HB.out (by omega) _ _⟩ ?_
  clear HX HZ HB c0 c1 d0 d1 g0 g1 HO1 HO2
  rintro W ⟨hz, o1, o2, hB⟩
  obtain ⟨d0, d1⟩ := c2P hz
  exact bodyPost_ret (v := .agg #[.slice (some ⟨b1, 0, none⟩) S.length q1, .slice (some ⟨b2, 0, none⟩) M.length q2]) (by simp only [results, Try.results14]; go_simp) rfl ⟨⟨_, rfl, .inr ⟨b1, q1, b2, q2, by rw [HLEN.out], by omega, o1.lt, by omega, o2.lt, hbne, o1, o2⟩⟩, hB⟩
end Go.Proofs.Ytpbfbcdidkbjiac
end
section
namespace Go.Proofs.Ytpbfbcdidkbjiac
open Go.RowKit
set_option linter.unusedVariables false
set_option maxHeartbeats 1000000
attribute [local go_sem 5000] run_mx run_mn
attribute [local go_sem] growUpon_value growUpon_skip growUpon_enter
theorem cellOf {w w' : World} {g : Nat} {p : Addr} {v : Value} (h : w.grownBy w' (some g)) (hb : p.block < w.heap.size) (hne : p.block ≠ g) (hv : w.cell? p = some v) : w'.cell? p = some v := by
  have := h.block p.block hb (fun e => hne (Option.some.inj e))
  exact (World.cell?_of_block this).trans hv
theorem copy_n (A : Option Addr) (c n : Nat) (L : List Int) (w : World) (h : NV w A L) (hn : n = L.length) (h1 : 1 ≤ L.length) (hL : L.length ≤ 1048576) :
    Calls Try.prog 50 #[.slice A n c] w fun e w' => (∃ g cap, e = .returned (.slice (some ⟨g, 0, none⟩) L.length cap) ∧ w.heap.size ≤ g ∧ OB w' g cap L) ∧ Below w.heap.size w w' := by
  refine (copy_v A c n L w h hn h1 hL).mono ?_
  rintro e w' ⟨⟨v, rfl, g, cap, rfl, hg, ho⟩, hb⟩
  exact ⟨⟨g, cap, rfl, hg, ho⟩, hb⟩
set_option maxRecDepth 100000 in
theorem taken_v (A A' : Option Addr) (c c' : Nat) (S M : List Int) (n i d : Int) (t : List Nat) (w : World) (h : NV w A S) (h' : NV w A' M) (hgp : GP M S) (hl0 : 1 ≤ S.length) (hl : S.length ≤ 6) (hd : d = 1 ∨ d = -1) (ht : Rem S.length d i t) (hi0 : -1 ≤ i) (hi1 : i ≤ S.length) (hn0 : 0 ≤ n) (hn1 : n ≤ 1000) :
    Calls Try.prog 49 #[.agg #[.slice A S.length c, .slice A' M.length c'], .int .i64 i, .int .i64 d, .int .i64 n] w fun e w' => (∃ g cap, e = .returned (.tuple #[.slice (some ⟨g, 0, none⟩) S.length cap, .int .i64 (goL M t S n).2]) ∧ w.heap.size ≤ g ∧ OB w' g cap (goL M t S n).1) ∧ Below w.heap.size w w' := by
  have HG := Lib.hid hgp
  have HT := Lib.hid ht
  have HLM := Lib.hid (hgp.1.symm : M.length = S.length)
  obtain ⟨F, hF⟩ : ∃ F, goL M t S n = F := ⟨_, rfl⟩
  rw [hF]
  have HF := Lib.hid hF
  obtain ⟨b', off', rfl, hb0', -⟩ := h'.cells (by have := HLM.out; omega)
  have hd0 : -1 ≤ d := by omega
  have hd1 : d ≤ 1 := by omega
  have HD := Lib.hid hd
  have hb0 : Below w.heap.size w (w.alloc (.cells #[.slice A S.length c, .slice (some ⟨b', off', none⟩) M.length c'] 25 (0, 0))) := balloc (Below.refl _ _)
  have HN := Lib.hid (h.keep hb0)
  have HN' := Lib.hid (h'.keep hb0)
  have HB := Lib.hid hb0
  have HX := Lib.hid (newS w (.cells #[.slice A S.length c, .slice (some ⟨b', off', none⟩) M.length c'] 25 (0, 0)))
  clear hgp ht hF hd h h' hb0
  go_enter Try.func49, Try.ntmps49
  go_wp2_with fail
  with_reducible refine (copy_n A c S.length S _ HN.out rfl hl0 (by omega)).mono ?_
  rintro e w1 ⟨⟨g, cap, rfl, hg, ho⟩, hb⟩
  rw [World.size_alloc] at hg
  replace HX := Lib.hid ((hb.block _ (ltS HX.out)).trans HX.out)
  replace HN' := Lib.hid (HN'.out.keep hb)
  replace HB := Lib.hid (bkeep2 HB.out hb)
  have HO := Lib.hid ho
  have hw1 := HB.out.size
  clear hb ho HN
  go_wp2_with fail
  go_loopw [3, 11] (fun r i wr => ∃ (r' i' : Int) (t' : List Nat) (O : List Int), r = .int .i64 r' ∧ i = .int .i64 i' ∧ Rem S.length d i' t' ∧ goL M t' O r' = F ∧ GP M O ∧ (0 ≤ r' ∧ r' ≤ 1000) ∧ (-1 ≤ i' ∧ i' ≤ S.length) ∧ OB wr g cap O ∧ w1.grownBy wr (some g)) (fun _ i _ => (if d = 1 then (S.length : Int) - intOf i else intOf i + 1).toNat)
  case atStart => exact ⟨n, i, t, S, rfl, rfl, HT.out, HF.out, HG.out, ⟨hn0, hn1⟩, ⟨hi0, hi1⟩, HO.out, greflP _ _⟩
  case round =>
    obtain ⟨r', i', t', O, rfl, rfl, hrem, hfin, hgp, ⟨hr0, hr1⟩, ⟨hj0, hj1⟩, ho, hgr⟩ := hrel
    have hlO : O.length = S.length := by have := hgp.1; have := HLM.out; omega
    have hpc := (hgr.block w.heap.size (ltS HX.out) (fun e => absurd (Option.some.inj e) (by omega))).trans HX.out
    have k1 : wr.cell? ⟨w.heap.size, 1, none⟩ = some (.slice (some ⟨b', off', none⟩) M.length c') := (cellS hpc 1).trans rfl
    have HO' := Lib.hid ho
    have HGR := Lib.hid hgr
    have HGP := Lib.hid hgp
    have HFI := Lib.hid hfin
    have HPC := Lib.hid hpc
    clear hpc ho hgr hgp hfin HO HG HT HF
    match t', hrem with
    | [], hrem =>
      have hfe : (O, r') = F := HFI.out
      have hno : ¬ (0 ≤ i' ∧ i' < S.length) := hrem
      have HB2 := Lib.hid (below_gP HB.out HGR.out (by omega))
      clear hrem
      by_cases h0 : i' ≥ 0
      · have h1 : ¬ i' < S.length := by omega
        clear hno
        go_wp2
        go_ret2
        exact ⟨⟨g, cap, by rw [← hfe]; rfl, by omega, by rw [← hfe]; exact HO'.out⟩, HB2.out⟩
      · clear hno
        go_wp2
        go_ret2
        exact ⟨⟨g, cap, by rw [← hfe]; rfl, by omega, by rw [← hfe]; exact HO'.out⟩, HB2.out⟩
    | k :: t2, hrem =>
      obtain ⟨rfl, hk, hrem2⟩ := hrem
      have hk0 : (k : Int) ≥ 0 := by omega
      have hkd : (k : Int) < S.length := by omega
      by_cases hpos : r' > 0
      rotate_left
      · have hr' : r' = 0 := by omega
        have hfe : (O, r') = F := by have := HFI.out; rw [hr', goL_zero _ HGP.out] at this; rw [hr']; exact this
        have HB2 := Lib.hid (below_gP HB.out HGR.out (by omega))
        clear hrem2 hr'
        go_wp2
        go_ret2
        exact ⟨⟨g, cap, by rw [← hfe]; rfl, by omega, by rw [← hfe]; exact HO'.out⟩, HB2.out⟩
      have hd1' : decide ((k : Int) < (S.length : Int)) = true := by simpa using hk
      have hd2' : decide ((k : Int) < (M.length : Int)) = true := by rw [HLM.out]; simpa using hk
      have hkO : k < O.length := by omega
      have hkM : k < M.length := by have := HLM.out; omega
      obtain ⟨b2, off2, hA', hb', hp'⟩ := HN'.out.cells (by have := HLM.out; omega)
      cases hA'
      have hne' : b' ≠ g := by omega
      have e1 : O[k]? = some O[k] := List.getElem?_eq_getElem hkO
      have e2 : M[k]? = some M[k] := List.getElem?_eq_getElem hkM
      have d1 := gapD e1
      have d2 := gapD e2
      obtain ⟨b1, b2, b3⟩ := HGP.out.2 k _ _ e1 e2
      have c1 := HO'.out.cell e1
      have c2 := cellOf (p := ⟨b', off' + k, none⟩) HGR.out hb' hne' (hp' k _ e2)
      generalize O[k] = o at *
      generalize M[k] = m at *
      have hgap : gapI M O k = o - m := by rw [gapI, d1, d2]
      have hstep : goL M t2 (O.set k (o - mn r' (o - m))) (r' - mn r' (o - m)) = F := by have := HFI.out; rw [goL, hgap, d1] at this; exact this
      have hmn := mn_spec r' (o - m)
      have hgs := HGP.out.step k (k := mn r' (o - m)) (by omega) (by rw [hgap]; omega)
      rw [d1] at hgs
      obtain ⟨x, hx⟩ : ∃ x, mn r' (o - m) = x := ⟨_, rfl⟩
      have hx0 : 0 ≤ x := by omega
      have hx1 : x ≤ r' := by omega
      have hx2 : x ≤ o - m := by omega
      have wo : IntKind.i64.wrap (o - m) = o - m := IntWalk.i64_in _ (by omega)
      rw [hx] at hstep hgs
      have HGS := Lib.hid hgs
      have HST := Lib.hid hstep
      have HRM := Lib.hid hrem2
      clear hgs hstep hmn hgap e1 e2 d1 d2 HFI hrem2 hp'
      go_wp2_with fail
      refine wp_region_grow 13 0 (· < 13) (by kernel_rfl) (by kernel_rfl) rfl ?_
      iterate 13 (refine wpG_step (fun K hK => ?_); first | (refine grow_skip rfl ?_; go_simp; refine hK _ ?_; clear hK K) | (apply Exists.intro; refine ⟨.inl ⟨rfl, fun w' hw' => ?_⟩, ?_⟩; (focus ((obtain ⟨hc, hf⟩ := bcell hw'.out); (have hcS := bcellS hw'.out); go_simp <;> first | rfl | fail)); (go_simp; refine hK _ ?_; clear hK K)))
      refine wpG_nil ?_
      refine wpK_tail (by kernel_rfl) (fun w9 hg9 => ?_)
      have hb9 := bdrewn hg9.out
      refine wpAny_end (by kernel_rfl) ?_
      refine NoPan.thn ?_
      clear hg9
      have HO9 := Lib.hid (HO'.out.keep hb9)
      have HG9 := Lib.hid (gkeepP HGR.out hb9)
      have c19 := (hb9.cell (p := ⟨g, k, none⟩) HO'.out.lt).trans c1
      have f9 := HO9.out.frozen k
      have HOS := Lib.hid (HO9.out.set k (o - x) hkO)
      have HGS2 := Lib.hid (gsetP HG9.out k (.int .i64 (o - x)))
      clear hb9 k1 c1 c2 HO' HGR HGP
      go_wp2
      go_roundw
      case rel => exact ⟨r' - x, k + d, t2, O.set k (o - x), by go_num, by go_num, HRM.out, HST.out, HGS.out, ⟨by omega, by omega⟩, ⟨by omega, by omega⟩, HOS.out, HGS2.out⟩
      case measure =>
        rcases HD.out with rfl | rfl
        · simp [intOf]; omega
        · simp [intOf]; omega
end Go.Proofs.Ytpbfbcdidkbjiac
end
section
namespace Go.Proofs.Ytpbfbcdidkbjiac
open Go.RowKit
set_option linter.unusedVariables false
set_option maxHeartbeats 1000000
attribute [local go_sem 5000] run_mx run_mn
attribute [local go_sem] growUpon_value growUpon_skip growUpon_enter
theorem HN0M {w1 : World} {g j : Nat} {x : Value} {A' : Option Addr} {M : List Int} {N0 : Nat} (h : NV w1 A' M) (hn : ∀ a, A' = some a → a.block < N0) (hg : N0 ≤ g) : NV (w1.setCell ⟨g, j, none⟩ x) A' M :=
  ⟨fun h0 => let ⟨b, off, e, hl, hp⟩ := h.cells h0; ⟨b, off, e, by simpa [World.setCell] using hl, fun i y hy => (World.cell?_of_block (Below.heap_setCell w1 ⟨g, j, none⟩ x b (by have := hn _ e; show b ≠ g; simp at this; omega))).trans (hp i y hy)⟩⟩
theorem nv_old {w : World} {A : Option Addr} {L : List Int} (h : NV w A L) (h0 : 0 < L.length) : ∀ a, A = some a → a.block < w.heap.size := fun a ha => by
  obtain ⟨b, off, e, hl, _⟩ := h.cells h0
  rw [e] at ha
  cases ha
  exact hl
set_option maxRecDepth 100000 in
theorem dragged_v (A A' : Option Addr) (c c' : Nat) (S M : List Int) (k : Nat) (y : Int) (w : World) (h : NV w A S) (h' : NV w A' M) (hv : pnP S M) (hk : k + 1 < S.length) (hy : -400 ≤ y ∧ y ≤ 400) :
    Calls Try.prog 40 #[.agg #[.slice A S.length c, .slice A' M.length c'], .int .i64 (k : Int), .int .i64 y] w fun e w' => (∃ v1 v2, e = .returned (.agg #[v1, v2]) ∧ OS w.heap.size w' v1 (dragM S M k y) ∧ OS w.heap.size w' v2 M) ∧ Below w.heap.size w w' := by
  obtain ⟨hy1, hy2⟩ := hy
  have hl := hv.six
  have HLM := Lib.hid hv.len
  have hgp := GP.of hv
  have hnb := nv_old h' (by have := hv.len; omega)
  clear hv
  by_cases hneg : y < 0
  · have hge : ¬ y ≥ 0 := by omega
    rw [dragM_neg hneg]
    have hrem : Rem S.length (-1) (k : Int) (downs (k + 1)) := by
      have h := rem_bwd S.length (k + 1) (by omega)
      have e : ((k + 1 : Nat) : Int) - 1 = (k : Int) := by omega
      rw [e] at h
      exact h
    have hs := goL_spec (downs (k + 1)) hgp (r := -y) (by omega) hrem.lt
    have HTK := Lib.hid (fun (w1 : World) (h1 : NV w1 A S) (h2 : NV w1 A' M) => taken_v A A' c c' S M (-y) (k : Int) (-1) (downs (k + 1)) w1 h1 h2 hgp (by omega) hl (by omega) hrem (by omega) (by omega) (by omega) (by omega))
    have hlR : (goL M (downs (k + 1)) S (-y)).1.length = S.length := by rw [hs.gp.1, HLM.out]
    obtain ⟨F, hF⟩ : ∃ F, goL M (downs (k + 1)) S (-y) = F := ⟨_, rfl⟩
    rw [hF] at HTK hs hlR ⊢
    have hj : (k + 1) < F.1.length := by omega
    have e1 : F.1[(k + 1)]? = some F.1[(k + 1)] := List.getElem?_eq_getElem hj
    have d1 := gapD e1
    have hbd := hs.gp.gap (k + 1)
    have hlo := hs.lo
    have hhi := hs.hi
    generalize F.1[(k + 1)] = o at *
    rw [d1] at hbd ⊢
    have HE := Lib.hid e1
    have HV := Lib.hid (show o + (-y - F.2) = o - y - F.2 by omega)
    rw [HV.out]
    have HLR := Lib.hid hlR
    clear hF hs hrem hgp e1 d1 hlR
    go_enter Try.func40, Try.ntmps40
    go_upto_region 1 with (fail)
    refine wp_P (fun W => W.heap[w.heap.size]? = some (.cells #[.slice A S.length c, .slice A' M.length c'] 25 (0, 0)) ∧ W.heap[w.heap.size + 1]? = some (.cells #[.slice none 0 0, .slice none 0 0] 25 (0, 0)) ∧ NV W A S ∧ NV W A' M ∧ Below w.heap.size w W) ⟨oldP _ _ _, newP _ _ _, h.keep (balloc (balloc (Below.refl _ _))), h'.keep (balloc (balloc (Below.refl _ _))), balloc (balloc (Below.refl _ _))⟩ ?_
    clear h h'
    rintro w00 ⟨hx, hz, hn, hn', hB⟩
    have hl0 := ltS hz
    have kz : w.heap.size < w00.heap.size := by omega
    have kn : ¬ w.heap.size = w00.heap.size := by omega
    have HX := Lib.hid ((Below.heap_alloc w00 (.cells #[] 3 (0, 0)) _ (by omega)).trans hx)
    have HZ := Lib.hid ((Below.heap_alloc w00 (.cells #[] 3 (0, 0)) _ hl0).trans hz)
    have HN := Lib.hid (hn.keep (balloc (o := .cells #[] 3 (0, 0)) (Below.refl _ _)))
    have HN' := Lib.hid (hn'.keep (balloc (o := .cells #[] 3 (0, 0)) (Below.refl _ _)))
    have HB := Lib.hid (balloc (o := .cells #[] 3 (0, 0)) hB)
    obtain ⟨c0, c1⟩ := c2P hx
    clear hx hz hn hn' hB
    go_wp2_with fail
    with_reducible refine (HTK.out _ HN.out HN'.out).mono ?_
    rintro e w1 ⟨⟨g, cap, rfl, hg, ho⟩, hb⟩
    rw [World.size_alloc] at hg
    clear c0 c1
    replace HX := Lib.hid ((hb.block _ (ltS HX.out)).trans HX.out)
    replace HZ := Lib.hid ((hb.block _ (ltS HZ.out)).trans HZ.out)
    replace HN' := Lib.hid (HN'.out.keep hb)
    replace HB := Lib.hid (bkeep2 HB.out hb)
    clear hb HN HTK
    have kx := ho.cell HE.out
    have fx := ho.frozen (k + 1)
    obtain ⟨c0, c1⟩ := c2P HX.out
    have HS := Lib.hid (ho.set (k + 1) (o - y - F.2) hj)
    replace HX := Lib.hid ((Below.heap_setCell w1 ⟨g, (k + 1), none⟩ (.int .i64 (o - y - F.2)) _ (by show w.heap.size ≠ g; omega)).trans HX.out)
    replace HZ := Lib.hid ((Below.heap_setCell w1 ⟨g, (k + 1), none⟩ (.int .i64 (o - y - F.2)) _ (by show w.heap.size + 1 ≠ g; omega)).trans HZ.out)
    replace HB := Lib.hid (HB.out.setCell (p := ⟨g, (k + 1), none⟩) (by show w.heap.size ≤ g; omega) (.int .i64 (o - y - F.2)))
    have hdk : (((k + 1) : Nat) : Int) < (S.length : Int) := by omega
    have hdk2 : ¬ (((k + 1) : Nat) : Int) < 0 := by omega
    have HNM := HN0M (w1 := w1) (g := g) (j := (k + 1)) (x := .int .i64 (o - y - F.2)) HN'.out hnb (by omega)
    clear ho
    go_wp2_with fail
    with_reducible refine (copy_n A' c' M.length M _ HNM rfl (by have := HLM.out; omega) (by have := HLM.out; omega)).mono ?_
    rintro e w3 ⟨⟨g3, cap3, rfl, hg3, ho3⟩, hb⟩
    clear kx fx c0 c1
    have hgs : g < (w1.setCell ⟨g, (k + 1), none⟩ (.int .i64 (o - y - F.2))).heap.size := HS.out.lt
    replace HZ := Lib.hid ((hb.block _ (ltS HZ.out)).trans HZ.out)
    replace HS := Lib.hid (HS.out.keep hb)
    replace HB := Lib.hid (bkeep2 HB.out hb)
    have HO3 := Lib.hid ho3
    clear hb ho3 HNM HN' HX
    obtain ⟨d0, d1⟩ := c2P HZ.out
    obtain ⟨g0, g1⟩ := f2P HZ.out
    go_wp2
    refine bpP (fun W => W.heap[w.heap.size + 1]? = some (.cells #[.slice (some ⟨g, 0, none⟩) S.length cap, .slice (some ⟨g3, 0, none⟩) M.length cap3] 25 (0, 0)) ∧ OB W g cap (F.1.set (k + 1) (o - y - F.2)) ∧ OB W g3 cap3 M ∧ Below w.heap.size w W) ⟨put2P HZ.out _ _, HS.out.sameh (put2o (by omega) _ _), HO3.out.sameh (put2o (by omega) _ _), put2B HB.out (by omega) _ _⟩ ?_
    clear HZ HB d0 d1 g0 g1 HS HO3
    rintro W ⟨hz, o1, o2, hB⟩
    obtain ⟨d0, d1⟩ := c2P hz
    exact bodyPost_ret (v := .agg #[.slice (some ⟨g, 0, none⟩) S.length cap, .slice (some ⟨g3, 0, none⟩) M.length cap3]) (by simp only [results, Try.results40]; go_simp) rfl ⟨⟨_, _, rfl, ⟨g, cap, by rw [List.length_set, HLR.out], by omega, o1⟩, ⟨g3, cap3, rfl, by omega, o2⟩⟩, hB⟩
  · have hge : y ≥ 0 := by omega
    rw [dragM_pos hneg]
    have hrem : Rem S.length 1 ((k : Int) + 1) (List.range' (k + 1) (S.length - (k + 1))) := by
      have h := rem_fwd S.length (S.length - (k + 1)) (k + 1) (by omega)
      simpa using h
    have hs := goL_spec (List.range' (k + 1) (S.length - (k + 1))) hgp (r := y) (by omega) hrem.lt
    have HTK := Lib.hid (fun (w1 : World) (h1 : NV w1 A S) (h2 : NV w1 A' M) => taken_v A A' c c' S M (y) ((k : Int) + 1) 1 (List.range' (k + 1) (S.length - (k + 1))) w1 h1 h2 hgp (by omega) hl (by omega) hrem (by omega) (by omega) (by omega) (by omega))
    have hlR : (goL M (List.range' (k + 1) (S.length - (k + 1))) S (y)).1.length = S.length := by rw [hs.gp.1, HLM.out]
    obtain ⟨F, hF⟩ : ∃ F, goL M (List.range' (k + 1) (S.length - (k + 1))) S (y) = F := ⟨_, rfl⟩
    rw [hF] at HTK hs hlR ⊢
    have hj : k < F.1.length := by omega
    have e1 : F.1[k]? = some F.1[k] := List.getElem?_eq_getElem hj
    have d1 := gapD e1
    have hbd := hs.gp.gap k
    have hlo := hs.lo
    have hhi := hs.hi
    generalize F.1[k] = o at *
    rw [d1] at hbd ⊢
    have HE := Lib.hid e1
    have HV := Lib.hid (show o + (y - F.2) = o + y - F.2 by omega)
    rw [HV.out]
    have HLR := Lib.hid hlR
    clear hF hs hrem hgp e1 d1 hlR
    go_enter Try.func40, Try.ntmps40
    go_upto_region 1 with (fail)
    refine wp_P (fun W => W.heap[w.heap.size]? = some (.cells #[.slice A S.length c, .slice A' M.length c'] 25 (0, 0)) ∧ W.heap[w.heap.size + 1]? = some (.cells #[.slice none 0 0, .slice none 0 0] 25 (0, 0)) ∧ NV W A S ∧ NV W A' M ∧ Below w.heap.size w W) ⟨oldP _ _ _, newP _ _ _, h.keep (balloc (balloc (Below.refl _ _))), h'.keep (balloc (balloc (Below.refl _ _))), balloc (balloc (Below.refl _ _))⟩ ?_
    clear h h'
    rintro w00 ⟨hx, hz, hn, hn', hB⟩
    have hl0 := ltS hz
    have kz : w.heap.size < w00.heap.size := by omega
    have kn : ¬ w.heap.size = w00.heap.size := by omega
    have HX := Lib.hid ((Below.heap_alloc w00 (.cells #[] 3 (0, 0)) _ (by omega)).trans hx)
    have HZ := Lib.hid ((Below.heap_alloc w00 (.cells #[] 3 (0, 0)) _ hl0).trans hz)
    have HN := Lib.hid (hn.keep (balloc (o := .cells #[] 3 (0, 0)) (Below.refl _ _)))
    have HN' := Lib.hid (hn'.keep (balloc (o := .cells #[] 3 (0, 0)) (Below.refl _ _)))
    have HB := Lib.hid (balloc (o := .cells #[] 3 (0, 0)) hB)
    obtain ⟨c0, c1⟩ := c2P hx
    clear hx hz hn hn' hB
    go_wp2_with fail
    with_reducible refine (HTK.out _ HN.out HN'.out).mono ?_
    rintro e w1 ⟨⟨g, cap, rfl, hg, ho⟩, hb⟩
    rw [World.size_alloc] at hg
    clear c0 c1
    replace HX := Lib.hid ((hb.block _ (ltS HX.out)).trans HX.out)
    replace HZ := Lib.hid ((hb.block _ (ltS HZ.out)).trans HZ.out)
    replace HN' := Lib.hid (HN'.out.keep hb)
    replace HB := Lib.hid (bkeep2 HB.out hb)
    clear hb HN HTK
    have kx := ho.cell HE.out
    have fx := ho.frozen k
    obtain ⟨c0, c1⟩ := c2P HX.out
    have HS := Lib.hid (ho.set k (o + y - F.2) hj)
    replace HX := Lib.hid ((Below.heap_setCell w1 ⟨g, k, none⟩ (.int .i64 (o + y - F.2)) _ (by show w.heap.size ≠ g; omega)).trans HX.out)
    replace HZ := Lib.hid ((Below.heap_setCell w1 ⟨g, k, none⟩ (.int .i64 (o + y - F.2)) _ (by show w.heap.size + 1 ≠ g; omega)).trans HZ.out)
    replace HB := Lib.hid (HB.out.setCell (p := ⟨g, k, none⟩) (by show w.heap.size ≤ g; omega) (.int .i64 (o + y - F.2)))
    have hdk : ((k : Nat) : Int) < (S.length : Int) := by omega
    have hdk2 : ¬ ((k : Nat) : Int) < 0 := by omega
    have HNM := HN0M (w1 := w1) (g := g) (j := k) (x := .int .i64 (o + y - F.2)) HN'.out hnb (by omega)
    clear ho
    go_wp2_with fail
    with_reducible refine (copy_n A' c' M.length M _ HNM rfl (by have := HLM.out; omega) (by have := HLM.out; omega)).mono ?_
    rintro e w3 ⟨⟨g3, cap3, rfl, hg3, ho3⟩, hb⟩
    clear kx fx c0 c1
    have hgs : g < (w1.setCell ⟨g, k, none⟩ (.int .i64 (o + y - F.2))).heap.size := HS.out.lt
    replace HZ := Lib.hid ((hb.block _ (ltS HZ.out)).trans HZ.out)
    replace HS := Lib.hid (HS.out.keep hb)
    replace HB := Lib.hid (bkeep2 HB.out hb)
    have HO3 := Lib.hid ho3
    clear hb ho3 HNM HN' HX
    obtain ⟨d0, d1⟩ := c2P HZ.out
    obtain ⟨g0, g1⟩ := f2P HZ.out
    go_wp2
    refine bpP (fun W => W.heap[w.heap.size + 1]? = some (.cells #[.slice (some ⟨g, 0, none⟩) S.length cap, .slice (some ⟨g3, 0, none⟩) M.length cap3] 25 (0, 0)) ∧ OB W g cap (F.1.set k (o + y - F.2)) ∧ OB W g3 cap3 M ∧ Below w.heap.size w W) ⟨put2P HZ.out _ _, HS.out.sameh (put2o (by omega) _ _), HO3.out.sameh (put2o (by omega) _ _), put2B HB.out (by omega) _ _⟩ ?_
    clear HZ HB d0 d1 g0 g1 HS HO3
    rintro W ⟨hz, o1, o2, hB⟩
    obtain ⟨d0, d1⟩ := c2P hz
    exact bodyPost_ret (v := .agg #[.slice (some ⟨g, 0, none⟩) S.length cap, .slice (some ⟨g3, 0, none⟩) M.length cap3]) (by simp only [results, Try.results40]; go_simp) rfl ⟨⟨_, _, rfl, ⟨g, cap, by rw [List.length_set, HLR.out], by omega, o1⟩, ⟨g3, cap3, rfl, by omega, o2⟩⟩, hB⟩
set_option maxRecDepth 100000 in
theorem sDragSash_no (A A' : Option Addr) (c c' : Nat) (S M : List Int) (i y : Int) (w : World) (h : NV w A S) (h' : NV w A' M) (hm : M.length ≤ 1048576) (hL : S.length ≤ 1048576) (hv : ¬ pnP S M ∨ (pnP S M ∧ rng i 0 ((S.length : Int) - 2) = false) ∨ (pnP S M ∧ rng i 0 ((S.length : Int) - 2) = true ∧ rng y (-400) 400 = false)) : Calls Try.prog 16 #[.agg #[.slice A S.length c, .slice A' M.length c'], .int .i64 i, .int .i64 y] w fun e w' => e = .returned (.agg #[.slice none 0 0, .slice none 0 0]) ∧ Below w.heap.size w w' := by
  rcases hv with hv | ⟨hv, hi⟩ | ⟨hv, hi, hy⟩
  · go_enter Try.func16, Try.ntmps16
    go_upto_region 1 with (fail)
    refine wp_P (fun W => W.heap[w.heap.size]? = some (.cells #[.slice A S.length c, .slice A' M.length c'] 25 (0, 0)) ∧ W.heap[w.heap.size + 1]? = some (.cells #[.slice none 0 0, .slice none 0 0] 25 (0, 0)) ∧ NV W A S ∧ NV W A' M ∧ Below w.heap.size w W) ⟨oldP _ _ _, newP _ _ _, h.keep (balloc (balloc (Below.refl _ _))), h'.keep (balloc (balloc (Below.refl _ _))), balloc (balloc (Below.refl _ _))⟩ ?_
    clear h h'
    rintro w0 ⟨hx, hz, hn, hn', hB⟩
    have HX := Lib.hid hx
    have HZ := Lib.hid hz
    have HN := Lib.hid hn
    have HN' := Lib.hid hn'
    have HB := Lib.hid hB
    obtain ⟨c0, c1⟩ := c2P hx
    obtain ⟨d0, d1⟩ := c2P hz
    obtain ⟨g0, g1⟩ := f2P hz
    clear hx hz hn hn' hB
    go_wp2_with fail
    with_reducible refine (svalidPanes_v _ _ _ _ _ _ S M false _ HN.out HN'.out rfl rfl hL hm (by simp [hv])).mono ?_
    rintro e w1 ⟨rfl, hb⟩
    clear c0 c1 d0 d1 g0 g1
    replace HX := Lib.hid ((hb.block _ (ltS HX.out)).trans HX.out)
    replace HZ := Lib.hid ((hb.block _ (ltS HZ.out)).trans HZ.out)
    replace HN := Lib.hid (HN.out.keep hb)
    replace HN' := Lib.hid (HN'.out.keep hb)
    replace HB := Lib.hid (bkeep2 HB.out hb)
    clear hb
    obtain ⟨c0, c1⟩ := c2P HX.out
    obtain ⟨d0, d1⟩ := c2P HZ.out
    obtain ⟨g0, g1⟩ := f2P HZ.out
    go_wp2
    refine bpP (fun W => W.heap[w.heap.size + 1]? = some (.cells #[.slice none 0 0, .slice none 0 0] 25 (0, 0)) ∧ Below w.heap.size w W) ⟨put2P HZ.out _ _, put2B HB.out (by omega) _ _⟩ ?_
    clear HX HZ HB HN HN' c0 c1 d0 d1 g0 g1
    rintro W ⟨hz, hB⟩
    obtain ⟨d0, d1⟩ := c2P hz
    exact bodyPost_ret (v := .agg #[.slice none 0 0, .slice none 0 0]) (by simp only [results, Try.results16]; go_simp) rfl ⟨rfl, hB⟩
  · go_enter Try.func16, Try.ntmps16
    go_upto_region 1 with (fail)
    refine wp_P (fun W => W.heap[w.heap.size]? = some (.cells #[.slice A S.length c, .slice A' M.length c'] 25 (0, 0)) ∧ W.heap[w.heap.size + 1]? = some (.cells #[.slice none 0 0, .slice none 0 0] 25 (0, 0)) ∧ NV W A S ∧ NV W A' M ∧ Below w.heap.size w W) ⟨oldP _ _ _, newP _ _ _, h.keep (balloc (balloc (Below.refl _ _))), h'.keep (balloc (balloc (Below.refl _ _))), balloc (balloc (Below.refl _ _))⟩ ?_
    clear h h'
    rintro w0 ⟨hx, hz, hn, hn', hB⟩
    have HX := Lib.hid hx
    have HZ := Lib.hid hz
    have HN := Lib.hid hn
    have HN' := Lib.hid hn'
    have HB := Lib.hid hB
    obtain ⟨c0, c1⟩ := c2P hx
    obtain ⟨d0, d1⟩ := c2P hz
    obtain ⟨g0, g1⟩ := f2P hz
    clear hx hz hn hn' hB
    go_wp2_with fail
    with_reducible refine (svalidPanes_v _ _ _ _ _ _ S M true _ HN.out HN'.out rfl rfl hL hm (by simp [hv])).mono ?_
    rintro e w1 ⟨rfl, hb⟩
    clear c0 c1 d0 d1 g0 g1
    replace HX := Lib.hid ((hb.block _ (ltS HX.out)).trans HX.out)
    replace HZ := Lib.hid ((hb.block _ (ltS HZ.out)).trans HZ.out)
    replace HN := Lib.hid (HN.out.keep hb)
    replace HN' := Lib.hid (HN'.out.keep hb)
    replace HB := Lib.hid (bkeep2 HB.out hb)
    clear hb
    obtain ⟨c0, c1⟩ := c2P HX.out
    obtain ⟨d0, d1⟩ := c2P HZ.out
    obtain ⟨g0, g1⟩ := f2P HZ.out
    go_wp2_with fail
    with_reducible refine (inRange_PB _ _ _ false _ hi).mono ?_
    rintro e w1 ⟨rfl, hb⟩
    clear c0 c1 d0 d1 g0 g1
    replace HX := Lib.hid ((hb.block _ (ltS HX.out)).trans HX.out)
    replace HZ := Lib.hid ((hb.block _ (ltS HZ.out)).trans HZ.out)
    replace HN := Lib.hid (HN.out.keep hb)
    replace HN' := Lib.hid (HN'.out.keep hb)
    replace HB := Lib.hid (bkeep2 HB.out hb)
    clear hb
    obtain ⟨c0, c1⟩ := c2P HX.out
    obtain ⟨d0, d1⟩ := c2P HZ.out
    obtain ⟨g0, g1⟩ := f2P HZ.out
    go_wp2
    refine bpP (fun W => W.heap[w.heap.size + 1]? = some (.cells #[.slice none 0 0, .slice none 0 0] 25 (0, 0)) ∧ Below w.heap.size w W) ⟨put2P HZ.out _ _, put2B HB.out (by omega) _ _⟩ ?_
    clear HX HZ HB HN HN' c0 c1 d0 d1 g0 g1
    rintro W ⟨hz, hB⟩
    obtain ⟨d0, d1⟩ := c2P hz
    exact bodyPost_ret (v := .agg #[.slice none 0 0, .slice none 0 0]) (by simp only [results, Try.results16]; go_simp) rfl ⟨rfl, hB⟩
  · go_enter Try.func16, Try.ntmps16
    go_upto_region 1 with (fail)
    refine wp_P (fun W => W.heap[w.heap.size]? = some (.cells #[.slice A S.length c, .slice A' M.length c'] 25 (0, 0)) ∧ W.heap[w.heap.size + 1]? = some (.cells #[.slice none 0 0, .slice none 0 0] 25 (0, 0)) ∧ NV W A S ∧ NV W A' M ∧ Below w.heap.size w W) ⟨oldP _ _ _, newP _ _ _, h.keep (balloc (balloc (Below.refl _ _))), h'.keep (balloc (balloc (Below.refl _ _))), balloc (balloc (Below.refl _ _))⟩ ?_
    clear h h'
    rintro w0 ⟨hx, hz, hn, hn', hB⟩
    have HX := Lib.hid hx
    have HZ := Lib.hid hz
    have HN := Lib.hid hn
    have HN' := Lib.hid hn'
    have HB := Lib.hid hB
    obtain ⟨c0, c1⟩ := c2P hx
    obtain ⟨d0, d1⟩ := c2P hz
    obtain ⟨g0, g1⟩ := f2P hz
    clear hx hz hn hn' hB
    go_wp2_with fail
    with_reducible refine (svalidPanes_v _ _ _ _ _ _ S M true _ HN.out HN'.out rfl rfl hL hm (by simp [hv])).mono ?_
    rintro e w1 ⟨rfl, hb⟩
    clear c0 c1 d0 d1 g0 g1
    replace HX := Lib.hid ((hb.block _ (ltS HX.out)).trans HX.out)
    replace HZ := Lib.hid ((hb.block _ (ltS HZ.out)).trans HZ.out)
    replace HN := Lib.hid (HN.out.keep hb)
    replace HN' := Lib.hid (HN'.out.keep hb)
    replace HB := Lib.hid (bkeep2 HB.out hb)
    clear hb
    obtain ⟨c0, c1⟩ := c2P HX.out
    obtain ⟨d0, d1⟩ := c2P HZ.out
    obtain ⟨g0, g1⟩ := f2P HZ.out
    go_wp2_with fail
    with_reducible refine (inRange_PB _ _ _ true _ hi).mono ?_
    rintro e w1 ⟨rfl, hb⟩
    clear c0 c1 d0 d1 g0 g1
    replace HX := Lib.hid ((hb.block _ (ltS HX.out)).trans HX.out)
    replace HZ := Lib.hid ((hb.block _ (ltS HZ.out)).trans HZ.out)
    replace HN := Lib.hid (HN.out.keep hb)
    replace HN' := Lib.hid (HN'.out.keep hb)
    replace HB := Lib.hid (bkeep2 HB.out hb)
    clear hb
    obtain ⟨c0, c1⟩ := c2P HX.out
    obtain ⟨d0, d1⟩ := c2P HZ.out
    obtain ⟨g0, g1⟩ := f2P HZ.out
    go_wp2_with fail
    with_reducible refine (inRange_PB _ _ _ false _ hy).mono ?_
    rintro e w1 ⟨rfl, hb⟩
    clear c0 c1 d0 d1 g0 g1
    replace HX := Lib.hid ((hb.block _ (ltS HX.out)).trans HX.out)
    replace HZ := Lib.hid ((hb.block _ (ltS HZ.out)).trans HZ.out)
    replace HN := Lib.hid (HN.out.keep hb)
    replace HN' := Lib.hid (HN'.out.keep hb)
    replace HB := Lib.hid (bkeep2 HB.out hb)
    clear hb
    obtain ⟨c0, c1⟩ := c2P HX.out
    obtain ⟨d0, d1⟩ := c2P HZ.out
    obtain ⟨g0, g1⟩ := f2P HZ.out
    go_wp2
    refine bpP (fun W => W.heap[w.heap.size + 1]? = some (.cells #[.slice none 0 0, .slice none 0 0] 25 (0, 0)) ∧ Below w.heap.size w W) ⟨put2P HZ.out _ _, put2B HB.out (by omega) _ _⟩ ?_
    clear HX HZ HB HN HN' c0 c1 d0 d1 g0 g1
    rintro W ⟨hz, hB⟩
    obtain ⟨d0, d1⟩ := c2P hz
    exact bodyPost_ret (v := .agg #[.slice none 0 0, .slice none 0 0]) (by simp only [results, Try.results16]; go_simp) rfl ⟨rfl, hB⟩
set_option maxRecDepth 100000 in
theorem sDragSash_yes (A A' : Option Addr) (c c' : Nat) (S M : List Int) (i y : Int) (w : World) (h : NV w A S) (h' : NV w A' M) (hm : M.length ≤ 1048576) (hL : S.length ≤ 1048576) (hv : pnP S M) (hi : rng i 0 ((S.length : Int) - 2) = true) (hy : rng y (-400) 400 = true) : Calls Try.prog 16 #[.agg #[.slice A S.length c, .slice A' M.length c'], .int .i64 i, .int .i64 y] w fun e w' => (∃ v1 v2, e = .returned (.agg #[v1, v2]) ∧ OS w.heap.size w' v1 (dragM S M i.toNat y) ∧ OS w.heap.size w' v2 M) ∧ Below w.heap.size w w' := by
  obtain ⟨g1, g2⟩ := rng_iff.1 hi
  have hyb := rng_iff.1 hy
  have HP := Lib.hid hv
  obtain ⟨k, rfl⟩ := Int.eq_ofNat_of_zero_le g1
  rw [Int.toNat_natCast]
  have hk : k + 1 < S.length := by omega
  clear g1 g2 hv
  go_enter Try.func16, Try.ntmps16
  go_upto_region 1 with (fail)
  refine wp_P (fun W => W.heap[w.heap.size]? = some (.cells #[.slice A S.length c, .slice A' M.length c'] 25 (0, 0)) ∧ W.heap[w.heap.size + 1]? = some (.cells #[.slice none 0 0, .slice none 0 0] 25 (0, 0)) ∧ NV W A S ∧ NV W A' M ∧ Below w.heap.size w W) ⟨oldP _ _ _, newP _ _ _, h.keep (balloc (balloc (Below.refl _ _))), h'.keep (balloc (balloc (Below.refl _ _))), balloc (balloc (Below.refl _ _))⟩ ?_
  clear h h'
  rintro w0 ⟨hx, hz, hn, hn', hB⟩
  have HX := Lib.hid hx
  have HZ := Lib.hid hz
  have HN := Lib.hid hn
  have HN' := Lib.hid hn'
  have HB := Lib.hid hB
  obtain ⟨c0, c1⟩ := c2P hx
  obtain ⟨d0, d1⟩ := c2P hz
  obtain ⟨g0, g1⟩ := f2P hz
  clear hx hz hn hn' hB
  go_wp2_with fail
  with_reducible refine (svalidPanes_v _ _ _ _ _ _ S M true _ HN.out HN'.out rfl rfl hL hm (by simp [HP.out])).mono ?_
  rintro e w1 ⟨rfl, hb⟩
  clear c0 c1 d0 d1 g0 g1
  replace HX := Lib.hid ((hb.block _ (ltS HX.out)).trans HX.out)
  replace HZ := Lib.hid ((hb.block _ (ltS HZ.out)).trans HZ.out)
  replace HN := Lib.hid (HN.out.keep hb)
  replace HN' := Lib.hid (HN'.out.keep hb)
  replace HB := Lib.hid (bkeep2 HB.out hb)
  clear hb
  obtain ⟨c0, c1⟩ := c2P HX.out
  obtain ⟨d0, d1⟩ := c2P HZ.out
  obtain ⟨g0, g1⟩ := f2P HZ.out
  go_wp2_with fail
  with_reducible refine (inRange_PB _ _ _ true _ hi).mono ?_
  rintro e w1 ⟨rfl, hb⟩
  clear c0 c1 d0 d1 g0 g1
  replace HX := Lib.hid ((hb.block _ (ltS HX.out)).trans HX.out)
  replace HZ := Lib.hid ((hb.block _ (ltS HZ.out)).trans HZ.out)
  replace HN := Lib.hid (HN.out.keep hb)
  replace HN' := Lib.hid (HN'.out.keep hb)
  replace HB := Lib.hid (bkeep2 HB.out hb)
  clear hb
  obtain ⟨c0, c1⟩ := c2P HX.out
  obtain ⟨d0, d1⟩ := c2P HZ.out
  obtain ⟨g0, g1⟩ := f2P HZ.out
  go_wp2_with fail
  with_reducible refine (inRange_PB _ _ _ true _ hy).mono ?_
  rintro e w1 ⟨rfl, hb⟩
  clear c0 c1 d0 d1 g0 g1
  replace HX := Lib.hid ((hb.block _ (ltS HX.out)).trans HX.out)
  replace HZ := Lib.hid ((hb.block _ (ltS HZ.out)).trans HZ.out)
  replace HN := Lib.hid (HN.out.keep hb)
  replace HN' := Lib.hid (HN'.out.keep hb)
  replace HB := Lib.hid (bkeep2 HB.out hb)
  clear hb
  obtain ⟨c0, c1⟩ := c2P HX.out
  obtain ⟨d0, d1⟩ := c2P HZ.out
  obtain ⟨g0, g1⟩ := f2P HZ.out
  go_wp2_with fail
  with_reducible refine (dragged_v A A' c c' S M k y _ HN.out HN'.out HP.out hk hyb).mono ?_
  rintro e w2 ⟨⟨v1, v2, rfl, ⟨b1, q1, rfl, hb1, o1⟩, ⟨b2, q2, rfl, hb2, o2⟩⟩, hb⟩
  have l1 := ltS HZ.out
  clear c0 c1 d0 d1 g0 g1
  replace HZ := Lib.hid ((hb.block _ (ltS HZ.out)).trans HZ.out)
  replace HB := Lib.hid (bkeep2 HB.out hb)
  have HO1 := Lib.hid o1
  have HO2 := Lib.hid o2
  clear hb o1 o2 HN HN' HX
  obtain ⟨d0, d1⟩ := c2P HZ.out
  obtain ⟨g0, g1⟩ := f2P HZ.out
  go_wp2
  refine bpP (fun W => W.heap[w.heap.size + 1]? = some (.cells #[.slice (some ⟨b1, 0, none⟩) (dragM S M k y).length q1, .slice (some ⟨b2, 0, none⟩) M.length q2] 25 (0, 0)) ∧ OB W b1 q1 (dragM S M k y) ∧ OB W b2 q2 M ∧ Below w.heap.size w W) ⟨put2P HZ.out _ _, HO1.out.sameh (put2o (by omega) _ _), HO2.out.sameh (put2o (by omega) _ _), put2B HB.out (by omega) _ _⟩ ?_
  clear HZ HB d0 d1 g0 g1 HO1 HO2
  rintro W ⟨hz, o1, o2, hB⟩
  obtain ⟨d0, d1⟩ := c2P hz
  exact bodyPost_ret (v := .agg #[.slice (some ⟨b1, 0, none⟩) (dragM S M k y).length q1, .slice (some ⟨b2, 0, none⟩) M.length q2]) (by simp only [results, Try.results16]; go_simp) rfl ⟨⟨_, _, rfl, ⟨b1, q1, rfl, by omega, o1⟩, ⟨b2, q2, rfl, by omega, o2⟩⟩, hB⟩
end Go.Proofs.Ytpbfbcdidkbjiac
end
section
namespace Go.Proofs.Ytpbfbcdidkbjiac
set_option linter.unusedVariables false
theorem sumI_nn {L : List Int} (h : ∀ x ∈ L, 0 ≤ x) : 0 ≤ sumI L := by
  induction L with
  | nil => simp [sumI]
  | cons x t ih =>
    have h1 := h x List.mem_cons_self
    have h2 := ih (fun y hy => h y (List.mem_cons_of_mem _ hy))
    simp only [sumI]; omega
theorem lnAt_spec : ∀ (S : List Int) (a p i : Int), (∀ x ∈ S, 0 ≤ x) → (lnAt S a p i = -1 ∧ (p < a ∨ a + sumI S ≤ p)) ∨ ∃ (k : Nat) (s : Int), lnAt S a p i = i + k ∧ S[k]? = some s ∧ a + sumI (S.take k) ≤ p ∧ p < a + sumI (S.take k) + s
  | [], a, p, i, _ => .inl ⟨rfl, by simp [sumI]; omega⟩
  | s :: t, a, p, i, h => by
    have hs := h s List.mem_cons_self
    by_cases hc : a ≤ p ∧ p < a + s
    · right
      exact ⟨0, s, by rw [lnAt, if_pos hc]; simp, rfl, by simp [sumI]; omega, by simp [sumI]; omega⟩
    · rcases lnAt_spec t (a + s) p (i + 1) (fun x hx => h x (List.mem_cons_of_mem _ hx)) with ⟨h1, h2⟩ | ⟨k, s', h1, h2, h3, h4⟩
      · left
        refine ⟨by rw [lnAt, if_neg hc]; exact h1, ?_⟩
        simp only [sumI]
        omega
      · right
        refine ⟨k + 1, s', by rw [lnAt, if_neg hc, h1]; simp; omega, by simpa using h2, ?_, ?_⟩
        · simp only [List.take_succ_cons, sumI]; omega
        · simp only [List.take_succ_cons, sumI]; omega
theorem pane_spec {S M : List Int} (h : pnP S M) (p : Int) : (lineM S p = -1 ∧ (p < 0 ∨ sumI S ≤ p)) ∨ ∃ (k : Nat) (s : Int), lineM S p = k ∧ S[k]? = some s ∧ sumI (S.take k) ≤ p ∧ p < sumI (S.take k) + s := by
  rcases lnAt_spec S 0 p 0 (fun x hx => (h.mem.1 x hx).1) with ⟨h1, h2⟩ | ⟨k, s, h1, h2, h3, h4⟩
  · exact .inl ⟨h1, by omega⟩
  · exact .inr ⟨k, s, by rw [lineM, h1]; omega, h2, by omega, by omega⟩
theorem take_le {S : List Int} (h : ∀ x ∈ S, 0 ≤ x) (j k : Nat) (hjk : j ≤ k) : sumI (S.take j) ≤ sumI (S.take k) := by
  have e : S.take k = S.take j ++ (S.take k).drop j := by
    have := (List.take_append_drop j (S.take k)).symm
    rwa [List.take_take, Nat.min_eq_left hjk] at this
  rw [e, sumI_append]
  have := sumI_nn (L := (S.take k).drop j) (fun x hx => h x (List.mem_of_mem_take (List.mem_of_mem_drop hx)))
  omega
theorem take_all {S : List Int} (h : ∀ x ∈ S, 0 ≤ x) (j : Nat) : 0 ≤ sumI (S.take j) ∧ sumI (S.take j) ≤ sumI S := by
  refine ⟨sumI_nn (fun x hx => h x (List.mem_of_mem_take hx)), ?_⟩
  have := take_le h j (max j S.length) (by omega)
  rwa [List.take_of_length_le (i := max j S.length) (by omega)] at this
end Go.Proofs.Ytpbfbcdidkbjiac
end
